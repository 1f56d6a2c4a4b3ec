package block_test

import (
	"bytes"
	"math"
	"math/rand/v2"
	"slices"
	"testing"

	"castellan/api"
	"castellan/block"
)

// cuts are where a write may be torn, and where it is not.
var cuts = []int{0, 1, 2, 31, 62, 63, 64, 65, -1, -64, math.MaxInt, math.MinInt}

// act is what is done to a store: a block is written, or is freed (nil).
type act struct {
	at    int
	bytes []byte
}

// on does an act to a store.
func (a act) on(d *block.Disk) error {
	if a.bytes == nil {
		return d.Free(a.at)
	}
	return d.Write(a.at, a.bytes)
}

// words is a store as the chapter words it: each answer is looked up in all that was not synced.
type words struct {
	room   int
	synced map[int][]byte
	loose  []act
}

// isTaken is 8.2's words of when a block is taken.
func (w *words) isTaken(at int) bool {
	return w.synced[at] != nil || slices.ContainsFunc(w.loose, func(a act) bool { return a.at == at && a.bytes != nil })
}

// used is how many of the first so many blocks are taken.
func (w *words) used(blocks int) int {
	many := 0
	for at := range blocks {
		if w.isTaken(at) {
			many++
		}
	}
	return many
}

// read is a block as it was written last.
func (w *words) read(at int) []byte {
	for _, a := range slices.Backward(w.loose) {
		if a.at == at {
			return append(slices.Clone(a.bytes), make([]byte, 64-len(a.bytes))...)
		}
	}
	return append(slices.Clone(w.synced[at]), make([]byte, 64-len(w.synced[at]))...)
}

// do has one write done.
func (w *words) do(a act) {
	delete(w.synced, a.at)
	if a.bytes != nil {
		w.synced[a.at] = a.bytes
	}
}

// crash is 8.6's words.
func (w *words) crash(keep []int, cut int) {
	var kept []act
	for i, a := range w.loose {
		if i < len(keep) && keep[i] != 0 {
			kept = append(kept, a)
		}
	}
	w.loose = nil
	for i, a := range kept {
		if i == len(kept)-1 && a.bytes != nil && cut >= 0 && cut <= 63 {
			a.bytes = slices.Concat(a.bytes[:cut], w.read(a.at)[cut:])
		}
		w.do(a)
	}
}

// sync is 8.5's words.
func (w *words) sync() {
	for _, a := range w.loose {
		w.do(a)
	}
	w.loose = nil
}

// both is a store, and what it should be, of so many blocks from 0 on.
type both struct {
	blocks int
	d      *block.Disk
	w      *words
}

func begin(t *testing.T, room, blocks int) both {
	t.Helper()
	return both{blocks, store(t, room), &words{room: room, synced: map[int][]byte{}}}
}

// play does one act to both.
func (x both) play(t *testing.T, a act) {
	t.Helper()
	var want error
	if a.bytes != nil && !x.w.isTaken(a.at) && x.w.used(x.blocks) >= x.w.room {
		want = wrong("block", a.at, api.ErrFull)
	} else {
		x.w.loose = append(x.w.loose, a)
	}
	if err := a.on(x.d); err != want {
		t.Fatalf("%v: %#v, not %#v", a, err, want)
	}
}

// agree holds all that a store tells against what it should.
func (x both) agree(t *testing.T) {
	t.Helper()
	counts(t, x.d, x.w.used(x.blocks), len(x.w.loose))
	var want []api.Cell
	for at := range x.blocks {
		reads(t, x.d, at, x.w.read(at))
		if b := x.w.synced[at]; b != nil {
			want = append(want, api.Cell{At: at, Bytes: b})
		}
	}
	cells(t, x.d, want...)
	if x.d.Room() != x.w.room {
		t.Errorf("room for %d, not %d", x.d.Room(), x.w.room)
	}
}

// lists calls f with every list of so many numbers below top.
func lists(many, top int, f func(l []int)) {
	l := make([]int, many)
	for {
		f(l)
		i := 0
		for i < many && l[i] == top-1 {
			l[i] = 0
			i++
		}
		if i == many {
			return
		}
		l[i]++
	}
}

// TestCrashAll: 8.2 to 8.7, every four acts on two blocks behind one that is synced, and every crash behind them.
func TestCrashAll(t *testing.T) {
	acts := []act{{0, filled(2)}, {0, filled(3)}, {1, filled(4)}, {0, nil}, {1, nil}}
	for _, room := range []int{1, 2} {
		lists(4, len(acts), func(which []int) {
			lists(4, 2, func(keep []int) {
				for _, cut := range []int{-1, 0, 1, 63, 64} {
					x := begin(t, room, 3)
					x.play(t, act{0, filled(1)})
					x.d.Sync()
					x.w.sync()
					for _, i := range which {
						x.play(t, acts[i])
					}
					x.d.Crash(keep, cut)
					x.w.crash(keep, cut)
					x.agree(t)
					if t.Failed() {
						t.Fatalf("room %d, acts %v, keep %v, cut %d", room, which, keep, cut)
					}
				}
			})
		})
	}
}

// TestCrashCut: 8.6, every place at which the last write that is kept is torn, over a block that was synced, and over one that was free.
func TestCrashCut(t *testing.T) {
	for cut := range 64 {
		d := store(t, 2)
		write(t, d, 1, filled(1)...)
		d.Sync()
		write(t, d, 1, filled(2)...)
		d.Crash([]int{1}, cut)
		write(t, d, 2, filled(3)...)
		d.Crash([]int{1}, cut)
		over := append(filled(2)[:cut], filled(1)[cut:]...)
		cells(t, d, api.Cell{At: 1, Bytes: over}, api.Cell{At: 2, Bytes: padded(filled(3)[:cut]...)})
		counts(t, d, 2, 0)
	}
	for _, cut := range []int{64, 65, 128, 1 << 32, math.MaxInt, -1, -2, -64, math.MinInt} {
		d := store(t, 1)
		write(t, d, 1, filled(2)...)
		d.Crash([]int{1}, cut)
		cells(t, d, api.Cell{At: 1, Bytes: filled(2)})
	}
}

// TestCrashKeep: 8.6, which writes are kept: those whose number is there, and not 0, whatever it is.
func TestCrashKeep(t *testing.T) {
	for _, c := range []struct {
		keep []int
		want []int
	}{
		{nil, nil},
		{[]int{}, nil},
		{[]int{0, 0, 0, 0}, nil},
		{[]int{1}, []int{1}},
		{[]int{0, 1}, []int{2}},
		{[]int{0, 0, 0, 1}, []int{4}},
		{[]int{0, 0, 0, 0, 1, 1}, nil},
		{[]int{1, 0, 1}, []int{1, 3}},
		{[]int{2, -1, math.MinInt, math.MaxInt}, []int{1, 2, 3, 4}},
		{[]int{1, 1, 1, 1, 1, 0, 1}, []int{1, 2, 3, 4}},
		{[]int{1 << 32, 0, 256, 0, 1}, []int{1, 3}},
	} {
		d := store(t, 4)
		for at := 1; at <= 4; at++ {
			write(t, d, at, byte(at))
		}
		d.Crash(c.keep, 64)
		var want []api.Cell
		for _, at := range c.want {
			want = append(want, api.Cell{At: at, Bytes: padded(byte(at))})
		}
		cells(t, d, want...)
		counts(t, d, len(want), 0)
	}
}

// TestCrashOver: 8.6, what the last write that is kept is torn over: what those that are kept ahead of it leave, not those that are lost.
func TestCrashOver(t *testing.T) {
	one, two, three, gone := act{1, filled(1)}, act{1, filled(2)}, act{1, filled(3)}, act{1, nil}
	for name, c := range map[string]struct {
		acts []act
		keep []int
		want []byte
	}{
		"over what is synced":             {[]act{two}, []int{1}, append(filled(2)[:9], filled(1)[9:]...)},
		"over one that is kept":           {[]act{two, three}, []int{1, 1}, append(filled(3)[:9], filled(2)[9:]...)},
		"over one that is lost":           {[]act{two, three}, []int{0, 1}, append(filled(3)[:9], filled(1)[9:]...)},
		"ahead of one that is lost":       {[]act{two, three}, []int{1, 0}, append(filled(2)[:9], filled(1)[9:]...)},
		"over a freeing that is kept":     {[]act{gone, three}, []int{1, 1}, padded(filled(3)[:9]...)},
		"over a freeing that is lost":     {[]act{gone, three}, []int{0, 1}, append(filled(3)[:9], filled(1)[9:]...)},
		"ahead of another that is kept":   {[]act{two, {2, filled(4)}}, []int{1, 1}, filled(2)},
		"ahead of another that is freed":  {[]act{two, {2, nil}}, []int{1, 1}, filled(2)},
		"freed and written, both lost":    {[]act{gone, three}, []int{0, 0}, filled(1)},
		"behind others, over what it had": {[]act{{2, filled(4)}, one, two}, []int{1, 0, 1}, append(filled(2)[:9], filled(1)[9:]...)},
	} {
		d := store(t, 2)
		write(t, d, 1, filled(1)...)
		d.Sync()
		for _, a := range c.acts {
			if err := a.on(d); err != nil {
				t.Fatal(err)
			}
		}
		d.Crash(c.keep, 9)
		if b, err := d.Read(1); err != nil || !bytes.Equal(b, c.want) || !bytes.Equal(d.Cells()[0].Bytes, c.want) {
			t.Errorf("%s: %v, %v, not %v", name, b, err, c.want)
		}
	}
}

// TestCrashFree: 8.6, a freeing is not torn, and what is kept ahead of it is not either.
func TestCrashFree(t *testing.T) {
	for _, cut := range cuts {
		d := store(t, 3)
		write(t, d, 1, filled(1)...)
		write(t, d, 2, filled(2)...)
		d.Sync()
		write(t, d, 1, filled(3)...)
		free(t, d, 2)
		write(t, d, 3, filled(4)...)
		d.Crash([]int{1, 1}, cut)
		cells(t, d, api.Cell{At: 1, Bytes: filled(3)})
		counts(t, d, 1, 0)
		reads(t, d, 2, padded())
		reads(t, d, 3, padded())
	}
}

// chance is an act on one of so many blocks, the same in every run.
func chance(r *rand.Rand, blocks int) act {
	a := act{at: r.IntN(blocks)}
	if r.IntN(4) > 0 {
		a.bytes = make([]byte, 64)
		for i := range a.bytes {
			a.bytes[i] = byte(r.Uint32())
		}
	}
	return a
}

// keeping is a list of which writes are kept, now shorter, now longer than there are any.
func keeping(r *rand.Rand, loose int) []int {
	var keep []int
	for range r.IntN(loose + 4) {
		keep = append(keep, r.IntN(3)-1)
	}
	return keep
}

// TestLong: 8.2 to 8.7, many acts, syncs, crashes and now and then a wiping on one store, held against the chapter's words all along.
func TestLong(t *testing.T) {
	for seed := range uint64(20) {
		r := rand.New(rand.NewPCG(seed, 8))
		x := begin(t, r.IntN(9), 9)
		for step := range 500 {
			switch r.IntN(12) {
			case 0:
				x.d.Sync()
				x.w.sync()
			case 1:
				keep, cut := keeping(r, len(x.w.loose)), cuts[r.IntN(len(cuts))]
				x.d.Crash(keep, cut)
				x.w.crash(keep, cut)
			case 2:
				if r.IntN(8) == 0 {
					x.d.Wipe()
					x.w.loose, x.w.synced = nil, map[int][]byte{}
				}
			default:
				x.play(t, chance(r, x.blocks))
			}
			x.agree(t)
			if t.Failed() {
				t.Fatalf("seed %d, step %d", seed, step)
			}
		}
	}
}

// TestStays: 8.8, what is synced stays in whichever crash, but for what was written over it.
func TestStays(t *testing.T) {
	for seed := range uint64(200) {
		r := rand.New(rand.NewPCG(seed, 88))
		d := store(t, 20)
		for at := range 10 {
			write(t, d, at, filled(byte(at+1))...)
		}
		d.Sync()
		over := map[int]int{}
		for range r.IntN(12) {
			a := chance(r, 20)
			over[a.at]++
			if err := a.on(d); err != nil {
				t.Fatal(err)
			}
		}
		d.Crash(keeping(r, d.Loose()), cuts[r.IntN(len(cuts))])
		for at := range 10 {
			if over[at] == 0 {
				reads(t, d, at, filled(byte(at+1)))
			}
		}
		if t.Failed() {
			t.Fatalf("seed %d", seed)
		}
	}
}

// TestMany: 8.2 and 8.5, a store of many writes that are not synced answers each call as soon as one of few.
func TestMany(t *testing.T) {
	const many = 1 << 17
	d := store(t, many)
	for at := range many {
		write(t, d, at, byte(at), byte(at>>8))
		if d.Used() != at+1 {
			t.Fatalf("%d taken, not %d", d.Used(), at+1)
		}
	}
	if err := d.Write(many, nil); err != wrong("block", many, api.ErrFull) {
		t.Errorf("%#v", err)
	}
	for at := range many {
		reads(t, d, at, padded(byte(at), byte(at>>8)))
	}
	counts(t, d, many, many)
	d.Sync()
	counts(t, d, many, 0)
	if l := d.Cells(); len(l) != many || l[many-1].At != many-1 {
		t.Errorf("%d blocks", len(l))
	}
}
