package snaps_test

import (
	"math/rand/v2"
	"testing"

	"castellan/api"
	"castellan/block"
	"castellan/chain"
	"castellan/fault"
	"castellan/slot"
	"castellan/wire"
)

// cuts are where the last write is torn: within each part of a block, at its edges, and nowhere.
var cuts = []int{0, 1, 6, 7, 8, 9, 10, 11, 30, 55, 56, 57, 62, 63, 64, -1}

// shot is what a snapshot is of, and its bytes.
type shot struct {
	end  int
	term int
	b    []byte
}

// lists calls f with every list of so many numbers below two.
func lists(many int, f func(l []int)) {
	for set := range 1 << many {
		l := make([]int, many)
		for i := range l {
			l[i] = set >> i & 1
		}
		f(l)
	}
}

// TestFoundSaved: 12.6, behind a crash there is the snapshot that was saved, be others refused behind it.
func TestFoundSaved(t *testing.T) {
	for _, size := range sizes {
		for _, cut := range cuts {
			d := store(t, 60)
			s := open(t, d)
			save(t, s, 5, 2, some(1, size))
			d.Crash([]int{1, 0, 1}, cut)
			has(t, s, 5, 2, some(1, size))
			has(t, open(t, d), 5, 2, some(1, size))
			if err := s.Save(9, 2, some(2, 3000)); !fault.Is(err, api.ErrFull) || !fault.Under(err, "piece") {
				t.Fatalf("%#v", err)
			}
			d.Crash([]int{1, 0, 1}, cut)
			has(t, s, 5, 2, some(1, size))
			has(t, open(t, d), 5, 2, some(1, size))
			save(t, s, 9, 2, some(3, 46))
			d.Crash(nil, cut)
			has(t, open(t, d), 9, 2, some(3, 46))
		}
	}
}

// steps are those of a snapshot that is being saved, by 12.5's words, without the syncs between.
type steps struct {
	d     *block.Disk
	slot  *slot.Slot
	chain *chain.Chain
	from  int
	start int
}

// stepsOf are the steps on a store whose snapshot was opened.
func stepsOf(t *testing.T, d *block.Disk) *steps {
	t.Helper()
	s, err := slot.Open(d, 4)
	if err != nil {
		t.Fatal(err)
	}
	from := base
	if v := s.Value(); len(v) > 0 {
		from = wire.Read(v).Int(api.MaxNum)
	}
	c, _, err := chain.Open(d, base, from)
	if err != nil {
		t.Fatal(err)
	}
	return &steps{d: d, slot: s, chain: c, from: from, start: c.Next()}
}

// write appends the pieces of a snapshot; false: there is no room.
func (x *steps) write(b []byte) bool {
	for _, p := range pieces(b) {
		if _, err := x.chain.Append(p); err != nil {
			return false
		}
	}
	return true
}

// put puts the head; false: there is no room.
func (x *steps) put(s shot) bool {
	return x.slot.Put(value(x.start, s.end, s.term, len(s.b))) == nil
}

// trim frees the blocks of the last one.
func (x *steps) trim(t *testing.T) {
	t.Helper()
	if err := x.chain.Trim(x.from, x.start); err != nil {
		t.Fatal(err)
	}
}

// among holds the snapshot that is found against those that may be, and then has another one saved, and found.
func among(t *testing.T, d *block.Disk, may ...shot) shot {
	t.Helper()
	s := open(t, d)
	now := shot{end: s.Meta().End, term: s.Meta().Term, b: s.Bytes()}
	for _, x := range may {
		if x.end == now.end {
			has(t, s, x.end, x.term, x.b)
			has(t, open(t, d), x.end, x.term, x.b)
			return x
		}
	}
	t.Fatalf("of %d, which none is", now.end)
	return now
}

// TestFoundPieces: 12.6, a crash that keeps any of the blocks of a snapshot that was not saved leaves the last one, and the next one is found.
func TestFoundPieces(t *testing.T) {
	for _, first := range []int{0, 1, 47} {
		old := shot{5, 2, some(1, first)}
		d := store(t, 60)
		save(t, open(t, d), old.end, old.term, old.b)
		for _, second := range []int{40, 100, 200} {
			many := blocks(second)
			lists(many, func(keep []int) {
				for _, cut := range cuts {
					x := copied(t, d)
					if !stepsOf(t, x).write(some(2, second)) {
						t.Fatal("no room")
					}
					x.Crash(keep, cut)
					among(t, x, old)
					for i, size := range []int{46, 0, 92, 5} {
						next := shot{6 + i, 3, some(3+i, size)}
						save(t, open(t, x), next.end, next.term, next.b)
						if among(t, x, next); t.Failed() {
							t.Fatalf("%d behind %d, keep %v, cut %d", second, first, keep, cut)
						}
					}
				}
			})
		}
	}
}

// TestFoundPiecesOfMany: 12.6, as above, of a snapshot of several records, some of which are found whole.
func TestFoundPiecesOfMany(t *testing.T) {
	old := shot{5, 2, some(1, 600)}
	d := store(t, 99)
	save(t, open(t, d), old.end, old.term, old.b)
	for lost := range 27 {
		for _, cut := range cuts {
			keep := make([]int, 27)
			for i := range keep {
				if i != lost {
					keep[i] = 1
				}
			}
			x := copied(t, d)
			if !stepsOf(t, x).write(some(2, 1100)) {
				t.Fatal("no room")
			}
			x.Crash(keep, cut)
			among(t, x, old)
			counts(t, x, x.Used(), 0)
			save(t, open(t, x), 6, 3, some(3, 520))
			if among(t, x, shot{6, 3, some(3, 520)}); t.Failed() {
				t.Fatalf("%d lost, cut %d", lost, cut)
			}
		}
	}
}

// TestFoundHead: 12.6, when the pieces are synced, a head of which any bytes are kept is there, or the last one is.
func TestFoundHead(t *testing.T) {
	for _, first := range []int{0, 47, 600} {
		for _, second := range []int{0, 47, 600} {
			old, next := shot{5, 2, some(1, first)}, shot{9, 3, some(2, second)}
			d := store(t, 60)
			save(t, open(t, d), old.end, old.term, old.b)
			for cut := -1; cut < 65; cut++ {
				for _, keep := range [][]int{nil, {0}, {1}} {
					x := copied(t, d)
					p := stepsOf(t, x)
					p.write(next.b)
					x.Sync()
					p.put(next)
					x.Crash(keep, cut)
					want := old
					if len(keep) > 0 && keep[0] != 0 && (cut < 0 || cut > 63) {
						want = next
					}
					if got := among(t, x, old, next); got.end != want.end {
						t.Fatalf("keep %v, cut %d: of %d", keep, cut, got.end)
					}
					save(t, open(t, x), 20, 4, some(5, 60))
					among(t, x, shot{20, 4, some(5, 60)})
				}
			}
		}
	}
}

// TestFoundTrim: 12.6, when the head is synced, the snapshot is there, whichever blocks of the last one are free.
func TestFoundTrim(t *testing.T) {
	for _, first := range []int{0, 47, 300} {
		for _, second := range []int{0, 1, 600} {
			next := shot{9, 3, some(2, second)}
			d := store(t, 60)
			save(t, open(t, d), 5, 2, some(1, first))
			lists(blocks(first), func(keep []int) {
				x := copied(t, d)
				p := stepsOf(t, x)
				p.write(next.b)
				x.Sync()
				p.put(next)
				x.Sync()
				p.trim(t)
				x.Crash(keep, 30)
				among(t, x, next)
				save(t, open(t, x), 20, 4, some(5, 60))
				among(t, x, shot{20, 4, some(5, 60)})
			})
		}
	}
}

// broken saves a snapshot by 12.5's steps up to one of them, behind which the store falls; and what may be found then.
func broken(t *testing.T, d *block.Disk, r *rand.Rand, now, next shot) []shot {
	t.Helper()
	p := stepsOf(t, d)
	may := []shot{now}
	step := r.IntN(4)
	if ok := p.write(next.b); ok && step > 0 {
		d.Sync()
		if ok = p.put(next); ok {
			may = append(may, next)
		}
		if ok && step > 1 {
			d.Sync()
			may = may[1:]
		}
		if ok && step > 2 {
			p.trim(t)
		}
	}
	keep := make([]int, r.IntN(d.Loose()+2))
	for i := range keep {
		keep[i] = r.IntN(3) % 2
	}
	d.Crash(keep, cuts[r.IntN(len(cuts))])
	return may
}

// TestFoundLong: 12.5 and 12.6, in long runs on stores of all rooms, with crashes at every step, the snapshot is the one that was saved last, and what each leaves, block by block, is what the chapter's steps leave.
func TestFoundLong(t *testing.T) {
	saved, full, fell := 0, 0, 0
	for seed := range uint64(300) {
		r := rand.New(rand.NewPCG(seed, 126))
		d := store(t, r.IntN(70))
		s := open(t, d)
		now := shot{}
		for i := range 60 {
			next := shot{now.end + 1 + r.IntN(3), 1 + r.IntN(5), some(int(seed)+i, sizes[r.IntN(len(sizes))])}
			if r.IntN(3) == 0 {
				fell++
				now = among(t, d, broken(t, d, r, now, next)...)
				s = open(t, d)
			} else if x := copied(t, d); r.IntN(4) > 0 {
				// Stamps are held against those of whoever opens it now: one that was opened ahead of a refused one has gone on further.
				fresh := r.IntN(2) == 0
				if fresh {
					s = open(t, d)
				}
				want := worded(t, x, next.end, next.term, next.b)
				if err := s.Save(next.end, next.term, next.b); err != want {
					t.Fatalf("seed %d: %#v, not %#v", seed, err, want)
				}
				if fresh {
					cells(t, d, x.Cells()...)
				}
				if want == nil {
					now = next
					saved++
				} else {
					full++
				}
				d.Crash(nil, 0)
			}
			counts(t, d, d.Used(), 0)
			if has(t, s, now.end, now.term, now.b); t.Failed() {
				t.Fatalf("seed %d, %d bytes of %d", seed, len(next.b), next.end)
			}
		}
		has(t, open(t, d), now.end, now.term, now.b)
	}
	if saved == 0 || full == 0 || fell == 0 {
		t.Errorf("%d were saved, %d refused, %d fell", saved, full, fell)
	}
}

// TestFoundBeside: 12.5, a log's blocks below 2^24, and those of other slots, are left as they are.
func TestFoundBeside(t *testing.T) {
	d := store(t, 60)
	c, _, err := chain.Open(d, 16, 16)
	if err != nil {
		t.Fatal(err)
	}
	if _, err := c.Append(some(1, 100)); err != nil {
		t.Fatal(err)
	}
	for _, at := range []int{0, 1, 2, 3, 6, base - 1} {
		if err := d.Write(at, []byte{byte(at)}); err != nil {
			t.Fatal(err)
		}
	}
	d.Sync()
	was := d.Cells()
	s := open(t, d)
	for end := 1; end < 9; end++ {
		save(t, s, end, 1, some(end, 100*end))
	}
	if err := s.Save(99, 1, some(1, 3000)); !fault.Is(err, api.ErrFull) {
		t.Fatal(err)
	}
	s = open(t, d)
	has(t, s, 8, 1, some(8, 800))
	left := d.Cells()
	own := 0
	for _, cell := range left {
		if cell.At == 4 || cell.At == 5 || cell.At >= base {
			own++
			continue
		}
		if len(was) == 0 || was[0].At != cell.At || string(was[0].Bytes) != string(cell.Bytes) {
			t.Fatalf("block %d: %v", cell.At, cell.Bytes)
		}
		was = was[1:]
	}
	if len(was) > 0 || own != 2+blocks(800)+1 {
		t.Errorf("%v, %d own", was, own)
	}
}
