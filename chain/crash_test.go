package chain_test

import (
	"bytes"
	"math/rand/v2"
	"testing"

	"castellan/api"
	"castellan/block"
	"castellan/chain"
)

// cuts are where the last write is torn: within each part of a block, at its edges, and nowhere.
var cuts = []int{0, 1, 6, 7, 8, 9, 10, 11, 30, 55, 56, 57, 62, 63, 64, -1}

// kept is a chain on a store, and which of its records should be there: those that are synced, and those that were appended since.
type kept struct {
	d      *block.Disk
	c      *chain.Chain
	base   int
	from   int
	synced []api.Link
	loose  []api.Link
	serial byte
}

// begin is a chain on a new store, whose first stamp is one more than this one.
func begin(t *testing.T, room, base int, stamp uint64) *kept {
	t.Helper()
	k := &kept{d: store(t, room), base: base, from: base}
	if stamp > 0 {
		lay(t, k.d, base+1<<16, made(stamp, stamp, 0))
	}
	k.c, _ = open(t, k.d, base, base)
	return k
}

// another is a chain on a store of the same blocks, all synced.
func (k *kept) another(t *testing.T) *kept {
	t.Helper()
	x := *k
	x.d = store(t, k.d.Room())
	for _, cell := range k.d.Cells() {
		lay(t, x.d, cell.At, cell.Bytes)
	}
	x.reopen(t)
	return &x
}

// append appends a record like no other, if there is room.
func (k *kept) append(n int) {
	k.serial++
	b := row(k.serial, n)
	if at, err := k.c.Append(b); err == nil {
		k.loose = append(k.loose[:len(k.loose):len(k.loose)], api.Link{At: at, Bytes: b})
	}
}

// firm is what should be there when all is synced.
func (k *kept) firm() {
	k.synced = append(k.synced[:len(k.synced):len(k.synced)], k.loose...)
	k.loose = nil
}

// reopen opens the chain once more, and tells its records.
func (k *kept) reopen(t *testing.T) []api.Link {
	t.Helper()
	c, l := open(t, k.d, k.base, k.from)
	k.c = c
	return l
}

// crash has the store fall, and the chain opened again: what was synced must be found, and of the rest a beginning, which is synced then.
func (k *kept) crash(t *testing.T, keep []int, cut int) {
	t.Helper()
	all := append(k.synced[:len(k.synced):len(k.synced)], k.loose...)
	k.d.Crash(keep, cut)
	found := k.reopen(t)
	if len(found) < len(k.synced) || len(found) > len(all) {
		t.Fatalf("keep %v, cut %d: %d records are found, of %d, %d of which were synced", keep, cut, len(found), len(all), len(k.synced))
	}
	links(t, found, all[:len(found)]...)
	k.synced, k.loose = found, nil
}

// lists calls f with every list of so many numbers below two.
func lists(many int, f func(l []int)) {
	for set := range 1 << many {
		l := make([]int, many)
		for i := range l {
			l[i] = set >> i & 1
		}
		f(l)
	}
}

// TestFoundAll: 9.9, every set of blocks that is kept, and every place at which the last of them is torn, over blocks that were free, and over old ones.
func TestFoundAll(t *testing.T) {
	for _, stamp := range []uint64{0, 250, 254, 1<<16 - 4, 1<<24 - 3} {
		k := begin(t, 20, 3, stamp)
		k.append(1)
		k.append(60)
		k.c.Sync()
		k.firm()
		for range 2 {
			lists(4, func(keep []int) {
				for cut := range 65 {
					x := k.another(t)
					x.append(47)
					x.append(46)
					x.append(2)
					x.crash(t, keep, cut)
				}
			})
			k.append(100)
			k.append(1)
			k.crash(t, []int{0, 1, 1, 1}, 64)
		}
	}
}

// crashes lets a store fall again and again, to so many crashes, in every way: each time behind records of these sizes.
func crashes(t *testing.T, k *kept, deep int, sizes []int) {
	if deep == 0 {
		return
	}
	blocks := 0
	for _, n := range sizes {
		blocks += chain.Blocks(n)
	}
	lists(blocks, func(keep []int) {
		for _, cut := range []int{6, 7, 9, 40, 57, 63, 64} {
			x := k.another(t)
			for _, n := range sizes {
				x.append(n)
			}
			x.crash(t, keep, cut)
			crashes(t, x, deep-1, sizes)
		}
	})
}

// TestFoundTwice: 9.9, crashes one behind the other, so that each tears what the one ahead of it left.
func TestFoundTwice(t *testing.T) {
	for _, stamp := range []uint64{0, 253, 255, 510, 1<<16 - 2} {
		crashes(t, begin(t, 20, 0, stamp), 2, []int{47, 1})
		crashes(t, begin(t, 20, 0, stamp), 3, []int{5, 6})
	}
}

// chance does one thing to a chain, the same in every run.
func (k *kept) chance(t *testing.T, r *rand.Rand) {
	t.Helper()
	switch r.IntN(12) {
	case 0, 1:
		k.c.Sync()
		k.firm()
	case 2:
		k.cut(t, r)
	case 3:
		k.trim(t, r)
	case 4, 5:
		keep := make([]int, r.IntN(k.d.Loose()+2))
		for i := range keep {
			keep[i] = r.IntN(3) % 2
		}
		k.crash(t, keep, cuts[r.IntN(len(cuts))])
	default:
		k.append([]int{1, 5, 45, 46, 47, 92, 93, 200}[r.IntN(8)])
	}
}

// cut cuts the chain where one of its records begins.
func (k *kept) cut(t *testing.T, r *rand.Rand) {
	t.Helper()
	all := append(k.synced[:len(k.synced):len(k.synced)], k.loose...)
	if len(all) == 0 {
		return
	}
	first := r.IntN(len(all))
	if err := k.c.Cut(all[first].At); err != nil {
		t.Fatal(err)
	}
	k.synced, k.loose = all[:first], nil
}

// trim lets the records go that are ahead of one that is synced: the chain begins there from now on, whether that is synced, or not.
func (k *kept) trim(t *testing.T, r *rand.Rand) {
	t.Helper()
	if len(k.synced) == 0 {
		return
	}
	first := r.IntN(len(k.synced))
	upto := k.synced[first].At
	if err := k.c.Trim(k.from, upto); err != nil {
		t.Fatal(err)
	}
	k.from, k.synced = upto, k.synced[first:]
}

// TestFoundLong: 9.9, many records, syncs, cuts, trims and crashes on one store, small or not; what is there without a crash is all of them.
func TestFoundLong(t *testing.T) {
	for seed := range uint64(200) {
		r := rand.New(rand.NewPCG(seed, 9))
		k := begin(t, 4+r.IntN(40), r.IntN(20), uint64(r.IntN(600)))
		for range 300 {
			if k.chance(t, r); t.Failed() {
				t.Fatalf("seed %d", seed)
			}
			if r.IntN(4) == 0 {
				l := k.reopen(t)
				links(t, l, append(k.synced[:len(k.synced):len(k.synced)], k.loose...)...)
			}
		}
	}
}

// TestFoundTorn: 9.9 and 9.1, a block that is torn anywhere over an old one is the new one, or none that stands there.
func TestFoundTorn(t *testing.T) {
	for _, stamp := range []uint64{2, 254, 255, 256, 511, 1<<16 - 1, 1 << 16, 1<<24 - 1, 1<<32 - 1, 1<<56 - 1} {
		for cut := range 65 {
			d := store(t, 4)
			lay(t, d, 1, whole(stamp, 7), whole(stamp-1, 9))
			c, _ := open(t, d, 1, 1)
			add(t, c, 2, []byte{8})
			d.Crash([]int{1}, cut)
			want := []api.Link{{At: 1, Bytes: []byte{7}}, {At: 2, Bytes: []byte{8}}}
			if b, err := d.Read(2); err != nil || !bytes.Equal(b, whole(stamp+1, 8)) {
				want = want[:1]
			}
			_, l := open(t, d, 1, 1)
			links(t, l, want...)
		}
	}
}
