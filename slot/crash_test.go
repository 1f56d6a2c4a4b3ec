package slot_test

import (
	"bytes"
	"math/rand/v2"
	"testing"

	"castellan/api"
	"castellan/block"
	"castellan/slot"
)

// value is one that was put, and its turn.
type value struct {
	turn  int
	bytes []byte
}

// kept is a slot on a store, and its values that may be there behind a crash: the one that was synced last, and the one that was put since.
type kept struct {
	d      *block.Disk
	at     int
	s      *slot.Slot
	synced value
	put    value
	loose  bool
	serial byte
}

// begin is a slot on a store on which a turn is synced, beside the one ahead of it.
func begin(t *testing.T, turn int) *kept {
	t.Helper()
	k := &kept{d: store(t, 9), at: 6}
	for n := max(turn-1, 1); n <= turn; n++ {
		k.serial++
		k.synced = value{n, row(k.serial, 3)}
		lay(t, k.d, k.at+n%2, says(uint64(n), k.synced.bytes...))
	}
	k.s = open(t, k.d, k.at)
	has(t, k.s, k.synced.turn, k.synced.bytes...)
	return k
}

// another is a slot on a store of the same blocks, all synced.
func (k *kept) another(t *testing.T) *kept {
	t.Helper()
	x := *k
	x.d = store(t, k.d.Room())
	for _, cell := range k.d.Cells() {
		lay(t, x.d, cell.At, cell.Bytes)
	}
	x.s = open(t, x.d, x.at)
	return &x
}

// now is what the value should be.
func (k *kept) now() value {
	if k.loose {
		return k.put
	}
	return k.synced
}

// next puts a value like no other; it must be taken just if none that was put is not synced.
func (k *kept) next(t *testing.T, n int) {
	t.Helper()
	k.serial++
	b := row(k.serial, n)
	err := k.s.Put(b)
	if k.loose {
		if err != wrong("turn", k.put.turn, api.ErrState) {
			t.Fatalf("%#v", err)
		}
		return
	}
	if err != nil {
		t.Fatal(err)
	}
	k.put, k.loose = value{k.synced.turn + 1, b}, true
	has(t, k.s, k.put.turn, b...)
}

// firm is what should be there when all is synced.
func (k *kept) firm() {
	k.synced, k.loose = k.now(), false
}

// crash has the store fall, and the slot opened again: there must be the value that was synced last, or the one that was put since, if it is there whole.
func (k *kept) crash(t *testing.T, keep []int, cut int) {
	t.Helper()
	k.d.Crash(keep, cut)
	k.s = open(t, k.d, k.at)
	if k.loose {
		b, err := k.d.Read(k.at + k.put.turn%2)
		if err == nil && bytes.Equal(b, says(uint64(k.put.turn), k.put.bytes...)) {
			k.synced = k.put
		}
	}
	k.loose = false
	if has(t, k.s, k.synced.turn, k.synced.bytes...); t.Failed() {
		t.Fatalf("keep %v, cut %d", keep, cut)
	}
}

// edges are turns at which more bytes than the last one change, and those beside them.
var edges = []int{0, 1, 2, 3, 253, 254, 255, 256, 257, 509, 510, 511, 1<<16 - 2, 1<<16 - 1, 1 << 16, 1<<24 - 2, 1<<24 - 1, 1<<32 - 2, 1<<32 - 1, 1<<48 - 1, 1<<56 - 2, 1<<56 - 1, 1 << 56, top - 3, top - 2, top - 1}

// TestCrash: 10.5, a value that is lost, kept, or torn anywhere, over a value and over nothing.
func TestCrash(t *testing.T) {
	for _, turn := range edges {
		k := begin(t, turn)
		for _, n := range []int{0, 1, 3, 46, 47} {
			for _, keep := range [][]int{nil, {0}, {1}, {7, 1}, {-1}, {0, 1}} {
				for cut := -1; cut <= 65; cut++ {
					x := k.another(t)
					x.next(t, n)
					x.crash(t, keep, cut)
				}
			}
		}
	}
}

// TestCrashKept: 10.5 and 8.6, one that is kept whole is the value; one that is lost, or lacks its last byte, is not.
func TestCrashKept(t *testing.T) {
	for _, turn := range edges {
		for cut, whole := range map[int]bool{-1: true, 64: true, 65: true, 0: false, 8: false, 9: false, 56: false, 63: false} {
			k := begin(t, turn)
			k.next(t, 5)
			want := k.synced
			if whole {
				want = k.put
			}
			k.d.Crash([]int{1}, cut)
			if has(t, open(t, k.d, k.at), want.turn, want.bytes...); t.Failed() {
				t.Fatalf("turn %d, cut %d", turn, cut)
			}
		}
	}
}

// crashes lets a store fall again and again, to so many crashes, torn at each of these places, each time behind another value.
func crashes(t *testing.T, k *kept, cuts []int, deep int) {
	if deep == 0 {
		return
	}
	for _, cut := range cuts {
		x := k.another(t)
		x.next(t, 47-deep)
		x.crash(t, []int{1}, cut)
		crashes(t, x, cuts, deep-1)
	}
}

// TestCrashAgain: 10.5, crashes one behind the other, so that each tears what the one ahead of it left.
func TestCrashAgain(t *testing.T) {
	var all []int
	for cut := range 65 {
		all = append(all, cut)
	}
	for _, turn := range edges {
		// Behind the highest turn there is no other one to be found.
		crashes(t, begin(t, turn), all, min(2, top-turn))
		crashes(t, begin(t, turn), []int{6, 7, 8, 9, 40, 57, 62, 63, 64}, min(4, top-turn))
	}
}

// TestCrashReopened: 10.5, a value that was put, over a synced one or over nothing, is not synced by being found: until it is, there can be no other one, whoever opens the slot.
func TestCrashReopened(t *testing.T) {
	for _, turn := range edges {
		k := begin(t, turn)
		k.next(t, 5)
		k.s = open(t, k.d, k.at)
		has(t, k.s, k.put.turn, k.put.bytes...)
		k.next(t, 6)
		x := open(t, k.d, k.at)
		k.d.Sync()
		k.firm()
		k.next(t, 7)
		k.crash(t, []int{1}, 30)
		if err := x.Put(nil); err != nil {
			t.Errorf("%v", err)
		}
	}
	k := begin(t, 4)
	k.next(t, 5)
	k.s = open(t, k.d, k.at)
	k.s.Sync()
	k.firm()
	k.next(t, 6)
	k.crash(t, nil, 0)
}

// TestCrashUnder: 10.3, a slot whose value was lost under it has one that is not synced.
func TestCrashUnder(t *testing.T) {
	k := begin(t, 4)
	k.next(t, 5)
	k.d.Crash(nil, 0)
	k.next(t, 6)
	k.crash(t, nil, 0)
	k.next(t, 7)
	k.d.Crash([]int{1}, 64)
	k.firm()
	k.next(t, 8)
	k.crash(t, []int{1}, 9)
}

// TestCrashUnderFound: 10.3 and 10.5, so has one whose value was found, not synced, and lost then: the next one would be written over the one that is left.
func TestCrashUnderFound(t *testing.T) {
	for _, turn := range edges {
		k := begin(t, turn)
		k.next(t, 5)
		k.s = open(t, k.d, k.at)
		k.d.Crash(nil, 0)
		k.next(t, 6)
		k.crash(t, []int{1}, 30)
		k.next(t, 7)
	}
}

// chance does one thing to a slot, or to the store beside it, the same in every run.
func (k *kept) chance(t *testing.T, r *rand.Rand) {
	t.Helper()
	switch r.IntN(12) {
	case 0, 1:
		k.s.Sync()
		k.firm()
	case 2:
		k.d.Sync()
		k.firm()
	case 3:
		// What is beside the slot is not the slot's.
		if err := k.d.Write(k.at+[]int{-2, -1, 2, 3}[r.IntN(4)], says(uint64(r.IntN(99)), 9)); err != nil {
			t.Fatal(err)
		}
	case 4, 5, 6:
		keep := make([]int, r.IntN(k.d.Loose()+2))
		for i := range keep {
			keep[i] = r.IntN(2)
		}
		k.crash(t, keep, r.IntN(80)-1)
	case 7:
		k.s = open(t, k.d, k.at)
	default:
		k.next(t, r.IntN(48))
	}
	now := k.now()
	has(t, k.s, now.turn, now.bytes...)
	has(t, open(t, k.d, k.at), now.turn, now.bytes...)
}

// TestCrashLong: 10.2 to 10.5, many values, syncs and crashes on one store, on which others write, too.
func TestCrashLong(t *testing.T) {
	for seed := range uint64(300) {
		r := rand.New(rand.NewPCG(seed, 10))
		k := begin(t, edges[r.IntN(len(edges)-3)])
		for range 300 {
			if k.chance(t, r); t.Failed() {
				t.Fatalf("seed %d", seed)
			}
		}
	}
}
