package chain_test

import (
	"bytes"
	"math"
	"testing"

	"castellan/api"
	"castellan/block"
	"castellan/chain"
)

// state is all that a later call could tell of a chain, and of its store.
type state struct {
	next, stamp, used, loose int
}

func stateOf(c *chain.Chain, d *block.Disk) state {
	return state{c.Next(), c.Stamp(), d.Used(), d.Loose()}
}

// refused holds an append against the error that it should answer, and what is there behind it against what was.
func refused(t *testing.T, c *chain.Chain, d *block.Disk, b []byte, want error) {
	t.Helper()
	was := stateOf(c, d)
	if at, err := c.Append(b); at != 0 || err != want {
		t.Errorf("%d bytes: at %d, %#v, not %#v", len(b), at, err, want)
	}
	if is := stateOf(c, d); is != was {
		t.Errorf("%d bytes: %v, not %v", len(b), is, was)
	}
}

// TestAppend: 9.4, records stand one behind the other, and the next one begins behind each.
func TestAppend(t *testing.T) {
	d := store(t, 1000)
	c, _ := open(t, d, 11, 14)
	var want []api.Link
	at := 14
	for i, n := range []int{1, 46, 47, 92, 93, 1, 16448, 16403, 512, 2} {
		add(t, c, at, row(byte(i), n))
		want = append(want, api.Link{At: at, Bytes: row(byte(i), n)})
		at += (n + 45) / 46
		ends(t, c, at, at-13)
		if d.Used() != at-14 || d.Loose() != at-14 {
			t.Errorf("%d taken, %d loose, not %d", d.Used(), d.Loose(), at-14)
		}
	}
	c.Sync()
	x, l := open(t, d, 11, 14)
	links(t, l, want...)
	ends(t, x, at, at-13)
}

// TestAppendLimit: 9.4, no bytes, and too many of them, ahead of whether there is room.
func TestAppendLimit(t *testing.T) {
	for _, room := range []int{0, 1, 1000} {
		d := store(t, room)
		c, _ := open(t, d, 3, 3)
		refused(t, c, d, nil, wrong("record", 0, api.ErrLimit))
		refused(t, c, d, []byte{}, wrong("record", 0, api.ErrLimit))
		for _, n := range []int{16449, 16450, 1 << 15, 1 << 16, 1 << 20} {
			refused(t, c, d, make([]byte, n), wrong("record", n, api.ErrLimit))
		}
	}
}

// TestAppendFull: 9.4, a record that finds room for all its blocks but for one is refused whole, and smaller ones are taken behind that.
func TestAppendFull(t *testing.T) {
	d := store(t, 4)
	c, _ := open(t, d, 3, 3)
	refused(t, c, d, make([]byte, 4*46+1), wrong("append", 3, api.ErrFull))
	refused(t, c, d, make([]byte, 16448), wrong("append", 3, api.ErrFull))
	add(t, c, 3, make([]byte, 46))
	refused(t, c, d, make([]byte, 3*46+1), wrong("append", 4, api.ErrFull))
	add(t, c, 4, make([]byte, 3*46))
	refused(t, c, d, []byte{1}, wrong("append", 7, api.ErrFull))
	c.Sync()
	refused(t, c, d, []byte{1}, wrong("append", 7, api.ErrFull))
	x, l := open(t, d, 3, 3)
	links(t, l, api.Link{At: 3, Bytes: make([]byte, 46)}, api.Link{At: 4, Bytes: make([]byte, 138)})
	refused(t, x, d, []byte{1}, wrong("append", 7, api.ErrFull))
	empty := store(t, 0)
	x, _ = open(t, empty, 0, 0)
	refused(t, x, empty, []byte{1}, wrong("append", 0, api.ErrFull))
}

// TestAppendUsed: 9.4, all blocks that are taken count, whoever has them, freed ones until that is synced, and those that would be written over, too.
func TestAppendUsed(t *testing.T) {
	d := store(t, 3)
	lay(t, d, 90, []byte{1})
	c, _ := open(t, d, 3, 3)
	refused(t, c, d, make([]byte, 93), wrong("append", 3, api.ErrFull))
	add(t, c, 3, make([]byte, 92))
	refused(t, c, d, []byte{1}, wrong("append", 5, api.ErrFull))
	if err := d.Free(90); err != nil {
		t.Fatal(err)
	}
	refused(t, c, d, []byte{1}, wrong("append", 5, api.ErrFull))
	d.Sync()
	add(t, c, 5, []byte{1})

	over := store(t, 3)
	lay(t, over, 3, whole(5, 1), whole(4, 2))
	c, _ = open(t, over, 4, 4)
	if err := c.Cut(4); err != nil {
		t.Fatal(err)
	}
	lay(t, over, 5, make([]byte, 64))
	refused(t, c, over, []byte{1}, wrong("append", 5, api.ErrFull))
}

// TestAppendLast: 9.4, a record may end in the last block of all, and none goes beyond it.
func TestAppendLast(t *testing.T) {
	d := store(t, 1000)
	c, _ := open(t, d, 0, api.MaxNum-2)
	refused(t, c, d, make([]byte, 139), wrong("append", api.MaxNum-2, api.ErrFull))
	refused(t, c, d, make([]byte, 16448), wrong("append", api.MaxNum-2, api.ErrFull))
	add(t, c, api.MaxNum-2, make([]byte, 46))
	refused(t, c, d, make([]byte, 93), wrong("append", api.MaxNum-1, api.ErrFull))
	add(t, c, api.MaxNum-1, make([]byte, 92))
	ends(t, c, api.MaxNum+1, 4)
	refused(t, c, d, []byte{1}, wrong("append", api.MaxNum+1, api.ErrFull))
	if err := c.Cut(api.MaxNum); err != nil {
		t.Fatal(err)
	}
	ends(t, c, api.MaxNum+1, 5)
	refused(t, c, d, []byte{1}, wrong("append", api.MaxNum+1, api.ErrFull))
	_, l := open(t, d, 0, api.MaxNum-2)
	links(t, l, api.Link{At: api.MaxNum - 2, Bytes: make([]byte, 46)})
}

// TestAppendOrder: 9.4, a record's blocks are written one by one, the first one first.
func TestAppendOrder(t *testing.T) {
	for kept := range 4 {
		d := store(t, 9)
		c, _ := open(t, d, 2, 2)
		add(t, c, 2, row(1, 100))
		add(t, c, 5, []byte{9})
		if d.Loose() != 4 {
			t.Fatalf("%d writes", d.Loose())
		}
		keep := make([]int, 4)
		keep[kept] = 1
		d.Crash(keep, 64)
		want := [][]byte{made(1, 1, begins|100, row(1, 46)...), made(2, 2, 54, row(47, 46)...), made(3, 3, 8, row(93, 8)...), whole(4, 9)}
		cells(t, d, 2+kept, want[kept])
	}
}

// TestAppendMemory: R3, a record is neither changed nor kept, and what lies behind its length is not written to the store.
func TestAppendMemory(t *testing.T) {
	d := store(t, 9)
	c, _ := open(t, d, 0, 0)
	memory := row(1, 100)
	add(t, c, 0, memory[:50])
	if !bytes.Equal(memory, row(1, 100)) {
		t.Errorf("%v", memory)
	}
	clear(memory)
	c.Sync()
	cells(t, d, 0, made(1, 1, begins|50, row(1, 46)...), made(2, 2, 4, row(47, 4)...))
}

// TestSync: 9.5, the whole store is synced, what is not of the chain, too.
func TestSync(t *testing.T) {
	d := store(t, 9)
	c, _ := open(t, d, 3, 3)
	add(t, c, 3, []byte{7})
	if err := d.Write(1, []byte{5}); err != nil {
		t.Fatal(err)
	}
	if len(d.Cells()) != 0 {
		t.Errorf("%v", d.Cells())
	}
	for range 2 {
		c.Sync()
		ends(t, c, 4, 2)
		if l := d.Cells(); d.Loose() != 0 || len(l) != 2 || l[0].At != 1 || l[1].At != 3 {
			t.Errorf("%d loose, %v", d.Loose(), l)
		}
	}
	d.Crash(nil, 0)
	_, l := open(t, d, 3, 3)
	links(t, l, api.Link{At: 3, Bytes: []byte{7}})
}

// three is a chain from block 4 on, of the base 3, with records at 4, at 5 to 7, and at 8, of which the last one is not synced.
func three(t *testing.T, room int) (*chain.Chain, *block.Disk) {
	t.Helper()
	d := store(t, room)
	c, _ := open(t, d, 3, 4)
	add(t, c, 4, []byte{1})
	add(t, c, 5, row(2, 100))
	c.Sync()
	add(t, c, 8, []byte{3})
	ends(t, c, 9, 6)
	return c, d
}

// TestCutRange: 9.6, ahead of base, and behind where the next record begins, nothing is cut; where it begins there is nothing to cut, nor to sync.
func TestCutRange(t *testing.T) {
	c, d := three(t, 20)
	was := stateOf(c, d)
	for _, at := range []int{2, 1, 0, -1, math.MinInt, 10, 11, api.MaxNum, api.MaxNum + 1, math.MaxInt} {
		if err := c.Cut(at); err != wrong("cut", at, api.ErrRange) {
			t.Errorf("%d: %#v", at, err)
		}
	}
	if err := c.Cut(9); err != nil {
		t.Error(err)
	}
	if is := stateOf(c, d); is != was || is.loose != 1 {
		t.Errorf("%v, not %v", is, was)
	}
	d.Crash(nil, 0)
	_, l := open(t, d, 3, 4)
	links(t, l, api.Link{At: 4, Bytes: []byte{1}}, api.Link{At: 5, Bytes: row(2, 100)})
}

// TestCut: 9.6, a mark stands where it is cut, with the next stamp; what was behind is free, and that is synced.
func TestCut(t *testing.T) {
	one, mark := whole(1, 1), made(6, 6, begins)
	long := [][]byte{made(2, 2, begins|100, row(2, 46)...), made(3, 3, 54, row(48, 46)...), made(4, 4, 8, row(94, 8)...)}
	for at, want := range map[int][][]byte{
		3: {mark},
		4: {mark},
		5: {one, mark},
		6: {one, long[0], mark},
		7: {one, long[0], long[1], mark},
		8: {one, long[0], long[1], long[2], mark},
	} {
		c, d := three(t, 20)
		if err := c.Cut(at); err != nil {
			t.Fatalf("%d: %v", at, err)
		}
		ends(t, c, at+1, 7)
		if d.Loose() != 0 || d.Used() != len(want) {
			t.Errorf("%d loose, %d taken", d.Loose(), d.Used())
		}
		cells(t, d, at+1-len(want), want...)
		if t.Failed() {
			t.Fatalf("cut at %d", at)
		}
	}
}

// TestCutAgain: 9.6, what is appended behind a mark is found again, and nothing of what was cut is; a cut that is cut once more, too.
func TestCutAgain(t *testing.T) {
	one, long := api.Link{At: 4, Bytes: []byte{1}}, api.Link{At: 5, Bytes: row(2, 100)}
	for at, left := range map[int][]api.Link{4: nil, 5: {one}, 8: {one, long}} {
		c, d := three(t, 20)
		if err := c.Cut(at); err != nil {
			t.Fatal(err)
		}
		d.Crash(nil, 0)
		c, l := open(t, d, 3, 4)
		links(t, l, left...)
		ends(t, c, at+1, 7)
		add(t, c, at+1, []byte{8, 8})
		c.Sync()
		_, l = open(t, d, 3, 4)
		links(t, l, append(left[:len(left):len(left)], api.Link{At: at + 1, Bytes: []byte{8, 8}})...)
		if err := c.Cut(at + 1); err != nil {
			t.Fatal(err)
		}
		if err := c.Cut(at); err != nil {
			t.Fatal(err)
		}
		ends(t, c, at+1, 10)
		_, l = open(t, d, 3, 4)
		links(t, l, left...)
	}
}

// TestCutWithin: 9.6, a record in which it is cut is spoilt, and nothing from there on is found again.
func TestCutWithin(t *testing.T) {
	for _, at := range []int{6, 7} {
		c, d := three(t, 20)
		if err := c.Cut(at); err != nil {
			t.Fatal(err)
		}
		add(t, c, at+1, []byte{8})
		c.Sync()
		x, l := open(t, d, 3, 4)
		links(t, l, api.Link{At: 4, Bytes: []byte{1}})
		ends(t, x, 5, 8)
	}
}

// TestCutFull: 9.6, a mark for which there is no room: what the store answers, wrapped; nothing is changed.
func TestCutFull(t *testing.T) {
	c, d := three(t, 6)
	if err := c.Trim(4, 5); err != nil {
		t.Fatal(err)
	}
	c.Sync()
	lay(t, d, 90, []byte{1}, []byte{2})
	if err := d.Free(91); err != nil {
		t.Fatal(err)
	}
	was := stateOf(c, d)
	for _, at := range []int{3, 4} {
		err := c.Cut(at)
		if err != (api.Fault{Op: "cut", At: at, Err: wrong("block", at, api.ErrFull)}) {
			t.Errorf("%d: %#v", at, err)
		}
		if is := stateOf(c, d); is != was || is.loose != 1 {
			t.Errorf("%v, not %v", is, was)
		}
	}
	if err := c.Cut(5); err != nil {
		t.Error(err)
	}
	if is := stateOf(c, d); is != (state{6, 7, 2, 0}) {
		t.Errorf("%v", is)
	}
}

// TestCutOthers: 9.6, blocks that are not of what is cut stay, and all the store is synced.
func TestCutOthers(t *testing.T) {
	c, d := three(t, 20)
	lay(t, d, 9, []byte{9})
	lay(t, d, 0, []byte{5}, []byte{6}, []byte{7}, []byte{8})
	if err := d.Write(1, []byte{4}); err != nil {
		t.Fatal(err)
	}
	if err := c.Cut(4); err != nil {
		t.Fatal(err)
	}
	got := d.Cells()
	first := []byte{5, 4, 7, 8, 0, 9}
	if len(got) != 6 || d.Loose() != 0 {
		t.Fatalf("%v, %d loose", got, d.Loose())
	}
	for i, x := range got {
		if x.Bytes[0] != first[i] || x.At != []int{0, 1, 2, 3, 4, 9}[i] {
			t.Errorf("%d: %v", x.At, x.Bytes)
		}
	}
}

// TestCutFar: 9.6, a chain that begins at the last block of all is cut at the first one; for all the blocks between there would not be memory enough.
func TestCutFar(t *testing.T) {
	d := store(t, 9)
	lay(t, d, 1<<20, []byte{1})
	c, _ := open(t, d, 0, api.MaxNum)
	add(t, c, api.MaxNum, []byte{1})
	if err := c.Cut(0); err != nil {
		t.Fatal(err)
	}
	ends(t, c, 1, 0x0100000000000003)
	cells(t, d, 0, made(0x0100000000000002, 0x0100000000000002, begins))
}

// TestTrimRange: 9.7, unless base, from, upto and the next record's block rise, nothing is trimmed.
func TestTrimRange(t *testing.T) {
	c, d := three(t, 20)
	was := stateOf(c, d)
	for _, r := range [][2]int{
		{2, 5}, {2, 2}, {0, 0}, {-1, 4}, {math.MinInt, math.MaxInt}, {math.MinInt, 4},
		{5, 4}, {9, 8}, {4, 3}, {4, -1}, {4, math.MinInt},
		{4, 10}, {10, 10}, {9, 10}, {4, api.MaxNum}, {4, math.MaxInt}, {math.MaxInt, 4}, {math.MaxInt, math.MaxInt},
	} {
		if err := c.Trim(r[0], r[1]); err != wrong("trim", r[1], api.ErrRange) {
			t.Errorf("%v: %#v", r, err)
		}
	}
	for _, at := range []int{3, 4, 6, 9} {
		if err := c.Trim(at, at); err != nil {
			t.Errorf("%d: %v", at, err)
		}
	}
	if is := stateOf(c, d); is != was {
		t.Errorf("%v, not %v", is, was)
	}
}

// TestTrim: 9.7, blocks from one on, up to another one without it, are freed, each by a write that is not synced.
func TestTrim(t *testing.T) {
	for from := 3; from <= 9; from++ {
		for upto := from; upto <= 9; upto++ {
			c, d := three(t, 20)
			c.Sync()
			all := d.Cells()
			if err := c.Trim(from, upto); err != nil {
				t.Fatal(err)
			}
			if is := stateOf(c, d); is != (state{9, 6, 5, upto - from}) {
				t.Errorf("%v", is)
			}
			for _, x := range all {
				b, err := d.Read(x.At)
				gone := from <= x.At && x.At < upto
				if err != nil || gone && !bytes.Equal(b, make([]byte, 64)) || !gone && !bytes.Equal(b, x.Bytes) {
					t.Errorf("block %d: %v, %v", x.At, b, err)
				}
			}
			d.Crash(nil, 0)
			if len(d.Cells()) != 5 {
				t.Errorf("%v", d.Cells())
			}
			if t.Failed() {
				t.Fatalf("from %d up to %d", from, upto)
			}
		}
	}
}

// TestTrimThen: 9.7, what is trimmed gives its room when it is synced; the records behind it are found from there on, and the chain goes on.
func TestTrimThen(t *testing.T) {
	c, d := three(t, 5)
	if err := c.Trim(4, 8); err != nil {
		t.Fatal(err)
	}
	refused(t, c, d, []byte{1}, wrong("append", 9, api.ErrFull))
	c.Sync()
	add(t, c, 9, row(7, 184))
	refused(t, c, d, []byte{1}, wrong("append", 13, api.ErrFull))
	c.Sync()
	x, l := open(t, d, 3, 8)
	links(t, l, api.Link{At: 8, Bytes: []byte{3}}, api.Link{At: 9, Bytes: row(7, 184)})
	ends(t, x, 13, 10)
	if err := x.Trim(8, 13); err != nil {
		t.Fatal(err)
	}
	x.Sync()
	x, l = open(t, d, 3, 13)
	links(t, l)
	ends(t, x, 13, 1)
}

// TestTwo: chains of one store that begin at unlike blocks leave each other alone, but that they share its room, and are synced together.
func TestTwo(t *testing.T) {
	d := store(t, 5)
	a, _ := open(t, d, 0, 0)
	b, _ := open(t, d, 100, 100)
	add(t, a, 0, []byte{1})
	add(t, b, 100, row(1, 60))
	add(t, a, 1, []byte{2})
	a.Sync()
	add(t, b, 102, []byte{3})
	refused(t, a, d, []byte{4}, wrong("append", 2, api.ErrFull))
	d.Crash([]int{1}, 10)
	_, l := open(t, d, 0, 0)
	links(t, l, api.Link{At: 0, Bytes: []byte{1}}, api.Link{At: 1, Bytes: []byte{2}})
	_, l = open(t, d, 100, 100)
	links(t, l, api.Link{At: 100, Bytes: row(1, 60)})
}
