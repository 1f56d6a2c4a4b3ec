package snaps_test

import (
	"bytes"
	"math"
	"slices"
	"testing"

	"castellan/api"
	"castellan/block"
	"castellan/chain"
	"castellan/slot"
	"castellan/snaps"
)

// sizes are how many bytes snapshots have: at the edges of blocks and of pieces, and within.
var sizes = []int{0, 1, 45, 46, 47, 511, 512, 513, 600, 1023, 1024, 1025, 1400}

// blocks is how many blocks the records of so many bytes take.
func blocks(size int) int {
	n := 0
	for _, b := range pieces(make([]byte, size)) {
		n += chain.Blocks(len(b))
	}
	return n
}

// copied is a store of the same blocks, which are all synced.
func copied(t *testing.T, d *block.Disk) *block.Disk {
	t.Helper()
	x := store(t, d.Room())
	for _, cell := range d.Cells() {
		if err := x.Write(cell.At, cell.Bytes); err != nil {
			t.Fatal(err)
		}
	}
	x.Sync()
	return x
}

// TestSave: 12.5 and 12.6, a snapshot of any size behind one of any size: it is there, and found, its blocks alone are taken, and all is synced.
func TestSave(t *testing.T) {
	for _, first := range sizes {
		for _, second := range sizes {
			d := store(t, 99)
			s := open(t, d)
			save(t, s, 5, 2, some(1, first))
			has(t, s, 5, 2, some(1, first))
			counts(t, d, 1+blocks(first), 0)
			head(t, d, 1, value(base, 5, 2, first))
			stands(t, d, base, base+blocks(first), pieces(some(1, first))...)
			save(t, s, 9, 3, some(2, second))
			has(t, s, 9, 3, some(2, second))
			counts(t, d, 2+blocks(second), 0)
			start := base + blocks(first)
			head(t, d, 2, value(start, 9, 3, second))
			stands(t, d, start, start+blocks(second), pieces(some(2, second))...)
			has(t, open(t, d), 9, 3, some(2, second))
		}
	}
}

// TestSaveMost: 12.5, as many bytes as there may be, and one more; that one is told ahead of a store without room.
func TestSaveMost(t *testing.T) {
	d := store(t, 30000)
	s := open(t, d)
	b := some(1, snaps.Most)
	save(t, s, 5, 2, b)
	has(t, s, 5, 2, b)
	has(t, open(t, d), 5, 2, b)
	counts(t, d, 1+24576, 0)
	for _, room := range []int{0, 30000} {
		d := store(t, room)
		s := open(t, d)
		if err := s.Save(9, 2, append(b, 1)); err != wrong("size", snaps.Most+1, api.ErrLimit) {
			t.Errorf("%#v", err)
		}
		has(t, s, 0, 0, nil)
		counts(t, d, 0, 0)
	}
}

// TestSaveWrong: 12.5, ends and terms that may not be, which are told at the end, and ahead of too many bytes; nothing is changed.
func TestSaveWrong(t *testing.T) {
	d := store(t, 99)
	s := open(t, d)
	save(t, s, 5, 2, some(1, 600))
	was := d.Cells()
	for _, c := range []struct{ end, term int }{
		{5, 2}, {5, 3}, {4, 2}, {1, 2}, {0, 2}, {-1, 2}, {math.MinInt, 2},
		{api.MaxNum + 1, 2}, {math.MaxInt, 2},
		{6, 0}, {6, -1}, {6, math.MinInt}, {6, api.MaxNum + 1}, {6, math.MaxInt},
		{5, 0}, {api.MaxNum + 1, 0},
	} {
		for _, b := range [][]byte{nil, {1}, some(2, 600), make([]byte, snaps.Most+1)} {
			if err := s.Save(c.end, c.term, b); err != wrong("end", c.end, api.ErrRange) {
				t.Errorf("%d bytes of %d, term %d: %#v", len(b), c.end, c.term, err)
			}
		}
		has(t, s, 5, 2, some(1, 600))
	}
	cells(t, d, was...)
	counts(t, d, len(was), 0)
	has(t, open(t, d), 5, 2, some(1, 600))
	fresh := open(t, store(t, 9))
	for _, end := range []int{0, -1} {
		if err := fresh.Save(end, 1, nil); err != wrong("end", end, api.ErrRange) {
			t.Errorf("%#v", err)
		}
	}
}

// TestSaveEdges: 12.5, ends one by one and up to the last number, and terms that fall, and rise, from 1 to the last number.
func TestSaveEdges(t *testing.T) {
	d := store(t, 9)
	s := open(t, d)
	for _, c := range []struct{ end, term int }{{1, 1}, {2, api.MaxNum}, {3, 1}, {64, 64}, {api.MaxNum - 1, 2}, {api.MaxNum, api.MaxNum}} {
		save(t, s, c.end, c.term, []byte{byte(c.term)})
		has(t, s, c.end, c.term, []byte{byte(c.term)})
		s = open(t, d)
		has(t, s, c.end, c.term, []byte{byte(c.term)})
	}
	if err := s.Save(api.MaxNum, 1, nil); err != wrong("end", api.MaxNum, api.ErrRange) {
		t.Errorf("%#v", err)
	}
	if err := s.Save(api.MaxNum+1, 1, nil); err != wrong("end", api.MaxNum+1, api.ErrRange) {
		t.Errorf("%#v", err)
	}
}

// worded does on the store what 12.5 words, step by step, for a snapshot that was opened when all was synced.
func worded(t *testing.T, d *block.Disk, end, term int, b []byte) error {
	t.Helper()
	x := stepsOf(t, d)
	undone := func(err error) error {
		if err := x.chain.Cut(x.start); err != nil {
			t.Fatal(err)
		}
		return wrong("save", end, err)
	}
	for i, p := range pieces(b) {
		if _, err := x.chain.Append(p); err != nil {
			return undone(wrong("piece", i*512, err))
		}
	}
	d.Sync()
	if err := x.slot.Put(value(x.start, end, term, len(b))); err != nil {
		return undone(err)
	}
	d.Sync()
	x.trim(t)
	d.Sync()
	return nil
}

// TestSaveWorded: 12.5, block by block what snapshots leave, on stores of every room, is what the chapter's steps leave, be they saved or refused; and 12.6, one that is refused leaves the last one.
func TestSaveWorded(t *testing.T) {
	for _, first := range []int{0, 1, 47, 600} {
		for _, second := range sizes {
			for room := range 2 + blocks(first) + blocks(second) + 4 {
				d := store(t, room)
				s := open(t, d)
				if s.Save(5, 2, some(1, first)) != nil {
					continue
				}
				end, term, b := 5, 2, some(1, first)
				for i := range 4 {
					x := copied(t, d)
					want := worded(t, x, 6+i, 3+i, some(2+i, second))
					if err := s.Save(6+i, 3+i, some(2+i, second)); err != want {
						t.Fatalf("%#v, not %#v", err, want)
					}
					if want == nil {
						end, term, b = 6+i, 3+i, some(2+i, second)
					}
					cells(t, d, x.Cells()...)
					counts(t, d, x.Used(), 0)
					has(t, s, end, term, b)
					if has(t, open(t, d), end, term, b); t.Failed() {
						t.Fatalf("%d bytes behind %d, room %d, number %d", second, first, room, i)
					}
				}
			}
		}
	}
}

// TestSaveFull: 12.5, without room for a piece it is told which one, at its first byte, and what was written is cut: a mark stands where it began, and that is synced.
func TestSaveFull(t *testing.T) {
	for _, c := range []struct{ room, piece, at, used int }{
		{13, 0, base + 12, 13},
		{24, 0, base + 12, 13},
		{25, 512, base + 24, 14},
		{36, 512, base + 24, 14},
		{37, 1024, base + 36, 14},
		{38, 1024, base + 36, 14},
	} {
		d := store(t, c.room)
		s := open(t, d)
		b := some(1, 512)
		save(t, s, 5, 2, b)
		was := d.Cells()
		want := wrong("save", 9, wrong("piece", c.piece, wrong("append", c.at, api.ErrFull)))
		if err := s.Save(9, 2, some(2, 1200)); err != want {
			t.Errorf("room %d: %#v, not %#v", c.room, err, want)
		}
		if c.piece > 0 {
			was = append(was, api.Cell{At: base + 12, Bytes: made(uint64(13+blocks(c.piece)), begins)})
		}
		cells(t, d, was...)
		counts(t, d, c.used, 0)
		has(t, s, 5, 2, b)
		d.Crash(nil, 0)
		has(t, open(t, d), 5, 2, b)
	}
}

// TestSaveFullAgain: 12.5 and 12.6, one that is refused leaves room for a smaller one, and its mark is free with the blocks of the last one.
func TestSaveFullAgain(t *testing.T) {
	d := store(t, 60)
	s := open(t, d)
	save(t, s, 5, 2, some(1, 600))
	for i := range 3 {
		if err := s.Save(9, 2, some(2, 3000)); err == nil {
			t.Fatal("it is saved")
		}
		has(t, s, 5, 2, some(1, 600))
		has(t, open(t, d), 5, 2, some(1, 600))
		counts(t, d, 1+14+i+1, 0)
	}
	save(t, s, 9, 2, some(3, 700))
	counts(t, d, 2+17, 0)
	head(t, d, 2, value(base+17, 9, 2, 700))
	has(t, open(t, d), 9, 2, some(3, 700))
}

// TestSaveHeadFull: 12.5, without room for the head what was written is cut, too; where nothing was, nothing is.
func TestSaveHeadFull(t *testing.T) {
	d := store(t, 2)
	s := open(t, d)
	if err := s.Save(5, 2, some(1, 92)); err != wrong("save", 5, wrong("turn", 1, wrong("block", 5, api.ErrFull))) {
		t.Errorf("%#v", err)
	}
	cells(t, d, api.Cell{At: base, Bytes: made(3, begins)})
	counts(t, d, 1, 0)
	has(t, s, 0, 0, nil)
	has(t, open(t, d), 0, 0, nil)
	save(t, s, 5, 2, nil)
	counts(t, d, 1, 0)
	d = store(t, 1)
	s = open(t, d)
	save(t, s, 5, 2, nil)
	was := d.Cells()
	if err := s.Save(6, 2, nil); err != wrong("save", 6, wrong("turn", 2, wrong("block", 4, api.ErrFull))) {
		t.Errorf("%#v", err)
	}
	cells(t, d, was...)
	counts(t, d, 1, 0)
	has(t, s, 5, 2, nil)
	has(t, open(t, d), 5, 2, nil)
}

// found is a store on which a head was put that is not synced, and its records.
func found(t *testing.T) *block.Disk {
	t.Helper()
	d := laid(t, base, 5, 2, 3, []byte{1, 2, 3}, []byte{4})
	s, err := slot.Open(d, 4)
	if err != nil {
		t.Fatal(err)
	}
	d.Sync()
	if err := s.Put(value(base+1, 6, 3, 1)); err != nil {
		t.Fatal(err)
	}
	return d
}

// TestSaveSyncs: 12.5, the store is synced ahead of the head's put, if something was appended, and only then.
func TestSaveSyncs(t *testing.T) {
	d := found(t)
	s := open(t, d)
	has(t, s, 6, 3, []byte{4})
	counts(t, d, 4, 1)
	if err := s.Save(9, 4, nil); err != wrong("save", 9, wrong("turn", 2, api.ErrState)) {
		t.Errorf("%#v", err)
	}
	counts(t, d, 4, 1)
	has(t, s, 6, 3, []byte{4})
	save(t, s, 9, 4, []byte{5})
	has(t, s, 9, 4, []byte{5})
	counts(t, d, 4, 0)
	d.Crash(nil, 0)
	has(t, open(t, d), 9, 4, []byte{5})
}

// TestSaveOthers: 12.5, what others wrote into the same store is synced with a snapshot that is saved, or cut, and is not where nothing was appended.
func TestSaveOthers(t *testing.T) {
	for _, c := range []struct {
		size, loose int
		ok          bool
	}{{0, 0, true}, {1, 0, true}, {600, 0, true}, {1400, 0, false}} {
		d := store(t, 30)
		s := open(t, d)
		save(t, s, 5, 2, []byte{1})
		if err := d.Write(20, []byte{7}); err != nil {
			t.Fatal(err)
		}
		if err := s.Save(9, 2, some(1, c.size)); (err == nil) != c.ok {
			t.Errorf("%d bytes: %v", c.size, err)
		}
		if d.Loose() != c.loose {
			t.Errorf("%d bytes: %d loose", c.size, d.Loose())
		}
		d.Crash(nil, 0)
		if b, err := d.Read(20); err != nil || b[0] != 7 {
			t.Errorf("%d bytes: %v, %v", c.size, b, err)
		}
	}
	d := store(t, 4)
	s := open(t, d)
	save(t, s, 5, 2, []byte{1})
	if err := d.Write(20, []byte{7}); err != nil {
		t.Fatal(err)
	}
	if err := s.Save(9, 2, some(1, 500)); err != wrong("save", 9, wrong("piece", 0, wrong("append", base+1, api.ErrFull))) {
		t.Errorf("%#v", err)
	}
	counts(t, d, 3, 1)
}

// TestSaveLastBlock: 12.5 and 12.6, at the last block of a store: what would go beyond it is refused, and what ends with it is there, also if the next one has no bytes.
func TestSaveLastBlock(t *testing.T) {
	for _, c := range []struct {
		start, size int
		full        bool
	}{
		{api.MaxNum, 46, false},
		{api.MaxNum, 47, true},
		{api.MaxNum - 1, 92, false},
		{api.MaxNum - 1, 93, true},
		{api.MaxNum - 12, 513, false},
		{api.MaxNum - 12, 600, true},
	} {
		d := store(t, 99)
		lay(t, d, 1, value(c.start, 5, 2, 0))
		s := open(t, d)
		err := s.Save(6, 3, some(1, c.size))
		if !c.full {
			if err != nil {
				t.Fatal(err)
			}
			has(t, s, 6, 3, some(1, c.size))
			has(t, open(t, d), 6, 3, some(1, c.size))
			x := copied(t, d)
			beyond(t, d, s)
			beyond(t, x, open(t, x))
			continue
		}
		at := len(pieces(some(1, c.size))) - 1
		if want := wrong("save", 6, wrong("piece", 512*at, wrong("append", c.start+12*at, api.ErrFull))); err != want {
			t.Errorf("%#v, not %#v", err, want)
		}
		has(t, s, 5, 2, nil)
		has(t, open(t, d), 5, 2, nil)
	}
}

// beyond saves snapshots behind one of the offset 6 that ends with the last block of a store.
func beyond(t *testing.T, d *block.Disk, s *snaps.Store) {
	t.Helper()
	want := wrong("save", 7, wrong("piece", 0, wrong("append", api.MaxNum+1, api.ErrFull)))
	if err := s.Save(7, 3, []byte{1}); err != want {
		t.Errorf("%#v, not %#v", err, want)
	}
	for end := 7; end < 10; end++ {
		save(t, s, end, 4, nil)
		has(t, s, end, 4, nil)
		has(t, open(t, d), end, 4, nil)
		counts(t, d, 2, 0)
	}
	s = open(t, d)
	save(t, s, 10, 4, []byte{3})
	has(t, open(t, d), 10, 4, []byte{3})
}

// TestSaveMemory: 12.5 and R3, nothing is written behind what is handed in, though there is room, nor into it.
func TestSaveMemory(t *testing.T) {
	for _, size := range sizes {
		b := some(1, size+100)
		save(t, open(t, store(t, 99)), 5, 2, b[:size])
		if !bytes.Equal(b, some(1, size+100)) {
			t.Errorf("%d bytes are changed", size)
		}
	}
}

// TestSaveMany: 12.5, one behind the other the blocks go on, and only the last one's are taken.
func TestSaveMany(t *testing.T) {
	d := store(t, 60)
	s := open(t, d)
	next := base
	for i := 1; i < 300; i++ {
		b := some(i, sizes[i*5%len(sizes)])
		save(t, s, i*3, i, b)
		has(t, s, i*3, i, b)
		head(t, d, i, value(next, i*3, i, len(b)))
		next += blocks(len(b))
		counts(t, d, min(i, 2)+blocks(len(b)), 0)
		if i%7 == 0 {
			s = open(t, d)
		}
	}
	if l := slices.MaxFunc(d.Cells(), func(a, b api.Cell) int { return a.At - b.At }); l.At >= next {
		t.Errorf("block %d is taken", l.At)
	}
}
