package block_test

import (
	"bytes"
	"math"
	"slices"
	"testing"

	"castellan/api"
	"castellan/block"
)

// far are numbers that neither a block nor a room has.
var far = []int{-1, -2, api.MaxNum + 1, 1 << 32, 1<<32 + 5, math.MaxInt, math.MinInt}

// wrong is a fault as the chapter words it: of op, at so much, a code.
func wrong(op string, at int, c api.Code) error { return api.Fault{Op: op, At: at, Err: c} }

// padded is a block that begins with these bytes.
func padded(b ...byte) []byte { return append(b, make([]byte, 64-len(b))...) }

// filled is a block of one byte.
func filled(b byte) []byte { return bytes.Repeat([]byte{b}, 64) }

// store is a new one that has room for so many.
func store(t *testing.T, room int) *block.Disk {
	t.Helper()
	d, err := block.New(room)
	if err != nil || d == nil {
		t.Fatalf("room %d: %v", room, err)
	}
	return d
}

// write writes a block that must be taken.
func write(t *testing.T, d *block.Disk, at int, b ...byte) {
	t.Helper()
	if err := d.Write(at, b); err != nil {
		t.Fatalf("block %d: %v", at, err)
	}
}

// free frees a block that there is.
func free(t *testing.T, d *block.Disk, at int) {
	t.Helper()
	if err := d.Free(at); err != nil {
		t.Fatalf("block %d: %v", at, err)
	}
}

// reads holds a block against what it should be.
func reads(t *testing.T, d *block.Disk, at int, want []byte) {
	t.Helper()
	if b, err := d.Read(at); err != nil || !bytes.Equal(b, want) {
		t.Errorf("block %d: %v, %v, not %v", at, b, err, want)
	}
}

// counts holds how many blocks are taken, and how many writes are not synced, against what they should be.
func counts(t *testing.T, d *block.Disk, used, loose int) {
	t.Helper()
	if d.Used() != used || d.Loose() != loose {
		t.Errorf("%d taken, %d loose, not %d, %d", d.Used(), d.Loose(), used, loose)
	}
}

// cells holds the blocks that are synced against what they should be.
func cells(t *testing.T, d *block.Disk, want ...api.Cell) {
	t.Helper()
	if got := d.Cells(); !slices.EqualFunc(got, want, sameCell) {
		t.Errorf("%v, not %v", got, want)
	}
}

// sameCell tells whether two blocks that are synced are the same.
func sameCell(a, b api.Cell) bool { return a.At == b.At && bytes.Equal(a.Bytes, b.Bytes) }

// TestExample: the chapter's example, byte by byte.
func TestExample(t *testing.T) {
	d := store(t, 2)
	write(t, d, 5, 1, 2)
	d.Sync()
	write(t, d, 5, 8, 9)
	write(t, d, 6, 3)
	if err := d.Write(7, nil); err != wrong("block", 7, api.ErrFull) {
		t.Errorf("%#v", err)
	}
	counts(t, d, 2, 2)
	d.Crash([]int{1}, 1)
	counts(t, d, 1, 0)
	reads(t, d, 5, padded(8, 2))
	reads(t, d, 6, padded())
	cells(t, d, api.Cell{At: 5, Bytes: padded(8, 2)})
}

// TestNew: 8.1, a store without any block taken, and its room at the edges of what there may be.
func TestNew(t *testing.T) {
	if block.Size != 64 {
		t.Errorf("%d", block.Size)
	}
	for _, room := range []int{0, 1, 2, 64, api.MaxNum - 1, api.MaxNum} {
		d := store(t, room)
		counts(t, d, 0, 0)
		cells(t, d)
		reads(t, d, 0, padded())
		reads(t, d, api.MaxNum, padded())
		if d.Room() != room {
			t.Errorf("room for %d, not %d", d.Room(), room)
		}
	}
	for _, room := range far {
		if d, err := block.New(room); d != nil || err != wrong("room", room, api.ErrRange) {
			t.Errorf("room %d: %v, %#v", room, d, err)
		}
	}
}

// TestNewApart: 8.1, stores have nothing in common.
func TestNewApart(t *testing.T) {
	a, b := store(t, 1), store(t, 1)
	write(t, a, 3, 7)
	a.Sync()
	counts(t, b, 0, 0)
	cells(t, b)
	reads(t, b, 3, padded())
}

// TestRange: 8.2 to 8.4, blocks from the first to the last one, and those that there are not; what is refused changes nothing.
func TestRange(t *testing.T) {
	d := store(t, 4)
	for i, at := range []int{0, 1, api.MaxNum - 1, api.MaxNum} {
		write(t, d, at, byte(i), 9)
		reads(t, d, at, padded(byte(i), 9))
	}
	counts(t, d, 4, 4)
	for _, at := range far {
		want := wrong("block", at, api.ErrRange)
		if err := d.Write(at, []byte{1}); err != want {
			t.Errorf("write %d: %#v", at, err)
		}
		if err := d.Free(at); err != want {
			t.Errorf("free %d: %#v", at, err)
		}
		if b, err := d.Read(at); len(b) != 0 || err != want {
			t.Errorf("read %d: %v, %#v", at, b, err)
		}
	}
	counts(t, d, 4, 4)
	free(t, d, 0)
	free(t, d, api.MaxNum)
	d.Sync()
	cells(t, d, api.Cell{At: 1, Bytes: padded(1, 9)}, api.Cell{At: api.MaxNum - 1, Bytes: padded(2, 9)})
}

// TestWriteSize: 8.2, from no byte to a whole block, with noughts behind whatever was there; more is refused.
func TestWriteSize(t *testing.T) {
	d := store(t, 1)
	for n := range 65 {
		write(t, d, 3, filled(255)...)
		write(t, d, 3, filled(7)[:n]...)
		reads(t, d, 3, padded(filled(7)[:n]...))
	}
	write(t, d, 3, 1, 2)
	many := d.Loose()
	for _, n := range []int{65, 66, 128, 4096, 1 << 16} {
		if err := d.Write(3, make([]byte, n)); err != wrong("size", n, api.ErrLimit) {
			t.Errorf("%d bytes: %#v", n, err)
		}
	}
	counts(t, d, 1, many)
	reads(t, d, 3, padded(1, 2))
}

// TestWriteWrong: 8.2, the error that is named first is answered, and a store that refused is as it was.
func TestWriteWrong(t *testing.T) {
	d := store(t, 1)
	write(t, d, 5, 1)
	over := make([]byte, 65)
	for _, c := range []struct {
		at   int
		b    []byte
		want error
	}{
		{-1, over, wrong("block", -1, api.ErrRange)},
		{-1, nil, wrong("block", -1, api.ErrRange)},
		{api.MaxNum + 1, over, wrong("block", api.MaxNum+1, api.ErrRange)},
		{5, over, wrong("size", 65, api.ErrLimit)},
		{6, over, wrong("size", 65, api.ErrLimit)},
		{6, nil, wrong("block", 6, api.ErrFull)},
		{0, filled(1), wrong("block", 0, api.ErrFull)},
		{api.MaxNum, nil, wrong("block", api.MaxNum, api.ErrFull)},
		{5, nil, nil},
	} {
		if err := d.Write(c.at, c.b); err != c.want {
			t.Errorf("block %d, %d bytes: %#v, not %#v", c.at, len(c.b), err, c.want)
		}
	}
	counts(t, d, 1, 2)
	d.Sync()
	cells(t, d, api.Cell{At: 5, Bytes: padded()})
}

// TestTaken: 8.2, which blocks are taken, so that one that is not finds no room, or does.
func TestTaken(t *testing.T) {
	for name, c := range map[string]struct {
		room int
		act  func(d *block.Disk)
		used int
	}{
		"no room at all":               {0, func(d *block.Disk) {}, 0},
		"freed alone, no room":         {0, func(d *block.Disk) { d.Free(1) }, 0},
		"written":                      {1, func(d *block.Disk) { d.Write(1, nil) }, 1},
		"written twice":                {1, func(d *block.Disk) { d.Write(1, nil); d.Write(1, nil) }, 1},
		"synced":                       {1, func(d *block.Disk) { d.Write(1, nil); d.Sync() }, 1},
		"synced, written":              {1, func(d *block.Disk) { d.Write(1, nil); d.Sync(); d.Write(1, nil) }, 1},
		"written, freed":               {1, func(d *block.Disk) { d.Write(1, nil); d.Free(1) }, 1},
		"freed, written":               {1, func(d *block.Disk) { d.Free(1); d.Write(1, nil) }, 1},
		"synced, freed":                {1, func(d *block.Disk) { d.Write(1, nil); d.Sync(); d.Free(1) }, 1},
		"synced, freed twice":          {1, func(d *block.Disk) { d.Write(1, nil); d.Sync(); d.Free(1); d.Free(1) }, 1},
		"synced, freed, written":       {1, func(d *block.Disk) { d.Write(1, nil); d.Sync(); d.Free(1); d.Write(1, nil) }, 1},
		"written, another freed":       {1, func(d *block.Disk) { d.Write(1, nil); d.Free(2) }, 1},
		"kept in a crash":              {1, func(d *block.Disk) { d.Write(1, nil); d.Crash([]int{1}, 64) }, 1},
		"kept in a crash, not a byte":  {1, func(d *block.Disk) { d.Write(1, []byte{1}); d.Crash([]int{1}, 0) }, 1},
		"its freeing lost in a crash":  {1, func(d *block.Disk) { d.Write(1, nil); d.Sync(); d.Free(1); d.Crash(nil, 0) }, 1},
		"two, one freed":               {2, func(d *block.Disk) { d.Write(1, nil); d.Write(2, nil); d.Sync(); d.Free(2) }, 2},
		"two, one synced, one written": {2, func(d *block.Disk) { d.Write(1, nil); d.Sync(); d.Write(2, nil) }, 2},
	} {
		t.Run(name, func(t *testing.T) {
			d := store(t, c.room)
			c.act(d)
			loose := d.Loose()
			counts(t, d, c.used, loose)
			if err := d.Write(9, []byte{1}); err != wrong("block", 9, api.ErrFull) {
				t.Errorf("%#v", err)
			}
			counts(t, d, c.used, loose)
			if c.used > 0 {
				write(t, d, 1, 4)
				counts(t, d, c.used, loose+1)
			}
		})
	}
}

// TestTakenNoMore: 8.2, 8.5 and 8.6, how room comes back.
func TestTakenNoMore(t *testing.T) {
	for name, act := range map[string]func(d *block.Disk){
		"freed, synced":            func(d *block.Disk) { d.Free(1); d.Sync() },
		"written, freed, synced":   func(d *block.Disk) { d.Write(1, nil); d.Free(1); d.Sync() },
		"its freeing kept":         func(d *block.Disk) { d.Free(1); d.Crash([]int{1}, 64) },
		"its freeing kept, no cut": func(d *block.Disk) { d.Free(1); d.Crash([]int{1}, 0) },
		"wiped":                    func(d *block.Disk) { d.Wipe() },
	} {
		t.Run(name, func(t *testing.T) {
			d := store(t, 1)
			write(t, d, 1, 5)
			d.Sync()
			act(d)
			counts(t, d, 0, 0)
			cells(t, d)
			reads(t, d, 1, padded())
			write(t, d, 9)
			counts(t, d, 1, 1)
		})
	}
	d := store(t, 1)
	write(t, d, 1, 5)
	d.Crash(nil, 64)
	write(t, d, 9)
	counts(t, d, 1, 1)
}

// TestFree: 8.3, a block that is free is noughts, and that is a write, whatever the block was.
func TestFree(t *testing.T) {
	d := store(t, 2)
	free(t, d, 4)
	counts(t, d, 0, 1)
	write(t, d, 4, 1)
	free(t, d, 4)
	free(t, d, 4)
	counts(t, d, 1, 4)
	reads(t, d, 4, padded())
	write(t, d, 4, 2)
	reads(t, d, 4, padded(2))
	d.Sync()
	counts(t, d, 1, 0)
	free(t, d, 4)
	reads(t, d, 4, padded())
	cells(t, d, api.Cell{At: 4, Bytes: padded(2)})
	d.Sync()
	counts(t, d, 0, 0)
	cells(t, d)
}

// TestRead: 8.4, a block as it was written last, synced or not.
func TestRead(t *testing.T) {
	d := store(t, 3)
	write(t, d, 2, filled(1)...)
	reads(t, d, 2, filled(1))
	d.Sync()
	reads(t, d, 2, filled(1))
	write(t, d, 2, 5)
	write(t, d, 3, 6)
	reads(t, d, 2, padded(5))
	reads(t, d, 3, padded(6))
	reads(t, d, 1, padded())
	reads(t, d, 4, padded())
	free(t, d, 2)
	reads(t, d, 2, padded())
	write(t, d, 2, 7)
	reads(t, d, 2, padded(7))
	counts(t, d, 2, 4)
}

// TestSync: 8.5, all writes are done in order, and none is left.
func TestSync(t *testing.T) {
	d := store(t, 4)
	d.Sync()
	counts(t, d, 0, 0)
	write(t, d, 8, 1)
	write(t, d, 6, 2)
	write(t, d, 8, 3)
	free(t, d, 6)
	free(t, d, 7)
	write(t, d, 7, 4)
	write(t, d, 9, 5)
	counts(t, d, 4, 7)
	cells(t, d)
	d.Sync()
	want := []api.Cell{{At: 7, Bytes: padded(4)}, {At: 8, Bytes: padded(3)}, {At: 9, Bytes: padded(5)}}
	for range 3 {
		counts(t, d, 3, 0)
		cells(t, d, want...)
		d.Sync()
	}
	d.Crash([]int{1, 1, 1}, 0)
	cells(t, d, want...)
	if d.Room() != 4 {
		t.Errorf("room for %d", d.Room())
	}
}

// TestWipe: 8.6, a store that is wiped is as a new one, with the room that it had.
func TestWipe(t *testing.T) {
	d := store(t, 3)
	d.Wipe()
	counts(t, d, 0, 0)
	write(t, d, 1, 1)
	write(t, d, 2, 2)
	d.Sync()
	write(t, d, 2, 3)
	write(t, d, 4, 4)
	free(t, d, 1)
	d.Wipe()
	for range 2 {
		counts(t, d, 0, 0)
		cells(t, d)
		for at := range 6 {
			reads(t, d, at, padded())
		}
		d.Sync()
	}
	for at := range 3 {
		write(t, d, at+4, 5)
	}
	if err := d.Write(9, nil); d.Room() != 3 || err != wrong("block", 9, api.ErrFull) {
		t.Errorf("room for %d, %#v", d.Room(), err)
	}
	d.Sync()
	cells(t, d, api.Cell{At: 4, Bytes: padded(5)}, api.Cell{At: 5, Bytes: padded(5)}, api.Cell{At: 6, Bytes: padded(5)})
}

// TestCells: 8.7, blocks that are synced, all of them and no others, by their numbers.
func TestCells(t *testing.T) {
	d := store(t, 400)
	var want []api.Cell
	for i := range 300 {
		at := i * 31 % 300 * 1000
		write(t, d, at, byte(at/1000), 1)
		want = append(want, api.Cell{At: i * 1000, Bytes: padded(byte(i), 1)})
	}
	cells(t, d)
	d.Sync()
	cells(t, d, want...)
	write(t, d, 5, 9)
	write(t, d, 1000, 9)
	free(t, d, 2000)
	cells(t, d, want...)
	d.Sync()
	want[1].Bytes = padded(9)
	want = slices.Delete(want, 2, 3)
	cells(t, d, slices.Insert(want, 1, api.Cell{At: 5, Bytes: padded(9)})...)
}

// spoil writes over all that a store answers of a block that is synced, and of one that is free.
func spoil(t *testing.T, d *block.Disk, synced, none int) {
	t.Helper()
	l := d.Cells()
	if len(l) == 0 {
		t.Fatal("nothing is synced")
	}
	answers := [][]byte{l[0].Bytes}
	for _, at := range []int{synced, none} {
		b, err := d.Read(at)
		if err != nil {
			t.Fatal(err)
		}
		answers = append(answers, b)
	}
	for _, b := range answers {
		// What lies behind the length is the caller's, too.
		copy(b[:cap(b)], bytes.Repeat([]byte{8}, cap(b)))
	}
	l[0].At = 7
}

// TestMemory: R3, what is handed in is neither changed nor kept, and what is answered is nobody else's.
func TestMemory(t *testing.T) {
	d := store(t, 2)
	memory := filled(6)
	if err := d.Write(1, memory[:2]); err != nil || !bytes.Equal(memory, filled(6)) {
		t.Fatalf("%v, %v", memory, err)
	}
	memory[0] = 9
	reads(t, d, 1, padded(6, 6))
	d.Sync()
	memory[1] = 9
	spoil(t, d, 1, 3)
	reads(t, d, 1, padded(6, 6))
	cells(t, d, api.Cell{At: 1, Bytes: padded(6, 6)})
	write(t, d, 1, 5)
	spoil(t, d, 1, 3)
	reads(t, d, 1, padded(5))
	reads(t, d, 3, padded())
	keep := []int{3, 0, 4}
	d.Crash(keep[:1], 1)
	if !slices.Equal(keep, []int{3, 0, 4}) {
		t.Errorf("%v", keep)
	}
	reads(t, d, 1, padded(5, 6))
	reads(t, d, 3, padded())
	cells(t, d, api.Cell{At: 1, Bytes: padded(5, 6)})
}
