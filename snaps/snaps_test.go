package snaps_test

import (
	"bytes"
	"encoding/binary"
	"math"
	"slices"
	"testing"

	"castellan/api"
	"castellan/block"
	"castellan/chain"
	"castellan/fault"
	"castellan/slot"
	"castellan/snaps"
	"castellan/wire"
)

// begins is what is told, beside how much is left, where a record begins; base is the block from which on records stand.
const (
	begins = 1 << 15
	base   = 1 << 24
)

// nothing is a block that is free.
var nothing = make([]byte, 64)

// wrong is a fault as the chapter words it: of op, at so much, a code, or an error that it wraps.
func wrong(op string, at int, err error) error { return api.Fault{Op: op, At: at, Err: err} }

// store is a new one that has room for so many.
func store(t *testing.T, room int) *block.Disk {
	t.Helper()
	d, err := block.New(room)
	if err != nil {
		t.Fatal(err)
	}
	return d
}

// open is a snapshot that must open.
func open(t *testing.T, d *block.Disk) *snaps.Store {
	t.Helper()
	s, err := snaps.Open(d)
	if err != nil || s == nil {
		t.Fatal(err)
	}
	return s
}

// save has a snapshot that must be saved.
func save(t *testing.T, s *snaps.Store, end, term int, b []byte) {
	t.Helper()
	if err := s.Save(end, term, b); err != nil {
		t.Fatalf("%d bytes of %d: %v", len(b), end, err)
	}
}

// some is so many bytes, which are like no others of another seed, nor like one another within a piece.
func some(seed, many int) []byte {
	b := make([]byte, many)
	for i := range b {
		b[i] = byte(seed*31 + i*7 + i/256*13 + i/512*5)
	}
	return b
}

// pieces is bytes as records are made of them: 512 each, the last one what is left.
func pieces(b []byte) [][]byte {
	var l [][]byte
	for len(b) > 512 {
		l = append(l, b[:512])
		b = b[512:]
	}
	if len(b) > 0 {
		l = append(l, b)
	}
	return l
}

// value is a head's value by 12.1's words.
func value(start, end, term, size int) []byte {
	return wire.Int(wire.Int(wire.Int(wire.Int(nil, start), end), term), size)
}

// lay puts a value as the head of a store, as often as its turn is to be, and syncs it.
func lay(t *testing.T, d *block.Disk, turn int, v []byte) {
	t.Helper()
	s, err := slot.Open(d, 4)
	if err != nil {
		t.Fatal(err)
	}
	for range turn {
		if err := s.Put(v); err != nil {
			t.Fatal(err)
		}
		s.Sync()
	}
}

// head holds the head of a store against what it should say.
func head(t *testing.T, d *block.Disk, turn int, want []byte) {
	t.Helper()
	s, err := slot.Open(d, 4)
	if err != nil || s.Turn() != turn || !bytes.Equal(s.Value(), want) {
		t.Errorf("turn %d, %v, %v, not turn %d, %v", s.Turn(), s.Value(), err, turn, want)
	}
}

// laid is a store whose head says where records begin, and of what the snapshot is, with these records there, not synced.
func laid(t *testing.T, start, end, term, size int, records ...[]byte) *block.Disk {
	t.Helper()
	d := store(t, 999)
	lay(t, d, 1, value(start, end, term, size))
	c, _, err := chain.Open(d, base, start)
	if err != nil {
		t.Fatal(err)
	}
	for _, b := range records {
		if _, err := c.Append(b); err != nil {
			t.Fatal(err)
		}
	}
	return d
}

// stands holds the records of a store, from a block on, against pieces, and where the next one begins against what it should be.
func stands(t *testing.T, d *block.Disk, from, next int, want ...[]byte) {
	t.Helper()
	c, links, err := chain.Open(d, base, from)
	if err != nil || len(links) != len(want) {
		t.Fatalf("%d records, %v, not %d", len(links), err, len(want))
	}
	for i, b := range want {
		if !bytes.Equal(links[i].Bytes, b) {
			t.Errorf("record %d: %v, not %v", i, links[i].Bytes, b)
		}
	}
	if c.Next() != next {
		t.Errorf("next %d, not %d", c.Next(), next)
	}
}

// made is a block of a chain: the stamp, what is left, what it has of the record, the stamp once more.
func made(stamp uint64, left int, own ...byte) []byte {
	b := binary.BigEndian.AppendUint64(nil, stamp)
	b = binary.BigEndian.AppendUint16(b, uint16(left))
	b = append(append(b, own...), make([]byte, 46-len(own))...)
	return binary.BigEndian.AppendUint64(b, stamp)
}

// turned is a block of a slot: the turn, how long the value is, the value, the turn once more.
func turned(turn uint64, value ...byte) []byte {
	b := binary.BigEndian.AppendUint64(nil, turn)
	b = append(append(b, byte(len(value))), value...)
	b = append(b, make([]byte, 47-len(value))...)
	return binary.BigEndian.AppendUint64(b, turn)
}

// cells holds the blocks that are synced against what they should be.
func cells(t *testing.T, d *block.Disk, want ...api.Cell) {
	t.Helper()
	got := d.Cells()
	if slices.EqualFunc(got, want, func(a, b api.Cell) bool { return a.At == b.At && bytes.Equal(a.Bytes, b.Bytes) }) {
		return
	}
	t.Errorf("%d blocks, not %d", len(got), len(want))
	for i := range min(len(got), len(want)) {
		if got[i].At != want[i].At || !bytes.Equal(got[i].Bytes, want[i].Bytes) {
			t.Errorf("block %d: %v, not %d: %v", got[i].At, got[i].Bytes, want[i].At, want[i].Bytes)
		}
	}
}

// counts holds how many blocks are taken, and how many writes are not synced, against what they should be.
func counts(t *testing.T, d *block.Disk, used, loose int) {
	t.Helper()
	if d.Used() != used || d.Loose() != loose {
		t.Errorf("%d taken, %d loose, not %d, %d", d.Used(), d.Loose(), used, loose)
	}
}

// has holds a snapshot against what it is of, and its bytes.
func has(t *testing.T, s *snaps.Store, end, term int, b []byte) {
	t.Helper()
	if m := s.Meta(); m != (api.Meta{End: end, Term: term, Size: len(b)}) {
		t.Errorf("%+v, not of %d, term %d, %d bytes", m, end, term, len(b))
	}
	if got := s.Bytes(); !bytes.Equal(got, b) {
		t.Errorf("of %d: other bytes, %d of them, not %d", end, len(got), len(b))
	}
}

// TestExample: the chapter's example.
func TestExample(t *testing.T) {
	d := store(t, 60)
	s := open(t, d)
	save(t, s, 5, 2, some(1, 600))
	d.Crash(nil, 0)
	s = open(t, d)
	has(t, s, 5, 2, some(1, 600))
	if b, err := s.Chunk(512); err != nil || !bytes.Equal(b, some(1, 600)[512:]) || len(b) != 88 {
		t.Errorf("%v, %v", b, err)
	}
	if err := s.Save(5, 2, some(2, 600)); err != wrong("end", 5, api.ErrRange) {
		t.Errorf("%#v", err)
	}
	has(t, s, 5, 2, some(1, 600))
}

// TestMost: 12.1, how many bytes a snapshot has at most.
func TestMost(t *testing.T) {
	if snaps.Most != 1048576 {
		t.Error(snaps.Most)
	}
}

// TestNew: 12.1, 12.2 and 12.3, on a new store there is an empty snapshot of the offset 0, and opening it writes nothing.
func TestNew(t *testing.T) {
	for _, room := range []int{0, 1, 9} {
		d := store(t, room)
		s := open(t, d)
		has(t, s, 0, 0, nil)
		if b, err := s.Chunk(0); len(b) > 0 || err != nil {
			t.Errorf("%v, %v", b, err)
		}
		counts(t, d, 0, 0)
	}
}

// TestBytes: 12.1 and 12.5, byte by byte what snapshots leave in the blocks from 2^24 on, and the head in the blocks 5 and 4.
func TestBytes(t *testing.T) {
	d := store(t, 60)
	s := open(t, d)
	save(t, s, 5, 2, []byte{9, 8, 7})
	cells(t, d,
		api.Cell{At: 5, Bytes: turned(1, 129, 0, 0, 0, 5, 2, 3)},
		api.Cell{At: base, Bytes: made(1, begins|3, 9, 8, 7)})
	b := some(1, 513)
	save(t, s, 70, 64, b)
	want := []api.Cell{
		{At: 4, Bytes: turned(2, 129, 0, 0, 1, 64, 70, 64, 64, 66, 1)},
		{At: 5, Bytes: turned(1, 129, 0, 0, 0, 5, 2, 3)},
		{At: base + 1, Bytes: made(2, begins|512, b[:46]...)}}
	for i := 1; i < 12; i++ {
		want = append(want, api.Cell{At: base + 1 + i, Bytes: made(uint64(2+i), 512-46*i, b[46*i:min(46*i+46, 512)]...)})
	}
	want = append(want, api.Cell{At: base + 13, Bytes: made(14, begins|1, b[512])})
	cells(t, d, want...)
	save(t, s, 20000, 64, nil)
	cells(t, d, want[0], api.Cell{At: 5, Bytes: turned(3, 129, 0, 0, 14, 128, 0, 78, 32, 64, 64, 0)})
	has(t, open(t, d), 20000, 64, nil)
}

// TestOpenHead: 12.1 and 12.2, heads that are right, at every turn: where records begin, the offset, and the term.
func TestOpenHead(t *testing.T) {
	for turn := 1; turn <= 3; turn++ {
		for _, start := range []int{base, base + 1, 1 << 25, api.MaxNum - 1, api.MaxNum} {
			for _, end := range []int{0, 1, 63, 64, 16384, api.MaxNum - 1} {
				for _, term := range []int{0, 1, 64, api.MaxNum} {
					d := store(t, 9)
					lay(t, d, turn, value(start, end, term, 0))
					s := open(t, d)
					has(t, s, end, term, nil)
					save(t, s, end+1, 3, []byte{1})
					has(t, s, end+1, 3, []byte{1})
					stands(t, d, start, start+1, []byte{1})
					head(t, d, turn+1, value(start, end+1, 3, 1))
				}
			}
		}
	}
	d := store(t, 9)
	lay(t, d, 1, value(base, api.MaxNum, 1, 0))
	has(t, open(t, d), api.MaxNum, 1, nil)
}

// TestOpenHeadEmpty: 12.1, a head that is empty, though it was put, says block 2^24, 0, 0, 0.
func TestOpenHeadEmpty(t *testing.T) {
	for turn := range 4 {
		d := store(t, 4)
		lay(t, d, turn, nil)
		s := open(t, d)
		has(t, s, 0, 0, nil)
		save(t, s, 1, 1, []byte{3})
		stands(t, d, base, base+1, []byte{3})
	}
}

// TestOpenHeadWrong: 12.2, what a reader finds wrong with a head's value, which is told at its turn.
func TestOpenHeadWrong(t *testing.T) {
	above := wire.Int(nil, api.MaxNum+1)
	first := wire.Int(nil, base)
	begun := func(more ...byte) []byte { return slices.Concat(first, more) }
	for _, c := range []struct {
		value []byte
		err   error
	}{
		{[]byte{129}, wrong("num", 0, api.ErrShort)},
		{begun(), wrong("num", 4, api.ErrShort)},
		{begun(1), wrong("num", 5, api.ErrShort)},
		{begun(1, 2), wrong("num", 6, api.ErrShort)},
		{begun(1, 2, 64), wrong("num", 6, api.ErrShort)},
		{[]byte{64, 16, 0, 0, 0}, wrong("num", 0, api.ErrKind)},
		{begun(64, 1, 2, 0), wrong("num", 4, api.ErrKind)},
		{begun(1, 64, 2, 0), wrong("num", 5, api.ErrKind)},
		{begun(1, 2, 64, 0), wrong("num", 6, api.ErrKind)},
		{slices.Concat(above, []byte{1, 2, 0}), wrong("num", 0, api.ErrLimit)},
		{slices.Concat(begun(), above, []byte{2, 0}), wrong("num", 4, api.ErrLimit)},
		{slices.Concat(begun(1), above, []byte{0}), wrong("num", 5, api.ErrLimit)},
		{wire.Int(begun(1, 2), snaps.Most+1), wrong("num", 6, api.ErrLimit)},
		{wire.Int(begun(1, 2), api.MaxNum), wrong("num", 6, api.ErrLimit)},
		{begun(1, 2, 0, 0), wrong("end", 7, api.ErrKind)},
		{begun(1, 2, 0, 7, 7), wrong("end", 7, api.ErrKind)},
		{[]byte{0}, wrong("num", 1, api.ErrShort)},
		{[]byte{16, 1, 2}, wrong("num", 3, api.ErrShort)},
		{[]byte{16, 1, 2, 0, 0}, wrong("end", 4, api.ErrKind)},
	} {
		for turn := 1; turn <= 3; turn++ {
			refused(t, turn, c.value, wrong("head", turn, c.err))
		}
	}
}

// refused holds against an error what is told of a head, which changes nothing.
func refused(t *testing.T, turn int, v []byte, want error) {
	t.Helper()
	d := store(t, 99)
	lay(t, d, turn, v)
	c, _, err := chain.Open(d, base, base)
	if err != nil {
		t.Fatal(err)
	}
	if _, err := c.Append([]byte{1}); err != nil {
		t.Fatal(err)
	}
	used, loose := d.Used(), d.Loose()
	if s, err := snaps.Open(d); s != nil || err != want {
		t.Errorf("%v: %v, %#v, not %#v", v, s, err, want)
	}
	counts(t, d, used, loose)
	d.Sync()
	was := d.Cells()
	if s, err := snaps.Open(d); s != nil || err != want {
		t.Errorf("%v: %v, %#v, not %#v", v, s, err, want)
	}
	cells(t, d, was...)
	counts(t, d, used, 0)
}

// TestOpenStart: 12.2, where records would begin ahead of block 2^24, whatever else the head says.
func TestOpenStart(t *testing.T) {
	for turn := 1; turn <= 3; turn++ {
		for _, start := range []int{base - 1, 1 << 23, 16, 5, 4, 0} {
			refused(t, turn, value(start, 1, 2, 0), wrong("start", start, api.ErrRange))
			refused(t, turn, value(start, 0, 0, 1), wrong("start", start, api.ErrRange))
			refused(t, turn, value(start, api.MaxNum, api.MaxNum, snaps.Most), wrong("start", start, api.ErrRange))
		}
	}
}

// TestOpenNil: 12.2, without a store.
func TestOpenNil(t *testing.T) {
	if s, err := snaps.Open(nil); s != nil || err != wrong("head", 0, wrong("slot", 4, api.ErrArg)) {
		t.Errorf("%v, %#v", s, err)
	}
}

// TestOpenHeadTorn: 12.2, a head that is torn is not there; the one ahead of it is.
func TestOpenHeadTorn(t *testing.T) {
	d := laid(t, base+4, 7, 3, 2, []byte{1, 2}, []byte{5})
	s, err := slot.Open(d, 4)
	if err != nil {
		t.Fatal(err)
	}
	d.Sync()
	if err := s.Put(value(base+5, 9, 4, 1)); err != nil {
		t.Fatal(err)
	}
	d.Crash([]int{1}, 40)
	has(t, open(t, d), 7, 3, []byte{1, 2})
}

// TestOpenBytes: 12.2, the bytes are those of the records, however many each has, up to Size; with nothing behind nothing is written, and nothing synced.
func TestOpenBytes(t *testing.T) {
	for _, start := range []int{base, base + 9} {
		for _, records := range [][][]byte{
			{{1}},
			{{1}, {2}, {3}},
			{some(1, 512)},
			{some(1, 512), some(2, 512)},
			{some(1, 512), some(2, 88)},
			{some(1, 5000), some(2, 3)},
			{some(3, chain.Most)},
		} {
			b := slices.Concat(records...)
			d := laid(t, start, 8, 3, len(b), records...)
			used, loose := d.Used(), d.Loose()
			has(t, open(t, d), 8, 3, b)
			counts(t, d, used, loose)
			d.Sync()
			has(t, open(t, d), 8, 3, b)
			counts(t, d, used, 0)
		}
	}
}

// TestOpenCut: 12.2, at the record behind Size bytes the chain is cut: a mark stands there, what is behind it is free, and the store is synced.
func TestOpenCut(t *testing.T) {
	for _, c := range [][][]byte{{}, {{1}}, {some(1, 512), some(2, 88)}} {
		for _, more := range [][][]byte{{{7}}, {some(5, 512)}, {some(5, 512), {6}, some(7, 300)}} {
			good := slices.Concat(c...)
			d := laid(t, base+2, 8, 3, len(good), slices.Concat(c, more)...)
			blocks := 0
			for _, b := range c {
				blocks += chain.Blocks(len(b))
			}
			behind := 0
			for _, b := range more {
				behind += chain.Blocks(len(b))
			}
			s := open(t, d)
			has(t, s, 8, 3, good)
			counts(t, d, 1+blocks+1, 0)
			stands(t, d, base+2, base+2+blocks+1, c...)
			mark, err := d.Read(base + 2 + blocks)
			if err != nil || !bytes.Equal(mark, made(uint64(blocks+behind+1), begins)) {
				t.Errorf("%v, %v", mark, err)
			}
			has(t, open(t, d), 8, 3, good)
			save(t, s, 9, 4, []byte{2})
			has(t, open(t, d), 9, 4, []byte{2})
			stands(t, d, base+2+blocks+1, base+2+blocks+2, []byte{2})
			counts(t, d, 3, 0)
		}
	}
}

// TestOpenCutFull: 12.2, on a full store the chain is cut, too.
func TestOpenCutFull(t *testing.T) {
	d := store(t, 3)
	lay(t, d, 1, value(base, 8, 3, 1))
	c, _, err := chain.Open(d, base, base)
	if err != nil {
		t.Fatal(err)
	}
	for _, b := range [][]byte{{1}, {2}} {
		if _, err := c.Append(b); err != nil {
			t.Fatal(err)
		}
	}
	has(t, open(t, d), 8, 3, []byte{1})
	counts(t, d, 3, 0)
	stands(t, d, base, base+2, []byte{1})
}

// TestOpenTorn: 12.2, where records have fewer bytes than Size, or one goes beyond it: how many there are is told, and nothing is changed.
func TestOpenTorn(t *testing.T) {
	for _, c := range []struct {
		size    int
		records [][]byte
		many    int
	}{
		{1, nil, 0},
		{snaps.Most, nil, 0},
		{2, [][]byte{{1}}, 1},
		{600, [][]byte{some(1, 512)}, 512},
		{600, [][]byte{some(1, 512), some(2, 87)}, 599},
		{600, [][]byte{some(1, 512), some(2, 89)}, 601},
		{600, [][]byte{some(1, 512), some(2, 512)}, 1024},
		{600, [][]byte{some(1, 512), some(2, 512), {3}}, 1024},
		{1, [][]byte{{1, 2}, {3}, {4}}, 2},
		{1, [][]byte{some(1, chain.Most)}, chain.Most},
	} {
		d := laid(t, base+3, 8, 3, c.size, c.records...)
		used, loose := d.Used(), d.Loose()
		if s, err := snaps.Open(d); s != nil || err != wrong("size", c.many, api.ErrTorn) {
			t.Errorf("%d: %v, %#v, not at %d", c.size, s, err, c.many)
		}
		counts(t, d, used, loose)
		d.Sync()
		was := d.Cells()
		if s, err := snaps.Open(d); s != nil || err != wrong("size", c.many, api.ErrTorn) {
			t.Errorf("%d: %v, %#v, not at %d", c.size, s, err, c.many)
		}
		cells(t, d, was...)
		counts(t, d, used, 0)
	}
}

// TestOpenSpoilt: 12.2, a block that is spoilt ends the records there.
func TestOpenSpoilt(t *testing.T) {
	b := some(4, 1200)
	for at := range 26 {
		d := laid(t, base, 8, 3, len(b), pieces(b)...)
		if err := d.Write(base+at, nothing); err != nil {
			t.Fatal(err)
		}
		if s, err := snaps.Open(d); s != nil || err != wrong("size", at/12*512, api.ErrTorn) {
			t.Errorf("block %d: %v, %#v", at, s, err)
		}
	}
}

// TestOpenAgain: 12.2, a snapshot is found as it is, and can be saved over by whoever opens it.
func TestOpenAgain(t *testing.T) {
	d := store(t, 99)
	for i := 1; i < 9; i++ {
		save(t, open(t, d), i, i, some(i, 200*i))
		has(t, open(t, d), i, i, some(i, 200*i))
	}
}

// TestChunk: 12.4, from every byte on: at most 512 of them, and none behind the last.
func TestChunk(t *testing.T) {
	for _, size := range []int{0, 1, 511, 512, 513, 600, 1024, 1500} {
		d := store(t, 99)
		s := open(t, d)
		b := some(7, size)
		save(t, s, 5, 2, b)
		for range 2 {
			for pos := range size + 1 {
				got, err := s.Chunk(pos)
				if err != nil || !bytes.Equal(got, b[pos:min(pos+512, size)]) {
					t.Fatalf("%d of %d: %v, %v", pos, size, got, err)
				}
			}
			for _, pos := range []int{-1, size + 1, size + 512, math.MaxInt, math.MaxInt - 511, math.MinInt} {
				if got, err := s.Chunk(pos); len(got) > 0 || err != wrong("chunk", pos, api.ErrRange) {
					t.Errorf("%d of %d: %v, %#v", pos, size, got, err)
				}
			}
			s = open(t, d)
		}
	}
}

// TestMemory: 12.3, 12.4, 12.5 and R3, what is told is memory of its own, and what is saved is not kept, nor what lies behind it handed out.
func TestMemory(t *testing.T) {
	for _, reopened := range []bool{false, true} {
		d := store(t, 99)
		s := open(t, d)
		b := append(some(3, 600), 1, 2, 3)[:600]
		save(t, s, 5, 2, b)
		if !bytes.Equal(b[:603], append(some(3, 600), 1, 2, 3)) {
			t.Error("what was handed in is changed")
		}
		clear(b[:cap(b)])
		if reopened {
			s = open(t, d)
		}
		for range 2 {
			all := s.Bytes()
			chunk, err := s.Chunk(100)
			if err != nil || len(all) != 600 || len(chunk) != 500 {
				t.Fatal(err)
			}
			if !bytes.Equal(chunk, all[100:]) {
				t.Error("a chunk has other bytes")
			}
			clear(chunk[:cap(chunk)])
			if !bytes.Equal(all, some(3, 600)) {
				t.Error("a chunk shares memory with all bytes")
			}
			clear(all[:cap(all)])
		}
		has(t, s, 5, 2, some(3, 600))
		has(t, open(t, d), 5, 2, some(3, 600))
	}
}

// TestErrorsTold: 12.2, an error is found by its code, however deep it is wrapped.
func TestErrorsTold(t *testing.T) {
	d := store(t, 9)
	lay(t, d, 2, []byte{1})
	if _, err := snaps.Open(d); fault.Of(err) != api.ErrShort || !slices.Equal(fault.Path(err), []string{"head", "num"}) {
		t.Errorf("%#v", err)
	}
}
