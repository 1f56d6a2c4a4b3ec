package mlog_test

import (
	"bytes"
	"encoding/binary"
	"math"
	"slices"
	"strings"
	"testing"

	"castellan/api"
	"castellan/batch"
	"castellan/block"
	"castellan/chain"
	"castellan/mlog"
	"castellan/slot"
	"castellan/wire"
)

// begins is what is told, beside how much is left, where a record begins.
const begins = 1 << 15

// nothing is a block that is free.
var nothing = make([]byte, 64)

// wrong is a fault as the chapter words it: of op, at so much, a code, or an error that it wraps.
func wrong(op string, at int, err error) error { return api.Fault{Op: op, At: at, Err: err} }

// store is a new one that has room for so many.
func store(t *testing.T, room int) *block.Disk {
	t.Helper()
	d, err := block.New(room)
	if err != nil {
		t.Fatal(err)
	}
	return d
}

// open is a log that must open.
func open(t *testing.T, d *block.Disk) *mlog.Log {
	t.Helper()
	l, err := mlog.Open(d)
	if err != nil || l == nil {
		t.Fatal(err)
	}
	return l
}

// one is a batch of one record, which takes one block.
func one(term, base int) api.Batch {
	return batch.Of(term, base, api.Record{Kind: api.RNoop})
}

// wide is a batch of so many records, each of some 200 bytes.
func wide(term, base, many int) api.Batch {
	b := api.Batch{Term: term, Base: base}
	for i := range many {
		b.Records = append(b.Records, api.Record{Kind: api.RConfig, Topic: i, Key: "k", Value: strings.Repeat("v", 200)})
	}
	return b
}

// part is a record with rows.
func part() api.Record {
	return api.Record{Kind: api.RChange, Topic: 5, Part: 2, Ids: []int{1, 2, 3}, Isr: []int{1, 2}, Leader: 1, Add: []int{3}, Drop: []int{2}}
}

// bytesOf is a batch that may be as bytes.
func bytesOf(t *testing.T, b api.Batch) []byte {
	t.Helper()
	x, err := batch.Put(b)
	if err != nil {
		t.Fatal(err)
	}
	return x
}

// add appends batches that must be taken.
func add(t *testing.T, l *mlog.Log, batches ...api.Batch) {
	t.Helper()
	for _, b := range batches {
		if err := l.Append(b); err != nil {
			t.Fatalf("%d in term %d: %v", b.Base, b.Term, err)
		}
	}
}

// value is a head's value by 11.1's words.
func value(start, base, term int) []byte {
	return wire.Int(wire.Int(wire.Int(nil, start), base), term)
}

// lay puts a value as the head of a store, as often as its turn is to be, and syncs it.
func lay(t *testing.T, d *block.Disk, turn int, v []byte) {
	t.Helper()
	s, err := slot.Open(d, 2)
	if err != nil {
		t.Fatal(err)
	}
	for range turn {
		if err := s.Put(v); err != nil {
			t.Fatal(err)
		}
		s.Sync()
	}
}

// head holds the head of a store against what it should say.
func head(t *testing.T, d *block.Disk, turn int, want []byte) {
	t.Helper()
	s, err := slot.Open(d, 2)
	if err != nil || s.Turn() != turn || !bytes.Equal(s.Value(), want) {
		t.Errorf("turn %d, %v, %v, not turn %d, %v", s.Turn(), s.Value(), err, turn, want)
	}
}

// stands holds the records of a store, from a block on, against batches, and where the next one begins against what it should be.
func stands(t *testing.T, d *block.Disk, from, next int, batches ...api.Batch) {
	t.Helper()
	c, links, err := chain.Open(d, 16, from)
	if err != nil || len(links) != len(batches) {
		t.Fatalf("%d records, %v, not %d", len(links), err, len(batches))
	}
	for i, b := range batches {
		if !bytes.Equal(links[i].Bytes, bytesOf(t, b)) {
			t.Errorf("record %d: %v, not %v", i, links[i].Bytes, b)
		}
	}
	if c.Next() != next {
		t.Errorf("next %d, not %d", c.Next(), next)
	}
}

// made is a block of a chain: the stamp, what is left, what it has of the record, the stamp once more.
func made(stamp uint64, left int, own ...byte) []byte {
	b := binary.BigEndian.AppendUint64(nil, stamp)
	b = binary.BigEndian.AppendUint16(b, uint16(left))
	b = append(append(b, own...), make([]byte, 46-len(own))...)
	return binary.BigEndian.AppendUint64(b, stamp)
}

// turned is a block of a slot: the turn, how long the value is, the value, the turn once more.
func turned(turn uint64, value ...byte) []byte {
	b := binary.BigEndian.AppendUint64(nil, turn)
	b = append(append(b, byte(len(value))), value...)
	b = append(b, make([]byte, 47-len(value))...)
	return binary.BigEndian.AppendUint64(b, turn)
}

// cells holds the blocks that are synced against what they should be.
func cells(t *testing.T, d *block.Disk, want ...api.Cell) {
	t.Helper()
	if got := d.Cells(); !slices.EqualFunc(got, want, func(a, b api.Cell) bool { return a.At == b.At && bytes.Equal(a.Bytes, b.Bytes) }) {
		t.Errorf("%v, not %v", got, want)
	}
}

// counts holds how many blocks are taken, and how many writes are not synced, against what they should be.
func counts(t *testing.T, d *block.Disk, used, loose int) {
	t.Helper()
	if d.Used() != used || d.Loose() != loose {
		t.Errorf("%d taken, %d loose, not %d, %d", d.Used(), d.Loose(), used, loose)
	}
}

// read holds batches that are read against what they should be.
func read(t *testing.T, l *mlog.Log, offset, most int, want ...api.Batch) {
	t.Helper()
	if got, err := l.Read(offset, most); err != nil || !slices.EqualFunc(got, want, batch.Same) {
		t.Errorf("%d from %d on: %v, %v, not %v", most, offset, got, err, want)
	}
}

// has holds a log against its base, the term ahead of it, and its batches.
func has(t *testing.T, l *mlog.Log, base, term int, batches ...api.Batch) {
	t.Helper()
	end, last := base+len(batches), term
	if n := len(batches); n > 0 {
		last = batches[n-1].Term
	}
	if l.Base() != base || l.BaseTerm() != term || l.End() != end || l.LastTerm() != last {
		t.Errorf("from %d (%d) to %d (%d), not from %d (%d) to %d (%d)", l.Base(), l.BaseTerm(), l.End(), l.LastTerm(), base, term, end, last)
	}
	read(t, l, base, math.MaxInt, batches...)
}

// TestExample: the chapter's example.
func TestExample(t *testing.T) {
	d := store(t, 60)
	l := open(t, d)
	add(t, l, one(1, 0), one(2, 1))
	l.Sync()
	add(t, l, one(3, 2))
	has(t, l, 0, 0, one(1, 0), one(2, 1), one(3, 2))
	d.Crash(nil, 0)
	l = open(t, d)
	has(t, l, 0, 0, one(1, 0), one(2, 1))
	if err := l.Trim(1, 1); err != nil {
		t.Fatal(err)
	}
	has(t, l, 1, 1, one(2, 1))
	if err := l.Truncate(1); err != nil {
		t.Fatal(err)
	}
	has(t, l, 1, 1)
	d.Crash(nil, 0)
	has(t, open(t, d), 1, 1)
}

// TestNew: 11.1 and 11.2, on a new store there is an empty log from 0 on, and opening it writes nothing.
func TestNew(t *testing.T) {
	for _, room := range []int{0, 1, 9} {
		d := store(t, room)
		has(t, open(t, d), 0, 0)
		counts(t, d, 0, 0)
	}
}

// TestBytes: 11.1, byte by byte what batches leave in the blocks from 16 on, and the head in the blocks 3 and 2.
func TestBytes(t *testing.T) {
	d := store(t, 60)
	l := open(t, d)
	row := slices.Repeat([]api.Record{{Kind: api.RNoop}}, 44)
	add(t, l, batch.Of(3, 0, api.Record{Kind: api.RNoop}, api.Record{Kind: api.RDrop, Topic: 2}), batch.Of(3, 1, row...), one(70, 2))
	l.Sync()
	cells(t, d,
		api.Cell{At: 16, Bytes: made(1, begins|6, 3, 0, 2, 1, 11, 2)},
		api.Cell{At: 17, Bytes: made(2, begins|47, append([]byte{3, 1, 44}, bytes.Repeat([]byte{1}, 43)...)...)},
		api.Cell{At: 18, Bytes: made(3, 1, 1)},
		api.Cell{At: 19, Bytes: made(4, begins|5, 64, 70, 2, 1, 1)})
	if err := l.Trim(1, 3); err != nil {
		t.Fatal(err)
	}
	cells(t, d,
		api.Cell{At: 3, Bytes: turned(1, 17, 1, 3)},
		api.Cell{At: 17, Bytes: made(2, begins|47, append([]byte{3, 1, 44}, bytes.Repeat([]byte{1}, 43)...)...)},
		api.Cell{At: 18, Bytes: made(3, 1, 1)},
		api.Cell{At: 19, Bytes: made(4, begins|5, 64, 70, 2, 1, 1)})
	if err := l.Trim(2, 3); err != nil {
		t.Fatal(err)
	}
	cells(t, d,
		api.Cell{At: 2, Bytes: turned(2, 19, 2, 3)},
		api.Cell{At: 3, Bytes: turned(1, 17, 1, 3)},
		api.Cell{At: 19, Bytes: made(4, begins|5, 64, 70, 2, 1, 1)})
	if err := l.Trim(20000, 100); err != nil {
		t.Fatal(err)
	}
	cells(t, d,
		api.Cell{At: 2, Bytes: turned(2, 19, 2, 3)},
		api.Cell{At: 3, Bytes: turned(3, 20, 128, 0, 78, 32, 64, 100)})
	has(t, l, 20000, 100)
	has(t, open(t, d), 20000, 100)
}

// TestOpenHead: 11.2, heads that are right, at every turn: where records begin, the base, and the term ahead of it.
func TestOpenHead(t *testing.T) {
	for turn := 1; turn <= 3; turn++ {
		for _, start := range []int{16, 17, 63, 64, 16384, 1 << 24, api.MaxNum - 1, api.MaxNum} {
			for _, base := range []int{0, 1, 63, 64, 16384, api.MaxNum} {
				for _, term := range []int{0, 1, 64, api.MaxNum} {
					d := store(t, 4)
					lay(t, d, turn, value(start, base, term))
					l := open(t, d)
					has(t, l, base, term)
					b := one(max(term, 1), base)
					add(t, l, b)
					has(t, l, base, term, b)
					stands(t, d, start, start+1, b)
				}
			}
		}
	}
}

// TestOpenHeadEmpty: 11.1, a head that is empty, though it was put, says block 16, 0, 0.
func TestOpenHeadEmpty(t *testing.T) {
	for turn := range 4 {
		d := store(t, 4)
		lay(t, d, turn, nil)
		l := open(t, d)
		has(t, l, 0, 0)
		add(t, l, one(1, 0))
		stands(t, d, 16, 17, one(1, 0))
	}
}

// TestOpenHeadWrong: 11.2, what is wrong with a head's value, which is told at its turn; what the reader finds first, and then where records would begin.
func TestOpenHeadWrong(t *testing.T) {
	above := wire.Int(nil, api.MaxNum+1)
	for _, c := range []struct {
		value []byte
		err   error
	}{
		{[]byte{16}, wrong("num", 1, api.ErrShort)},
		{[]byte{16, 0}, wrong("num", 2, api.ErrShort)},
		{[]byte{16, 0, 64}, wrong("num", 2, api.ErrShort)},
		{[]byte{64}, wrong("num", 0, api.ErrShort)},
		{[]byte{64, 16, 0, 0}, wrong("num", 0, api.ErrKind)},
		{[]byte{16, 64, 1, 0}, wrong("num", 1, api.ErrKind)},
		{[]byte{16, 1, 64, 1}, wrong("num", 2, api.ErrKind)},
		{append(above, 0, 0), wrong("num", 0, api.ErrLimit)},
		{append(append([]byte{16}, above...), 0), wrong("num", 1, api.ErrLimit)},
		{append([]byte{16, 0}, above...), wrong("num", 2, api.ErrLimit)},
		{[]byte{16, 0, 0, 0}, wrong("end", 3, api.ErrKind)},
		{[]byte{17, 9, 3, 1, 2}, wrong("end", 3, api.ErrKind)},
		{[]byte{15, 0, 0}, wrong("start", 15, api.ErrRange)},
		{[]byte{2, 0, 0}, wrong("start", 2, api.ErrRange)},
		{[]byte{0, 0, 0}, wrong("start", 0, api.ErrRange)},
		{[]byte{0, 9, 3}, wrong("start", 0, api.ErrRange)},
		{[]byte{0}, wrong("num", 1, api.ErrShort)},
		{[]byte{15, 0, 64}, wrong("num", 2, api.ErrShort)},
		{[]byte{15, 0, 0, 0}, wrong("end", 3, api.ErrKind)},
	} {
		for turn := 1; turn <= 3; turn++ {
			d := store(t, 9)
			add(t, open(t, d), one(1, 0))
			lay(t, d, turn, c.value)
			was := d.Cells()
			if l, err := mlog.Open(d); l != nil || err != wrong("head", turn, c.err) {
				t.Errorf("%v: %v, %#v, not %#v", c.value, l, err, c.err)
			}
			cells(t, d, was...)
			counts(t, d, len(was), 0)
		}
	}
}

// TestOpenNil: 11.2, without a store.
func TestOpenNil(t *testing.T) {
	if l, err := mlog.Open(nil); l != nil || err != wrong("head", 0, wrong("slot", 2, api.ErrArg)) {
		t.Errorf("%v, %#v", l, err)
	}
}

// TestOpenHeadTorn: 11.2, a head that is torn is not there; the one ahead of it is.
func TestOpenHeadTorn(t *testing.T) {
	d := store(t, 9)
	lay(t, d, 1, value(20, 7, 3))
	s, err := slot.Open(d, 2)
	if err != nil {
		t.Fatal(err)
	}
	if err := s.Put(value(30, 9, 4)); err != nil {
		t.Fatal(err)
	}
	d.Crash([]int{1}, 40)
	has(t, open(t, d), 7, 3)
}

// laid is a store whose head says where records begin, the base and the term, with these records there.
func laid(t *testing.T, start, base, term int, records ...[]byte) *block.Disk {
	t.Helper()
	d := store(t, 99)
	lay(t, d, 1, value(start, base, term))
	c, _, err := chain.Open(d, 16, start)
	if err != nil {
		t.Fatal(err)
	}
	for _, b := range records {
		if _, err := c.Append(b); err != nil {
			t.Fatal(err)
		}
	}
	return d
}

// TestOpenCut: 11.2, the batches are there up to the first record that is none, or does not fit; there the chain is cut, though what is behind it would fit.
func TestOpenCut(t *testing.T) {
	long := bytesOf(t, wide(5, 0, 1))
	for many := range 4 {
		var good []api.Batch
		var records [][]byte
		for i := range many {
			good = append(good, one(4+i/2, 7+i))
			records = append(records, bytesOf(t, good[i]))
		}
		last := 4 + max(many-1, 0)/2
		for i, bad := range [][]byte{
			{9},
			{5, byte(7 + many), 1},
			{0, byte(7 + many), 1, 1},
			{5, byte(7 + many), 0},
			{5, byte(7 + many), 1, 13},
			{5, byte(7 + many), 1, 1, 0},
			{64, 5, byte(7 + many), 1, 1},
			long[:len(long)-1],
			long,
			bytesOf(t, wide(5, 8+many, 2)),
			bytesOf(t, one(5, 6+many)),
			bytesOf(t, one(5, 8+many)),
			bytesOf(t, one(5, 0)),
			bytesOf(t, one(5, api.MaxNum)),
			bytesOf(t, one(last-1, 7+many)),
			bytesOf(t, wide(1, 7+many, 2)),
		} {
			d := laid(t, 20, 7, 4, append(records[:many:many], bad, bytesOf(t, one(5, 7+many)), bytesOf(t, one(5, 8+many)))...)
			has(t, open(t, d), 7, 4, good...)
			counts(t, d, 1+many+1, 0)
			stands(t, d, 20, 20+many+1, good...)
			b, err := d.Read(20 + many)
			stamp := uint64(many + chain.Blocks(len(bad)) + 3)
			if err != nil || !bytes.Equal(b, made(stamp, begins)) {
				t.Errorf("%v, %v", b, err)
			}
			l := open(t, d)
			add(t, l, one(6, 7+many))
			l.Sync()
			has(t, open(t, d), 7, 4, append(good[:many:many], one(6, 7+many))...)
			if t.Failed() {
				t.Fatalf("%d that fit, and bad one %d", many, i)
			}
		}
	}
}

// TestOpenFit: 11.2, terms may stay, and rise; the first one may be that of what is ahead. With nothing wrong nothing is written, and nothing synced.
func TestOpenFit(t *testing.T) {
	all := []api.Batch{one(4, 7), wide(4, 8, 3), one(5, 9), batch.Of(9, 10, part()), one(api.MaxNum, 11)}
	var records [][]byte
	for _, b := range all {
		records = append(records, bytesOf(t, b))
	}
	d := laid(t, 20, 7, 4, records...)
	used, loose := d.Used(), d.Loose()
	has(t, open(t, d), 7, 4, all...)
	counts(t, d, used, loose)
	d.Sync()
	has(t, open(t, d), 7, 4, all...)
	counts(t, d, used, 0)
}

// TestOpenTerm: 11.2, the first batch is held against the term of what is ahead of the base.
func TestOpenTerm(t *testing.T) {
	for term := 1; term <= 3; term++ {
		d := laid(t, 16, 0, 2, bytesOf(t, one(term, 0)))
		if term < 2 {
			has(t, open(t, d), 0, 2)
		} else {
			has(t, open(t, d), 0, 2, one(term, 0))
		}
	}
}

// TestOpenFull: 11.2, on a full store the chain is cut, too.
func TestOpenFull(t *testing.T) {
	d := store(t, 2)
	c, _, err := chain.Open(d, 16, 16)
	if err != nil {
		t.Fatal(err)
	}
	for _, b := range [][]byte{bytesOf(t, one(1, 0)), {9}} {
		if _, err := c.Append(b); err != nil {
			t.Fatal(err)
		}
	}
	has(t, open(t, d), 0, 0, one(1, 0))
	counts(t, d, 2, 0)
}

// TestOpenAgain: 11.2, a log is found as it is, synced or not.
func TestOpenAgain(t *testing.T) {
	d := store(t, 99)
	l := open(t, d)
	var all []api.Batch
	for i := range 9 {
		b := wide(1+i/2, i, 1+i%3)
		add(t, l, b)
		all = append(all, b)
		has(t, open(t, d), 0, 0, all...)
	}
}

// numbered is a log of the base 7, behind the term 4, of terms that stay, and rise, and its batches.
func numbered(t *testing.T) (*block.Disk, *mlog.Log, []api.Batch) {
	t.Helper()
	d := store(t, 200)
	lay(t, d, 1, value(20, 7, 4))
	l := open(t, d)
	all := []api.Batch{one(4, 7), wide(4, 8, 1), one(6, 9), batch.Of(6, 10, part(), part()), wide(8, 11, 2), one(8, 12)}
	add(t, l, all...)
	return d, l, all
}

// TestTerms: 11.3, the base, the end, their terms, and the term at every offset, within and without.
func TestTerms(t *testing.T) {
	_, l, _ := numbered(t)
	if l.Base() != 7 || l.BaseTerm() != 4 || l.End() != 13 || l.LastTerm() != 8 {
		t.Errorf("%d, %d, %d, %d", l.Base(), l.BaseTerm(), l.End(), l.LastTerm())
	}
	for i, want := range []int{4, 4, 4, 6, 6, 8, 8} {
		if term, ok := l.TermAt(7 + i); term != want || !ok {
			t.Errorf("%d: %d, %v", 7+i, term, ok)
		}
	}
	for _, offset := range []int{6, 14, 0, -1, 1, 15, 1 << 20, api.MaxNum, math.MaxInt, math.MinInt} {
		if term, ok := l.TermAt(offset); term != 0 || ok {
			t.Errorf("%d: %d, %v", offset, term, ok)
		}
	}
}

// TestTermsEmpty: 11.3, without batches there is the base alone.
func TestTermsEmpty(t *testing.T) {
	for _, c := range [][2]int{{0, 0}, {7, 4}, {api.MaxNum, api.MaxNum}} {
		d := store(t, 9)
		lay(t, d, 1, value(20, c[0], c[1]))
		l := open(t, d)
		if l.Base() != c[0] || l.BaseTerm() != c[1] || l.End() != c[0] || l.LastTerm() != c[1] {
			t.Errorf("%d, %d, %d, %d", l.Base(), l.BaseTerm(), l.End(), l.LastTerm())
		}
		if term, ok := l.TermAt(c[0]); term != c[1] || !ok {
			t.Errorf("%d, %v", term, ok)
		}
		for _, offset := range []int{c[0] - 1, c[0] + 1} {
			if term, ok := l.TermAt(offset); term != 0 || ok {
				t.Errorf("%d: %d, %v", offset, term, ok)
			}
		}
	}
}

// TestRead: 11.4, from every offset on, as many as are asked for; below one none.
func TestRead(t *testing.T) {
	_, l, all := numbered(t)
	for i := range len(all) + 1 {
		for most := range len(all) + 2 {
			read(t, l, 7+i, most, all[i:min(i+most, len(all))]...)
		}
		read(t, l, 7+i, math.MaxInt, all[i:]...)
		read(t, l, 7+i, -1)
		read(t, l, 7+i, math.MinInt)
	}
}

// TestReadWrong: 11.4, offsets without, however many are asked for.
func TestReadWrong(t *testing.T) {
	_, l, all := numbered(t)
	for _, offset := range []int{6, 14, 0, -1, 15, api.MaxNum, math.MaxInt, math.MinInt} {
		for _, most := range []int{-1, 0, 1, 9} {
			if got, err := l.Read(offset, most); len(got) > 0 || err != wrong("read", offset, api.ErrRange) {
				t.Errorf("%d from %d on: %v, %#v", most, offset, got, err)
			}
		}
	}
	has(t, l, 7, 4, all...)
}

// spoil changes all that is behind batches.
func spoil(batches []api.Batch) {
	for _, b := range batches {
		for i, r := range b.Records {
			for _, row := range [][]int{r.Ids, r.Isr, r.Add, r.Drop} {
				for k := range row[:cap(row)] {
					row[:cap(row)][k] = 63
				}
			}
			b.Records[i] = api.Record{Kind: api.RDrop, Topic: 99}
		}
	}
	clear(batches)
}

// TestReadMemory: 11.4 and R3, what is read is memory of its own.
func TestReadMemory(t *testing.T) {
	for _, reopened := range []bool{false, true} {
		d, l, all := numbered(t)
		if reopened {
			l = open(t, d)
		}
		kept, err := l.Read(7, 9)
		if err != nil {
			t.Fatal(err)
		}
		got, err := l.Read(7, 9)
		if err != nil {
			t.Fatal(err)
		}
		spoil(got)
		if !slices.EqualFunc(kept, all, batch.Same) {
			t.Errorf("%v", kept)
		}
		has(t, l, 7, 4, all...)
		has(t, open(t, d), 7, 4, all...)
	}
}
