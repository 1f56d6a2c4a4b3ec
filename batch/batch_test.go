package batch_test

import (
	"math"
	"reflect"
	"slices"
	"strings"
	"testing"

	"castellan/api"
	"castellan/batch"
	"castellan/record"
)

// wrong is a fault as the chapter words it: of op, at so much, around an error.
func wrong(op string, at int, err error) error { return api.Fault{Op: op, At: at, Err: err} }

// moved is a record that has all four rows.
func moved() api.Record {
	return api.Record{Kind: api.RChange, Topic: 5, Part: 2, Epoch: 7, Leader: 2, Ids: []int{1, 2, 3}, Isr: []int{2, 1}, Add: []int{3}, Drop: []int{1}}
}

// kinds is a record of each kind that may be, in new memory.
func kinds() []api.Record {
	return []api.Record{
		{Kind: api.RNoop},
		{Kind: api.RBroker, Broker: 3, Epoch: 70, Rack: "r1"},
		{Kind: api.RFence, Broker: 64},
		{Kind: api.ROpen, Broker: 1, Epoch: 2},
		{Kind: api.RLeave, Broker: 1, Epoch: 1 << 30},
		{Kind: api.RGone, Broker: 9, Epoch: 20000},
		{Kind: api.RTopic, Topic: 4, Name: "a.b"},
		{Kind: api.RPart, Topic: 5, Part: 2, Leader: 1, Ids: []int{1, 2, 3}, Isr: []int{1}},
		moved(),
		{Kind: api.RConfig, Topic: 6, Key: "k", Value: "v\xff"},
		{Kind: api.RDrop, Topic: 2},
		{Kind: api.RDone, Client: 1001, Serial: 5, Code: 21},
	}
}

// spoilt are records that may not be.
func spoilt() []api.Record {
	return []api.Record{
		{},
		{Kind: 13},
		{Kind: api.RNoop, Part: 1},
		{Kind: api.RBroker, Broker: 65, Rack: "r"},
		{Kind: api.RTopic, Topic: 1, Name: "A"},
		{Kind: api.RPart, Topic: 1, Ids: []int{1, 1}},
		{Kind: api.RConfig, Key: "k", Value: strings.Repeat("v", 257)},
		{Kind: api.RDrop},
		{Kind: api.RDone, Client: 1, Serial: 1, Code: 22},
	}
}

// numbered are so many records, each of a topic of its own.
func numbered(many int) []api.Record {
	var l []api.Record
	for i := range many {
		l = append(l, api.Record{Kind: api.RDrop, Topic: i + 1})
	}
	return l
}

// holds tells whether a batch has this term, this base, and these records, field by field.
func holds(b api.Batch, term, base int, l []api.Record) bool {
	return b.Term == term && b.Base == base && slices.EqualFunc(b.Records, l, record.Same)
}

// spoil changes all that can be reached from records, behind their length, too.
func spoil(l []api.Record) {
	for i := range l {
		for _, row := range [][]int{l[i].Ids, l[i].Isr, l[i].Add, l[i].Drop} {
			for k := range row[:cap(row)] {
				row[:cap(row)][k] = -9
			}
		}
	}
	clear(l[:cap(l)])
}

// TestOf: 6.1, that term, that base and those records, whether such a batch may be or not.
func TestOf(t *testing.T) {
	for _, term := range []int{3, 0, -1, math.MaxInt} {
		for _, base := range []int{9, 0, -1, math.MinInt} {
			for _, l := range [][]api.Record{nil, {}, numbered(1), kinds(), spoilt(), numbered(100)} {
				if b := batch.Of(term, base, l...); !holds(b, term, base, l) {
					t.Errorf("%d, %d, %v: %v", term, base, l, b)
				}
			}
		}
	}
	one, two := moved(), api.Record{Kind: api.RNoop}
	if b := batch.Of(3, 9, one, two); !holds(b, 3, 9, []api.Record{one, two}) {
		t.Errorf("%v", b)
	}
	if b := batch.Of(3, 9); !holds(b, 3, 9, nil) {
		t.Errorf("%v", b)
	}
}

// TestCopy: 6.1, all of a batch, whether it may be or not.
func TestCopy(t *testing.T) {
	for _, b := range []api.Batch{{}, {Term: -1, Base: -2}, {Term: 3, Base: 9, Records: kinds()}, {Term: 4, Records: spoilt()}, {Base: 5, Records: numbered(100)}} {
		if c := batch.Copy(b); !holds(c, b.Term, b.Base, b.Records) {
			t.Errorf("%v: %v", b, c)
		}
	}
}

// TestMemory: 6.1 and R3, a batch, its copy and pieces of it have memory of their own, row by row.
func TestMemory(t *testing.T) {
	makers := map[string]func(l []api.Record) api.Batch{
		"Of":    func(l []api.Record) api.Batch { return batch.Of(1, 2, l...) },
		"Copy":  func(l []api.Record) api.Batch { return batch.Copy(api.Batch{Term: 1, Base: 2, Records: l}) },
		"Split": func(l []api.Record) api.Batch { return batch.Split(1, 2, len(l), l...)[0] },
	}
	for name, makes := range makers {
		given := kinds()
		b, other := makes(given), makes(given)
		spoil(b.Records)
		if !holds(other, 1, 2, kinds()) || !slices.EqualFunc(given, kinds(), record.Same) {
			t.Errorf("%s: another one, or what was given, is changed with it", name)
		}
		spoil(given)
		if !holds(other, 1, 2, kinds()) {
			t.Errorf("%s: what was given is kept", name)
		}
	}
}

// TestMemoryBehind: R3, what lies behind a list's length is neither written nor handed out, and no two rows of an answer are one.
func TestMemoryBehind(t *testing.T) {
	row := []int{1, 2, 3}
	memory := []api.Record{{Kind: api.RChange, Topic: 1, Ids: row[:2], Isr: row[:1], Add: row[:2], Drop: row[:0]}, {Kind: api.RDrop, Topic: 7}}
	for name, b := range map[string]api.Batch{
		"Of":    batch.Of(1, 2, memory[:1]...),
		"Copy":  batch.Copy(api.Batch{Term: 1, Base: 2, Records: memory[:1]}),
		"Split": batch.Split(1, 2, 1, memory[:1]...)[0],
	} {
		_ = append(b.Records, api.Record{Kind: api.RNoop})
		r := b.Records[0]
		for _, l := range [][]int{r.Ids, r.Isr, r.Add, r.Drop} {
			_ = append(l, -9)
		}
		r.Ids[0] = -9
		if r.Isr[0] != 1 || r.Add[0] != 1 || !slices.Equal(row, []int{1, 2, 3}) || memory[1].Topic != 7 {
			t.Errorf("%s: %v, %v, %v", name, r, row, memory)
		}
	}
}

// TestCheckGood: 6.2, up to the ends of what may be.
func TestCheckGood(t *testing.T) {
	for _, term := range []int{1, 2, 1<<30 - 1, 1 << 30} {
		for _, base := range []int{0, 1, 1<<30 - 1, 1 << 30} {
			for _, l := range [][]api.Record{numbered(1), numbered(2), numbered(63), numbered(64), kinds()} {
				if err := batch.Check(api.Batch{Term: term, Base: base, Records: l}); err != nil {
					t.Errorf("%d, %d, %d records: %#v", term, base, len(l), err)
				}
			}
		}
	}
}

// part is a thing that may be wrong with a batch, and what is told of it.
type part struct {
	spoil func(b *api.Batch)
	want  error
}

// parts is 6.2, in the order in which it names things: each of these as it may be wrong.
func parts() [][]part {
	var terms, bases, counts []part
	for _, n := range []int{0, -1, 1<<30 + 1, 1<<32 + 1, math.MaxInt, math.MinInt} {
		terms = append(terms, part{func(b *api.Batch) { b.Term = n }, wrong("term", n, api.ErrRange)})
	}
	for _, n := range []int{-1, 1<<30 + 1, 1 << 32, math.MaxInt, math.MinInt} {
		bases = append(bases, part{func(b *api.Batch) { b.Base = n }, wrong("base", n, api.ErrRange)})
	}
	for _, n := range []int{0, 65, 66, 128, 257, 1000} {
		counts = append(counts, part{func(b *api.Batch) { b.Records = numbered(n) }, wrong("records", n, api.ErrLimit)})
	}
	counts = append(counts, part{func(b *api.Batch) { b.Records = make([]api.Record, 65) }, wrong("records", 65, api.ErrLimit)})
	return [][]part{terms, bases, counts}
}

// TestCheckBad: 6.2 and R6, each thing that is wrong, and of two what is named first.
func TestCheckBad(t *testing.T) {
	all := parts()
	for i, ones := range all {
		for _, one := range ones {
			b := api.Batch{Term: 3, Base: 9, Records: kinds()}
			one.spoil(&b)
			if err := batch.Check(b); err != one.want {
				t.Errorf("%#v, not %#v", err, one.want)
			}
			for _, later := range slices.Concat(all[i+1:]...) {
				b := api.Batch{Term: 3, Base: 9, Records: spoilt()}
				one.spoil(&b)
				later.spoil(&b)
				if err := batch.Check(b); err != one.want {
					t.Errorf("with another thing: %#v, not %#v", err, one.want)
				}
			}
		}
	}
}

// TestCheckRecords: 6.2 and R6, the first record that is wrong, by its number, around what record.Check tells.
func TestCheckRecords(t *testing.T) {
	for _, bad := range spoilt() {
		for i := range 64 {
			l := numbered(64)
			l[i] = bad
			want := wrong("record", i, record.Check(bad))
			if err := batch.Check(batch.Of(1, 0, l...)); err != want {
				t.Errorf("%d: %#v, not %#v", i, err, want)
			}
			for k := i + 1; k < 64; k += 9 {
				l[k] = api.Record{Kind: -1}
			}
			if err := batch.Check(batch.Of(1, 0, l...)); err != want {
				t.Errorf("%d, and others: %#v, not %#v", i, err, want)
			}
		}
		for _, one := range slices.Concat(parts()[:2]...) {
			b := batch.Of(1, 0, bad)
			one.spoil(&b)
			if err := batch.Check(b); err != one.want {
				t.Errorf("%#v, not %#v", err, one.want)
			}
		}
	}
	want := wrong("record", 1, wrong("topic", 0, api.ErrRange))
	if err := batch.Check(batch.Of(3, 9, api.Record{Kind: api.RNoop}, api.Record{Kind: api.RDrop})); err != want {
		t.Errorf("%#v, not %#v", err, want)
	}
}

// TestSame: 6.6, term, base, and record by record, in their order.
func TestSame(t *testing.T) {
	same := func(a, b api.Batch, want bool) {
		t.Helper()
		if batch.Same(a, b) != want || batch.Same(b, a) != want {
			t.Errorf("%v, %v: not %t", a, b, want)
		}
	}
	b := api.Batch{Term: 3, Base: 9, Records: kinds()}
	same(b, api.Batch{Term: 3, Base: 9, Records: kinds()}, true)
	same(b, api.Batch{Term: 4, Base: 9, Records: kinds()}, false)
	same(b, api.Batch{Term: 3, Base: 8, Records: kinds()}, false)
	same(b, api.Batch{Term: 9, Base: 3, Records: kinds()}, false)
	same(b, api.Batch{Term: 3, Base: 9, Records: kinds()[:11]}, false)
	same(b, api.Batch{Term: 3, Base: 9, Records: kinds()[1:]}, false)
	same(b, api.Batch{Term: 3, Base: 9, Records: append(kinds(), api.Record{})}, false)
	same(b, api.Batch{Term: 3, Base: 9}, false)
	same(api.Batch{Term: 3, Base: 9}, api.Batch{Term: 3, Base: 9, Records: []api.Record{}}, true)
	same(api.Batch{}, api.Batch{}, true)
	same(api.Batch{Records: spoilt()}, api.Batch{Records: spoilt()}, true)
	for i := range b.Records {
		for k := range b.Records {
			l := kinds()
			l[i], l[k] = l[k], l[i]
			same(b, api.Batch{Term: 3, Base: 9, Records: l}, i == k)
		}
		other := kinds()
		other[i].Code++
		same(b, api.Batch{Term: 3, Base: 9, Records: other}, false)
		other = kinds()
		other[i].Drop = append(other[i].Drop, 1)
		same(b, api.Batch{Term: 3, Base: 9, Records: other}, false)
	}
	bare, empty := api.Record{Kind: api.RPart}, api.Record{Kind: api.RPart, Ids: []int{}, Isr: []int{}, Add: []int{}, Drop: []int{}}
	same(batch.Of(1, 1, bare), batch.Of(1, 1, empty), true)
}

// TestSplit: 6.7, so many each, the last one what is left, one base behind the other.
func TestSplit(t *testing.T) {
	for many := range 20 {
		l := numbered(many)
		for _, most := range []int{1, 2, 3, 4, 5, 7, 18, 19, 20, 64, 65, math.MaxInt - 1, math.MaxInt} {
			batches := batch.Split(3, 9, most, l...)
			if want := (many - 1 + min(most, 100)) / min(most, 100); len(batches) != want {
				t.Fatalf("%d by %d: %d batches, not %d", many, most, len(batches), want)
			}
			left := l
			for i, b := range batches {
				now := min(most, len(left))
				if !holds(b, 3, 9+i, left[:now]) {
					t.Errorf("%d by %d: %d is %v", many, most, i, b)
				}
				left = left[now:]
			}
		}
		for _, most := range []int{0, -1, -64, math.MinInt} {
			if batches := batch.Split(3, 9, most, l...); len(batches) != 0 {
				t.Errorf("%d by %d: %v", many, most, batches)
			}
		}
	}
}

// TestSplitAny: 6.7, whichever term, base and records: what may not be is split, too.
func TestSplitAny(t *testing.T) {
	for _, n := range []int{0, -1, -5, 1 << 30, math.MinInt} {
		batches := batch.Split(n, n, 4, spoilt()...)
		if len(batches) != 3 {
			t.Fatalf("%v", batches)
		}
		for i, l := range [][]api.Record{spoilt()[:4], spoilt()[4:8], spoilt()[8:]} {
			if !holds(batches[i], n, n+i, l) {
				t.Errorf("%d: %d is %v", n, i, batches[i])
			}
		}
	}
	if batches := batch.Split(1, 5, 200, numbered(150)...); len(batches) != 1 || !holds(batches[0], 1, 5, numbered(150)) {
		t.Errorf("%d batches", len(batches))
	}
	given := numbered(5)
	batches := batch.Split(1, 5, 2, given...)
	spoil(batches[0].Records)
	if !reflect.DeepEqual(given, numbered(5)) || !holds(batches[1], 1, 6, numbered(5)[2:4]) || !holds(batches[2], 1, 7, numbered(5)[4:]) {
		t.Errorf("%v, %v", given, batches)
	}
}
