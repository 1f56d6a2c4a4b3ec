package batch_test

import (
	"bytes"
	"math/rand/v2"
	"reflect"
	"slices"
	"strings"
	"testing"

	"castellan/api"
	"castellan/batch"
	"castellan/record"
	"castellan/wire"
)

// written are batches as the chapter lays them, byte by byte.
var written = []struct {
	b     api.Batch
	bytes []byte
}{
	{api.Batch{Term: 3, Base: 9, Records: []api.Record{{Kind: api.RNoop}, {Kind: api.RDrop, Topic: 2}}}, []byte{3, 9, 2, 1, 11, 2}},
	{api.Batch{Term: 1, Records: []api.Record{{Kind: api.RNoop}}}, []byte{1, 0, 1, 1}},
	{api.Batch{Term: 1 << 30, Base: 1 << 30, Records: []api.Record{{Kind: api.RNoop}}}, []byte{192, 0, 0, 0, 64, 0, 0, 0, 192, 0, 0, 0, 64, 0, 0, 0, 1, 1}},
	{api.Batch{Term: 70, Base: 20000, Records: []api.Record{moved()}}, []byte{64, 70, 128, 0, 78, 32, 1, 9, 7, 5, 2, 2, 3, 1, 2, 3, 2, 2, 1, 1, 3, 1, 1}},
	{api.Batch{Term: 1<<30 - 1, Base: 64, Records: []api.Record{{Kind: api.RConfig, Key: "k", Value: "v"}, {Kind: api.RConfig, Key: "k", Flag: true}}}, []byte{191, 255, 255, 255, 64, 64, 2, 10, 0, 0, 1, 'k', 1, 'v', 10, 0, 1, 1, 'k', 0}},
	{api.Batch{Term: 2, Base: 3, Records: slices.Repeat([]api.Record{{Kind: api.RNoop}}, 63)}, append([]byte{2, 3, 63}, bytes.Repeat([]byte{1}, 63)...)},
	{api.Batch{Term: 2, Base: 3, Records: slices.Repeat([]api.Record{{Kind: api.RNoop}}, 64)}, append([]byte{2, 3, 64, 64}, bytes.Repeat([]byte{1}, 64)...)},
}

// greatest is a batch of term 1, base 0 and 63 records that has so many bytes, and these; from 16380 to 16500, of which some are too many for a batch.
func greatest(size int) (api.Batch, []byte) {
	all := append(make([]byte, 0, size), 1, 0, 63)
	b := api.Batch{Term: 1}
	for i := range 63 {
		value := strings.Repeat("v", 256)
		if i == 62 {
			value = value[:size-len(all)-7]
		}
		b.Records = append(b.Records, api.Record{Kind: api.RConfig, Key: "k", Value: value})
		all = append(all, 10, 0, 0, 1, 'k', 64|byte(len(value)>>8), byte(len(value)))
		all = append(all, value...)
	}
	return b, all
}

// TestPut: 6.3, byte by byte.
func TestPut(t *testing.T) {
	for _, c := range written {
		if b, err := batch.Put(c.b); err != nil || !bytes.Equal(b, c.bytes) {
			t.Errorf("%v: %v, %v; not %v", c.b, b, err, c.bytes)
		}
	}
	want := []byte{7, 8, 12}
	for _, r := range kinds() {
		want, _ = record.Put(want, r)
	}
	if b, err := batch.Put(batch.Of(7, 8, kinds()...)); err != nil || !bytes.Equal(b, want) {
		t.Errorf("%v, %v; not %v", b, err, want)
	}
}

// TestPutWrong: 6.3, Check's error, and no bytes.
func TestPutWrong(t *testing.T) {
	refused := func(b api.Batch) {
		t.Helper()
		x, err := batch.Put(b)
		if err == nil || err != batch.Check(b) || len(x) != 0 {
			t.Errorf("%v: %v, %#v", b, x, err)
		}
	}
	for _, one := range slices.Concat(parts()...) {
		b := batch.Of(3, 9, kinds()...)
		one.spoil(&b)
		refused(b)
	}
	for _, bad := range spoilt() {
		refused(batch.Of(3, 9, bad))
		refused(batch.Of(3, 9, append(kinds(), bad)...))
		long, _ := greatest(16400)
		refused(batch.Of(3, 9, append(long.Records, bad)...))
	}
}

// TestPutGreatest: 6.3, up to 2^14 bytes, and how many there would be of one that has more.
func TestPutGreatest(t *testing.T) {
	for size := 16380; size <= 16500; size++ {
		b, want := greatest(size)
		x, err := batch.Put(b)
		if size <= 1<<14 && (err != nil || !bytes.Equal(x, want)) {
			t.Errorf("%d bytes: %v", size, err)
		}
		if size > 1<<14 && (err != wrong("batch", size, api.ErrLimit) || len(x) != 0) {
			t.Errorf("%d bytes: %d, %#v", size, len(x), err)
		}
		if batch.Check(b) != nil {
			t.Errorf("%d bytes: %#v", size, batch.Check(b))
		}
	}
	widest := api.Record{Kind: api.RConfig, Topic: 1 << 30, Key: strings.Repeat("k", 40), Value: strings.Repeat("v", 256)}
	x, err := batch.Put(batch.Of(1<<30, 1<<30, slices.Repeat([]api.Record{widest}, 64)...))
	if size := 8 + 8 + 2 + 64*(1+8+1+41+258); err != wrong("batch", size, api.ErrLimit) || len(x) != 0 {
		t.Errorf("%d, %#v", len(x), err)
	}
}

// TestPutMemory: R3, a batch that is written is not changed, nor are its bytes kept.
func TestPutMemory(t *testing.T) {
	b := batch.Of(7, 8, kinds()...)
	x, _ := batch.Put(b)
	y, _ := batch.Put(b)
	want := slices.Clone(y)
	clear(x[:cap(x)])
	if !holds(b, 7, 8, kinds()) || !bytes.Equal(y, want) {
		t.Errorf("%v, %v", b, y)
	}
}

// TestNext: 6.4, from where the reader is, and nothing behind it.
func TestNext(t *testing.T) {
	for _, c := range written {
		for _, behind := range [][]byte{nil, {0}, {255}, c.bytes} {
			r := wire.Read(slices.Concat([]byte{64, 70}, c.bytes, behind))
			r.Num(70)
			b := batch.Next(r)
			if !batch.Same(b, c.b) || r.Err() != nil || r.At() != 2+len(c.bytes) {
				t.Errorf("%v: %v, at %d, %v", c.bytes, b, r.At(), r.Err())
			}
		}
	}
	var all []byte
	for _, c := range written {
		all = append(all, c.bytes...)
	}
	r := wire.Read(all)
	for _, c := range written {
		if b := batch.Next(r); !batch.Same(b, c.b) {
			t.Fatalf("%v, not %v: %v", b, c.b, r.Err())
		}
	}
	if err := r.End(); err != nil {
		t.Errorf("%v", err)
	}
}

// refusal is bytes that are no batch, and what a reader of them tells.
type refusal struct {
	bytes []byte
	op    string
	at    int
	code  api.Code
}

// refusals are what 6.4 names, each thing where the reader is then, and what the layers below refuse.
var refusals = []refusal{
	{nil, "num", 0, api.ErrShort},
	{[]byte{1}, "num", 1, api.ErrShort},
	{[]byte{1, 0}, "num", 2, api.ErrShort},
	{[]byte{1, 0, 1}, "num", 3, api.ErrShort},
	{[]byte{1, 0, 2, 1}, "num", 4, api.ErrShort},
	{[]byte{0, 0, 1, 1}, "batch", 3, api.ErrRange},
	{[]byte{0, 64, 70, 1, 1}, "batch", 4, api.ErrRange},
	{[]byte{1, 0, 0}, "batch", 3, api.ErrRange},
	{[]byte{64, 70, 64, 70, 0, 1}, "batch", 5, api.ErrRange},
	{[]byte{0, 0, 0}, "batch", 3, api.ErrRange},
	{[]byte{0, 0, 1}, "batch", 3, api.ErrRange},
	{[]byte{0, 0, 1, 0}, "batch", 3, api.ErrRange},
	{[]byte{0}, "num", 1, api.ErrShort},
	{[]byte{0, 0}, "num", 2, api.ErrShort},
	{[]byte{0, 64, 1, 1}, "num", 1, api.ErrKind},
	{[]byte{0, 0, 64, 65}, "num", 2, api.ErrLimit},
	{[]byte{1, 0, 64, 65, 1}, "num", 2, api.ErrLimit},
	{[]byte{1, 0, 128, 1, 0, 0, 1}, "num", 2, api.ErrLimit},
	{[]byte{64, 1, 0, 1, 1}, "num", 0, api.ErrKind},
	{[]byte{1, 0, 64, 1, 1}, "num", 2, api.ErrKind},
	{[]byte{192, 0, 0, 0, 64, 0, 0, 1, 0, 1, 1}, "num", 0, api.ErrLimit},
	{[]byte{1, 192, 0, 0, 0, 64, 0, 0, 1, 1, 1}, "num", 1, api.ErrLimit},
	{[]byte{1, 0, 1, 0}, "kind", 4, api.ErrKind},
	{[]byte{1, 0, 2, 1, 13}, "kind", 5, api.ErrKind},
	{[]byte{1, 0, 2, 13, 11, 0}, "kind", 4, api.ErrKind},
	{[]byte{1, 0, 2, 1, 11, 0}, "record", 6, api.ErrRange},
	{[]byte{1, 0, 3, 11, 0, 1, 64}, "record", 5, api.ErrRange},
	{[]byte{1, 0, 1, 7, 1, 1, 'A'}, "record", 7, api.ErrArg},
	{[]byte{1, 0, 1, 8, 1, 0, 0, 2, 3, 3, 0}, "record", 11, api.ErrReplicas},
}

// TestNextWrong: 6.4, what is refused, and where; there is no batch beside it.
func TestNextWrong(t *testing.T) {
	for _, c := range refusals {
		r := wire.Read(append([]byte{64, 70}, c.bytes...))
		r.Num(70)
		b := batch.Next(r)
		if r.Err() != wrong(c.op, c.at+2, c.code) || r.At() != c.at+2 || !reflect.DeepEqual(b, api.Batch{}) {
			t.Errorf("%v: %v, at %d, %#v", c.bytes, b, r.At(), r.Err())
		}
	}
}

// TestNextCut: 6.4, of a batch that is cut anywhere there is nothing.
func TestNextCut(t *testing.T) {
	_, long := greatest(16500)
	for _, whole := range [][]byte{written[0].bytes, written[3].bytes, written[4].bytes, written[6].bytes, long} {
		for cut := range whole {
			r := wire.Read(whole[:cut:cut])
			b := batch.Next(r)
			f, _ := r.Err().(api.Fault)
			if f.Err != api.ErrShort || !reflect.DeepEqual(b, api.Batch{}) {
				t.Fatalf("cut at %d: %v, %#v", cut, b, r.Err())
			}
		}
	}
}

// TestNextGreatest: 6.4, up to 2^14 bytes from where it begins; one that has more is refused behind it.
func TestNextGreatest(t *testing.T) {
	for size := 16380; size <= 16500; size++ {
		want, whole := greatest(size)
		for _, ahead := range []int{0, 1, 7, 20000} {
			r := wire.Read(slices.Concat(make([]byte, ahead), whole, []byte{9, 9}))
			for range ahead {
				r.Num(0)
			}
			b := batch.Next(r)
			if size <= 1<<14 && (r.Err() != nil || !batch.Same(b, want)) {
				t.Errorf("%d bytes behind %d: %#v", size, ahead, r.Err())
			}
			if size > 1<<14 && (r.Err() != wrong("batch", ahead+size, api.ErrLimit) || !reflect.DeepEqual(b, api.Batch{})) {
				t.Errorf("%d bytes behind %d: %#v", size, ahead, r.Err())
			}
			if r.At() != ahead+size {
				t.Errorf("%d bytes behind %d: at %d", size, ahead, r.At())
			}
		}
	}
}

// TestNextFirst: 6.4 and 2.5, what is wrong with the last record of a batch that has too many bytes was wrong first.
func TestNextFirst(t *testing.T) {
	_, whole := greatest(16450)
	last := len(whole) - (16450 - 3 - 62*263)
	whole[last] = 13
	r := wire.Read(whole)
	if b := batch.Next(r); r.Err() != wrong("kind", last+1, api.ErrKind) || !reflect.DeepEqual(b, api.Batch{}) {
		t.Errorf("%#v", r.Err())
	}
	_, whole = greatest(16450)
	whole[0] = 0
	r = wire.Read(whole)
	if b := batch.Next(r); r.Err() != wrong("batch", 3, api.ErrRange) || r.At() != 3 || !reflect.DeepEqual(b, api.Batch{}) {
		t.Errorf("at %d, %#v", r.At(), r.Err())
	}
}

// TestNextBehindWrong: 6.4, behind what was wrong already there is no batch, and that stays.
func TestNextBehindWrong(t *testing.T) {
	for _, c := range written {
		r := wire.Read(append([]byte{9}, c.bytes...))
		r.Num(10)
		r.Refuse("so", api.ErrFull)
		b := batch.Next(r)
		if !reflect.DeepEqual(b, api.Batch{}) || r.Err() != wrong("so", 1, api.ErrFull) || r.At() != 1 {
			t.Errorf("%v, at %d, %v", b, r.At(), r.Err())
		}
	}
}

// TestRead: 6.5, the batch that bytes are, all of them.
func TestRead(t *testing.T) {
	for _, c := range written {
		if b, err := batch.Read(c.bytes); err != nil || !batch.Same(b, c.b) {
			t.Errorf("%v: %v, %v", c.bytes, b, err)
		}
		for _, more := range [][]byte{{0}, {1}, {255, 255}, c.bytes} {
			b, err := batch.Read(slices.Concat(c.bytes, more))
			if err != wrong("end", len(c.bytes), api.ErrKind) || !reflect.DeepEqual(b, api.Batch{}) {
				t.Errorf("%v, and %v: %v, %#v", c.bytes, more, b, err)
			}
		}
	}
	for _, size := range []int{16383, 16384} {
		want, whole := greatest(size)
		if b, err := batch.Read(whole); err != nil || !batch.Same(b, want) {
			t.Errorf("%d bytes: %#v", size, err)
		}
	}
}

// TestReadWrong: 6.5, what is wrong first by the reader, ahead of bytes that are left.
func TestReadWrong(t *testing.T) {
	for _, c := range refusals {
		b, err := batch.Read(c.bytes)
		if err != wrong(c.op, c.at, c.code) || !reflect.DeepEqual(b, api.Batch{}) {
			t.Errorf("%v: %v, %#v", c.bytes, b, err)
		}
	}
	_, whole := greatest(16385)
	for _, more := range [][]byte{nil, {1}} {
		b, err := batch.Read(append(slices.Clone(whole), more...))
		if err != wrong("batch", 16385, api.ErrLimit) || !reflect.DeepEqual(b, api.Batch{}) {
			t.Errorf("%#v", err)
		}
	}
	memory := []byte{3, 9, 2, 1, 11, 2}
	if b, err := batch.Read(memory[:5]); err != wrong("num", 5, api.ErrShort) || len(b.Records) != 0 {
		t.Errorf("what is behind the length is read: %v, %#v", b, err)
	}
}

// TestReadMemory: R3, a batch that is read has memory of its own, and the bytes stay as they are.
func TestReadMemory(t *testing.T) {
	memory, _ := batch.Put(batch.Of(7, 8, kinds()...))
	given := slices.Clone(memory)
	x, _ := batch.Read(given)
	y, _ := batch.Read(given)
	spoil(x.Records)
	if !holds(y, 7, 8, kinds()) || !bytes.Equal(given, memory) {
		t.Errorf("%v, %v", y, given)
	}
	clear(given)
	if !holds(y, 7, 8, kinds()) {
		t.Errorf("%v", y)
	}
}

// chosen is a batch that may be, by chance.
func chosen(chance *rand.Rand) api.Batch {
	b := api.Batch{Term: 1 + chance.IntN(1<<chance.IntN(31)), Base: chance.IntN(1 + 1<<chance.IntN(31))}
	all := kinds()
	for range 1 + chance.IntN(64) {
		b.Records = append(b.Records, all[chance.IntN(len(all))])
	}
	return b
}

// TestThereAndBack: 6.8, what is written is read as what it was.
func TestThereAndBack(t *testing.T) {
	chance := rand.New(rand.NewPCG(6, 8))
	for range 2000 {
		b := chosen(chance)
		x, err := batch.Put(b)
		if err != nil {
			t.Fatalf("%v: %v", b, err)
		}
		if y, err := batch.Read(x); err != nil || !batch.Same(y, b) {
			t.Fatalf("%v is read as %v, %v", b, y, err)
		}
	}
}

// oneWay holds bytes that are read as a batch against those that it is written as.
func oneWay(t *testing.T, x []byte) {
	t.Helper()
	b, err := batch.Read(x)
	if err != nil {
		if !reflect.DeepEqual(b, api.Batch{}) {
			t.Fatalf("%v: %v beside %v", x, b, err)
		}
		return
	}
	if err := batch.Check(b); err != nil {
		t.Fatalf("%v is read as %v: %v", x, b, err)
	}
	if again, err := batch.Put(b); err != nil || !bytes.Equal(again, x) {
		t.Fatalf("%v is read as %v, that is written as %v, %v", x, b, again, err)
	}
}

// TestOneWay: 6.8, bytes that are read as a batch are those that it is written as, short ones all, longer ones with a byte or two that are others.
func TestOneWay(t *testing.T) {
	for i := range 1 << 16 {
		one, two := byte(i), byte(i>>8)
		oneWay(t, []byte{one, two})
		oneWay(t, []byte{one, 0, two, 1})
		oneWay(t, []byte{one, two, 1, 1})
		oneWay(t, []byte{1, one, two, 1, 1})
		oneWay(t, []byte{1, 0, one, two, 1, 1})
		oneWay(t, []byte{1, 0, 2, one, two, 1})
	}
	chance := rand.New(rand.NewPCG(8, 6))
	for range 20000 {
		x, _ := batch.Put(chosen(chance))
		for range 1 + chance.IntN(2) {
			x[chance.IntN(min(len(x), 40))] = byte(chance.IntN(256))
		}
		oneWay(t, x)
	}
}
