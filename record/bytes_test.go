package record_test

import (
	"bytes"
	"math/rand/v2"
	"reflect"
	"slices"
	"strings"
	"testing"

	"castellan/api"
	"castellan/record"
	"castellan/wire"
)

// order is 5.4: in which order things are written.
var order = []string{"Broker", "Epoch", "Topic", "Part", "Leader", "Client", "Serial", "Code", "Flag", "Name", "Key", "Value", "Rack", "Ids", "Isr", "Add", "Drop"}

// number is a number as bytes, by chapter 2.
func number(n int) []byte {
	switch {
	case n < 1<<6:
		return []byte{byte(n)}
	case n < 1<<14:
		return []byte{64 | byte(n>>8), byte(n)}
	case n < 1<<30:
		return []byte{128 | byte(n>>24), byte(n >> 16), byte(n >> 8), byte(n)}
	}
	return []byte{192, 0, 0, 0, byte(n >> 24), byte(n >> 16), byte(n >> 8), byte(n)}
}

// laid is a record as bytes by the chapter's words, whatever is in it.
func laid(r api.Record) []byte {
	b := []byte{byte(r.Kind)}
	for _, f := range order {
		if !slices.Contains(about[r.Kind], f) {
			continue
		}
		switch v := reflect.ValueOf(r).FieldByName(f).Interface().(type) {
		case int:
			b = append(b, number(v)...)
		case bool:
			b = append(b, map[bool]byte{true: 1}[v])
		case string:
			b = append(append(b, number(len(v))...), v...)
		case []int:
			b = append(b, number(len(v))...)
			for _, n := range v {
				b = append(b, number(n)...)
			}
		}
	}
	return b
}

// written are records as the chapter lays them, byte by byte.
var written = []struct {
	r api.Record
	b []byte
}{
	{api.Record{Kind: api.RNoop}, []byte{1}},
	{api.Record{Kind: api.RBroker, Broker: 3, Epoch: 70, Rack: "r1"}, []byte{2, 3, 64, 70, 2, 'r', '1'}},
	{api.Record{Kind: api.RFence, Broker: 64}, []byte{3, 64, 64, 0}},
	{api.Record{Kind: api.ROpen, Broker: 1, Epoch: 2}, []byte{4, 1, 2}},
	{api.Record{Kind: api.RLeave, Broker: 1, Epoch: 1 << 30}, []byte{5, 1, 192, 0, 0, 0, 64, 0, 0, 0}},
	{api.Record{Kind: api.RGone, Broker: 9, Epoch: 20000}, []byte{6, 9, 128, 0, 78, 32}},
	{api.Record{Kind: api.RTopic, Topic: 4, Name: "a.b"}, []byte{7, 4, 3, 'a', '.', 'b'}},
	{api.Record{Kind: api.RPart, Topic: 5, Part: 2, Ids: []int{1, 2, 3}, Isr: []int{1}, Leader: 1}, []byte{8, 5, 2, 1, 3, 1, 2, 3, 1, 1}},
	{api.Record{Kind: api.RPart, Topic: 1}, []byte{8, 1, 0, 0, 0, 0}},
	{
		api.Record{Kind: api.RChange, Topic: 5, Part: 255, Epoch: 7, Leader: 2, Ids: []int{1, 2, 64}, Isr: []int{2, 1}, Add: []int{64}, Drop: []int{1}},
		[]byte{9, 7, 5, 64, 255, 2, 3, 1, 2, 64, 64, 2, 2, 1, 1, 64, 64, 1, 1},
	},
	{api.Record{Kind: api.RConfig, Key: "k", Value: "v\xff"}, []byte{10, 0, 0, 1, 'k', 2, 'v', 255}},
	{api.Record{Kind: api.RConfig, Topic: 6, Key: "k-1", Flag: true}, []byte{10, 6, 1, 3, 'k', '-', '1', 0}},
	{api.Record{Kind: api.RDrop, Topic: 2}, []byte{11, 2}},
	{api.Record{Kind: api.RDone, Client: 1001, Serial: 5, Code: 21}, []byte{12, 67, 233, 5, 21}},
}

// samples are records that may be, of all kinds, with each field at its ends.
func samples() []api.Record {
	var l []api.Record
	for kind := 1; kind <= 12; kind++ {
		l = append(l, plain(kind))
		for _, f := range about[kind] {
			for _, v := range good(kind, f) {
				l = append(l, with(plain(kind), f, v))
			}
		}
	}
	return l
}

// chosen is a record that may be, by chance.
func chosen(chance *rand.Rand) api.Record {
	r := api.Record{Kind: 1 + chance.IntN(12)}
	for _, f := range about[r.Kind] {
		l := good(r.Kind, f)
		r = with(r, f, l[chance.IntN(len(l))])
	}
	if r.Flag {
		r.Value = ""
	}
	return r
}

// TestPut: 5.4, byte by byte, behind whatever there is.
func TestPut(t *testing.T) {
	for _, c := range written {
		for _, ahead := range [][]byte{nil, {}, {7}, {9, 9, 9, 9}} {
			b, err := record.Put(ahead, c.r)
			if want := append(slices.Clone(ahead), c.b...); err != nil || !bytes.Equal(b, want) {
				t.Errorf("%v: %v, %v; not %v", c.r, b, err, want)
			}
		}
	}
	for _, r := range samples() {
		if b, err := record.Put(nil, r); err != nil || !bytes.Equal(b, laid(r)) {
			t.Errorf("%v: %v, %v; not %v", r, b, err, laid(r))
		}
	}
}

// TestPutWrong: 5.4, Check's error, and no bytes, not even those that were there.
func TestPutWrong(t *testing.T) {
	for kind := range 15 {
		for _, f := range names() {
			for _, v := range refused(kind, f) {
				r := with(plain(kind), f, v)
				b, err := record.Put([]byte{1, 2}, r)
				if err == nil || err != record.Check(r) || len(b) != 0 {
					t.Errorf("kind %d, %s %v: %v, %#v", kind, f, v, b, err)
				}
			}
		}
	}
}

// TestPutMemory: R3, what is ahead is not changed, nor a record's rows, and none of these is kept.
func TestPutMemory(t *testing.T) {
	r := written[9].r
	want := append([]byte{1, 2}, written[9].b...)
	for spare := range 40 {
		memory := make([]byte, 2, 2+spare)
		memory[0], memory[1] = 1, 2
		b, err := record.Put(memory, r)
		if err != nil || !bytes.Equal(b, want) || !bytes.Equal(memory, []byte{1, 2}) {
			t.Errorf("with room for %d: %v, %v, and %v ahead", spare, b, err, memory)
		}
	}
	ids := []int{1, 2, 3}
	b, _ := record.Put(nil, api.Record{Kind: api.RPart, Topic: 5, Ids: ids[:2]})
	if !bytes.Equal(b, []byte{8, 5, 0, 0, 2, 1, 2, 0}) || !slices.Equal(ids, []int{1, 2, 3}) {
		t.Errorf("%v, %v", b, ids)
	}
}

// TestRead: 5.5, what is written is read as what it was, from where the reader is, and nothing behind it.
func TestRead(t *testing.T) {
	for _, c := range written {
		for _, behind := range [][]byte{nil, {0}, {255}, c.b} {
			r := wire.Read(slices.Concat([]byte{64, 70}, c.b, behind))
			r.Num(70)
			x := record.Read(r)
			if !record.Same(x, c.r) || r.Err() != nil || r.At() != 2+len(c.b) {
				t.Errorf("%v: %v, at %d, %v", c.b, x, r.At(), r.Err())
			}
		}
	}
	var all []byte
	for _, x := range samples() {
		all = append(all, laid(x)...)
	}
	r := wire.Read(all)
	for _, want := range samples() {
		if x := record.Read(r); !record.Same(x, want) {
			t.Fatalf("%v, not %v: %v", x, want, r.Err())
		}
	}
	if err := r.End(); err != nil {
		t.Errorf("%v", err)
	}
}

// refuses holds what a reader tells of bytes, that are no record, against what it should; the bytes stand behind two others.
func refuses(t *testing.T, b []byte, op string, at int, c api.Code) {
	t.Helper()
	r := wire.Read(append([]byte{64, 70}, b...))
	r.Num(70)
	x := record.Read(r)
	if r.Err() != wrong(op, at+2, c) || r.At() != at+2 || !reflect.DeepEqual(x, api.Record{}) {
		t.Errorf("%v: %v, at %d, %#v; not %#v", b, x, r.At(), r.Err(), wrong(op, at+2, c))
	}
}

// TestReadKind: 5.5, kinds that there are not are refused behind them, those above 63 where they begin.
func TestReadKind(t *testing.T) {
	refuses(t, nil, "num", 0, api.ErrShort)
	for k := range 64 {
		if k < 1 || k > 12 {
			refuses(t, []byte{byte(k)}, "kind", 1, api.ErrKind)
			refuses(t, []byte{byte(k), 1, 1, 1}, "kind", 1, api.ErrKind)
		}
	}
	refuses(t, []byte{64}, "num", 0, api.ErrShort)
	refuses(t, []byte{64, 1}, "num", 0, api.ErrKind)
	refuses(t, []byte{64, 64}, "num", 0, api.ErrLimit)
	refuses(t, []byte{128, 0, 64, 1}, "num", 0, api.ErrLimit)
}

// TestReadWrong: 5.5, what the reader refuses by itself, where that begins.
func TestReadWrong(t *testing.T) {
	long := append([]byte{2, 1, 0}, number(257)...)
	long = append(long, bytes.Repeat([]byte{'r'}, 257)...)
	for _, c := range []struct {
		b    []byte
		op   string
		at   int
		code api.Code
	}{
		{[]byte{2}, "num", 1, api.ErrShort},
		{[]byte{2, 1}, "num", 2, api.ErrShort},
		{[]byte{2, 1, 0}, "num", 3, api.ErrShort},
		{[]byte{2, 1, 0, 2, 'r'}, "text", 3, api.ErrShort},
		{[]byte{2, 64, 1, 0, 1, 'r'}, "num", 1, api.ErrKind},
		{[]byte{2, 192, 0, 0, 0, 64, 0, 0, 1, 0, 1, 'r'}, "num", 1, api.ErrLimit},
		{[]byte{2, 1, 192, 0, 0, 0, 64, 0, 0, 1, 1, 'r'}, "num", 2, api.ErrLimit},
		{long, "num", 3, api.ErrLimit},
		{[]byte{10, 0, 2, 1, 'k', 0}, "flag", 2, api.ErrKind},
		{[]byte{10, 0}, "flag", 2, api.ErrShort},
		{[]byte{10, 0, 0, 1, 'k', 64, 1, 'v'}, "num", 5, api.ErrKind},
		{[]byte{8, 1, 0, 0, 8, 1, 2, 3, 4, 5, 6, 7, 8, 0}, "num", 4, api.ErrLimit},
		{[]byte{8, 1, 0, 0, 2, 1, 64, 65, 0}, "num", 6, api.ErrLimit},
		{[]byte{8, 1, 0, 0, 2, 1}, "num", 6, api.ErrShort},
		{[]byte{8, 1, 0, 0, 1, 1}, "num", 6, api.ErrShort},
		{[]byte{8, 0, 0, 0, 1, 0}, "num", 6, api.ErrShort},
	} {
		refuses(t, c.b, c.op, c.at, c.code)
	}
	for _, x := range samples() {
		b := laid(x)
		for cut := range b {
			r := wire.Read(b[:cut:cut])
			got := record.Read(r)
			if api.ErrShort != codeOf(r.Err()) || !reflect.DeepEqual(got, api.Record{}) {
				t.Errorf("%v cut at %d: %v, %v", b, cut, got, r.Err())
			}
		}
	}
}

// codeOf is the code that a fault of a reader wraps.
func codeOf(err error) error {
	f, _ := err.(api.Fault)
	return f.Err
}

// TestReadRefuses: 5.5, a record that may not be is refused behind it, with Check's code.
func TestReadRefuses(t *testing.T) {
	for _, c := range []struct {
		b    []byte
		code api.Code
	}{
		{[]byte{2, 0, 0, 1, 'r'}, api.ErrRange},
		{[]byte{2, 64, 65, 0, 1, 'r'}, api.ErrRange},
		{[]byte{2, 1, 0, 0}, api.ErrArg},
		{[]byte{2, 1, 0, 1, 'R'}, api.ErrArg},
		{[]byte{2, 0, 0, 1, 'R'}, api.ErrRange},
		{[]byte{7, 0, 1, 'a'}, api.ErrRange},
		{[]byte{7, 1, 1, '.'}, api.ErrArg},
		{append([]byte{7, 1, 41}, strings.Repeat("n", 41)...), api.ErrArg},
		{append([]byte{7, 1, 65, 0}, strings.Repeat("n", 256)...), api.ErrArg},
		{[]byte{8, 1, 65, 0, 0, 0, 0}, api.ErrRange},
		{[]byte{8, 1, 0, 64, 65, 0, 0}, api.ErrRange},
		{[]byte{8, 1, 0, 0, 1, 0, 0}, api.ErrReplicas},
		{[]byte{8, 1, 0, 0, 2, 3, 3, 0}, api.ErrReplicas},
		{[]byte{8, 1, 0, 0, 0, 2, 3, 3}, api.ErrReplicas},
		{[]byte{9, 0, 1, 0, 0, 0, 0, 2, 3, 3, 0}, api.ErrReplicas},
		{[]byte{9, 0, 1, 0, 0, 0, 0, 0, 1, 0}, api.ErrReplicas},
		{[]byte{10, 0, 1, 1, 'k', 1, 'v'}, api.ErrLimit},
		{[]byte{10, 0, 0, 0, 0}, api.ErrArg},
		{[]byte{11, 0}, api.ErrRange},
		{[]byte{12, 0, 1, 0}, api.ErrRange},
		{[]byte{12, 1, 0, 0}, api.ErrRange},
		{[]byte{12, 1, 1, 22}, api.ErrRange},
	} {
		refuses(t, c.b, "record", len(c.b), c.code)
		refuses(t, append(c.b, 1, 1), "record", len(c.b), c.code)
	}
}

// TestReadBehindWrong: 5.5, behind what was wrong already there is no record, and that stays.
func TestReadBehindWrong(t *testing.T) {
	for _, c := range written {
		r := wire.Read(append([]byte{9}, c.b...))
		r.Num(10)
		r.Refuse("so", api.ErrFull)
		x := record.Read(r)
		if !reflect.DeepEqual(x, api.Record{}) || r.Err() != wrong("so", 1, api.ErrFull) || r.At() != 1 {
			t.Errorf("%v, at %d, %v", x, r.At(), r.Err())
		}
	}
}

// TestReadMemory: R3, a record that is read has memory of its own.
func TestReadMemory(t *testing.T) {
	memory := slices.Clone(written[9].b)
	x, y := record.Read(wire.Read(memory)), record.Read(wire.Read(memory))
	for _, l := range [][]int{x.Ids, x.Isr, x.Add, x.Drop} {
		for i := range l {
			l[i] = 50 + i
		}
		_ = append(l, 60)
	}
	if !bytes.Equal(memory, written[9].b) || !record.Same(y, written[9].r) {
		t.Errorf("%v, %v", memory, y)
	}
	if !slices.Equal(x.Isr, []int{50, 51}) || !slices.Equal(x.Add, []int{50}) {
		t.Errorf("rows share their memory: %v", x)
	}
	text := slices.Clone(written[10].b)
	z := record.Read(wire.Read(text))
	clear(text)
	if !record.Same(z, written[10].r) {
		t.Errorf("%v", z)
	}
}

// TestThereAndBack: 5.7, what is written is read as what it was, many behind one another.
func TestThereAndBack(t *testing.T) {
	chance := rand.New(rand.NewPCG(5, 7))
	for range 500 {
		var b []byte
		var l []api.Record
		for range 1 + chance.IntN(20) {
			x := chosen(chance)
			more, err := record.Put(b, x)
			if err != nil {
				t.Fatalf("%v: %v", x, err)
			}
			b, l = more, append(l, x)
		}
		r := wire.Read(b)
		for _, x := range l {
			if y := record.Read(r); !record.Same(x, y) {
				t.Fatalf("%v, not %v: %v", y, x, r.Err())
			}
		}
		if r.End() != nil {
			t.Fatalf("%v", r.Err())
		}
	}
}

// oneWay holds bytes that are read as a record against those that it is written as.
func oneWay(t *testing.T, b []byte) {
	t.Helper()
	r := wire.Read(b)
	x := record.Read(r)
	if r.Err() != nil {
		if !reflect.DeepEqual(x, api.Record{}) {
			t.Fatalf("%v: %v beside %v", b, x, r.Err())
		}
		return
	}
	again, err := record.Put(nil, x)
	if err != nil || !bytes.Equal(again, b[:r.At()]) {
		t.Fatalf("%v is read as %v, that is written as %v, %v", b[:r.At()], x, again, err)
	}
}

// TestOneWay: 5.7, bytes that are read as a record are those that it is written as, short ones all, longer ones with a byte or two that are others.
func TestOneWay(t *testing.T) {
	for i := range 1 << 16 {
		for kind := range 14 {
			oneWay(t, []byte{byte(kind), byte(i), byte(i >> 8), 1, 'a', 0, 0})
		}
	}
	chance := rand.New(rand.NewPCG(7, 5))
	for range 50000 {
		b := laid(chosen(chance))
		for range 1 + chance.IntN(2) {
			b[chance.IntN(len(b))] = byte(chance.IntN(256))
		}
		oneWay(t, append(b, 0, 1))
	}
}
