package rpc_test

import (
	"bytes"
	"errors"
	"math/rand/v2"
	"reflect"
	"slices"
	"strings"
	"testing"

	"castellan/api"
	"castellan/batch"
	"castellan/frame"
	"castellan/rpc"
)

// order is 7.3: in which order things are written, behind From, To and Term.
var order = []string{"Pre", "Ok", "Leader", "At", "AtTerm", "High", "Code", "Size", "Pos", "Data", "Batches"}

// number is a number as bytes, by chapter 2.
func number(n int) []byte {
	switch {
	case n < 1<<6:
		return []byte{byte(n)}
	case n < 1<<14:
		return []byte{64 | byte(n>>8), byte(n)}
	case n < 1<<30:
		return []byte{128 | byte(n>>24), byte(n >> 16), byte(n >> 8), byte(n)}
	}
	return []byte{192, 0, 0, 0, byte(n >> 24), byte(n >> 16), byte(n >> 8), byte(n)}
}

// laid is a message's body by the chapter's words, whatever numbers are in it.
func laid(m api.Rpc) []byte {
	b := slices.Concat(number(m.From), number(m.To), number(m.Term))
	for _, f := range order {
		if !isAbout(m.Kind, f) {
			continue
		}
		switch v := reflect.ValueOf(m).FieldByName(f).Interface().(type) {
		case int:
			b = append(b, number(v)...)
		case bool:
			b = append(b, map[bool]byte{true: 1}[v])
		case []byte:
			b = append(append(b, number(len(v))...), v...)
		case []api.Batch:
			b = append(b, number(len(v))...)
			for _, one := range v {
				x, _ := batch.Put(one)
				b = append(b, x...)
			}
		}
	}
	return b
}

// written are messages as the chapter lays them, byte by byte.
var written = []struct {
	m    api.Rpc
	kind int
	body []byte
}{
	{api.Rpc{Kind: api.QBegin, From: 1, To: 2, Term: 3, Leader: 1}, 5, []byte{1, 2, 3, 1}},
	{api.Rpc{Kind: api.QEnd, From: 2, To: 1, Leader: 70}, 6, []byte{2, 1, 0, 64, 70}},
	{api.Rpc{Kind: api.QVote, From: 1, To: 2, Term: 3, Pre: true, At: 70, AtTerm: 2}, 1, []byte{1, 2, 3, 1, 64, 70, 2}},
	{api.Rpc{Kind: api.QVote, From: 1, To: 2, Term: 3}, 1, []byte{1, 2, 3, 0, 0, 0}},
	{api.Rpc{Kind: api.AVote, From: 7, To: 6, Term: 3, Ok: true, Leader: 4}, 2, []byte{7, 6, 3, 0, 1, 4}},
	{api.Rpc{Kind: api.AVote, From: 7, To: 6, Term: 3, Pre: true, Leader: 4}, 2, []byte{7, 6, 3, 1, 0, 4}},
	{api.Rpc{Kind: api.QFetch, From: 101, To: 1, Term: 3, At: 20000, AtTerm: 2}, 3, []byte{64, 101, 1, 3, 128, 0, 78, 32, 2}},
	{api.Rpc{Kind: api.QFetch, From: 1 << 30, To: 1, Term: 1 << 30, At: 1<<30 - 1, AtTerm: 64}, 3, []byte{192, 0, 0, 0, 64, 0, 0, 0, 1, 192, 0, 0, 0, 64, 0, 0, 0, 191, 255, 255, 255, 64, 64}},
	{api.Rpc{Kind: api.AFetch, From: 1, To: 2, Term: 3, Leader: 5, At: 9, AtTerm: 4, High: 8, Code: 20}, 4, []byte{1, 2, 3, 5, 9, 4, 8, 20, 0}},
	{api.Rpc{Kind: api.AFetch, From: 1, To: 2, Term: 3, Leader: 5, At: 9, AtTerm: 4, High: 8, Batches: []api.Batch{
		{Term: 3, Base: 9, Records: []api.Record{{Kind: api.RNoop}, {Kind: api.RDrop, Topic: 2}}},
		{Term: 4, Base: 10, Records: []api.Record{{Kind: api.RTopic, Topic: 1, Name: "a"}}},
	}}, 4, []byte{1, 2, 3, 5, 9, 4, 8, 0, 2, 3, 9, 2, 1, 11, 2, 4, 10, 1, 7, 1, 1, 'a'}},
	{api.Rpc{Kind: api.QSnap, From: 2, To: 1, Term: 3, At: 5, AtTerm: 2, Pos: 512}, 7, []byte{2, 1, 3, 5, 2, 66, 0}},
	{api.Rpc{Kind: api.ASnap, From: 1, To: 2, Term: 3, Leader: 6, At: 5, AtTerm: 2, Size: 9, Pos: 4, Data: []byte{7}}, 8, []byte{1, 2, 3, 6, 5, 2, 0, 9, 4, 1, 7}},
	{api.Rpc{Kind: api.ASnap, From: 1, To: 2, Term: 3, Code: 8}, 8, []byte{1, 2, 3, 0, 0, 0, 8, 0, 0, 0}},
	{api.Rpc{Kind: api.ASnap, From: 1, To: 2, Data: bytes.Repeat([]byte{9}, 512)}, 8, append([]byte{1, 2, 0, 0, 0, 0, 0, 0, 0, 66, 0}, bytes.Repeat([]byte{9}, 512)...)},
	{api.Rpc{Kind: api.AFetch, From: 1, To: 2, Batches: batches(8)}, 4, []byte{1, 2, 0, 0, 0, 0, 0, 0, 8, 1, 0, 1, 1, 1, 1, 1, 1, 1, 2, 1, 1, 1, 3, 1, 1, 1, 4, 1, 1, 1, 5, 1, 1, 1, 6, 1, 1, 1, 7, 1, 1}},
}

// headSize is how many bytes bare(AFetch) has, with how many batches there are.
const headSize = 9

// sized is a batch of 63 records that has so many bytes, from 16360 to 16450, of which some are too many for a batch.
func sized(size int) api.Batch {
	b := api.Batch{Term: 1}
	for range 61 {
		b.Records = append(b.Records, setting(256))
	}
	left := size - 3 - 61*263 - 7 - 150
	b.Records = append(b.Records, setting(150), setting(left-7))
	return b
}

// setting is a record that has seven bytes, and so many as its value has, if these are 64 or more.
func setting(many int) api.Record {
	return api.Record{Kind: api.RConfig, Key: "k", Value: strings.Repeat("v", many)}
}

// fetched is an answer with batches.
func fetched(l ...api.Batch) api.Rpc {
	m := bare(api.AFetch)
	m.Batches = l
	return m
}

// TestPut: 7.3, byte by byte.
func TestPut(t *testing.T) {
	for _, c := range written {
		if f, err := rpc.Put(c.m); err != nil || f.Kind != c.kind || !bytes.Equal(f.Body, c.body) {
			t.Errorf("%v: %v, %v; not %v", c.m, f, err, c.body)
		}
	}
	for kind := range about {
		for _, m := range []api.Rpc{bare(kind), full(kind)} {
			if f, err := rpc.Put(m); err != nil || f.Kind != kind || !bytes.Equal(f.Body, laid(m)) {
				t.Errorf("%v: %v, %v; not %v", m, f, err, laid(m))
			}
		}
		for _, field := range about[kind] {
			for _, v := range goodValues(field) {
				m := full(kind)
				set(&m, field, v)
				if f, err := rpc.Put(m); err != nil || !bytes.Equal(f.Body, laid(m)) {
					t.Errorf("%v: %v, %v; not %v", m, f, err, laid(m))
				}
			}
		}
	}
}

// refusesPut holds what Put tells of a message against what it should; there is no frame beside it.
func refusesPut(t *testing.T, m api.Rpc, want error) {
	t.Helper()
	if f, err := rpc.Put(m); err == nil || err != want || f.Kind != 0 || len(f.Body) != 0 {
		t.Errorf("kind %d, %d batches: %d bytes, %#v; not %#v", m.Kind, len(m.Batches), len(f.Body), err, want)
	}
}

// TestPutWrong: 7.3, Check's error, and no frame.
func TestPutWrong(t *testing.T) {
	for _, kind := range noKinds {
		refusesPut(t, bare(kind), wrong("kind", kind, api.ErrKind))
	}
	for kind := range about {
		for _, g := range groups {
			for _, spoil := range g.spoilers(kind) {
				m := full(kind)
				spoil(&m)
				refusesPut(t, m, g.told(m))
			}
		}
	}
	for _, bad := range spoiltBatches() {
		want := wrong("batch", 1, batch.Check(bad))
		refusesPut(t, fetched(batches(1)[0], bad), want)
		refusesPut(t, fetched(sized(16385), bad), want)
	}
}

// TestPutGreatest: 7.3, up to 2^14 bytes, and how many there would be of one that has more.
func TestPutGreatest(t *testing.T) {
	for size := 16360; size <= 1<<14; size++ {
		m := fetched(sized(size))
		if size+headSize > 1<<14 {
			refusesPut(t, m, wrong("message", size+headSize, api.ErrLimit))
		} else if f, err := rpc.Put(m); err != nil || len(f.Body) != size+headSize || !bytes.Equal(f.Body, laid(m)) {
			t.Errorf("%d bytes: %v", size, err)
		}
		small := batches(3)
		m = fetched(small[0], small[1], sized(size), small[2])
		if many := size + headSize + 12; many > 1<<14 {
			refusesPut(t, m, wrong("message", many, api.ErrLimit))
		} else if f, err := rpc.Put(m); err != nil || len(f.Body) != many || !bytes.Equal(f.Body, laid(m)) {
			t.Errorf("%d bytes: %v", many, err)
		}
		if err := rpc.Check(m); err != nil {
			t.Errorf("%d bytes: %#v", size, err)
		}
	}
	m := fetched(slices.Repeat([]api.Batch{sized(16384)}, 8)...)
	refusesPut(t, m, wrong("message", 8*16384+headSize, api.ErrLimit))
}

// TestPutBatchTooGreat: 7.3 and R6, batch.Put's error around the first batch that has too many bytes, ahead of the message's.
func TestPutBatchTooGreat(t *testing.T) {
	for i := range 8 {
		m := fetched(batches(8)...)
		m.Batches[i] = sized(16385)
		want := wrong("batch", i, wrong("batch", 16385, api.ErrLimit))
		refusesPut(t, m, want)
		for k := i + 1; k < 8; k++ {
			m.Batches[k] = sized(16400)
		}
		refusesPut(t, m, want)
		for k := range i {
			m.Batches[k] = sized(16384)
		}
		refusesPut(t, m, want)
	}
}

// TestPutMemory: R3, a message that is written is not changed, nor are its bytes kept.
func TestPutMemory(t *testing.T) {
	for kind := range about {
		m := full(kind)
		x, _ := rpc.Put(m)
		y, _ := rpc.Put(m)
		want := laid(m)
		clear(x.Body[:cap(x.Body)])
		if !alike(m, full(kind)) || !bytes.Equal(y.Body, want) {
			t.Errorf("%v, %v", m, y)
		}
		spoil(m)
		if !bytes.Equal(y.Body, want) {
			t.Errorf("%v", y)
		}
	}
}

// TestRead: 7.4, the message that a frame is.
func TestRead(t *testing.T) {
	for _, c := range written {
		if m, err := rpc.Read(api.Frame{Kind: c.kind, Body: c.body}); err != nil || !alike(m, c.m) {
			t.Errorf("%v: %v, %v; not %v", c.body, m, err, c.m)
		}
	}
	for kind := range about {
		for _, want := range []api.Rpc{bare(kind), full(kind)} {
			if m, err := rpc.Read(api.Frame{Kind: kind, Body: laid(want)}); err != nil || !alike(m, want) {
				t.Errorf("%v, %v; not %v", m, err, want)
			}
		}
	}
	want := fetched(sized(1<<14 - headSize))
	if m, err := rpc.Read(api.Frame{Kind: api.AFetch, Body: laid(want)}); err != nil || !alike(m, want) {
		t.Errorf("the greatest one: %v", err)
	}
}

// refuses holds what Read tells of a frame against what it should; there is no message beside it.
func refuses(t *testing.T, kind int, body []byte, want error) {
	t.Helper()
	if m, err := rpc.Read(api.Frame{Kind: kind, Body: body}); err == nil || err != want || !reflect.DeepEqual(m, api.Rpc{}) {
		t.Errorf("%d, %v: %v, %#v; not %#v", kind, body, m, err, want)
	}
}

// TestReadKind: 7.4, no such kind, whatever the body is.
func TestReadKind(t *testing.T) {
	for _, kind := range noKinds {
		for _, body := range [][]byte{nil, {1, 2, 3, 1}, {1, 1}, {255}, make([]byte, 1<<15)} {
			refuses(t, kind, body, wrong("kind", kind, api.ErrKind))
		}
	}
}

// TestReadWrong: 7.4, what a reader of the body refuses, where that is.
func TestReadWrong(t *testing.T) {
	most := []byte{192, 0, 0, 0, 64, 0, 0, 1}
	for _, c := range []struct {
		kind int
		body []byte
		op   string
		at   int
		code api.Code
	}{
		{api.QBegin, nil, "num", 0, api.ErrShort},
		{api.QBegin, []byte{1, 2, 3}, "num", 3, api.ErrShort},
		{api.QBegin, []byte{64, 1, 2, 3, 1}, "num", 0, api.ErrKind},
		{api.QBegin, []byte{1, 2, 3, 64, 1}, "num", 3, api.ErrKind},
		{api.QBegin, append(slices.Clone(most), 2, 3, 1), "num", 0, api.ErrLimit},
		{api.QBegin, slices.Concat([]byte{1}, most, []byte{3, 1}), "num", 1, api.ErrLimit},
		{api.QBegin, slices.Concat([]byte{1, 2}, most, []byte{1}), "num", 2, api.ErrLimit},
		{api.QEnd, slices.Concat([]byte{1, 2, 3}, most), "num", 3, api.ErrLimit},
		{api.QBegin, []byte{1, 2, 3, 1, 0}, "end", 4, api.ErrKind},
		{api.QBegin, []byte{1, 1, 3, 1, 0}, "end", 4, api.ErrKind},
		{api.QVote, []byte{1, 2, 3, 2, 0, 0}, "flag", 3, api.ErrKind},
		{api.QVote, []byte{1, 2, 3}, "flag", 3, api.ErrShort},
		{api.AVote, []byte{1, 2, 3, 1, 64, 0}, "flag", 4, api.ErrKind},
		{api.AVote, []byte{1, 2, 3, 1}, "flag", 4, api.ErrShort},
		{api.AVote, []byte{0, 0, 3, 1, 3, 0}, "flag", 4, api.ErrKind},
		{api.QFetch, slices.Concat([]byte{1, 2, 3}, most, []byte{0}), "num", 3, api.ErrLimit},
		{api.QFetch, slices.Concat([]byte{1, 2, 3, 0}, most), "num", 4, api.ErrLimit},
		{api.QSnap, slices.Concat([]byte{1, 2, 3, 0, 0}, most), "num", 5, api.ErrLimit},
		{api.ASnap, slices.Concat([]byte{1, 2, 3, 0, 0, 0}, most, []byte{0, 0, 0}), "num", 6, api.ErrLimit},
		{api.ASnap, slices.Concat([]byte{1, 2, 3, 0, 0, 0, 0}, most, []byte{0, 0}), "num", 7, api.ErrLimit},
		{api.ASnap, append([]byte{1, 2, 3, 0, 0, 0, 0, 0, 0, 66, 1}, make([]byte, 513)...), "num", 9, api.ErrLimit},
		{api.ASnap, append([]byte{1, 2, 3, 0, 0, 0, 0, 0, 0, 66, 0}, make([]byte, 511)...), "text", 9, api.ErrShort},
		{api.ASnap, []byte{1, 2, 3, 0, 0, 0, 0, 0, 0, 64, 1, 7}, "num", 9, api.ErrKind},
		{api.AFetch, slices.Concat([]byte{1, 2, 3, 0, 0, 0}, most, []byte{0, 0}), "num", 6, api.ErrLimit},
		{api.AFetch, append([]byte{1, 2, 3, 0, 0, 0, 0, 0, 9}, make([]byte, 36)...), "num", 8, api.ErrLimit},
		{api.AFetch, []byte{1, 2, 3, 0, 0, 0, 0, 0, 1}, "num", 9, api.ErrShort},
		{api.AFetch, []byte{1, 2, 3, 0, 0, 0, 0, 0, 1, 0, 0, 1, 1}, "batch", 12, api.ErrRange},
		{api.AFetch, []byte{1, 2, 3, 0, 0, 0, 0, 0, 2, 1, 0, 1, 1, 1, 0, 0}, "batch", 16, api.ErrRange},
		{api.AFetch, []byte{1, 2, 3, 0, 0, 0, 0, 0, 1, 1, 0, 64, 65, 1}, "num", 11, api.ErrLimit},
		{api.AFetch, []byte{1, 2, 3, 0, 0, 0, 0, 0, 1, 1, 0, 1, 13}, "kind", 13, api.ErrKind},
		{api.AFetch, []byte{1, 2, 3, 0, 0, 0, 0, 0, 2, 1, 0, 1, 11, 0, 0, 0, 0}, "record", 14, api.ErrRange},
		{api.AFetch, []byte{1, 2, 3, 0, 0, 0, 0, 22, 1, 1, 0, 1, 1, 9}, "end", 13, api.ErrKind},
	} {
		refuses(t, c.kind, c.body, wrong(c.op, c.at, c.code))
	}
}

// TestReadCut: 7.4 and R3, of a message that is cut anywhere, or has a byte more, there is nothing; what lies behind the body's length is not read.
func TestReadCut(t *testing.T) {
	for kind := range about {
		whole := laid(full(kind))
		for cut := range whole {
			m, err := rpc.Read(api.Frame{Kind: kind, Body: whole[:cut]})
			if !errors.Is(err, api.ErrShort) || !reflect.DeepEqual(m, api.Rpc{}) {
				t.Errorf("%d cut at %d: %v, %#v", kind, cut, m, err)
			}
		}
		for _, more := range [][]byte{{0}, {1}, {255, 255}, whole} {
			refuses(t, kind, slices.Concat(whole, more), wrong("end", len(whole), api.ErrKind))
		}
	}
}

// TestReadGreatest: 7.4, a batch of more than 2^14 bytes is refused behind it, as batch.Next does.
func TestReadGreatest(t *testing.T) {
	body := slices.Concat(laid(bare(api.AFetch))[:headSize-1], []byte{1, 1, 0, 63})
	for range 63 {
		body = append(body, 10, 0, 0, 1, 'k', 65, 0)
		body = append(body, make([]byte, 256)...)
	}
	refuses(t, api.AFetch, body, wrong("batch", len(body), api.ErrLimit))
	refuses(t, api.AFetch, append(body, 0), wrong("batch", len(body), api.ErrLimit))
}

// TestReadRefuses: 7.4, Check's error of a message that is read, but may not be.
func TestReadRefuses(t *testing.T) {
	for kind := range about {
		for _, c := range []struct {
			from, to int
		}{{0, 2}, {1, 0}, {0, 0}, {1, 1}, {1 << 30, 1 << 30}} {
			m := full(kind)
			m.From, m.To = c.from, c.to
			refuses(t, kind, laid(m), wrong("from", c.from, api.ErrRange))
		}
		for _, code := range []int{22, 64, 1 << 30} {
			m := full(kind)
			if m.Code = code; isAbout(kind, "Code") {
				refuses(t, kind, laid(m), wrong("code", code, api.ErrRange))
			}
		}
	}
}

// TestReadMemory: R3, a message that is read has memory of its own, and the body stays as it is.
func TestReadMemory(t *testing.T) {
	for kind := range about {
		body := laid(full(kind))
		f := api.Frame{Kind: kind, Body: slices.Clone(body)}
		x, _ := rpc.Read(f)
		y, _ := rpc.Read(f)
		spoil(x)
		if !alike(y, full(kind)) || !bytes.Equal(f.Body, body) {
			t.Errorf("%v, %v", y, f)
		}
		clear(f.Body)
		if !alike(y, full(kind)) {
			t.Errorf("%v", y)
		}
	}
}

// chosen is a message that may be, by chance.
func chosen(chance *rand.Rand) api.Rpc {
	m := api.Rpc{Kind: 1 + chance.IntN(8), From: 1 + chance.IntN(1<<chance.IntN(30)), Term: chance.IntN(1 + 1<<chance.IntN(31))}
	m.To = m.From + 1
	for _, f := range about[m.Kind] {
		switch f {
		case "Pre", "Ok":
			set(&m, f, chance.IntN(2) == 1)
		case "Code":
			m.Code = chance.IntN(22)
		case "Data":
			m.Data = make([]byte, chance.IntN(513))
			for i := range m.Data {
				m.Data[i] = byte(chance.IntN(256))
			}
		case "Batches":
			for range chance.IntN(9) {
				m.Batches = append(m.Batches, mixed()[chance.IntN(3)])
			}
		default:
			set(&m, f, chance.IntN(1+1<<chance.IntN(31)))
		}
	}
	return m
}

// TestThereAndBack: 7.6, what is put into a frame is read as what it was, through a stream of bytes, too.
func TestThereAndBack(t *testing.T) {
	chance := rand.New(rand.NewPCG(7, 6))
	for range 5000 {
		m := chosen(chance)
		f, err := rpc.Put(m)
		if err != nil {
			t.Fatalf("%v: %v", m, err)
		}
		x, err := frame.Put(f)
		if err != nil {
			t.Fatalf("%v: %v", f, err)
		}
		if f, _, err = frame.Next(x); err != nil {
			t.Fatalf("%v: %v", x, err)
		}
		if y, err := rpc.Read(f); err != nil || !alike(y, m) || !rpc.Same(y, m) {
			t.Fatalf("%v is read as %v, %v", m, y, err)
		}
	}
}

// oneWay holds a frame that is read as a message against the one that this is put into.
func oneWay(t *testing.T, kind int, body []byte) {
	t.Helper()
	m, err := rpc.Read(api.Frame{Kind: kind, Body: body})
	if err != nil {
		if !reflect.DeepEqual(m, api.Rpc{}) {
			t.Fatalf("%d, %v: %v beside %v", kind, body, m, err)
		}
		return
	}
	if err := rpc.Check(m); err != nil {
		t.Fatalf("%d, %v is read as %v: %v", kind, body, m, err)
	}
	if again, err := rpc.Put(m); err != nil || again.Kind != kind || !bytes.Equal(again.Body, body) {
		t.Fatalf("%d, %v is read as %v, that is written as %v, %v", kind, body, m, again, err)
	}
}

// TestOneWay: 7.6, a frame that is read as a message is the one that this is put into, short ones all, longer ones with a byte or two that are others.
func TestOneWay(t *testing.T) {
	for i := range 1 << 16 {
		one, two := byte(i), byte(i>>8)
		for kind := range 10 {
			oneWay(t, kind, []byte{one, two, 1, 0})
			oneWay(t, kind, []byte{1, 2, 3, one, two})
			oneWay(t, kind, []byte{1, 2, 3, one, two, 0})
			oneWay(t, kind, []byte{1, 2, 3, 0, 0, 0, 0, one, two})
			oneWay(t, kind, []byte{1, 2, 3, 0, 0, 0, 0, 0, one, two, 1})
		}
	}
	chance := rand.New(rand.NewPCG(6, 7))
	for range 50000 {
		m := chosen(chance)
		body := laid(m)
		for range 1 + chance.IntN(2) {
			body[chance.IntN(min(len(body), 40))] = byte(chance.IntN(256))
		}
		oneWay(t, 1+chance.IntN(8), body)
		oneWay(t, m.Kind, body)
	}
}
