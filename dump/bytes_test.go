package dump_test

import (
	"bytes"
	"reflect"
	"slices"
	"testing"

	"castellan/api"
	"castellan/dump"
	"castellan/fault"
	"castellan/image"
)

// TestPutBytes: 16.5: the town, byte by byte, and metadata of which there is nothing.
func TestPutBytes(t *testing.T) {
	for _, x := range []struct {
		m    api.Image
		want string
	}{
		{town(), townBytes},
		{api.Image{}, "\x00\x00\x00\x00\x00"},
		{roomyImage(api.Image{}), "\x00\x00\x00\x00\x00"},
		{api.Image{Last: 70}, "\x40\x46\x00\x00\x00\x00"},
	} {
		if b, err := dump.Put(x.m); err != nil || string(b) != x.want {
			t.Errorf("%+v: %v\n%q, not\n%q", x.m, err, b, x.want)
		}
	}
}

// TestReadBytes: 16.6: they are read as what they were.
func TestReadBytes(t *testing.T) {
	for _, m := range []api.Image{town(), {}, {Last: 1 << 30}, full()} {
		b, err := dump.Put(m)
		if err != nil {
			t.Fatal(err)
		}
		if got, err := dump.Read(roomy(b)); err != nil || !alike(got, m) {
			t.Errorf("%v: %d bytes are other metadata", err, len(b))
		}
	}
}

// TestExample: the chapter's example.
func TestExample(t *testing.T) {
	m := behind(t, api.Image{},
		api.Record{Kind: api.RBroker, Broker: 1, Epoch: 1, Rack: "a"},
		api.Record{Kind: api.ROpen, Broker: 1, Epoch: 1},
		api.Record{Kind: api.RBroker, Broker: 2, Epoch: 1, Rack: "b"},
		api.Record{Kind: api.ROpen, Broker: 2, Epoch: 1},
		api.Record{Kind: api.RTopic, Topic: 1, Name: "t"},
		api.Record{Kind: api.RPart, Topic: 1, Ids: []int{1, 2}, Isr: []int{1, 2}, Leader: 1},
	)
	b, err := dump.Put(m)
	if err != nil || string(b) != "\x01\x02\x01\x01\x01a\x00\x00\x02\x01\x01b\x00\x00\x01\x01\x01t\x01\x02\x01\x02\x02\x01\x02\x01\x00\x00\x00\x00\x00" {
		t.Fatalf("%v: %q", err, b)
	}
	if n, err := dump.Read(b); err != nil || !alike(n, m) {
		t.Errorf("%v: %+v, not %+v", err, n, m)
	}
	for _, b := range [][]byte{nil, {}, []byte(townBytes)[:0]} {
		refused(t, b, wrong("num", 0, api.ErrShort))
	}
}

// refused fails the test, if bytes are not refused so, or metadata come of them.
func refused(t *testing.T, b []byte, want error) {
	t.Helper()
	was := string(b)
	if m, err := dump.Read(b); !reflect.DeepEqual(err, want) || !alike(m, api.Image{}) {
		t.Errorf("%.60q: %#v, not %#v; %.200s", b, err, want, text(m))
	}
	if string(b) != was {
		t.Errorf("%.60q were %.60q", b, was)
	}
}

// TestReadCut: 16.6: of the town's bytes each beginning lacks something.
func TestReadCut(t *testing.T) {
	for n := range len(townBytes) {
		_, want := wordsRead(townBytes[:n])
		if !fault.Is(want, api.ErrShort) {
			t.Errorf("%d: %#v", n, want)
		}
		// Behind the length there are the bytes that it lacks.
		refused(t, []byte(townBytes)[:n], want)
	}
	for n, want := range map[int]error{
		0:  wrong("num", 0, api.ErrShort),
		1:  wrong("num", 1, api.ErrShort),
		4:  wrong("num", 4, api.ErrShort),
		5:  wrong("text", 4, api.ErrShort),
		11: wrong("text", 4, api.ErrShort),
		12: wrong("flag", 12, api.ErrShort),
		13: wrong("flag", 13, api.ErrShort),
		14: wrong("num", 14, api.ErrShort),
		16: wrong("num", 15, api.ErrShort),
	} {
		refused(t, []byte(townBytes)[:n], want)
	}
}

// TestReadEnd: 16.6: bytes that are left, and that is told ahead of what may not be.
func TestReadEnd(t *testing.T) {
	refused(t, []byte(townBytes+"\x00"), wrong("end", len(townBytes), api.ErrKind))
	refused(t, []byte(townBytes+townBytes), wrong("end", len(townBytes), api.ErrKind))
	refused(t, []byte("\x00\x00\x00\x00\x00\xff"), wrong("end", 5, api.ErrKind))
	refused(t, []byte("\x00\x01\x00\x00\x00\x00\x00\x00\x00\x00"), wrong("image", 10, wrong("broker", 0, api.ErrRange)))
	refused(t, []byte("\x00\x01\x00\x00\x00\x00\x00\x00\x00\x00\x09"), wrong("end", 10, api.ErrKind))
}

// TestReadLimits: 16.6: each number, text and row at its limit, and beyond it: the reader tells what is beyond, at once.
func TestReadLimits(t *testing.T) {
	big := "\xc0\x00\x00\x00\x40\x00\x00\x00"   // MaxNum
	above := "\xc0\x00\x00\x00\x40\x00\x00\x01" // and one more
	limit := func(b, what string) {
		t.Helper()
		refused(t, []byte(b+what), wrong("num", len(b), api.ErrLimit))
	}
	// short is told, where a number at its limit was taken, and what follows is not there.
	short := func(b string) {
		t.Helper()
		refused(t, []byte(b), wrong("num", len(b), api.ErrShort))
	}
	number := func(b string) { t.Helper(); short(b + big); limit(b, above) }
	flag := func(b string) {
		t.Helper()
		refused(t, []byte(b), wrong("flag", len(b), api.ErrShort))
		refused(t, []byte(b+"\x02"), wrong("flag", len(b), api.ErrKind))
	}
	cut := func(b, length string) { t.Helper(); refused(t, []byte(b+length), wrong("text", len(b), api.ErrShort)) }
	name := func(b string) { t.Helper(); cut(b, "\x28"); limit(b, "\x29") }
	row := func(b string) {
		t.Helper()
		short(b + "\x07")
		limit(b, "\x08")
		short(b + "\x07\x40\x40")
		limit(b+"\x07", "\x40\x41")
		limit(b+"\x02\x01", "\x40\x41")
	}

	number("")
	b := "\x05"
	short(b + "\x40\x40")
	limit(b, "\x40\x41")
	b += "\x01"
	number(b)
	number(b + "\x01")
	name(b + "\x01\x01")
	flag(b + "\x01\x01\x01a")
	flag(b + "\x01\x01\x01a\x01")
	b += "\x01\x01\x01a\x01\x00"
	short(b + "\x41\x00")
	limit(b, "\x41\x01")
	b += "\x01"
	number(b)
	name(b + "\x01")
	b += "\x01\x01t"
	short(b + "\x41\x00")
	limit(b, "\x41\x01")
	b += "\x01"
	row(b)
	row(b + "\x01\x01")
	number(b + "\x01\x01\x01\x01")
	number(b + "\x01\x01\x01\x01\x00")
	row(b + "\x01\x01\x01\x01\x00\x05")
	row(b + "\x01\x01\x01\x01\x00\x05\x00")
	b += "\x01\x01\x01\x01\x00\x05\x00\x00"
	number(b)
	b += "\x01"
	number(b)
	name(b + "\x00")
	cut(b+"\x00\x01k", "\x41\x00")
	limit(b+"\x00\x01k", "\x41\x01")
	b += "\x00\x01k\x01v"
	short(b + "\x40\x40")
	limit(b, "\x40\x41")
	b += "\x01"
	number(b)
	number(b + "\x01")
	limit(b+"\x01\x02", above)
	b += "\x01\x02\x03"
	if m, err := dump.Read([]byte(b)); err != nil || !alike(m, api.Image{
		Brokers: []api.Broker{{Id: 1, Epoch: 1, Rack: "a", Fenced: true}},
		Topics:  []api.Topic{{Id: 1, Name: "t", Parts: []api.Part{{Ids: []int{1}, Isr: []int{1}, Epoch: 5}}}},
		Configs: []api.Config{{Key: "k", Value: "v"}},
		Done:    []api.Done{{Client: 1, Serial: 2, Code: 3}},
		Last:    5,
	}) {
		t.Errorf("%v: %+v", err, m)
	}
}

// TestReadKind: 16.6: a number in more bytes than it needs, wherever it stands, is none.
func TestReadKind(t *testing.T) {
	refused(t, []byte("\x40\x09"+townBytes[1:]), wrong("num", 0, api.ErrKind))
	refused(t, []byte(townBytes[:1]+"\x80\x00\x00\x05"+townBytes[2:]), wrong("num", 1, api.ErrKind))
	last := len(townBytes) - 1
	refused(t, []byte(townBytes[:last]+"\x40\x05"), wrong("num", last, api.ErrKind))
}

// TestReadMayNot: 16.6: Check's error, wrapped by image, at how many bytes there are.
func TestReadMayNot(t *testing.T) {
	l := []change{
		{"id 0", func(m *api.Image) { m.Brokers[0].Id = 0 }, wrong("broker", 0, api.ErrRange)},
		{"id 65", func(m *api.Image) { m.Brokers[4].Id = 65 }, wrong("broker", 4, api.ErrRange)},
		{"twice", func(m *api.Image) { m.Topics[0].Parts[1].Isr = []int{40, 40} }, badPart(0, 1)},
		{"leader", func(m *api.Image) { m.Topics[0].Parts[1].Leader = 1 << 30 }, badPart(0, 1)},
		{"above last", func(m *api.Image) { m.Last = 8 }, wrong("topic", 2, api.ErrRange)},
		{"serial", func(m *api.Image) { m.Done[2].Serial = 0 }, wrong("done", 2, api.ErrRange)},
	}
	for _, c := range append(l, wrongs()...) {
		// What is below 0, or more than may be read, can't be written so.
		if slices.Contains([]string{"epoch", "last", "part", "parts", "value", "answers"}, c.name) {
			continue
		}
		b := raw(changed(c))
		refused(t, b, wrong("image", len(b), c.want))
	}
}

// TestReadPromises: however many things bytes promise, of what is not there nothing is made.
func TestReadPromises(t *testing.T) {
	refused(t, []byte("\x00\x00\x00\xc0\x00\x00\x00\x40\x00\x00\x00"), wrong("num", 11, api.ErrShort))
	refused(t, []byte("\x00\x00\x00\xc0\x00\x00\x00\x40\x00\x00\x00\x00\x01a\x00\x00\x01b"), wrong("num", 18, api.ErrShort))
	for _, b := range []string{"\x00\x40\x40", "\x00\x00\x41\x00", "\x00\x00\x01\x01\x01t\x41\x00", "\x00\x00\x00\x00\x40\x40"} {
		refused(t, []byte(b), wrong("num", len(b), api.ErrShort))
	}
}

// TestApart: what is handed in, and what is answered, have no memory in common, nor have two answers.
func TestApart(t *testing.T) {
	m := town()
	a, _ := dump.Put(m)
	b, _ := dump.Put(m)
	fill(a, 0xff)
	if string(b) != townBytes {
		t.Errorf("the one was spoilt, and the other one is %q", b)
	}
	spoil(m)
	if string(b) != townBytes {
		t.Errorf("the metadata were spoilt, and the bytes are %q", b)
	}
	m, _ = dump.Read(b)
	n, _ := dump.Read(b)
	spoil(m)
	if !alike(n, town()) || string(b) != townBytes {
		t.Errorf("the one was spoilt, and the other one is %+v, of %q", n, b)
	}
	fill(b, 0xff)
	if !alike(n, town()) {
		t.Errorf("the bytes were spoilt, and the metadata are %+v", n)
	}
	// Nor have two lists of one answer: one that grows, where it is, writes over nothing of another one.
	for i, x := range n.Topics {
		for j, p := range x.Parts {
			_ = append(append(append(append([]int{}, append(p.Ids, 77)...), append(p.Isr, 77)...), append(p.Add, 77)...), append(p.Drop, 77)...)
			_ = append(x.Parts, api.Part{Leader: 77})
			if !image.Same(p, town().Topics[i].Parts[j]) {
				t.Errorf("%d of %d: %+v", j, i, p)
			}
		}
	}
	if !alike(n, town()) {
		t.Errorf("lists grew, and the metadata are %+v", n)
	}
}

// TestPutFull: 16.5: as many things as there may be.
func TestPutFull(t *testing.T) {
	m := full()
	if b, err := dump.Put(m); err != nil || !bytes.Equal(b, raw(m)) {
		t.Fatalf("%v: %d bytes, not %d", err, len(b), len(raw(m)))
	}
}
