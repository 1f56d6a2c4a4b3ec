package frame_test

import (
	"bytes"
	"hash/crc32"
	"math"
	"math/rand/v2"
	"slices"
	"testing"

	"castellan/api"
	"castellan/frame"
)

// wrong is a fault, as the chapter words it.
func wrong(op string, at int, err error) error { return api.Fault{Op: op, At: at, Err: err} }

// random is bytes that are the same in every run.
func random(seed uint64, many int) []byte {
	r := rand.New(rand.NewPCG(seed, 4))
	b := make([]byte, many)
	for i := range b {
		b[i] = byte(r.Uint32())
	}
	return b
}

// length is how long a body is, as bytes: one, two or four, for none is longer than 2^14.
func length(n int) []byte {
	switch {
	case n < 1<<6:
		return []byte{byte(n)}
	case n < 1<<14:
		return []byte{byte(n>>8) | 64, byte(n)}
	}
	return []byte{byte(n>>24) | 128, byte(n >> 16), byte(n >> 8), byte(n)}
}

// summed is bytes with the sum behind that they should have, by the library's table.
func summed(b []byte) []byte {
	s := crc32.Checksum(b, crc32.MakeTable(crc32.Castagnoli))
	return append(slices.Clone(b), byte(s), byte(s>>8), byte(s>>16), byte(s>>24))
}

// laid is a frame as bytes by the chapter's words, whatever its kind and its body are.
func laid(kind byte, body []byte) []byte {
	return summed(slices.Concat([]byte{0xc5, kind}, length(len(body)), body))
}

// sizes are how long bodies are: at the ends of what there may be, and where a length takes more bytes.
func sizes() []int { return []int{0, 1, 2, 63, 64, 65, 300, 1<<14 - 1, 1 << 14} }

// samples are frames of many kinds and lengths, bodies that look like frames among them.
func samples() []api.Frame {
	l := []api.Frame{{Kind: 3, Body: []byte{7, 8}}, {Kind: 9}, {Kind: 0, Body: []byte{}}}
	for i, n := range sizes() {
		l = append(l, api.Frame{Kind: i * 7, Body: random(uint64(n), n)})
	}
	for kind := range 64 {
		l = append(l, api.Frame{Kind: kind, Body: random(uint64(kind), kind%5)})
	}
	return append(l,
		api.Frame{Kind: 63, Body: bytes.Repeat([]byte{0xc5}, 40)},
		api.Frame{Kind: 5, Body: laid(9, []byte{1, 2, 3})},
		api.Frame{Kind: 5, Body: laid(9, nil)[:5]},
	)
}

// same tells whether two frames are the same.
func same(a, b api.Frame) bool { return a.Kind == b.Kind && bytes.Equal(a.Body, b.Body) }

// TestPut: 4.1 and 4.2, byte by byte.
func TestPut(t *testing.T) {
	b, err := frame.Put(api.Frame{Kind: 3, Body: []byte{7, 8}})
	if err != nil || len(b) != 9 || !bytes.Equal(b[:5], []byte{0xc5, 3, 2, 7, 8}) {
		t.Errorf("%v, %v", b, err)
	}
	b, err = frame.Put(api.Frame{Kind: 9})
	if err != nil || len(b) != 7 || !bytes.Equal(b[:3], []byte{0xc5, 9, 0}) {
		t.Errorf("%v, %v", b, err)
	}
	for _, f := range samples() {
		b, err := frame.Put(f)
		if want := laid(byte(f.Kind), f.Body); err != nil || !bytes.Equal(b, want) {
			t.Errorf("kind %d, %d bytes: %d bytes, %v", f.Kind, len(f.Body), len(b), err)
		}
	}
}

// TestPutWrong: 4.2, kinds and lengths that no frame has, the kind first.
func TestPutWrong(t *testing.T) {
	fits, over, far := make([]byte, api.MaxFrame), make([]byte, api.MaxFrame+1), make([]byte, 1<<20)
	for _, c := range []struct {
		f    api.Frame
		want error
	}{
		{api.Frame{Kind: -1}, wrong("kind", -1, api.ErrKind)},
		{api.Frame{Kind: 64}, wrong("kind", 64, api.ErrKind)},
		{api.Frame{Kind: 256, Body: []byte{1}}, wrong("kind", 256, api.ErrKind)},
		{api.Frame{Kind: 1<<32 + 3}, wrong("kind", 1<<32+3, api.ErrKind)},
		{api.Frame{Kind: math.MaxInt, Body: fits}, wrong("kind", math.MaxInt, api.ErrKind)},
		{api.Frame{Kind: math.MinInt}, wrong("kind", math.MinInt, api.ErrKind)},
		{api.Frame{Kind: 0, Body: over}, wrong("body", api.MaxFrame+1, api.ErrLimit)},
		{api.Frame{Kind: 63, Body: far}, wrong("body", 1<<20, api.ErrLimit)},
		{api.Frame{Kind: 64, Body: over}, wrong("kind", 64, api.ErrKind)},
		{api.Frame{Kind: -1, Body: far}, wrong("kind", -1, api.ErrKind)},
	} {
		if b, err := frame.Put(c.f); err != c.want || len(b) != 0 {
			t.Errorf("kind %d, %d bytes: %d bytes, %#v, not %#v", c.f.Kind, len(c.f.Body), len(b), err, c.want)
		}
	}
}

// TestPutMemory: R3, of Put and All: a body is neither changed nor kept, and nothing behind its length counts.
func TestPutMemory(t *testing.T) {
	memory := []byte{1, 2, 3, 4, 5, 6, 7, 8}
	kept := slices.Clone(memory)
	l := []api.Frame{{Kind: 1, Body: memory[:3]}, {Kind: 2, Body: memory[2:4]}}
	one, err := frame.Put(l[0])
	if err != nil || !bytes.Equal(one, laid(1, []byte{1, 2, 3})) {
		t.Errorf("%v, %v", one, err)
	}
	want := slices.Concat(laid(1, []byte{1, 2, 3}), laid(2, []byte{3, 4}))
	all, err := frame.All(l)
	if err != nil || !bytes.Equal(all, want) {
		t.Errorf("%v, %v", all, err)
	}
	clear(one[:cap(one)])
	if !bytes.Equal(all, want) || !bytes.Equal(memory, kept) {
		t.Errorf("what Put answers shares memory: %v, %v", all, memory)
	}
	one, _ = frame.Put(l[0])
	clear(all[:cap(all)])
	if !bytes.Equal(memory, kept) {
		t.Errorf("what All answers shares memory: %v", memory)
	}
	clear(memory)
	if !bytes.Equal(one, laid(1, []byte{1, 2, 3})) {
		t.Errorf("what Put was given is in its answer: %v", one)
	}
}

// TestAll: 4.2, one behind the other, and none.
func TestAll(t *testing.T) {
	for _, l := range [][]api.Frame{nil, {}} {
		if b, err := frame.All(l); err != nil || len(b) != 0 {
			t.Errorf("%v, %v", b, err)
		}
	}
	var want []byte
	l := samples()
	for i, f := range l {
		want = append(want, laid(byte(f.Kind), f.Body)...)
		if b, err := frame.All(l[:i+1]); err != nil || !bytes.Equal(b, want) {
			t.Errorf("%d frames: %d bytes, not %d, %v", i+1, len(b), len(want), err)
		}
	}
}

// TestAllWrong: 4.2, the first error of several, at the number of its frame, and no bytes.
func TestAllWrong(t *testing.T) {
	good, over := api.Frame{Kind: 1, Body: []byte{1}}, make([]byte, api.MaxFrame+1)
	kind, body := api.Frame{Kind: 70, Body: over}, api.Frame{Kind: 7, Body: over}
	for _, c := range []struct {
		l    []api.Frame
		want error
	}{
		{[]api.Frame{kind}, wrong("frame", 0, wrong("kind", 70, api.ErrKind))},
		{[]api.Frame{body}, wrong("frame", 0, wrong("body", len(over), api.ErrLimit))},
		{[]api.Frame{good, good, kind}, wrong("frame", 2, wrong("kind", 70, api.ErrKind))},
		{[]api.Frame{good, body, good, kind}, wrong("frame", 1, wrong("body", len(over), api.ErrLimit))},
		{[]api.Frame{good, good, good, {Kind: -5}, body}, wrong("frame", 3, wrong("kind", -5, api.ErrKind))},
	} {
		if b, err := frame.All(c.l); err != c.want || len(b) != 0 {
			t.Errorf("%d bytes, %#v, not %#v", len(b), err, c.want)
		}
	}
}

// next holds what Next answers against what it should.
func next(t *testing.T, b []byte, f api.Frame, many int, want error) {
	t.Helper()
	got, n, err := frame.Next(b)
	if !same(got, f) || n != many || err != want {
		t.Errorf("Next of %d bytes: kind %d, a body of %d, %d bytes, %#v; not kind %d, %d, %d, %#v",
			len(b), got.Kind, len(got.Body), n, err, f.Kind, len(f.Body), many, want)
	}
}

// TestNext: 4.3, what is written is read as what it was, whatever is behind.
func TestNext(t *testing.T) {
	for _, f := range samples() {
		b := laid(byte(f.Kind), f.Body)
		for _, behind := range [][]byte{nil, {0}, {0xc5}, laid(1, []byte{1}), {1, 2, 3, 4, 5, 6, 7, 8, 9}} {
			next(t, slices.Concat(b, behind), f, len(b), nil)
		}
	}
}

// TestNextMore: 4.3, of a beginning of a frame more bytes are needed, wherever it is cut.
func TestNextMore(t *testing.T) {
	next(t, nil, api.Frame{}, 0, nil)
	next(t, []byte{}, api.Frame{}, 0, nil)
	for _, n := range []int{0, 1, 63, 64, 300} {
		b := laid(5, random(6, n))
		for cut := range b {
			next(t, b[:cut:cut], api.Frame{}, 0, nil)
		}
	}
	b := laid(5, random(7, api.MaxFrame))
	for _, cut := range []int{1, 2, 3, 4, 5, 6, 7, 100, len(b) - 5, len(b) - 4, len(b) - 3, len(b) - 1} {
		next(t, b[:cut:cut], api.Frame{}, 0, nil)
		next(t, b[:cut], api.Frame{}, 0, nil)
	}
}

// TestNextSign: 4.3, another first byte, alone and with all kinds of bytes behind it.
func TestNextSign(t *testing.T) {
	for i := range 256 {
		want := wrong("sign", 0, api.ErrKind)
		if i == 0xc5 {
			want = nil
		}
		next(t, []byte{byte(i)}, api.Frame{}, 0, want)
		if i == 0xc5 {
			continue
		}
		next(t, []byte{byte(i), 200}, api.Frame{}, 0, want)
		next(t, []byte{byte(i), 0xc5, 3}, api.Frame{}, 0, want)
		next(t, summed([]byte{byte(i), 3, 2, 7, 8}), api.Frame{}, 0, want)
		next(t, summed([]byte{byte(i), 64, 255, 7, 8}), api.Frame{}, 0, want)
	}
}

// TestNextKind: 4.3, kinds above 63, alone and with all kinds of bytes behind them.
func TestNextKind(t *testing.T) {
	for i := range 256 {
		if i < 64 {
			next(t, []byte{0xc5, byte(i)}, api.Frame{}, 0, nil)
			continue
		}
		want := wrong("kind", 1, api.ErrKind)
		next(t, []byte{0xc5, byte(i)}, api.Frame{}, 0, want)
		next(t, []byte{0xc5, byte(i), 64, 1}, api.Frame{}, 0, want)
		next(t, laid(byte(i), []byte{7, 8}), api.Frame{}, 0, want)
		next(t, append(laid(byte(i), nil), 1), api.Frame{}, 0, want)
	}
}

// TestNextLength: 4.3, lengths that could be shorter, or are too great, as soon as they are whole; until then more bytes are needed.
func TestNextLength(t *testing.T) {
	for _, c := range []struct {
		length []byte
		code   api.Code
	}{
		{[]byte{64, 0}, api.ErrKind},
		{[]byte{64, 63}, api.ErrKind},
		{[]byte{128, 0, 0, 1}, api.ErrKind},
		{[]byte{128, 0, 63, 255}, api.ErrKind},
		{[]byte{192, 0, 0, 0, 0, 0, 0, 2}, api.ErrKind},
		{[]byte{192, 0, 0, 0, 63, 255, 255, 255}, api.ErrKind},
		{[]byte{128, 0, 64, 1}, api.ErrLimit},
		{[]byte{191, 255, 255, 255}, api.ErrLimit},
		{[]byte{192, 0, 0, 0, 64, 0, 0, 0}, api.ErrLimit},
		{[]byte{255, 255, 255, 255, 255, 255, 255, 255}, api.ErrLimit},
	} {
		b := append([]byte{0xc5, 9}, c.length...)
		want := wrong("length", 2, wrong("num", 0, c.code))
		for cut := range b {
			next(t, b[:cut:cut], api.Frame{}, 0, nil)
		}
		next(t, b, api.Frame{}, 0, want)
		next(t, summed(b), api.Frame{}, 0, want)
		next(t, summed(append(slices.Clone(b), 7, 8)), api.Frame{}, 0, want)
		next(t, append(slices.Clone(b), make([]byte, 1<<15)...), api.Frame{}, 0, want)
	}
}

// TestNextSum: 4.3, sums that are not those of all ahead, where the body ends; a sum is asked for only when all of it is there.
func TestNextSum(t *testing.T) {
	for _, n := range []int{0, 1, 2, 63, 64, 300, 1 << 14} {
		b := laid(33, random(8, n))
		end := len(b) - 4
		for at := end; at < len(b); at++ {
			for bit := range 8 {
				spoilt := slices.Clone(b)
				spoilt[at] ^= 1 << bit
				next(t, spoilt, api.Frame{}, 0, wrong("sum", end, api.ErrSum))
				next(t, append(spoilt, 0xc5, 3), api.Frame{}, 0, wrong("sum", end, api.ErrSum))
				next(t, spoilt[:len(b)-1:len(b)-1], api.Frame{}, 0, nil)
			}
		}
	}
	next(t, []byte{0xc5, 9, 0, 0, 0, 0, 0}, api.Frame{}, 0, wrong("sum", 3, api.ErrSum))
	body := []byte{7, 8}
	alone := append([]byte{0xc5, 3, 2, 7, 8}, summed(body)[2:]...) // the sum of the body alone
	next(t, alone, api.Frame{}, 0, wrong("sum", 5, api.ErrSum))
	turned := laid(3, body)
	slices.Reverse(turned[5:])
	next(t, turned, api.Frame{}, 0, wrong("sum", 5, api.ErrSum))
}

// TestNextSpoilt: 4.3, whichever bit of a frame is turned, there is none.
func TestNextSpoilt(t *testing.T) {
	for _, n := range []int{0, 1, 2, 63, 64, 100} {
		b := laid(33, random(9, n))
		for at := range 8 * len(b) {
			spoilt := append(slices.Clone(b), make([]byte, 1<<15)...)
			spoilt[at/8] ^= 1 << (at % 8)
			f, many, err := frame.Next(spoilt)
			if err == nil || many != 0 || !same(f, api.Frame{}) {
				t.Errorf("%d bytes, bit %d turned: %v, %d, %v", n, at, f, many, err)
			}
			if wanted, _, werr := parse(spoilt); werr == nil || len(wanted) != 0 || wrong("frame", 0, err) != werr {
				t.Errorf("%d bytes, bit %d turned: %#v, not %#v", n, at, err, werr)
			}
		}
	}
	body := laid(3, []byte{7, 8})
	body[4] ^= 1
	next(t, body, api.Frame{}, 0, wrong("sum", 5, api.ErrSum))
	kind := laid(3, []byte{7, 8})
	kind[1] = 4
	next(t, kind, api.Frame{}, 0, wrong("sum", 5, api.ErrSum))
}

// TestNextMemory: R3, what is handed in is neither changed nor kept, and what is answered is new memory.
func TestNextMemory(t *testing.T) {
	memory := append(laid(3, []byte{7, 8}), 1, 2, 3, 4)
	kept := slices.Clone(memory)
	f, _, _ := frame.Next(memory[:9])
	again, _, _ := frame.Next(memory[:9])
	clear(f.Body[:cap(f.Body)])
	if !bytes.Equal(memory, kept) || !bytes.Equal(again.Body, []byte{7, 8}) {
		t.Errorf("what Next answers shares memory: %v, %v", memory, again)
	}
	clear(memory)
	if !bytes.Equal(again.Body, []byte{7, 8}) {
		t.Errorf("what Next was given is in its answer: %v", again)
	}
}
