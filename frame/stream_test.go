package frame_test

import (
	"bytes"
	"encoding/binary"
	"hash/crc32"
	"math/rand/v2"
	"slices"
	"testing"

	"castellan/api"
	"castellan/frame"
)

// parse is what a stream must tell of bytes, by the chapter's words: the frames, how many bytes are left, and what is wrong.
func parse(b []byte) (l []api.Frame, left int, err error) {
	at := 0
	for {
		f, many, wrongly := parseOne(b[at:])
		if wrongly != nil {
			return l, 0, wrong("frame", at, wrongly)
		}
		if many == 0 {
			return l, len(b) - at, nil
		}
		l = append(l, f)
		at += many
	}
}

// parseOne is what Next must answer.
func parseOne(b []byte) (api.Frame, int, error) {
	if len(b) >= 1 && b[0] != 0xc5 {
		return api.Frame{}, 0, wrong("sign", 0, api.ErrKind)
	}
	if len(b) >= 2 && b[1] >= 64 {
		return api.Frame{}, 0, wrong("kind", 1, api.ErrKind)
	}
	if len(b) < 3 || len(b) < 2+1<<(b[2]>>6) {
		return api.Frame{}, 0, nil
	}
	many := 1 << (b[2] >> 6)
	var eight [8]byte
	copy(eight[8-many:], b[2:2+many])
	eight[8-many] &= 63
	n := binary.BigEndian.Uint64(eight[:])
	if many == 2 && n < 1<<6 || many == 4 && n < 1<<14 || many == 8 && n < 1<<30 {
		return api.Frame{}, 0, wrong("length", 2, wrong("num", 0, api.ErrKind))
	}
	if n > 16384 {
		return api.Frame{}, 0, wrong("length", 2, wrong("num", 0, api.ErrLimit))
	}
	end := 2 + many + int(n)
	if len(b) < end+4 {
		return api.Frame{}, 0, nil
	}
	if crc32.Checksum(b[:end], crc32.MakeTable(crc32.Castagnoli)) != binary.LittleEndian.Uint32(b[end:]) {
		return api.Frame{}, 0, wrong("sum", end, api.ErrSum)
	}
	return api.Frame{Kind: int(b[1]), Body: b[2+many : end]}, end + 4, nil
}

// check holds a stream, and all that it told, against what it must tell of all that came.
func check(t *testing.T, s *frame.Stream, told []api.Frame, came []byte) {
	t.Helper()
	l, left, err := parse(came)
	if !slices.EqualFunc(told, l, same) || s.Left() != left || s.Err() != err {
		t.Fatalf("behind %d bytes: %d frames, %d left, %#v; not %d, %d, %#v", len(came), len(told), s.Left(), s.Err(), len(l), left, err)
	}
}

// feed has a new stream take on bytes, cut where cuts says, and holds it behind each piece against what it must tell.
func feed(t *testing.T, b []byte, cuts ...int) {
	t.Helper()
	s := &frame.Stream{}
	check(t, s, nil, nil)
	var told []api.Frame
	from := 0
	for _, to := range append(slices.Clone(cuts), len(b)) {
		told = append(told, s.Feed(b[from:to])...)
		check(t, s, told, b[:to])
		from = to
	}
}

// joined is frames one behind the other.
func joined(l ...api.Frame) []byte {
	var b []byte
	for _, f := range l {
		b = append(b, laid(byte(f.Kind), f.Body)...)
	}
	return b
}

// streams are bytes that come: whole frames, cut ones, and each kind of wrong one behind whole ones.
func streams() [][]byte {
	good := joined(api.Frame{Kind: 3, Body: []byte{7, 8}}, api.Frame{Kind: 9}, api.Frame{Kind: 63, Body: random(1, 70)})
	sum := laid(8, []byte{1, 2, 3})
	sum[5] ^= 4
	last := laid(8, []byte{1, 2, 3})
	last[len(last)-1] ^= 128
	all := [][]byte{nil, good, laid(0, nil), {1}, {0xc5}, {0xc5, 64}}
	for _, tail := range [][]byte{
		{1}, {0xc5, 64}, {0xc5, 255, 3}, {0xc5, 9, 64, 1}, {0xc5, 9, 128, 0, 1, 1}, {0xc5, 9, 128, 0, 64, 1},
		{0xc5, 9, 255, 255, 255, 255, 255, 255, 255, 255}, {0xc5, 9, 192, 0, 0, 0, 0, 0, 0, 1}, sum, last,
		{0xc5, 9, 5, 1, 2}, laid(9, []byte{1, 2})[:8], {0xc5, 9, 255, 255, 255},
	} {
		all = append(all, tail, slices.Concat(good, tail), slices.Concat(good, tail, good))
	}
	return all
}

// TestStreamExample: 4.4, the chapter's example.
func TestStreamExample(t *testing.T) {
	s := &frame.Stream{}
	l := s.Feed(joined(api.Frame{Kind: 3, Body: []byte{7, 8}}, api.Frame{Kind: 9}))
	want := []api.Frame{{Kind: 3, Body: []byte{7, 8}}, {Kind: 9}}
	if !slices.EqualFunc(l, want, same) || s.Left() != 0 || s.Err() != nil {
		t.Errorf("%v, %d, %v", l, s.Left(), s.Err())
	}
	if l := s.Feed([]byte{1}); len(l) != 0 || s.Left() != 0 || s.Err() != wrong("frame", 16, wrong("sign", 0, api.ErrKind)) {
		t.Errorf("%v, %d, %#v", l, s.Left(), s.Err())
	}
}

// TestStreamLeft: 4.4, what is left, byte by byte, and that it is told with what comes behind it.
func TestStreamLeft(t *testing.T) {
	s := &frame.Stream{}
	b := laid(5, random(3, 100))
	for round := range 3 {
		for i, one := range b[:len(b)-1] {
			if l := s.Feed([]byte{one}); len(l) != 0 || s.Left() != i+1 || s.Err() != nil {
				t.Fatalf("round %d: %v, %d, %v", round, l, s.Left(), s.Err())
			}
			if l := s.Feed(nil); len(l) != 0 || s.Left() != i+1 || s.Err() != nil {
				t.Fatalf("round %d, nothing came: %v, %d, %v", round, l, s.Left(), s.Err())
			}
		}
		l := s.Feed(b[len(b)-1:])
		if len(l) != 1 || !same(l[0], api.Frame{Kind: 5, Body: random(3, 100)}) || s.Left() != 0 || s.Err() != nil {
			t.Fatalf("round %d: %v, %d, %v", round, l, s.Left(), s.Err())
		}
	}
}

// TestStreamWrong: 4.4, whole frames ahead of a wrong one are told with it; from then on nothing is.
func TestStreamWrong(t *testing.T) {
	good := laid(9, []byte{1, 2, 3})
	spoilt := laid(8, []byte{4})
	spoilt[3] ^= 1
	s := &frame.Stream{}
	l := s.Feed(slices.Concat(good, good, spoilt, good))
	want := wrong("frame", 2*len(good), wrong("sum", 4, api.ErrSum))
	f := api.Frame{Kind: 9, Body: []byte{1, 2, 3}}
	if !slices.EqualFunc(l, []api.Frame{f, f}, same) {
		t.Errorf("%v", l)
	}
	for _, b := range [][]byte{nil, good, {0xc5}, {1}, spoilt, good} {
		if s.Left() != 0 || s.Err() != want {
			t.Errorf("%d, %#v, not %#v", s.Left(), s.Err(), want)
		}
		if l := s.Feed(b); len(l) != 0 {
			t.Errorf("behind what is wrong: %v", l)
		}
	}
	if s.Left() != 0 || s.Err() != want {
		t.Errorf("%d, %#v, not %#v", s.Left(), s.Err(), want)
	}
}

// TestStreamAt: 4.4, where something is wrong counts the frames of all calls, not those of the last one.
func TestStreamAt(t *testing.T) {
	good := laid(9, []byte{1, 2, 3})
	s := &frame.Stream{}
	for range 5 {
		s.Feed(good)
	}
	s.Feed(slices.Concat(good, good[:4]))
	s.Feed(good[4:])
	s.Feed([]byte{0xc5})
	if s.Err() != nil || s.Left() != 1 {
		t.Errorf("%d, %v", s.Left(), s.Err())
	}
	s.Feed([]byte{99})
	if want := wrong("frame", 7*len(good), wrong("kind", 1, api.ErrKind)); s.Err() != want || s.Left() != 0 {
		t.Errorf("%d, %#v, not %#v", s.Left(), s.Err(), want)
	}
}

// TestStreamCuts: 4.5, every way to cut bytes in up to three pieces, in single bytes, and not at all.
func TestStreamCuts(t *testing.T) {
	for _, b := range streams() {
		feed(t, b)
		singly := make([]int, len(b))
		for i := range b {
			singly[i] = i
		}
		feed(t, b, singly...)
		for first := range len(b) + 1 {
			feed(t, b, first)
			for second := first; second <= len(b) && len(b) < 120; second++ {
				feed(t, b, first, second)
			}
		}
	}
}

// TestStreamSpoilt: 4.5, a bit turned anywhere, or a byte lost, in pieces of any lengths.
func TestStreamSpoilt(t *testing.T) {
	r := rand.New(rand.NewPCG(45, 4))
	whole := joined(api.Frame{Kind: 3, Body: []byte{7, 8}}, api.Frame{Kind: 9}, api.Frame{Kind: 20, Body: random(2, 80)}, api.Frame{Kind: 0, Body: random(3, 20)})
	for at := range 8 * len(whole) {
		spoilt := slices.Clone(whole)
		spoilt[at/8] ^= 1 << (at % 8)
		feed(t, spoilt, pieces(r, len(spoilt), 30)...)
		feed(t, spoilt, pieces(r, len(spoilt), 4)...)
	}
	for at := range whole {
		feed(t, slices.Delete(slices.Clone(whole), at, at+1), pieces(r, len(whole)-1, 12)...)
	}
}

// TestStreamLong: 4.5, many frames, the longest ones among them, in pieces of any lengths.
func TestStreamLong(t *testing.T) {
	r := rand.New(rand.NewPCG(46, 4))
	b := joined(samples()...)
	feed(t, b)
	feed(t, append(b, 0xc5, 64), pieces(r, len(b), 9000)...)
	for range 4 {
		feed(t, b, pieces(r, len(b), 3000)...)
	}
	longest := laid(63, random(5, api.MaxFrame))
	s := &frame.Stream{}
	var told []api.Frame
	for i := range longest {
		told = append(told, s.Feed(longest[i:i+1])...)
	}
	check(t, s, told, longest)
}

// pieces are where bytes are cut into pieces that are shorter than most each, empty ones among them.
func pieces(r *rand.Rand, many, most int) []int {
	var cuts []int
	for at := r.IntN(most); at <= many; at += r.IntN(most) {
		cuts = append(cuts, at)
	}
	return cuts
}

// TestStreamMemory: R3, what came is neither changed nor kept where it is, and what is told is new memory.
func TestStreamMemory(t *testing.T) {
	memory := append(joined(api.Frame{Kind: 1, Body: []byte{1, 2}}, api.Frame{Kind: 2, Body: []byte{3}}, api.Frame{Kind: 4, Body: []byte{5}}), 7, 7)
	kept := slices.Clone(memory)
	s := &frame.Stream{}
	l := s.Feed(memory[:20])
	if len(l) != 2 || s.Left() != 3 || !bytes.Equal(memory, kept) {
		t.Fatalf("%v, %d, %v", l, s.Left(), memory)
	}
	clear(l[0].Body[:cap(l[0].Body)])
	if !same(l[1], api.Frame{Kind: 2, Body: []byte{3}}) || !bytes.Equal(memory, kept) {
		t.Errorf("what is told shares memory: %v, %v", l, memory)
	}
	clear(l[1].Body[:cap(l[1].Body)])
	clear(memory[:20])
	last := s.Feed(kept[20:25])
	if len(last) != 1 || !same(last[0], api.Frame{Kind: 4, Body: []byte{5}}) || s.Left() != 0 || s.Err() != nil {
		t.Errorf("what came is kept where it is: %v, %d, %v", last, s.Left(), s.Err())
	}
	clear(kept)
	s.Feed(laid(9, nil))
	if !same(last[0], api.Frame{Kind: 4, Body: []byte{5}}) {
		t.Errorf("what was told is another one later: %v", last)
	}
}

// TestStreamKeepsNone: R3, of bytes without a whole frame, too, neither they nor what lies behind them is changed or kept where it is.
func TestStreamKeepsNone(t *testing.T) {
	whole := laid(3, []byte{7, 8})
	for cut := 1; cut < len(whole); cut++ {
		memory := append(slices.Clone(whole), 9, 9, 9)
		kept := slices.Clone(memory)
		s := &frame.Stream{}
		s.Feed(memory[:cut])
		s.Feed(nil)
		memory[cut] ^= 255
		l := s.Feed(whole[cut:])
		memory[cut] ^= 255
		if len(l) != 1 || !same(l[0], api.Frame{Kind: 3, Body: []byte{7, 8}}) || !bytes.Equal(memory, kept) {
			t.Errorf("cut at %d: %v, %v, and %v is left", cut, l, s.Err(), memory)
		}
		s = &frame.Stream{}
		s.Feed(memory[:cut])
		clear(memory)
		if l := s.Feed(whole[cut:]); len(l) != 1 || s.Err() != nil {
			t.Errorf("cut at %d: %v, %v", cut, l, s.Err())
		}
	}
}

// TestStreamsApart: 4.4, streams know nothing of one another.
func TestStreamsApart(t *testing.T) {
	a, b := &frame.Stream{}, &frame.Stream{}
	whole := laid(3, []byte{7, 8})
	a.Feed(whole[:4])
	b.Feed([]byte{1})
	if l := a.Feed(whole[4:]); len(l) != 1 || a.Err() != nil || b.Err() == nil {
		t.Errorf("%v, %v, %v", l, a.Err(), b.Err())
	}
}
