package crc_test

import (
	"bytes"
	"hash/crc32"
	"math"
	"math/rand/v2"
	"slices"
	"testing"

	"castellan/crc"
)

// powers are those of the polynomial, as the chapter writes them.
func powers() []int {
	return []int{32, 28, 27, 26, 25, 23, 22, 20, 19, 18, 14, 13, 11, 10, 9, 8, 6, 0}
}

// divided is the sum by the chapter's words, bit by bit.
func divided(b []byte) uint32 {
	var row []bool
	for _, one := range b {
		for i := range 8 {
			row = append(row, one>>i&1 == 1)
		}
	}
	row = append(row, make([]bool, 32)...)
	for i := range 32 {
		row[i] = !row[i]
	}
	for i := range len(row) - 32 {
		if !row[i] {
			continue
		}
		for _, p := range powers() {
			row[i+32-p] = !row[i+32-p]
		}
	}
	var s uint32
	for i, bit := range row[len(row)-32:] {
		if bit {
			s |= 1 << i
		}
	}
	return ^s
}

// random is bytes that are the same in every run.
func random(seed uint64, many int) []byte {
	r := rand.New(rand.NewPCG(seed, 3))
	b := make([]byte, many)
	for i := range b {
		b[i] = byte(r.Uint32())
	}
	return b
}

// samples are bytes of many lengths and kinds: none, one byte each, equal ones, others.
func samples() [][]byte {
	all := [][]byte{nil, {}, []byte("123456789")}
	for i := range 256 {
		all = append(all, []byte{byte(i)})
	}
	for n := range 70 {
		all = append(all, make([]byte, n), bytes.Repeat([]byte{255}, n), random(uint64(n), n))
	}
	return append(all, random(99, 4096), random(98, 1<<14))
}

// rising is the bytes from first on, by step.
func rising(first, step, many int) []byte {
	b := make([]byte, many)
	for i := range b {
		b[i] = byte(first + step*i)
	}
	return b
}

// TestSumPublished: 3.1, and the chapter's example: sums that are known.
func TestSumPublished(t *testing.T) {
	for _, c := range []struct {
		b []byte
		s uint32
	}{
		{nil, 0},
		{[]byte{}, 0},
		{[]byte("123456789"), 0xe3069283},
		{[]byte("a"), 0xc1d04330},
		{make([]byte, 32), 0x8a9136aa},
		{bytes.Repeat([]byte{255}, 32), 0x62a8ab43},
		{rising(0, 1, 32), 0x46dd794e},
		{rising(31, -1, 32), 0x113fdb5c},
	} {
		if s := crc.Sum(c.b); s != c.s {
			t.Errorf("Sum(%v) is %x, not %x", c.b, s, c.s)
		}
	}
}

// TestSumDivided: 3.1, by dividing as the chapter says, and by the library's own table.
func TestSumDivided(t *testing.T) {
	library := crc32.MakeTable(crc32.Castagnoli)
	for _, b := range samples() {
		s := crc.Sum(b)
		if want := divided(b); s != want {
			t.Errorf("Sum of %d bytes is %x, not %x", len(b), s, want)
		}
		if want := crc32.Checksum(b, library); s != want {
			t.Errorf("Sum of %d bytes is %x, by the library %x", len(b), s, want)
		}
	}
}

// TestSumLength: 3.1, noughts ahead and behind count, and so does order.
func TestSumLength(t *testing.T) {
	seen := map[uint32]int{}
	for n := range 300 {
		s := crc.Sum(make([]byte, n))
		if other, ok := seen[s]; ok {
			t.Errorf("%d and %d noughts have one sum", other, n)
		}
		seen[s] = n
	}
	if crc.Sum([]byte{1, 2}) == crc.Sum([]byte{2, 1}) {
		t.Error("two bytes in another order have one sum")
	}
}

// TestMore: 3.2, wherever bytes are cut.
func TestMore(t *testing.T) {
	for _, b := range samples() {
		if len(b) > 100 {
			continue
		}
		want := divided(b)
		for cut := range len(b) + 1 {
			if s := crc.More(crc.Sum(b[:cut]), b[cut:]); s != want {
				t.Errorf("More behind %d of %v is %x, not %x", cut, b, s, want)
			}
		}
		s := uint32(0)
		for i := range b {
			s = crc.More(s, b[i:i+1])
		}
		if s != want {
			t.Errorf("More byte by byte of %v is %x, not %x", b, s, want)
		}
	}
}

// before is four bytes whose sum is s: every number is the sum of some, so More must take each.
func before(s uint32) []byte {
	rest := ^s
	for range 32 {
		if rest>>31 == 1 {
			rest = (rest^0x82f63b78)<<1 | 1
		} else {
			rest <<= 1
		}
	}
	rest = ^rest
	return []byte{byte(rest), byte(rest >> 8), byte(rest >> 16), byte(rest >> 24)}
}

// TestMoreAny: 3.2, at sums of all kinds, with nothing behind and with something.
func TestMoreAny(t *testing.T) {
	sums := []uint32{0, 1, 15, 16, 255, 256, 1 << 31, math.MaxUint32, math.MaxUint32 - 1, 0xe3069283, 0x82f63b78}
	for _, s := range sums {
		ahead := before(s)
		if got := divided(ahead); got != s {
			t.Fatalf("the sum of %v is %x, not %x", ahead, got, s)
		}
		for _, b := range [][]byte{nil, {}, {0}, {255}, {1, 2, 3, 4, 5}, random(5, 40)} {
			want := divided(append(slices.Clone(ahead), b...))
			if got := crc.More(s, b); got != want {
				t.Errorf("More(%x, %v) is %x, not %x", s, b, got, want)
			}
		}
	}
}

// TestPut: 3.3, the bytes, and their sum behind, the lowest byte first.
func TestPut(t *testing.T) {
	for _, c := range []struct{ b, want []byte }{
		{nil, []byte{0, 0, 0, 0}},
		{[]byte{}, []byte{0, 0, 0, 0}},
		{[]byte("a"), []byte{'a', 0x30, 0x43, 0xd0, 0xc1}},
		{[]byte("123456789"), []byte("123456789\x83\x92\x06\xe3")},
	} {
		if got := crc.Put(c.b); !bytes.Equal(got, c.want) {
			t.Errorf("Put(%v) is %v, not %v", c.b, got, c.want)
		}
	}
	for _, b := range samples() {
		s := divided(b)
		want := append(slices.Clone(b), byte(s), byte(s>>8), byte(s>>16), byte(s>>24))
		if got := crc.Put(b); !bytes.Equal(got, want) {
			t.Errorf("Put of %d bytes ends with %v, not %v", len(b), got[len(b):], want[len(b):])
		}
	}
}

// TestPutMemory: 3.3, new memory, and what is handed in stays, behind its length, too.
func TestPutMemory(t *testing.T) {
	whole := []byte{1, 2, 3, 4, 5, 6, 7, 8, 9}
	kept := slices.Clone(whole)
	got := crc.Put(whole[:3])
	if !bytes.Equal(whole, kept) {
		t.Errorf("Put left %v", whole)
	}
	if want := append([]byte{1, 2, 3}, got[3:]...); !bytes.Equal(got, want) || len(got) != 7 {
		t.Errorf("Put is %v", got)
	}
	clear(got[:cap(got)])
	if !bytes.Equal(whole, kept) {
		t.Errorf("what Put answers shares memory with what it was given: %v", whole)
	}
	again := crc.Put(whole[:3])
	whole[0] = 77
	if again[0] != 1 {
		t.Error("what Put was given is in its answer")
	}
}

// TestOpen: 3.4, what Put answers is opened again.
func TestOpen(t *testing.T) {
	for _, b := range samples() {
		got, ok := crc.Open(crc.Put(b))
		if !ok || !bytes.Equal(got, b) {
			t.Errorf("Open of Put of %d bytes is %d bytes, %v", len(b), len(got), ok)
		}
	}
	if got, ok := crc.Open([]byte("123456789\x83\x92\x06\xe3")); !ok || string(got) != "123456789" {
		t.Errorf("Open of the digits is %q, %v", got, ok)
	}
}

// TestOpenWrong: 3.4, too few bytes, and sums that are not theirs.
func TestOpenWrong(t *testing.T) {
	whole := crc.Put([]byte("123456789"))
	wrong := [][]byte{
		nil, {}, {0}, {0, 0}, {0, 0, 0},
		{0, 0, 0, 1}, {1, 0, 0, 0}, {255, 255, 255, 255},
		[]byte("123456789\xe3\x06\x92\x83"), // the highest byte first
		[]byte("123456789\x7c\x6d\xf9\x1c"), // turned
		[]byte("\x83\x92\x06\xe3123456789"), // ahead
		[]byte("123456789"),
		whole[:len(whole)-1], whole[1:],
		append(slices.Clone(whole), 0),
		append([]byte{0}, whole...),
	}
	for n := range 4 {
		wrong = append(wrong, whole[:n])
	}
	for _, b := range wrong {
		if got, ok := crc.Open(b); ok || len(got) != 0 {
			t.Errorf("Open(%v) is %v, %v", b, got, ok)
		}
	}
}

// TestOpenNone: 3.4, four bytes alone are the sum of none.
func TestOpenNone(t *testing.T) {
	if got, ok := crc.Open(make([]byte, 4)); !ok || len(got) != 0 {
		t.Errorf("Open of four noughts is %v, %v", got, ok)
	}
}

// TestOpenMemory: 3.4, new memory; what is handed in stays, and what lies behind its length is not looked at.
func TestOpenMemory(t *testing.T) {
	whole := append(crc.Put([]byte{1, 2, 3}), 4, 5, 6, 7)
	kept := slices.Clone(whole)
	got, ok := crc.Open(whole[:7])
	if !ok || !bytes.Equal(got, []byte{1, 2, 3}) || !bytes.Equal(whole, kept) {
		t.Fatalf("Open is %v, %v, and left %v", got, ok, whole)
	}
	clear(got[:cap(got)])
	if !bytes.Equal(whole, kept) {
		t.Errorf("what Open answers shares memory with what it was given: %v", whole)
	}
	got, _ = crc.Open(whole[:7])
	clear(whole)
	if !bytes.Equal(got, []byte{1, 2, 3}) {
		t.Errorf("what Open was given is in its answer: %v", got)
	}
	short := crc.Put([]byte{1, 2, 3})
	if got, ok := crc.Open(short[:3]); ok || len(got) != 0 {
		t.Errorf("Open of three bytes, with more behind them, is %v, %v", got, ok)
	}
}

// turn turns those of 32 bits side by side that a pattern has, from a bit on; the bits in a byte are counted from the lowest on. False: the last one would lie behind the end.
func turn(b []byte, first int, pattern uint32) ([]byte, bool) {
	out := slices.Clone(b)
	for i := range 32 {
		if pattern>>i&1 == 0 {
			continue
		}
		at := first + i
		if at >= 8*len(out) {
			return nil, false
		}
		out[at/8] ^= 1 << (at % 8)
	}
	return out, true
}

// patterns are ways to turn up to 32 bits, the first of them among those turned.
func patterns() []uint32 {
	all := []uint32{1, 1 | 1<<31, math.MaxUint32, 0x82f63b78 | 1, 0x1edc6f41, 0x05ec76f1}
	for n := range 32 {
		all = append(all, 1|1<<n, 1<<n-1|1)
	}
	r := rand.New(rand.NewPCG(35, 3))
	for range 200 {
		all = append(all, r.Uint32()|1)
	}
	return all
}

// TestTurned: 3.5, at every bit of the bytes, of their sum, and of both.
func TestTurned(t *testing.T) {
	for _, n := range []int{0, 1, 2, 4, 5, 9, 40} {
		whole := crc.Put(random(uint64(n), n))
		for first := range 8 * len(whole) {
			for _, p := range patterns() {
				spoilt, ok := turn(whole, first, p)
				if !ok {
					continue
				}
				if got, ok := crc.Open(spoilt); ok || len(got) != 0 {
					t.Fatalf("%d bytes, bits from %d on turned by %x: Open is %v, %v", n, first, p, got, ok)
				}
			}
		}
	}
}
