package wire_test

import (
	"bytes"
	"math"
	"slices"
	"testing"

	"castellan/wire"
)

// number is a number, and the bytes that it must be.
type number struct {
	n     uint64
	bytes []byte
}

// numbers has the edges of each length, as the chapter names them.
func numbers() []number {
	return []number{
		{0, []byte{0}},
		{1, []byte{1}},
		{63, []byte{63}},
		{64, []byte{64, 64}},
		{70, []byte{64, 70}},
		{255, []byte{64, 255}},
		{256, []byte{65, 0}},
		{1<<14 - 1, []byte{127, 255}},
		{1 << 14, []byte{128, 0, 64, 0}},
		{20000, []byte{128, 0, 78, 32}},
		{0x01020304, []byte{129, 2, 3, 4}},
		{1<<30 - 1, []byte{191, 255, 255, 255}},
		{1 << 30, []byte{192, 0, 0, 0, 64, 0, 0, 0}},
		{1 << 32, []byte{192, 0, 0, 1, 0, 0, 0, 0}},
		{0x0102030405060708, []byte{193, 2, 3, 4, 5, 6, 7, 8}},
		{wire.Most - 1, []byte{255, 255, 255, 255, 255, 255, 255, 254}},
		{wire.Most, []byte{255, 255, 255, 255, 255, 255, 255, 255}},
	}
}

// TestNum: 2.1, a number's bytes, and those above Most as Most.
func TestNum(t *testing.T) {
	if uint64(wire.Most) != 1<<62-1 {
		t.Errorf("Most is %d", uint64(wire.Most))
	}
	cases := numbers()
	most := cases[len(cases)-1].bytes
	cases = append(cases, number{wire.Most + 1, most}, number{1 << 63, most}, number{math.MaxUint64, most})
	for _, c := range cases {
		if got := wire.Num(nil, c.n); !bytes.Equal(got, c.bytes) {
			t.Errorf("Num(nil, %d) is %v, not %v", c.n, got, c.bytes)
		}
		if got := wire.Num([]byte{}, c.n); !bytes.Equal(got, c.bytes) {
			t.Errorf("Num of none, %d, is %v, not %v", c.n, got, c.bytes)
		}
		want := append([]byte{7, 200}, c.bytes...)
		if got := wire.Num([]byte{7, 200}, c.n); !bytes.Equal(got, want) {
			t.Errorf("Num of two bytes, %d, is %v, not %v", c.n, got, want)
		}
	}
}

// TestInt: 2.1, an int as Num of it, and as 0, if it is below 0.
func TestInt(t *testing.T) {
	for _, c := range numbers() {
		if got := wire.Int([]byte{9}, int(c.n)); !bytes.Equal(got, append([]byte{9}, c.bytes...)) {
			t.Errorf("Int of %d is %v", c.n, got)
		}
	}
	if got := wire.Int(nil, math.MaxInt); !bytes.Equal(got, wire.Num(nil, wire.Most)) {
		t.Errorf("Int of the greatest is %v", got)
	}
	for _, n := range []int{-1, -64, math.MinInt} {
		if got := wire.Int([]byte{9}, n); !bytes.Equal(got, []byte{9, 0}) {
			t.Errorf("Int of %d is %v", n, got)
		}
	}
}

// TestFlag: 2.2.
func TestFlag(t *testing.T) {
	if got := wire.Flag([]byte{5}, true); !bytes.Equal(got, []byte{5, 1}) {
		t.Errorf("%v", got)
	}
	if got := wire.Flag([]byte{5}, false); !bytes.Equal(got, []byte{5, 0}) {
		t.Errorf("%v", got)
	}
	if got := wire.Flag(nil, false); !bytes.Equal(got, []byte{0}) {
		t.Errorf("%v", got)
	}
}

// TestText: 2.3, at the lengths where the length's own bytes grow in number.
func TestText(t *testing.T) {
	for _, n := range []int{0, 1, 2, 63, 64, 1<<14 - 1, 1 << 14} {
		s := make([]byte, n)
		for i := range s {
			s[i] = byte(i*7 + 1)
		}
		want := slices.Concat([]byte{5}, wire.Int(nil, n), s)
		if got := wire.Text([]byte{5}, s); !bytes.Equal(got, want) {
			t.Errorf("Text of %d bytes has %d bytes, or others than it should", n, len(got))
		}
	}
	if got := wire.Text(nil, nil); !bytes.Equal(got, []byte{0}) {
		t.Errorf("Text of nil is %v", got)
	}
	if got := wire.Text([]byte{}, []byte{}); !bytes.Equal(got, []byte{0}) {
		t.Errorf("Text of none is %v", got)
	}
}

// TestTextBehind: 2.3, of a text that lies in the memory behind the bytes, which may be used.
func TestTextBehind(t *testing.T) {
	for from := 1; from < 5; from++ {
		memory := []byte{9, 1, 2, 3, 4, 5, 6, 7}
		s := memory[from : from+3]
		want := slices.Concat([]byte{9, 3}, s)
		if got := wire.Text(memory[:1], s); !bytes.Equal(got, want) {
			t.Errorf("a text from %d on is %v, not %v", from, got, want)
		}
	}
}

// TestRow: 2.4.
func TestRow(t *testing.T) {
	cases := []struct {
		row  []int
		want []byte
	}{
		{nil, []byte{5, 0}},
		{[]int{}, []byte{5, 0}},
		{[]int{0}, []byte{5, 1, 0}},
		{[]int{1, 20000}, []byte{5, 2, 1, 128, 0, 78, 32}},
		{[]int{-1, 64, math.MinInt, 3}, []byte{5, 4, 0, 64, 64, 0, 3}},
		{[]int{math.MaxInt}, []byte{5, 1, 255, 255, 255, 255, 255, 255, 255, 255}},
	}
	for _, c := range cases {
		if got := wire.Row([]byte{5}, c.row); !bytes.Equal(got, c.want) {
			t.Errorf("Row of %v is %v, not %v", c.row, got, c.want)
		}
	}
	long := wire.Row(nil, make([]int, 64))
	if len(long) != 66 || long[0] != 64 || long[1] != 64 {
		t.Errorf("Row of 64 is %v", long)
	}
}

// TestWriteKeeps: R3, nothing ahead of a length is changed, nor what is handed in to be written; what is answered stays what it is.
func TestWriteKeeps(t *testing.T) {
	text, row := []byte{4, 5, 6}, []int{-7, 8, 9}
	calls := map[string]func(b []byte) []byte{
		"num":  func(b []byte) []byte { return wire.Num(b, 1<<40) },
		"int":  func(b []byte) []byte { return wire.Int(b, 700) },
		"flag": func(b []byte) []byte { return wire.Flag(b, true) },
		"text": func(b []byte) []byte { return wire.Text(b, text) },
		"row":  func(b []byte) []byte { return wire.Row(b, row) },
	}
	for name, call := range calls {
		for spare := range 20 {
			memory := make([]byte, 2, 2+spare)
			memory[0], memory[1] = 1, 2
			got := call(memory)
			if !bytes.Equal(memory, []byte{1, 2}) || !bytes.Equal(got, append([]byte{1, 2}, call(nil)...)) {
				t.Errorf("%s with room for %d: %v, and %v ahead", name, spare, got, memory)
			}
		}
	}
	if !slices.Equal(text, []byte{4, 5, 6}) || !slices.Equal(row, []int{-7, 8, 9}) {
		t.Errorf("%v, %v", text, row)
	}
	got := wire.Text(nil, text)
	text[0] = 99
	if !bytes.Equal(got, []byte{3, 4, 5, 6}) {
		t.Errorf("a text that was written is %v", got)
	}
}
