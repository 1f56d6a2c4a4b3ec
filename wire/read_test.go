package wire_test

import (
	"bytes"
	"math"
	"math/rand/v2"
	"slices"
	"testing"

	"castellan/api"
	"castellan/wire"
)

// wrong is the fault that a reader must tell.
func wrong(op string, at int, c api.Code) error { return api.Fault{Op: op, At: at, Err: c} }

// check holds where a reader is, and what it tells, against what it should.
func check(t *testing.T, what string, r *wire.Reader, at int, err error) {
	t.Helper()
	if r.At() != at || r.Err() != err {
		t.Errorf("%s: at %d, %v of %v; not at %d, %v", what, r.At(), r.Err(), r.Err(), at, err)
	}
}

// TestReadNum: 2.6, each number where it begins, at most as great as it may be.
func TestReadNum(t *testing.T) {
	for _, c := range numbers() {
		b := append(slices.Clone(c.bytes), 77)
		for _, most := range []uint64{c.n, c.n + 1, wire.Most, math.MaxUint64} {
			r := wire.Read(b)
			if n := r.Num(most); n != c.n {
				t.Errorf("Num(%d) of %v is %d", most, b, n)
			}
			check(t, "num", r, len(c.bytes), nil)
		}
		if c.n > 0 {
			r := wire.Read(b)
			if n := r.Num(c.n - 1); n != 0 {
				t.Errorf("Num(%d) of %v is %d", c.n-1, b, n)
			}
			check(t, "num above most", r, 0, wrong("num", 0, api.ErrLimit))
		}
		for cut := range c.bytes {
			r := wire.Read(c.bytes[:cut])
			if n := r.Num(wire.Most); n != 0 {
				t.Errorf("Num of %v is %d", c.bytes[:cut], n)
			}
			check(t, "num cut short", r, 0, wrong("num", 0, api.ErrShort))
		}
	}
}

// TestReadInt: 2.6, as Num, and of 0, if the most is below 0.
func TestReadInt(t *testing.T) {
	for _, c := range numbers() {
		r := wire.Read(c.bytes)
		if n := r.Int(int(c.n)); n != int(c.n) {
			t.Errorf("Int of %v is %d", c.bytes, n)
		}
		check(t, "int", r, len(c.bytes), nil)
	}
	for _, most := range []int{0, -1, math.MinInt} {
		r := wire.Read([]byte{0, 1})
		if n := r.Int(most); n != 0 {
			t.Errorf("Int(%d) of 0 is %d", most, n)
		}
		check(t, "int of 0", r, 1, nil)
		if n := r.Int(most); n != 0 {
			t.Errorf("Int(%d) of 1 is %d", most, n)
		}
		check(t, "int of 1", r, 1, wrong("num", 1, api.ErrLimit))
	}
	r := wire.Read([]byte{64})
	r.Int(5)
	check(t, "int cut short", r, 0, wrong("num", 0, api.ErrShort))
}

// TestReadNumWrongFirst: 2.6 and P0, of several things that are wrong the first that is named.
func TestReadNumWrongFirst(t *testing.T) {
	cases := []struct {
		bytes []byte
		most  uint64
		code  api.Code
	}{
		{nil, 5, api.ErrShort},
		{[]byte{}, 0, api.ErrShort},
		{[]byte{64}, 0, api.ErrShort},
		{[]byte{255, 255, 255}, 0, api.ErrShort},
		{[]byte{192, 0, 0, 0, 0, 0, 0}, 0, api.ErrShort},
		{[]byte{64, 5}, 100, api.ErrKind},
		{[]byte{64, 5}, 4, api.ErrKind},
		{[]byte{64, 0}, 0, api.ErrKind},
		{[]byte{64, 63}, 0, api.ErrKind},
		{[]byte{128, 0, 63, 255}, wire.Most, api.ErrKind},
		{[]byte{128, 0, 0, 1}, 0, api.ErrKind},
		{[]byte{192, 0, 0, 0, 63, 255, 255, 255}, wire.Most, api.ErrKind},
		{[]byte{192, 0, 0, 0, 0, 0, 0, 1}, 0, api.ErrKind},
		{[]byte{64, 70}, 69, api.ErrLimit},
		{[]byte{63}, 0, api.ErrLimit},
	}
	for _, c := range cases {
		r := wire.Read(append([]byte{3}, c.bytes...))
		r.Num(3)
		if n := r.Num(c.most); n != 0 {
			t.Errorf("Num(%d) of %v is %d", c.most, c.bytes, n)
		}
		check(t, "num", r, 1, wrong("num", 1, c.code))
	}
}

// TestReadFlag: 2.7.
func TestReadFlag(t *testing.T) {
	r := wire.Read([]byte{1, 0, 1, 2})
	if !r.Flag() || r.Flag() || !r.Flag() {
		t.Errorf("flags are others: %v", r.Err())
	}
	check(t, "three flags", r, 3, nil)
	if r.Flag() {
		t.Error("2 is a flag")
	}
	check(t, "2", r, 3, wrong("flag", 3, api.ErrKind))
	for b := 2; b < 256; b++ {
		r = wire.Read([]byte{byte(b)})
		if r.Flag() {
			t.Errorf("%d is a flag", b)
		}
		check(t, "flag", r, 0, wrong("flag", 0, api.ErrKind))
	}
	r = wire.Read([]byte{1})
	r.Flag()
	if r.Flag() {
		t.Error("nothing is a flag")
	}
	check(t, "none", r, 1, wrong("flag", 1, api.ErrShort))
}

// TestReadText: 2.8.
func TestReadText(t *testing.T) {
	r := wire.Read([]byte{2, 9, 8, 0, 1, 7})
	for _, want := range [][]byte{{9, 8}, {}, {7}} {
		if got := r.Text(2); !bytes.Equal(got, want) {
			t.Errorf("%v, not %v", got, want)
		}
	}
	check(t, "texts", r, 6, nil)
	long := wire.Text(nil, bytes.Repeat([]byte{5}, 100))
	r = wire.Read(long)
	if got := r.Text(100); len(got) != 100 || got[99] != 5 {
		t.Errorf("%v", got)
	}
	check(t, "a long text", r, 102, nil)
	cases := []struct {
		bytes []byte
		most  int
		err   error
	}{
		{nil, 5, wrong("num", 1, api.ErrShort)},
		{[]byte{64}, 5, wrong("num", 1, api.ErrShort)},
		{[]byte{64, 1, 6}, 5, wrong("num", 1, api.ErrKind)},
		{[]byte{3, 1, 2, 3}, 2, wrong("num", 1, api.ErrLimit)},
		{[]byte{1, 1}, -1, wrong("num", 1, api.ErrLimit)},
		{[]byte{3}, 2, wrong("num", 1, api.ErrLimit)},
		{[]byte{3, 1, 2}, 3, wrong("text", 1, api.ErrShort)},
		{[]byte{1}, 3, wrong("text", 1, api.ErrShort)},
		{[]byte{64, 64, 1}, 64, wrong("text", 1, api.ErrShort)},
		{[]byte{255, 255, 255, 255, 255, 255, 255, 255, 1}, math.MaxInt, wrong("text", 1, api.ErrShort)},
	}
	for _, c := range cases {
		r := wire.Read(append([]byte{1}, c.bytes...))
		r.Flag()
		if got := r.Text(c.most); len(got) != 0 {
			t.Errorf("Text(%d) of %v is %v", c.most, c.bytes, got)
		}
		check(t, "text", r, 1, c.err)
	}
}

// TestReadRow: 2.9.
func TestReadRow(t *testing.T) {
	r := wire.Read([]byte{2, 1, 128, 0, 78, 32, 0, 1, 0})
	for _, want := range [][]int{{1, 20000}, {}, {0}} {
		if got := r.Row(2, 20000); !slices.Equal(got, want) {
			t.Errorf("%v, not %v", got, want)
		}
	}
	check(t, "rows", r, 9, nil)
	cases := []struct {
		bytes      []byte
		many, most int
		at         int
		code       api.Code
	}{
		{nil, 5, 5, 0, api.ErrShort},
		{[]byte{128, 0}, 5, 5, 0, api.ErrShort},
		{[]byte{64, 1, 0}, 5, 5, 0, api.ErrKind},
		{[]byte{3, 1, 2, 3}, 2, 5, 0, api.ErrLimit},
		{[]byte{1, 1}, -1, 5, 0, api.ErrLimit},
		{[]byte{3, 1, 2}, 3, 5, 3, api.ErrShort},
		{[]byte{3, 1, 6, 2}, 3, 5, 2, api.ErrLimit},
		{[]byte{3, 1, 64, 2, 2}, 3, 5, 2, api.ErrKind},
		{[]byte{2, 0, 1}, 3, -1, 2, api.ErrLimit},
		{[]byte{255, 255, 255, 255, 255, 255, 255, 255, 1}, math.MaxInt, 5, 9, api.ErrShort},
	}
	for _, c := range cases {
		r := wire.Read(append([]byte{1}, c.bytes...))
		r.Flag()
		if got := r.Row(c.many, c.most); len(got) != 0 {
			t.Errorf("Row(%d, %d) of %v is %v", c.many, c.most, c.bytes, got)
		}
		check(t, "row", r, c.at+1, wrong("num", c.at+1, c.code))
	}
}

// TestEnd: 2.10, that bytes are left is wrong, and stays so.
func TestEnd(t *testing.T) {
	r := wire.Read([]byte{1, 0})
	r.Flag()
	if err := r.End(); err != wrong("end", 1, api.ErrKind) {
		t.Errorf("%v", err)
	}
	check(t, "end", r, 1, wrong("end", 1, api.ErrKind))
	r.Flag()
	check(t, "behind the end", r, 1, wrong("end", 1, api.ErrKind))
	for _, b := range [][]byte{nil, {}, {1}} {
		r = wire.Read(b)
		for range b {
			r.Flag()
		}
		if err := r.End(); err != nil {
			t.Errorf("the end of %v: %v", b, err)
		}
		check(t, "all read", r, len(b), nil)
	}
	r = wire.Read([]byte{2, 2})
	r.Flag()
	if err := r.End(); err != wrong("flag", 0, api.ErrKind) {
		t.Errorf("what was wrong first is %v", err)
	}
}

// TestRefuse: 2.10, where the reader is, if nothing was wrong ahead.
func TestRefuse(t *testing.T) {
	r := wire.Read([]byte{1, 1, 1})
	r.Flag()
	r.Flag()
	r.Refuse("name", api.ErrRange)
	check(t, "refuse", r, 2, wrong("name", 2, api.ErrRange))
	r.Refuse("other", api.ErrArg)
	check(t, "refuse twice", r, 2, wrong("name", 2, api.ErrRange))
	if err := r.End(); err != wrong("name", 2, api.ErrRange) {
		t.Errorf("%v", err)
	}
	r = wire.Read(nil)
	r.Num(1)
	r.Refuse("late", api.ErrArg)
	check(t, "refuse late", r, 0, wrong("num", 0, api.ErrShort))
	r = wire.Read(nil)
	r.Refuse("", api.ErrArg)
	check(t, "refuse at none", r, 0, wrong("", 0, api.ErrArg))
}

// TestBehindWrong: 2.5, behind what is wrong first every call tells nothing, and reads nothing.
func TestBehindWrong(t *testing.T) {
	b := []byte{1, 1, 1, 1, 1, 1, 1, 1}
	ways := []struct {
		spoil func(r *wire.Reader)
		at    int
		err   error
	}{
		{func(r *wire.Reader) { r.Num(0) }, 2, wrong("num", 2, api.ErrLimit)},
		{func(r *wire.Reader) { r.Text(0) }, 2, wrong("num", 2, api.ErrLimit)},
		{func(r *wire.Reader) { r.Row(1, 0) }, 3, wrong("num", 3, api.ErrLimit)},
		{func(r *wire.Reader) { r.End() }, 2, wrong("end", 2, api.ErrKind)},
		{func(r *wire.Reader) { r.Refuse("so", api.ErrFull) }, 2, wrong("so", 2, api.ErrFull)},
	}
	for _, w := range ways {
		r := wire.Read(b)
		r.Num(1)
		r.Flag()
		w.spoil(r)
		for range 2 {
			if r.Num(9) != 0 || r.Int(9) != 0 || r.Flag() || len(r.Text(9)) != 0 || len(r.Row(9, 9)) != 0 {
				t.Errorf("behind %v something is told", w.err)
			}
			check(t, "behind", r, w.at, w.err)
			if r.End() != w.err {
				t.Errorf("behind %v the end is %v", w.err, r.End())
			}
		}
	}
}

// TestReadKeeps: R3, what is read is not changed, nothing behind its length counts, and what is told is new memory.
func TestReadKeeps(t *testing.T) {
	memory := []byte{2, 7, 8, 1, 5, 1, 1}
	r := wire.Read(memory[:5])
	text, row := r.Text(2), r.Row(1, 5)
	if !bytes.Equal(text, []byte{7, 8}) || !slices.Equal(row, []int{5}) || r.End() != nil {
		t.Errorf("%v, %v, %v", text, row, r.Err())
	}
	for i := range text {
		text[i] = 99
	}
	_ = append(text, 98)
	if !bytes.Equal(memory, []byte{2, 7, 8, 1, 5, 1, 1}) {
		t.Errorf("what was read is %v", memory)
	}
	if wire.Read(memory[:5]).Text(2)[0] != 7 {
		t.Error("a text shares its memory")
	}
	if r.Flag() || r.Err() != wrong("flag", 5, api.ErrShort) {
		t.Errorf("behind the length: %v", r.Err())
	}
	one, two := wire.Read(memory), wire.Read(memory)
	one.Text(2)
	check(t, "another reader", two, 0, nil)
}

// TestReadLater: 2.5, the bytes are read where they are.
func TestReadLater(t *testing.T) {
	b := []byte{1, 1}
	r := wire.Read(b)
	r.Flag()
	b[1] = 0
	if r.Flag() {
		t.Error("the reader has bytes of its own")
	}
}

// TestThereAndBack: 2.11, what is written is read as what it was.
func TestThereAndBack(t *testing.T) {
	chance := rand.New(rand.NewPCG(2, 11))
	for range 2000 {
		n := chance.Uint64() >> (2 + chance.IntN(62))
		is := chance.IntN(2) == 1
		text := make([]byte, chance.IntN(200))
		for i := range text {
			text[i] = byte(chance.IntN(256))
		}
		row := make([]int, chance.IntN(80))
		for i := range row {
			row[i] = chance.Int() >> (1 + chance.IntN(62))
		}
		b := wire.Row(wire.Text(wire.Flag(wire.Num(nil, n), is), text), row)
		r := wire.Read(b)
		if r.Num(n) != n || r.Flag() != is || !bytes.Equal(r.Text(len(text)), text) || !slices.Equal(r.Row(len(row), math.MaxInt), row) || r.End() != nil {
			t.Fatalf("%d, %t, %v, %v: %v", n, is, text, row, r.Err())
		}
	}
}

// TestOneWay: 2.11, bytes that are read as a number are those that it is written as.
func TestOneWay(t *testing.T) {
	chance := rand.New(rand.NewPCG(11, 2))
	for i := range 1 << 17 {
		b := []byte{byte(i), byte(i >> 8), 0, 0, 0, 0, 0, 0}
		if i >= 1<<16 {
			for k := range b[chance.IntN(6)+2:] {
				b[7-k] = byte(chance.IntN(256))
			}
		}
		r := wire.Read(b)
		n := r.Num(wire.Most)
		if r.Err() == nil && !bytes.Equal(wire.Num(nil, n), b[:r.At()]) {
			t.Fatalf("%v is read as %d", b[:r.At()], n)
		}
		if r.Err() != nil && r.Err() != wrong("num", 0, api.ErrKind) {
			t.Fatalf("%v: %v", b, r.Err())
		}
	}
}
