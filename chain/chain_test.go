package chain_test

import (
	"bytes"
	"encoding/binary"
	"math"
	"slices"
	"testing"

	"castellan/api"
	"castellan/block"
	"castellan/chain"
)

// top is the highest stamp; begins what is told, beside how much is left, where a record begins.
const (
	top    = 1 << 60
	begins = 1 << 15
)

// wrong is a fault as the chapter words it: of op, at so much, a code.
func wrong(op string, at int, c api.Code) error { return api.Fault{Op: op, At: at, Err: c} }

// store is a new one that has room for so many.
func store(t *testing.T, room int) *block.Disk {
	t.Helper()
	d, err := block.New(room)
	if err != nil {
		t.Fatal(err)
	}
	return d
}

// open is a chain that must open.
func open(t *testing.T, d *block.Disk, base, from int) (*chain.Chain, []api.Link) {
	t.Helper()
	c, l, err := chain.Open(d, base, from)
	if err != nil || c == nil {
		t.Fatalf("base %d, from %d: %v", base, from, err)
	}
	return c, l
}

// add appends a record that must be taken, at that block.
func add(t *testing.T, c *chain.Chain, at int, b []byte) {
	t.Helper()
	if got, err := c.Append(b); got != at || err != nil {
		t.Fatalf("%d bytes: at %d, %v, not at %d", len(b), got, err, at)
	}
}

// row is so many bytes, each of which is another one than those beside it.
func row(first byte, n int) []byte {
	b := make([]byte, n)
	for i := range b {
		b[i] = first + byte(i)
	}
	return b
}

// made is a block by 9.1's words: the stamp, what is left, what it has of the record, the stamp once more.
func made(ahead, behind uint64, left int, own ...byte) []byte {
	b := binary.BigEndian.AppendUint64(nil, ahead)
	b = binary.BigEndian.AppendUint16(b, uint16(left))
	b = append(append(b, own...), make([]byte, 46-len(own))...)
	return binary.BigEndian.AppendUint64(b, behind)
}

// lay writes blocks, one behind the other, and syncs them.
func lay(t *testing.T, d *block.Disk, at int, blocks ...[]byte) {
	t.Helper()
	for i, b := range blocks {
		if err := d.Write(at+i, b); err != nil {
			t.Fatal(err)
		}
	}
	d.Sync()
}

// links holds records that were told against what they should be.
func links(t *testing.T, got []api.Link, want ...api.Link) {
	t.Helper()
	if !slices.EqualFunc(got, want, func(a, b api.Link) bool { return a.At == b.At && bytes.Equal(a.Bytes, b.Bytes) }) {
		t.Errorf("%v, not %v", got, want)
	}
}

// ends holds where the next record begins, and the next stamp, against what they should be.
func ends(t *testing.T, c *chain.Chain, next, stamp int) {
	t.Helper()
	if c.Next() != next || c.Stamp() != stamp {
		t.Errorf("next %d, stamp %d, not %d, %d", c.Next(), c.Stamp(), next, stamp)
	}
}

// cells holds the blocks that are synced against what they should be, from one block on.
func cells(t *testing.T, d *block.Disk, at int, want ...[]byte) {
	t.Helper()
	got := d.Cells()
	if len(got) != len(want) {
		t.Fatalf("%d blocks are synced, not %d: %v", len(got), len(want), got)
	}
	for i, b := range want {
		if got[i].At != at+i || !bytes.Equal(got[i].Bytes, b) {
			t.Errorf("block %d: %v, not block %d: %v", got[i].At, got[i].Bytes, at+i, b)
		}
	}
}

// TestExample: the chapter's example.
func TestExample(t *testing.T) {
	d := store(t, 20)
	c, l := open(t, d, 3, 3)
	links(t, l)
	ends(t, c, 3, 1)
	add(t, c, 3, []byte{7})
	add(t, c, 4, row(1, 50))
	c.Sync()
	add(t, c, 6, []byte{9})
	d.Crash(nil, 0)
	c, l = open(t, d, 3, 3)
	links(t, l, api.Link{At: 3, Bytes: []byte{7}}, api.Link{At: 4, Bytes: row(1, 50)})
	ends(t, c, 6, 4)
	if err := c.Cut(4); err != nil {
		t.Fatal(err)
	}
	ends(t, c, 5, 5)
	d.Crash(nil, 0)
	c, l = open(t, d, 3, 3)
	links(t, l, api.Link{At: 3, Bytes: []byte{7}})
	ends(t, c, 5, 5)
}

// TestBytes: 9.1 and 9.4, byte by byte what records leave in the blocks, from one byte to the most.
func TestBytes(t *testing.T) {
	if chain.Part != 46 || chain.Most != 16448 {
		t.Errorf("%d, %d", chain.Part, chain.Most)
	}
	for _, n := range []int{1, 2, 45, 46, 47, 91, 92, 93, 255, 256, 257, 512, 4096, 16447, 16448} {
		d := store(t, 400)
		c, _ := open(t, d, 7, 7)
		b := row(3, n)
		add(t, c, 7, b)
		c.Sync()
		var want [][]byte
		for left := n; left > 0; left -= 46 {
			stamp, flag := uint64(len(want)+1), 0
			if left == n {
				flag = begins
			}
			want = append(want, made(stamp, stamp, left|flag, b[n-left:n-left+min(left, 46)]...))
		}
		cells(t, d, 7, want...)
		ends(t, c, 7+len(want), 1+len(want))
		_, l := open(t, d, 7, 7)
		links(t, l, api.Link{At: 7, Bytes: b})
		if t.Failed() {
			t.Fatalf("%d bytes", n)
		}
	}
}

// TestBytesOver: 9.1 and 9.4, noughts stand behind a record's end whatever the block was, and each byte of the stamp in its place, the highest first.
func TestBytesOver(t *testing.T) {
	d := store(t, 9)
	lay(t, d, 2, bytes.Repeat([]byte{255}, 64), made(0x0102030405060707, 0, 5))
	c, l := open(t, d, 2, 2)
	links(t, l)
	ends(t, c, 2, 0x0102030405060708)
	add(t, c, 2, row(8, 47))
	c.Sync()
	cells(t, d, 2, made(0x0102030405060708, 0x0102030405060708, begins|47, row(8, 46)...), made(0x0102030405060709, 0x0102030405060709, 1, 54))
	b, err := d.Read(2)
	if err != nil || !bytes.Equal(b[:12], []byte{1, 2, 3, 4, 5, 6, 7, 8, 128, 47, 8, 9}) || !bytes.Equal(b[55:], []byte{53, 1, 2, 3, 4, 5, 6, 7, 8}) {
		t.Errorf("%v, %v", b, err)
	}
}

// TestBlocks: 9.2, how many blocks a record takes.
func TestBlocks(t *testing.T) {
	for n, want := range map[int]int{
		0: 1, 1: 1, 2: 1, 45: 1, 46: 1, 47: 2, 48: 2, 91: 2, 92: 2, 93: 3, 138: 3, 139: 4,
		16447: 358, 16448: 358, 16468: 358, 16469: 359, 46 << 20: 1 << 20, 46<<20 + 1: 1<<20 + 1,
		math.MaxInt: math.MaxInt/46 + 1,
	} {
		if got := chain.Blocks(n); got != want {
			t.Errorf("%d bytes: %d blocks, not %d", n, got, want)
		}
	}
	for n := range 5000 {
		if got := chain.Blocks(n); got < 1 || got*46 < n || got > 1 && (got-1)*46 >= n {
			t.Errorf("%d bytes: %d blocks", n, got)
		}
	}
}

// whole is one block at which a record of one byte begins.
func whole(stamp uint64, b byte) []byte { return made(stamp, stamp, begins|1, b) }

// TestStamp: 9.1, when a block has a stamp: both are the same, and no higher than 2^60; a record whose block has none does not stand.
func TestStamp(t *testing.T) {
	for _, c := range []struct {
		ahead, behind uint64
		stands        bool
		next          int
	}{
		{1, 1, true, 2},
		{0, 0, false, 1},
		{1, 0, false, 2},
		{0, 1, false, 2},
		{7, 6, false, 8},
		{6, 7, false, 8},
		{1 << 8, 1, false, 1<<8 + 1},
		{1, 1 << 56, false, 1<<56 + 1},
		{1<<56 | 1, 1, false, 1<<56 + 2},
		{top - 1, top - 1, true, top},
		{top, top, true, top + 1},
		{top, top - 1, false, top + 1},
		{top + 1, top + 1, false, 1},
		{top + 1, top, false, top + 1},
		{top, top + 1, false, top + 1},
		{1 << 61, 5, false, 6},
		{5, 1 << 63, false, 6},
		{1 << 63, 1 << 63, false, 1},
		{math.MaxUint64, math.MaxUint64, false, 1},
		{math.MaxUint64, 3, false, 4},
	} {
		d := store(t, 3)
		lay(t, d, 1, made(c.ahead, c.behind, begins|2, 8, 9))
		x, l := open(t, d, 1, 1)
		if c.stands {
			links(t, l, api.Link{At: 1, Bytes: []byte{8, 9}})
			ends(t, x, 2, c.next)
		} else {
			links(t, l)
			ends(t, x, 1, c.next)
		}
		if t.Failed() {
			t.Fatalf("%d, %d", c.ahead, c.behind)
		}
	}
}

// TestStampBits: 9.1, stamps that are unlike in one bit alone are unlike, whichever it is.
func TestStampBits(t *testing.T) {
	for bit := range 64 {
		d := store(t, 1)
		const stamp = 0x0010203040506070
		lay(t, d, 0, made(stamp, stamp^1<<bit, begins|1, 1))
		if _, l := open(t, d, 0, 0); len(l) != 0 {
			t.Errorf("bit %d: %v", bit, l)
		}
	}
}

// TestStands: 9.2 and 9.3, blocks at which records stand, up to where none does; where the next one begins, and its stamp.
func TestStands(t *testing.T) {
	full := row(1, 46)
	first := func(stamp uint64, left int) []byte { return made(stamp, stamp, begins|left, full...) }
	more := func(stamp uint64, left int) []byte { return made(stamp, stamp, left, full...) }
	mark := func(stamp uint64) []byte { return made(stamp, stamp, begins) }
	for name, c := range map[string]struct {
		blocks [][]byte
		told   []api.Link
		next   int
		stamp  int
	}{
		"nothing":                      {nil, nil, 5, 1},
		"no record begins":             {[][]byte{more(3, 1)}, nil, 5, 4},
		"one":                          {[][]byte{whole(3, 7)}, []api.Link{{At: 5, Bytes: []byte{7}}}, 6, 4},
		"two":                          {[][]byte{whole(3, 7), whole(4, 8)}, []api.Link{{At: 5, Bytes: []byte{7}}, {At: 6, Bytes: []byte{8}}}, 7, 5},
		"stamps rise by more than one": {[][]byte{whole(3, 7), whole(90, 8)}, []api.Link{{At: 5, Bytes: []byte{7}}, {At: 6, Bytes: []byte{8}}}, 7, 91},
		"the same stamp":               {[][]byte{whole(3, 7), whole(3, 8)}, []api.Link{{At: 5, Bytes: []byte{7}}}, 6, 4},
		"a lower stamp":                {[][]byte{whole(3, 7), whole(2, 8)}, []api.Link{{At: 5, Bytes: []byte{7}}}, 6, 4},
		"none, then a whole one":       {[][]byte{make([]byte, 64), whole(4, 8)}, nil, 5, 5},
		"behind the last stamp of two": {[][]byte{first(3, 47), more(4, 1), whole(4, 8)}, []api.Link{{At: 5, Bytes: append(row(1, 46), 1)}}, 7, 5},
		"a mark":                       {[][]byte{mark(3)}, nil, 6, 4},
		"marks alone":                  {[][]byte{mark(3), mark(4), mark(9)}, nil, 8, 10},
		"a mark between two":           {[][]byte{whole(1, 7), mark(3), whole(4, 8)}, []api.Link{{At: 5, Bytes: []byte{7}}, {At: 7, Bytes: []byte{8}}}, 8, 5},
		"behind a mark's stamp":        {[][]byte{mark(3), whole(3, 8)}, nil, 6, 4},
		"a mark of an old stamp":       {[][]byte{whole(3, 7), mark(3), whole(4, 8)}, []api.Link{{At: 5, Bytes: []byte{7}}}, 6, 5},
		"a whole block":                {[][]byte{first(3, 46)}, []api.Link{{At: 5, Bytes: full}}, 6, 4},
		"it does not go on":            {[][]byte{first(3, 47)}, nil, 5, 4},
		"it goes on":                   {[][]byte{first(3, 92), more(4, 46)}, []api.Link{{At: 5, Bytes: slices.Concat(full, full)}}, 7, 5},
		"the second's stamp is higher": {[][]byte{first(3, 92), more(5, 46)}, nil, 5, 6},
		"the second's is the same":     {[][]byte{first(3, 92), more(3, 46)}, nil, 5, 4},
		"the second's is lower":        {[][]byte{first(3, 92), more(2, 46)}, nil, 5, 4},
		"the second has none":          {[][]byte{first(3, 92), made(4, 5, 46, full...)}, nil, 5, 6},
		"one more than 2^60":           {[][]byte{first(top, 92), more(top+1, 46)}, nil, 5, top + 1},
		"a record begins at it":        {[][]byte{first(3, 92), first(4, 46)}, nil, 5, 5},
		"one byte fewer is left":       {[][]byte{first(3, 92), more(4, 45)}, nil, 5, 5},
		"one byte more is left":        {[][]byte{first(3, 92), more(4, 47), more(5, 1)}, nil, 5, 6},
		"as much is left":              {[][]byte{first(3, 92), more(4, 92)}, nil, 5, 5},
		"nothing is left":              {[][]byte{first(3, 92), more(4, 0)}, nil, 5, 5},
		"the third is missing":         {[][]byte{first(3, 93), more(4, 47)}, nil, 5, 5},
		"the third is old":             {[][]byte{first(3, 93), more(4, 47), more(1, 1)}, nil, 5, 5},
		"behind one that is not whole": {[][]byte{whole(1, 7), first(3, 93), more(4, 47), whole(5, 8)}, []api.Link{{At: 5, Bytes: []byte{7}}}, 6, 6},
	} {
		d := store(t, 9)
		lay(t, d, 5, c.blocks...)
		x, l := open(t, d, 5, 5)
		links(t, l, c.told...)
		ends(t, x, c.next, c.stamp)
		if t.Failed() {
			t.Fatal(name)
		}
	}
}

// long is the blocks of a record of so many noughts, from a stamp on.
func long(stamp uint64, n int) [][]byte {
	blocks := [][]byte{made(stamp, stamp, begins|n)}
	for left := n - 46; left > 0; left -= 46 {
		stamp++
		blocks = append(blocks, made(stamp, stamp, left))
	}
	return blocks
}

// TestStandsMost: 9.2, a record of the most bytes stands, one of more does not, though all its blocks are there; and none that lacks one of them.
func TestStandsMost(t *testing.T) {
	for _, n := range []int{16447, 16448, 16449, 16468, 16469, 32767} {
		d := store(t, 800)
		blocks := long(2, n)
		lay(t, d, 1, blocks...)
		c, l := open(t, d, 1, 1)
		if n <= 16448 {
			links(t, l, api.Link{At: 1, Bytes: make([]byte, n)})
			ends(t, c, 1+len(blocks), 2+len(blocks))
		} else {
			links(t, l)
			ends(t, c, 1, 2+len(blocks))
		}
	}
	for missing := range 358 {
		d := store(t, 358)
		lay(t, d, 1, long(2, 16448)...)
		if err := d.Free(1 + missing); err != nil {
			t.Fatal(err)
		}
		if _, l := open(t, d, 1, 1); len(l) != 0 {
			t.Errorf("block %d is missing", missing)
		}
	}
}

// TestStandsBehind: 9.2, what stands behind a record's end in its block does not count.
func TestStandsBehind(t *testing.T) {
	d := store(t, 9)
	lay(t, d, 5, made(3, 3, begins|2, row(1, 46)...), made(4, 4, begins, row(1, 46)...), made(6, 6, begins|1, 9))
	_, l := open(t, d, 5, 5)
	links(t, l, api.Link{At: 5, Bytes: []byte{1, 2}}, api.Link{At: 7, Bytes: []byte{9}})
}

// TestOpenWrong: 9.3, what is wrong, and nothing beside it.
func TestOpenWrong(t *testing.T) {
	d := store(t, 9)
	for _, c := range []struct {
		d          *block.Disk
		base, from int
	}{
		{nil, 0, 0}, {nil, 3, 5}, {nil, 0, api.MaxNum}, {nil, -1, -1},
		{d, -1, 0}, {d, -1, -1}, {d, math.MinInt, 5}, {d, math.MinInt, math.MinInt},
		{d, 1, 0}, {d, 5, 4}, {d, 5, -1}, {d, 5, math.MinInt}, {d, api.MaxNum, api.MaxNum - 1}, {d, math.MaxInt, 0},
		{d, 0, api.MaxNum + 1}, {d, 0, 1 << 32}, {d, 0, math.MaxInt},
		{d, api.MaxNum + 1, api.MaxNum + 1}, {d, api.MaxNum + 1, api.MaxNum}, {d, math.MaxInt, math.MaxInt},
	} {
		x, l, err := chain.Open(c.d, c.base, c.from)
		if x != nil || len(l) != 0 || err != wrong("from", c.from, api.ErrRange) {
			t.Errorf("base %d, from %d: %v, %v, %#v", c.base, c.from, x, l, err)
		}
	}
	for _, c := range [][2]int{{0, 0}, {0, 1}, {5, 5}, {0, api.MaxNum}, {api.MaxNum, api.MaxNum}} {
		x, l := open(t, d, c[0], c[1])
		links(t, l)
		ends(t, x, c[1], 1)
	}
	if d.Loose() != 0 || d.Used() != 0 {
		t.Errorf("%d loose, %d taken", d.Loose(), d.Used())
	}
}

// TestOpenFrom: 9.3, records are told from the block named on alone, each with its block.
func TestOpenFrom(t *testing.T) {
	d := store(t, 20)
	c, _ := open(t, d, 2, 2)
	add(t, c, 2, []byte{1})
	add(t, c, 3, row(5, 100))
	add(t, c, 6, []byte{2, 3})
	c.Sync()
	all := []api.Link{{At: 2, Bytes: []byte{1}}, {At: 3, Bytes: row(5, 100)}, {At: 6, Bytes: []byte{2, 3}}}
	for from, first := range map[int]int{2: 0, 3: 1, 6: 2, 7: 3, 8: 3} {
		x, l := open(t, d, 2, from)
		links(t, l, all[first:]...)
		ends(t, x, max(7, from), 6)
	}
	for _, from := range []int{0, 1, 4, 5} {
		x, l := open(t, d, 0, from)
		links(t, l)
		ends(t, x, from, 6)
	}
}

// TestOpenLast: 9.3, nothing goes on behind the last block of a store.
func TestOpenLast(t *testing.T) {
	d := store(t, 9)
	lay(t, d, api.MaxNum-1, made(3, 3, begins|47, row(1, 46)...), made(4, 4, 1, 47))
	c, l := open(t, d, 0, api.MaxNum-1)
	links(t, l, api.Link{At: api.MaxNum - 1, Bytes: row(1, 47)})
	ends(t, c, api.MaxNum+1, 5)
	d = store(t, 9)
	lay(t, d, api.MaxNum, made(3, 3, begins|47, row(1, 46)...))
	c, l = open(t, d, 0, api.MaxNum)
	links(t, l)
	ends(t, c, api.MaxNum, 4)
}

// TestOpenStamp: 9.3, the next stamp is above all stamps of synced blocks from base on, ahead and behind, in whichever block they stand.
func TestOpenStamp(t *testing.T) {
	for name, c := range map[string]struct {
		at            int
		ahead, behind uint64
		want          int
	}{
		"behind the records":  {20, 9, 9, 10},
		"ahead alone":         {20, 9, 0, 10},
		"behind alone":        {20, 0, 9, 10},
		"the higher of both":  {20, 9, 8, 10},
		"the higher, behind":  {20, 8, 9, 10},
		"lower ones":          {20, 1, 2, 4},
		"ahead of from":       {5, 9, 9, 10},
		"at base":             {4, 9, 9, 10},
		"ahead of base":       {3, 9, 9, 4},
		"the first block":     {0, 9, 9, 4},
		"the last block":      {api.MaxNum, 9, 9, 10},
		"2^60":                {20, top, 0, top + 1},
		"above 2^60":          {20, top + 1, top + 2, 4},
		"one is above 2^60":   {20, top + 1, 9, 10},
		"the other one is":    {20, 9, math.MaxUint64, 10},
		"behind, 2^60":        {20, 0, top, top + 1},
		"of two bytes":        {20, 0x1234, 0x1200, 0x1235},
		"of eight bytes":      {20, 0, 0x0123456789abcdef, 0x0123456789abcdf0},
		"of the highest byte": {20, 0x0100000000000000, 0, 0x0100000000000001},
	} {
		d := store(t, 9)
		lay(t, d, 6, whole(3, 7))
		lay(t, d, c.at, made(c.ahead, c.behind, 1))
		x, l := open(t, d, 4, 6)
		links(t, l, api.Link{At: 6, Bytes: []byte{7}})
		if ends(t, x, 7, c.want); t.Failed() {
			t.Fatal(name)
		}
	}
}

// TestOpenLoose: 9.3, records are read as they were written last, synced or not; of stamps beside theirs the synced ones alone count.
func TestOpenLoose(t *testing.T) {
	d := store(t, 9)
	c, _ := open(t, d, 1, 1)
	add(t, c, 1, []byte{1})
	add(t, c, 2, []byte{2})
	x, l := open(t, d, 1, 1)
	links(t, l, api.Link{At: 1, Bytes: []byte{1}}, api.Link{At: 2, Bytes: []byte{2}})
	ends(t, x, 3, 3)
	if err := d.Write(5, made(70, 70, 1)); err != nil {
		t.Fatal(err)
	}
	x, _ = open(t, d, 1, 1)
	ends(t, x, 3, 3)
	d.Sync()
	x, _ = open(t, d, 1, 1)
	ends(t, x, 3, 71)
	if err := d.Free(2); err != nil {
		t.Fatal(err)
	}
	if err := d.Free(5); err != nil {
		t.Fatal(err)
	}
	x, l = open(t, d, 1, 1)
	links(t, l, api.Link{At: 1, Bytes: []byte{1}})
	ends(t, x, 2, 71)
	d.Sync()
	x, l = open(t, d, 1, 1)
	links(t, l, api.Link{At: 1, Bytes: []byte{1}})
	ends(t, x, 2, 2)
}

// TestOpenKeeps: 9.3, opening changes nothing on the store.
func TestOpenKeeps(t *testing.T) {
	d := store(t, 9)
	lay(t, d, 1, whole(3, 7), made(4, 2, 9, 9), make([]byte, 64))
	if err := d.Write(6, nil); err != nil {
		t.Fatal(err)
	}
	open(t, d, 0, 1)
	if d.Loose() != 1 || d.Used() != 4 {
		t.Errorf("%d loose, %d taken", d.Loose(), d.Used())
	}
	cells(t, d, 1, whole(3, 7), made(4, 2, 9, 9), make([]byte, 64))
}

// TestOpenMemory: R3, what is told is nobody else's memory, and a block's own bytes have no room behind.
func TestOpenMemory(t *testing.T) {
	d := store(t, 20)
	c, _ := open(t, d, 0, 0)
	want := []api.Link{{At: 0, Bytes: row(1, 3)}, {At: 1, Bytes: row(2, 46)}, {At: 2, Bytes: row(3, 60)}, {At: 4, Bytes: row(4, 1)}}
	for _, r := range want {
		add(t, c, r.At, r.Bytes)
	}
	_, l := open(t, d, 0, 0)
	_, again := open(t, d, 0, 0)
	for i, r := range l {
		all := r.Bytes[:cap(r.Bytes)]
		if len(r.Bytes) <= 46 && len(all) != len(r.Bytes) {
			t.Errorf("%d bytes of a block, with room for %d", len(r.Bytes), len(all))
		}
		for j := range all {
			all[j] = 255
		}
		l[i].At = 9
		links(t, l[i+1:], want[i+1:]...)
	}
	links(t, again, want...)
	_, l = open(t, d, 0, 0)
	links(t, l, want...)
}
