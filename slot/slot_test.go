package slot_test

import (
	"bytes"
	"encoding/binary"
	"math"
	"testing"

	"castellan/api"
	"castellan/block"
	"castellan/slot"
)

// top is the highest turn.
const top = 1 << 60

// wrong is a fault as the chapter words it: of op, at so much, a code.
func wrong(op string, at int, c api.Code) error { return api.Fault{Op: op, At: at, Err: c} }

// store is a new one that has room for so many.
func store(t *testing.T, room int) *block.Disk {
	t.Helper()
	d, err := block.New(room)
	if err != nil {
		t.Fatal(err)
	}
	return d
}

// open is a slot that must open.
func open(t *testing.T, d *block.Disk, at int) *slot.Slot {
	t.Helper()
	s, err := slot.Open(d, at)
	if err != nil || s == nil {
		t.Fatalf("at %d: %v", at, err)
	}
	return s
}

// put puts a value that must be taken.
func put(t *testing.T, s *slot.Slot, value ...byte) {
	t.Helper()
	if err := s.Put(value); err != nil {
		t.Fatalf("%v: %v", value, err)
	}
}

// row is so many bytes, each of which is another one than those beside it.
func row(first byte, n int) []byte {
	b := make([]byte, n)
	for i := range b {
		b[i] = first + byte(i)
	}
	return b
}

// made is a block by 10.1's words: the turn, how long the value is, the value, the turn once more.
func made(ahead, behind uint64, long byte, value ...byte) []byte {
	b := binary.BigEndian.AppendUint64(nil, ahead)
	b = append(append(b, long), value...)
	b = append(b, make([]byte, 47-len(value))...)
	return binary.BigEndian.AppendUint64(b, behind)
}

// says is a block that says a value of a turn.
func says(turn uint64, value ...byte) []byte { return made(turn, turn, byte(len(value)), value...) }

// lay writes blocks, one behind the other, and syncs them; none is written where there is none.
func lay(t *testing.T, d *block.Disk, at int, blocks ...[]byte) {
	t.Helper()
	for i, b := range blocks {
		if b == nil {
			continue
		}
		if err := d.Write(at+i, b); err != nil {
			t.Fatal(err)
		}
	}
	d.Sync()
}

// has holds a value and its turn against what they should be.
func has(t *testing.T, s *slot.Slot, turn int, value ...byte) {
	t.Helper()
	if s.Turn() != turn || !bytes.Equal(s.Value(), value) {
		t.Errorf("turn %d, %v, not turn %d, %v", s.Turn(), s.Value(), turn, value)
	}
}

// reads holds blocks, one behind the other, against what they should be.
func reads(t *testing.T, d *block.Disk, at int, want ...[]byte) {
	t.Helper()
	for i, w := range want {
		if b, err := d.Read(at + i); err != nil || !bytes.Equal(b, w) {
			t.Errorf("block %d: %v, %v, not %v", at+i, b, err, w)
		}
	}
}

// counts holds how many blocks are taken, and how many writes are not synced, against what they should be.
func counts(t *testing.T, d *block.Disk, used, loose int) {
	t.Helper()
	if d.Used() != used || d.Loose() != loose {
		t.Errorf("%d taken, %d loose, not %d, %d", d.Used(), d.Loose(), used, loose)
	}
}

// nothing is a block that never was written.
var nothing = make([]byte, 64)

// TestExample: the chapter's example, and what stands in the blocks.
func TestExample(t *testing.T) {
	d := store(t, 2)
	s := open(t, d, 4)
	has(t, s, 0)
	put(t, s, 1, 2)
	has(t, s, 1, 1, 2)
	s.Sync()
	put(t, s, 4)
	has(t, s, 2, 4)
	d.Crash([]int{1}, 30)
	s = open(t, d, 4)
	has(t, s, 1, 1, 2)
	reads(t, d, 4, made(2, 0, 1, 4), says(1, 1, 2))
	put(t, s, 5)
	s.Sync()
	reads(t, d, 4, says(2, 5), says(1, 1, 2))
	has(t, open(t, d, 4), 2, 5)
}

// TestBytes: 10.1 and 10.3, byte by byte what a value of every length leaves, over blocks that were full: noughts stand behind it.
func TestBytes(t *testing.T) {
	if slot.Most != 47 {
		t.Errorf("%d", slot.Most)
	}
	for n := range 48 {
		d := store(t, 2)
		s := open(t, d, 7)
		var want [2][]byte
		for turn := 1; turn <= 6; turn++ {
			value := row(byte(turn), n)
			if turn <= 2 {
				value = bytes.Repeat([]byte{255}, 47)
			}
			put(t, s, value...)
			has(t, s, turn, value...)
			counts(t, d, min(turn, 2), 1)
			s.Sync()
			has(t, s, turn, value...)
			counts(t, d, min(turn, 2), 0)
			want[turn%2] = says(uint64(turn), value...)
			if turn > 1 {
				reads(t, d, 7, want[:]...)
			}
			has(t, open(t, d, 7), turn, value...)
		}
		if t.Failed() {
			t.Fatalf("%d bytes", n)
		}
	}
}

// TestBytesPlain: 10.1, a block written out as plain bytes: the first value stands in the second block, and each byte of its turn in its place.
func TestBytesPlain(t *testing.T) {
	d := store(t, 2)
	s := open(t, d, 0)
	put(t, s, 9, 8)
	want := make([]byte, 64)
	want[7], want[8], want[9], want[10], want[63] = 1, 2, 9, 8, 1
	reads(t, d, 0, nothing, want)
	lay(t, d, 0, nil, says(0x0102030405060707, 5))
	s = open(t, d, 0)
	has(t, s, 0x0102030405060707, 5)
	put(t, s, row(1, 47)...)
	b, err := d.Read(0)
	if err != nil || !bytes.Equal(b[:11], []byte{1, 2, 3, 4, 5, 6, 7, 8, 47, 1, 2}) || !bytes.Equal(b[54:], []byte{46, 47, 1, 2, 3, 4, 5, 6, 7, 8}) {
		t.Errorf("%v, %v", b, err)
	}
}

// found is blocks of a slot, and what is found there.
type found struct {
	first, second []byte
	turn          int
	value         []byte
}

// finds opens a slot on such blocks, synced or not.
func finds(t *testing.T, name string, c found) {
	t.Helper()
	for _, at := range []int{0, 6, api.MaxNum - 1} {
		d := store(t, 9)
		for i, b := range [][]byte{c.first, c.second} {
			if b == nil {
				continue
			}
			if err := d.Write(at+i, b); err != nil {
				t.Fatal(err)
			}
		}
		has(t, open(t, d, at), c.turn, c.value...)
		d.Sync()
		has(t, open(t, d, at), c.turn, c.value...)
		if t.Failed() {
			t.Fatalf("%s, at %d", name, at)
		}
	}
}

// TestSays: 10.1 and 10.2, one block alone: when it says something, and when nothing.
func TestSays(t *testing.T) {
	full, none := row(1, 47), []byte(nil)
	for name, c := range map[string]found{
		"never written":             {nil, nil, 0, none},
		"noughts":                   {nothing, nothing, 0, none},
		"turn 1":                    {nil, says(1, 7), 1, []byte{7}},
		"turn 2":                    {says(2, 7), nil, 2, []byte{7}},
		"an empty value":            {nil, says(1), 1, none},
		"the most bytes":            {says(2, full...), nil, 2, full},
		"one byte more":             {made(2, 2, 48, full...), nil, 0, none},
		"a length of 49":            {nil, made(1, 1, 49, full...), 0, none},
		"a length of 128":           {nil, made(1, 1, 128, full...), 0, none},
		"a length of 255":           {made(2, 2, 255, full...), nil, 0, none},
		"46 bytes":                  {made(2, 2, 46, full...), nil, 2, full[:46]},
		"bytes behind the value":    {made(2, 2, 2, full...), nil, 2, full[:2]},
		"bytes behind an empty one": {nil, made(3, 3, 0, full...), 3, none},
		"the turn behind is less":   {made(4, 2, 1, 7), nil, 0, none},
		"the turn behind is more":   {made(2, 4, 1, 7), nil, 0, none},
		"no turn behind":            {nil, made(1, 0, 1, 7), 0, none},
		"no turn ahead":             {nil, made(0, 1, 1, 7), 0, none},
		"2^60":                      {says(top, 7), nil, top, []byte{7}},
		"2^60 less one":             {nil, says(top-1, 7), top - 1, []byte{7}},
		"above 2^60":                {nil, says(top+1, 7), 0, none},
		"far above 2^60":            {nil, says(math.MaxUint64, 7), 0, none},
		"2^63 and one":              {nil, says(1<<63+1, 7), 0, none},
		"one above, ahead":          {made(top+2, 2, 1, 7), nil, 0, none},
		"one above, behind":         {made(2, top+2, 1, 7), nil, 0, none},
		"2^60 and one above":        {made(top, top+2, 1, 7), nil, 0, none},
		"of eight bytes":            {says(0x0123456789abcdee, 7), nil, 0x0123456789abcdee, []byte{7}},
		"a value that is a turn":    {says(2, 0, 0, 0, 0, 0, 0, 0, 4), nil, 2, []byte{0, 0, 0, 0, 0, 0, 0, 4}},
	} {
		finds(t, name, c)
	}
}

// TestSaysNought: 10.1, a turn above 2^60 is 0, so two of them are alike, however unlike they are; turn 0 stands in the first block, with what that says, and not in the second one.
func TestSaysNought(t *testing.T) {
	for _, turns := range [][2]uint64{{0, 0}, {0, top + 1}, {top + 1, 0}, {top + 1, top + 2}, {math.MaxUint64, 1 << 63}, {math.MaxUint64, math.MaxUint64}} {
		b := made(turns[0], turns[1], 3, 7, 8, 9)
		finds(t, "in the first", found{b, nil, 0, []byte{7, 8, 9}})
		finds(t, "in the second", found{nil, b, 0, nil})
		finds(t, "in both", found{b, b, 0, []byte{7, 8, 9}})
		finds(t, "of no length", found{made(turns[0], turns[1], 48, 7), nil, 0, nil})
		finds(t, "beside turn 1", found{b, says(1, 5), 1, []byte{5}})
		finds(t, "beside turn 2", found{says(2, 5), b, 2, []byte{5}})
	}
}

// TestSaysBits: 10.1, turns that are unlike in one bit alone are unlike, whichever it is.
func TestSaysBits(t *testing.T) {
	const turn = 0x0010203040506070
	for bit := range 64 {
		finds(t, "behind", found{made(turn, turn^1<<bit, 1, 9), nil, 0, nil})
		finds(t, "ahead", found{made(turn^1<<bit, turn, 1, 9), says(3, 5), 3, []byte{5}})
	}
}

// TestNewest: 10.2, of both blocks the one of the greater turn, of those that say something where their turn stands.
func TestNewest(t *testing.T) {
	for name, c := range map[string]found{
		"1 and 2":                       {says(2, 7), says(1, 8), 2, []byte{7}},
		"2 and 3":                       {says(2, 7), says(3, 8), 3, []byte{8}},
		"far apart":                     {says(2, 7), says(1<<40+1, 8), 1<<40 + 1, []byte{8}},
		"far apart, the first":          {says(1<<56, 7), says(255, 8), 1 << 56, []byte{7}},
		"255 and 256":                   {says(256, 7), says(255, 8), 256, []byte{7}},
		"256 and 257":                   {says(256, 7), says(257, 8), 257, []byte{8}},
		"the greater one is torn":       {made(4, 2, 1, 7), says(3, 8), 3, []byte{8}},
		"the greater one is too long":   {made(4, 4, 48, 7), says(3, 8), 3, []byte{8}},
		"the greater one is above":      {says(2, 7), says(top+1, 8), 2, []byte{7}},
		"the lesser one is torn":        {says(4, 7), made(5, 3, 1, 8), 4, []byte{7}},
		"both are torn":                 {made(4, 2, 1, 7), made(5, 3, 1, 8), 0, nil},
		"an odd turn in the first":      {says(3, 7), nil, 0, nil},
		"an even turn in the second":    {nil, says(2, 8), 0, nil},
		"both in the other's place":     {says(3, 7), says(2, 8), 0, nil},
		"the greater one, elsewhere":    {says(5, 7), says(3, 8), 3, []byte{8}},
		"the greater one, there":        {says(4, 7), says(6, 8), 4, []byte{7}},
		"the same turn, even":           {says(4, 7), says(4, 8), 4, []byte{7}},
		"the same turn, odd":            {says(5, 7), says(5, 8), 5, []byte{8}},
		"the lesser one, elsewhere":     {says(6, 7), says(4, 8), 6, []byte{7}},
		"an empty one, greater":         {says(6), says(5, 8), 6, nil},
		"2^60 and one less":             {says(top, 7), says(top-1, 8), top, []byte{7}},
		"2^60 and one more":             {says(top, 7), says(top+1, 8), top, []byte{7}},
		"turn 0 and an even turn":       {nothing, says(2, 8), 0, nil},
		"a value of 0, an even turn":    {made(0, 0, 1, 5), says(2, 8), 0, []byte{5}},
		"nothing, and one in place":     {nothing, says(1, 8), 1, []byte{8}},
		"one in place, and the noughts": {says(2, 7), nothing, 2, []byte{7}},
	} {
		finds(t, name, c)
	}
}

// TestOpenWrong: 10.2, what is wrong, and no slot beside it.
func TestOpenWrong(t *testing.T) {
	for _, at := range []int{0, 4, -1, math.MinInt, api.MaxNum, api.MaxNum + 1, 1 << 40} {
		if s, err := slot.Open(nil, at); s != nil || err != wrong("slot", at, api.ErrArg) {
			t.Errorf("at %d: %v, %#v", at, s, err)
		}
	}
	d := store(t, 2)
	for at, want := range map[int]api.Fault{
		-1:             {Op: "slot", At: 0, Err: wrong("block", -1, api.ErrRange)},
		-2:             {Op: "slot", At: 0, Err: wrong("block", -2, api.ErrRange)},
		math.MinInt:    {Op: "slot", At: 0, Err: wrong("block", math.MinInt, api.ErrRange)},
		api.MaxNum:     {Op: "slot", At: 1, Err: wrong("block", api.MaxNum+1, api.ErrRange)},
		api.MaxNum + 1: {Op: "slot", At: 0, Err: wrong("block", api.MaxNum+1, api.ErrRange)},
		1<<32 + 4:      {Op: "slot", At: 0, Err: wrong("block", 1<<32+4, api.ErrRange)},
		1 << 40:        {Op: "slot", At: 0, Err: wrong("block", 1<<40, api.ErrRange)},
	} {
		if s, err := slot.Open(d, at); s != nil || err != want {
			t.Errorf("at %d: %v, %#v", at, s, err)
		}
	}
	counts(t, d, 0, 0)
}

// TestOpenEdges: 10.2, the first and the last two blocks of a store are a slot.
func TestOpenEdges(t *testing.T) {
	for _, at := range []int{0, 1, api.MaxNum - 2, api.MaxNum - 1} {
		d := store(t, 2)
		s := open(t, d, at)
		has(t, s, 0)
		put(t, s, 1)
		s.Sync()
		put(t, s, 2)
		s.Sync()
		reads(t, d, at, says(2, 2), says(1, 1))
		has(t, open(t, d, at), 2, 2)
	}
}

// TestOpenKeeps: 10.2, opening changes nothing on the store.
func TestOpenKeeps(t *testing.T) {
	d := store(t, 9)
	lay(t, d, 3, made(4, 2, 1, 7), says(3, 8))
	if err := d.Write(4, says(5, 9)); err != nil {
		t.Fatal(err)
	}
	open(t, d, 3)
	counts(t, d, 2, 1)
	reads(t, d, 3, made(4, 2, 1, 7), says(5, 9))
}

// TestPutNext: 10.3, the next turn goes on from the one that was found, over whichever block it stands in, whatever that says.
func TestPutNext(t *testing.T) {
	for name, c := range map[string]struct{ first, second, written, left []byte }{
		"nothing":                  {nil, nil, says(1, 6), nothing},
		"turn 1":                   {nil, says(1, 7), says(2, 6), says(1, 7)},
		"turn 2":                   {says(2, 7), nil, says(3, 6), says(2, 7)},
		"turn 2 beside 1":          {says(2, 7), says(1, 8), says(3, 6), says(2, 7)},
		"turn 3 beside 2":          {says(2, 7), says(3, 8), says(4, 6), says(3, 8)},
		"turn 3 beside a torn 4":   {made(4, 2, 1, 7), says(3, 8), says(4, 6), says(3, 8)},
		"both are torn":            {made(4, 2, 1, 7), made(5, 3, 1, 8), says(1, 6), made(4, 2, 1, 7)},
		"255":                      {nil, says(255, 7), says(256, 6), says(255, 7)},
		"2^16 less one":            {nil, says(1<<16-1, 7), says(1<<16, 6), says(1<<16-1, 7)},
		"2^32":                     {says(1<<32, 7), nil, says(1<<32+1, 6), says(1<<32, 7)},
		"2^60 less one":            {nil, says(top-1, 7), says(top, 6), says(top-1, 7)},
		"turn 2, elsewhere":        {nil, says(2, 7), says(1, 6), nothing},
		"turn 4 beside an even 6":  {says(4, 7), says(6, 8), says(5, 6), says(4, 7)},
		"a greater one, elsewhere": {says(9, 7), says(3, 8), says(4, 6), says(3, 8)},
	} {
		d := store(t, 2)
		lay(t, d, 5, c.first, c.second)
		s := open(t, d, 5)
		turn := s.Turn() + 1
		put(t, s, 6)
		has(t, s, turn, 6)
		want := [2][]byte{c.left, c.left}
		want[turn%2] = c.written
		reads(t, d, 5, want[:]...)
		s.Sync()
		if has(t, open(t, d, 5), turn, 6); t.Failed() {
			t.Fatal(name)
		}
	}
}

// TestPutWrong: 10.3, what is wrong, the first that is named where several are; and all is as it was.
func TestPutWrong(t *testing.T) {
	d := store(t, 1)
	s := open(t, d, 4)
	same := func(turn, used, loose int, value ...byte) {
		t.Helper()
		has(t, s, turn, value...)
		counts(t, d, used, loose)
	}
	fails := func(value []byte, want error) {
		t.Helper()
		if err := s.Put(value); err != want {
			t.Errorf("%d bytes: %#v, not %#v", len(value), err, want)
		}
	}
	fails(row(1, 48), wrong("value", 48, api.ErrLimit))
	fails(row(1, 256), wrong("value", 256, api.ErrLimit))
	fails(row(1, 1<<16), wrong("value", 1<<16, api.ErrLimit))
	same(0, 0, 0)
	put(t, s, 1, 2)
	fails([]byte{3}, wrong("turn", 1, api.ErrState))
	fails(nil, wrong("turn", 1, api.ErrState))
	fails(row(1, 47), wrong("turn", 1, api.ErrState))
	fails(row(1, 48), wrong("value", 48, api.ErrLimit))
	same(1, 1, 1, 1, 2)
	s.Sync()
	full := api.Fault{Op: "turn", At: 2, Err: wrong("block", 4, api.ErrFull)}
	fails([]byte{3}, full)
	fails(nil, full)
	fails(row(1, 48), wrong("value", 48, api.ErrLimit))
	same(1, 1, 0, 1, 2)
	reads(t, d, 4, nothing, says(1, 1, 2))
	s = open(t, d, 4)
	fails([]byte{3}, full)
	same(1, 1, 0, 1, 2)
}

// TestPutNoRoom: 10.3, a store without any room, and one whose room others took and give back.
func TestPutNoRoom(t *testing.T) {
	s := open(t, store(t, 0), 8)
	if err := s.Put(nil); err != (api.Fault{Op: "turn", At: 1, Err: wrong("block", 9, api.ErrFull)}) {
		t.Errorf("%#v", err)
	}
	has(t, s, 0)
	d := store(t, 2)
	lay(t, d, 20, []byte{1})
	s = open(t, d, 8)
	put(t, s, 5)
	s.Sync()
	if err := s.Put([]byte{6}); err != (api.Fault{Op: "turn", At: 2, Err: wrong("block", 8, api.ErrFull)}) {
		t.Errorf("%#v", err)
	}
	if err := d.Free(20); err != nil {
		t.Fatal(err)
	}
	d.Sync()
	put(t, s, 6)
	has(t, s, 2, 6)
	s.Sync()
	put(t, s, 7)
	s.Sync()
	has(t, open(t, d, 8), 3, 7)
}

// TestPutRefused: 10.3, behind a put that was refused the next one is taken, with the turn that was not used.
func TestPutRefused(t *testing.T) {
	d := store(t, 2)
	s := open(t, d, 1)
	if err := s.Put(row(1, 48)); err == nil {
		t.Error("48 bytes")
	}
	put(t, s, 1)
	if err := s.Put([]byte{2}); err == nil {
		t.Error("one is not synced")
	}
	s.Sync()
	put(t, s, 3)
	s.Sync()
	reads(t, d, 1, says(2, 3), says(1, 1))
}

// TestSync: 10.4, the store is synced, with all that others wrote, and a sync of nothing changes nothing.
func TestSync(t *testing.T) {
	d := store(t, 9)
	s := open(t, d, 2)
	if err := d.Write(7, []byte{9}); err != nil {
		t.Fatal(err)
	}
	put(t, s, 1)
	counts(t, d, 2, 2)
	s.Sync()
	counts(t, d, 2, 0)
	if l := d.Cells(); len(l) != 2 || l[0].At != 3 || l[1].At != 7 {
		t.Errorf("%v", l)
	}
	s.Sync()
	has(t, s, 1, 1)
	d.Crash(nil, 0)
	has(t, open(t, d, 2), 1, 1)
}

// TestSyncedByOthers: 10.3, one that was put is synced, whoever synced the store.
func TestSyncedByOthers(t *testing.T) {
	d := store(t, 9)
	s, x := open(t, d, 2), open(t, d, 4)
	put(t, s, 1)
	put(t, x, 5)
	x.Sync()
	put(t, s, 2)
	put(t, x, 6)
	d.Sync()
	if err := d.Write(8, []byte{9}); err != nil {
		t.Fatal(err)
	}
	put(t, s, 3)
	if err := s.Put([]byte{4}); err != wrong("turn", 3, api.ErrState) {
		t.Errorf("%#v", err)
	}
	d.Crash(nil, 0)
	has(t, open(t, d, 2), 2, 2)
	has(t, open(t, d, 4), 2, 6)
}

// TestOthersWrites: 10.3, what others wrote, and is not synced, is no value that was put.
func TestOthersWrites(t *testing.T) {
	d := store(t, 9)
	s := open(t, d, 2)
	put(t, s, 1)
	s.Sync()
	for _, at := range []int{1, 4, 8} {
		if err := d.Write(at, says(9, 9)); err != nil {
			t.Fatal(err)
		}
	}
	put(t, open(t, d, 2), 2)
	d.Crash([]int{0, 0, 0, 1}, 64)
	s = open(t, d, 2)
	has(t, s, 2, 2)
	if err := d.Write(8, says(9, 9)); err != nil {
		t.Fatal(err)
	}
	put(t, s, 3)
	if err := s.Put([]byte{4}); err != wrong("turn", 3, api.ErrState) {
		t.Errorf("%#v", err)
	}
}

// refused puts values that must not be taken, for one that was put is not synced; and all is as it was.
func refused(t *testing.T, d *block.Disk, s *slot.Slot) {
	t.Helper()
	turn, value, used, loose := s.Turn(), s.Value(), d.Used(), d.Loose()
	for _, n := range []int{0, 1, 47} {
		if err := s.Put(row(9, n)); err != wrong("turn", turn, api.ErrState) {
			t.Errorf("%d bytes: %#v", n, err)
		}
	}
	if err := s.Put(row(9, 48)); err != wrong("value", 48, api.ErrLimit) {
		t.Errorf("%#v", err)
	}
	has(t, s, turn, value...)
	counts(t, d, used, loose)
}

// TestPutOpenPut: 10.3, one that was put is not synced when the slot is opened again, be there an elder one that is synced or not; behind whosever sync the next one is taken.
func TestPutOpenPut(t *testing.T) {
	for elder := range 4 {
		for name, sync := range map[string]func(s, x *slot.Slot, d *block.Disk){
			"its own":     func(s, x *slot.Slot, d *block.Disk) { s.Sync() },
			"another's":   func(s, x *slot.Slot, d *block.Disk) { x.Sync() },
			"the store's": func(s, x *slot.Slot, d *block.Disk) { d.Sync() },
		} {
			d := store(t, 2)
			x := open(t, d, 4)
			for n := range elder {
				put(t, x, byte(n))
				x.Sync()
			}
			put(t, x, 7, 8)
			turn := elder + 1
			s := open(t, d, 4)
			for _, each := range []*slot.Slot{s, open(t, d, 4), x, s} {
				has(t, each, turn, 7, 8)
				refused(t, d, each)
			}
			reads(t, d, 4+turn%2, says(uint64(turn), 7, 8))
			sync(s, x, d)
			put(t, s, 6)
			has(t, s, turn+1, 6)
			reads(t, d, 4+turn%2, says(uint64(turn), 7, 8))
			reads(t, d, 4+(turn+1)%2, says(uint64(turn+1), 6))
			if refused(t, d, open(t, d, 4)); t.Failed() {
				t.Fatalf("%d elder ones, %s sync", elder, name)
			}
		}
	}
}

// TestPutCrashOpenPut: 10.3, behind a crash, or a wipe, nothing is left that is not synced: the next one is taken.
func TestPutCrashOpenPut(t *testing.T) {
	for elder := range 4 {
		for name, c := range map[string]struct {
			fall func(d *block.Disk)
			turn int
		}{
			"lost": {func(d *block.Disk) { d.Crash(nil, 0) }, elder},
			"torn": {func(d *block.Disk) { d.Crash([]int{1}, 30) }, elder},
			"kept": {func(d *block.Disk) { d.Crash([]int{1}, 64) }, elder + 1},
			"wipe": {(*block.Disk).Wipe, 0},
		} {
			d := store(t, 2)
			s := open(t, d, 4)
			for n := range elder {
				put(t, s, byte(n))
				s.Sync()
			}
			put(t, s, 7)
			refused(t, d, open(t, d, 4))
			c.fall(d)
			s = open(t, d, 4)
			put(t, s, 6)
			if has(t, s, c.turn+1, 6); t.Failed() {
				t.Fatalf("%d elder ones, %s", elder, name)
			}
		}
	}
}

// TestFoundLoose: 10.3, a value that stands there, and is not synced, was put, whoever wrote its block, and whatever is beneath it; turn 0 never was.
func TestFoundLoose(t *testing.T) {
	for turn := range 5 {
		for _, beneath := range [][]byte{nil, made(9, 7, 1, 3), says(uint64(turn), 3), says(uint64(turn+1), 3)} {
			d := store(t, 2)
			lay(t, d, 5+turn%2, beneath)
			if err := d.Write(5+turn%2, says(uint64(turn), 7)); err != nil {
				t.Fatal(err)
			}
			s := open(t, d, 5)
			has(t, s, turn, 7)
			if turn > 0 {
				refused(t, d, s)
				s.Sync()
			}
			put(t, s, 8)
			has(t, s, turn+1, 8)
			refused(t, d, s)
			s.Sync()
			put(t, s, 9)
			has(t, open(t, d, 5), turn+2, 9)
		}
	}
}

// TestFoundElsewhere: 10.3, a value is not synced by a block that says the same where it does not stand.
func TestFoundElsewhere(t *testing.T) {
	for turn := 1; turn < 5; turn++ {
		d := store(t, 2)
		lay(t, d, 5+(turn+1)%2, says(uint64(turn), 7))
		if err := d.Write(5+turn%2, says(uint64(turn), 7)); err != nil {
			t.Fatal(err)
		}
		s := open(t, d, 5)
		has(t, s, turn, 7)
		refused(t, d, s)
		d.Sync()
		put(t, s, 8)
		has(t, s, turn+1, 8)
	}
}

// TestSyncedBefore: 10.3, one that was synced is so, though others were put behind it by another slot, and synced.
func TestSyncedBefore(t *testing.T) {
	for others := range 4 {
		d := store(t, 2)
		s := open(t, d, 4)
		put(t, s, 1)
		d.Sync()
		x := open(t, d, 4)
		for n := range others {
			put(t, x, byte(n))
			refused(t, d, s)
			d.Sync()
		}
		put(t, s, 9)
		has(t, s, 2, 9)
	}
}

// TestFoundFirm: 10.3, a value that is synced is no less so for what is written, or freed, beside it, and says no value.
func TestFoundFirm(t *testing.T) {
	for name, spoil := range map[string]func(d *block.Disk) error{
		"torn":      func(d *block.Disk) error { return d.Write(4, made(4, 2, 1, 7)) },
		"too long":  func(d *block.Disk) error { return d.Write(4, made(4, 4, 48, 7)) },
		"elsewhere": func(d *block.Disk) error { return d.Write(4, says(5, 7)) },
		"noughts":   func(d *block.Disk) error { return d.Write(4, nil) },
		"an elder":  func(d *block.Disk) error { return d.Write(4, says(2, 6)) },
		"free":      func(d *block.Disk) error { return d.Free(4) },
	} {
		for _, behind := range []bool{false, true} {
			d := store(t, 2)
			lay(t, d, 4, says(2, 7), says(3, 8))
			s := open(t, d, 4)
			if err := spoil(d); err != nil {
				t.Fatal(err)
			}
			if behind {
				s = open(t, d, 4)
			}
			has(t, s, 3, 8)
			put(t, s, 9)
			has(t, s, 4, 9)
			if refused(t, d, open(t, d, 4)); t.Failed() {
				t.Fatal(name)
			}
		}
	}
}

// TestFoundUneven: 10.1 and 10.3, a value that is synced is so, though no noughts stand behind it.
func TestFoundUneven(t *testing.T) {
	d := store(t, 2)
	b := made(1, 1, 2, row(1, 47)...)
	if err := d.Write(5, b); err != nil {
		t.Fatal(err)
	}
	s := open(t, d, 4)
	has(t, s, 1, 1, 2)
	refused(t, d, s)
	d.Sync()
	put(t, s, 3)
	d.Crash(nil, 0)
	s = open(t, d, 4)
	has(t, s, 1, 1, 2)
	put(t, s, 4)
	reads(t, d, 4, says(2, 4), b)
}

// TestPutBeside: 10.3, what was put by another slot in the same blocks, and is not synced, refuses the next one, too, with nothing written over it: a crash leaves that one, or the one that was synced.
func TestPutBeside(t *testing.T) {
	for elder := range 4 {
		for cut := range 65 {
			d := store(t, 2)
			s := open(t, d, 4)
			var old []byte
			for n := range elder {
				old = []byte{byte(n), 1}
				put(t, s, old...)
				s.Sync()
			}
			x := open(t, d, 4)
			put(t, x, 7, 8, 9)
			refused(t, d, s)
			has(t, s, elder, old...)
			d.Crash([]int{1, 1, 1, 1}, cut)
			if s = open(t, d, 4); s.Turn() > elder {
				has(t, s, elder+1, 7, 8, 9)
			} else if has(t, s, elder, old...); cut == 64 {
				t.Error("lost")
			}
			put(t, s, 5)
		}
	}
}

// TestPutTop: 10.3, behind the highest turn there are others to be written, though none of them is found again.
func TestPutTop(t *testing.T) {
	d := store(t, 2)
	lay(t, d, 5, says(top, 7))
	s := open(t, d, 5)
	put(t, s, 8)
	has(t, s, top+1, 8)
	if err := s.Put(nil); err != wrong("turn", top+1, api.ErrState) {
		t.Errorf("%#v", err)
	}
	s.Sync()
	reads(t, d, 5, says(top, 7), says(top+1, 8))
	has(t, open(t, d, 5), top, 7)
	put(t, s, 9)
	has(t, s, top+2, 9)
	refused(t, d, s)
	d.Sync()
	put(t, s, 10)
	has(t, s, top+3, 10)
}

// TestBeside: 10.1, slots side by side leave each other alone.
func TestBeside(t *testing.T) {
	d := store(t, 6)
	var all []*slot.Slot
	for i := range 3 {
		all = append(all, open(t, d, 10+2*i))
	}
	for turn := range 5 {
		for i, s := range all {
			put(t, s, byte(i), byte(turn))
			s.Sync()
		}
	}
	for i := range all {
		reads(t, d, 10+2*i, says(4, byte(i), 3), says(5, byte(i), 4))
		has(t, open(t, d, 10+2*i), 5, byte(i), 4)
	}
	counts(t, d, 6, 0)
}

// TestMemory: R3, what is put is neither kept nor changed, nor what is behind it read; what is told is nobody else's.
func TestMemory(t *testing.T) {
	d := store(t, 2)
	s := open(t, d, 0)
	room := []byte{1, 2, 3, 4}
	put(t, s, room[:2]...)
	if !bytes.Equal(room, []byte{1, 2, 3, 4}) {
		t.Errorf("%v", room)
	}
	reads(t, d, 0, nothing, says(1, 1, 2))
	if err := s.Put(room[:2]); err == nil {
		t.Error("one is not synced")
	}
	s.Sync()
	if err := s.Put(room[1:3]); err != nil {
		t.Fatal(err)
	}
	room[1], room[2] = 77, 78
	has(t, s, 2, 2, 3)
	for range 2 {
		v, w := s.Value(), s.Value()
		for _, b := range [][]byte{v[:cap(v)], w[:cap(w)]} {
			for i := range b {
				b[i] += 100
			}
		}
		if v[0] != 102 || w[0] != 102 {
			t.Errorf("%v, %v", v, w)
		}
		has(t, s, 2, 2, 3)
		s = open(t, d, 0)
	}
	reads(t, d, 0, says(2, 2, 3), says(1, 1, 2))
}
