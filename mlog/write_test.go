package mlog_test

import (
	"bytes"
	"math"
	"slices"
	"strings"
	"testing"

	"castellan/api"
	"castellan/batch"
	"castellan/block"
	"castellan/mlog"
)

// TestAppend: 11.5, batches of any size stand one behind the other; none is synced.
func TestAppend(t *testing.T) {
	d := store(t, 2000)
	l := open(t, d)
	var all []api.Batch
	next := 16
	for i, many := range []int{0, 1, 2, 9, 0, 64, 0, 30} {
		b := wide(1, i, many)
		if many == 0 {
			b = batch.Of(1, i, part())
		}
		add(t, l, b)
		all = append(all, b)
		next += (len(bytesOf(t, b)) + 45) / 46
		has(t, l, 0, 0, all...)
		counts(t, d, next-16, next-16)
		stands(t, d, 16, next, all...)
	}
	d.Crash(nil, 0)
	has(t, open(t, d), 0, 0)
}

// TestAppendTerms: 11.5, terms may stay, and rise, up to the highest one.
func TestAppendTerms(t *testing.T) {
	l := open(t, store(t, 99))
	var all []api.Batch
	for i, term := range []int{1, 1, 2, 2, 9, 9, 10, api.MaxNum, api.MaxNum} {
		add(t, l, one(term, i))
		all = append(all, one(term, i))
		has(t, l, 0, 0, all...)
	}
}

// refused holds an append against the error that it should answer, and what is there behind it against what was.
func refused(t *testing.T, d *block.Disk, l *mlog.Log, b api.Batch, want error) {
	t.Helper()
	base, term, used, loose := l.Base(), l.BaseTerm(), d.Used(), d.Loose()
	all, err := l.Read(base, math.MaxInt)
	if err != nil {
		t.Fatal(err)
	}
	if err := l.Append(b); err != wrong("append", l.End(), want) {
		t.Errorf("%d in term %d: %#v, not %#v", b.Base, b.Term, err, want)
	}
	has(t, l, base, term, all...)
	counts(t, d, used, loose)
}

// TestAppendWrong: 11.5, what is wrong, and which of several: what may not be at all, then the base, then the term.
func TestAppendWrong(t *testing.T) {
	d, l, _ := numbered(t)
	noop := api.Record{Kind: api.RNoop}
	bad := api.Record{Kind: api.RNoop, Part: 1}
	for _, c := range []struct {
		b   api.Batch
		err error
	}{
		{api.Batch{}, wrong("term", 0, api.ErrRange)},
		{one(0, 13), wrong("term", 0, api.ErrRange)},
		{one(api.MaxNum+1, 13), wrong("term", api.MaxNum+1, api.ErrRange)},
		{one(8, -1), wrong("base", -1, api.ErrRange)},
		{one(8, api.MaxNum+1), wrong("base", api.MaxNum+1, api.ErrRange)},
		{batch.Of(8, 13), wrong("records", 0, api.ErrLimit)},
		{batch.Of(1, 5), wrong("records", 0, api.ErrLimit)},
		{batch.Of(8, 13, slices.Repeat([]api.Record{noop}, 65)...), wrong("records", 65, api.ErrLimit)},
		{batch.Of(8, 13, noop, bad), wrong("record", 1, wrong("part", 1, api.ErrRange))},
		{batch.Of(1, 5, bad), wrong("record", 0, wrong("part", 1, api.ErrRange))},
		{one(8, 12), wrong("base", 12, api.ErrState)},
		{one(8, 14), wrong("base", 14, api.ErrState)},
		{one(8, 7), wrong("base", 7, api.ErrState)},
		{one(8, 0), wrong("base", 0, api.ErrState)},
		{one(8, api.MaxNum), wrong("base", api.MaxNum, api.ErrState)},
		{one(7, 12), wrong("base", 12, api.ErrState)},
		{one(7, 13), wrong("term", 7, api.ErrEpoch)},
		{one(1, 13), wrong("term", 1, api.ErrEpoch)},
	} {
		refused(t, d, l, c.b, c.err)
	}
	add(t, l, one(8, 13))
}

// TestAppendFirst: 11.5, the first batch is held against the base, and the term of what is ahead of it.
func TestAppendFirst(t *testing.T) {
	d := store(t, 9)
	lay(t, d, 1, value(16, 5, 3))
	l := open(t, d)
	refused(t, d, l, one(3, 0), wrong("base", 0, api.ErrState))
	refused(t, d, l, one(3, 4), wrong("base", 4, api.ErrState))
	refused(t, d, l, one(3, 6), wrong("base", 6, api.ErrState))
	refused(t, d, l, one(2, 5), wrong("term", 2, api.ErrEpoch))
	add(t, l, one(3, 5))
	has(t, l, 5, 3, one(3, 5))
}

// TestAppendLast: 11.5, the highest offset has a batch; behind it none can be.
func TestAppendLast(t *testing.T) {
	d := store(t, 9)
	lay(t, d, 1, value(16, api.MaxNum, 3))
	l := open(t, d)
	add(t, l, one(3, api.MaxNum))
	has(t, l, api.MaxNum, 3, one(3, api.MaxNum))
	refused(t, d, l, one(3, api.MaxNum+1), wrong("base", api.MaxNum+1, api.ErrRange))
	refused(t, d, l, one(3, api.MaxNum), wrong("base", api.MaxNum, api.ErrState))
	has(t, open(t, d), api.MaxNum, 3, one(3, api.MaxNum))
	if err := l.Truncate(api.MaxNum + 1); err != nil {
		t.Error(err)
	}
	if err := l.Trim(api.MaxNum+1, 3); err != wrong("trim", api.MaxNum+1, api.ErrRange) {
		t.Errorf("%#v", err)
	}
}

// greatest is a batch of 16383 bytes, and so many more, up to 3.
func greatest(more int) api.Batch {
	b := wide(1, 0, 63)
	for i := range b.Records {
		b.Records[i].Topic = 0
		b.Records[i].Value = strings.Repeat("v", 253)
	}
	b.Records[0].Value += strings.Repeat("w", more)
	return b
}

// TestAppendGreatest: 11.5, a batch of 2^14 bytes, and one of a byte more.
func TestAppendGreatest(t *testing.T) {
	d := store(t, 400)
	l := open(t, d)
	refused(t, d, l, greatest(2), wrong("batch", 16385, api.ErrLimit))
	b := greatest(1)
	if n := len(bytesOf(t, b)); n != 16384 {
		t.Fatal(n)
	}
	add(t, l, b)
	counts(t, d, 357, 357)
	has(t, open(t, d), 0, 0, b)
}

// TestAppendFull: 11.5, without room for all its blocks a batch is refused, and smaller ones are taken behind that.
func TestAppendFull(t *testing.T) {
	d := store(t, 7)
	l := open(t, d)
	add(t, l, one(1, 0))
	refused(t, d, l, wide(1, 1, 9), wrong("append", 17, api.ErrFull))
	refused(t, d, l, wide(1, 2, 9), wrong("base", 2, api.ErrState))
	add(t, l, wide(1, 1, 1))
	refused(t, d, l, wide(1, 2, 1), wrong("append", 22, api.ErrFull))
	add(t, l, one(1, 2))
	refused(t, d, l, one(1, 3), wrong("append", 23, api.ErrFull))
	l.Sync()
	refused(t, d, l, one(1, 3), wrong("append", 23, api.ErrFull))
	d.Crash(nil, 0)
	has(t, open(t, d), 0, 0, one(1, 0), wide(1, 1, 1), one(1, 2))
}

// TestAppendFullNone: 11.5, a store without any room.
func TestAppendFullNone(t *testing.T) {
	d := store(t, 0)
	l := open(t, d)
	refused(t, d, l, one(1, 0), wrong("append", 16, api.ErrFull))
	l.Sync()
	has(t, open(t, d), 0, 0)
}

// TestAppendMemory: 11.5 and R3, a batch that is handed in is neither changed nor kept, and what is behind its records' length is not written to.
func TestAppendMemory(t *testing.T) {
	d := store(t, 99)
	l := open(t, d)
	all := make([]api.Batch, 1, 2)
	records := append(make([]api.Record, 0, 4), part(), part())
	records[:3][2] = api.Record{Kind: api.RLeave, Broker: 9}
	all[0] = api.Batch{Term: 1, Records: records}
	want := batch.Copy(all[0])
	add(t, l, all[0])
	if !batch.Same(all[0], want) || records[:3][2].Broker != 9 {
		t.Errorf("%v", records[:3])
	}
	spoil(all)
	has(t, l, 0, 0, want)
	has(t, open(t, d), 0, 0, want)
}

// TestSync: 11.6, all that was appended is firm.
func TestSync(t *testing.T) {
	d, l, all := numbered(t)
	l.Sync()
	counts(t, d, d.Used(), 0)
	d.Crash(nil, 0)
	l = open(t, d)
	has(t, l, 7, 4, all...)
	add(t, l, one(8, 13))
	d.Crash(nil, 0)
	has(t, open(t, d), 7, 4, all...)
	d.Write(1000, []byte{1})
	l.Sync()
	counts(t, d, d.Used(), 0)
}

// TestTruncate: 11.7, from every offset on, synced or not, all batches are gone, which is firm; others go on there.
func TestTruncate(t *testing.T) {
	for i := range 6 {
		for _, synced := range []bool{false, true} {
			d, l, all := numbered(t)
			if synced {
				l.Sync()
			}
			if err := l.Truncate(7 + i); err != nil {
				t.Fatal(err)
			}
			counts(t, d, d.Used(), 0)
			has(t, l, 7, 4, all[:i]...)
			next := 20
			for _, b := range all[:i] {
				next += (len(bytesOf(t, b)) + 45) / 46
			}
			counts(t, d, 1+next-20+1, 0)
			stands(t, d, 20, next+1, all[:i]...)
			head(t, d, 1, value(20, 7, 4))
			d.Crash(nil, 0)
			has(t, open(t, d), 7, 4, all[:i]...)
			more := append(all[:i:i], wide(9, 7+i, 4), one(9, 8+i))
			add(t, l, more[i:]...)
			has(t, l, 7, 4, more...)
			l.Sync()
			has(t, open(t, d), 7, 4, more...)
		}
	}
}

// TestTruncateTerm: 11.7 and 11.5, behind a truncation the last term is that of what is left.
func TestTruncateTerm(t *testing.T) {
	d, l, all := numbered(t)
	if err := l.Truncate(9); err != nil {
		t.Fatal(err)
	}
	refused(t, d, l, one(3, 9), wrong("term", 3, api.ErrEpoch))
	add(t, l, one(4, 9))
	has(t, l, 7, 4, all[0], all[1], one(4, 9))
	if err := l.Truncate(7); err != nil {
		t.Fatal(err)
	}
	refused(t, d, l, one(3, 7), wrong("term", 3, api.ErrEpoch))
	add(t, l, one(4, 7))
	has(t, l, 7, 4, one(4, 7))
}

// TestTruncateEnd: 11.7, at the end nothing is done, and nothing synced.
func TestTruncateEnd(t *testing.T) {
	d, l, all := numbered(t)
	used, loose := d.Used(), d.Loose()
	if err := l.Truncate(13); err != nil {
		t.Fatal(err)
	}
	counts(t, d, used, loose)
	has(t, l, 7, 4, all...)
	d = store(t, 0)
	l = open(t, d)
	if err := l.Truncate(0); err != nil {
		t.Fatal(err)
	}
	has(t, l, 0, 0)
	counts(t, d, 0, 0)
}

// TestTruncateWrong: 11.7, offsets without.
func TestTruncateWrong(t *testing.T) {
	d, l, all := numbered(t)
	used, loose := d.Used(), d.Loose()
	for _, offset := range []int{6, 14, 0, -1, 15, api.MaxNum, math.MaxInt, math.MinInt} {
		if err := l.Truncate(offset); err != wrong("truncate", offset, api.ErrRange) {
			t.Errorf("%d: %#v", offset, err)
		}
	}
	counts(t, d, used, loose)
	has(t, l, 7, 4, all...)
}

// TestTruncateFull: 11.7, on a full store there is room for the mark, and for others then.
func TestTruncateFull(t *testing.T) {
	d := store(t, 7)
	l := open(t, d)
	add(t, l, one(1, 0), wide(1, 1, 1), one(1, 2))
	if err := l.Truncate(1); err != nil {
		t.Fatal(err)
	}
	counts(t, d, 2, 0)
	add(t, l, wide(2, 1, 1))
	has(t, l, 0, 0, one(1, 0), wide(2, 1, 1))
}

// lost is a log of two batches that a crash took from under it, on a store that others have filled since.
func lost(t *testing.T) (*block.Disk, *mlog.Log) {
	t.Helper()
	d := store(t, 2)
	l := open(t, d)
	add(t, l, one(1, 0), one(1, 1))
	d.Crash(nil, 0)
	for at := range 2 {
		if err := d.Write(at, nil); err != nil {
			t.Fatal(err)
		}
	}
	return d, l
}

// TestTruncateLost: 11.7 and 11.8, what is wrong with a cut is told, and the log is as it was.
func TestTruncateLost(t *testing.T) {
	d, l := lost(t)
	full := func(at int) error { return wrong("cut", at, wrong("block", at, api.ErrFull)) }
	for i := range 2 {
		if err := l.Truncate(i); err != wrong("truncate", i, full(16+i)) {
			t.Errorf("%#v", err)
		}
	}
	has(t, l, 0, 0, one(1, 0), one(1, 1))
	counts(t, d, 2, 2)
	if err := l.Trim(9, 4); err != wrong("trim", 9, wrong("truncate", 0, full(16))) {
		t.Errorf("%#v", err)
	}
}

// trimmed is what 11.8 says of a log of the base 7, behind the term 4, from block 20 on: from which of its batches on it is there, and where records begin; all are gone, and they are cut, if the term is another one.
func trimmed(t *testing.T, all []api.Batch, offset, term int) (rest []api.Batch, start int) {
	t.Helper()
	start = 20
	for i, b := range all {
		n := (len(bytesOf(t, b)) + 45) / 46
		if b.Base == offset-1 && b.Term == term {
			return all[i+1:], start + n
		}
		start += n
	}
	return nil, 21
}

// TestTrim: 11.8, up to every offset, within and beyond, with the term ahead of it and with others, synced or not; all is firm.
func TestTrim(t *testing.T) {
	for _, offset := range []int{8, 9, 10, 11, 12, 13, 14, 15, 16384, api.MaxNum} {
		for _, term := range []int{0, 1, 3, 4, 5, 6, 7, 8, 9, api.MaxNum} {
			for _, synced := range []bool{false, true} {
				d, l, all := numbered(t)
				if synced {
					l.Sync()
				}
				rest, start := trimmed(t, all, offset, term)
				if err := l.Trim(offset, term); err != nil {
					t.Fatalf("%d, %d: %v", offset, term, err)
				}
				has(t, l, offset, term, rest...)
				head(t, d, 2, value(start, offset, term))
				next := start
				for _, b := range rest {
					next += (len(bytesOf(t, b)) + 45) / 46
				}
				stands(t, d, start, next, rest...)
				counts(t, d, 2+next-start, 0)
				d.Crash(nil, 0)
				x := open(t, d)
				has(t, x, offset, term, rest...)
				more := one(max(x.LastTerm(), 1), x.End())
				if more.Base <= api.MaxNum {
					add(t, l, more)
					rest = append(rest[:len(rest):len(rest)], more)
					has(t, l, offset, term, rest...)
					has(t, open(t, d), offset, term, rest...)
				}
				if t.Failed() {
					t.Fatalf("up to %d, behind term %d", offset, term)
				}
			}
		}
	}
}

// TestTrimTerms: 11.8 and 11.3, the term at each offset of what is left.
func TestTrimTerms(t *testing.T) {
	_, l, _ := numbered(t)
	if err := l.Trim(10, 6); err != nil {
		t.Fatal(err)
	}
	for i, want := range []int{6, 6, 8, 8} {
		if term, ok := l.TermAt(10 + i); term != want || !ok {
			t.Errorf("%d: %d, %v", 10+i, term, ok)
		}
	}
	for _, offset := range []int{7, 8, 9, 14} {
		if term, ok := l.TermAt(offset); term != 0 || ok {
			t.Errorf("%d: %d, %v", offset, term, ok)
		}
		if _, err := l.Read(offset, 1); err != wrong("read", offset, api.ErrRange) {
			t.Errorf("%#v", err)
		}
		if err := l.Truncate(offset); err != wrong("truncate", offset, api.ErrRange) {
			t.Errorf("%#v", err)
		}
	}
}

// TestTrimAgain: 11.8, one trim behind the other, with batches between, and truncations: the blocks are freed from where records began.
func TestTrimAgain(t *testing.T) {
	d := store(t, 99)
	l := open(t, d)
	turn := 0
	for i := range 30 {
		add(t, l, wide(1+i, 3*i, 1), one(1+i, 3*i+1), one(1+i, 3*i+2), one(1+i, 3*i+3))
		if err := l.Truncate(3*i + 3); err != nil {
			t.Fatal(err)
		}
		if i > 0 && i%3 == 0 {
			turn++
			if err := l.Trim(3*i+1, 1+i); err != nil {
				t.Fatal(err)
			}
			has(t, l, 3*i+1, 1+i, one(1+i, 3*i+1), one(1+i, 3*i+2))
			counts(t, d, min(turn, 2)+3, 0)
			s := open(t, d)
			has(t, s, 3*i+1, 1+i, one(1+i, 3*i+1), one(1+i, 3*i+2))
		}
	}
}

// TestTrimFrom: 11.8, blocks ahead of where records began are not the chain's: they stay.
func TestTrimFrom(t *testing.T) {
	d, l, _ := numbered(t)
	if err := l.Trim(8, 4); err != nil {
		t.Fatal(err)
	}
	for at := 16; at <= 20; at++ {
		if err := d.Write(at, []byte{byte(at)}); err != nil {
			t.Fatal(err)
		}
	}
	if err := l.Trim(9, 4); err != nil {
		t.Fatal(err)
	}
	for at := 16; at <= 22; at++ {
		want := byte(at)
		if at > 20 {
			want = 0
		}
		if b, err := d.Read(at); err != nil || b[0] != want {
			t.Errorf("block %d: %v, %v", at, b, err)
		}
	}
}

// TestTrimOne: 11.8, a trim of an empty log, again and again: where records begin stays.
func TestTrimOne(t *testing.T) {
	d := store(t, 9)
	l := open(t, d)
	for i := 1; i < 9; i++ {
		if err := l.Trim(i, i/2); err != nil {
			t.Fatal(err)
		}
		has(t, l, i, i/2)
		head(t, d, i, value(16, i, i/2))
		counts(t, d, min(i, 2), 0)
		has(t, open(t, d), i, i/2)
	}
}

// TestTrimWrong: 11.8, offsets and terms that may not be; nothing is changed, and nothing synced.
func TestTrimWrong(t *testing.T) {
	d, l, all := numbered(t)
	used, loose := d.Used(), d.Loose()
	for _, c := range [][2]int{
		{7, 4}, {6, 4}, {0, 0}, {-1, 4}, {math.MinInt, 4},
		{api.MaxNum + 1, 4}, {math.MaxInt, 4},
		{8, -1}, {8, api.MaxNum + 1}, {8, math.MinInt}, {8, math.MaxInt},
		{20, -1}, {20, api.MaxNum + 1}, {7, -1}, {api.MaxNum + 1, -1},
	} {
		if err := l.Trim(c[0], c[1]); err != wrong("trim", c[0], api.ErrRange) {
			t.Errorf("%v: %#v", c, err)
		}
	}
	counts(t, d, used, loose)
	has(t, l, 7, 4, all...)
}

// TestTrimFull: 11.8, without room for the head what is on the store stays, in both its blocks; the batches are synced.
func TestTrimFull(t *testing.T) {
	d := store(t, 3)
	l := open(t, d)
	add(t, l, one(1, 0), one(1, 1), one(2, 2))
	if err := l.Trim(1, 1); err != wrong("trim", 1, wrong("turn", 1, wrong("block", 3, api.ErrFull))) {
		t.Errorf("%#v", err)
	}
	counts(t, d, 3, 0)
	d.Crash(nil, 0)
	has(t, open(t, d), 0, 0, one(1, 0), one(1, 1), one(2, 2))
	d = store(t, 4)
	l = open(t, d)
	add(t, l, one(1, 0), one(1, 1), one(2, 2))
	if err := l.Trim(1, 1); err != nil {
		t.Fatal(err)
	}
	add(t, l, one(2, 3))
	if err := l.Trim(2, 1); err != wrong("trim", 2, wrong("turn", 2, wrong("block", 2, api.ErrFull))) {
		t.Errorf("%#v", err)
	}
	d.Crash(nil, 0)
	has(t, open(t, d), 1, 1, one(1, 1), one(2, 2), one(2, 3))
}

// TestTrimFullCut: 11.8, batches of another term are truncated first, which gives room; but not, if there is one block alone.
func TestTrimFullCut(t *testing.T) {
	d := store(t, 3)
	l := open(t, d)
	add(t, l, one(1, 0), one(1, 1), one(2, 2))
	if err := l.Trim(1, 2); err != nil {
		t.Fatal(err)
	}
	has(t, l, 1, 2)
	has(t, open(t, d), 1, 2)
	d = store(t, 1)
	l = open(t, d)
	add(t, l, one(1, 0))
	if err := l.Trim(1, 2); err != wrong("trim", 1, wrong("turn", 1, wrong("block", 3, api.ErrFull))) {
		t.Errorf("%#v", err)
	}
	d.Crash(nil, 0)
	has(t, open(t, d), 0, 0)
	d = store(t, 0)
	if err := open(t, d).Trim(1, 2); err != wrong("trim", 1, wrong("turn", 1, wrong("block", 3, api.ErrFull))) {
		t.Errorf("%#v", err)
	}
	has(t, open(t, d), 0, 0)
}

// TestTrimGivesRoom: 11.8, the blocks of what is gone are free again.
func TestTrimGivesRoom(t *testing.T) {
	d := store(t, 9)
	l := open(t, d)
	for i := range 100 {
		add(t, l, wide(1, i, 1))
		if err := l.Trim(i+1, 1); err != nil {
			t.Fatal(err)
		}
		has(t, l, i+1, 1)
	}
	counts(t, d, 2, 0)
	head(t, d, 100, value(516, 100, 1))
	has(t, open(t, d), 100, 1)
}

// TestTrimMemory: 11.8 and 11.7, what was read of batches that are gone stays as it was.
func TestTrimMemory(t *testing.T) {
	_, l, all := numbered(t)
	got, err := l.Read(7, 9)
	if err != nil {
		t.Fatal(err)
	}
	if err := l.Trim(9, 4); err != nil {
		t.Fatal(err)
	}
	if err := l.Truncate(10); err != nil {
		t.Fatal(err)
	}
	add(t, l, one(9, 10), one(9, 11))
	if !slices.EqualFunc(got, all, batch.Same) {
		t.Errorf("%v", got)
	}
	has(t, l, 9, 4, all[2], one(9, 10), one(9, 11))
}

// TestTrimLastBlock: 11.8 and 11.9, a record in the last block of a store is trimmed: there is none behind it, and the log is found as it is.
func TestTrimLastBlock(t *testing.T) {
	for _, start := range []int{api.MaxNum, api.MaxNum - 4} {
		d := store(t, 9)
		lay(t, d, 1, value(start, 5, 1))
		l := open(t, d)
		b := one(1, 5)
		if start < api.MaxNum {
			b = wide(1, 5, 1)
		}
		add(t, l, b)
		refused(t, d, l, one(1, 6), wrong("append", api.MaxNum+1, api.ErrFull))
		for i, term := range []int{1, 1, 3} {
			if err := l.Trim(6+i, term); err != nil {
				t.Fatal(err)
			}
			has(t, l, 6+i, term)
			counts(t, d, 2, 0)
			has(t, open(t, d), 6+i, term)
		}
		d.Crash(nil, 0)
		has(t, open(t, d), 8, 3)
	}
}

// TestLoose: 11.5 to 11.8, which calls sync the store.
func TestLoose(t *testing.T) {
	d := store(t, 99)
	l := open(t, d)
	add(t, l, one(1, 0), one(1, 1), one(1, 2))
	counts(t, d, 3, 3)
	if err := l.Truncate(2); err != nil {
		t.Fatal(err)
	}
	counts(t, d, 3, 0)
	if b, err := d.Read(18); err != nil || !bytes.Equal(b, made(4, begins)) {
		t.Errorf("%v, %v", b, err)
	}
	add(t, l, one(1, 2))
	counts(t, d, 4, 1)
	if err := l.Trim(1, 1); err != nil {
		t.Fatal(err)
	}
	counts(t, d, 4, 0)
	if b, err := d.Read(16); err != nil || !bytes.Equal(b, nothing) {
		t.Errorf("%v, %v", b, err)
	}
}
