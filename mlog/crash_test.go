package mlog_test

import (
	"bytes"
	"math/rand/v2"
	"testing"

	"castellan/api"
	"castellan/batch"
	"castellan/block"
	"castellan/chain"
	"castellan/fault"
	"castellan/mlog"
	"castellan/slot"
	"castellan/wire"
)

// cuts are where the last write is torn: within each part of a block, at its edges, and nowhere.
var cuts = []int{0, 1, 6, 7, 8, 9, 10, 11, 30, 55, 56, 57, 62, 63, 64, -1}

// kept is a log on a store, and what should be there: its base, the term ahead of it, the batches, and how many of these are synced.
type kept struct {
	d      *block.Disk
	l      *mlog.Log
	base   int
	term   int
	all    []api.Batch
	synced int
	serial int
	// failed is what was wrong with the last trim.
	failed error
}

// begin is a log on a new store.
func begin(t *testing.T, room int) *kept {
	t.Helper()
	d := store(t, room)
	return &kept{d: d, l: open(t, d)}
}

// another is a log on a store of the same blocks, all synced.
func (k *kept) another(t *testing.T) *kept {
	t.Helper()
	x := *k
	x.d = store(t, k.d.Room())
	for _, cell := range k.d.Cells() {
		if err := x.d.Write(cell.At, cell.Bytes); err != nil {
			t.Fatal(err)
		}
	}
	x.d.Sync()
	x.l = open(t, x.d)
	x.all = k.all[:k.synced:k.synced]
	return &x
}

// last is the term of what is ahead of the end.
func (k *kept) last() int {
	if n := len(k.all); n > 0 {
		return k.all[n-1].Term
	}
	return k.term
}

// append appends a batch like no other, of so many bytes or some more, in a term that is so much above the last one, if there is room.
func (k *kept) append(t *testing.T, size, above int) {
	t.Helper()
	k.serial++
	b := api.Batch{Term: max(k.last(), 1) + above, Base: k.base + len(k.all)}
	b.Records = append(b.Records, api.Record{Kind: api.RDrop, Topic: k.serial})
	for range size - 6 {
		b.Records = append(b.Records, api.Record{Kind: api.RNoop})
	}
	room := k.d.Used()+chain.Blocks(len(bytesOf(t, b))) <= k.d.Room()
	err := k.l.Append(b)
	if room != (err == nil) || !room && !fault.Is(err, api.ErrFull) {
		t.Fatalf("%d bytes, %d of %d taken: %v", size, k.d.Used(), k.d.Room(), err)
	}
	if room {
		k.all = append(k.all[:len(k.all):len(k.all)], b)
	}
}

// firm is what should be there when all is synced.
func (k *kept) firm() { k.synced = len(k.all) }

// crash has the store fall, and the log opened again: what was synced must be found, and of the rest a beginning, which is synced then.
func (k *kept) crash(t *testing.T, keep []int, cut int) {
	t.Helper()
	k.d.Crash(keep, cut)
	k.l = open(t, k.d)
	many := k.l.End() - k.base
	if many < k.synced || many > len(k.all) {
		t.Fatalf("keep %v, cut %d: %d batches are found, of %d, %d of which were synced", keep, cut, many, len(k.all), k.synced)
	}
	k.all = k.all[:many:many]
	k.firm()
	k.holds(t)
}

// holds holds the log against what should be there.
func (k *kept) holds(t *testing.T) {
	t.Helper()
	has(t, k.l, k.base, k.term, k.all...)
}

// lists calls f with every list of so many numbers below two.
func lists(many int, f func(l []int)) {
	for set := range 1 << many {
		l := make([]int, many)
		for i := range l {
			l[i] = set >> i & 1
		}
		f(l)
	}
}

// TestFoundAll: 11.9, every set of blocks that is kept, and every place at which the last of them is torn, over blocks that are free, and over old ones.
func TestFoundAll(t *testing.T) {
	k := begin(t, 40)
	k.append(t, 6, 0)
	k.append(t, 60, 1)
	k.append(t, 6, 0)
	k.append(t, 47, 0)
	k.l.Sync()
	k.firm()
	for range 3 {
		lists(4, func(keep []int) {
			for cut := range 65 {
				x := k.another(t)
				x.append(t, 50, 0)
				x.append(t, 46, 1)
				x.append(t, 7, 0)
				if x.crash(t, keep, cut); t.Failed() {
					t.Fatalf("keep %v, cut %d", keep, cut)
				}
			}
		})
		k.append(t, 7, 0)
		k.append(t, 50, 0)
		k.append(t, 6, 2)
		k.crash(t, []int{0, 1, 1, 1}, 64)
		k.trim(t, k.base+1, k.all[0].Term)
	}
}

// old is a log of no batches, beside which a batch of the offset 1 and of term 3 stands in block 17: it was lost with the one ahead of it, though its own block was kept.
func old(t *testing.T) (*block.Disk, *mlog.Log) {
	t.Helper()
	d := store(t, 40)
	add(t, open(t, d), one(1, 0), one(3, 1))
	d.Crash([]int{0, 1}, 64)
	l := open(t, d)
	has(t, l, 0, 0)
	return d, l
}

// TestFoundOld: 11.9 and 11.8, a batch that was lost is not found again when the log is trimmed up to where it stood, be it behind the last batch, or beyond the end.
func TestFoundOld(t *testing.T) {
	for term := 1; term <= 3; term++ {
		d, l := old(t)
		add(t, l, one(term, 0))
		has(t, open(t, d), 0, 0, one(term, 0))
		if err := l.Trim(1, term); err != nil {
			t.Fatal(err)
		}
		has(t, open(t, d), 1, term)
		d, l = old(t)
		add(t, l, one(term, 0))
		if err := l.Truncate(0); err != nil {
			t.Fatal(err)
		}
		has(t, open(t, d), 0, 0)
		if err := l.Trim(1, term); err != nil {
			t.Fatal(err)
		}
		head(t, d, 1, value(17, 1, term))
		d.Crash(nil, 0)
		l = open(t, d)
		has(t, l, 1, term)
		add(t, l, one(term, 1))
		has(t, open(t, d), 1, term, one(term, 1))
	}
}

// bytesAt holds a block of a store against what it should have.
func bytesAt(t *testing.T, d *block.Disk, at int, want []byte) {
	t.Helper()
	if b, err := d.Read(at); err != nil || !bytes.Equal(b, want) {
		t.Errorf("block %d: %v, %v, not %v", at, b, err, want)
	}
}

// TestTrimOldSpoilt: 11.9 and 11.8, an old batch that would be found is spoilt, in a block that stays taken, and in that one alone.
func TestTrimOldSpoilt(t *testing.T) {
	d := store(t, 40)
	add(t, open(t, d), one(1, 0), wide(1, 1, 1))
	d.Crash([]int{0, 1, 1, 1, 1, 1}, 64)
	l := open(t, d)
	add(t, l, one(1, 0))
	l.Sync()
	was := d.Cells()
	if len(was) != 6 {
		t.Fatal(was)
	}
	if err := l.Trim(1, 1); err != nil {
		t.Fatal(err)
	}
	want := append([]api.Cell{{At: 3, Bytes: turned(1, 17, 1, 1)}, {At: 17, Bytes: nothing}}, was[2:]...)
	cells(t, d, want...)
	counts(t, d, 6, 0)
	has(t, open(t, d), 1, 1)
	add(t, l, one(1, 1))
	l.Sync()
	has(t, open(t, d), 1, 1, one(1, 1))
}

// TestTrimOldMark: 11.9, an old batch behind a mark that begins where records do is not found either.
func TestTrimOldMark(t *testing.T) {
	d := store(t, 40)
	for at, b := range map[int][]byte{
		16: made(9, begins|4, bytesOf(t, one(1, 0))...),
		17: made(2, begins),
		18: made(3, begins|4, bytesOf(t, one(1, 1))...),
	} {
		if err := d.Write(at, b); err != nil {
			t.Fatal(err)
		}
	}
	l := open(t, d)
	has(t, l, 0, 0, one(1, 0))
	if err := l.Trim(1, 1); err != nil {
		t.Fatal(err)
	}
	counts(t, d, 3, 0)
	has(t, open(t, d), 1, 1)
}

// TestTrimOldFull: 11.8, without room for the head an old batch stays as it was, too: nothing that is written ahead of it touches that.
func TestTrimOldFull(t *testing.T) {
	d := store(t, 2)
	add(t, open(t, d), one(1, 0), one(1, 1))
	d.Crash([]int{0, 1}, 64)
	l := open(t, d)
	add(t, l, one(1, 0))
	l.Sync()
	was := d.Cells()
	if err := l.Trim(1, 1); err != wrong("trim", 1, wrong("turn", 1, wrong("block", 3, api.ErrFull))) {
		t.Errorf("%#v", err)
	}
	cells(t, d, was...)
	counts(t, d, 2, 0)
	d.Crash(nil, 0)
	has(t, open(t, d), 0, 0, one(1, 0))
}

// TestTrimOldUnfit: 11.8, an old record that does not fit, or of which a block was lost, is not found, and stays as it was.
func TestTrimOldUnfit(t *testing.T) {
	for _, c := range []struct {
		old  api.Batch
		keep []int
		base int
		term int
	}{
		{one(3, 1), []int{0, 1}, 1, 4},
		{one(3, 1), []int{0, 1}, 2, 1},
		{one(3, 1), []int{0, 1}, 2, 3},
		{wide(3, 1, 1), []int{0, 1, 1, 0, 1, 1}, 1, 1},
		{wide(3, 1, 1), []int{0, 0, 1, 1, 1, 1}, 1, 1},
	} {
		d := store(t, 40)
		add(t, open(t, d), one(1, 0), c.old)
		d.Crash(c.keep, 64)
		was := d.Cells()
		l := open(t, d)
		add(t, l, one(1, 0))
		if err := l.Trim(c.base, c.term); err != nil {
			t.Fatal(err)
		}
		cells(t, d, append([]api.Cell{{At: 3, Bytes: turned(1, 17, byte(c.base), byte(c.term))}}, was...)...)
		counts(t, d, 1+len(was), 0)
		has(t, open(t, d), c.base, c.term)
	}
}

// torn is a store on which block 16 alone is taken, by noughts: a crash kept the first write of a batch, and none of its bytes.
func torn(t *testing.T, room int) *block.Disk {
	t.Helper()
	d := store(t, room)
	add(t, open(t, d), one(1, 0))
	d.Crash([]int{1}, 0)
	cells(t, d, api.Cell{At: 16, Bytes: nothing})
	return d
}

// TestTrimTaken: 11.8, the block at which records begin stays taken, though nothing is found there.
func TestTrimTaken(t *testing.T) {
	d := torn(t, 3)
	l := open(t, d)
	for i := 1; i <= 4; i++ {
		if err := l.Trim(i, i-1); err != nil {
			t.Fatal(err)
		}
		has(t, l, i, i-1)
		has(t, open(t, d), i, i-1)
		counts(t, d, min(i, 2)+1, 0)
		bytesAt(t, d, 16, nothing)
	}
	cells(t, d,
		api.Cell{At: 2, Bytes: turned(4, 16, 4, 3)},
		api.Cell{At: 3, Bytes: turned(3, 16, 3, 2)},
		api.Cell{At: 16, Bytes: nothing})
}

// TestTrimTakenFull: 11.8, the block at which records begin gives the head no room.
func TestTrimTakenFull(t *testing.T) {
	d := torn(t, 1)
	if err := open(t, d).Trim(1, 0); err != wrong("trim", 1, wrong("turn", 1, wrong("block", 3, api.ErrFull))) {
		t.Errorf("%#v", err)
	}
	cells(t, d, api.Cell{At: 16, Bytes: nothing})
	counts(t, d, 1, 0)
	has(t, open(t, d), 0, 0)
	d = torn(t, 2)
	l := open(t, d)
	if err := l.Trim(1, 0); err != nil {
		t.Fatal(err)
	}
	cells(t, d, api.Cell{At: 3, Bytes: turned(1, 16, 1, 0)}, api.Cell{At: 16, Bytes: nothing})
	if err := l.Trim(2, 1); err != wrong("trim", 2, wrong("turn", 2, wrong("block", 2, api.ErrFull))) {
		t.Errorf("%#v", err)
	}
	cells(t, d, api.Cell{At: 3, Bytes: turned(1, 16, 1, 0)}, api.Cell{At: 16, Bytes: nothing})
	has(t, open(t, d), 1, 0)
}

// worded does on the store what 11.8 words, step by step, for a log that is synced, and was opened then; and tells where records begin.
func (k *kept) worded(t *testing.T, offset, term int) (start int, err error) {
	t.Helper()
	s, err := slot.Open(k.d, 2)
	if err != nil {
		t.Fatal(err)
	}
	from := 16
	if v := s.Value(); len(v) > 0 {
		from = wire.Read(v).Int(api.MaxNum)
	}
	c, links, err := chain.Open(k.d, 16, from)
	if err != nil || len(links) != len(k.all) {
		t.Fatalf("%d records, %v, not %d", len(links), err, len(k.all))
	}
	gone := offset - k.base
	if k.termAt(gone) != term {
		if len(links) > 0 {
			if err := c.Cut(links[0].At); err != nil {
				t.Fatal(err)
			}
		}
		links, gone = nil, 0
	}
	start = c.Next()
	if gone < len(links) {
		start = links[gone].At
	}
	if err := s.Put(value(start, offset, term)); err != nil {
		return 0, wrong("trim", offset, err)
	}
	s.Sync()
	if err := c.Trim(from, start); err != nil {
		t.Fatal(err)
	}
	c.Sync()
	return start, nil
}

// TestTrimWorded: 11.8, block by block what a trim leaves is what the chapter's steps leave, behind crashes, too; but a batch that would be found, and is none of the log's (11.9).
func TestTrimWorded(t *testing.T) {
	spoilt, full := 0, 0
	for seed := range uint64(250) {
		r := rand.New(rand.NewPCG(seed, 118))
		k := begin(t, 2+r.IntN(30))
		for range 60 {
			for range r.IntN(4) {
				k.append(t, []int{6, 6, 47, 60}[r.IntN(4)], r.IntN(4)/3)
			}
			if r.IntN(3) > 0 {
				k.crash(t, []int{r.IntN(2), r.IntN(2), r.IntN(2), r.IntN(2)}, cuts[r.IntN(len(cuts))])
			}
			if r.IntN(3) > 0 {
				continue
			}
			k.l.Sync()
			k.firm()
			k.l = open(t, k.d)
			x := k.another(t)
			offset, term := k.base+1+r.IntN(len(k.all)+2), r.IntN(k.last()+2)
			if n := offset - k.base; r.IntN(3) > 0 && n <= len(k.all) {
				term = k.termAt(n)
			}
			start, want := x.worded(t, offset, term)
			if k.trim(t, offset, term); k.failed != want {
				t.Fatalf("seed %d: %#v, not %#v", seed, k.failed, want)
			}
			if want != nil {
				full++
			} else if l := open(t, x.another(t).d); l.End() > k.base+len(k.all) {
				spoilt++
				if err := x.d.Write(start, nil); err != nil {
					t.Fatal(err)
				}
				x.d.Sync()
			}
			counts(t, k.d, x.d.Used(), 0)
			if cells(t, k.d, x.d.Cells()...); t.Failed() {
				t.Fatalf("seed %d: up to %d, behind term %d", seed, offset, term)
			}
			k.l = open(t, k.d)
			k.holds(t)
		}
	}
	if spoilt == 0 || full == 0 {
		t.Errorf("%d batches were spoilt, %d stores full", spoilt, full)
	}
}

// trim trims the log; without room for its head it is as it was, but for batches of another term.
func (k *kept) trim(t *testing.T, offset, term int) {
	t.Helper()
	gone := offset - k.base
	err := k.l.Trim(offset, term)
	k.failed = err
	if ahead := k.termAt(gone); ahead != term {
		k.all, gone = nil, 0
	}
	k.firm()
	if err == nil {
		k.base, k.term, k.all = offset, term, k.all[gone:]
		k.firm()
		return
	}
	if !fault.Is(err, api.ErrFull) || !fault.Under(err, "turn") || k.d.Used() < k.d.Room() {
		t.Fatalf("%d of %d taken: %v", k.d.Used(), k.d.Room(), err)
	}
	// Nothing is promised of the log then, but of what is on the store.
	k.l = open(t, k.d)
}

// termAt is the term ahead of the batch of a number; below 0: there is none.
func (k *kept) termAt(i int) int {
	if i > len(k.all) {
		return -1
	}
	return k.all[i-1].Term
}

// onStore holds what is on the store against 11.1's and 11.2's words: the head, and the records from where it says that they begin, up to the first one that does not fit.
func (k *kept) onStore(t *testing.T) {
	t.Helper()
	s, err := slot.Open(k.d, 2)
	if err != nil {
		t.Fatal(err)
	}
	start, base, term := 16, 0, 0
	if v := s.Value(); len(v) > 0 {
		r := wire.Read(v)
		start, base, term = r.Int(api.MaxNum), r.Int(api.MaxNum), r.Int(api.MaxNum)
	}
	_, links, err := chain.Open(k.d, 16, start)
	if err != nil || base != k.base || term != k.term || len(links) < len(k.all) {
		t.Fatalf("base %d, term %d, %d records, %v, not base %d, term %d, %d records", base, term, len(links), err, k.base, k.term, len(k.all))
	}
	for i, b := range k.all {
		if !bytes.Equal(links[i].Bytes, bytesOf(t, b)) {
			t.Fatalf("record %d: %v, not %v", i, links[i].Bytes, b)
		}
	}
	if rest := links[len(k.all):]; len(rest) > 0 {
		b, err := batch.Read(rest[0].Bytes)
		if err == nil && b.Base == k.base+len(k.all) && b.Term >= k.last() {
			t.Fatalf("%v is found, behind %d batches", b, len(k.all))
		}
	}
	for _, cell := range k.d.Cells() {
		if cell.At < 2 || cell.At > 3 && cell.At < start {
			t.Fatalf("block %d is taken, though records begin at %d", cell.At, start)
		}
	}
}

// chance does one thing to a log, the same in every run.
func (k *kept) chance(t *testing.T, r *rand.Rand) {
	t.Helper()
	switch r.IntN(16) {
	case 0, 1:
		k.l.Sync()
		k.firm()
	case 2:
		i := r.IntN(len(k.all) + 1)
		if err := k.l.Truncate(k.base + i); err != nil {
			t.Fatal(err)
		}
		if i < len(k.all) {
			k.all = k.all[:i:i]
			k.firm()
		}
	case 3, 4:
		i := 1 + r.IntN(len(k.all)+2)
		term := max(k.termAt(i), 0)
		if r.IntN(3) == 0 {
			term = r.IntN(k.last() + 2)
		}
		k.trim(t, k.base+i, term)
	case 5, 6, 7:
		keep := make([]int, r.IntN(k.d.Loose()+2))
		for i := range keep {
			keep[i] = r.IntN(3) % 2
		}
		k.crash(t, keep, cuts[r.IntN(len(cuts))])
	case 8:
		k.l = open(t, k.d)
	default:
		k.append(t, []int{6, 6, 6, 7, 45, 46, 47, 60}[r.IntN(8)], r.IntN(6)/5)
	}
	k.holds(t)
	k.onStore(t)
}

// TestFoundLong: 11.2 to 11.9, many batches, syncs, truncations, trims and crashes on one store, small or not.
func TestFoundLong(t *testing.T) {
	for seed := range uint64(250) {
		r := rand.New(rand.NewPCG(seed, 11))
		k := begin(t, 4+r.IntN(40))
		for range 300 {
			if k.chance(t, r); t.Failed() {
				t.Fatalf("seed %d", seed)
			}
		}
	}
}

// TestFoundFirst: 11.9, a log whose batches all were lost but for later ones' blocks is empty, and goes on.
func TestFoundFirst(t *testing.T) {
	d := store(t, 40)
	l := open(t, d)
	add(t, l, one(1, 0), one(1, 1), one(1, 2))
	d.Crash([]int{0, 1, 1}, 64)
	l = open(t, d)
	has(t, l, 0, 0)
	add(t, l, batch.Of(2, 0, part()))
	has(t, l, 0, 0, batch.Of(2, 0, part()))
	l.Sync()
	has(t, open(t, d), 0, 0, batch.Of(2, 0, part()))
}
