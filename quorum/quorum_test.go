package quorum_test

import (
	"fmt"
	"reflect"
	"slices"
	"strings"
	"testing"

	"castellan/api"
	"castellan/batch"
	"castellan/quorum"
)

// wrong is an error as a chapter words it: of such and such, at so much, that.
func wrong(op string, at int, err error) error { return api.Fault{Op: op, At: at, Err: err} }

// logOf is batches of these terms from an offset on, of which each one is about a topic of its own.
func logOf(base int, terms ...int) []api.Batch {
	var l []api.Batch
	for i, term := range terms {
		l = append(l, api.Batch{Term: term, Base: base + i, Records: []api.Record{{Kind: api.RDrop, Topic: base + i + 1}}})
	}
	return l
}

// text is all that a member, or a message, says; a list that is nil and one without elements are told alike.
func text(x any) string { return fmt.Sprintf("%+v", x) }

// alike tells whether two things say the same; the texts, which take longer, tell, where a list is nil, and the other one without elements.
func alike(a, b any) bool { return reflect.DeepEqual(a, b) || text(a) == text(b) }

// same fails the test, if a member is another one than the one that is wanted, or something else was sent.
func same(t *testing.T, what string, got, want api.Quorum, sent, wanted []api.Rpc) {
	t.Helper()
	if !alike(got, want) {
		t.Errorf("%s: the member is\n%+v, not\n%+v", what, got, want)
	}
	if !alike(sent, wanted) {
		t.Errorf("%s: it sends\n%+v, not\n%+v", what, sent, wanted)
	}
}

// full is a member of which each field says something, with memory behind each list's length.
func full() api.Quorum {
	q := api.Quorum{
		Id: 1, Voters: 3, Term: 4, Vote: 1, Role: api.Lead, Leader: 1, Base: 5, BaseTerm: 2, High: 6,
		Log: logOf(5, 2, 3, 4), Ends: []int{8, 6, 5}, Quiet: []int{0, 1, 2}, Yes: []int{1, 0, 2}, Clock: 7,
		Shot: []byte("shot"), Load: api.Load{End: 9, Term: 3, Size: 5, Data: []byte("load")},
	}
	q.Log[1].Records = []api.Record{{Kind: api.RPart, Topic: 1, Ids: []int{1, 2}, Isr: []int{1}, Add: []int{3}, Drop: []int{2}}}
	q.Log = slices.Grow(q.Log, 9)
	q.Ends, q.Quiet, q.Yes = slices.Grow(q.Ends, 9), slices.Grow(q.Quiet, 9), slices.Grow(q.Yes, 9)
	q.Shot, q.Load.Data = slices.Grow(q.Shot, 9), slices.Grow(q.Load.Data, 600)
	return q
}

// whole is all that a member's lists hold, what lies behind their lengths with it.
func whole(q api.Quorum) string {
	log := q.Log[:cap(q.Log)]
	return text(q) + text(log) + text(q.Ends[:cap(q.Ends)]) + text(q.Quiet[:cap(q.Quiet)]) + text(q.Yes[:cap(q.Yes)]) +
		text(q.Shot[:cap(q.Shot)]) + text(q.Load.Data[:cap(q.Load.Data)])
}

// spoil writes over all that a member's lists hold.
func spoil(q api.Quorum) {
	for i, b := range q.Log {
		for j, r := range b.Records {
			for _, row := range [][]int{r.Ids, r.Isr, r.Add, r.Drop} {
				fill(row, 77)
			}
			b.Records[j].Kind = 77
		}
		q.Log[i].Term = 77
	}
	fill(q.Ends, 77)
	fill(q.Quiet, 77)
	fill(q.Yes, 77)
	fill(q.Shot, 77)
	fill(q.Load.Data, 77)
}

// fill writes one thing all over a list.
func fill[T any](l []T, x T) {
	for i := range l {
		l[i] = x
	}
}

// TestNew: 14.1, at the edges of both numbers.
func TestNew(t *testing.T) {
	for _, voters := range []int{-1 << 63, -1, 0, 1, 2, 6, 7, 8, 1<<63 - 1} {
		for _, id := range []int{-1 << 63, -1, 0, 1, 7, 8, api.MaxNum, api.MaxNum + 1, 1<<63 - 1} {
			want, wantErr := api.Quorum{Id: id, Voters: voters}, error(nil)
			if voters < 1 || voters > 7 || id < 1 || id > 1<<30 {
				want, wantErr = api.Quorum{}, wrong("member", id, api.ErrRange)
			}
			q, err := quorum.New(id, voters)
			if text(q) != text(want) || err != wantErr {
				t.Errorf("%d, %d: %+v, %v", id, voters, q, err)
			}
		}
	}
}

// TestRestart: 14.2, what a member has that begins anew, and each thing that is wrong, at its edges.
func TestRestart(t *testing.T) {
	two := logOf(4, 2, 5)
	for _, c := range []struct {
		id, voters, term, vote, base, baseTerm int
		l                                      []api.Batch
		err                                    error
	}{
		{2, 3, 0, 0, 0, 0, nil, nil},
		{2, 3, 0, 3, 0, 0, nil, nil},
		{9, 3, 5, 3, 4, 1, two, nil},
		{2, 3, 6, 0, 4, 1, two, nil},
		{2, 3, 5, 1, 4, 9, two, nil},
		{2, 3, api.MaxNum, 1, 4, 1, two, nil},
		{2, 3, 9, 0, api.MaxNum, 9, nil, nil},
		{2, 3, -3, 0, 0, -3, nil, nil},
		{0, 3, 4, 9, 4, 1, two, wrong("member", 0, api.ErrRange)},
		{2, 8, 4, 9, 4, 1, two, wrong("member", 2, api.ErrRange)},
		{2, 3, 4, 0, 4, 1, two, wrong("term", 4, api.ErrState)},
		{2, 3, 8, 0, 4, 9, nil, wrong("term", 8, api.ErrState)},
		{2, 3, -1, 0, 0, 0, nil, wrong("term", -1, api.ErrState)},
		{2, 3, api.MaxNum + 1, 0, 4, 1, two, wrong("term", api.MaxNum+1, api.ErrState)},
		{2, 3, 5, -1, 4, 1, two, wrong("term", 5, api.ErrState)},
		{2, 3, 5, 4, 4, 1, two, wrong("term", 5, api.ErrState)},
		{2, 3, 5, 0, -1, 1, two, wrong("term", 5, api.ErrState)},
		{2, 3, 5, 0, api.MaxNum + 1, 1, two, wrong("term", 5, api.ErrState)},
	} {
		shot := []byte("of it")
		want := api.Quorum{Id: c.id, Voters: c.voters, Term: c.term, Vote: c.vote, Base: c.base, BaseTerm: c.baseTerm, High: c.base, Log: c.l, Shot: shot}
		if c.err != nil {
			want = api.Quorum{}
		}
		q, err := quorum.Restart(c.id, c.voters, c.term, c.vote, c.base, c.baseTerm, c.l, shot)
		if text(q) != text(want) || err != c.err {
			t.Errorf("%+v: %+v, %v", c, q, err)
		}
	}
}

// TestRestartMemory: R3: what a member begins anew with is not kept.
func TestRestartMemory(t *testing.T) {
	given := full()
	q, err := quorum.Restart(1, 3, 4, 1, 5, 2, given.Log, given.Shot)
	if err != nil {
		t.Fatal(err)
	}
	was := text(q)
	spoil(given)
	if text(q) != was {
		t.Errorf("%+v, not %s", q, was)
	}
}

// TestEnd: 14.3, without batches, and with some.
func TestEnd(t *testing.T) {
	for _, c := range []struct {
		q         api.Quorum
		end, term int
	}{
		{api.Quorum{}, 0, 0},
		{api.Quorum{Base: 7, BaseTerm: 3}, 7, 3},
		{api.Quorum{Log: logOf(0, 2)}, 1, 2},
		{api.Quorum{Base: 7, BaseTerm: 3, Log: logOf(7, 3, 5, 6)}, 10, 6},
	} {
		if end, term := quorum.End(c.q); end != c.end || term != c.term {
			t.Errorf("%+v: %d, %d", c.q, end, term)
		}
	}
}

// TestTermAt: 14.3, at each offset, and beyond both ends.
func TestTermAt(t *testing.T) {
	q := api.Quorum{Base: 7, BaseTerm: 3, Log: logOf(7, 4, 6)}
	want := map[int]int{7: 3, 8: 4, 9: 6}
	for _, offset := range []int{-1 << 63, -1, 0, 6, 7, 8, 9, 10, 11, 1<<63 - 1} {
		term, ok := quorum.TermAt(q, offset)
		if known, is := want[offset]; ok != is || term != known {
			t.Errorf("%d: %d, %v", offset, term, ok)
		}
	}
	for _, offset := range []int{-1, 0, 1} {
		if term, ok := quorum.TermAt(api.Quorum{}, offset); ok != (offset == 0) || term != 0 {
			t.Errorf("nothing, %d: %d, %v", offset, term, ok)
		}
	}
}

// leads is one that leads, of three, in term 4.
func leads() api.Quorum {
	return api.Quorum{Id: 1, Voters: 3, Term: 4, Vote: 1, Role: api.Lead, Leader: 1, Base: 5, BaseTerm: 2, High: 6,
		Log: logOf(5, 2, 3, 4), Ends: []int{8, 6, 5}, Quiet: []int{0, 1, 2}, Clock: 3}
}

// long is records whose batch, at the offset 8 in term 4, has so many bytes.
func long(t *testing.T, bytes int) []api.Record {
	t.Helper()
	l := []api.Record{{Kind: api.RConfig, Key: "a"}}
	for {
		b, err := batch.Put(api.Batch{Term: 4, Base: 8, Records: l})
		if err != nil {
			t.Fatal(err)
		}
		last := &l[len(l)-1]
		switch missing := bytes - len(b); {
		case missing == 0:
			return l
		case missing > 0 && len(last.Value) < api.MaxValue:
			last.Value += strings.Repeat("v", min(max(missing-9, 1), api.MaxValue-len(last.Value)))
		case missing > 0:
			l = append(l, api.Record{Kind: api.RNoop})
			if missing > 9 {
				l[len(l)-1] = api.Record{Kind: api.RConfig, Key: "a"}
			}
		default:
			t.Fatalf("%d bytes, not %d", len(b), bytes)
		}
	}
}

// TestPropose: 14.8 and 14.21, what is put, and each thing that is wrong, the first one first.
func TestPropose(t *testing.T) {
	noop := api.Record{Kind: api.RNoop}
	follows := leads()
	follows.Role, follows.Leader = api.Follow, 3
	once := leads()
	once.Role = api.Idle
	far := leads()
	far.Base = api.MaxNum
	none := leads()
	none.Term = 0
	for _, c := range []struct {
		what string
		q    api.Quorum
		l    []api.Record
		err  error
	}{
		{"one", leads(), []api.Record{noop}, nil},
		{"two", leads(), []api.Record{noop, {Kind: api.RDrop, Topic: 2}}, nil},
		{"the most records", leads(), slices.Repeat([]api.Record{noop}, 64), nil},
		{"the most bytes", leads(), long(t, 2048), nil},
		{"who follows", follows, nil, wrong("propose", 3, api.ErrLeader)},
		{"who does not lead, though it says that it does", once, []api.Record{noop}, wrong("propose", 1, api.ErrLeader)},
		{"who is idle", api.Quorum{Id: 1, Voters: 1, Term: 1}, []api.Record{noop}, wrong("propose", 0, api.ErrLeader)},
		{"no records", leads(), nil, wrong("propose", 8, wrong("records", 0, api.ErrLimit))},
		{"too many records", leads(), slices.Repeat([]api.Record{noop}, 65), wrong("propose", 8, wrong("records", 65, api.ErrLimit))},
		{"a wrong record", leads(), []api.Record{noop, {Kind: 77}}, wrong("propose", 8, wrong("record", 1, wrong("kind", 77, api.ErrKind)))},
		{"a byte too much", leads(), long(t, 2049), wrong("propose", 2049, api.ErrLimit)},
		{"bytes of more than a frame", leads(), slices.Repeat([]api.Record{{Kind: api.RConfig, Key: "a", Value: strings.Repeat("v", 256)}}, 64), wrong("propose", 8, wrong("batch", 64*263+4, api.ErrLimit))},
		{"no more offsets", far, []api.Record{noop}, wrong("propose", api.MaxNum+3, wrong("base", api.MaxNum+3, api.ErrRange))},
		{"no term", none, []api.Record{noop}, wrong("propose", 8, wrong("term", 0, api.ErrRange))},
	} {
		want, at := c.q, 0
		if c.err == nil {
			want.Log = append(slices.Clone(want.Log), api.Batch{Term: 4, Base: 8, Records: c.l})
			want.Ends, at = []int{9, 6, 5}, 8
		}
		q, offset, err := quorum.Propose(c.q, c.l)
		same(t, c.what, q, want, nil, nil)
		if offset != at || fmt.Sprintf("%#v", err) != fmt.Sprintf("%#v", c.err) {
			t.Errorf("%s: %d, %#v, not %#v", c.what, offset, err, c.err)
		}
	}
}

// TestProposeAlone: 14.8: of one voter alone each batch is committed as soon as it is put; of two it is not.
func TestProposeAlone(t *testing.T) {
	for voters, high := range map[int]int{1: 2, 2: 0} {
		q := api.Quorum{Id: 1, Voters: voters, Term: 1, Vote: 1, Role: api.Lead, Leader: 1, Log: logOf(0, 1), Ends: make([]int, voters), Quiet: make([]int, voters)}
		q, at, err := quorum.Propose(q, []api.Record{{Kind: api.RNoop}})
		if q.High != high || at != 1 || err != nil || q.Ends[0] != 2 {
			t.Errorf("%d: %+v, %d, %v", voters, q, at, err)
		}
	}
}

// TestProposeMemory: R3: the records are not kept, the member that was is not changed, and what lies behind its log's length stays.
func TestProposeMemory(t *testing.T) {
	q := full()
	was := whole(q)
	l := []api.Record{{Kind: api.RPart, Topic: 1, Ids: []int{1, 2}, Isr: []int{2}}}
	a, _, err := quorum.Propose(q, l)
	if err != nil {
		t.Fatal(err)
	}
	kept := text(a)
	b, _, err := quorum.Propose(q, []api.Record{{Kind: api.RNoop}})
	if err != nil {
		t.Fatal(err)
	}
	quorum.Propose(b, []api.Record{{Kind: api.RNoop}})
	quorum.Propose(b, []api.Record{{Kind: api.RDrop, Topic: 9}})
	l[0].Ids[0], l[0].Isr[0] = 77, 77
	l[0].Topic = 77
	if whole(q) != was || text(a) != kept {
		t.Errorf("%s\n%+v", whole(q), a)
	}
	if len(b.Log) != 4 || b.Log[3].Records[0].Kind != api.RNoop {
		t.Errorf("%+v", b)
	}
}

// TestCompact: 14.22, at each offset.
func TestCompact(t *testing.T) {
	for _, role := range []int{api.Idle, api.Follow, api.Lead} {
		q := leads()
		q.Role, q.High, q.Shot = role, 7, []byte("old")
		for _, offset := range []int{-1 << 63, -1, 0, 4, 5, 6, 7, 8, 9, 1<<63 - 1} {
			want, wantErr := q, wrong("compact", offset, api.ErrRange)
			switch offset {
			case 6:
				want.Base, want.BaseTerm, want.Log, want.Shot, wantErr = 6, 2, logOf(6, 3, 4), []byte("new"), nil
			case 7:
				want.Base, want.BaseTerm, want.Log, want.Shot, wantErr = 7, 3, logOf(7, 4), []byte("new"), nil
			}
			got, err := quorum.Compact(q, offset, []byte("new"))
			same(t, text(offset), got, want, nil, nil)
			if err != wantErr {
				t.Errorf("%d: %v", offset, err)
			}
		}
	}
}

// TestCompactAll: 14.22: the whole log may go, into no bytes, too; and High may be told of beyond what is there.
func TestCompactAll(t *testing.T) {
	q := leads()
	q.High = 8
	got, err := quorum.Compact(q, 8, nil)
	want := q
	want.Base, want.BaseTerm, want.Log, want.Shot = 8, 4, nil, nil
	same(t, "all", got, want, nil, nil)
	if err != nil {
		t.Error(err)
	}
	q.High = 99
	if got, err := quorum.Compact(q, 9, nil); text(got) != text(q) || err != wrong("compact", 9, api.ErrRange) {
		t.Errorf("%+v, %v", got, err)
	}
}

// TestCompactMemory: R3: the snapshot is not kept, and the member that was is not changed.
func TestCompactMemory(t *testing.T) {
	q, shot := full(), []byte("new")
	was := whole(q)
	a, err := quorum.Compact(q, 6, shot)
	if err != nil {
		t.Fatal(err)
	}
	kept := text(a)
	shot[0] = 77
	quorum.Propose(a, []api.Record{{Kind: api.RNoop}})
	if whole(q) != was || text(a) != kept {
		t.Errorf("%s\n%+v", whole(q), a)
	}
}

// TestCopy: 14.22: a copy says the same, and shares no memory.
func TestCopy(t *testing.T) {
	for _, q := range []api.Quorum{{}, leads(), full()} {
		was := text(q)
		c := quorum.Copy(q)
		if text(c) != was {
			t.Errorf("%+v, not %s", c, was)
		}
		spoil(c)
		if text(q) != was {
			t.Errorf("%+v, not %s", q, was)
		}
	}
	q := full()
	c := quorum.Copy(q)
	was := text(c)
	spoil(q)
	if text(c) != was {
		t.Errorf("%+v, not %s", c, was)
	}
}
