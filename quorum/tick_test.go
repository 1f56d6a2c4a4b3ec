package quorum_test

import (
	"testing"

	"castellan/api"
	"castellan/quorum"
)

// second is member 2 of three voters, in term 4, with a log that ends at 8 in term 3.
func second(change func(*api.Quorum)) api.Quorum {
	q := api.Quorum{Id: 2, Voters: 3, Term: 4, Base: 5, BaseTerm: 2, High: 6, Log: logOf(5, 2, 3, 3), Shot: []byte("shot")}
	if change != nil {
		change(&q)
	}
	return q
}

// watcher is as second, but does not vote.
func watcher(change func(*api.Quorum)) api.Quorum {
	return second(func(q *api.Quorum) {
		q.Id = 9
		if change != nil {
			change(q)
		}
	})
}

// changed is a member with some of its fields changed.
func changed(q api.Quorum, change func(*api.Quorum)) api.Quorum {
	change(&q)
	return q
}

// draws are draws, and what 10 leaves of each, as 64 bits without a sign.
var draws = map[int]int{0: 0, 1: 1, 9: 9, 10: 0, 25: 5, 1<<63 - 1: 7, -1: 5, -2: 4, -1 << 63: 8}

// TestLate: 14.9, for each role, clock and draw: whether a voter is late, and what it does then, and else.
func TestLate(t *testing.T) {
	for draw, left := range draws {
		for clock := range 25 {
			for _, role := range []int{api.Idle, api.Follow, api.Ask, api.Stand} {
				q := second(func(q *api.Quorum) {
					q.Role, q.Clock, q.Vote = role, clock, 3
					switch role {
					case api.Follow:
						q.Leader = 3
					case api.Ask:
						q.Yes = []int{2, 1, 0}
					case api.Stand:
						q.Vote, q.Yes = 2, []int{0, 1, 2}
					}
				})
				want := changed(q, func(q *api.Quorum) { q.Clock++ })
				var wanted []api.Rpc
				if clock+1 >= 10+left {
					want = changed(q, func(q *api.Quorum) {
						q.Role, q.Leader, q.Clock, q.Yes = api.Ask, 0, 0, []int{0, 1, 0}
					})
					wanted = []api.Rpc{
						{Kind: api.QVote, From: 2, To: 1, Term: 4, Pre: true, At: 8, AtTerm: 3},
						{Kind: api.QVote, From: 2, To: 3, Term: 4, Pre: true, At: 8, AtTerm: 3},
					}
				} else if role == api.Follow {
					wanted = []api.Rpc{{Kind: api.QFetch, From: 2, To: 3, Term: 4, At: 8, AtTerm: 3}}
				}
				got, sent := quorum.Tick(q, draw)
				same(t, text([]int{draw, clock, role}), got, want, sent, wanted)
			}
		}
	}
}

// TestLateWatcher: 14.9, of one that does not vote: it fetches from its leader; without one from each voter by turns; late from the first.
func TestLateWatcher(t *testing.T) {
	for draw, left := range draws {
		for clock := range 25 {
			for _, leader := range []int{0, 3} {
				q := watcher(func(q *api.Quorum) {
					q.Clock, q.Leader = clock, leader
					if leader > 0 {
						q.Role = api.Follow
					}
				})
				want, from := changed(q, func(q *api.Quorum) { q.Clock++ }), leader
				switch {
				case clock+1 >= 10+left:
					want, from = changed(q, func(q *api.Quorum) { q.Role, q.Leader, q.Clock = api.Idle, 0, 0 }), 1
				case leader == 0:
					from = 1 + (clock+1)%3
				}
				got, sent := quorum.Tick(q, draw)
				same(t, text([]int{draw, clock, leader}), got, want, sent, []api.Rpc{{Kind: api.QFetch, From: 9, To: from, Term: 4, At: 8, AtTerm: 3}})
			}
		}
	}
}

// TestFetch: 14.5, who fetches a snapshot asks for what is missing of that; with its End at 0 there is none.
func TestFetch(t *testing.T) {
	follows := second(func(q *api.Quorum) { q.Role, q.Leader = api.Follow, 3 })
	for _, c := range []struct {
		load api.Load
		want api.Rpc
	}{
		{api.Load{}, api.Rpc{Kind: api.QFetch, From: 2, To: 3, Term: 4, At: 8, AtTerm: 3}},
		{api.Load{Term: 3, Data: []byte("abc")}, api.Rpc{Kind: api.QFetch, From: 2, To: 3, Term: 4, At: 8, AtTerm: 3}},
		{api.Load{End: 1}, api.Rpc{Kind: api.QSnap, From: 2, To: 3, Term: 4, At: 1}},
		{api.Load{End: 19, Term: 3, Size: 7, Data: []byte("abc")}, api.Rpc{Kind: api.QSnap, From: 2, To: 3, Term: 4, At: 19, AtTerm: 3, Pos: 3}},
	} {
		q := changed(follows, func(q *api.Quorum) { q.Load = c.load })
		got, sent := quorum.Tick(q, 0)
		same(t, text(c.load), got, changed(q, func(q *api.Quorum) { q.Clock = 1 }), sent, []api.Rpc{c.want})
	}
	empty := api.Quorum{Id: 2, Voters: 2, Role: api.Follow, Leader: 1}
	_, sent := quorum.Tick(empty, 0)
	if text(sent) != text([]api.Rpc{{Kind: api.QFetch, From: 2, To: 1}}) {
		t.Errorf("%+v", sent)
	}
}

// TestLateFollows: 14.4, 14.9: who follows nobody keeps its vote, its term, its log and the snapshot that it fetches.
func TestLateFollows(t *testing.T) {
	load := api.Load{End: 19, Term: 3, Size: 7, Data: []byte("abc")}
	for _, q := range []api.Quorum{second(nil), watcher(nil)} {
		q = changed(q, func(q *api.Quorum) {
			q.Role, q.Leader, q.Vote, q.Clock, q.Load = api.Follow, 3, 3, 9, load
			q.Ends, q.Quiet, q.Yes = []int{1, 2, 3}, []int{4, 5, 6}, []int{1, 1, 1}
		})
		want := changed(q, func(q *api.Quorum) {
			q.Role, q.Leader, q.Clock, q.Ends, q.Quiet, q.Yes = api.Ask, 0, 0, nil, nil, []int{0, 1, 0}
		})
		wanted := []api.Rpc{
			{Kind: api.QVote, From: 2, To: 1, Term: 4, Pre: true, At: 8, AtTerm: 3},
			{Kind: api.QVote, From: 2, To: 3, Term: 4, Pre: true, At: 8, AtTerm: 3},
		}
		if q.Id == 9 {
			want.Role, want.Yes = api.Idle, nil
			wanted = []api.Rpc{{Kind: api.QSnap, From: 9, To: 1, Term: 4, At: 19, AtTerm: 3, Pos: 3}}
		}
		got, sent := quorum.Tick(q, 0)
		same(t, text(q.Id), got, want, sent, wanted)
	}
}

// TestAlone: 14.6 to 14.8, and the chapter's example: of one voter alone one that is late leads at once, in the next term, with a batch that is committed.
func TestAlone(t *testing.T) {
	q, err := quorum.New(1, 1)
	if err != nil {
		t.Fatal(err)
	}
	for i := range 9 {
		var sent []api.Rpc
		q, sent = quorum.Tick(q, 0)
		same(t, "waits", q, api.Quorum{Id: 1, Voters: 1, Clock: i + 1}, sent, nil)
	}
	q, sent := quorum.Tick(q, 0)
	noop := []api.Record{{Kind: api.RNoop}}
	want := api.Quorum{Id: 1, Voters: 1, Term: 1, Vote: 1, Role: api.Lead, Leader: 1, High: 1,
		Log: []api.Batch{{Term: 1, Records: noop}}, Ends: []int{1}, Quiet: []int{0}}
	same(t, "leads", q, want, sent, nil)

	old, err := quorum.Restart(1, 1, 6, 0, 3, 2, logOf(3, 2, 5), []byte("x"))
	if err != nil {
		t.Fatal(err)
	}
	got, sent := quorum.Tick(changed(old, func(q *api.Quorum) { q.Clock = 30 }), 9)
	want = changed(old, func(q *api.Quorum) {
		q.Term, q.Vote, q.Role, q.Leader, q.High = 7, 1, api.Lead, 1, 6
		q.Log = append(q.Log, api.Batch{Term: 7, Base: 5, Records: noop})
		q.Ends, q.Quiet = []int{6}, []int{0}
	})
	same(t, "leads again", got, want, sent, nil)
	for i := range 99 {
		got, sent = quorum.Tick(got, 0)
		same(t, "leads on", got, changed(want, func(q *api.Quorum) { q.Clock = i + 1 }), sent, nil)
	}
}

// TestBeat: 14.10, by hand: who is told at which Quiet, and when a leader hears of too few.
func TestBeat(t *testing.T) {
	for _, c := range []struct {
		voters       int
		quiet, after []int
		told         []int
		ends         bool
	}{
		{1, []int{0}, []int{0}, nil, false},
		{2, []int{0, 0}, []int{0, 1}, nil, false},
		{2, []int{0, 2}, []int{0, 3}, []int{2}, false},
		{2, []int{0, 17}, []int{0, 18}, []int{2}, false},
		{2, []int{0, 18}, []int{0, 19}, nil, false},
		{2, []int{0, 19}, nil, []int{2}, true},
		{2, []int{0, 20}, nil, []int{2}, true},
		{3, []int{9, 1, 2}, []int{9, 2, 3}, []int{3}, false},
		{3, []int{0, 5, 8}, []int{0, 6, 9}, []int{2, 3}, false},
		{3, []int{0, 19, 18}, []int{0, 20, 19}, nil, false},
		{3, []int{0, 20, 18}, []int{0, 21, 19}, []int{2}, false},
		{3, []int{0, 19, 19}, nil, []int{2, 3}, true},
		{3, []int{0, 99, 19}, nil, []int{2, 3}, true},
		{4, []int{0, 19, 19, 0}, nil, []int{2, 3, 4}, true},
		{4, []int{0, 19, 3, 0}, []int{0, 20, 4, 1}, nil, false},
		{5, []int{0, 19, 19, 0, 2}, []int{0, 20, 20, 1, 3}, []int{5}, false},
		{5, []int{0, 19, 19, 19, 2}, nil, []int{2, 3, 4, 5}, true},
		{7, []int{0, 23, 23, 23, 2, 5, 18}, []int{0, 24, 24, 24, 3, 6, 19}, []int{2, 3, 4, 5, 6}, false},
		{7, []int{0, 23, 23, 23, 19, 0, 0}, nil, []int{2, 3, 4, 5, 6, 7}, true},
	} {
		q := leads()
		q.Voters, q.Quiet, q.Ends, q.Clock = c.voters, c.quiet, make([]int, c.voters), 40
		want := changed(q, func(q *api.Quorum) { q.Quiet, q.Clock = c.after, 41 })
		kind := api.QBegin
		if c.ends {
			want = changed(q, func(q *api.Quorum) {
				q.Role, q.Leader, q.Clock, q.Ends, q.Quiet = api.Idle, 0, 0, nil, nil
			})
			kind = api.QEnd
		}
		var wanted []api.Rpc
		for _, id := range c.told {
			wanted = append(wanted, api.Rpc{Kind: kind, From: 1, To: id, Term: 4, Leader: 1})
		}
		was := text(q)
		got, sent := quorum.Tick(q, 0)
		same(t, text(c), got, want, sent, wanted)
		if text(q) != was {
			t.Errorf("%+v was changed", c)
		}
	}
}

// TestBeatSelf: 14.10, of a leader in the middle: the others alone count, and are told, rising.
func TestBeatSelf(t *testing.T) {
	q := leads()
	q.Id, q.Leader, q.Vote, q.Quiet = 2, 2, 2, []int{2, 50, 5}
	got, sent := quorum.Tick(q, 3)
	same(t, "tells", got, changed(q, func(q *api.Quorum) { q.Quiet, q.Clock = []int{3, 50, 6}, 4 }), sent, []api.Rpc{
		{Kind: api.QBegin, From: 2, To: 1, Term: 4, Leader: 2}, {Kind: api.QBegin, From: 2, To: 3, Term: 4, Leader: 2}})
	q.Quiet = []int{30, 0, 30}
	got, sent = quorum.Tick(q, 3)
	same(t, "ends", got, changed(q, func(q *api.Quorum) {
		q.Role, q.Leader, q.Clock, q.Ends, q.Quiet = api.Idle, 0, 0, nil, nil
	}), sent, []api.Rpc{
		{Kind: api.QEnd, From: 2, To: 1, Term: 4, Leader: 2}, {Kind: api.QEnd, From: 2, To: 3, Term: 4, Leader: 2}})
}

// TestTickMemory: R3: the member that was is not changed by what comes of it.
func TestTickMemory(t *testing.T) {
	for _, role := range []int{api.Idle, api.Follow, api.Ask, api.Stand, api.Lead} {
		for _, clock := range []int{0, 30} {
			q := full()
			q.Role, q.Clock = role, clock
			was := whole(q)
			quorum.Tick(q, 0)
			if whole(q) != was {
				t.Errorf("%d, %d: %s, not %s", role, clock, whole(q), was)
			}
		}
	}
}
