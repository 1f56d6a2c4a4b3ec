package quorum_test

import (
	"slices"
	"testing"

	"castellan/api"
	"castellan/quorum"
)

// leader leads three voters in term 6, with a log from 5 to 14, of the terms 2 (at the base), 3, 3, 5, 5, 5, 6 ...
func leader(change func(*api.Quorum)) api.Quorum {
	q := api.Quorum{Id: 1, Voters: 3, Term: 6, Vote: 1, Role: api.Lead, Leader: 1, Base: 5, BaseTerm: 2, High: 6,
		Log: logOf(5, 3, 3, 5, 5, 5, 6, 6, 6, 6), Ends: []int{14, 0, 0}, Quiet: []int{1, 2, 3}, Clock: 4, Shot: []byte("shot")}
	if change != nil {
		change(&q)
	}
	return q
}

// TestServes: 14.14: who does not lead, or is asked in an elder term, refuses, and tells who leads; both requests alike.
func TestServes(t *testing.T) {
	for _, kind := range []int{api.QFetch, api.QSnap} {
		for _, from := range []int{1, 3, 9} {
			for _, role := range []int{api.Idle, api.Follow, api.Ask, api.Stand} {
				for _, term := range []int{0, 3, 4} {
					q := second(func(q *api.Quorum) {
						q.Role, q.Clock = role, 5
						if role == api.Follow {
							q.Leader = 3
						}
					})
					receives(t, "does not lead", q, api.Rpc{Kind: kind, From: from, To: 2, Term: term, At: 8, AtTerm: 3}, q,
						api.Rpc{Kind: api.AFetch, From: 2, To: from, Term: 4, Code: int(api.ErrLeader), Leader: q.Leader})
				}
			}
			q := second(func(q *api.Quorum) { q.Role, q.Leader, q.Vote, q.Clock = api.Follow, 3, 3, 5 })
			receives(t, "a greater term", q, api.Rpc{Kind: kind, From: from, To: 2, Term: 5, At: 8, AtTerm: 3},
				changed(q, func(q *api.Quorum) { q.Term, q.Vote, q.Role, q.Leader = 5, 0, api.Idle, 0 }),
				api.Rpc{Kind: api.AFetch, From: 2, To: from, Term: 5, Code: int(api.ErrLeader)})
			if from == 1 {
				from = 2
			}
			for _, term := range []int{0, 5} {
				receives(t, "an elder term", leader(nil), api.Rpc{Kind: kind, From: from, To: 1, Term: term, At: 14, AtTerm: 6}, leader(nil),
					api.Rpc{Kind: api.AFetch, From: 1, To: from, Term: 6, Code: int(api.ErrEpoch), Leader: 1})
			}
			receives(t, "led", leader(nil), api.Rpc{Kind: kind, From: from, To: 1, Term: 7, At: 14, AtTerm: 6},
				leader(func(q *api.Quorum) { q.Term, q.Vote, q.Role, q.Leader, q.Ends, q.Quiet = 7, 0, api.Idle, 0, nil, nil }),
				api.Rpc{Kind: api.AFetch, From: 1, To: from, Term: 7, Code: int(api.ErrLeader)})
		}
	}
}

// TestGiveBatches: 14.15: at each offset of the log, with the term that is there: how many batches, and what is known of a voter then.
func TestGiveBatches(t *testing.T) {
	terms := []int{2, 3, 3, 5, 5, 5, 6, 6, 6, 6}
	for at := 5; at <= 14; at++ {
		for _, from := range []int{2, 3, 9} {
			q := leader(nil)
			want := leader(func(q *api.Quorum) {
				q.Ends, q.Quiet = slices.Clone(q.Ends), slices.Clone(q.Quiet)
				if from < 9 {
					q.Ends[from-1], q.Quiet[from-1] = at, 0
					// Of its own term alone, which begins at 10, something is known as committed.
					if at > 10 {
						q.High = at
					}
				}
			})
			receives(t, text([]int{at, from}), q, api.Rpc{Kind: api.QFetch, From: from, To: 1, Term: 6, At: at, AtTerm: terms[at-5]}, want,
				api.Rpc{Kind: api.AFetch, From: 1, To: from, Term: 6, Leader: 1, High: want.High, At: at, AtTerm: terms[at-5], Batches: q.Log[at-5 : min(at-1, 9)]})
		}
	}
}

// TestEndsRise: 14.15: up to where a voter has the log never falls.
func TestEndsRise(t *testing.T) {
	q := leader(func(q *api.Quorum) { q.Ends, q.High = []int{14, 13, 6}, 13 })
	receives(t, "below", q, api.Rpc{Kind: api.QFetch, From: 2, To: 1, Term: 6, At: 13, AtTerm: 6}, changed(q, func(q *api.Quorum) { q.Quiet = []int{1, 0, 3} }),
		api.Rpc{Kind: api.AFetch, From: 1, To: 2, Term: 6, Leader: 1, High: 13, At: 13, AtTerm: 6, Batches: q.Log[8:]})
	receives(t, "far below", q, api.Rpc{Kind: api.QFetch, From: 2, To: 1, Term: 6, At: 5, AtTerm: 2}, changed(q, func(q *api.Quorum) { q.Quiet = []int{1, 0, 3} }),
		api.Rpc{Kind: api.AFetch, From: 1, To: 2, Term: 6, Leader: 1, High: 13, At: 5, AtTerm: 2, Batches: q.Log[:4]})
}

// TestCommitted: 14.8: the greatest number that more than half have; it counts, if it is above High, and ends with a batch of the leader's term.
func TestCommitted(t *testing.T) {
	for _, c := range []struct {
		voters     int
		ends       []int
		from, at   int
		high, want int
	}{
		{2, []int{14, 0}, 2, 14, 6, 14},
		{2, []int{14, 0}, 2, 13, 6, 13},
		{2, []int{14, 0}, 2, 11, 6, 11},
		{2, []int{14, 0}, 2, 10, 6, 6},
		{2, []int{14, 0}, 2, 5, 0, 0},
		{3, []int{14, 0, 0}, 3, 12, 6, 12},
		{3, []int{14, 12, 0}, 3, 13, 6, 13},
		{3, []int{14, 13, 0}, 3, 12, 6, 13},
		{3, []int{14, 12, 0}, 3, 12, 14, 14},
		{3, []int{14, 12, 0}, 3, 14, 13, 14},
		{4, []int{14, 0, 0, 0}, 4, 14, 6, 6},
		{4, []int{14, 0, 12, 0}, 4, 14, 6, 12},
		{4, []int{14, 13, 12, 11}, 4, 14, 6, 13},
		{5, []int{14, 14, 0, 0, 0}, 5, 13, 6, 13},
		{5, []int{14, 14, 11, 0, 12}, 4, 13, 6, 13},
		{5, []int{14, 11, 0, 0, 0}, 5, 11, 6, 11},
		{5, []int{14, 0, 0, 0, 0}, 5, 14, 6, 6},
		{6, []int{14, 14, 12, 0, 0, 0}, 5, 13, 6, 12},
		{7, []int{14, 14, 12, 0, 0, 0, 0}, 5, 11, 6, 11},
		{7, []int{14, 14, 12, 0, 0, 0, 0}, 5, 10, 6, 6},
		{7, []int{14, 14, 12, 13, 0, 0, 0}, 5, 13, 6, 13},
		// Beyond its own log it knows no term.
		{3, []int{99, 98, 0}, 3, 12, 6, 6},
		{3, []int{14, 12, 0}, 9, 14, 6, 6},
	} {
		q := leader(func(q *api.Quorum) {
			q.Voters, q.Ends, q.High, q.Quiet = c.voters, c.ends, c.high, make([]int, c.voters)
		})
		term, _ := quorum.TermAt(q, c.at)
		got, sent := quorum.Receive(q, api.Rpc{Kind: api.QFetch, From: c.from, To: 1, Term: 6, At: c.at, AtTerm: term})
		if got.High != c.want || len(sent) != 1 || sent[0].High != c.want {
			t.Errorf("%+v: %d, %+v", c, got.High, sent)
		}
	}
}

// TestCommittedUnknown: 14.8: where no term is known nothing is, also of one that leads in the term 0.
func TestCommittedUnknown(t *testing.T) {
	q := leader(func(q *api.Quorum) { q.Term, q.Ends, q.Quiet = 0, []int{99, 98, 0}, []int{0, 0, 0} })
	receives(t, "unknown", q, api.Rpc{Kind: api.QFetch, From: 2, To: 1, At: 14, AtTerm: 6}, q,
		api.Rpc{Kind: api.AFetch, From: 1, To: 2, Leader: 1, High: 6, At: 14, AtTerm: 6})
}

// TestParted: 14.15: where the logs part, or that a snapshot is to be fetched; the voter is heard, but nothing is known of its log.
func TestParted(t *testing.T) {
	from0 := func(q *api.Quorum) { q.Base, q.BaseTerm, q.Log = 0, 0, logOf(0, 1, 1, 3, 3, 6) }
	stale, diverge := int(api.ErrStale), int(api.ErrDiverge)
	for _, c := range []struct {
		what       string
		change     func(*api.Quorum)
		at, atTerm int
		code       int
		to, toTerm int
	}{
		{"its term ends earlier", nil, 9, 3, diverge, 7, 3},
		{"a term that is not here", nil, 9, 4, diverge, 7, 3},
		{"the term behind", nil, 13, 5, diverge, 10, 5},
		{"beyond the end", nil, 15, 6, diverge, 14, 6},
		{"a greater term, beyond", nil, 15, 9, diverge, 14, 6},
		{"a greater term, in it", nil, 7, 9, diverge, 14, 6},
		{"a term too great at an offset", nil, 6, 5, diverge, 10, 5},
		{"the base's term, behind", nil, 9, 2, diverge, 5, 2},
		{"at the base, a greater term", nil, 5, 3, diverge, 7, 3},
		{"at the base, an elder term", nil, 5, 1, stale, 5, 2},
		{"behind, an elder term", nil, 9, 1, stale, 5, 2},
		{"ahead of the base", nil, 4, 2, stale, 5, 2},
		{"ahead of the base, a greater term", nil, 4, 9, stale, 5, 2},
		{"from the beginning", nil, 0, 0, stale, 5, 2},
		{"a log of nothing but the base", func(q *api.Quorum) { q.Log = nil }, 6, 2, diverge, 5, 2},
		{"nothing but the base, a greater term", func(q *api.Quorum) { q.Log = nil }, 6, 4, diverge, 5, 2},
		{"nothing but the base, an elder term", func(q *api.Quorum) { q.Log = nil }, 6, 1, stale, 5, 2},
		{"without a base", from0, 4, 1, diverge, 2, 1},
		{"without a base, a term that is not here", from0, 3, 2, diverge, 2, 1},
		{"without a base, no term", from0, 1, 0, diverge, 0, 0},
		{"without anything", func(q *api.Quorum) { q.Base, q.BaseTerm, q.Log = 0, 0, nil }, 1, 0, diverge, 0, 0},
		{"without anything, a term", func(q *api.Quorum) { q.Base, q.BaseTerm, q.Log = 0, 0, nil }, 7, 7, diverge, 0, 0},
	} {
		for _, from := range []int{3, 9} {
			q := leader(c.change)
			want := q
			if from == 3 {
				want.Quiet = []int{1, 2, 0}
			}
			receives(t, c.what, q, api.Rpc{Kind: api.QFetch, From: from, To: 1, Term: 6, At: c.at, AtTerm: c.atTerm}, want,
				api.Rpc{Kind: api.AFetch, From: 1, To: from, Term: 6, Leader: 1, High: 6, Code: c.code, At: c.to, AtTerm: c.toTerm})
		}
	}
}

// follower follows 3 of three voters in term 4, with a log from 5 to 10, of the terms 2 (at the base), 2, 2, 3, 3, 3.
func follower(change func(*api.Quorum)) api.Quorum {
	q := api.Quorum{Id: 2, Voters: 3, Term: 4, Vote: 3, Role: api.Follow, Leader: 3, Base: 5, BaseTerm: 2, High: 6, Log: logOf(5, 2, 2, 3, 3, 3), Clock: 5, Shot: []byte("shot")}
	if change != nil {
		change(&q)
	}
	return q
}

// at0 is what a member is whose clock began again.
func at0(q api.Quorum) api.Quorum { return changed(q, func(q *api.Quorum) { q.Clock = 0 }) }

// TestLed: 14.16, of each answer and of QBegin: whose it is, and who follows whom by it.
func TestLed(t *testing.T) {
	for _, kind := range []int{api.AFetch, api.ASnap, api.QBegin} {
		for _, role := range []int{api.Idle, api.Follow, api.Ask, api.Stand, api.Lead} {
			for _, from := range []int{1, 3} {
				for _, leader := range []int{0, 1, 2, 3, 9} {
					for _, term := range []int{3, 4, 5} {
						q := second(func(q *api.Quorum) {
							// What is fetched is none, and what comes does not fit, so nothing else comes of it.
							q.Role, q.Vote, q.Clock, q.Yes = role, 2, 5, []int{0, 1, 2}
							switch role {
							case api.Follow:
								q.Leader, q.Yes = 3, nil
							case api.Lead:
								q.Leader, q.Yes, q.Ends, q.Quiet = 2, nil, []int{0, 8, 0}, []int{9, 0, 9}
							}
						})
						want := q
						if term == 5 {
							want = changed(want, func(q *api.Quorum) {
								q.Term, q.Vote, q.Role, q.Leader, q.Ends, q.Quiet, q.Yes = 5, 0, api.Idle, 0, nil, nil, nil
							})
						}
						var wanted []api.Rpc
						if term >= 4 && want.Role != api.Lead {
							if want.Leader == 0 && leader != 0 && leader != 2 {
								want = changed(want, func(q *api.Quorum) { q.Role, q.Leader, q.Clock, q.Yes = api.Follow, leader, 0, nil })
							}
							if from == leader && want.Leader == leader {
								want.Clock = 0
								if kind == api.QBegin {
									wanted = []api.Rpc{{Kind: api.QFetch, From: 2, To: from, Term: want.Term, At: 8, AtTerm: 3}}
								}
							}
						} else if term < 4 && kind == api.QBegin {
							wanted = []api.Rpc{{Kind: api.AFetch, From: 2, To: from, Term: 4, Code: int(api.ErrEpoch), Leader: q.Leader}}
						}
						x := api.Rpc{Kind: kind, From: from, To: 2, Term: term, Leader: leader, At: 1, AtTerm: 1}
						receives(t, text(x)+text(role), q, x, want, wanted...)
					}
				}
			}
		}
	}
}

// TestLedLeads: 14.16: who leads takes no answer, whoever is said to lead.
func TestLedLeads(t *testing.T) {
	for _, leader := range []int{0, 3} {
		q := second(func(q *api.Quorum) { q.Role, q.Leader, q.Clock = api.Lead, leader, 5 })
		for _, kind := range []int{api.AFetch, api.QBegin, api.ASnap} {
			receives(t, text(kind), q, api.Rpc{Kind: kind, From: 3, To: 2, Term: 4, Leader: 3, At: 8, AtTerm: 3, Batches: logOf(8, 4)}, q)
		}
	}
}

// TestTakeDiverge: 14.17: up to where the log is cut, and that who cut it fetches on; what is committed is never cut.
func TestTakeDiverge(t *testing.T) {
	for _, c := range []struct {
		at, term int
		high     int
		keep     int
	}{
		{8, 2, 6, 7},
		{7, 2, 6, 7},
		{6, 2, 6, 6},
		{5, 2, 6, 6},
		{7, 2, 5, 7},
		{5, 2, 5, 5},
		{4, 2, 5, 5},
		{0, 0, 5, 5},
		{0, 1, 6, 6},
		{8, 3, 6, 8},
		{9, 3, 6, 9},
		{8, 3, 9, 9},
		{8, 3, 10, 10},
		{10, 3, 6, 10},
		{99, 3, 6, 10},
		{8, 4, 6, 10},
		{0, 9, 5, 10},
		{8, 3, 12, 10},
	} {
		q := follower(func(q *api.Quorum) { q.High = c.high })
		want, wanted := at0(q), []api.Rpc(nil)
		if c.keep < 10 {
			want.Log = q.Log[:c.keep-5]
			terms := []int{2, 2, 2, 3, 3, 3}
			wanted = []api.Rpc{{Kind: api.QFetch, From: 2, To: 3, Term: 4, At: c.keep, AtTerm: terms[c.keep-5]}}
		}
		x := api.Rpc{Kind: api.AFetch, From: 3, To: 2, Term: 4, Leader: 3, Code: int(api.ErrDiverge), At: c.at, AtTerm: c.term, High: 99, Batches: logOf(10, 4)}
		receives(t, text(c), q, x, want, wanted...)
		if got, _ := quorum.Receive(q, x); c.keep < 10 && text(got.Log[:cap(got.Log)]) != text(want.Log) {
			t.Errorf("%+v: what was cut is handed out behind the log: %+v", c, got.Log[:cap(got.Log)])
		}
		x.Leader = 1
		receives(t, "not its leader's "+text(c), q, x, q)
	}
}

// TestTakeDivergeAll: 14.17, of a log without a base: all of it may go.
func TestTakeDivergeAll(t *testing.T) {
	q := follower(func(q *api.Quorum) { q.Base, q.BaseTerm, q.High, q.Log = 0, 0, 0, logOf(0, 2, 3) })
	x := api.Rpc{Kind: api.AFetch, From: 3, To: 2, Term: 4, Leader: 3, Code: int(api.ErrDiverge)}
	receives(t, "all", q, x, changed(at0(q), func(q *api.Quorum) { q.Log = nil }), api.Rpc{Kind: api.QFetch, From: 2, To: 3, Term: 4})
	x.At, x.AtTerm = 2, 1
	receives(t, "all, too", q, x, changed(at0(q), func(q *api.Quorum) { q.Log = nil }), api.Rpc{Kind: api.QFetch, From: 2, To: 3, Term: 4})
	q.Log = nil
	receives(t, "nothing", q, x, at0(q))
}

// TestTakeStale: 14.17: the snapshot that a follower is told of is fetched, if it is of more than is committed, and not fetched already.
func TestTakeStale(t *testing.T) {
	for _, c := range []struct {
		at    int
		load  api.Load
		loads bool
	}{
		{0, api.Load{}, false},
		{5, api.Load{}, false},
		{6, api.Load{}, false},
		{7, api.Load{}, true},
		{99, api.Load{}, true},
		{99, api.Load{End: 99, Term: 4, Size: 9, Data: []byte("abc")}, false},
		{99, api.Load{End: 98, Term: 4, Size: 9, Data: []byte("abc")}, true},
		{98, api.Load{End: 99, Term: 4, Size: 9, Data: []byte("abc")}, true},
		{6, api.Load{End: 99, Term: 4, Size: 9, Data: []byte("abc")}, false},
	} {
		q := follower(func(q *api.Quorum) { q.Load = c.load })
		want, wanted := at0(q), []api.Rpc(nil)
		if c.loads {
			want.Load = api.Load{End: c.at, Term: 4}
			wanted = []api.Rpc{{Kind: api.QSnap, From: 2, To: 3, Term: 4, At: c.at, AtTerm: 4}}
		}
		x := api.Rpc{Kind: api.AFetch, From: 3, To: 2, Term: 4, Leader: 3, Code: int(api.ErrStale), At: c.at, AtTerm: 4, High: 99, Batches: logOf(10, 4)}
		receives(t, text(c), q, x, want, wanted...)
		x.From = 1
		receives(t, "not its leader's "+text(c), q, x, q)
	}
}

// TestTakeBatches: 14.17: batches stand behind a log that ends where they begin, and no other; High rises, as far as the log goes.
func TestTakeBatches(t *testing.T) {
	for _, c := range []struct {
		at, term   int
		many, told int
		fits       bool
		high       int
	}{
		{10, 3, 0, 0, true, 6},
		{10, 3, 0, 5, true, 6},
		{10, 3, 0, 6, true, 6},
		{10, 3, 0, 7, true, 7},
		{10, 3, 0, 10, true, 10},
		{10, 3, 0, 11, true, 10},
		{10, 3, 1, 0, true, 6},
		{10, 3, 1, 11, true, 11},
		{10, 3, 1, 99, true, 11},
		{10, 3, 4, 12, true, 12},
		{10, 3, 8, 99, true, 18},
		{10, 2, 2, 99, false, 6},
		{10, 4, 2, 99, false, 6},
		{9, 3, 2, 99, false, 6},
		{11, 3, 2, 99, false, 6},
		{0, 0, 2, 99, false, 6},
	} {
		q := follower(nil)
		batches := logOf(c.at, slices.Repeat([]int{4}, c.many)...)
		want, wanted := at0(q), []api.Rpc(nil)
		if c.fits {
			want.Log, want.High = append(want.Log, batches...), c.high
		}
		if c.fits && c.many > 0 {
			wanted = []api.Rpc{{Kind: api.QFetch, From: 2, To: 3, Term: 4, At: 10 + c.many, AtTerm: 4}}
		}
		x := api.Rpc{Kind: api.AFetch, From: 3, To: 2, Term: 4, Leader: 3, At: c.at, AtTerm: c.term, High: c.told, Batches: batches}
		receives(t, text(c), q, x, want, wanted...)
		x.Leader = 0
		receives(t, "not its leader's "+text(c), q, x, q)
	}
}

// TestTakeLoading: 14.5, 14.17: who fetches a snapshot takes batches that fit, and asks for the snapshot's bytes behind.
func TestTakeLoading(t *testing.T) {
	q := follower(func(q *api.Quorum) { q.Load = api.Load{End: 19, Term: 4, Data: []byte("abc")} })
	x := api.Rpc{Kind: api.AFetch, From: 3, To: 2, Term: 4, Leader: 3, At: 10, AtTerm: 3, Batches: logOf(10, 4)}
	receives(t, "loading", q, x, changed(at0(q), func(q *api.Quorum) { q.Log = append(q.Log, x.Batches...) }),
		api.Rpc{Kind: api.QSnap, From: 2, To: 3, Term: 4, At: 19, AtTerm: 4, Pos: 3})
}

// TestTakeOtherCode: 14.17: of another code nothing comes, but that its leader was heard, or is known.
func TestTakeOtherCode(t *testing.T) {
	for _, code := range []int{-1, 1, int(api.ErrEpoch), int(api.ErrLeader), int(api.ErrOther), 99} {
		x := api.Rpc{Kind: api.AFetch, From: 3, To: 2, Term: 4, Leader: 3, Code: code, At: 10, AtTerm: 3, High: 9, Batches: logOf(10, 4)}
		receives(t, text(code), follower(nil), x, at0(follower(nil)))
		nobody := follower(func(q *api.Quorum) { q.Role, q.Leader = api.Idle, 0 })
		receives(t, text(code), nobody, x, at0(follower(nil)))
		x.From = 1
		receives(t, text(code), nobody, x, at0(follower(nil)))
	}
}

// TestBegun: 14.20: who hears of its leader fetches from it, a snapshot, too.
func TestBegun(t *testing.T) {
	x := api.Rpc{Kind: api.QBegin, From: 3, To: 2, Term: 4, Leader: 3}
	receives(t, "fetches", follower(nil), x, at0(follower(nil)), api.Rpc{Kind: api.QFetch, From: 2, To: 3, Term: 4, At: 10, AtTerm: 3})
	q := follower(func(q *api.Quorum) { q.Load.End, q.Load.Term = 19, 3 })
	receives(t, "loads", q, x, at0(q), api.Rpc{Kind: api.QSnap, From: 2, To: 3, Term: 4, At: 19, AtTerm: 3})
	q = leader(nil)
	receives(t, "leads itself", q, api.Rpc{Kind: api.QBegin, From: 3, To: 1, Term: 6, Leader: 3}, q)
	receives(t, "leads itself, in a later term", q, api.Rpc{Kind: api.QBegin, From: 3, To: 1, Term: 5, Leader: 3}, q,
		api.Rpc{Kind: api.AFetch, From: 1, To: 3, Term: 6, Code: int(api.ErrEpoch), Leader: 1})
}

// TestEnded: 14.20: who follows one that leads no more is nearly late; nobody else is.
func TestEnded(t *testing.T) {
	for _, role := range []int{api.Idle, api.Follow, api.Ask, api.Stand, api.Lead} {
		for _, from := range []int{1, 3} {
			for _, told := range []int{0, 1, 2, 3} {
				for _, term := range []int{3, 4, 5} {
					q := follower(func(q *api.Quorum) {
						q.Role, q.Ends, q.Quiet, q.Yes = role, []int{1, 2, 3}, []int{4, 5, 6}, []int{0, 1, 0}
						if role != api.Follow {
							q.Leader = 0
						}
						if role == api.Lead {
							q.Leader = 2
						}
					})
					want := q
					if term == 5 || term == 4 && role == api.Follow && from == 3 {
						want = changed(q, func(q *api.Quorum) { q.Role, q.Leader, q.Ends, q.Quiet, q.Yes = api.Idle, 0, nil, nil, nil })
					}
					if term == 5 {
						want.Term, want.Vote = 5, 0
					} else if want.Role != role {
						want.Clock = 10
					}
					x := api.Rpc{Kind: api.QEnd, From: from, To: 2, Term: term, Leader: told}
					receives(t, text(x)+text(role), q, x, want)
				}
			}
		}
	}
}

// TestEndedOther: 14.20: a role counts, not whom a member knows to lead alone.
func TestEndedOther(t *testing.T) {
	for _, role := range []int{api.Idle, api.Ask, api.Stand, api.Lead} {
		q := follower(func(q *api.Quorum) { q.Role = role })
		receives(t, text(role), q, api.Rpc{Kind: api.QEnd, From: 3, To: 2, Term: 4, Leader: 3}, q)
	}
}

// TestReceiveMemory: R3: what is received is not kept, what is sent is new memory, and the member that was stays, with what lies behind its lists.
func TestReceiveMemory(t *testing.T) {
	rows := func() []api.Record {
		return []api.Record{{Kind: api.RPart, Topic: 1, Ids: []int{1, 2}, Isr: []int{1}, Add: []int{3}, Drop: []int{2}}}
	}
	for _, role := range []int{api.Idle, api.Follow, api.Ask, api.Stand, api.Lead} {
		for _, kind := range kinds {
			for _, code := range []int{0, int(api.ErrDiverge), int(api.ErrStale)} {
				for at := 4; at <= 9; at++ {
					for _, ok := range []bool{false, true} {
						q := full()
						q.Role, q.Leader, q.Load.End, q.Load.Term = role, 2, 9, 4
						if role == api.Lead {
							q.Leader = 1
						}
						x := api.Rpc{Kind: kind, From: 2, To: 1, Term: 4, Ok: ok, Pre: role == api.Ask, Leader: 2, At: at, AtTerm: 4, High: 9, Code: code, Size: 4, Pos: 4}
						if kind == api.QFetch || kind == api.QSnap {
							x.AtTerm = 2
							x.Pos = 0
						}
						x.Batches, x.Data = []api.Batch{{Term: 4, Base: 8, Records: rows()}}, []byte("data")
						was := whole(q)
						got, sent := quorum.Receive(q, x)
						if whole(q) != was {
							t.Fatalf("%+v: the member that was is %s, not %s", x, whole(q), was)
						}
						is := text(got)
						spoil(api.Quorum{Log: x.Batches, Shot: x.Data})
						if text(got) != is {
							t.Fatalf("%+v is kept in %+v", x, got)
						}
						for _, m := range sent {
							spoil(api.Quorum{Log: m.Batches, Shot: m.Data})
						}
						if text(got) != is || whole(q) != was {
							t.Fatalf("%+v: what is sent is kept in %+v", x, got)
						}
					}
				}
			}
		}
	}
}
