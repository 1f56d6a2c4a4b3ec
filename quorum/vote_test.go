package quorum_test

import (
	"testing"

	"castellan/api"
	"castellan/quorum"
)

// receives holds what a member makes of a message.
func receives(t *testing.T, what string, q api.Quorum, x api.Rpc, want api.Quorum, wanted ...api.Rpc) {
	t.Helper()
	was := text(q)
	got, sent := quorum.Receive(q, x)
	same(t, what, got, want, sent, wanted)
	if text(q) != was {
		t.Errorf("%s: the member that was is\n%+v, not\n%s", what, q, was)
	}
}

// kinds are all kinds of messages, and three that are none.
var kinds = []int{-1, 0, 1, 2, 3, 4, 5, 6, 7, 8, 9}

// TestNothing: 14.11: a message that is for somebody else, or that may not be, is nothing, whichever its kind.
func TestNothing(t *testing.T) {
	members := []api.Quorum{
		second(nil),
		second(func(q *api.Quorum) { q.Role, q.Yes = api.Ask, []int{0, 1, 0} }),
		second(func(q *api.Quorum) { q.Role, q.Vote, q.Yes = api.Stand, 2, []int{0, 1, 0} }),
		second(func(q *api.Quorum) { q.Role, q.Leader, q.Load.End = api.Follow, 3, 19 }),
		second(func(q *api.Quorum) {
			q.Role, q.Leader, q.Ends, q.Quiet = api.Lead, 2, []int{0, 8, 0}, []int{9, 0, 9}
		}),
	}
	for name, change := range map[string]func(*api.Rpc){
		"for another":      func(x *api.Rpc) { x.To = 1 },
		"for nobody":       func(x *api.Rpc) { x.To = 0 },
		"from nobody":      func(x *api.Rpc) { x.From = 0 },
		"from below":       func(x *api.Rpc) { x.From = -3 },
		"from itself":      func(x *api.Rpc) { x.From = 2 },
		"term below 0":     func(x *api.Rpc) { x.Term = -1 },
		"term too great":   func(x *api.Rpc) { x.Term = api.MaxNum + 1 },
		"At below 0":       func(x *api.Rpc) { x.At = -1 },
		"AtTerm below 0":   func(x *api.Rpc) { x.AtTerm = -1 },
		"High below 0":     func(x *api.Rpc) { x.High = -1 },
		"Size below 0":     func(x *api.Rpc) { x.Size = -1 },
		"Pos below 0":      func(x *api.Rpc) { x.Pos = -1 },
		"Pos far below 0":  func(x *api.Rpc) { x.Pos = -1 << 63 },
		"Term far below 0": func(x *api.Rpc) { x.Term = -1 << 63 },
	} {
		for _, q := range members {
			for _, kind := range kinds {
				for _, term := range []int{3, 4, 5} {
					x := api.Rpc{Kind: kind, From: 3, To: 2, Term: term, Leader: 3, At: 8, AtTerm: 3, Ok: true}
					change(&x)
					receives(t, name, q, x, q)
				}
			}
		}
	}
}

// TestGreaterTerm: 14.11: a greater term is taken on from whichever message, but from who asks ahead, or grants that.
func TestGreaterTerm(t *testing.T) {
	load := api.Load{End: 19, Term: 3, Data: []byte("abc")}
	for _, kind := range kinds {
		for _, term := range []int{5, api.MaxNum} {
			for _, pre := range []bool{false, true} {
				for _, ok := range []bool{false, true} {
					for _, role := range []int{api.Idle, api.Follow, api.Ask, api.Stand, api.Lead} {
						q := second(func(q *api.Quorum) {
							q.Role, q.Vote, q.Clock, q.Load = role, 2, 3, load
							q.Ends, q.Quiet, q.Yes = []int{1, 2, 3}, []int{4, 5, 6}, []int{0, 1, 0}
							if role == api.Lead {
								q.Leader = 2
							} else if role == api.Follow {
								q.Leader = 1
							}
						})
						want := changed(q, func(q *api.Quorum) {
							q.Term, q.Vote, q.Role, q.Leader, q.Ends, q.Quiet, q.Yes = term, 0, api.Idle, 0, nil, nil, nil
						})
						// At and AtTerm are such that nothing is granted, nothing fits, and Leader is nobody.
						got, _ := quorum.Receive(q, api.Rpc{Kind: kind, From: 3, To: 2, Term: term, Pre: pre, Ok: ok, At: 1, AtTerm: 1})
						if pre && kind == api.QVote || pre && ok && kind == api.AVote {
							if got.Term != 4 && role != api.Ask || got.Vote != 2 {
								t.Errorf("%d, %d, %v, %v, %d: %+v", kind, term, pre, ok, role, got)
							}
							continue
						}
						same(t, text([]any{kind, term, pre, ok, role}), got, want, nil, nil)
					}
				}
			}
		}
	}
}

// TestOtherKind: 14.11: of a kind that there is not nothing is taken but a greater term.
func TestOtherKind(t *testing.T) {
	for _, kind := range []int{-1 << 63, -1, 0, 9, 1 << 40} {
		q := second(func(q *api.Quorum) { q.Role, q.Leader, q.Vote, q.Clock = api.Follow, 3, 3, 5 })
		x := api.Rpc{Kind: kind, From: 3, To: 2, Term: 4, Leader: 3}
		receives(t, "own term", q, x, q)
		x.Term = 3
		receives(t, "elder term", q, x, q)
		x.Term = 9
		receives(t, "greater term", q, x, changed(q, func(q *api.Quorum) { q.Term, q.Vote, q.Role, q.Leader = 9, 0, api.Idle, 0 }))
	}
}

// TestAskAhead: 14.12, of who asks ahead: at each log, term, role, leader and clock whether it is granted; nothing changes by it.
func TestAskAhead(t *testing.T) {
	for _, place := range []struct {
		at, term int
		newer    bool
	}{
		{8, 3, true}, {9, 3, true}, {7, 3, false}, {0, 4, true}, {8, 4, true}, {99, 2, false}, {0, 0, false},
	} {
		for _, term := range []int{0, 3, 4, 5, api.MaxNum} {
			for _, role := range []int{api.Idle, api.Follow, api.Ask, api.Stand, api.Lead} {
				for _, clock := range []int{0, 9, 10, 11, 99} {
					for _, from := range []int{1, 3} {
						q := second(func(q *api.Quorum) {
							q.Role, q.Clock, q.Vote = role, clock, 2
							switch role {
							case api.Follow:
								q.Leader = 3
							case api.Ask, api.Stand:
								q.Yes = []int{0, 1, 2}
							case api.Lead:
								q.Leader, q.Ends, q.Quiet = 2, []int{0, 8, 0}, []int{9, 0, 9}
							}
						})
						ok := place.newer && term >= 4 && role != api.Lead && (role != api.Follow || clock >= 10)
						x := api.Rpc{Kind: api.QVote, From: from, To: 2, Term: term, Pre: true, At: place.at, AtTerm: place.term}
						receives(t, text(x)+text([]int{role, clock}), q, x, q,
							api.Rpc{Kind: api.AVote, From: 2, To: from, Term: 4, Pre: true, Ok: ok, Leader: q.Leader})
					}
				}
			}
		}
	}
}

// TestAskVote: 14.12, of who asks in earnest: at each log, term, vote and leader whether it is granted, and what comes of it.
func TestAskVote(t *testing.T) {
	for _, place := range []struct {
		at, term int
		newer    bool
	}{
		{8, 3, true}, {9, 3, true}, {7, 3, false}, {0, 4, true}, {99, 2, false}, {0, 0, false},
	} {
		for _, term := range []int{0, 3, 4, 5, api.MaxNum} {
			for _, vote := range []int{0, 1, 2, 3} {
				for _, leader := range []int{0, 1, 2, 3} {
					for _, from := range []int{1, 3} {
						q := second(func(q *api.Quorum) {
							q.Vote, q.Leader, q.Clock = vote, leader, 7
							switch leader {
							case 0:
								q.Role, q.Yes = api.Ask, []int{0, 1, 2}
							case 2:
								q.Role, q.Ends, q.Quiet = api.Lead, []int{0, 8, 0}, []int{9, 0, 9}
							default:
								q.Role = api.Follow
							}
						})
						want := q
						if term > 4 {
							want = changed(want, func(q *api.Quorum) {
								q.Term, q.Vote, q.Role, q.Leader, q.Ends, q.Quiet, q.Yes = term, 0, api.Idle, 0, nil, nil, nil
							})
						}
						ok := place.newer && term >= 4 && (want.Vote == from || want.Vote == 0 && want.Leader == 0)
						if ok {
							want = changed(want, func(q *api.Quorum) {
								q.Vote, q.Role, q.Leader, q.Clock, q.Ends, q.Quiet, q.Yes = from, api.Idle, 0, 0, nil, nil, nil
							})
						}
						x := api.Rpc{Kind: api.QVote, From: from, To: 2, Term: term, At: place.at, AtTerm: place.term}
						receives(t, text(x)+text([]int{vote, leader}), q, x, want,
							api.Rpc{Kind: api.AVote, From: 2, To: from, Term: want.Term, Ok: ok, Leader: want.Leader})
					}
				}
			}
		}
	}
}

// TestAskNoVoter: 14.12: nothing, if one of the two does not vote; but a greater term is taken on.
func TestAskNoVoter(t *testing.T) {
	for _, pre := range []bool{false, true} {
		for _, term := range []int{4, 5} {
			for _, c := range []struct {
				q    api.Quorum
				from int
			}{
				{second(nil), 4}, {second(nil), 9}, {watcher(nil), 1}, {watcher(nil), 4}, {changed(second(nil), func(q *api.Quorum) { q.Id = 4 }), 3},
			} {
				want := c.q
				if term > 4 && !pre {
					want.Term = 5
				}
				receives(t, text(c), c.q, api.Rpc{Kind: api.QVote, From: c.from, To: c.q.Id, Term: term, Pre: pre, At: 99, AtTerm: 4}, want)
			}
		}
	}
}

// asks is member 2 of so many voters, that asks ahead, or stands (then by its own vote).
func asks(voters, role int) api.Quorum {
	return second(func(q *api.Quorum) {
		q.Voters, q.Role, q.Clock = voters, role, 5
		q.Yes = make([]int, voters)
		q.Yes[1] = 1
		if role == api.Stand {
			q.Vote = 2
		}
	})
}

// TestVoted: 14.13, what is nothing: of who does not vote, of another role, of another term.
func TestVoted(t *testing.T) {
	for _, role := range []int{api.Idle, api.Follow, api.Ask, api.Stand, api.Lead} {
		for _, pre := range []bool{false, true} {
			for _, ok := range []bool{false, true} {
				for _, from := range []int{1, 5, 6, 9} {
					for _, term := range []int{0, 3, 4, 5} {
						q := asks(5, role)
						x := api.Rpc{Kind: api.AVote, From: from, To: 2, Term: term, Pre: pre, Ok: ok}
						want := q
						if term > 4 && !(pre && ok) {
							want = changed(want, func(q *api.Quorum) { q.Term, q.Vote, q.Role, q.Yes = 5, 0, api.Idle, nil })
						}
						counts := pre && want.Role == api.Ask || !pre && want.Role == api.Stand && term == 4
						if counts && from <= 5 {
							said := 2
							if ok {
								said = 1
							}
							want.Yes = []int{0, 1, 0, 0, 0}
							want.Yes[from-1] = said
						}
						receives(t, text(x)+text(role), q, x, want)
					}
				}
			}
		}
	}
}

// TestVotedLeader: 14.13: who is not granted follows who is told to lead, if that is somebody else, in its own term.
func TestVotedLeader(t *testing.T) {
	for _, role := range []int{api.Ask, api.Stand} {
		for _, leader := range []int{0, 1, 2, 3, 9} {
			for _, term := range []int{3, 4} {
				q := asks(5, role)
				x := api.Rpc{Kind: api.AVote, From: 3, To: 2, Term: term, Pre: role == api.Ask, Leader: leader}
				want := q
				if role == api.Ask || term == 4 {
					want.Yes = []int{0, 1, 2, 0, 0}
					if leader != 0 && leader != 2 && term == 4 {
						want = changed(want, func(q *api.Quorum) { q.Role, q.Leader, q.Clock, q.Yes = api.Follow, leader, 0, nil })
					}
				}
				receives(t, text(x), q, x, want)
				x.Ok = true
				if role == api.Ask || term == 4 {
					want = changed(q, func(q *api.Quorum) { q.Yes = []int{0, 1, 1, 0, 0} })
				}
				receives(t, text(x), q, x, want)
			}
		}
	}
}

// stood is what asks(voters, Ask) is, and sends, once more than half grant that.
func stood(voters int) (api.Quorum, []api.Rpc) {
	q := asks(voters, api.Stand)
	q.Term, q.Clock = 5, 0
	var sent []api.Rpc
	for id := 1; id <= voters; id++ {
		if id != 2 {
			sent = append(sent, api.Rpc{Kind: api.QVote, From: 2, To: id, Term: 5, At: 8, AtTerm: 3})
		}
	}
	return q, sent
}

// won is what asks(voters, Stand) is, and sends, once more than half voted for it.
func won(voters int) (api.Quorum, []api.Rpc) {
	q := asks(voters, api.Lead)
	q.Vote, q.Leader, q.Yes = 2, 2, nil
	q.Log = append(q.Log, api.Batch{Term: 4, Base: 8, Records: []api.Record{{Kind: api.RNoop}}})
	q.Ends, q.Quiet = make([]int, voters), make([]int, voters)
	q.Ends[1] = 9
	var sent []api.Rpc
	for id := 1; id <= voters; id++ {
		if id != 2 {
			sent = append(sent, api.Rpc{Kind: api.QBegin, From: 2, To: id, Term: 4, Leader: 2})
		}
	}
	return q, sent
}

// TestCounted: 14.6, 14.7: of each number of voters one more than half must grant, and no fewer; then it stands, and leads.
func TestCounted(t *testing.T) {
	for voters := 2; voters <= 7; voters++ {
		for _, role := range []int{api.Ask, api.Stand} {
			q := asks(voters, role)
			want, wanted := stood(voters)
			if role == api.Stand {
				want, wanted = won(voters)
			}
			yes, need := 1, voters/2+1
			for from := voters; from > 0 && yes < need; from-- {
				if from == 2 {
					continue
				}
				x := api.Rpc{Kind: api.AVote, From: from, To: 2, Term: 4, Pre: role == api.Ask, Ok: true}
				next := changed(q, func(q *api.Quorum) {
					q.Yes = append([]int(nil), q.Yes...)
					q.Yes[from-1] = 1
				})
				yes++
				if yes == need {
					receives(t, text(x), q, x, want, wanted...)
				} else {
					receives(t, text(x), q, x, next)
					receives(t, "again "+text(x), next, x, next)
				}
				q = next
			}
		}
	}
}

// TestCountedOnes: 14.6: those that did not grant do not count, and who grants later counts then.
func TestCountedOnes(t *testing.T) {
	q := asks(5, api.Stand)
	q.Yes = []int{2, 1, 2, 2, 0}
	x := api.Rpc{Kind: api.AVote, From: 5, To: 2, Term: 4, Ok: true}
	receives(t, "too few", q, x, changed(q, func(q *api.Quorum) { q.Yes = []int{2, 1, 2, 2, 1} }))
	q.Yes = []int{2, 1, 0, 0, 1}
	x.From = 1
	want, wanted := won(5)
	receives(t, "later", q, x, want, wanted...)
	q.Yes = []int{2, 1, 0, 0, 1}
	x.From, x.Ok = 5, false
	receives(t, "no more", q, x, changed(q, func(q *api.Quorum) { q.Yes = []int{2, 1, 0, 0, 2} }))
}

// TestPollGreatTerm: 14.6, 14.13: who is granted ahead stands in the term behind its own, be the grant of another one.
func TestPollGreatTerm(t *testing.T) {
	for _, term := range []int{0, 3, 4, 5, 99} {
		want, wanted := stood(3)
		receives(t, text(term), asks(3, api.Ask), api.Rpc{Kind: api.AVote, From: 3, To: 2, Term: term, Pre: true, Ok: true}, want, wanted...)
	}
}

// TestLeadBegins: 14.7: who leads keeps its clock, its log and what it fetches, and knows of nobody how far it is.
func TestLeadBegins(t *testing.T) {
	q := asks(3, api.Stand)
	q.Load, q.High = api.Load{End: 19, Term: 3}, 8
	want, wanted := won(3)
	want.Load, want.High = q.Load, 8
	receives(t, "leads", q, api.Rpc{Kind: api.AVote, From: 1, To: 2, Term: 4, Ok: true}, want, wanted...)
}
