package quorum_test

import (
	"math/rand/v2"
	"slices"
	"testing"

	"castellan/api"
	"castellan/quorum"
)

// words is a member that goes by the chapter's words, promise by promise, in memory of its own.
type words struct {
	q   api.Quorum
	out []api.Rpc
}

// says is a message that is sent (From is who sends, Term its term).
func (w *words) says(to int, x api.Rpc) {
	x.From, x.To, x.Term = w.q.Id, to, w.q.Term
	w.out = append(w.out, x)
}

// toOthers is a message to each other voter, rising.
func (w *words) toOthers(x api.Rpc) {
	for id := 1; id <= w.q.Voters; id++ {
		if id != w.q.Id {
			w.says(id, x)
		}
	}
}

// voter tells whether a number votes.
func (w *words) voter(id int) bool { return id >= 1 && id <= w.q.Voters }

// end is 14.3.
func (w *words) end() (int, int) {
	if n := len(w.q.Log); n > 0 {
		return w.q.Base + n, w.q.Log[n-1].Term
	}
	return w.q.Base, w.q.BaseTerm
}

// termAt is 14.3; -1: it does not tell.
func (w *words) termAt(offset int) int {
	for i, b := range w.q.Log {
		if w.q.Base+i+1 == offset {
			return b.Term
		}
	}
	if offset == w.q.Base {
		return w.q.BaseTerm
	}
	return -1
}

// follow is 14.4.
func (w *words) follow(term, who int) {
	if term > w.q.Term {
		w.q.Term = term
		w.q.Vote = 0
	}
	w.q.Leader = who
	if who == 0 {
		w.q.Role = 0
	} else {
		w.q.Role = 1
		w.q.Clock = 0
	}
	w.q.Ends, w.q.Quiet, w.q.Yes = nil, nil, nil
}

// fetch is 14.5.
func (w *words) fetch(from int) {
	if w.q.Load.End > 0 {
		w.says(from, api.Rpc{Kind: 7, At: w.q.Load.End, AtTerm: w.q.Load.Term, Pos: len(w.q.Load.Data)})
	} else {
		at, term := w.end()
		w.says(from, api.Rpc{Kind: 3, At: at, AtTerm: term})
	}
}

// poll is 14.6.
func (w *words) poll(role int) {
	w.q.Role, w.q.Clock, w.q.Yes = role, 0, make([]int, w.q.Voters)
	w.q.Yes[w.q.Id-1] = 1
	at, term := w.end()
	w.toOthers(api.Rpc{Kind: 1, Pre: role == 2, At: at, AtTerm: term})
	w.count()
}

// count is 14.6, and 14.7.
func (w *words) count() {
	ones := 0
	for _, y := range w.q.Yes {
		if y == 1 {
			ones++
		}
	}
	if ones <= w.q.Voters-ones {
		return
	}
	if w.q.Role == 2 {
		w.follow(w.q.Term+1, 0)
		w.q.Vote = w.q.Id
		w.poll(3)
		return
	}
	w.follow(w.q.Term, 0)
	w.q.Role, w.q.Leader = 4, w.q.Id
	w.q.Ends, w.q.Quiet = make([]int, w.q.Voters), make([]int, w.q.Voters)
	at, _ := w.end()
	w.q.Log = append(w.q.Log, api.Batch{Term: w.q.Term, Base: at, Records: []api.Record{{Kind: 1}}})
	w.q.Ends[w.q.Id-1] = at + 1
	w.look()
	w.toOthers(api.Rpc{Kind: 5, Leader: w.q.Id})
}

// look is 14.8: each number, from the greatest down.
func (w *words) look() {
	for n := slices.Max(w.q.Ends); n > w.q.High; n-- {
		have := 0
		for _, e := range w.q.Ends {
			if e >= n {
				have++
			}
		}
		if have > w.q.Voters-have {
			if w.termAt(n) == w.q.Term {
				w.q.High = n
			}
			return
		}
	}
}

// tick is 14.9, and 14.10.
func (w *words) tick(draw int) {
	w.q.Clock++
	if w.q.Role == 4 {
		near := 0
		for i := range w.q.Quiet {
			if i+1 == w.q.Id {
				near++
				continue
			}
			w.q.Quiet[i]++
			if w.q.Quiet[i] < 20 {
				near++
			}
		}
		if near <= w.q.Voters-near {
			w.toOthers(api.Rpc{Kind: 6, Leader: w.q.Id})
			w.follow(w.q.Term, 0)
			w.q.Clock = 0
			return
		}
		for i, n := range w.q.Quiet {
			if i+1 != w.q.Id && n%3 == 0 {
				w.says(i+1, api.Rpc{Kind: 5, Leader: w.q.Id})
			}
		}
		return
	}
	late := uint64(w.q.Clock) >= 10+uint64(draw)%10
	if late && w.voter(w.q.Id) {
		w.follow(w.q.Term, 0)
		w.poll(2)
	} else if late {
		w.follow(w.q.Term, 0)
		w.q.Clock = 0
		w.fetch(1)
	} else if w.q.Role == 1 {
		w.fetch(w.q.Leader)
	} else if !w.voter(w.q.Id) {
		w.fetch(1 + w.q.Clock%w.q.Voters)
	}
}

// receive is 14.11.
func (w *words) receive(x api.Rpc) {
	if x.To != w.q.Id || x.From < 1 || x.From == w.q.Id || x.Term < 0 || x.Term > 1<<30 {
		return
	}
	if x.At < 0 || x.AtTerm < 0 || x.High < 0 || x.Size < 0 || x.Pos < 0 {
		return
	}
	if x.Term > w.q.Term {
		switch {
		case x.Kind == 1 && x.Pre:
		case x.Kind == 2 && x.Pre && x.Ok:
		default:
			w.follow(x.Term, 0)
		}
	}
	switch x.Kind {
	case 1:
		w.qVote(x)
	case 2:
		w.aVote(x)
	case 3:
		w.qFetch(x)
	case 4:
		w.aFetch(x)
	case 5:
		if x.Term < w.q.Term {
			w.says(x.From, api.Rpc{Kind: 4, Code: 11, Leader: w.q.Leader})
		} else if w.its(x) {
			w.fetch(x.From)
		}
	case 6:
		if x.Term == w.q.Term && w.q.Role == 1 && x.From == w.q.Leader {
			w.follow(w.q.Term, 0)
			w.q.Clock = 10
		}
	case 7:
		w.qSnap(x)
	case 8:
		w.aSnap(x)
	}
}

// qVote is 14.12.
func (w *words) qVote(x api.Rpc) {
	if !w.voter(w.q.Id) || !w.voter(x.From) {
		return
	}
	at, term := w.end()
	newer := x.AtTerm > term || (x.AtTerm == term && x.At >= at)
	ok := false
	if x.Pre {
		if newer && x.Term >= w.q.Term && w.q.Role != 4 {
			ok = w.q.Leader == 0 || w.q.Clock >= 10
		}
	} else if newer && x.Term == w.q.Term {
		if w.q.Vote == x.From || (w.q.Vote == 0 && w.q.Leader == 0) {
			ok = true
			w.follow(w.q.Term, 0)
			w.q.Vote = x.From
			w.q.Clock = 0
		}
	}
	w.says(x.From, api.Rpc{Kind: 2, Pre: x.Pre, Ok: ok, Leader: w.q.Leader})
}

// aVote is 14.13.
func (w *words) aVote(x api.Rpc) {
	if !w.voter(x.From) {
		return
	}
	if x.Pre {
		if w.q.Role != 2 {
			return
		}
	} else if w.q.Role != 3 || x.Term != w.q.Term {
		return
	}
	if x.Ok {
		w.q.Yes[x.From-1] = 1
		w.count()
		return
	}
	w.q.Yes[x.From-1] = 2
	if x.Leader != 0 && x.Leader != w.q.Id && x.Term == w.q.Term {
		w.follow(w.q.Term, x.Leader)
	}
}

// serves is 14.14.
func (w *words) serves(x api.Rpc) bool {
	if w.q.Role != 4 {
		w.says(x.From, api.Rpc{Kind: 4, Code: 12, Leader: w.q.Leader})
		return false
	}
	if x.Term < w.q.Term {
		w.says(x.From, api.Rpc{Kind: 4, Code: 11, Leader: w.q.Leader})
		return false
	}
	if w.voter(x.From) {
		w.q.Quiet[x.From-1] = 0
	}
	return true
}

// lastOf is the last offset at which a log (from one ahead of its base on) has a term that is not above one, and that term; -1: there is none. Where the term behind begins the one ahead ends.
func (w *words) lastOf(term int) (int, int) {
	for i := len(w.q.Log); i > 0; i-- {
		if w.q.Log[i-1].Term <= term {
			return w.q.Base + i, w.q.Log[i-1].Term
		}
	}
	if w.q.Base > 0 && w.q.BaseTerm <= term {
		return w.q.Base, w.q.BaseTerm
	}
	return -1, -1
}

// qFetch is 14.15.
func (w *words) qFetch(x api.Rpc) {
	if !w.serves(x) {
		return
	}
	if w.termAt(x.At) == x.AtTerm {
		if w.voter(x.From) {
			w.q.Ends[x.From-1] = max(w.q.Ends[x.From-1], x.At)
			w.look()
		}
		var four []api.Batch
		for _, b := range w.q.Log {
			if b.Base >= x.At && len(four) < 4 {
				four = append(four, b)
			}
		}
		w.says(x.From, api.Rpc{Kind: 4, Leader: w.q.Id, High: w.q.High, At: x.At, AtTerm: x.AtTerm, Batches: four})
		return
	}
	at, term := w.lastOf(x.AtTerm)
	answer := api.Rpc{Kind: 4, Leader: w.q.Id, High: w.q.High, Code: 15, At: max(at, 0), AtTerm: max(term, 0)}
	if at < 0 && w.q.Base > 0 || x.At < w.q.Base {
		answer.Code, answer.At, answer.AtTerm = 20, w.q.Base, w.q.BaseTerm
	}
	w.says(x.From, answer)
}

// its is 14.16.
func (w *words) its(x api.Rpc) bool {
	if x.Term < w.q.Term || w.q.Role == 4 {
		return false
	}
	if w.q.Leader == 0 && x.Leader != 0 && x.Leader != w.q.Id {
		w.follow(w.q.Term, x.Leader)
	}
	if x.From == x.Leader && x.From == w.q.Leader {
		w.q.Clock = 0
		return true
	}
	return false
}

// aFetch is 14.17.
func (w *words) aFetch(x api.Rpc) {
	if !w.its(x) {
		return
	}
	end, endTerm := w.end()
	switch {
	case x.Code == 15:
		keep, term := w.lastOf(x.AtTerm)
		if term == x.AtTerm {
			keep = min(keep, x.At)
		}
		if keep = max(keep, w.q.High); keep < end {
			w.q.Log = w.q.Log[:keep-w.q.Base]
			w.fetch(x.From)
		}
	case x.Code == 20 && x.At > w.q.High && x.At != w.q.Load.End:
		w.q.Load = api.Load{End: x.At, Term: x.AtTerm}
		w.fetch(x.From)
	case x.Code == 0 && x.At == end && x.AtTerm == endTerm:
		w.q.Log = append(w.q.Log, x.Batches...)
		end, _ = w.end()
		if high := min(x.High, end); high > w.q.High {
			w.q.High = high
		}
		if len(x.Batches) > 0 {
			w.fetch(x.From)
		}
	}
}

// qSnap is 14.18.
func (w *words) qSnap(x api.Rpc) {
	if !w.serves(x) {
		return
	}
	answer := api.Rpc{Kind: 8, Leader: w.q.Id, At: w.q.Base, AtTerm: w.q.BaseTerm, Code: 20}
	if x.At == w.q.Base && x.AtTerm == w.q.BaseTerm && w.q.Base > 0 && x.Pos <= len(w.q.Shot) {
		answer.Code, answer.Size, answer.Pos, answer.Data = 0, len(w.q.Shot), x.Pos, w.q.Shot[x.Pos:]
		if len(answer.Data) > 512 {
			answer.Data = answer.Data[:512]
		}
	}
	w.says(x.From, answer)
}

// aSnap is 14.19.
func (w *words) aSnap(x api.Rpc) {
	if !w.its(x) || w.q.Load.End <= 0 {
		return
	}
	if x.Code != 0 {
		w.q.Load = api.Load{}
		if x.At > w.q.High {
			w.q.Load = api.Load{End: x.At, Term: x.AtTerm}
		}
		w.fetch(x.From)
		return
	}
	if x.At != w.q.Load.End || x.AtTerm != w.q.Load.Term || x.Pos != len(w.q.Load.Data) {
		return
	}
	w.q.Load.Data = append(w.q.Load.Data, x.Data...)
	w.q.Load.Size = x.Size
	came := len(w.q.Load.Data)
	if came != x.Size && len(x.Data) == 0 {
		return
	}
	if came >= x.Size {
		load := w.q.Load
		w.q.Load = api.Load{}
		if load.End > w.q.High {
			if w.termAt(load.End) != load.Term {
				w.q.Base, w.q.BaseTerm, w.q.Shot, w.q.Log = load.End, load.Term, load.Data, nil
			}
			if w.q.Base == load.End {
				w.q.High = load.End
			}
		}
	}
	w.fetch(x.From)
}

// numbers draws numbers for members and messages that are made up.
type numbers struct{ *rand.Rand }

// list is so many numbers, each below most.
func (n numbers) list(many, most int) []int {
	l := make([]int, many)
	for i := range l {
		l[i] = n.IntN(most)
	}
	return l
}

// member is one that may be: its lists and whom it follows agree with its role, and its terms do not fall.
func (n numbers) member() api.Quorum {
	q := api.Quorum{Voters: 1 + n.IntN(7), Base: n.IntN(4), Clock: n.IntN(22)}
	q.Id = 1 + n.IntN(q.Voters+1)
	if q.Base > 0 {
		q.BaseTerm, q.Shot = n.IntN(3), ramp(n.IntN(4)*n.IntN(400))
	}
	term := max(1, q.BaseTerm)
	for range n.IntN(7) {
		term += n.IntN(2)
		q.Log = append(q.Log, logOf(q.Base+len(q.Log), term)...)
	}
	q.Term, q.Vote, q.High = term+n.IntN(2), n.IntN(q.Voters+1), q.Base+n.IntN(len(q.Log)+1)
	q.Role = n.IntN(5)
	if q.Id > q.Voters {
		q.Role = n.IntN(2)
	}
	switch q.Role {
	case api.Follow:
		q.Leader = q.Id%q.Voters + 1
	case api.Ask, api.Stand:
		q.Yes = n.list(q.Voters, 3)
	case api.Lead:
		q.Leader, q.Ends, q.Quiet = q.Id, n.list(q.Voters, 12), n.list(q.Voters, 24)
	}
	if n.IntN(3) == 0 {
		q.Load = api.Load{End: n.IntN(12), Term: n.IntN(4), Size: n.IntN(9), Data: ramp(n.IntN(4))}
	}
	return q
}

// message is one for a member, of small numbers, often such as fit.
func (n numbers) message(q api.Quorum) api.Rpc {
	x := api.Rpc{
		Kind: n.IntN(10), From: n.IntN(q.Voters + 3), To: q.Id, Term: q.Term + n.IntN(3) - 1, Pre: n.IntN(2) == 0, Ok: n.IntN(2) == 0,
		Leader: n.IntN(q.Voters + 2), At: q.Base + n.IntN(9) - 2, AtTerm: n.IntN(6), High: n.IntN(12),
		Size: n.IntN(6), Pos: n.IntN(4), Data: ramp(n.IntN(4)),
	}
	if n.IntN(2) == 0 {
		x.Leader = x.From
	}
	if n.IntN(2) == 0 {
		x.From, x.Leader = q.Leader, q.Leader
	}
	switch n.IntN(5) {
	case 0:
		x.At, x.AtTerm = quorum.End(q)
	case 1:
		x.AtTerm, _ = quorum.TermAt(q, x.At)
	case 2:
		x.At, x.AtTerm = q.Base, q.BaseTerm
	case 3:
		x.At, x.AtTerm, x.Pos = q.Load.End, q.Load.Term, len(q.Load.Data)
	}
	if n.IntN(2) == 0 {
		x.Code = []int{int(api.ErrDiverge), int(api.ErrStale), int(api.ErrLeader), 1}[n.IntN(4)]
	}
	if n.IntN(2) == 0 {
		x.Batches = logOf(x.At, slices.Repeat([]int{max(1, q.Term)}, n.IntN(5))...)
	}
	return x
}

// TestWords: 14.4 to 14.20: what becomes of many made-up members by a tick, and by a message, is what the chapter's words say.
func TestWords(t *testing.T) {
	n := numbers{rand.New(rand.NewPCG(14, 14))}
	for range 60000 {
		q := n.member()
		draw := int(n.Uint64())
		w := &words{q: quorum.Copy(q)}
		w.tick(draw)
		got, sent := quorum.Tick(q, draw)
		same(t, "tick", got, w.q, sent, w.out)
		for range 4 {
			x := n.message(q)
			w = &words{q: quorum.Copy(q)}
			w.receive(x)
			got, sent = quorum.Receive(q, x)
			same(t, "message", got, w.q, sent, w.out)
			if t.Failed() {
				t.Fatalf("%+v\nto %+v", x, q)
			}
		}
	}
}

// wild is a number of any size.
func (n numbers) wild() int {
	switch n.IntN(4) {
	case 0:
		return int(n.Uint64())
	case 1:
		return []int{-1 << 63, 1<<63 - 1, -1, 1<<63 - 2, -1<<63 + 1, api.MaxNum, 0}[n.IntN(7)]
	}
	return n.IntN(12) - 2
}

// TestWild: P0: no call panics, nor goes on for ever, whichever member, and message, it is given.
func TestWild(t *testing.T) {
	n := numbers{rand.New(rand.NewPCG(15, 14))}
	for range 60000 {
		q := api.Quorum{Id: n.wild(), Voters: n.wild(), Term: n.wild(), Vote: n.wild(), Role: n.IntN(6), Leader: n.wild(), Base: n.wild(), BaseTerm: n.wild(),
			High: n.wild(), Ends: n.list(n.IntN(9), 9), Quiet: n.list(n.IntN(9), 24), Yes: n.list(n.IntN(9), 3), Clock: n.wild(), Shot: ramp(n.IntN(600)),
			Load: api.Load{End: n.wild(), Term: n.wild(), Size: n.wild(), Data: ramp(n.IntN(9))}}
		for range n.IntN(6) {
			q.Log = append(q.Log, api.Batch{Term: n.wild(), Base: n.wild()})
		}
		x := n.message(api.Quorum{Id: q.Id, Voters: 3, Term: q.Term, Base: q.Base, BaseTerm: q.BaseTerm, Log: q.Log, Load: q.Load, Leader: q.Leader})
		if n.IntN(2) == 0 {
			x.At, x.AtTerm, x.High, x.Size, x.Pos = n.wild(), n.wild(), n.wild(), n.wild(), n.wild()
		}
		quorum.Tick(q, n.wild())
		quorum.Receive(q, x)
		quorum.Propose(q, []api.Record{{Kind: api.RNoop}})
		quorum.Compact(q, n.wild(), nil)
		quorum.End(q)
		quorum.TermAt(q, n.wild())
		quorum.Copy(q)
	}
}
