package quorum

import (
	"slices"

	"castellan/api"
	"castellan/spans"
)

// receive takes on a message, by its kind.
func (m *member) receive(x api.Rpc) {
	if !m.takes(x) {
		return
	}
	// Who asks ahead has not begun that term, and who grants that may be of any.
	ahead := x.Pre && (x.Kind == api.QVote || x.Kind == api.AVote && x.Ok)
	if x.Term > m.Term && !ahead {
		m.follow(x.Term, 0)
	}
	switch x.Kind {
	case api.QVote:
		m.asked(x)
	case api.AVote:
		m.voted(x)
	case api.QFetch:
		m.giveBatches(x)
	case api.AFetch:
		m.takeBatches(x)
	case api.QBegin:
		m.begun(x)
	case api.QEnd:
		m.ended(x)
	case api.QSnap:
		m.giveSnapshot(x)
	case api.ASnap:
		m.takeSnapshot(x)
	}
}

// takes tells whether a message may be, and is for this member.
func (m *member) takes(x api.Rpc) bool {
	if x.To != m.Id || x.From < 1 || x.From == m.Id || x.Term < 0 || x.Term > api.MaxNum {
		return false
	}
	return min(x.At, x.AtTerm, x.High, x.Size, x.Pos) >= 0
}

// other tells whether a number is somebody, and not the member itself.
func (m *member) other(id int) bool { return id != 0 && id != m.Id }

// newer tells whether a log that ends so has all that this one may have committed.
func (m *member) newer(x api.Rpc) bool {
	end, term := m.end()
	return x.AtTerm > term || x.AtTerm == term && x.At >= end
}

// asked answers who asks for a vote.
func (m *member) asked(x api.Rpc) {
	if !m.votes(m.Id) || !m.votes(x.From) {
		return
	}
	ok := m.newer(x)
	if x.Pre {
		ok = ok && m.wouldVote(x)
	} else {
		ok = ok && m.mayVote(x)
		if ok {
			m.follow(m.Term, 0)
			m.Vote, m.Clock = x.From, 0
		}
	}
	m.send(x.From, api.Rpc{Kind: api.AVote, Pre: x.Pre, Ok: ok, Leader: m.Leader})
}

// wouldVote tells whether who asks ahead may hope: nobody leads, as far as the member heard lately.
func (m *member) wouldVote(x api.Rpc) bool {
	return x.Term >= m.Term && m.Role != api.Lead && (m.Leader == 0 || m.Clock >= api.Least)
}

// mayVote tells whether the member's vote is there to be given to who asks, or was.
func (m *member) mayVote(x api.Rpc) bool {
	return x.Term == m.Term && (m.Vote == x.From || m.Vote == 0 && m.Leader == 0)
}

// voted takes on a vote.
func (m *member) voted(x api.Rpc) {
	waits := m.Role == api.Stand && x.Term == m.Term
	if x.Pre {
		waits = m.Role == api.Ask
	}
	if !waits || !m.votes(x.From) {
		return
	}
	if x.Ok {
		m.Yes = m.with(m.Yes, x.From, 1)
		m.count()
		return
	}
	m.Yes = m.with(m.Yes, x.From, 2)
	if m.other(x.Leader) && x.Term == m.Term {
		m.follow(m.Term, x.Leader)
	}
}

// serves tells whether the member gives who asks what it has; else it answers why not.
func (m *member) serves(x api.Rpc) bool {
	if m.Role != api.Lead {
		m.refuse(x, api.ErrLeader)
		return false
	}
	if x.Term < m.Term {
		m.refuse(x, api.ErrEpoch)
		return false
	}
	if m.votes(x.From) {
		m.Quiet = m.with(m.Quiet, x.From, 0)
	}
	return true
}

// refuse answers who asks with a code, and who leads.
func (m *member) refuse(x api.Rpc, c api.Code) {
	m.send(x.From, api.Rpc{Kind: api.AFetch, Code: int(c), Leader: m.Leader})
}

// giveBatches answers who fetches: with batches, or with where the logs part, or that a snapshot is to be fetched.
func (m *member) giveBatches(x api.Rpc) {
	if !m.serves(x) {
		return
	}
	answer := api.Rpc{Kind: api.AFetch, Leader: m.Id, At: x.At, AtTerm: x.AtTerm}
	if term, known := TermAt(m.Quorum, x.At); known && term == x.AtTerm {
		m.has(x.From, x.At)
		behind := m.Log[x.At-m.Base:]
		answer.Batches = copies(behind[:min(len(behind), api.MaxFetch)])
	} else {
		answer.Code, answer.At, answer.AtTerm = m.parted(x)
	}
	answer.High = m.High
	m.send(x.From, answer)
}

// has keeps up to where a voter has the log.
func (m *member) has(id, at int) {
	if !m.votes(id) {
		return
	}
	ends := m.all(m.Ends)
	ends[id-1] = max(ends[id-1], at)
	m.Ends = ends
	m.look()
}

// parted is where the log of who fetches parts from this one, and the term there; or the base, if that is ahead of it.
func (m *member) parted(x api.Rpc) (int, int, int) {
	end, _ := m.end()
	term, at, ok := spans.EndOf(spans.Of(m.Base, m.BaseTerm, m.Log), x.AtTerm, end)
	if !ok && m.Base > 0 || ok && at < m.Base || x.At < m.Base {
		return int(api.ErrStale), m.Base, m.BaseTerm
	}
	return int(api.ErrDiverge), at, term
}

// led tells whether an answer is its leader's; who knows none learns of one.
func (m *member) led(x api.Rpc) bool {
	if x.Term < m.Term || m.Role == api.Lead {
		return false
	}
	if m.Leader == 0 && m.other(x.Leader) {
		m.follow(m.Term, x.Leader)
	}
	if x.From != x.Leader || x.From != m.Leader {
		return false
	}
	m.Clock = 0
	return true
}

// takeBatches takes on what a fetch was answered.
func (m *member) takeBatches(x api.Rpc) {
	if !m.led(x) {
		return
	}
	switch api.Code(x.Code) {
	case api.ErrDiverge:
		m.cut(x)
	case api.ErrStale:
		if x.At > m.High && x.At != m.Load.End {
			m.Load = api.Load{End: x.At, Term: x.AtTerm}
			m.fetch(x.From)
		}
	case 0:
		m.extend(x)
	}
}

// cut cuts the log back to where it parts from the leader's at the latest; what is committed stays.
func (m *member) cut(x api.Rpc) {
	end, _ := m.end()
	keep := spans.Keep(spans.Of(m.Base, m.BaseTerm, m.Log), end, x.AtTerm, x.At)
	keep = max(keep, m.High)
	if keep >= end {
		return
	}
	m.Log = slices.Clip(m.Log[:max(keep-m.Base, 0)])
	m.fetch(x.From)
}

// extend puts the leader's batches behind the log, if they belong there.
func (m *member) extend(x api.Rpc) {
	if end, term := m.end(); x.At != end || x.AtTerm != term {
		return
	}
	m.Log = append(slices.Clip(m.Log), copies(x.Batches)...)
	end, _ := m.end()
	m.High = max(m.High, min(x.High, end))
	if len(x.Batches) > 0 {
		m.fetch(x.From)
	}
}

// begun takes on that somebody leads.
func (m *member) begun(x api.Rpc) {
	if x.Term < m.Term {
		m.refuse(x, api.ErrEpoch)
		return
	}
	if m.led(x) {
		m.fetch(x.From)
	}
}

// ended takes on that who leads does so no more: then the member is late as soon as its draw lets it.
func (m *member) ended(x api.Rpc) {
	if x.Term == m.Term && m.Role == api.Follow && x.From == m.Leader {
		m.follow(m.Term, 0)
		m.Clock = api.Least
	}
}

// giveSnapshot answers who fetches the snapshot with the bytes from a place on.
func (m *member) giveSnapshot(x api.Rpc) {
	if !m.serves(x) {
		return
	}
	answer := api.Rpc{Kind: api.ASnap, Leader: m.Id, At: m.Base, AtTerm: m.BaseTerm}
	if m.Base > 0 && x.At == m.Base && x.AtTerm == m.BaseTerm && x.Pos <= len(m.Shot) {
		answer.Size, answer.Pos = len(m.Shot), x.Pos
		answer.Data = slices.Clone(m.Shot[x.Pos:min(len(m.Shot), x.Pos+api.MaxChunk)])
	} else {
		answer.Code = int(api.ErrStale)
	}
	m.send(x.From, answer)
}

// takeSnapshot takes on bytes of the snapshot that is fetched.
func (m *member) takeSnapshot(x api.Rpc) {
	if !m.led(x) || m.Load.End <= 0 {
		return
	}
	if x.Code != 0 {
		m.Load = api.Load{}
		if x.At > m.High {
			m.Load = api.Load{End: x.At, Term: x.AtTerm}
		}
		m.fetch(x.From)
		return
	}
	if x.At != m.Load.End || x.AtTerm != m.Load.Term || x.Pos != len(m.Load.Data) {
		return
	}
	m.Load.Data = append(slices.Clip(m.Load.Data), x.Data...)
	m.Load.Size = x.Size
	many := len(m.Load.Data)
	if many != m.Load.Size && len(x.Data) == 0 {
		// To ask for the same again at once would never end.
		return
	}
	if many >= m.Load.Size {
		m.settle()
	}
	m.fetch(x.From)
}

// settle takes the snapshot that was fetched for what it has, but where its log has that already.
func (m *member) settle() {
	load := m.Load
	m.Load = api.Load{}
	if load.End <= m.High {
		return
	}
	if term, known := TermAt(m.Quorum, load.End); !known || term != load.Term {
		m.Base, m.BaseTerm, m.Shot, m.Log = load.End, load.Term, load.Data, nil
	}
	if m.Base == load.End {
		m.High = load.End
	}
}
