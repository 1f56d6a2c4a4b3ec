package quorum

import (
	"slices"

	"castellan/api"
	"castellan/batch"
)

// member is a member at work, and what it sends. Its lists may be those of another member, too: none is ever written to, another one takes its place.
type member struct {
	api.Quorum
	sent []api.Rpc
}

// voters is how many vote: no quorum has more than so many, so one that says so is not gone through for ever.
func (m *member) voters() int { return max(0, min(m.Voters, api.MaxVoters)) }

// votes tells whether a number is a voter's.
func (m *member) votes(id int) bool { return 1 <= id && id <= m.voters() }

// others is all voters but the member itself.
func (m *member) others() []int {
	var ids []int
	for i := range m.voters() {
		if id := i + 1; id != m.Id {
			ids = append(ids, id)
		}
	}
	return ids
}

// all is what a list says of each voter, in new memory.
func (m *member) all(l []int) []int {
	own := make([]int, m.voters())
	copy(own, l)
	return own
}

// with is a list of all voters, in new memory, that says another number of one of them.
func (m *member) with(l []int, id, n int) []int {
	own := m.all(l)
	if m.votes(id) {
		own[id-1] = n
	}
	return own
}

// most tells whether so many voters are more than half.
func (m *member) most(many int) bool { return 2*many > m.voters() }

// end is the offset behind the last batch, and that one's term.
func (m *member) end() (int, int) { return End(m.Quorum) }

// send has a message wait that somebody is sent.
func (m *member) send(to int, x api.Rpc) {
	x.From, x.To, x.Term = m.Id, to, m.Term
	m.sent = append(m.sent, x)
}

// follow follows somebody, or nobody (0), in a term.
func (m *member) follow(term, leader int) {
	if term > m.Term {
		m.Term, m.Vote = term, 0
	}
	m.Leader, m.Role = leader, api.Idle
	if leader != 0 {
		m.Role, m.Clock = api.Follow, 0
	}
	m.Ends, m.Quiet, m.Yes = nil, nil, nil
}

// fetch asks somebody for what is behind what it has.
func (m *member) fetch(from int) {
	if m.Load.End > 0 {
		m.send(from, api.Rpc{Kind: api.QSnap, At: m.Load.End, AtTerm: m.Load.Term, Pos: len(m.Load.Data)})
		return
	}
	end, term := m.end()
	m.send(from, api.Rpc{Kind: api.QFetch, At: end, AtTerm: term})
}

// poll asks all voters whether it may lead: ahead (Ask), or in earnest (Stand).
func (m *member) poll(role int) {
	m.Role, m.Clock = role, 0
	m.Yes = m.with(nil, m.Id, 1)
	end, term := m.end()
	for _, id := range m.others() {
		m.send(id, api.Rpc{Kind: api.QVote, Pre: role == api.Ask, At: end, AtTerm: term})
	}
	m.count()
}

// count counts the votes: with more than half it stands, or leads.
func (m *member) count() {
	yes := 0
	for _, said := range m.all(m.Yes) {
		if said == 1 {
			yes++
		}
	}
	if !m.most(yes) {
		return
	}
	if m.Role == api.Stand {
		m.lead()
		return
	}
	m.follow(m.Term+1, 0)
	m.Vote = m.Id
	m.poll(api.Stand)
}

// lead begins to lead, with a batch of its own term, for none of an earlier one is known as committed by it.
func (m *member) lead() {
	m.follow(m.Term, 0)
	m.Role, m.Leader = api.Lead, m.Id
	m.Ends, m.Quiet = m.all(nil), m.all(nil)
	m.put(api.Record{Kind: api.RNoop})
	for _, id := range m.others() {
		m.send(id, api.Rpc{Kind: api.QBegin, Leader: m.Id})
	}
}

// put puts a batch of records behind the log.
func (m *member) put(l ...api.Record) {
	end, _ := m.end()
	// Without room behind the log's length the batch goes to new memory.
	m.Log = append(slices.Clip(m.Log), batch.Of(m.Term, end, l...))
	m.Ends = m.with(m.Ends, m.Id, end+1)
	m.look()
}

// look looks at what is committed: what more than half of the voters have, if it ends with a batch of the leader's own term.
func (m *member) look() {
	ends := m.all(m.Ends)
	if len(ends) == 0 {
		return
	}
	slices.Sort(ends)
	// From the middle on (the lower one of two) there are more than half.
	high := ends[(len(ends)-1)/2]
	if term, known := TermAt(m.Quorum, high); known && term == m.Term && high > m.High {
		m.High = high
	}
}

// tick lets the clock go on.
func (m *member) tick(draw int) {
	m.Clock++
	switch {
	case m.Role == api.Lead:
		m.beat()
	case m.Clock >= api.Least+int(uint64(draw)%10):
		m.late()
	case m.Role == api.Follow:
		m.fetch(m.Leader)
	case !m.votes(m.Id) && m.voters() > 0:
		// Whoever knows no leader asks one voter behind the other.
		m.fetch(1 + m.Clock%m.voters())
	}
}

// late has waited long enough for whoever leads.
func (m *member) late() {
	m.follow(m.Term, 0)
	if m.votes(m.Id) {
		m.poll(api.Ask)
		return
	}
	m.Clock = 0
	m.fetch(1)
}

// beat tells whom it did not hear for a while that it leads; but it leads no more, if it did not hear most for too long.
func (m *member) beat() {
	heard := 1
	m.Quiet = m.all(m.Quiet)
	for _, id := range m.others() {
		m.Quiet[id-1]++
		if m.Quiet[id-1] < api.Patience {
			heard++
		}
	}
	if !m.most(heard) {
		m.rest()
		return
	}
	for _, id := range m.others() {
		if m.Quiet[id-1]%api.Beat == 0 {
			m.send(id, api.Rpc{Kind: api.QBegin, Leader: m.Id})
		}
	}
}

// rest leads no more, and tells so.
func (m *member) rest() {
	for _, id := range m.others() {
		m.send(id, api.Rpc{Kind: api.QEnd, Leader: m.Id})
	}
	m.follow(m.Term, 0)
	m.Clock = 0
}
