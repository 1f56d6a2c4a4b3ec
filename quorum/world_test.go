package quorum_test

import (
	"bytes"
	"math/rand/v2"
	"testing"

	"castellan/api"
	"castellan/batch"
	"castellan/quorum"
	"castellan/rpc"
)

// onward is a member that took a message, and what is on its way then.
func onward(q api.Quorum, x api.Rpc, way []api.Rpc) (api.Quorum, []api.Rpc) {
	q, sent := quorum.Receive(q, x)
	return q, append(way, sent...)
}

// world is members, what is on its way between them, and all that was seen of them.
type world struct {
	t         *testing.T
	chance    *rand.Rand
	members   []api.Quorum
	way       []api.Rpc
	leaders   map[int]int
	committed []api.Batch
	made      int
	// How often what a run is to come by came about.
	led, cuts, shots, refused int
}

// newWorld is so many voters, and members behind that only fetch.
func newWorld(t *testing.T, seed uint64, voters, watchers int) *world {
	w := &world{t: t, chance: rand.New(rand.NewPCG(seed, 14)), leaders: map[int]int{}}
	for i := range voters + watchers {
		q, err := quorum.New(i+1, voters)
		if err != nil {
			t.Fatal(err)
		}
		w.members = append(w.members, q)
	}
	return w
}

// shotOf is the snapshot of all that is committed up to an offset: some bytes of each batch.
func (w *world) shotOf(offset int) []byte {
	var shot []byte
	for _, b := range w.committed[:offset] {
		shot = append(shot, bytes.Repeat([]byte{byte(b.Term), byte(len(b.Records)), byte(b.Records[0].Topic)}, 15)...)
	}
	return shot
}

// set has a member be what came of it, and looks whether it may be.
func (w *world) set(i int, q api.Quorum, sent []api.Rpc) {
	w.t.Helper()
	old := w.members[i]
	w.members[i] = q
	for _, x := range sent {
		if err := rpc.Check(x); err != nil || x.From != q.Id {
			w.t.Fatalf("%+v: %v", x, err)
		}
	}
	w.way = append(w.way, sent...)
	if q.Id != old.Id || q.Term < old.Term || q.Term == old.Term && old.Vote != 0 && q.Vote != old.Vote {
		w.t.Fatalf("%+v\nbecomes\n%+v", old, q)
	}
	if q.Role == api.Lead {
		if w.leaders[q.Term] == 0 {
			w.leaders[q.Term] = q.Id
			w.led++
		}
		if w.leaders[q.Term] != q.Id {
			w.t.Fatalf("%d and %d lead in term %d", w.leaders[q.Term], q.Id, q.Term)
		}
	}
	w.log(q)
	if end, _ := quorum.End(old); q.Base == old.Base && len(q.Log) < end-old.Base {
		w.cuts++
	} else if q.Base > end {
		w.shots++
	}
}

// log looks whether what a member knows as committed is what all know so, and whether its log may be.
func (w *world) log(q api.Quorum) {
	w.t.Helper()
	end, last := quorum.End(q)
	if q.High < q.Base || q.High > end || last > q.Term {
		w.t.Fatalf("%+v", q)
	}
	term := q.BaseTerm
	for i, b := range q.Log {
		if b.Base != q.Base+i || b.Term < term {
			w.t.Fatalf("batch %d of %+v", i, q)
		}
		term = b.Term
		if b.Base >= q.High {
			continue
		}
		if b.Base == len(w.committed) {
			w.committed = append(w.committed, b)
		}
		if !batch.Same(b, w.committed[b.Base]) {
			w.t.Fatalf("%d knows %+v as committed, not %+v", q.Id, b, w.committed[b.Base])
		}
	}
	if q.Base > len(w.committed) || !bytes.Equal(q.Shot, w.shotOf(q.Base)) {
		w.t.Fatalf("%d has a snapshot of %d that is not what is committed: %v", q.Id, q.Base, q.Shot)
	}
}

// deliver has a message come.
func (w *world) deliver(x api.Rpc) {
	w.t.Helper()
	q, sent := quorum.Receive(w.members[x.To-1], x)
	w.set(x.To-1, q, sent)
}

// take is a message that is on its way, of any age, and stays there, if that is said.
func (w *world) take(stays bool) (api.Rpc, bool) {
	if len(w.way) == 0 {
		return api.Rpc{}, false
	}
	i := w.chance.IntN(len(w.way))
	if w.chance.IntN(3) > 0 {
		i = 0
	}
	x := w.way[i]
	if !stays {
		w.way = append(w.way[:i:i], w.way[i+1:]...)
	}
	return x, true
}

// propose has who leads, or takes itself for the leader, propose something.
func (w *world) propose(i int) {
	w.t.Helper()
	w.made++
	q, at, err := quorum.Propose(w.members[i], []api.Record{{Kind: api.RDrop, Topic: w.made}})
	if w.members[i].Role != api.Lead {
		w.refused++
		if err != wrong("propose", w.members[i].Leader, api.ErrLeader) || at != 0 || text(q) != text(w.members[i]) {
			w.t.Fatalf("%+v, %d, %v", q, at, err)
		}
		return
	}
	if end, _ := quorum.End(w.members[i]); err != nil || at != end {
		w.t.Fatalf("%d, %v", at, err)
	}
	w.set(i, q, nil)
}

// fall has a member begin anew with what it had.
func (w *world) fall(i int) {
	w.t.Helper()
	q := w.members[i]
	q, err := quorum.Restart(q.Id, q.Voters, q.Term, q.Vote, q.Base, q.BaseTerm, q.Log, q.Shot)
	if err != nil {
		w.t.Fatal(err)
	}
	w.set(i, q, nil)
}

// compact has a member take some of what is committed into a snapshot.
func (w *world) compact(i int) {
	w.t.Helper()
	q := w.members[i]
	if q.High == q.Base {
		return
	}
	offset := q.Base + 1 + w.chance.IntN(q.High-q.Base)
	q, err := quorum.Compact(q, offset, w.shotOf(offset))
	if err != nil {
		w.t.Fatal(err)
	}
	w.set(i, q, nil)
}

// deaf is which members are to hear of nothing for a while, nor are heard: none, whoever leads, or some.
func (w *world) deaf() int {
	deaf := 0
	switch w.chance.IntN(3) {
	case 0:
		deaf = w.chance.IntN(1 << len(w.members))
	case 1:
		for i, q := range w.members {
			if q.Role == api.Lead {
				deaf |= 1 << i
			}
		}
	}
	return deaf
}

// step is anything that may come about, but that the deaf hear of nothing. Of too many messages the eldest are lost.
func (w *world) step(deaf int) {
	w.t.Helper()
	w.way = w.way[max(0, len(w.way)-40):]
	i := w.chance.IntN(len(w.members))
	switch n := w.chance.IntN(200); {
	case n < 90:
		q, sent := quorum.Tick(w.members[i], w.chance.Int())
		w.set(i, q, sent)
	case n < 172:
		if x, ok := w.take(n < 100); ok && deaf>>(x.To-1)&1 == 0 && deaf>>(x.From-1)&1 == 0 {
			w.deliver(x)
		}
	case n < 178:
		w.take(false)
	case n < 194:
		if w.members[i].Role == api.Lead || n == 193 {
			w.propose(i)
		}
	case n < 196:
		w.fall(i)
	default:
		w.compact(i)
	}
}

// calm is rounds in which nothing is lost, nor late, and nobody falls; up to the round in which all agree.
func (w *world) calm() {
	w.t.Helper()
	for range 400 {
		if w.agree() {
			return
		}
		for i, q := range w.members {
			q, sent := quorum.Tick(q, w.chance.Int())
			w.set(i, q, sent)
		}
		for n := 0; len(w.way) > 0; n++ {
			x := w.way[0]
			w.way = w.way[1:]
			w.deliver(x)
			if n > 100000 {
				w.t.Fatalf("messages have no end: %+v", x)
			}
		}
	}
	for _, q := range w.members {
		w.t.Errorf("%+v", q)
	}
	w.t.Fatal("they do not agree")
}

// agree tells whether one leads, whom all others follow, and all is committed, and known so by all.
func (w *world) agree() bool {
	first := w.members[0]
	for _, q := range w.members {
		end, term := quorum.End(q)
		wantEnd, wantTerm := quorum.End(first)
		if q.Leader == 0 || q.Leader != first.Leader || q.Term != first.Term || (q.Role == api.Lead) != (q.Id == q.Leader) {
			return false
		}
		if q.High != end || end != wantEnd || term != wantTerm {
			return false
		}
	}
	return true
}

// TestWorld: 14.23: whatever is lost, late, or comes twice, and whoever falls, and compacts: no two lead in one term, what is committed stays, and is the same for all; in the calm all agree, and what is proposed then is committed.
func TestWorld(t *testing.T) {
	led, cuts, shots, refused := 0, 0, 0, 0
	for seed := range uint64(420) {
		voters, watchers := 1+int(seed%7), int(seed/7%3)
		w := newWorld(t, seed, voters, watchers)
		for range 8 {
			deaf := w.deaf()
			for range 50 + w.chance.IntN(450) {
				w.step(deaf)
			}
		}
		w.calm()
		had := len(w.committed)
		w.propose(w.members[0].Leader - 1)
		w.calm()
		if len(w.committed) != had+1 {
			t.Fatalf("%d: %d batches, not one more than %d", seed, len(w.committed), had)
		}
		led, cuts, shots, refused = led+w.led, cuts+w.cuts, shots+w.shots, refused+w.refused
	}
	t.Logf("%d led, %d cuts, %d snapshots, %d refused", led, cuts, shots, refused)
	if led < 1500 || cuts < 200 || shots < 200 {
		t.Errorf("%d led, %d cuts, %d snapshots: too few to tell", led, cuts, shots)
	}
}
