package image_test

import (
	"testing"

	"castellan/api"
	"castellan/image"
)

// What 15.3 says is wrong with a partition.
func badIds() error    { return wrong("ids", 0, api.ErrReplicas) }
func badIsr() error    { return wrong("isr", 0, api.ErrReplicas) }
func badLeader() error { return wrong("leader", 0, api.ErrFenced) }
func badMoves() error  { return wrong("moves", 0, api.ErrReplicas) }

// wrongParts are partitions that may not be in the town, and what is told of each: of several things the first one.
func wrongParts() []struct {
	p   api.Part
	why error
} {
	return []struct {
		p   api.Part
		why error
	}{
		{api.Part{}, badIds()},
		{api.Part{Ids: []int{}, Isr: []int{10}, Leader: 10}, badIds()},
		{api.Part{Ids: []int{11}, Isr: []int{11}}, badIds()},
		{api.Part{Ids: []int{10, 20, 30, 1}, Isr: []int{10}, Leader: 10}, badIds()},
		{api.Part{Ids: []int{64, 10}, Isr: []int{10}, Leader: 10}, badIds()},
		{api.Part{Ids: []int{11}, Leader: 11, Add: []int{12}}, badIds()},

		{api.Part{Ids: []int{10}}, badIsr()},
		{api.Part{Ids: []int{10}, Isr: []int{}, Leader: 10}, badIsr()},
		{api.Part{Ids: []int{10}, Isr: []int{20}}, badIsr()},
		{api.Part{Ids: []int{10, 20}, Isr: []int{10, 20, 30}, Leader: 10}, badIsr()},
		{api.Part{Ids: []int{10, 20}, Isr: []int{11, 10}, Leader: 10}, badIsr()},
		{api.Part{Ids: []int{10}, Isr: []int{20}, Leader: 20, Drop: []int{20}}, badIsr()},

		{api.Part{Ids: []int{10, 20}, Isr: []int{10}, Leader: 20}, badLeader()},
		{api.Part{Ids: []int{10, 20}, Isr: []int{10, 20}, Leader: 30}, badLeader()},
		{api.Part{Ids: []int{10}, Isr: []int{10}, Leader: 11}, badLeader()},
		{api.Part{Ids: []int{50}, Isr: []int{50}, Leader: 50}, badLeader()},
		{api.Part{Ids: []int{10, 60}, Isr: []int{10, 60}, Leader: 60}, badLeader()},
		{api.Part{Ids: []int{60}, Isr: []int{60}, Leader: 60, Add: []int{10}}, badLeader()},

		{api.Part{Ids: []int{10}, Isr: []int{10}, Leader: 10, Add: []int{20}}, badMoves()},
		{api.Part{Ids: []int{10}, Isr: []int{10}, Leader: 10, Drop: []int{20}}, badMoves()},
		{api.Part{Ids: []int{10, 20}, Isr: []int{10}, Leader: 10, Add: []int{20, 11}}, badMoves()},
		{api.Part{Ids: []int{10, 20}, Isr: []int{10}, Leader: 10, Drop: []int{10, 20, 30}}, badMoves()},
		{api.Part{Ids: []int{10, 20}, Isr: []int{10}, Leader: 10, Add: []int{20}, Drop: []int{20}}, badMoves()},
		{api.Part{Ids: []int{10, 20}, Isr: []int{10}, Add: []int{10, 20}, Drop: []int{10}}, badMoves()},
		{api.Part{Ids: []int{10, 20}, Isr: []int{10}, Leader: 0, Add: []int{10}, Drop: []int{20, 10}}, badMoves()},
	}
}

// goodParts are partitions that may be in the town.
func goodParts() []api.Part {
	return []api.Part{
		{Ids: []int{30}, Isr: []int{30}, Leader: 30},
		{Ids: []int{30}, Isr: []int{30}},
		{Ids: []int{50}, Isr: []int{50}},
		{Ids: []int{40, 60}, Isr: []int{60, 40}, Leader: 40},
		{Ids: []int{60, 10}, Isr: []int{60}},
		{Ids: []int{60, 50, 40, 30, 20, 10}, Isr: []int{10, 20}, Leader: 20},
		{Ids: []int{10, 20, 30}, Isr: []int{10, 20, 30}, Leader: 30},
		{Ids: []int{10, 20}, Isr: []int{20, 10}, Leader: 10, Add: []int{10, 20}},
		{Ids: []int{10, 20}, Isr: []int{20}, Leader: 20, Drop: []int{20, 10}},
		{Ids: []int{10, 20, 30}, Isr: []int{20}, Leader: 20, Add: []int{30}, Drop: []int{20, 10}},
	}
}

// put is metadata of which a partition of the topic 4 is another one, or one more.
func put(m *api.Image, n int, p api.Part) {
	parts := &m.Topics[2].Parts
	*parts = append(append((*parts)[:n:n], p), (*parts)[min(n+1, len(*parts)):]...)
}

// TestMake: 15.6: a partition is the last one of its topic, of the epoch 0.
func TestMake(t *testing.T) {
	m := town(t)
	for _, p := range goodParts() {
		if p.Add != nil || p.Drop != nil {
			continue
		}
		legal(t, m, made(4, 1, p.Leader, p.Ids, p.Isr), func(m *api.Image) { put(m, 1, p) })
		legal(t, m, made(3, 0, p.Leader, p.Ids, p.Isr), func(m *api.Image) { m.Topics[1].Parts = []api.Part{p} })
		for _, n := range []int{0, 2, 3, 255} {
			refused(t, m, made(4, n, p.Leader, p.Ids, p.Isr), api.ErrState)
		}
		for _, topic := range []int{1, 5, 1 << 30} {
			refused(t, m, made(topic, 0, p.Leader, p.Ids, p.Isr), api.ErrNone)
			refused(t, api.Image{}, made(topic, 0, p.Leader, p.Ids, p.Isr), api.ErrNone)
		}
	}
	for _, w := range wrongParts() {
		if w.p.Add != nil || w.p.Drop != nil {
			continue
		}
		// What is wrong with it is told ahead of its number, and behind its topic.
		refused(t, m, made(4, 1, w.p.Leader, w.p.Ids, w.p.Isr), w.why)
		refused(t, m, made(4, 0, w.p.Leader, w.p.Ids, w.p.Isr), w.why)
		refused(t, m, made(3, 9, w.p.Leader, w.p.Ids, w.p.Isr), w.why)
		refused(t, m, made(5, 0, w.p.Leader, w.p.Ids, w.p.Isr), api.ErrNone)
	}
}

// TestMakeAll: 15.6: there is room for MaxParts (256), and each is the last one in turn.
func TestMakeAll(t *testing.T) {
	m := behind(t, town(t), named(5, "five"))
	p := api.Part{Ids: []int{10, 20}, Isr: []int{20}, Leader: 20}
	for n := range 256 {
		m = behind(t, m, made(5, n, p.Leader, p.Ids, p.Isr))
		refused(t, m, made(5, n, p.Leader, p.Ids, p.Isr), api.ErrState)
	}
	if len(m.Topics[3].Parts) != 256 {
		t.Errorf("%d partitions", len(m.Topics[3].Parts))
	}
	for n, got := range m.Topics[3].Parts {
		if !alike(got, p) {
			t.Errorf("%d: %+v", n, got)
		}
	}
	p.Epoch = 1
	legal(t, m, changed(5, 255, p), func(m *api.Image) { m.Topics[3].Parts[255] = p })
	legal(t, m, changed(5, 0, p), func(m *api.Image) { m.Topics[3].Parts[0] = p })
}

// TestChange: 15.7: a partition becomes any that may be, in its epoch, if the same leads, or in the next one.
func TestChange(t *testing.T) {
	m := town(t)
	for _, p := range goodParts() {
		p.Epoch = 1
		legal(t, m, changed(4, 0, p), func(m *api.Image) { put(m, 0, p) })
		for _, epoch := range []int{2, 3, 1 << 30} {
			p.Epoch = epoch
			refused(t, m, changed(4, 0, p), api.ErrEpoch)
		}
		p.Epoch = 0
		if p.Leader == 10 {
			legal(t, m, changed(4, 0, p), func(m *api.Image) { put(m, 0, p) })
		} else {
			refused(t, m, changed(4, 0, p), api.ErrEpoch)
		}
		for _, topic := range []int{1, 5, 1 << 30} {
			refused(t, m, changed(topic, 0, p), api.ErrNone)
			refused(t, api.Image{}, changed(topic, 0, p), api.ErrNone)
		}
		for _, n := range []int{1, 2, 3, 255} {
			refused(t, m, changed(4, n, p), api.ErrNone)
		}
		refused(t, m, changed(3, 0, p), api.ErrNone)
	}
	for _, w := range wrongParts() {
		for _, epoch := range []int{0, 1, 2} {
			// What is wrong with it is told ahead of all but its topic.
			w.p.Epoch = epoch
			refused(t, m, changed(4, 0, w.p), w.why)
			refused(t, m, changed(4, 1, w.p), w.why)
			refused(t, m, changed(3, 0, w.p), w.why)
			refused(t, m, changed(1, 0, w.p), api.ErrNone)
		}
	}
}

// TestChangeEpochs: 15.7: which epochs may follow, for a partition of the epoch 1 that 10 leads.
func TestChangeEpochs(t *testing.T) {
	m := town(t)
	was := m.Topics[0].Parts[0]
	for epoch := range 5 {
		for _, leader := range []int{0, 10, 20} {
			p := was
			p.Epoch, p.Leader = epoch, leader
			switch {
			case epoch == 1 && leader == 10:
				refused(t, m, changed(2, 0, p), api.ErrState)
			case epoch == 2:
				legal(t, m, changed(2, 0, p), func(m *api.Image) { m.Topics[0].Parts[0] = p })
			default:
				refused(t, m, changed(2, 0, p), api.ErrEpoch)
			}
		}
	}
}

// TestChangeOneThing: 15.7: one thing that is another one is enough, the order of a row, too.
func TestChangeOneThing(t *testing.T) {
	m := town(t)
	was := m.Topics[0].Parts[0]
	for _, change := range []func(p *api.Part){
		func(p *api.Part) { p.Epoch = 2 },
		func(p *api.Part) { p.Ids = []int{20, 10, 50} },
		func(p *api.Part) { p.Ids = []int{10, 20, 50, 30} },
		func(p *api.Part) { p.Isr = []int{10, 20, 50} },
		func(p *api.Part) { p.Isr = []int{10} },
		func(p *api.Part) { p.Add = nil },
		func(p *api.Part) { p.Add = []int{50, 10} },
		func(p *api.Part) { p.Drop = nil },
		func(p *api.Part) { p.Drop = []int{20, 10} },
	} {
		p := was
		change(&p)
		legal(t, m, changed(2, 0, p), func(m *api.Image) { m.Topics[0].Parts[0] = p })
	}
	for n, p := range m.Topics[0].Parts {
		refused(t, m, changed(2, n, p), api.ErrState)
	}
}

// TestChangeNobody: 15.7, 15.13: where nobody leads, nobody else leads in that epoch.
func TestChangeNobody(t *testing.T) {
	m := town(t)
	p := api.Part{Ids: []int{50, 10}, Isr: []int{50, 10}, Leader: 10}
	refused(t, m, changed(2, 2, p), api.ErrEpoch)
	p.Epoch = 1
	legal(t, m, changed(2, 2, p), func(m *api.Image) { m.Topics[0].Parts[2] = p })
	p.Epoch, p.Leader = 0, 0
	legal(t, m, changed(2, 2, p), func(m *api.Image) { m.Topics[0].Parts[2] = p })
}

// TestLastEpoch: 15.7: an epoch is at most MaxNum; there only what that one leads changes.
func TestLastEpoch(t *testing.T) {
	m := town(t)
	// So many changes would take too long, so the epoch ahead of the last one is set by hand.
	parts := m.Topics[0].Parts
	parts[1].Epoch = 1<<30 - 1
	p := api.Part{Ids: []int{20, 10}, Isr: []int{20, 10}, Leader: 10, Epoch: 1 << 30}
	legal(t, m, changed(2, 1, p), func(m *api.Image) { m.Topics[0].Parts[1] = p })
	parts[1] = p
	p.Leader = 20
	refused(t, m, changed(2, 1, p), api.ErrEpoch)
	p.Leader, p.Isr = 10, []int{10}
	legal(t, m, changed(2, 1, p), func(m *api.Image) { m.Topics[0].Parts[1] = p })
}

// TestRecordsMemory: nothing that is written to a partition, or behind its lists, is seen in the record that made it, and the other way round.
func TestRecordsMemory(t *testing.T) {
	for _, r := range []api.Record{
		made(4, 1, 10, []int{10, 20}, []int{10}),
		changed(4, 0, api.Part{Epoch: 1, Leader: 10, Ids: []int{10, 20, 30}, Isr: []int{10}, Add: []int{20}, Drop: []int{30}}),
	} {
		r = roomyRecord(r)
		was := wholeRows(r.Ids, r.Isr, r.Add, r.Drop)
		p, _ := image.Part(behind(t, town(t), r), 4, r.Part)
		spoilPart(p)
		if got := wholeRows(r.Ids, r.Isr, r.Add, r.Drop); got != was {
			t.Errorf("the partition was spoilt, and the record has %s, not %s", got, was)
		}
		p, _ = image.Part(behind(t, town(t), r), 4, r.Part)
		had := text(p)
		spoilPart(api.Part{Ids: r.Ids, Isr: r.Isr, Add: r.Add, Drop: r.Drop})
		if text(p) != had {
			t.Errorf("the record was spoilt, and the partition is %+v, not %s", p, had)
		}
	}
}
