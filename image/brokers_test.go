package image_test

import (
	"fmt"
	"math"
	"reflect"
	"testing"

	"castellan/api"
	"castellan/image"
	"castellan/record"
)

// TestRecordsThatMayNotBe: 15.1: record's error, wrapped, whatever else is wrong, and the metadata as they were.
func TestRecordsThatMayNotBe(t *testing.T) {
	m := town(t)
	for _, r := range []api.Record{
		{},
		{Kind: -1},
		{Kind: 13},
		{Kind: math.MaxInt},
		{Kind: math.MinInt, Ids: []int{1}},
		{Kind: api.RNoop, Topic: 1},
		born(0, 1, "r"),
		born(65, 1, "r"),
		born(10, -1, "r"),
		born(10, 1<<30+1, "r"),
		born(10, 1, ""),
		{Kind: api.RFence, Broker: 0},
		{Kind: api.ROpen, Broker: 1, Rack: "r"},
		{Kind: api.RLeave, Broker: -1},
		{Kind: api.RGone, Broker: 99, Epoch: 4},
		named(0, "zero"),
		named(5, "Two"),
		named(5, ""),
		made(2, 256, 10, []int{10}, []int{10}),
		made(2, -1, 10, []int{10}, []int{10}),
		made(2, 3, 10, []int{10, 10}, []int{10}),
		made(2, 3, 65, []int{10}, []int{10}),
		{Kind: api.RPart, Topic: 2, Part: 3, Epoch: 1, Ids: []int{10}, Isr: []int{10}},
		{Kind: api.RPart, Topic: 2, Part: 3, Ids: []int{10}, Isr: []int{10}, Add: []int{10}},
		{Kind: api.RPart, Topic: 2, Part: 3, Ids: []int{10}, Isr: []int{10}, Drop: []int{10}},
		changed(2, 0, api.Part{Ids: []int{1, 2, 3, 4, 5, 6, 7, 8}}),
		changed(2, 0, api.Part{Epoch: 1<<30 + 1, Leader: 10, Ids: []int{10}, Isr: []int{10}}),
		set(2, "", "v"),
		set(-1, "k", "v"),
		{Kind: api.RConfig, Topic: 2, Key: "a", Value: "v", Flag: true},
		{Kind: api.RDrop},
		{Kind: api.RDrop, Topic: 2, Name: "two"},
		done(0, 1, 0),
		done(1, 0, 0),
		done(1, 1, 22),
	} {
		got, err := image.Apply(m, r)
		if why := record.Check(r); why == nil || !reflect.DeepEqual(err, wrong("record", r.Kind, why)) {
			t.Errorf("%+v: %#v, where record says %#v", r, err, why)
		}
		if !alike(got, m) || !alike(m, town(t)) {
			t.Errorf("%+v: the metadata are\n%+v", r, got)
		}
	}
}

// TestNoop: 15.1.
func TestNoop(t *testing.T) {
	legal(t, api.Image{}, api.Record{Kind: api.RNoop}, func(m *api.Image) {})
	legal(t, town(t), api.Record{Kind: api.RNoop}, func(m *api.Image) {})
}

// TestRegister: 15.4: brokers stand by their numbers, in whichever order they come.
func TestRegister(t *testing.T) {
	legal(t, api.Image{}, born(64, 0, "r"), func(m *api.Image) {
		m.Brokers = []api.Broker{{Id: 64, Rack: "r", Fenced: true}}
	})
	for place, id := range map[int]int{0: 1, 1: 19, 2: 21, 4: 41, 6: 64} {
		legal(t, town(t), born(id, 1<<30, "new"), func(m *api.Image) {
			b := api.Broker{Id: id, Epoch: 1 << 30, Rack: "new", Fenced: true}
			m.Brokers = append(m.Brokers[:place:place], append([]api.Broker{b}, m.Brokers[place:]...)...)
		})
	}
}

// TestRegisterAgain: 15.4: with a greater epoch, and when it leads nothing; then it is fenced, and does not leave.
func TestRegisterAgain(t *testing.T) {
	m := town(t)
	for _, id := range []int{10, 20, 30, 40, 50, 60} {
		for _, epoch := range []int{0, 3, 4} {
			refused(t, m, born(id, epoch, "new"), api.ErrEpoch)
		}
	}
	for _, id := range []int{10, 20} {
		refused(t, m, born(id, 5, "new"), api.ErrState)
		refused(t, m, born(id, 1<<30, "new"), api.ErrState)
	}
	for place, id := range map[int]int{2: 30, 3: 40, 4: 50, 5: 60} {
		for _, epoch := range []int{5, 6, 1 << 30} {
			legal(t, m, born(id, epoch, "new"), func(m *api.Image) {
				m.Brokers[place] = api.Broker{Id: id, Epoch: epoch, Rack: "new", Fenced: true}
			})
		}
	}
}

// TestTurn: 15.5, each kind, of a broker in each state that comes about.
func TestTurn(t *testing.T) {
	m := behind(t, town(t), born(45, 4, "rack-45"), about(api.ROpen, 45), about(api.RLeave, 45), about(api.RFence, 45))
	kinds := []int{api.RFence, api.ROpen, api.RLeave, api.RGone}
	states := []struct {
		id   int
		may  [4]bool // as the kinds stand
		what string
	}{
		{10, [4]bool{false, false, true, false}, "leads"},
		{20, [4]bool{false, false, false, false}, "leads, and leaves"},
		{30, [4]bool{true, false, true, true}, "is open"},
		{40, [4]bool{true, false, false, true}, "leaves"},
		{45, [4]bool{false, true, false, true}, "is fenced, and leaves"},
		{50, [4]bool{false, true, false, false}, "is fenced, and a replica"},
		{60, [4]bool{false, true, false, true}, "is fenced"},
	}
	for place, s := range states {
		for i, kind := range kinds {
			if !s.may[i] {
				refused(t, m, about(kind, s.id), api.ErrState)
				continue
			}
			legal(t, m, about(kind, s.id), func(m *api.Image) {
				b := &m.Brokers[place]
				switch kind {
				case api.RFence:
					b.Fenced = true
				case api.ROpen:
					b.Fenced, b.Leaving = false, false
				case api.RLeave:
					b.Leaving = true
				case api.RGone:
					m.Brokers = append(m.Brokers[:place], m.Brokers[place+1:]...)
				}
			})
		}
	}
}

// TestTurnWhom: 15.5: of a broker that is not there, and of another epoch, which is told ahead of what it does.
func TestTurnWhom(t *testing.T) {
	m := town(t)
	for _, kind := range []int{api.RFence, api.ROpen, api.RLeave, api.RGone} {
		for _, id := range []int{1, 9, 11, 35, 61, 64} {
			refused(t, m, about(kind, id), api.ErrNone)
			refused(t, api.Image{}, about(kind, id), api.ErrNone)
		}
		for _, id := range []int{10, 20, 30, 40, 50, 60} {
			for _, epoch := range []int{0, 3, 5, 1 << 30} {
				refused(t, m, api.Record{Kind: kind, Broker: id, Epoch: epoch}, api.ErrEpoch)
			}
		}
	}
}

// TestReplicaAlone: 15.5: a broker that is a replica, but neither in sync nor alive, is not gone; once it is no replica, it is.
func TestReplicaAlone(t *testing.T) {
	p := api.Part{Leader: 10, Ids: []int{10, 60}, Isr: []int{10}}
	m := behind(t, town(t), changed(4, 0, p))
	refused(t, m, about(api.RGone, 60), api.ErrState)
	p.Ids = []int{10}
	m = behind(t, m, changed(4, 0, p))
	legal(t, m, about(api.RGone, 60), func(m *api.Image) { m.Brokers = m.Brokers[:5] })
}

// TestAll: 15.11: all, or none of them.
func TestAll(t *testing.T) {
	l := townRecords()
	got, err := image.All(api.Image{}, l)
	if err != nil || !alike(got, town(t)) {
		t.Errorf("%v: %+v", err, got)
	}
	for _, none := range [][]api.Record{nil, {}} {
		if got, err := image.All(town(t), none); err != nil || !alike(got, town(t)) {
			t.Errorf("of no records %v: %+v", err, got)
		}
	}
	from := behind(t, api.Image{}, l[:9]...)
	was := text(from)
	for i := 9; i < len(l); i++ {
		for _, bad := range []struct {
			r   api.Record
			why error
		}{
			{born(10, 4, "r"), wrong("apply", api.RBroker, api.ErrEpoch)},
			{api.Record{Kind: 13}, wrong("record", 13, wrong("kind", 13, api.ErrKind))},
			{made(2, 0, 1, []int{1}, []int{1}), nil},
		} {
			records := append(append([]api.Record{}, l[9:i]...), bad.r, api.Record{Kind: 14}, born(10, 3, "r"))
			// What is wrong with a partition hangs on whether its topic is there yet.
			if bad.why == nil {
				_, bad.why = image.Apply(behind(t, from, l[9:i]...), bad.r)
			}
			got, err := image.All(from, records)
			if !reflect.DeepEqual(err, wrong("record", i-9, bad.why)) {
				t.Errorf("%d, %+v: %#v", i, bad.r, err)
			}
			if text(got) != was || text(from) != was {
				t.Errorf("%d, %+v: the metadata are\n%+v", i, bad.r, got)
			}
		}
	}
}

// TestExample: the chapter's example.
func TestExample(t *testing.T) {
	both := []int{1, 2}
	m := behind(t, api.Image{}, born(1, 4, "a"), born(2, 4, "b"), about(api.ROpen, 1), about(api.ROpen, 2), named(1, "t"), made(1, 0, 1, both, both))
	refused(t, m, about(api.RFence, 1), api.ErrState)
	m = behind(t, m, changed(1, 0, api.Part{Leader: 2, Epoch: 1, Ids: both, Isr: both}), about(api.RFence, 1))
	if got, want := fmt.Sprint(image.Alive(m, 1), image.Alive(m, 2), image.Leads(m, 1), image.Leads(m, 2)), "false true false true"; got != want {
		t.Errorf("%s, not %s", got, want)
	}
}
