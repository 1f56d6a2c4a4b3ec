package dump_test

import (
	"fmt"
	"math"
	"strings"
	"testing"

	"castellan/api"
)

// change is what is another thing in the town, and what is told of it then.
type change struct {
	name string
	does func(m *api.Image)
	want error
}

// try checks the town with one change after the other.
func try(t *testing.T, l []change) {
	t.Helper()
	for _, c := range l {
		checked(t, c.name, changed(c), c.want)
	}
}

// TestMayBe: 16.1 to 16.4: metadata with which nothing is wrong.
func TestMayBe(t *testing.T) {
	checked(t, "nothing", api.Image{}, nil)
	checked(t, "lists without elements", roomyImage(api.Image{}), nil)
	checked(t, "all that there may be", full(), nil)
	checked(t, "the last number alone", api.Image{Last: 1 << 30}, nil)
	try(t, []change{{"the town", func(m *api.Image) {}, nil}})
}

// broker is a change of the broker at a place, and whether that may be.
func broker(i int, want error, does func(b *api.Broker)) change {
	return change{"", func(m *api.Image) { does(&m.Brokers[i]) }, want}
}

// TestBrokerRange: 16.1: the number, the epoch, and the rack.
func TestBrokerRange(t *testing.T) {
	var l []change
	for i, ids := range [][]int{{math.MinInt, -1, 0}, {-1, 0, 9, 10}, {19, 20}, {29, 30}, {0, 39, 40, 65, 100, math.MaxInt}} {
		for _, id := range ids {
			l = append(l, broker(i, wrong("broker", i, api.ErrRange), func(b *api.Broker) { b.Id = id }))
		}
	}
	for i := range 5 {
		bad := wrong("broker", i, api.ErrRange)
		for _, epoch := range []int{math.MinInt, -1, 1<<30 + 1, math.MaxInt} {
			l = append(l, broker(i, bad, func(b *api.Broker) { b.Epoch = epoch }))
		}
		for _, epoch := range []int{0, 1, 1 << 30} {
			l = append(l, broker(i, nil, func(b *api.Broker) { b.Epoch = epoch }))
		}
		for _, rack := range []string{"", ".", "..", "A", "a b", "a_b", "é", "a\x00", letters(41)} {
			l = append(l, broker(i, bad, func(b *api.Broker) { b.Rack = rack }))
		}
		for _, rack := range []string{"a", "...", "-", "0.9-z", letters(40)} {
			l = append(l, broker(i, nil, func(b *api.Broker) { b.Rack = rack }))
		}
	}
	// Of one that no partition has, another number is no harm elsewhere.
	l = append(l,
		change{"", func(m *api.Image) {
			m.Brokers = append(m.Brokers[:0], api.Broker{Id: 1, Rack: "a"})
			m.Topics = nil
			m.Configs = nil
		}, nil},
		change{"", func(m *api.Image) { m.Brokers = append(brokers(9), m.Brokers...) }, nil},
		change{"", func(m *api.Image) { m.Brokers = append(brokers(10), m.Brokers...) }, wrong("broker", 10, api.ErrRange)},
		change{"", func(m *api.Image) { m.Brokers = append(m.Brokers, api.Broker{Id: 65, Rack: "a"}) }, wrong("broker", 5, api.ErrRange)},
		change{"", func(m *api.Image) { m.Brokers = brokers(65) }, wrong("broker", 64, api.ErrRange)},
	)
	try(t, l)
}

// TestBrokerState: 16.1: both fenced and leaving, and leads: any partition, of any topic, be there something else wrong with it, or not.
func TestBrokerState(t *testing.T) {
	both := func(b *api.Broker) { b.Fenced, b.Leaving = true, true }
	try(t, []change{
		broker(0, wrong("broker", 0, api.ErrState), both),
		broker(4, wrong("broker", 4, api.ErrState), both),
		// In sync, or a replica, alone.
		broker(1, nil, both),
		broker(2, nil, both),
		// Who leads, and is fenced alone, or leaving alone, is left to the partition.
		broker(0, badPart(0, 0), func(b *api.Broker) { b.Fenced = true }),
		broker(4, badPart(2, 0), func(b *api.Broker) { b.Fenced = true }),
		broker(0, nil, func(b *api.Broker) { b.Leaving = true }),
		// 40 is both, and leads what may not be.
		{"the last of many", func(m *api.Image) { m.Topics[1].Parts = append(parts(300, 64), api.Part{Leader: 40}) }, wrong("broker", 3, api.ErrState)},
		{"of too many topics", func(m *api.Image) { m.Topics = append(topics(300), api.Topic{Parts: parts(1, 40)}) }, wrong("broker", 3, api.ErrState)},
		{"behind the list's length", func(m *api.Image) { m.Topics[2].Parts = parts(9, 40)[:0] }, nil},
		// Its range comes first, and the one ahead of it.
		{"its own range", func(m *api.Image) { both(&m.Brokers[4]); m.Brokers[4].Epoch = -1 }, wrong("broker", 4, api.ErrRange)},
		{"ahead of another one's range", func(m *api.Image) { both(&m.Brokers[0]); m.Brokers[1].Rack = "" }, wrong("broker", 0, api.ErrState)},
		{"behind another one's range", func(m *api.Image) { both(&m.Brokers[4]); m.Brokers[3].Rack = "" }, wrong("broker", 3, api.ErrRange)},
	})
}

// TestTopicLimit: 16.2: how many there are, and the last number.
func TestTopicLimit(t *testing.T) {
	var l []change
	for _, last := range []int{math.MinInt, -1, 1<<30 + 1, math.MaxInt} {
		l = append(l, change{fmt.Sprint("last ", last), func(m *api.Image) { m.Last = last }, wrong("topic", 3, api.ErrLimit)})
	}
	for _, last := range []int{9, 10, 1 << 30} {
		l = append(l, change{fmt.Sprint("last ", last), func(m *api.Image) { m.Last = last }, nil})
	}
	try(t, l)
	for _, many := range []int{257, 258, 1000} {
		checked(t, fmt.Sprint(many), api.Image{Topics: topics(many), Last: many}, wrong("topic", many, api.ErrLimit))
		checked(t, fmt.Sprint(many, " of nought"), api.Image{Topics: make([]api.Topic, many)}, wrong("topic", many, api.ErrLimit))
	}
	checked(t, "256", api.Image{Topics: topics(256), Last: 256}, nil)
	checked(t, "none, -1", api.Image{Last: -1}, wrong("topic", 0, api.ErrLimit))
}

// topic is a change of the topic at a place, and whether that may be.
func topic(i int, want error, does func(x *api.Topic)) change {
	return change{"", func(m *api.Image) { m.Configs = nil; does(&m.Topics[i]) }, want}
}

// TestTopicRange: 16.2: the number, the name, and how many partitions.
func TestTopicRange(t *testing.T) {
	var l []change
	for i, ids := range [][]int{{math.MinInt, -1, 0}, {-1, 0, 1, 2}, {0, 2, 3, 10, 11, math.MaxInt}} {
		for _, id := range ids {
			l = append(l, topic(i, wrong("topic", i, api.ErrRange), func(x *api.Topic) { x.Id = id }))
		}
	}
	for i, ids := range [][]int{{1, 2}, {3, 8}, {4, 9}} {
		bad := wrong("topic", i, api.ErrRange)
		for _, id := range ids {
			l = append(l, topic(i, nil, func(x *api.Topic) { x.Id = id }))
		}
		for _, name := range []string{"", ".", "..", "A", "a/b", "t\n", letters(41)} {
			l = append(l, topic(i, bad, func(x *api.Topic) { x.Name = name }))
		}
		for _, name := range []string{"a", "two.", "tw", "thre", letters(40)} {
			l = append(l, topic(i, nil, func(x *api.Topic) { x.Name = name }))
		}
		l = append(l,
			topic(i, nil, func(x *api.Topic) { x.Parts = parts(256, 64) }),
			topic(i, bad, func(x *api.Topic) { x.Parts = parts(257, 64) }),
			topic(i, bad, func(x *api.Topic) { x.Parts = make([]api.Part, 1000) }),
		)
	}
	l = append(l,
		// Of two with one name the one behind is told.
		topic(0, wrong("topic", 1, api.ErrRange), func(x *api.Topic) { x.Name = "three" }),
		topic(0, wrong("topic", 2, api.ErrRange), func(x *api.Topic) { x.Name = "nine" }),
		topic(1, wrong("topic", 1, api.ErrRange), func(x *api.Topic) { x.Name = "two" }),
		topic(2, wrong("topic", 2, api.ErrRange), func(x *api.Topic) { x.Name = "two" }),
		topic(2, wrong("topic", 2, api.ErrRange), func(x *api.Topic) { x.Name = "three" }),
		change{"no last", func(m *api.Image) { m.Last = 0 }, wrong("topic", 0, api.ErrRange)},
		change{"the one ahead is the last", func(m *api.Image) { m.Last = 3 }, wrong("topic", 2, api.ErrRange)},
		change{"one less", func(m *api.Image) { m.Last = 8 }, wrong("topic", 2, api.ErrRange)},
	)
	try(t, l)
}

// badParts are partitions that may not be, of the town's brokers.
func badParts() []api.Part {
	two := []int{10, 20}
	l := []api.Part{
		{},
		// What is no row of brokers, at each place.
		{Ids: []int{10, 10}, Isr: []int{10}},
		{Ids: []int{10, 0}, Isr: []int{10}},
		{Ids: []int{10, 65}, Isr: []int{10}},
		{Ids: []int{10, -1}, Isr: []int{10}},
		{Ids: two, Isr: []int{10, 10}},
		{Ids: two, Isr: []int{10, 10, 20, 20, 10, 10, 20, 20}},
		{Ids: two, Isr: two, Add: []int{10, 10}},
		{Ids: two, Isr: two, Drop: []int{20, 20}},
		{Ids: make([]int, 1000), Isr: two},
		// Ids: none, or not registered.
		{Isr: two},
		{Ids: []int{1}, Isr: []int{1}},
		{Ids: []int{10, 11}, Isr: []int{10}},
		{Ids: []int{63, 64}, Isr: []int{64}},
		// Isr: none, or not of Ids.
		{Ids: two},
		{Ids: two, Isr: []int{64}},
		{Ids: two, Isr: []int{10, 20, 64}},
		// The leader: not in sync, not alive, or nobody's number.
		{Ids: two, Isr: []int{10}, Leader: 20},
		{Ids: two, Isr: two, Leader: 64},
		{Ids: two, Isr: two, Leader: -1},
		{Ids: two, Isr: two, Leader: math.MinInt},
		{Ids: two, Isr: two, Leader: math.MaxInt},
		{Ids: []int{30}, Isr: []int{30}, Leader: 30},
		// What comes and goes: not of Ids, or both at once.
		{Ids: two, Isr: two, Add: []int{64}},
		{Ids: two, Isr: two, Add: []int{10, 64}},
		{Ids: two, Isr: two, Drop: []int{64}},
		{Ids: two, Isr: two, Drop: []int{20, 64}},
		{Ids: two, Isr: two, Add: two, Drop: []int{20}},
		{Ids: two, Isr: two, Add: []int{10}, Drop: []int{20, 10}},
	}
	for _, epoch := range []int{math.MinInt, -1, 1<<30 + 1, math.MaxInt} {
		l = append(l, api.Part{Ids: two, Isr: two, Epoch: epoch})
	}
	return l
}

// TestPartState: 16.2: partitions that may not be, at all places; and the first one is told.
func TestPartState(t *testing.T) {
	for _, p := range badParts() {
		for i := range 3 {
			try(t, []change{
				{text(p), func(m *api.Image) { m.Topics[i].Parts = []api.Part{p} }, badPart(i, 0)},
				{text(p), func(m *api.Image) { m.Topics[i].Parts = append(parts(3, 64), p, p) }, badPart(i, 3)},
				{text(p), func(m *api.Image) { m.Topics[i].Parts = append(parts(255, 10), p) }, badPart(i, 255)},
			})
		}
	}
}

// TestPartMayBe: 16.2: partitions that may be.
func TestPartMayBe(t *testing.T) {
	two := []int{10, 20}
	for _, p := range []api.Part{
		{Ids: two, Isr: two},
		{Ids: two, Isr: []int{20, 10}, Leader: 20},
		{Ids: two, Isr: []int{20}, Leader: 20, Epoch: 1 << 30},
		{Ids: []int{30}, Isr: []int{30}},
		{Ids: []int{40, 64}, Isr: []int{40, 64}, Leader: 64},
		{Ids: two, Isr: two, Add: two},
		{Ids: two, Isr: two, Drop: two},
		{Ids: two, Isr: two, Add: []int{20}, Drop: []int{10}},
		{Ids: []int{64, 40, 30, 20, 10}, Isr: []int{64}, Add: []int{10, 20, 30, 40, 64}},
	} {
		try(t, []change{{text(p), func(m *api.Image) { m.Topics[1].Parts = append(parts(1, 64), p) }, nil}})
	}
	seven := []int{7, 6, 5, 4, 3, 2, 1}
	eight := append([]int{8}, seven...)
	m := api.Image{Brokers: brokers(8), Topics: topics(1), Last: 1}
	for _, p := range []api.Part{
		{Ids: seven, Isr: seven, Add: seven},
		{Ids: seven, Isr: seven, Drop: seven},
	} {
		m.Topics[0].Parts = []api.Part{p}
		checked(t, text(p), m, nil)
	}
	for _, p := range []api.Part{
		{Ids: eight, Isr: seven},
		{Ids: eight, Isr: eight},
		{Ids: seven, Isr: eight},
		{Ids: seven, Isr: seven, Add: eight},
		{Ids: seven, Isr: seven, Drop: eight},
	} {
		m.Topics[0].Parts = []api.Part{p}
		checked(t, text(p), m, badPart(0, 0))
	}
}

// TestConfig: 16.3: of a topic that is there, or of the whole; a name; not too long a value; one behind the other.
func TestConfig(t *testing.T) {
	var l []change
	add := func(want error, configs ...api.Config) {
		l = append(l, change{text(configs), func(m *api.Image) { m.Configs = configs }, want})
	}
	bad := func(i int) error { return wrong("config", i, api.ErrRange) }
	late := func(i int) error { return wrong("config", i, api.ErrState) }
	for _, id := range []int{math.MinInt, -1, 1, 4, 8, 10, math.MaxInt} {
		add(bad(0), api.Config{Topic: id, Key: "k"})
		add(bad(1), api.Config{Key: "a"}, api.Config{Topic: id, Key: "k"})
	}
	for _, key := range []string{"", ".", "..", "K", "a b", letters(41)} {
		add(bad(0), api.Config{Key: key})
		add(bad(1), api.Config{Key: "a"}, api.Config{Topic: 3, Key: key})
	}
	for _, key := range []string{"a", "...", "-", letters(40)} {
		add(nil, api.Config{Key: key}, api.Config{Topic: 3, Key: key}, api.Config{Topic: 9, Key: key})
	}
	add(nil, api.Config{Key: "k", Value: strings.Repeat("\xff", 256)})
	add(bad(0), api.Config{Key: "k", Value: strings.Repeat("v", 257)})
	add(bad(2), api.Config{Key: "k"}, api.Config{Topic: 2, Key: "k"}, api.Config{Topic: 3, Key: "k", Value: strings.Repeat("v", 1000)})
	// By topic, then key, byte by byte.
	add(nil, api.Config{Key: "z"}, api.Config{Topic: 2, Key: "a"}, api.Config{Topic: 9, Key: "a"})
	add(nil, api.Config{Key: "-"}, api.Config{Key: "..."}, api.Config{Key: "10"}, api.Config{Key: "9"}, api.Config{Key: "a"}, api.Config{Key: "a."}, api.Config{Key: "ab"})
	add(late(1), api.Config{Key: "a"}, api.Config{Key: "a"})
	add(late(1), api.Config{Key: "a", Value: "b"}, api.Config{Key: "a", Value: "c"})
	add(late(1), api.Config{Key: "b"}, api.Config{Key: "a"})
	add(late(1), api.Config{Key: "9"}, api.Config{Key: "10"})
	add(late(1), api.Config{Key: "ab"}, api.Config{Key: "a"})
	add(late(1), api.Config{Topic: 2, Key: "a"}, api.Config{Key: "b"})
	add(late(2), api.Config{Topic: 2, Key: "a"}, api.Config{Topic: 9, Key: "a"}, api.Config{Topic: 3, Key: "b"})
	add(late(2), api.Config{Topic: 3, Key: "a"}, api.Config{Topic: 3, Key: "c"}, api.Config{Topic: 3, Key: "b"})
	// Its range comes first, and the one ahead of it.
	add(bad(1), api.Config{Key: "b"}, api.Config{Key: "A"})
	add(bad(1), api.Config{Key: "b"}, api.Config{Topic: -1, Key: "a"})
	add(late(1), api.Config{Key: "b"}, api.Config{Key: "a"}, api.Config{Key: ""})
	add(bad(1), api.Config{Key: "b"}, api.Config{Key: ""}, api.Config{Key: "a"})
	try(t, l)
	// The first one may be of any topic that there is; how many there are is not limited.
	m := town()
	m.Configs = nil
	for i := range 5000 {
		m.Configs = append(m.Configs, api.Config{Topic: 9, Key: fmt.Sprint(10000 + i)})
	}
	checked(t, "5000", m, nil)
	m.Configs[4999].Topic = 3
	checked(t, "5000", m, late(4999))
}

// TestDone: 16.4: how many there are; the client, the serial and the code; none twice.
func TestDone(t *testing.T) {
	var l []change
	bad := func(i int) error { return wrong("done", i, api.ErrRange) }
	for i := range 3 {
		answer := func(want error, does func(d *api.Done)) {
			l = append(l, change{"", func(m *api.Image) { does(&m.Done[i]) }, want})
		}
		for _, n := range []int{math.MinInt, -1, 0, 1<<30 + 1, math.MaxInt} {
			answer(bad(i), func(d *api.Done) { d.Client = n })
			answer(bad(i), func(d *api.Done) { d.Serial = n })
		}
		for _, n := range []int{1, 6, 1 << 30} {
			answer(nil, func(d *api.Done) { d.Client = n })
		}
		for _, n := range []int{3, 1<<30 - 1} {
			answer(nil, func(d *api.Done) { d.Serial = n })
		}
		for _, code := range []int{math.MinInt, -1, 22, math.MaxInt} {
			answer(bad(i), func(d *api.Done) { d.Code = code })
		}
		for _, code := range []int{0, 1, 20, 21} {
			answer(nil, func(d *api.Done) { d.Code = code })
		}
	}
	l = append(l,
		change{"twice", func(m *api.Image) { m.Done[1] = m.Done[0] }, bad(1)},
		change{"twice, with another code", func(m *api.Image) { m.Done[2].Serial = 1 }, bad(2)},
		change{"the last again", func(m *api.Image) { m.Done = append(m.Done, api.Done{Client: 7, Serial: 2}) }, bad(3)},
		change{"in any order", func(m *api.Image) { m.Done[0], m.Done[2] = m.Done[2], m.Done[0] }, nil},
		change{"64", func(m *api.Image) { m.Done = answers(64) }, nil},
		change{"65", func(m *api.Image) { m.Done = answers(65) }, wrong("done", 65, api.ErrLimit)},
		change{"66 of nought", func(m *api.Image) { m.Done = make([]api.Done, 66) }, wrong("done", 66, api.ErrLimit)},
	)
	try(t, l)
}

// wrongs are changes of the town in the order in which the chapter names what is wrong then; any two of them go together.
func wrongs() []change {
	return []change{
		{"rack", func(m *api.Image) { m.Brokers[0].Rack = "" }, wrong("broker", 0, api.ErrRange)},
		{"leads", func(m *api.Image) { m.Brokers[0].Fenced, m.Brokers[0].Leaving = true, true }, wrong("broker", 0, api.ErrState)},
		{"broker", func(m *api.Image) { m.Brokers[1].Id = 10 }, wrong("broker", 1, api.ErrRange)},
		{"epoch", func(m *api.Image) { m.Brokers[4].Epoch = -1 }, wrong("broker", 4, api.ErrRange)},
		{"leads last", func(m *api.Image) { m.Brokers[4].Fenced, m.Brokers[4].Leaving = true, true }, wrong("broker", 4, api.ErrState)},
		{"last", func(m *api.Image) { m.Last = -1 }, wrong("topic", 3, api.ErrLimit)},
		{"topic", func(m *api.Image) { m.Topics[0].Id = 0 }, wrong("topic", 0, api.ErrRange)},
		{"part", func(m *api.Image) { m.Topics[0].Parts[0].Epoch = -1 }, badPart(0, 0)},
		{"next part", func(m *api.Image) { m.Topics[0].Parts[1].Leader = 20 }, badPart(0, 1)},
		{"name", func(m *api.Image) { m.Topics[1].Name = "two" }, wrong("topic", 1, api.ErrRange)},
		{"parts", func(m *api.Image) { m.Topics[2].Parts = append(m.Topics[2].Parts, make([]api.Part, 256)...) }, wrong("topic", 2, api.ErrRange)},
		{"last part", func(m *api.Image) { m.Topics[2].Parts[0].Isr = nil }, badPart(2, 0)},
		{"key", func(m *api.Image) { m.Configs[1].Key = "" }, wrong("config", 1, api.ErrRange)},
		{"place", func(m *api.Image) { m.Configs[1].Topic = 0 }, wrong("config", 1, api.ErrState)},
		{"value", func(m *api.Image) { m.Configs[2].Value = strings.Repeat("v", 257) }, wrong("config", 2, api.ErrRange)},
		{"answers", func(m *api.Image) { m.Done = append(m.Done, answers(62)...) }, wrong("done", 65, api.ErrLimit)},
		{"client", func(m *api.Image) { m.Done[0].Client = 0 }, wrong("done", 0, api.ErrRange)},
		{"code", func(m *api.Image) { m.Done[1].Code = 22 }, wrong("done", 1, api.ErrRange)},
	}
}

// TestTwoWrong: 16.1 to 16.4: of any two things that are wrong the one that is named first is told.
func TestTwoWrong(t *testing.T) {
	l := wrongs()
	for i, a := range l {
		checked(t, a.name, changed(a), a.want)
		for _, b := range l[i+1:] {
			checked(t, a.name+" and "+b.name, changed(a, b), a.want)
			checked(t, b.name+" and "+a.name, changed(b, a), a.want)
		}
	}
}

// changed is the town with changes.
func changed(l ...change) api.Image {
	m := town()
	for _, c := range l {
		c.does(&m)
	}
	return m
}
