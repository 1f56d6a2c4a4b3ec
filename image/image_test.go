package image_test

import (
	"math"
	"testing"

	"castellan/api"
	"castellan/image"
)

// nowhere are numbers of which there is nothing in the town.
var nowhere = []int{math.MinInt, -10, -1, 1, 5, 11, 15, 35, 61, 64, 65, math.MaxInt}

// TestBroker: 15.2.
func TestBroker(t *testing.T) {
	m := town(t)
	for _, want := range m.Brokers {
		if b, there := image.Broker(m, want.Id); !there || b != want {
			t.Errorf("%d: %+v, %t", want.Id, b, there)
		}
		if image.Alive(m, want.Id) == want.Fenced {
			t.Errorf("%+v: alive %t", want, !want.Fenced)
		}
	}
	for _, id := range append(nowhere, 0) {
		if b, there := image.Broker(m, id); there || b != (api.Broker{}) || image.Alive(m, id) {
			t.Errorf("%d: %+v, %t, alive %t", id, b, there, image.Alive(m, id))
		}
	}
}

// TestTopic: 15.2.
func TestTopic(t *testing.T) {
	m := town(t)
	for _, want := range m.Topics {
		if x, there := image.Topic(m, want.Id); !there || !alike(x, want) {
			t.Errorf("%d: %+v, %t", want.Id, x, there)
		}
		if x, there := image.Named(m, want.Name); !there || !alike(x, want) {
			t.Errorf("%s: %+v, %t", want.Name, x, there)
		}
	}
	for _, id := range append(nowhere, 0) {
		if x, there := image.Topic(m, id); there || !alike(x, api.Topic{}) {
			t.Errorf("%d: %+v, %t", id, x, there)
		}
	}
	for _, name := range []string{"", "gone", "t", "tw", "twoo", "Two", "two ", "five"} {
		if x, there := image.Named(m, name); there || !alike(x, api.Topic{}) {
			t.Errorf("%q: %+v, %t", name, x, there)
		}
	}
}

// TestPart: 15.2.
func TestPart(t *testing.T) {
	m := town(t)
	for _, x := range m.Topics {
		for n, want := range x.Parts {
			if p, there := image.Part(m, x.Id, n); !there || !alike(p, want) {
				t.Errorf("%d of %d: %+v, %t", n, x.Id, p, there)
			}
		}
		// Behind the partitions of the town's topics there is room.
		for _, n := range []int{math.MinInt, -1, len(x.Parts), len(x.Parts) + 1, 255, 256, math.MaxInt} {
			if p, there := image.Part(m, x.Id, n); there || !alike(p, api.Part{}) {
				t.Errorf("%d of %d: %+v, %t", n, x.Id, p, there)
			}
		}
	}
	for _, id := range append(nowhere, 0) {
		if p, there := image.Part(m, id, 0); there || !alike(p, api.Part{}) {
			t.Errorf("0 of %d: %+v, %t", id, p, there)
		}
	}
}

// TestConfig: 15.2: a setting without a value is there, too.
func TestConfig(t *testing.T) {
	m := town(t)
	for _, c := range m.Configs {
		if v, there := image.Config(m, c.Topic, c.Key); !there || v != c.Value {
			t.Errorf("%+v: %q, %t", c, v, there)
		}
	}
	for _, c := range []api.Config{{Topic: -1, Key: "b"}, {Topic: 0, Key: "a"}, {Topic: 0, Key: ""}, {Topic: 0, Key: "bb"}, {Topic: 1, Key: "b"}, {Topic: 2, Key: "c"}, {Topic: 2, Key: ""}, {Topic: 2, Key: "aa"}, {Topic: 3, Key: "b"}, {Topic: 4, Key: "a"}, {Topic: 5, Key: "b"}, {Topic: math.MaxInt, Key: "b"}} {
		if v, there := image.Config(m, c.Topic, c.Key); there || v != "" {
			t.Errorf("%+v: %q, %t", c, v, there)
		}
	}
}

// TestAnswered: 15.2: client and serial are both asked.
func TestAnswered(t *testing.T) {
	m := town(t)
	for _, d := range m.Done {
		if code, known := image.Answered(m, d.Client, d.Serial); !known || code != d.Code {
			t.Errorf("%+v: %d, %t", d, code, known)
		}
	}
	for _, d := range [][2]int{{0, 0}, {7, 0}, {0, 1}, {7, 3}, {8, 1}, {2, 8}, {1, 7}, {-7, -1}, {math.MaxInt, math.MaxInt}} {
		if code, known := image.Answered(m, d[0], d[1]); known || code != 0 {
			t.Errorf("%v: %d, %t", d, code, known)
		}
	}
}

// TestLeads: 15.2: of any topic, any partition; who is a replica, or in sync, alone leads nothing.
func TestLeads(t *testing.T) {
	m := town(t)
	for _, b := range m.Brokers {
		if leads := b.Id == 10 || b.Id == 20; image.Leads(m, b.Id) != leads {
			t.Errorf("%d: not %t", b.Id, leads)
		}
	}
	for _, id := range nowhere {
		if image.Leads(m, id) {
			t.Errorf("%d leads", id)
		}
	}
	m = behind(t, m, api.Record{Kind: api.RDrop, Topic: 2})
	if !image.Leads(m, 10) || image.Leads(m, 20) {
		t.Errorf("10 leads: %t, 20: %t", image.Leads(m, 10), image.Leads(m, 20))
	}
}

// TestEmpty: 15.2, of metadata of which there is nothing.
func TestEmpty(t *testing.T) {
	for _, m := range []api.Image{{}, roomyImage(api.Image{})} {
		_, broker := image.Broker(m, 1)
		_, topic := image.Topic(m, 1)
		_, name := image.Named(m, "")
		_, part := image.Part(m, 0, 0)
		_, config := image.Config(m, 0, "")
		_, known := image.Answered(m, 0, 0)
		if broker || topic || name || part || config || known || image.Alive(m, 1) || image.Leads(m, 1) {
			t.Error("something is there")
		}
	}
}

// partOf is a partition of which each field says something.
func partOf() api.Part {
	return api.Part{Ids: []int{3, 1, 2}, Isr: []int{1, 3}, Leader: 1, Epoch: 5, Add: []int{3, 1}, Drop: []int{2}}
}

// TestSame: 15.12: each field counts, and in rows the order.
func TestSame(t *testing.T) {
	for _, p := range []api.Part{partOf(), {}} {
		q := roomyPart(p)
		if !image.Same(p, q) || !image.Same(q, p) {
			t.Errorf("%+v is another one than itself", p)
		}
	}
	for i, change := range []func(p *api.Part){
		func(p *api.Part) { p.Leader = 3 },
		func(p *api.Part) { p.Leader = 0 },
		func(p *api.Part) { p.Epoch = 6 },
		func(p *api.Part) { p.Ids = []int{1, 3, 2} },
		func(p *api.Part) { p.Ids = []int{3, 1} },
		func(p *api.Part) { p.Ids = nil },
		func(p *api.Part) { p.Isr = []int{3, 1} },
		func(p *api.Part) { p.Isr = []int{1, 2} },
		func(p *api.Part) { p.Isr = []int{1, 3, 2} },
		func(p *api.Part) { p.Add = []int{1, 3} },
		func(p *api.Part) { p.Add = nil },
		func(p *api.Part) { p.Drop = []int{2, 1} },
		func(p *api.Part) { p.Drop = []int{} },
		func(p *api.Part) { p.Add, p.Drop = p.Drop, p.Add },
	} {
		p, q := partOf(), partOf()
		change(&q)
		if image.Same(p, q) || image.Same(q, p) {
			t.Errorf("change %d: %+v is the same as %+v", i, q, p)
		}
	}
}

// fill writes a number over all of a row, and over what lies behind it.
func fill(l []int) {
	l = l[:cap(l)]
	for i := range l {
		l[i] = 77
	}
}

// spoilPart writes over all that a partition's lists hold.
func spoilPart(p api.Part) {
	for _, l := range [][]int{p.Ids, p.Isr, p.Add, p.Drop} {
		fill(l)
	}
}

// spoil writes over all that the lists of metadata hold.
func spoil(m api.Image) {
	for _, x := range m.Topics {
		for _, p := range x.Parts {
			spoilPart(p)
		}
		x.Parts = x.Parts[:cap(x.Parts)]
		for i := range x.Parts {
			x.Parts[i] = api.Part{Leader: 77}
		}
	}
	m.Brokers, m.Topics, m.Configs, m.Done = m.Brokers[:cap(m.Brokers)], m.Topics[:cap(m.Topics)], m.Configs[:cap(m.Configs)], m.Done[:cap(m.Done)]
	for i := range m.Brokers {
		m.Brokers[i].Id = 77
	}
	for i := range m.Topics {
		m.Topics[i] = api.Topic{Id: 77}
	}
	for i := range m.Configs {
		m.Configs[i].Topic = 77
	}
	for i := range m.Done {
		m.Done[i].Client = 77
	}
}

// TestCopy: 15.12: the same, and nothing that is written to the one is seen in the other.
func TestCopy(t *testing.T) {
	m := town(t)
	was := whole(m)
	c := image.Copy(m)
	if !alike(c, m) {
		t.Errorf("%+v, not %+v", c, m)
	}
	spoil(c)
	if got := whole(m); got != was {
		t.Errorf("a copy was spoilt, and the metadata are\n%s, not\n%s", got, was)
	}
	c = image.Copy(m)
	told := whole(c)
	spoil(m)
	if whole(c) != told || !alike(c, town(t)) {
		t.Errorf("the metadata were spoilt, and the copy is\n%+v", c)
	}
	if c := image.Copy(api.Image{}); !alike(c, api.Image{}) {
		t.Errorf("of nothing: %+v", c)
	}
}

// TestAlone: 15.12, likewise.
func TestAlone(t *testing.T) {
	for _, want := range []api.Part{partOf(), {}, {Ids: []int{1}, Isr: []int{1}}} {
		p := roomyPart(want)
		was := wholeRows(p.Ids, p.Isr, p.Add, p.Drop)
		a := image.Alone(p)
		if !alike(a, want) {
			t.Errorf("%+v, not %+v", a, want)
		}
		spoilPart(a)
		if got := wholeRows(p.Ids, p.Isr, p.Add, p.Drop); got != was {
			t.Errorf("%s, not %s", got, was)
		}
		a = image.Alone(p)
		spoilPart(p)
		if !alike(a, want) {
			t.Errorf("the partition was spoilt, and the other one is %+v", a)
		}
	}
}

// TestAnswersAreApart: two calls of Copy share no memory.
func TestAnswersAreApart(t *testing.T) {
	m := town(t)
	a, b := image.Copy(m), image.Copy(m)
	spoil(a)
	if !alike(b, town(t)) {
		t.Errorf("%+v", b)
	}
	p := m.Topics[0].Parts[0]
	x, y := image.Alone(p), image.Alone(p)
	spoilPart(x)
	if !alike(y, p) {
		t.Errorf("%+v", y)
	}
}
