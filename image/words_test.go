package image_test

import (
	"cmp"
	"maps"
	"math"
	"math/rand/v2"
	"reflect"
	"slices"
	"testing"

	"castellan/api"
	"castellan/image"
	"castellan/record"
)

// place is where a partition stands: its topic, its number there.
type place struct{ topic, n int }

// key is of which topic a setting is, and which one.
type key struct {
	topic int
	name  string
}

// words is metadata that go by the chapter's words, promise by promise, each thing for itself.
type words struct {
	brokers map[int]api.Broker
	topics  map[int]string
	parts   map[place]api.Part
	configs map[key]string
	done    []api.Done
	last    int
}

// newWords is metadata of which there is nothing.
func newWords() *words {
	return &words{map[int]api.Broker{}, map[int]string{}, map[place]api.Part{}, map[key]string{}, nil, 0}
}

// many is how many partitions a topic has.
func (w *words) many(topic int) int {
	n := 0
	for at := range w.parts {
		if at.topic == topic {
			n++
		}
	}
	return n
}

// image is the metadata in their order.
func (w *words) image() api.Image {
	m := api.Image{Last: w.last, Done: slices.Clone(w.done)}
	for _, id := range slices.Sorted(maps.Keys(w.brokers)) {
		m.Brokers = append(m.Brokers, w.brokers[id])
	}
	for _, id := range slices.Sorted(maps.Keys(w.topics)) {
		x := api.Topic{Id: id, Name: w.topics[id]}
		for n := range w.many(id) {
			x.Parts = append(x.Parts, w.parts[place{id, n}])
		}
		m.Topics = append(m.Topics, x)
	}
	for k, v := range w.configs {
		m.Configs = append(m.Configs, api.Config{Topic: k.topic, Key: k.name, Value: v})
	}
	slices.SortFunc(m.Configs, func(a, b api.Config) int {
		return cmp.Or(a.Topic-b.Topic, slices.Compare([]byte(a.Key), []byte(b.Key)))
	})
	return m
}

// subset tells whether each of a is one of b.
func subset(a, b []int) bool {
	for _, id := range a {
		if !slices.Contains(b, id) {
			return false
		}
	}
	return true
}

// maybe is 15.3.
func (w *words) maybe(p api.Part) error {
	if len(p.Ids) == 0 || !subset(p.Ids, slices.Collect(maps.Keys(w.brokers))) {
		return badIds()
	}
	if len(p.Isr) == 0 || !subset(p.Isr, p.Ids) {
		return badIsr()
	}
	if b, there := w.brokers[p.Leader]; p.Leader != 0 && (!subset([]int{p.Leader}, p.Isr) || !there || b.Fenced) {
		return badLeader()
	}
	for _, id := range p.Add {
		if slices.Contains(p.Drop, id) {
			return badMoves()
		}
	}
	if !subset(p.Add, p.Ids) || !subset(p.Drop, p.Ids) {
		return badMoves()
	}
	return nil
}

// uses tells whether a broker leads any partition, and whether it is a replica of any.
func (w *words) uses(id int) (leads, holds bool) {
	for _, p := range w.parts {
		leads = leads || p.Leader == id
		holds = holds || slices.Contains(p.Ids, id)
	}
	return leads, holds
}

// broker is 15.4, and 15.5.
func (w *words) broker(r api.Record) error {
	b, there := w.brokers[r.Broker]
	leads, holds := w.uses(r.Broker)
	switch {
	case r.Kind == api.RBroker && there && r.Epoch <= b.Epoch:
		return api.ErrEpoch
	case r.Kind == api.RBroker && there && leads:
		return api.ErrState
	case r.Kind == api.RBroker:
		w.brokers[r.Broker] = api.Broker{Id: r.Broker, Epoch: r.Epoch, Rack: r.Rack, Fenced: true}
		return nil
	case !there:
		return api.ErrNone
	case b.Epoch != r.Epoch:
		return api.ErrEpoch
	}
	if r.Kind == api.RGone {
		if holds {
			return api.ErrState
		}
		delete(w.brokers, r.Broker)
		return nil
	}
	switch {
	case r.Kind == api.RFence && !b.Fenced && !leads:
		b.Fenced = true
	case r.Kind == api.ROpen && b.Fenced:
		b.Fenced, b.Leaving = false, false
	case r.Kind == api.RLeave && !(b.Fenced || b.Leaving):
		b.Leaving = true
	default:
		return api.ErrState
	}
	w.brokers[r.Broker] = b
	return nil
}

// part is 15.6, and 15.7.
func (w *words) part(r api.Record) error {
	if _, there := w.topics[r.Topic]; !there {
		return api.ErrNone
	}
	p := api.Part{Ids: r.Ids, Isr: r.Isr, Leader: r.Leader}
	if r.Kind == api.RChange {
		p.Epoch, p.Add, p.Drop = r.Epoch, r.Add, r.Drop
	}
	if err := w.maybe(p); err != nil {
		return err
	}
	at := place{r.Topic, r.Part}
	was, there := w.parts[at]
	switch {
	case r.Kind == api.RPart && r.Part != w.many(r.Topic):
		return api.ErrState
	case r.Kind == api.RPart:
	case !there:
		return api.ErrNone
	case r.Epoch != was.Epoch && r.Epoch != was.Epoch+1:
		return api.ErrEpoch
	case r.Epoch == was.Epoch && r.Leader != was.Leader:
		return api.ErrEpoch
	case text(p) == text(was):
		return api.ErrState
	}
	w.parts[at] = roomyPart(p)
	return nil
}

// topic is 15.8.
func (w *words) topic(r api.Record) error {
	if r.Kind == api.RTopic {
		if r.Topic != w.last+1 {
			return api.ErrState
		}
		for _, name := range w.topics {
			if name == r.Name {
				return api.ErrExists
			}
		}
		if len(w.topics) == 256 {
			return api.ErrLimit
		}
		w.topics[r.Topic], w.last = r.Name, r.Topic
		return nil
	}
	if _, there := w.topics[r.Topic]; !there {
		return api.ErrNone
	}
	delete(w.topics, r.Topic)
	maps.DeleteFunc(w.parts, func(at place, _ api.Part) bool { return at.topic == r.Topic })
	maps.DeleteFunc(w.configs, func(k key, _ string) bool { return k.topic == r.Topic })
	return nil
}

// config is 15.9.
func (w *words) config(r api.Record) error {
	if _, there := w.topics[r.Topic]; !there && r.Topic != 0 {
		return api.ErrNone
	}
	k := key{r.Topic, r.Key}
	if !r.Flag {
		w.configs[k] = r.Value
		return nil
	}
	if _, there := w.configs[k]; !there {
		return api.ErrNone
	}
	delete(w.configs, k)
	return nil
}

// answer is 15.10.
func (w *words) answer(r api.Record) error {
	for _, d := range w.done {
		if d.Client == r.Client && d.Serial == r.Serial {
			return api.ErrExists
		}
	}
	w.done = append(w.done, api.Done{Client: r.Client, Serial: r.Serial, Code: r.Code})
	if len(w.done) == 65 {
		w.done = w.done[1:]
	}
	return nil
}

// apply is 15.1.
func (w *words) apply(r api.Record) error {
	if err := record.Check(r); err != nil {
		return wrong("record", r.Kind, err)
	}
	var err error
	switch r.Kind {
	case api.RBroker, api.RFence, api.ROpen, api.RLeave, api.RGone:
		err = w.broker(r)
	case api.RTopic, api.RDrop:
		err = w.topic(r)
	case api.RPart, api.RChange:
		err = w.part(r)
	case api.RConfig:
		err = w.config(r)
	case api.RDone:
		err = w.answer(r)
	}
	if err != nil {
		return wrong("apply", r.Kind, err)
	}
	return nil
}

// draw draws records about few things, of which many are legal steps, and some may not be.
type draw struct{ *rand.Rand }

// row is some of a list, in any order.
func (d draw) row(from []int) []int {
	l := roomy(from)
	d.Shuffle(len(l), func(i, j int) { l[i], l[j] = l[j], l[i] })
	return l[:d.IntN(len(l)+1)]
}

// brokerRecord is one about a broker, most often of the epoch that it has.
func (d draw) brokerRecord(m api.Image) api.Record {
	kinds := []int{api.RBroker, api.RFence, api.ROpen, api.ROpen, api.ROpen, api.RLeave, api.RGone}
	r := api.Record{Kind: kinds[d.IntN(len(kinds))], Broker: 1 + d.IntN(6)}
	for _, b := range m.Brokers {
		if b.Id == r.Broker {
			r.Epoch = b.Epoch
		}
	}
	if r.Kind == api.RBroker {
		r.Epoch, r.Rack = r.Epoch+d.IntN(3), "r"+string(rune('a'+d.IntN(3)))
	} else if d.IntN(12) == 0 {
		r.Epoch += d.IntN(4) - 1
	}
	return r
}

// brokers are those that are registered; at times all of which there are records.
func (d draw) brokers(m api.Image) []int {
	if d.IntN(6) == 0 {
		return []int{1, 2, 3, 4, 5, 6}
	}
	var l []int
	for _, b := range m.Brokers {
		l = append(l, b.Id)
	}
	return l
}

// partRecord is one about a partition: one more, or another one, of which some things are others.
func (d draw) partRecord(m api.Image) api.Record {
	r := api.Record{Kind: api.RPart, Topic: 1 + d.IntN(3)}
	if len(m.Topics) > 0 && d.IntN(8) > 0 {
		x := m.Topics[d.IntN(len(m.Topics))]
		r.Topic, r.Part = x.Id, len(x.Parts)
		if len(x.Parts) > 0 && d.IntN(4) > 0 {
			r = changed(x.Id, d.IntN(len(x.Parts)), roomyPart(x.Parts[d.IntN(len(x.Parts))]))
			r.Epoch = max(0, r.Epoch+d.IntN(3)-d.IntN(2))
		}
	}
	if d.IntN(10) == 0 {
		r.Part = max(0, r.Part+d.IntN(3)-1)
	}
	if r.Kind == api.RPart || d.IntN(2) == 0 {
		r.Ids = d.row(d.brokers(m))
	}
	if r.Kind == api.RPart || d.IntN(2) == 0 {
		r.Isr = d.row(r.Ids)
	}
	if len(r.Isr) > 0 && d.IntN(3) > 0 {
		r.Leader = r.Isr[d.IntN(len(r.Isr))]
	} else if d.IntN(2) == 0 {
		r.Leader = d.IntN(7)
	}
	if r.Kind == api.RChange && d.IntN(3) == 0 {
		moved := d.row(r.Ids)
		n := d.IntN(len(moved) + 1)
		r.Add, r.Drop = moved[:n:n], moved[n:]
	}
	if d.IntN(20) == 0 {
		r.Add = d.row([]int{1, 2, 3})
	}
	return r
}

// record is a record of any kind.
func (d draw) record(m api.Image) api.Record {
	switch d.IntN(12) {
	case 0, 1, 2:
		return d.brokerRecord(m)
	case 3:
		return named(m.Last+1+(1-d.IntN(4))/2, "t"+string(rune('a'+d.IntN(6))))
	case 4:
		if d.IntN(3) > 0 {
			return api.Record{Kind: d.IntN(14)}
		}
		return api.Record{Kind: api.RDrop, Topic: max(1, m.Last-d.IntN(6))}
	case 5:
		r := set(max(0, m.Last-d.IntN(5)), string(rune('a'+d.IntN(4))), string(rune('a'+d.IntN(3))))
		if r.Flag = d.IntN(3) == 0; r.Flag {
			r.Value = ""
		}
		return r
	case 6:
		return done(1+d.IntN(3), 1+d.IntN(40), d.IntN(23))
	}
	return d.partRecord(m)
}

// sound is 15.13: each partition may be, and in each of its epochs no more than one leads.
func sound(t *testing.T, w *words, led map[[3]int]int) {
	t.Helper()
	for at, p := range w.parts {
		if err := w.maybe(p); err != nil {
			t.Fatalf("%d of %d, %+v: %v", at.n, at.topic, p, err)
		}
		if p.Leader == 0 {
			continue
		}
		epoch := [3]int{at.topic, at.n, p.Epoch}
		if one := led[epoch]; one != 0 && one != p.Leader {
			t.Fatalf("%d of %d: %d and %d lead in the epoch %d", at.n, at.topic, one, p.Leader, p.Epoch)
		}
		led[epoch] = p.Leader
	}
}

// TestWords: what comes of many made-up records, against the chapter's words; nothing that was handed in is written to, nor what lies behind it, and no metadata of earlier steps are.
func TestWords(t *testing.T) {
	kinds := map[int]int{}
	for seed := range 30 {
		d := draw{rand.New(rand.NewPCG(uint64(seed), 15))}
		w, led := newWords(), map[[3]int]int{}
		m := api.Image{}
		var all []api.Image
		var told []string
		for step := range 400 {
			if step%2 == 0 {
				m = roomyImage(m)
			}
			r := roomyRecord(d.record(m))
			had, rows := whole(m), wholeRows(r.Ids, r.Isr, r.Add, r.Drop)
			next, err := image.Apply(m, r)
			if want := w.apply(r); !reflect.DeepEqual(err, want) {
				t.Fatalf("seed %d, step %d, %+v: %#v, not %#v", seed, step, r, err, want)
			}
			if want := w.image(); !alike(next, want) {
				t.Fatalf("seed %d, step %d, %+v: the metadata are\n%+v, not\n%+v", seed, step, r, next, want)
			}
			if whole(m) != had || wholeRows(r.Ids, r.Isr, r.Add, r.Drop) != rows {
				t.Fatalf("seed %d, step %d, %+v: what was handed in is another thing", seed, step, r)
			}
			if err == nil {
				kinds[r.Kind]++
			}
			sound(t, w, led)
			m = next
			all, told = append(all, m), append(told, text(m))
		}
		for i, m := range all {
			if text(m) != told[i] {
				t.Fatalf("seed %d: the metadata behind step %d became others", seed, i)
			}
		}
	}
	for kind := api.RNoop; kind <= api.RDone; kind++ {
		if kinds[kind] < 30 {
			t.Errorf("of kind %d there were %d legal steps alone", kind, kinds[kind])
		}
	}
}

// TestTwoWays: of one and the same metadata two records may make others: what the one makes the other does not see.
func TestTwoWays(t *testing.T) {
	for seed := range 40 {
		d := draw{rand.New(rand.NewPCG(uint64(seed), 16))}
		m := api.Image{}
		for range 200 {
			r := d.record(m)
			a, _ := image.Apply(m, r)
			was := text(a)
			for range 3 {
				b, _ := image.Apply(m, d.record(m))
				_, _ = image.Apply(b, d.record(b))
			}
			if text(a) != was {
				t.Fatalf("seed %d, %+v: the metadata were\n%s, and are\n%+v", seed, r, was, a)
			}
			m = a
		}
	}
}

// TestAllWords: 15.11: All is one step behind the other, as long as all are legal.
func TestAllWords(t *testing.T) {
	for seed := range 40 {
		d := draw{rand.New(rand.NewPCG(uint64(seed), 17))}
		m := api.Image{}
		var l []api.Record
		for range 300 {
			r := d.record(m)
			next, err := image.Apply(m, r)
			if err == nil {
				m, l = next, append(l, r)
				continue
			}
			got, failed := image.All(api.Image{}, append(l[:len(l):len(l)], r))
			if !reflect.DeepEqual(failed, wrong("record", len(l), err)) || !alike(got, api.Image{}) {
				t.Fatalf("seed %d, %d: %#v, not %#v; %+v", seed, len(l), failed, err, got)
			}
		}
		if got, err := image.All(api.Image{}, l); err != nil || !alike(got, m) {
			t.Fatalf("seed %d: %v: %+v, not %+v", seed, err, got, m)
		}
	}
}

// TestWild: of metadata that come of no records nothing is promised, but that each call ends.
func TestWild(t *testing.T) {
	for seed := range 200 {
		d := draw{rand.New(rand.NewPCG(uint64(seed), 18))}
		m := roomyImage(town(t))
		for i := range 100 {
			m.Done = append(m.Done, api.Done{Client: 1, Serial: i % 7})
		}
		m.Brokers = append(m.Brokers, m.Brokers...)
		m.Topics = append(m.Topics, api.Topic{Id: -3}, m.Topics[0])
		m.Topics[1].Parts = make([]api.Part, 300)
		d.Shuffle(len(m.Brokers), func(i, j int) { m.Brokers[i], m.Brokers[j] = m.Brokers[j], m.Brokers[i] })
		d.Shuffle(len(m.Topics), func(i, j int) { m.Topics[i], m.Topics[j] = m.Topics[j], m.Topics[i] })
		d.Shuffle(len(m.Configs), func(i, j int) { m.Configs[i], m.Configs[j] = m.Configs[j], m.Configs[i] })
		m.Last = []int{math.MaxInt, math.MinInt, -1, 3}[seed%4]
		for range 50 {
			m, _ = image.Apply(m, d.record(m))
			id := d.IntN(70) - 3
			image.Broker(m, id)
			image.Topic(m, id)
			image.Part(m, id, d.IntN(600)-300)
			image.Config(m, id, "b")
			image.Copy(m)
		}
	}
}
