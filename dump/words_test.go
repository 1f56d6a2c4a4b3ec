package dump_test

import (
	"fmt"
	"math"
	"math/rand/v2"
	"reflect"
	"slices"
	"strings"
	"testing"

	"castellan/api"
	"castellan/dump"
	"castellan/fault"
	"castellan/image"
	"castellan/record"
	"castellan/wire"
)

// raw is metadata by the words of 16.5, whether they may be, or not.
func raw(m api.Image) []byte {
	var b []byte
	number := func(l ...int) {
		for _, n := range l {
			b = wire.Int(b, n)
		}
	}
	number(m.Last, len(m.Brokers))
	for _, x := range m.Brokers {
		number(x.Id, x.Epoch)
		b = wire.Flag(wire.Flag(wire.Text(b, []byte(x.Rack)), x.Fenced), x.Leaving)
	}
	number(len(m.Topics))
	for _, x := range m.Topics {
		number(x.Id)
		b = wire.Text(b, []byte(x.Name))
		number(len(x.Parts))
		for _, p := range x.Parts {
			b = wire.Row(wire.Row(b, p.Ids), p.Isr)
			number(p.Leader, p.Epoch)
			b = wire.Row(wire.Row(b, p.Add), p.Drop)
		}
	}
	number(len(m.Configs))
	for _, x := range m.Configs {
		number(x.Topic)
		b = wire.Text(wire.Text(b, []byte(x.Key)), []byte(x.Value))
	}
	number(len(m.Done))
	for _, x := range m.Done {
		number(x.Client, x.Serial, x.Code)
	}
	return b
}

// wordsRead is 16.6.
func wordsRead(s string) (api.Image, error) {
	var m api.Image
	r := wire.Read([]byte(s))
	number := func() int { return r.Int(1 << 30) }
	m.Last = number()
	for n := r.Int(64); n > 0 && r.Err() == nil; n-- {
		var x api.Broker
		x.Id = number()
		x.Epoch = number()
		x.Rack = string(r.Text(40))
		x.Fenced = r.Flag()
		x.Leaving = r.Flag()
		m.Brokers = append(m.Brokers, x)
	}
	for n := r.Int(256); n > 0 && r.Err() == nil; n-- {
		var x api.Topic
		x.Id = number()
		x.Name = string(r.Text(40))
		for k := r.Int(256); k > 0 && r.Err() == nil; k-- {
			var p api.Part
			p.Ids = r.Row(7, 64)
			p.Isr = r.Row(7, 64)
			p.Leader = number()
			p.Epoch = number()
			p.Add = r.Row(7, 64)
			p.Drop = r.Row(7, 64)
			x.Parts = append(x.Parts, p)
		}
		m.Topics = append(m.Topics, x)
	}
	for n := number(); n > 0 && r.Err() == nil; n-- {
		var x api.Config
		x.Topic = number()
		x.Key = string(r.Text(40))
		x.Value = string(r.Text(256))
		m.Configs = append(m.Configs, x)
	}
	for n := r.Int(64); n > 0 && r.Err() == nil; n-- {
		var x api.Done
		x.Client = number()
		x.Serial = number()
		x.Code = number()
		m.Done = append(m.Done, x)
	}
	if err := r.End(); err != nil {
		return api.Image{}, err
	}
	if err := wordsCheck(m); err != nil {
		return api.Image{}, wrong("image", len(s), err)
	}
	return m, nil
}

// upTo tells whether a number is from least to MaxNum.
func upTo(least, n int) bool { return n >= least && n <= 1<<30 }

// wordsCheck is 16.1 to 16.4, thing by thing.
func wordsCheck(m api.Image) error {
	known := map[int]api.Broker{}
	ahead := 0
	for i, b := range m.Brokers {
		if b.Id <= ahead || b.Id > 64 || !upTo(0, b.Epoch) || !record.Name(b.Rack) {
			return wrong("broker", i, api.ErrRange)
		}
		leads := false
		for _, x := range m.Topics {
			for _, p := range x.Parts {
				leads = leads || p.Leader == b.Id
			}
		}
		if b.Fenced && b.Leaving && leads {
			return wrong("broker", i, api.ErrState)
		}
		known[b.Id], ahead = b, b.Id
	}
	if len(m.Topics) > 256 || !upTo(0, m.Last) {
		return wrong("topic", len(m.Topics), api.ErrLimit)
	}
	ids, names := map[int]int{0: 1}, map[string]int{}
	ahead = 0
	for i, x := range m.Topics {
		names[x.Name]++
		if x.Id <= ahead || x.Id > m.Last || !record.Name(x.Name) || names[x.Name] > 1 || len(x.Parts) > 256 {
			return wrong("topic", i, api.ErrRange)
		}
		for n, p := range x.Parts {
			if !wordsPart(known, p) {
				return badPart(i, n)
			}
		}
		ids[x.Id], ahead = 1, x.Id
	}
	for i, c := range m.Configs {
		if ids[c.Topic] == 0 || !record.Name(c.Key) || len(c.Value) > 256 {
			return wrong("config", i, api.ErrRange)
		}
		if i == 0 {
			continue
		}
		if was := m.Configs[i-1]; was.Topic > c.Topic || was.Topic == c.Topic && slices.Compare([]byte(was.Key), []byte(c.Key)) >= 0 {
			return wrong("config", i, api.ErrState)
		}
	}
	return wordsDone(m.Done)
}

// wordsPart is what 16.2 says of a partition.
func wordsPart(known map[int]api.Broker, p api.Part) bool {
	rows, member := [][]int{p.Ids, p.Isr, p.Add, p.Drop}, map[int][4]bool{}
	for i, row := range rows {
		if len(row) > 7 {
			return false
		}
		for _, id := range row {
			in := member[id]
			if id < 1 || id > 64 || in[i] || i > 0 && !in[0] {
				return false
			}
			in[i] = true
			member[id] = in
		}
	}
	for id, in := range member {
		if _, there := known[id]; !there || in[2] && in[3] {
			return false
		}
	}
	leader := p.Leader == 0 || member[p.Leader][1] && !known[p.Leader].Fenced
	return len(p.Ids) > 0 && len(p.Isr) > 0 && leader && upTo(0, p.Epoch)
}

// wordsDone is 16.4.
func wordsDone(l []api.Done) error {
	if len(l) > 64 {
		return wrong("done", len(l), api.ErrLimit)
	}
	times := map[[2]int]int{}
	for i, d := range l {
		both := [2]int{d.Client, d.Serial}
		if times[both]++; !upTo(1, d.Client) || !upTo(1, d.Serial) || d.Code < 0 || d.Code > 21 || times[both] > 1 {
			return wrong("done", i, api.ErrRange)
		}
	}
	return nil
}

// draw draws metadata, and records about few things.
type draw struct{ *rand.Rand }

// newDraw draws the same for the same seed.
func newDraw(seed, kind uint64) draw { return draw{rand.New(rand.NewPCG(seed, kind))} }

// one is any of a list.
func one[T any](d draw, l ...T) T { return l[d.IntN(len(l))] }

// number is any, most often one that is near what there is.
func (d draw) number() int {
	if d.IntN(3) > 0 {
		return d.IntN(8)
	}
	return one(d, math.MinInt, -1, 0, 20, 21, 22, 40, 63, 64, 65, 100, 1<<30-1, 1<<30, 1<<30+1, math.MaxInt)
}

// name is any text, most often one that there may be.
func (d draw) name() string {
	return one(d, "a", "b", "c", "two", "nine", "z.9", "", "..", "A", letters(40), letters(41))
}

// row is some of a list, in any order.
func (d draw) row(from []int) []int {
	l := slices.Clone(from)
	d.Shuffle(len(l), func(i, j int) { l[i], l[j] = l[j], l[i] })
	return l[:d.IntN(len(l)+1)]
}

// alter makes another thing of one field of metadata.
func (d draw) alter(m *api.Image) {
	if len(m.Topics) == 0 || len(m.Brokers) == 0 || len(m.Configs) == 0 || len(m.Done) == 0 {
		m.Last = d.number()
		return
	}
	b, x := &m.Brokers[d.IntN(len(m.Brokers))], &m.Topics[d.IntN(len(m.Topics))]
	c, a := &m.Configs[d.IntN(len(m.Configs))], &m.Done[d.IntN(len(m.Done))]
	switch d.IntN(17) {
	case 0:
		b.Id = d.number()
	case 1:
		b.Epoch = d.number()
	case 2:
		b.Rack = d.name()
	case 3:
		b.Fenced, b.Leaving = d.IntN(3) > 0, d.IntN(3) > 0
	case 4:
		m.Last = d.number()
	case 5:
		x.Id = d.number()
	case 6:
		x.Name = d.name()
	case 7:
		c.Topic = d.number()
	case 8:
		c.Key = d.name()
	case 9:
		c.Value = strings.Repeat("v", one(d, 0, 255, 256, 257))
	case 10:
		a.Client = d.number()
	case 11:
		a.Serial = d.number()
	case 12:
		a.Code = d.number()
	case 13:
		m.Done = append(m.Done, one(d, *a, api.Done{Client: d.number(), Serial: d.number()}))
	case 14:
		m.Configs[0], *c = *c, m.Configs[0]
	default:
		if len(x.Parts) > 0 {
			d.alterPart(&x.Parts[d.IntN(len(x.Parts))])
		}
	}
}

// alterPart makes another thing of one field of a partition.
func (d draw) alterPart(p *api.Part) {
	row := one(d, &p.Ids, &p.Isr, &p.Add, &p.Drop)
	switch d.IntN(7) {
	case 0:
		p.Leader = d.number()
	case 1:
		p.Epoch = d.number()
	case 2:
		*row = append(slices.Clone(*row), d.number())
	case 3:
		*row = d.row(p.Ids)
	case 4:
		*row = []int{1, 2, 3, 4, 5, 6, 7, 8}[:d.IntN(9)]
	case 5:
		p.Add = d.row(p.Ids)
		p.Drop = d.row(p.Ids)
	case 6:
		*row = nil
	}
}

// TestWords: 16.1 to 16.6, of many made-up metadata, against the chapter's words; what is handed in stays as it is.
func TestWords(t *testing.T) {
	told := map[string]int{}
	for seed := range uint64(300) {
		d := newDraw(seed, 16)
		m := town()
		if seed%3 > 0 {
			m = d.town(t, 300)
		}
		for range 100 {
			x := roomyImage(m)
			for range d.IntN(4) {
				d.alter(&x)
			}
			had, want := whole(x), wordsCheck(x)
			told[strings.Join(fault.Path(want), " ")+" "+text(fault.Of(want))]++
			if err := dump.Check(x); !reflect.DeepEqual(err, want) {
				t.Fatalf("seed %d, %+v: %#v, not %#v", seed, x, err, want)
			}
			b, err := dump.Put(x)
			if !reflect.DeepEqual(err, want) || want == nil && string(b) != string(raw(x)) || want != nil && len(b) > 0 {
				t.Fatalf("seed %d, %+v: %#v, not %#v; %q", seed, x, err, want, b)
			}
			if whole(x) != had {
				t.Fatalf("seed %d: %s\nis %s", seed, had, whole(x))
			}
			d.readWords(t, string(raw(x)))
		}
	}
	for _, s := range []string{" code 0", "broker code 2", "broker code 10", "topic code 6", "topic code 2", "topic part code 10", "config code 2", "config code 10", "done code 2"} {
		if told[s] < 100 {
			t.Errorf("%q was told %d times: %v", s, told[s], told)
		}
	}
}

// readWords reads bytes, and others that are like them; those that are metadata are written as they are, in one way alone.
func (d draw) readWords(t *testing.T, s string) {
	t.Helper()
	for range 3 {
		b := []byte(s)
		m, err := dump.Read(b)
		want, why := wordsRead(s)
		if !reflect.DeepEqual(err, why) || !alike(m, want) || string(b) != s {
			t.Fatalf("%q: %#v, not %#v; %+v, not %+v", s, err, why, m, want)
		}
		if again, err := dump.Put(m); why == nil && (err != nil || string(again) != s) {
			t.Fatalf("%q: written again: %v: %q", s, err, again)
		}
		for range 1 + d.IntN(2) {
			b = d.alterBytes(b)
		}
		s = string(b)
	}
}

// alterBytes makes one byte of bytes another one, or puts one between, or takes some away.
func (d draw) alterBytes(b []byte) []byte {
	i := d.IntN(len(b) + 1)
	if i == len(b) {
		return append(b, byte(d.IntN(4)))
	}
	switch d.IntN(4) {
	case 0:
		b[i] = byte(d.IntN(256))
	case 1:
		b[i] = byte(d.IntN(8))
	case 2:
		b = slices.Insert(b, i, byte(d.IntN(4)))
	case 3:
		b = slices.Delete(b, i, min(len(b), i+1+d.IntN(3)))
	}
	return b
}

// town is metadata behind many made-up records.
func (d draw) town(t *testing.T, steps int) api.Image {
	t.Helper()
	m := api.Image{}
	for range steps {
		m, _ = image.Apply(m, d.record(m))
	}
	return m
}

// record is one of any kind, of which many are legal steps.
func (d draw) record(m api.Image) api.Record {
	id, topic := 1+d.IntN(6), max(1, m.Last-d.IntN(4))
	b, _ := image.Broker(m, id)
	switch kind := one(d, 2, 2, 3, 4, 4, 4, 5, 6, 7, 8, 8, 9, 9, 9, 9, 10, 10, 11, 12, 12); kind {
	case api.RBroker:
		return api.Record{Kind: kind, Broker: id, Epoch: b.Epoch + d.IntN(3), Rack: one(d, "a", "b")}
	case api.RTopic:
		return api.Record{Kind: kind, Topic: m.Last + 1, Name: one(d, "a", "b", "c", "d")}
	case api.RPart, api.RChange:
		return d.part(m, kind, topic)
	case api.RConfig:
		if d.IntN(3) == 0 {
			return api.Record{Kind: kind, Topic: one(d, 0, topic), Key: one(d, "a", "b", "c"), Flag: true}
		}
		return api.Record{Kind: kind, Topic: one(d, 0, topic), Key: one(d, "a", "b", "c"), Value: one(d, "", "v", "\x00")}
	case api.RDrop:
		return api.Record{Kind: kind, Topic: max(1, m.Last-d.IntN(20))}
	case api.RDone:
		return api.Record{Kind: kind, Client: 1 + d.IntN(3), Serial: 1 + d.IntN(90), Code: d.IntN(22)}
	default:
		return api.Record{Kind: kind, Broker: id, Epoch: b.Epoch}
	}
}

// part is a record by which a partition is made, or becomes another one.
func (d draw) part(m api.Image, kind, topic int) api.Record {
	x, _ := image.Topic(m, topic)
	r := api.Record{Kind: kind, Topic: topic, Part: len(x.Parts)}
	var ids []int
	for _, b := range m.Brokers {
		ids = append(ids, b.Id)
	}
	r.Ids = d.row(ids)
	r.Isr = d.row(r.Ids)
	if len(r.Isr) > 0 && d.IntN(3) > 0 {
		r.Leader = one(d, r.Isr...)
	}
	if kind == api.RChange {
		r.Part = d.IntN(len(x.Parts) + 1)
		p, _ := image.Part(m, topic, r.Part)
		r.Epoch = p.Epoch + d.IntN(2)
		moved := d.row(r.Ids)
		n := d.IntN(len(moved) + 1)
		r.Add, r.Drop = moved[:n], moved[n:]
	}
	return r
}

// TestGoesOn: 16.7: what comes of records may be written; written and read it is the same, and goes on as that.
func TestGoesOn(t *testing.T) {
	legal := map[int]int{}
	for seed := range uint64(60) {
		d := newDraw(seed, 17)
		m, own := api.Image{}, api.Image{}
		for step := range 400 {
			r := d.record(m)
			next, want := image.Apply(m, r)
			got, err := image.Apply(own, r)
			if !reflect.DeepEqual(err, want) || !alike(got, next) {
				t.Fatalf("seed %d, step %d, %+v: %v, not %v: %+v, not %+v", seed, step, r, err, want, got, next)
			}
			if want == nil {
				legal[r.Kind]++
			}
			b, err := dump.Put(next)
			if err != nil || dump.Check(next) != nil {
				t.Fatalf("seed %d, step %d, %+v: %v", seed, step, next, err)
			}
			if own, err = dump.Read(b); err != nil || !alike(own, next) {
				t.Fatalf("seed %d, step %d: %v: %+v, not %+v", seed, step, err, own, next)
			}
			m = next
		}
	}
	for kind := api.RBroker; kind <= api.RDone; kind++ {
		if legal[kind] < 100 {
			t.Errorf("of kind %d there were %d legal steps alone: %v", kind, legal[kind], legal)
		}
	}
}

// TestGoesOnAtLimits: 16.7: as many brokers, topics, partitions and answers as records make; and what a record refuses then is refused behind reading, too.
func TestGoesOnAtLimits(t *testing.T) {
	m := api.Image{}
	for id := 1; id <= 64; id++ {
		m = behind(t, m, api.Record{Kind: api.RBroker, Broker: id, Epoch: 1 << 30, Rack: letters(40)}, api.Record{Kind: api.ROpen, Broker: id, Epoch: 1 << 30})
	}
	for id := 1; id <= 256; id++ {
		m = behind(t, m, api.Record{Kind: api.RTopic, Topic: id, Name: fmt.Sprint(letters(37), id)})
	}
	for n := range 256 {
		m = behind(t, m, api.Record{Kind: api.RPart, Topic: 256, Part: n, Leader: 64, Ids: []int{64, 1, 2, 3, 4, 5, 6}, Isr: []int{64}})
	}
	for serial := 1; serial <= 70; serial++ {
		m = behind(t, m, api.Record{Kind: api.RDone, Client: 1 << 30, Serial: serial, Code: 21})
	}
	m = behind(t, m, api.Record{Kind: api.RConfig, Topic: 256, Key: letters(40), Value: strings.Repeat("\xff", 256)})
	b, err := dump.Put(m)
	if err != nil {
		t.Fatal(err)
	}
	n, err := dump.Read(b)
	if err != nil || !alike(n, m) {
		t.Fatalf("%v: %d bytes are other metadata", err, len(b))
	}
	for _, r := range []api.Record{
		{Kind: api.RTopic, Topic: 257, Name: "more"},
		{Kind: api.RFence, Broker: 64, Epoch: 1 << 30},
		{Kind: api.RGone, Broker: 6, Epoch: 1 << 30},
		{Kind: api.RDone, Client: 1 << 30, Serial: 7},
		{Kind: api.RDone, Client: 1 << 30, Serial: 6},
	} {
		want, why := image.Apply(m, r)
		if got, err := image.Apply(n, r); !reflect.DeepEqual(err, why) || !alike(got, want) {
			t.Errorf("%+v: %v, not %v", r, err, why)
		}
	}
}
