package image_test

import (
	"fmt"
	"reflect"
	"testing"

	"castellan/api"
	"castellan/image"
)

// wrong is an error as the chapter words it: of such and such, at so much, that; or that wrapped by it.
func wrong(op string, at int, err error) error { return api.Fault{Op: op, At: at, Err: err} }

// text is all that metadata, or a part of them, say; a list that is nil and one without elements are told alike.
func text(x any) string { return fmt.Sprintf("%+v", x) }

// alike tells whether two things say the same; the texts, which take longer, tell, where a list is nil, and the other one without elements.
func alike(a, b any) bool { return reflect.DeepEqual(a, b) || text(a) == text(b) }

// roomy is a list in new memory, with room behind it.
func roomy[T any](l []T) []T { return append(make([]T, 0, len(l)+3), l...) }

// roomyPart is a partition in new memory, with room behind its lists.
func roomyPart(p api.Part) api.Part {
	p.Ids, p.Isr, p.Add, p.Drop = roomy(p.Ids), roomy(p.Isr), roomy(p.Add), roomy(p.Drop)
	return p
}

// roomyImage is metadata in new memory, with room behind each list.
func roomyImage(m api.Image) api.Image {
	m.Brokers, m.Topics, m.Configs, m.Done = roomy(m.Brokers), roomy(m.Topics), roomy(m.Configs), roomy(m.Done)
	for i, t := range m.Topics {
		m.Topics[i].Parts = roomy(t.Parts)
		for j, p := range t.Parts {
			m.Topics[i].Parts[j] = roomyPart(p)
		}
	}
	return m
}

// roomyRecord is a record in new memory, with room behind its lists.
func roomyRecord(r api.Record) api.Record {
	r.Ids, r.Isr, r.Add, r.Drop = roomy(r.Ids), roomy(r.Isr), roomy(r.Add), roomy(r.Drop)
	return r
}

// wholeRows is all that rows hold, what lies behind their lengths with it.
func wholeRows(rows ...[]int) string {
	s := ""
	for _, l := range rows {
		s += text(len(l)) + text(l[:cap(l)])
	}
	return s
}

// whole is all that the lists of metadata hold, what lies behind their lengths with it.
func whole(m api.Image) string {
	s := text(m) + text(m.Brokers[:cap(m.Brokers)]) + text(m.Topics[:cap(m.Topics)]) +
		text(m.Configs[:cap(m.Configs)]) + text(m.Done[:cap(m.Done)])
	for _, t := range m.Topics {
		s += text(t.Parts[:cap(t.Parts)])
		for _, p := range t.Parts {
			s += wholeRows(p.Ids, p.Isr, p.Add, p.Drop)
		}
	}
	return s
}

// behind is the metadata behind records, all of which must be legal steps.
func behind(t *testing.T, m api.Image, l ...api.Record) api.Image {
	t.Helper()
	for i, r := range l {
		next, err := image.Apply(m, r)
		if err != nil {
			t.Fatalf("record %d, %+v: %v", i, r, err)
		}
		m = next
	}
	return m
}

// legal fails the test, if a record is no legal step, or anything but what it says comes of it.
func legal(t *testing.T, m api.Image, r api.Record, does func(m *api.Image)) {
	t.Helper()
	want := roomyImage(m)
	does(&want)
	was := text(m)
	got, err := image.Apply(m, r)
	if err != nil || !alike(got, want) {
		t.Errorf("%+v: %v, and the metadata are\n%+v, not\n%+v", r, err, got, want)
	}
	if text(m) != was {
		t.Errorf("%+v: the metadata were\n%s, and are\n%+v", r, was, m)
	}
}

// refused fails the test, if a record is not refused so, or the metadata are not those that they were.
func refused(t *testing.T, m api.Image, r api.Record, why error) {
	t.Helper()
	was := text(m)
	got, err := image.Apply(m, r)
	if want := wrong("apply", r.Kind, why); !reflect.DeepEqual(err, want) {
		t.Errorf("%+v: %#v, not %#v", r, err, want)
	}
	if text(got) != was || text(m) != was {
		t.Errorf("%+v: the metadata were\n%s, and are\n%+v", r, was, got)
	}
}

// about is a record of a broker, of the epoch 4, which all have in the town.
func about(kind, id int) api.Record { return api.Record{Kind: kind, Broker: id, Epoch: 4} }

// born is a record by which a broker is registered.
func born(id, epoch int, rack string) api.Record {
	return api.Record{Kind: api.RBroker, Broker: id, Epoch: epoch, Rack: rack}
}

// named is a record by which a topic is made.
func named(id int, name string) api.Record {
	return api.Record{Kind: api.RTopic, Topic: id, Name: name}
}

// made is a record by which a partition is made.
func made(topic, n, leader int, ids, isr []int) api.Record {
	return api.Record{Kind: api.RPart, Topic: topic, Part: n, Leader: leader, Ids: ids, Isr: isr}
}

// changed is a record by which a partition becomes another one.
func changed(topic, n int, p api.Part) api.Record {
	return api.Record{Kind: api.RChange, Topic: topic, Part: n, Epoch: p.Epoch, Leader: p.Leader, Ids: p.Ids, Isr: p.Isr, Add: p.Add, Drop: p.Drop}
}

// set is a record by which a setting is made.
func set(topic int, key, value string) api.Record {
	return api.Record{Kind: api.RConfig, Topic: topic, Key: key, Value: value}
}

// unset is a record by which a setting is taken away.
func unset(topic int, key string) api.Record {
	return api.Record{Kind: api.RConfig, Topic: topic, Key: key, Flag: true}
}

// done is a record of an answer.
func done(client, serial, code int) api.Record {
	return api.Record{Kind: api.RDone, Client: client, Serial: serial, Code: code}
}

// townRecords are those of which the town comes.
func townRecords() []api.Record {
	l := []api.Record{}
	for _, id := range []int{20, 10, 60, 50, 30, 40} {
		l = append(l, born(id, 4, fmt.Sprint("rack-", id)))
		if id <= 40 {
			l = append(l, about(api.ROpen, id))
		}
	}
	return append(l,
		about(api.RLeave, 20),
		about(api.RLeave, 40),
		named(1, "gone"), named(2, "two"), named(3, "three"), named(4, "four"),
		made(2, 0, 10, []int{10, 20, 50}, []int{20, 10, 50}),
		made(2, 1, 20, []int{20, 10}, []int{20}),
		made(2, 2, 0, []int{50, 10}, []int{50}),
		made(4, 0, 10, []int{10}, []int{10}),
		changed(2, 0, api.Part{Epoch: 1, Leader: 10, Ids: []int{10, 20, 50}, Isr: []int{20, 10, 50}, Add: []int{50}, Drop: []int{20}}),
		set(4, "b", "4b"), set(2, "b", "2b"), set(0, "b", "0b"), set(2, "a", ""),
		done(7, 1, 0), done(8, 2, 21), done(7, 2, 5),
		api.Record{Kind: api.RDrop, Topic: 1},
	)
}

// town is metadata of which each list has something. The brokers: 10 leads; 20 leads, and leaves; 30 is open, 40 leaves, 50 is fenced and a replica, 60 is fenced.
func town(t *testing.T) api.Image {
	t.Helper()
	return roomyImage(behind(t, api.Image{}, townRecords()...))
}

// TestTown: what the other tests begin with, field by field.
func TestTown(t *testing.T) {
	want := api.Image{
		Brokers: []api.Broker{
			{Id: 10, Epoch: 4, Rack: "rack-10"},
			{Id: 20, Epoch: 4, Rack: "rack-20", Leaving: true},
			{Id: 30, Epoch: 4, Rack: "rack-30"},
			{Id: 40, Epoch: 4, Rack: "rack-40", Leaving: true},
			{Id: 50, Epoch: 4, Rack: "rack-50", Fenced: true},
			{Id: 60, Epoch: 4, Rack: "rack-60", Fenced: true},
		},
		Topics: []api.Topic{
			{Id: 2, Name: "two", Parts: []api.Part{
				{Ids: []int{10, 20, 50}, Isr: []int{20, 10, 50}, Leader: 10, Epoch: 1, Add: []int{50}, Drop: []int{20}},
				{Ids: []int{20, 10}, Isr: []int{20}, Leader: 20},
				{Ids: []int{50, 10}, Isr: []int{50}},
			}},
			{Id: 3, Name: "three"},
			{Id: 4, Name: "four", Parts: []api.Part{{Ids: []int{10}, Isr: []int{10}, Leader: 10}}},
		},
		Configs: []api.Config{
			{Topic: 0, Key: "b", Value: "0b"},
			{Topic: 2, Key: "a"},
			{Topic: 2, Key: "b", Value: "2b"},
			{Topic: 4, Key: "b", Value: "4b"},
		},
		Done: []api.Done{{Client: 7, Serial: 1}, {Client: 8, Serial: 2, Code: 21}, {Client: 7, Serial: 2, Code: 5}},
		Last: 4,
	}
	if got := town(t); !alike(got, want) {
		t.Errorf("the town is\n%+v, not\n%+v", got, want)
	}
}
