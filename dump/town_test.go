package dump_test

import (
	"fmt"
	"reflect"
	"slices"
	"strings"
	"testing"

	"castellan/api"
	"castellan/dump"
	"castellan/image"
)

// wrong is an error as the chapter words it: of such and such, at so much, that; or that wrapped by it.
func wrong(op string, at int, err error) error { return api.Fault{Op: op, At: at, Err: err} }

// badPart is what is told of a partition that may not be.
func badPart(topic, n int) error { return wrong("topic", topic, wrong("part", n, api.ErrState)) }

// text is all that metadata, or a part of them, say; a list that is nil and one without elements are told alike.
func text(x any) string { return fmt.Sprintf("%+v", x) }

// alike tells whether two things say the same.
func alike(a, b any) bool { return reflect.DeepEqual(a, b) || text(a) == text(b) }

// roomy is a list in new memory, with something behind it.
func roomy[T any](l []T) []T {
	own := append(make([]T, 0, len(l)+3), l...)
	behind := own[len(l):cap(own)]
	for i := range behind {
		behind[i] = own[:1][0]
	}
	return own
}

// roomyImage is metadata in new memory, with something behind each list.
func roomyImage(m api.Image) api.Image {
	m.Brokers, m.Topics, m.Configs, m.Done = roomy(m.Brokers), roomy(m.Topics), roomy(m.Configs), roomy(m.Done)
	for i, x := range m.Topics {
		m.Topics[i].Parts = roomy(x.Parts)
		for j, p := range x.Parts {
			m.Topics[i].Parts[j] = api.Part{Ids: roomy(p.Ids), Isr: roomy(p.Isr), Leader: p.Leader, Epoch: p.Epoch, Add: roomy(p.Add), Drop: roomy(p.Drop)}
		}
	}
	return m
}

// whole is all that the lists of metadata hold, what lies behind their lengths with it.
func whole(m api.Image) string {
	var s strings.Builder
	tell := func(l ...any) { fmt.Fprintf(&s, "%+v", l) }
	tell(m, m.Brokers[:cap(m.Brokers)], m.Topics[:cap(m.Topics)], m.Configs[:cap(m.Configs)], m.Done[:cap(m.Done)])
	for _, x := range m.Topics {
		tell(x.Parts[:cap(x.Parts)])
		for _, p := range x.Parts {
			tell(p.Ids[:cap(p.Ids)], p.Isr[:cap(p.Isr)], p.Add[:cap(p.Add)], p.Drop[:cap(p.Drop)])
		}
	}
	return s.String()
}

// fill writes something over all of a list, and over what lies behind it.
func fill[T any](l []T, x T) {
	l = l[:cap(l)]
	for i := range l {
		l[i] = x
	}
}

// spoil writes over all that the lists of metadata hold.
func spoil(m api.Image) {
	for _, x := range m.Topics {
		for _, p := range x.Parts {
			fill(p.Ids, 77)
			fill(p.Isr, 77)
			fill(p.Add, 77)
			fill(p.Drop, 77)
		}
		fill(x.Parts, api.Part{Leader: 77})
	}
	fill(m.Brokers, api.Broker{Id: 77})
	fill(m.Topics, api.Topic{Id: 77})
	fill(m.Configs, api.Config{Topic: 77})
	fill(m.Done, api.Done{Client: 77})
}

// town is metadata of which each list has something, with something behind each list.
func town() api.Image {
	return roomyImage(api.Image{
		Brokers: []api.Broker{
			{Id: 10, Epoch: 4, Rack: "rack-10"},
			{Id: 20, Epoch: 300, Rack: "b", Leaving: true},
			{Id: 30, Epoch: 4, Rack: "a", Fenced: true},
			{Id: 40, Epoch: 1 << 30, Rack: "a", Fenced: true, Leaving: true},
			{Id: 64, Rack: "z.9"},
		},
		Topics: []api.Topic{
			{Id: 2, Name: "two", Parts: []api.Part{
				{Ids: []int{10, 20, 30}, Isr: []int{20, 10, 30}, Leader: 10, Epoch: 70, Add: []int{30}, Drop: []int{20, 10}},
				{Ids: []int{40, 10}, Isr: []int{40}},
			}},
			{Id: 3, Name: "three"},
			{Id: 9, Name: "nine", Parts: []api.Part{{Ids: []int{64}, Isr: []int{64}, Leader: 64, Epoch: 1 << 30}}},
		},
		Configs: []api.Config{
			{Topic: 0, Key: "b", Value: "all \x00\xff"},
			{Topic: 2, Key: "a"},
			{Topic: 2, Key: "b", Value: "2b"},
			{Topic: 9, Key: "b", Value: "9b"},
		},
		Done: []api.Done{{Client: 7, Serial: 1}, {Client: 8, Serial: 1 << 30, Code: 21}, {Client: 7, Serial: 2, Code: 5}},
		Last: 9,
	})
}

// townBytes are the town by the words of 16.5, byte by byte.
const townBytes = "\x09" +
	"\x05" +
	"\x0a\x04\x07rack-10\x00\x00" +
	"\x14\x41\x2c\x01b\x00\x01" +
	"\x1e\x04\x01a\x01\x00" +
	"\x28\xc0\x00\x00\x00\x40\x00\x00\x00\x01a\x01\x01" +
	"\x40\x40\x00\x03z.9\x00\x00" +
	"\x03" +
	"\x02\x03two\x02" +
	"\x03\x0a\x14\x1e\x03\x14\x0a\x1e\x0a\x40\x46\x01\x1e\x02\x14\x0a" +
	"\x02\x28\x0a\x01\x28\x00\x00\x00\x00" +
	"\x03\x05three\x00" +
	"\x09\x04nine\x01" +
	"\x01\x40\x40\x01\x40\x40\x40\x40\xc0\x00\x00\x00\x40\x00\x00\x00\x00\x00" +
	"\x04" +
	"\x00\x01b\x06all \x00\xff" +
	"\x02\x01a\x00" +
	"\x02\x01b\x022b" +
	"\x09\x01b\x029b" +
	"\x03" +
	"\x07\x01\x00" +
	"\x08\xc0\x00\x00\x00\x40\x00\x00\x00\x15" +
	"\x07\x02\x05"

// letters is a name that is so long.
func letters(many int) string { return strings.Repeat("n", many) }

// brokers are so many, from 1 on, unfenced.
func brokers(many int) []api.Broker {
	var l []api.Broker
	for i := range many {
		l = append(l, api.Broker{Id: i + 1, Epoch: 1, Rack: "r"})
	}
	return l
}

// topics are so many, from 1 on, without partitions.
func topics(many int) []api.Topic {
	var l []api.Topic
	for i := range many {
		l = append(l, api.Topic{Id: i + 1, Name: fmt.Sprint("t", i+1)})
	}
	return l
}

// parts are so many of the same, whose one replica leads.
func parts(many, leader int) []api.Part {
	var l []api.Part
	for range many {
		l = append(l, api.Part{Ids: []int{leader}, Isr: []int{leader}, Leader: leader})
	}
	return l
}

// answers are so many, of one client.
func answers(many int) []api.Done {
	var l []api.Done
	for i := range many {
		l = append(l, api.Done{Client: 1, Serial: i + 1})
	}
	return l
}

// full is metadata of which each list is as long as it may be, and each number and text, as far as they go together.
func full() api.Image {
	m := api.Image{Brokers: brokers(64), Topics: topics(256), Done: answers(64), Last: 1 << 30}
	ids := []int{64, 1, 63, 2, 62, 3, 61}
	for i := range m.Brokers {
		m.Brokers[i].Epoch, m.Brokers[i].Rack = 1<<30, letters(40)
	}
	for i := range m.Topics {
		m.Topics[i].Name = letters(36) + fmt.Sprint(1000+i)
		for range 256 / (1 + 15*(i%2)) {
			m.Topics[i].Parts = append(m.Topics[i].Parts, api.Part{Ids: slices.Clone(ids), Isr: slices.Clone(ids), Leader: 64, Epoch: 1 << 30, Add: slices.Clone(ids[:3]), Drop: slices.Clone(ids[3:])})
		}
	}
	m.Topics[255].Id = 1 << 30
	for _, x := range append([]api.Topic{{}}, m.Topics...) {
		for i := range 10 {
			m.Configs = append(m.Configs, api.Config{Topic: x.Id, Key: fmt.Sprint(i) + letters(39), Value: strings.Repeat("\x00v", 128)})
		}
	}
	for i := range m.Done {
		m.Done[i] = api.Done{Client: 1<<30 - i, Serial: 1 << 30, Code: 21}
	}
	return m
}

// checked fails the test, if something else is told of metadata, by Check or by Put, or these are not what they were.
func checked(t *testing.T, name string, m api.Image, want error) {
	t.Helper()
	had := whole(m)
	if err := dump.Check(m); !reflect.DeepEqual(err, want) {
		t.Errorf("%s: checked: %#v, not %#v", name, err, want)
	}
	b, err := dump.Put(m)
	if !reflect.DeepEqual(err, want) || (err == nil) == (len(b) == 0) {
		t.Errorf("%s: put: %#v, not %#v, %d bytes", name, err, want, len(b))
	}
	if whole(m) != had {
		t.Errorf("%s: what was handed in is another thing", name)
	}
}

// behind is metadata behind records, all of which must be legal steps.
func behind(t *testing.T, m api.Image, l ...api.Record) api.Image {
	t.Helper()
	m, err := image.All(m, l)
	if err != nil {
		t.Fatal(err)
	}
	return m
}
