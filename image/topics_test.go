package image_test

import (
	"fmt"
	"slices"
	"strings"
	"testing"

	"castellan/api"
	"castellan/image"
)

// TestTopics: 15.8: a topic has the next number, and a name of its own.
func TestTopics(t *testing.T) {
	legal(t, api.Image{}, named(1, "two"), func(m *api.Image) {
		m.Topics, m.Last = []api.Topic{{Id: 1, Name: "two"}}, 1
	})
	m := town(t)
	legal(t, m, named(5, "five"), func(m *api.Image) {
		m.Topics, m.Last = append(m.Topics, api.Topic{Id: 5, Name: "five"}), 5
	})
	// The name of one that is gone is free again, its number is not.
	legal(t, m, named(5, "gone"), func(m *api.Image) {
		m.Topics, m.Last = append(m.Topics, api.Topic{Id: 5, Name: "gone"}), 5
	})
	for _, id := range []int{1, 2, 3, 4, 6, 1 << 30} {
		refused(t, m, named(id, "five"), api.ErrState)
		refused(t, m, named(id, "two"), api.ErrState)
	}
	refused(t, api.Image{}, named(2, "two"), api.ErrState)
	for _, x := range m.Topics {
		refused(t, m, named(5, x.Name), api.ErrExists)
	}
}

// TestTopicsLimit: 15.8: there are at most MaxTopics (256), which is told behind what else is wrong.
func TestTopicsLimit(t *testing.T) {
	m := town(t)
	for len(m.Topics) < 256 {
		m = behind(t, m, named(m.Last+1, fmt.Sprint("t", m.Last)))
	}
	refused(t, m, named(m.Last+1, "more"), api.ErrLimit)
	refused(t, m, named(m.Last+1, "two"), api.ErrExists)
	refused(t, m, named(m.Last, "more"), api.ErrState)
	m = behind(t, m, api.Record{Kind: api.RDrop, Topic: 2})
	legal(t, m, named(m.Last+1, "two"), func(m *api.Image) {
		m.Topics, m.Last = append(m.Topics, api.Topic{Id: m.Last + 1, Name: "two"}), m.Last+1
	})
}

// TestTopicsLast: 15.8: the last number is MaxNum.
func TestTopicsLast(t *testing.T) {
	m := town(t)
	// So many topics would take too long, so the number ahead of the last one is set by hand.
	m.Last = 1<<30 - 1
	legal(t, m, named(1<<30, "last"), func(m *api.Image) {
		m.Topics, m.Last = append(m.Topics, api.Topic{Id: 1 << 30, Name: "last"}), 1<<30
	})
}

// TestDrop: 15.8: a topic is gone with its settings; the last number stays.
func TestDrop(t *testing.T) {
	m := behind(t, town(t), set(3, "c", "3c"), set(2, "z", "2z"))
	for place, id := range []int{2, 3, 4} {
		legal(t, m, api.Record{Kind: api.RDrop, Topic: id}, func(m *api.Image) {
			m.Topics = append(m.Topics[:place], m.Topics[place+1:]...)
			var others []api.Config
			for _, c := range m.Configs {
				if c.Topic != id {
					others = append(others, c)
				}
			}
			m.Configs = others
		})
	}
	for _, id := range []int{1, 5, 1 << 30} {
		refused(t, m, api.Record{Kind: api.RDrop, Topic: id}, api.ErrNone)
		refused(t, api.Image{}, api.Record{Kind: api.RDrop, Topic: id}, api.ErrNone)
	}
	m = behind(t, m, api.Record{Kind: api.RDrop, Topic: 2}, api.Record{Kind: api.RDrop, Topic: 4}, about(api.RFence, 20), about(api.RGone, 10))
	refused(t, m, api.Record{Kind: api.RDrop, Topic: 2}, api.ErrNone)
	m = behind(t, m, api.Record{Kind: api.RDrop, Topic: 3})
	if len(m.Topics) != 0 || m.Last != 4 || !alike(m.Configs, []api.Config{{Topic: 0, Key: "b", Value: "0b"}}) {
		t.Errorf("%+v", m)
	}
}

// TestConfigs: 15.9: a setting is made, becomes another one, and is taken away.
func TestConfigs(t *testing.T) {
	m := town(t)
	for place, c := range m.Configs {
		for _, v := range []string{"", "new", c.Value, strings.Repeat("v", 256)} {
			legal(t, m, set(c.Topic, c.Key, v), func(m *api.Image) { m.Configs[place].Value = v })
		}
		legal(t, m, unset(c.Topic, c.Key), func(m *api.Image) {
			m.Configs = append(m.Configs[:place], m.Configs[place+1:]...)
		})
		for _, topic := range []int{1, 5, 1 << 30} {
			refused(t, m, set(topic, c.Key, "v"), api.ErrNone)
			refused(t, m, unset(topic, c.Key), api.ErrNone)
		}
	}
	for _, c := range []api.Config{{Topic: 0, Key: "a"}, {Topic: 0, Key: "c"}, {Topic: 2, Key: "c"}, {Topic: 3, Key: "a"}, {Topic: 3, Key: "b"}, {Topic: 4, Key: "a"}} {
		refused(t, m, unset(c.Topic, c.Key), api.ErrNone)
	}
	legal(t, api.Image{}, set(0, "k", ""), func(m *api.Image) { m.Configs = []api.Config{{Key: "k"}} })
	refused(t, api.Image{}, unset(0, "k"), api.ErrNone)
}

// TestConfigsOrder: 15.9: settings stand by topic, then by key, byte by byte, in whichever order they come.
func TestConfigsOrder(t *testing.T) {
	// A dash stands ahead of a dot, that ahead of digits, these ahead of letters; a key ahead of a longer one.
	keys := []string{"-", "-a", ".a", "0", "10", "2", "9", "a", "a-", "a.", "a0", "aa", "ab", "b", strings.Repeat("z", 39), strings.Repeat("z", 40)}
	var l []api.Record
	var want []api.Config
	for _, topic := range []int{0, 1, 2, 10} {
		for _, k := range keys {
			l = append(l, set(topic, k, k))
			want = append(want, api.Config{Topic: topic, Key: k, Value: k})
		}
	}
	m := api.Image{}
	for id := range 10 {
		m = behind(t, m, named(id+1, fmt.Sprint("t", id)))
	}
	backward := slices.Clone(l)
	slices.Reverse(backward)
	var mixed []api.Record
	for i := range l {
		mixed = append(mixed, l[i*23%len(l)])
	}
	for _, order := range [][]api.Record{l, backward, mixed} {
		if got := behind(t, m, order...).Configs; !alike(got, want) {
			t.Errorf("%+v, not %+v", got, want)
		}
	}
}

// TestDone: 15.10: an answer is known as the last one, once.
func TestDone(t *testing.T) {
	m := town(t)
	for _, d := range []api.Done{{Client: 8, Serial: 1}, {Client: 7, Serial: 3, Code: 21}, {Client: 1, Serial: 7, Code: 5}, {Client: 1 << 30, Serial: 1 << 30, Code: 1}} {
		legal(t, m, done(d.Client, d.Serial, d.Code), func(m *api.Image) { m.Done = append(m.Done, d) })
		legal(t, api.Image{}, done(d.Client, d.Serial, d.Code), func(m *api.Image) { m.Done = append(m.Done, d) })
	}
	for _, d := range m.Done {
		for _, code := range []int{0, 5, 21} {
			refused(t, m, done(d.Client, d.Serial, code), api.ErrExists)
		}
	}
}

// TestDoneLimit: 15.10: the last MaxDone (64) are known.
func TestDoneLimit(t *testing.T) {
	m := town(t)
	all := slices.Clone(m.Done)
	for serial := 10; serial < 210; serial++ {
		d := api.Done{Client: 9, Serial: serial, Code: serial % 22}
		all = append(all, d)
		m = behind(t, m, done(d.Client, d.Serial, d.Code))
		if want := all[max(0, len(all)-64):]; !alike(m.Done, want) {
			t.Fatalf("%+v, not %+v", m.Done, want)
		}
		for i, d := range all {
			code, known := image.Answered(m, d.Client, d.Serial)
			if known != (i >= len(all)-64) || known && code != d.Code {
				t.Fatalf("%d of %d, %+v: %d, %t", i, len(all), d, code, known)
			}
		}
	}
	// The first one that is known is refused, the one ahead of it is not.
	refused(t, m, done(9, 146, 0), api.ErrExists)
	legal(t, m, done(9, 145, 3), func(m *api.Image) { m.Done = append(m.Done[1:], api.Done{Client: 9, Serial: 145, Code: 3}) })
}
