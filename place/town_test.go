package place_test

import (
	"fmt"
	"math/rand/v2"
	"reflect"
	"slices"
	"testing"

	"castellan/api"
)

// wrong is a fault as the chapter words it: of op, at so much, a code.
func wrong(op string, at int, c api.Code) error { return api.Fault{Op: op, At: at, Err: c} }

// text is all that something says.
func text(x any) string { return fmt.Sprintf("%+v", x) }

// racks is an image whose brokers stand in these racks: 1 in the first one, 2 in the second one, and so on.
func racks(l ...string) api.Image {
	var m api.Image
	for i, r := range l {
		m.Brokers = append(m.Brokers, api.Broker{Id: i + 1, Epoch: 4, Rack: r})
	}
	return m
}

// town is the image of the chapter's example.
func town() api.Image { return racks("a", "a", "b", "b", "c") }

// with is an image with some of its brokers changed.
func with(m api.Image, does func(b *api.Broker), ids ...int) api.Image {
	m.Brokers = slices.Clone(m.Brokers)
	for i := range m.Brokers {
		if slices.Contains(ids, m.Brokers[i].Id) {
			does(&m.Brokers[i])
		}
	}
	return m
}

// fence, and leave, change a broker so that it is not ready.
func fence(b *api.Broker) { b.Fenced = true }
func leave(b *api.Broker) { b.Leaving = true }

// roomy is a list in new memory, with a broker behind it that is ready, and would be the first one of all.
func roomy(l []api.Broker) []api.Broker {
	all := append(slices.Clone(l), api.Broker{Id: -9, Rack: ""}, api.Broker{Id: -8, Rack: "z"})
	return all[:len(l)]
}

// refuses fails the test, if a call did not answer this error, or answered anything beside it.
func refuses(t *testing.T, about any, l [][]int, err, want error) {
	t.Helper()
	if !reflect.DeepEqual(err, want) || len(l) > 0 {
		t.Errorf("%+v: %v and %#v, not %#v", about, l, err, want)
	}
}

// madeUp is an image of up to so many brokers, in no order, in few racks, some of which are not ready.
func madeUp(r *rand.Rand, most int) api.Image {
	names := []string{"", "a", "ab", "b", "B", "\xff", "é"}
	names = names[:1+r.IntN(len(names))]
	var m api.Image
	for _, id := range r.Perm(2 * most)[:r.IntN(most+1)] {
		m.Brokers = append(m.Brokers, api.Broker{
			Id:      id + 1,
			Epoch:   r.IntN(9),
			Rack:    names[r.IntN(len(names))],
			Fenced:  r.IntN(6) == 0,
			Leaving: r.IntN(6) == 0,
		})
	}
	return m
}
