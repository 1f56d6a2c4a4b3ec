package place_test

import (
	"math"
	"reflect"
	"slices"
	"strings"
	"testing"

	"castellan/api"
	"castellan/place"
)

// TestReady: 17.1, a broker is ready, if it is neither fenced nor leaving, whatever else it is.
func TestReady(t *testing.T) {
	for _, c := range []struct {
		b    api.Broker
		want bool
	}{
		{api.Broker{}, true},
		{api.Broker{Id: 3, Epoch: 7, Rack: "a"}, true},
		{api.Broker{Fenced: true}, false},
		{api.Broker{Leaving: true}, false},
		{api.Broker{Fenced: true, Leaving: true}, false},
		{api.Broker{Id: 3, Epoch: 7, Rack: "a", Fenced: true}, false},
		{api.Broker{Id: 3, Epoch: 7, Rack: "a", Leaving: true}, false},
		{api.Broker{Id: 3, Epoch: 7, Rack: "a", Fenced: true, Leaving: true}, false},
	} {
		if got := place.Ready(c.b); got != c.want {
			t.Errorf("%+v: %v", c.b, got)
		}
	}
}

// TestOrder: 17.2, by hand.
func TestOrder(t *testing.T) {
	for _, c := range []struct {
		m    api.Image
		want []int
	}{
		{town(), []int{1, 3, 5, 2, 4}},
		// Nobody is ready.
		{api.Image{}, nil},
		{api.Image{Brokers: []api.Broker{}}, nil},
		{with(town(), fence, 1, 2, 3, 4, 5), nil},
		{with(town(), leave, 1, 2, 3, 4, 5), nil},
		{with(with(town(), leave, 1, 2), fence, 3, 4, 5), nil},
		// Who is not ready is passed over, and the next one of its rack stands in its place.
		{with(town(), fence, 1), []int{2, 3, 5, 4}},
		{with(town(), leave, 3), []int{1, 4, 5, 2}},
		{with(town(), fence, 5), []int{1, 3, 2, 4}},
		{with(with(town(), fence, 1, 3), leave, 5), []int{2, 4}},
		{with(with(town(), fence, 1, 4), leave, 1, 2), []int{3, 5}},
		// One rack, and one each.
		{racks("a"), []int{1}},
		{racks("a", "a", "a", "a"), []int{1, 2, 3, 4}},
		{racks("", "", ""), []int{1, 2, 3}},
		{racks("d", "c", "b", "a"), []int{4, 3, 2, 1}},
		// Racks of unlike sizes: who stands alone comes by its turn in the rack.
		{racks("a", "b", "b", "b", "c", "c"), []int{1, 2, 5, 3, 6, 4}},
		{racks("a", "a", "a", "b"), []int{1, 4, 2, 3}},
		{racks("b", "b", "b", "a"), []int{4, 1, 2, 3}},
		{racks("a", "b", "a", "b", "c", "a", "c", "c", "c"), []int{1, 2, 5, 3, 4, 7, 6, 8, 9}},
		// Racks are told apart, and stand in order, byte by byte; no rack is one, too.
		{racks("b", "B", "a", "A"), []int{4, 2, 3, 1}},
		{racks("ab", "a", "", "b", "aa"), []int{3, 2, 5, 1, 4}},
		{racks("a ", "a", "a\x00", " a"), []int{4, 2, 3, 1}},
		{racks("é", "z", "e\u0301", "\xff", "\x00"), []int{5, 3, 2, 1, 4}},
		{racks("9", "10", "1"), []int{3, 2, 1}},
		{racks("", "a", "", "a"), []int{1, 2, 3, 4}},
	} {
		if got := place.Order(c.m); !slices.Equal(got, c.want) {
			t.Errorf("%+v: %v, not %v", c.m.Brokers, got, c.want)
		}
	}
}

// TestOrderNumbers: 17.2, by their numbers, as numbers, wherever in the image they stand.
func TestOrderNumbers(t *testing.T) {
	m := api.Image{Brokers: []api.Broker{{Id: 10, Rack: "a"}, {Id: 9, Rack: "b"}, {Id: 9 << 20, Rack: "a"}, {Id: 2, Rack: "b"}, {Id: 9, Rack: "a"}, {Id: 100, Rack: "b"}}}
	for range len(m.Brokers) {
		if got := place.Order(m); !slices.Equal(got, []int{9, 2, 10, 9, 9 << 20, 100}) {
			t.Errorf("%+v: %v", m.Brokers, got)
		}
		m.Brokers = append(m.Brokers[1:], m.Brokers[0])
	}
	slices.Reverse(m.Brokers)
	if got := place.Order(m); !slices.Equal(got, []int{9, 2, 10, 9, 9 << 20, 100}) {
		t.Errorf("%+v: %v", m.Brokers, got)
	}
}

// TestAlone: of an image the brokers alone are looked at.
func TestAlone(t *testing.T) {
	m := town()
	m.Topics = []api.Topic{{Id: 1, Name: "t", Parts: []api.Part{{Ids: []int{1, 2, 3}, Isr: []int{1}, Leader: 1, Add: []int{3}, Drop: []int{2}}}}}
	m.Configs = []api.Config{{Topic: 1, Key: "k", Value: "v"}}
	m.Done = []api.Done{{Client: 1000, Serial: 1}}
	m.Last = 1
	if got := place.Order(m); !slices.Equal(got, []int{1, 3, 5, 2, 4}) {
		t.Errorf("%v", got)
	}
	l, err := place.Assign(m, 2, 3, 0)
	if err != nil || text(l) != "[[1 3 5] [3 5 2]]" {
		t.Errorf("%v, %v", l, err)
	}
	if err := place.Check(m, []int{2, 1, 3}); err != nil {
		t.Errorf("%v", err)
	}
}

// TestAssign: 17.3, by hand.
func TestAssign(t *testing.T) {
	for _, c := range []struct {
		m                      api.Image
		parts, replicas, start int
		want                   string
	}{
		{town(), 2, 3, 0, "[[1 3 5] [3 5 2]]"},
		{town(), 1, 1, 0, "[[1]]"},
		{town(), 1, 5, 0, "[[1 3 5 2 4]]"},
		// The order is gone through from one place further on for each partition, and behind its end from the beginning.
		{town(), 7, 1, 0, "[[1] [3] [5] [2] [4] [1] [3]]"},
		{town(), 7, 1, 3, "[[2] [4] [1] [3] [5] [2] [4]]"},
		{town(), 2, 1, 4, "[[4] [1]]"},
		{town(), 2, 1, 5, "[[1] [3]]"},
		{town(), 1, 1, 9, "[[4]]"},
		{town(), 1, 1, 10, "[[1]]"},
		{town(), 1, 1, 7, "[[5]]"},
		{town(), 2, 1, api.MaxNum - 1, "[[2] [4]]"},
		{town(), 2, 1, api.MaxNum, "[[4] [1]]"},
		// Who stands in a rack of which there is none yet is taken ahead of the next one.
		{town(), 5, 2, 0, "[[1 3] [3 5] [5 2] [2 4] [4 1]]"},
		{town(), 5, 3, 0, "[[1 3 5] [3 5 2] [5 2 4] [2 4 5] [4 1 5]]"},
		// From the fourth one on some rack has two, but none has three.
		{town(), 5, 4, 0, "[[1 3 5 2] [3 5 2 4] [5 2 4 1] [2 4 5 1] [4 1 5 3]]"},
		{town(), 5, 5, 0, "[[1 3 5 2 4] [3 5 2 4 1] [5 2 4 1 3] [2 4 5 1 3] [4 1 5 3 2]]"},
		// Each is looked for from that place on, not from behind the one that was taken last.
		{racks("a", "a", "a", "a", "b", "b"), 3, 5, 2, "[[2 6 3 5 4] [6 3 4 5 1] [3 5 4 6 1]]"},
		// One rack: one behind the other.
		{racks("", "", "", ""), 4, 3, 1, "[[2 3 4] [3 4 1] [4 1 2] [1 2 3]]"},
		// Who is not ready is none of them.
		{with(town(), fence, 3), 3, 3, 0, "[[1 4 5] [4 5 2] [5 2 4]]"},
		{with(town(), leave, 5), 2, 4, 0, "[[1 3 2 4] [3 2 4 1]]"},
		{with(town(), fence, 1, 2, 3, 4), 2, 1, 1, "[[5] [5]]"},
	} {
		l, err := place.Assign(c.m, c.parts, c.replicas, c.start)
		if got := text(l); err != nil || got != c.want {
			t.Errorf("%+v, %d, %d, %d: %v, %v, not %v", c.m.Brokers, c.parts, c.replicas, c.start, got, err, c.want)
		}
	}
}

// TestAssignMost: 17.3, as many partitions as there may be, of as many replicas, from the greatest place on.
func TestAssignMost(t *testing.T) {
	m := racks(strings.Split(strings.Repeat("c a b ", 22)+"a", " ")...)
	l, err := place.Assign(m, api.MaxParts, api.MaxReplicas, api.MaxNum)
	if err != nil || len(l) != api.MaxParts {
		t.Fatalf("%d, %v", len(l), err)
	}
	order := place.Order(m)
	for p, ids := range l {
		if len(ids) != api.MaxReplicas || ids[0] != order[(api.MaxNum+p)%len(order)] || place.Check(m, ids) != nil {
			t.Errorf("%d: %v, %v", p, ids, place.Check(m, ids))
		}
	}
}

// TestAssignRefuses: 17.3, what is wrong, at its edges, and which is named first.
func TestAssignRefuses(t *testing.T) {
	eight := racks("a", "a", "b", "b", "c", "c", "d", "d")
	for _, c := range []struct {
		m                      api.Image
		parts, replicas, start int
		want                   error
	}{
		{town(), 0, 3, 0, wrong("parts", 0, api.ErrRange)},
		{town(), -1, 3, 0, wrong("parts", -1, api.ErrRange)},
		{town(), 257, 3, 0, wrong("parts", 257, api.ErrRange)},
		{town(), math.MaxInt, 3, 0, wrong("parts", math.MaxInt, api.ErrRange)},
		{town(), math.MinInt, 3, 0, wrong("parts", math.MinInt, api.ErrRange)},
		{town(), 2, 0, 0, wrong("replicas", 0, api.ErrReplicas)},
		{town(), 2, -1, 0, wrong("replicas", -1, api.ErrReplicas)},
		{town(), 2, 6, 0, wrong("replicas", 6, api.ErrReplicas)},
		{town(), 2, math.MaxInt, 0, wrong("replicas", math.MaxInt, api.ErrReplicas)},
		{town(), 2, math.MinInt, 0, wrong("replicas", math.MinInt, api.ErrReplicas)},
		{eight, 2, 8, 0, wrong("replicas", 8, api.ErrReplicas)},
		{with(town(), fence, 2), 2, 5, 0, wrong("replicas", 5, api.ErrReplicas)},
		{with(town(), leave, 2), 2, 5, 0, wrong("replicas", 5, api.ErrReplicas)},
		{with(eight, leave, 2, 3), 2, 7, 0, wrong("replicas", 7, api.ErrReplicas)},
		{api.Image{}, 1, 1, 0, wrong("replicas", 1, api.ErrReplicas)},
		{api.Image{}, 1, 0, 0, wrong("replicas", 0, api.ErrReplicas)},
		{with(town(), fence, 1, 2, 3, 4, 5), 1, 1, 0, wrong("replicas", 1, api.ErrReplicas)},
		{town(), 2, 3, -1, wrong("start", -1, api.ErrRange)},
		{town(), 2, 3, api.MaxNum + 1, wrong("start", api.MaxNum+1, api.ErrRange)},
		{town(), 2, 3, math.MaxInt, wrong("start", math.MaxInt, api.ErrRange)},
		{town(), 2, 3, math.MinInt, wrong("start", math.MinInt, api.ErrRange)},
		// Two, and three, that are wrong at once.
		{town(), 0, 6, 0, wrong("parts", 0, api.ErrRange)},
		{town(), 257, 0, 0, wrong("parts", 257, api.ErrRange)},
		{town(), 0, 3, -1, wrong("parts", 0, api.ErrRange)},
		{town(), 2, 6, -1, wrong("replicas", 6, api.ErrReplicas)},
		{town(), 2, 0, api.MaxNum + 1, wrong("replicas", 0, api.ErrReplicas)},
		{town(), 257, 8, api.MaxNum + 1, wrong("parts", 257, api.ErrRange)},
		{api.Image{}, -1, 1, 0, wrong("parts", -1, api.ErrRange)},
		{api.Image{}, 1, 1, -1, wrong("replicas", 1, api.ErrReplicas)},
	} {
		l, err := place.Assign(c.m, c.parts, c.replicas, c.start)
		refuses(t, c, l, err, c.want)
	}
	// The greatest ones that are not.
	for _, c := range [][3]int{{256, 7, api.MaxNum}, {256, 1, 0}, {1, 7, 0}, {1, 1, api.MaxNum}} {
		if l, err := place.Assign(eight, c[0], c[1], c[2]); err != nil || len(l) != c[0] || len(l[0]) != c[1] {
			t.Errorf("%v: %v, %v", c, l, err)
		}
	}
	if _, err := place.Assign(with(eight, fence, 2), 1, 7, 0); err != nil {
		t.Error(err)
	}
}

// TestCheck: 17.4, by hand, and which of those that are wrong is told.
func TestCheck(t *testing.T) {
	m := with(with(racks("a", "a", "b", "b", "c", "c", "d", "d", "e", "e"), fence, 9), leave, 10)
	for _, c := range []struct {
		ids  []int
		want error
	}{
		{[]int{1}, nil},
		{[]int{8}, nil},
		{[]int{1, 2}, nil}, // in one rack, too
		{[]int{7, 6, 5, 4, 3, 2, 1}, nil},
		{nil, wrong("replicas", 0, api.ErrReplicas)},
		{[]int{}, wrong("replicas", 0, api.ErrReplicas)},
		{[]int{1, 2, 3, 4, 5, 6, 7, 8}, wrong("replicas", 8, api.ErrReplicas)},
		{[]int{0, 0, 0, 0, 0, 0, 0, 0}, wrong("replicas", 8, api.ErrReplicas)},
		{slices.Repeat([]int{1}, 99), wrong("replicas", 99, api.ErrReplicas)},
		{[]int{11}, wrong("replica", 11, api.ErrReplicas)},
		{[]int{0}, wrong("replica", 0, api.ErrReplicas)},
		{[]int{-1}, wrong("replica", -1, api.ErrReplicas)},
		{[]int{math.MaxInt}, wrong("replica", math.MaxInt, api.ErrReplicas)},
		{[]int{math.MinInt}, wrong("replica", math.MinInt, api.ErrReplicas)},
		{[]int{9}, wrong("replica", 9, api.ErrReplicas)},
		{[]int{10}, wrong("replica", 10, api.ErrReplicas)},
		{[]int{1, 2, 9}, wrong("replica", 9, api.ErrReplicas)},
		{[]int{1, 10, 2}, wrong("replica", 10, api.ErrReplicas)},
		{[]int{1, 2, 3, 4, 5, 6, 12}, wrong("replica", 12, api.ErrReplicas)},
		{[]int{3, 3}, wrong("replica", 3, api.ErrReplicas)},
		{[]int{3, 1, 2, 3}, wrong("replica", 3, api.ErrReplicas)},
		{[]int{1, 2, 3, 4, 5, 6, 1}, wrong("replica", 1, api.ErrReplicas)},
		// The first one that is wrong.
		{[]int{1, 12, 11}, wrong("replica", 12, api.ErrReplicas)},
		{[]int{10, 9}, wrong("replica", 10, api.ErrReplicas)},
		{[]int{1, 2, 2, 1}, wrong("replica", 2, api.ErrReplicas)},
		{[]int{1, 2, 1, 9}, wrong("replica", 1, api.ErrReplicas)},
		{[]int{1, 2, 9, 1}, wrong("replica", 9, api.ErrReplicas)},
		{[]int{1, 1, 11}, wrong("replica", 1, api.ErrReplicas)},
	} {
		if err := place.Check(m, c.ids); !reflect.DeepEqual(err, c.want) {
			t.Errorf("%v: %#v, not %#v", c.ids, err, c.want)
		}
	}
	if err := place.Check(api.Image{}, []int{0}); !reflect.DeepEqual(err, wrong("replica", 0, api.ErrReplicas)) {
		t.Errorf("%#v", err)
	}
}
