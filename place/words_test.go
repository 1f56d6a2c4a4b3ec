package place_test

import (
	"maps"
	"math/rand/v2"
	"reflect"
	"slices"
	"testing"

	"castellan/api"
	"castellan/place"
)

// standing is the brokers that are ready, rack by rack, by their numbers in each.
func standing(m api.Image) map[string][]int {
	racks := map[string][]int{}
	for _, b := range m.Brokers {
		if b.Fenced || b.Leaving {
			continue
		}
		racks[b.Rack] = append(racks[b.Rack], b.Id)
	}
	for _, l := range racks {
		slices.Sort(l)
	}
	return racks
}

// order is the order by the chapter's words: turn by turn, rack by rack.
func order(m api.Image) []int {
	racks := standing(m)
	var l []int
	for turn := range m.Brokers {
		for _, rack := range slices.Sorted(maps.Keys(racks)) {
			if turn < len(racks[rack]) {
				l = append(l, racks[rack][turn])
			}
		}
	}
	return l
}

// rackOf is the rack of a broker.
func rackOf(m api.Image, id int) string {
	i := slices.IndexFunc(m.Brokers, func(b api.Broker) bool { return b.Id == id })
	return m.Brokers[i].Rack
}

// chosen is the replicas of a partition by the chapter's words: for each, the order from that place on, from which those that were taken are struck out.
func chosen(m api.Image, replicas, from int) []int {
	left := order(m)
	from %= len(left)
	left = append(slices.Clone(left[from:]), left[:from]...)
	stand := map[string]int{}
	var ids []int
	for len(ids) < replicas {
		for fewest, found := 0, false; !found; fewest++ {
			for i, id := range left {
				if rack := rackOf(m, id); stand[rack] == fewest {
					ids, left, found = append(ids, id), slices.Delete(left, i, i+1), true
					stand[rack]++
					break
				}
			}
		}
	}
	return ids
}

// assigned is what Assign is to answer.
func assigned(m api.Image, parts, replicas, start int) ([][]int, error) {
	switch {
	case parts < 1 || parts > 256:
		return nil, wrong("parts", parts, api.ErrRange)
	case replicas < 1 || replicas > 7 || replicas > len(order(m)):
		return nil, wrong("replicas", replicas, api.ErrReplicas)
	case start < 0 || start > 1<<30:
		return nil, wrong("start", start, api.ErrRange)
	}
	var l [][]int
	for p := range parts {
		l = append(l, chosen(m, replicas, start+p))
	}
	return l, nil
}

// checked is what Check is to answer.
func checked(m api.Image, ids []int) error {
	if len(ids) == 0 || len(ids) > 7 {
		return wrong("replicas", len(ids), api.ErrReplicas)
	}
	ahead := map[int]int{}
	for _, id := range ids {
		ahead[id]++
		if !slices.Contains(order(m), id) || ahead[id] > 1 {
			return wrong("replica", id, api.ErrReplicas)
		}
	}
	return nil
}

// spread fails the test, if the replicas of a partition stand in fewer racks than they could, if one rack has two more than another one that has a broker left, or if they may not be a partition's.
func spread(t *testing.T, m api.Image, ids []int) {
	t.Helper()
	racks := standing(m)
	of := map[string]int{}
	for _, id := range ids {
		of[rackOf(m, id)]++
	}
	if len(of) != min(len(ids), len(racks)) {
		t.Fatalf("%+v: %v stand in %d racks of %d", m.Brokers, ids, len(of), len(racks))
	}
	most := slices.Max(slices.Collect(maps.Values(of)))
	for rack, l := range racks {
		if of[rack] < len(l) && of[rack]+1 < most {
			t.Fatalf("%+v: of %v one rack has %d, and %q %d of %d", m.Brokers, ids, most, rack, of[rack], len(l))
		}
	}
	if err := place.Check(m, ids); err != nil {
		t.Fatalf("%+v: %v: %v", m.Brokers, ids, err)
	}
}

// fair fails the test, if a broker is the first of two partitions more than another one.
func fair(t *testing.T, m api.Image, l [][]int) {
	t.Helper()
	firsts := map[int]int{}
	for _, id := range order(m) {
		firsts[id] = 0
	}
	for _, ids := range l {
		firsts[ids[0]]++
	}
	many := slices.Collect(maps.Values(firsts))
	if slices.Max(many)-slices.Min(many) > 1 {
		t.Fatalf("%+v: %v are the first ones of %v", m.Brokers, firsts, l)
	}
}

// holds fails the test, if Assign does not answer what it is to answer.
func holds(t *testing.T, m api.Image, parts, replicas, start int) {
	t.Helper()
	l, err := place.Assign(m, parts, replicas, start)
	want, fails := assigned(m, parts, replicas, start)
	if !reflect.DeepEqual(l, want) || !reflect.DeepEqual(err, fails) {
		t.Fatalf("%+v, %d, %d, %d: %v, %v, not %v, %v", m.Brokers, parts, replicas, start, l, err, want, fails)
	}
	if err != nil {
		return
	}
	for _, ids := range l {
		spread(t, m, ids)
	}
	fair(t, m, l)
}

// TestSmall: 17.2, 17.3 and 17.5, all ways in which up to six brokers stand in three racks, with as many replicas as there can be, from each place on.
func TestSmall(t *testing.T) {
	names := []string{"", "b", "a"}
	ways := []api.Image{{}}
	for len(ways) > 0 && len(ways[0].Brokers) <= 6 {
		m := ways[0]
		ways = ways[1:]
		n := len(m.Brokers)
		if got := place.Order(m); !slices.Equal(got, order(m)) {
			t.Fatalf("%+v: %v, not %v", m.Brokers, got, order(m))
		}
		for replicas := range n + 2 {
			holds(t, m, 2*n+1, replicas, n/2)
		}
		for _, rack := range names {
			l := append(slices.Clone(m.Brokers), api.Broker{Id: n + 1, Rack: rack})
			ways = append(ways, api.Image{Brokers: l})
		}
	}
}

// TestWords: 17.1 to 17.5, made-up images and numbers against the chapter's words.
func TestWords(t *testing.T) {
	r := rand.New(rand.NewPCG(17, 3))
	for range 3000 {
		m := madeUp(r, 1+r.IntN(20))
		if got := place.Order(m); !slices.Equal(got, order(m)) {
			t.Fatalf("%+v: %v, not %v", m.Brokers, got, order(m))
		}
		start := r.IntN(40)
		if r.IntN(3) == 0 {
			start = api.MaxNum - r.IntN(40) + 5
		}
		holds(t, m, r.IntN(30), r.IntN(10), start)
		ids := make([]int, r.IntN(10))
		for i := range ids {
			ids[i] = r.IntN(2*len(m.Brokers) + 3)
		}
		if got, want := place.Check(m, ids), checked(m, ids); !reflect.DeepEqual(got, want) {
			t.Fatalf("%+v, %v: %v, not %v", m.Brokers, ids, got, want)
		}
		for _, b := range m.Brokers {
			if got := place.Ready(b); got != slices.Contains(order(m), b.Id) {
				t.Fatalf("%+v: %v", b, got)
			}
		}
	}
}

// TestTown: 17.5, as many brokers as there may be, in racks of unlike sizes, and as many partitions.
func TestTown(t *testing.T) {
	r := rand.New(rand.NewPCG(17, 5))
	for range 12 {
		m := madeUp(r, api.MaxBrokers)
		holds(t, m, api.MaxParts, 1+r.IntN(api.MaxReplicas), r.IntN(api.MaxNum))
	}
}

// TestMemory: R3, no call changes what is handed in, or goes by what lies behind it; and what is answered is memory of its own.
func TestMemory(t *testing.T) {
	r := rand.New(rand.NewPCG(17, 4))
	for range 300 {
		given := madeUp(r, 9)
		m := given
		m.Brokers = roomy(given.Brokers)
		was := text(m.Brokers[:cap(m.Brokers)])
		many := min(len(order(given)), api.MaxReplicas)
		ids := append(order(given), -9)
		named := ids[:many]
		behind := text(ids)
		for range 2 {
			got := place.Order(m)
			if !slices.Equal(got, order(given)) {
				t.Fatalf("%s: %v, not %v", was, got, order(given))
			}
			clear(got[:cap(got)])
			if many > 0 {
				apart(t, m, given, many)
			}
			if err := place.Check(m, named); (err == nil) != (many > 0) {
				t.Fatalf("%s, %v: %v", was, named, err)
			}
			if err := place.Check(m, []int{-9}); err == nil {
				t.Fatalf("%s: what lies behind is found", was)
			}
		}
		if text(m.Brokers[:cap(m.Brokers)]) != was || text(ids) != behind {
			t.Fatalf("%s and %s are\n%+v and %v", was, behind, m.Brokers[:cap(m.Brokers)], ids)
		}
	}
}

// apart fails the test, if the replicas of two partitions share memory, what lies behind their lists with it.
func apart(t *testing.T, m, given api.Image, many int) {
	t.Helper()
	l, err := place.Assign(m, 3, many, 1)
	want, _ := assigned(given, 3, many, 1)
	if err != nil || !reflect.DeepEqual(l, want) {
		t.Fatalf("%+v: %v, %v, not %v", given.Brokers, l, err, want)
	}
	for i := range l {
		clear(l[i][:cap(l[i])])
		if !reflect.DeepEqual(l[i+1:], want[i+1:]) {
			t.Fatalf("%+v: behind %d they are %v, not %v", given.Brokers, i, l[i+1:], want[i+1:])
		}
	}
}
