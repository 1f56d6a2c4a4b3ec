package record_test

import (
	"math"
	"reflect"
	"slices"
	"strings"
	"testing"

	"castellan/api"
	"castellan/record"
)

// wrong is a fault, as the chapter words it.
func wrong(op string, at int, c api.Code) error { return api.Fault{Op: op, At: at, Err: c} }

// about is 5.1: the fields that records of a kind are about.
var about = map[int][]string{
	api.RNoop:   {},
	api.RBroker: {"Broker", "Epoch", "Rack"},
	api.RFence:  {"Broker", "Epoch"},
	api.ROpen:   {"Broker", "Epoch"},
	api.RLeave:  {"Broker", "Epoch"},
	api.RGone:   {"Broker", "Epoch"},
	api.RTopic:  {"Topic", "Name"},
	api.RPart:   {"Topic", "Part", "Leader", "Ids", "Isr"},
	api.RChange: {"Topic", "Part", "Epoch", "Leader", "Ids", "Isr", "Add", "Drop"},
	api.RConfig: {"Topic", "Key", "Value", "Flag"},
	api.RDrop:   {"Topic"},
	api.RDone:   {"Client", "Serial", "Code"},
}

// rule is a part of 5.3: what is told of fields that are wrong, in the order in which rules stand.
type rule struct {
	op     string
	code   api.Code
	at     func(r api.Record) int
	fields []string
}

var rules = []rule{
	{"broker", api.ErrRange, func(r api.Record) int { return r.Broker }, []string{"Broker"}},
	{"epoch", api.ErrRange, func(r api.Record) int { return r.Epoch }, []string{"Epoch"}},
	{"topic", api.ErrRange, func(r api.Record) int { return r.Topic }, []string{"Topic"}},
	{"part", api.ErrRange, func(r api.Record) int { return r.Part }, []string{"Part"}},
	{"leader", api.ErrRange, func(r api.Record) int { return r.Leader }, []string{"Leader"}},
	{"asker", api.ErrRange, func(r api.Record) int { return r.Client }, []string{"Client", "Serial", "Code"}},
	{"flag", api.ErrArg, func(r api.Record) int { return 1 }, []string{"Flag"}},
	{"name", api.ErrArg, func(r api.Record) int { return len(r.Name) }, []string{"Name", "Key", "Rack"}},
	{"value", api.ErrLimit, func(r api.Record) int { return len(r.Value) }, []string{"Value"}},
	{"row", api.ErrReplicas, func(r api.Record) int { return len(r.Ids) }, []string{"Ids", "Isr", "Add", "Drop"}},
}

// told is the error of a record of which these fields are wrong.
func told(r api.Record, fields ...string) error {
	for _, u := range rules {
		for _, f := range fields {
			if slices.Contains(u.fields, f) {
				return wrong(u.op, u.at(r), u.code)
			}
		}
	}
	return nil
}

// names are all fields but Kind.
func names() []string {
	var l []string
	for _, f := range reflect.VisibleFields(reflect.TypeFor[api.Record]()) {
		if f.Name != "Kind" {
			l = append(l, f.Name)
		}
	}
	return l
}

// with is a record with one field that is another.
func with(r api.Record, field string, v any) api.Record {
	reflect.ValueOf(&r).Elem().FieldByName(field).Set(reflect.ValueOf(v))
	return r
}

// goodNames and badNames are texts that are names, and that are none.
var (
	goodNames = []string{"a", "z", "m", "0", "9", "5", "-", "...", "....", ".a", "a.", "-.", "a..b", "rack-1.x", strings.Repeat("q", 40), strings.Repeat(".", 40)}
	badNames  = []string{"", ".", "..", "A", "Z", "a b", " ", "a_b", "a/b", "a:", "`", "{", ",", "é", "\x00", "a\x00", "\xff", "aA", strings.Repeat("q", 41), strings.Repeat("q", 39) + "Q", strings.Repeat("q", 256), strings.Repeat("é", 20)}
)

// goodRows and badRows are numbers that are brokers, and that are none.
var (
	goodRows = [][]int{nil, {}, {1}, {64}, {1, 64}, {64, 1}, {7, 6, 5, 4, 3, 2, 1}, {58, 59, 60, 61, 62, 63, 64}}
	badRows  = [][]int{{0}, {65}, {-1}, {math.MaxInt}, {math.MinInt}, {1, 1}, {3, 64, 3}, {1, 2, 3, 4, 5, 6, 6}, {1, 2, 3, 0}, {1, 2, 3, 4, 5, 6, 7, 8}, make([]int, 100)}
)

// values are values of one type as values of any.
func values[T any](l ...T) []any {
	var all []any
	for _, v := range l {
		all = append(all, v)
	}
	return all
}

// good are values of a field that a record of a kind may have, if it is about that.
func good(kind int, field string) []any {
	switch field {
	case "Broker":
		return values(1, 2, 63, 64)
	case "Epoch":
		return values(0, 1, 63, 64, 1<<14, 1<<30-1, 1<<30)
	case "Topic":
		if kind == api.RConfig {
			return values(0, 1, 1<<30)
		}
		return values(1, 2, 1<<30)
	case "Part":
		return values(0, 1, 255)
	case "Leader":
		return values(0, 1, 64)
	case "Client", "Serial":
		return values(1, 2, 1<<30)
	case "Code":
		return values(0, 1, 20, 21)
	case "Flag":
		return values(false, true)
	case "Name", "Key", "Rack":
		return values(goodNames...)
	case "Value":
		return values("", "v", "\x00\xff", "A b_é", strings.Repeat("v", 255), strings.Repeat("\xff", 256))
	}
	return values(goodRows...)
}

// bad are values of a field that no record of a kind may have, though it is about that.
func bad(kind int, field string) []any {
	switch field {
	case "Broker":
		return values(0, -1, 65, math.MaxInt, math.MinInt, 1<<32+1)
	case "Epoch":
		return values(-1, 1<<30+1, math.MaxInt, math.MinInt, 1<<32)
	case "Topic":
		if kind == api.RConfig {
			return values(-1, 1<<30+1, math.MaxInt, math.MinInt)
		}
		return values(0, -1, 1<<30+1, math.MaxInt, math.MinInt)
	case "Part":
		return values(-1, 256, 257, math.MaxInt, math.MinInt)
	case "Leader":
		return values(-1, 65, math.MaxInt, math.MinInt)
	case "Client", "Serial":
		return values(0, -1, 1<<30+1, math.MaxInt, math.MinInt)
	case "Code":
		return values(-1, 22, math.MaxInt, math.MinInt)
	case "Flag":
		return nil
	case "Name", "Key", "Rack":
		return values(badNames...)
	case "Value":
		return values(strings.Repeat("v", 257), strings.Repeat("v", 5000))
	}
	return values(badRows...)
}

// strange are values of a field that a record may not have, if it is not about that.
func strange(field string) []any {
	switch reflect.ValueOf(api.Record{}).FieldByName(field).Interface().(type) {
	case int:
		return values(1, 2, -1, math.MaxInt, math.MinInt)
	case bool:
		return values(true)
	case string:
		return values("a", "A", ".", "\x00", strings.Repeat("a", 300))
	}
	return values([]int{1}, []int{0}, []int{1, 1}, make([]int, 9))
}

// refused are values of a field that no record of a kind may have.
func refused(kind int, field string) []any {
	if slices.Contains(about[kind], field) {
		return bad(kind, field)
	}
	return strange(field)
}

// plain is a record of a kind that may be.
func plain(kind int) api.Record {
	r := api.Record{Kind: kind}
	for _, f := range about[kind] {
		r = with(r, f, good(kind, f)[0])
	}
	return r
}

// TestName: 5.2, how long, of which bytes, and what is none though of these.
func TestName(t *testing.T) {
	for _, s := range goodNames {
		if !record.Name(s) {
			t.Errorf("%q is no name", s)
		}
	}
	for _, s := range badNames {
		if record.Name(s) {
			t.Errorf("%q is a name", s)
		}
	}
	const letters = "abcdefghijklmnopqrstuvwxyz0123456789-."
	for c := range 256 {
		one := string([]byte{byte(c)})
		may := strings.Contains(letters, one)
		if is := record.Name(one); is != (may && one != ".") {
			t.Errorf("%q: %t", one, is)
		}
		for _, s := range []string{one + "ab", "a" + one + "b", "ab" + one, strings.Repeat("x", 39) + one} {
			if is := record.Name(s); is != may {
				t.Errorf("%q: %t", s, is)
			}
		}
	}
	for n := range 100 {
		if is := record.Name(strings.Repeat("x", n)); is != (1 <= n && n <= 40) {
			t.Errorf("%d bytes: %t", n, is)
		}
	}
}

// TestBrokers: 5.2, how many, each in its range, none twice.
func TestBrokers(t *testing.T) {
	for _, l := range goodRows {
		if !record.Brokers(l) {
			t.Errorf("%v are no brokers", l)
		}
	}
	for _, l := range badRows {
		if record.Brokers(l) {
			t.Errorf("%v are brokers", l)
		}
	}
	for id := -70; id < 140; id++ {
		may := 1 <= id && id <= 64
		if is := record.Brokers([]int{id}); is != may {
			t.Errorf("%d: %t", id, is)
		}
		for other := range 64 {
			l := []int{other + 1, id}
			if is := record.Brokers(l); is != (may && other+1 != id) {
				t.Errorf("%v: %t", l, is)
			}
		}
	}
	row := []int{10, 20, 30, 40, 50, 60, 64}
	for i := range row {
		for k := range row {
			l := slices.Clone(row)
			l[i] = row[k]
			if is := record.Brokers(l); is != (i == k) {
				t.Errorf("%v: %t", l, is)
			}
		}
	}
	memory := []int{1, 2, 2, 0}
	if !record.Brokers(memory[:2]) {
		t.Error("what is behind a list's length counts")
	}
}

// TestCheckKind: 5.3, there are kinds from 1 to 12, and a wrong one is told of ahead of all else.
func TestCheckKind(t *testing.T) {
	for _, k := range []int{0, -1, 13, 14, 63, 64, 256 + 1, 1<<32 + 1, math.MaxInt, math.MinInt} {
		if err := record.Check(api.Record{Kind: k}); err != wrong("kind", k, api.ErrKind) {
			t.Errorf("kind %d: %#v", k, err)
		}
		for _, f := range names() {
			for _, v := range strange(f) {
				if err := record.Check(with(api.Record{Kind: k}, f, v)); err != wrong("kind", k, api.ErrKind) {
					t.Errorf("kind %d, %s %v: %#v", k, f, v, err)
				}
			}
		}
	}
	if len(about) != 12 {
		t.Errorf("%d kinds", len(about))
	}
}

// TestCheckGood: 5.1 and 5.3, nothing is wrong with what is in its range, up to the ends of it.
func TestCheckGood(t *testing.T) {
	for kind, fields := range about {
		for _, f := range fields {
			for _, v := range good(kind, f) {
				if r := with(plain(kind), f, v); record.Check(r) != nil {
					t.Errorf("kind %d, %s %v: %#v", kind, f, v, record.Check(r))
				}
			}
		}
		r := plain(kind)
		for _, f := range []string{"Ids", "Isr", "Add", "Drop"} {
			if r = with(r, f, []int{}); record.Check(r) != nil {
				t.Errorf("kind %d, %s without elements: %#v", kind, f, record.Check(r))
			}
		}
	}
}

// TestCheckBad: 5.3, of each kind each field that is out of its range, or that the record is not about.
func TestCheckBad(t *testing.T) {
	for kind := range about {
		for _, f := range names() {
			for _, v := range refused(kind, f) {
				r := with(plain(kind), f, v)
				if err, want := record.Check(r), told(r, f); err != want {
					t.Errorf("kind %d, %s %v: %#v, not %#v", kind, f, v, err, want)
				}
			}
		}
	}
}

// TestCheckFirst: 5.3 and R6, of two fields that are wrong what is named first is told.
func TestCheckFirst(t *testing.T) {
	for kind := range about {
		for _, f := range names() {
			for _, g := range names() {
				if f == g {
					continue
				}
				for _, v := range refused(kind, f) {
					for _, w := range refused(kind, g) {
						r := with(with(plain(kind), f, v), g, w)
						if err, want := record.Check(r), told(r, f, g); err != want {
							t.Fatalf("kind %d, %s %v, %s %v: %#v, not %#v", kind, f, v, g, w, err, want)
						}
					}
				}
			}
		}
	}
}

// TestCheckPlaces: 5.3, where a fault is, if it is another field that tells the place.
func TestCheckPlaces(t *testing.T) {
	for _, c := range []struct {
		r    api.Record
		want error
	}{
		{api.Record{Kind: api.RTopic, Topic: 1, Name: "A"}, wrong("name", 1, api.ErrArg)},
		{api.Record{Kind: api.RTopic, Topic: 1, Name: "abc", Key: "k"}, wrong("name", 3, api.ErrArg)},
		{api.Record{Kind: api.RTopic, Topic: 1, Name: "abc", Rack: "rr"}, wrong("name", 3, api.ErrArg)},
		{api.Record{Kind: api.RConfig, Key: "KEY"}, wrong("name", 0, api.ErrArg)},
		{api.Record{Kind: api.RBroker, Broker: 1, Rack: "RACK"}, wrong("name", 0, api.ErrArg)},
		{api.Record{Kind: api.RNoop, Part: 1}, wrong("part", 1, api.ErrRange)},
		{api.Record{Kind: api.RNoop, Code: 3}, wrong("asker", 0, api.ErrRange)},
		{api.Record{Kind: api.RDone, Client: 9, Serial: 0}, wrong("asker", 9, api.ErrRange)},
		{api.Record{Kind: api.RDone, Client: 9, Serial: 1, Code: 22}, wrong("asker", 9, api.ErrRange)},
		{api.Record{Kind: api.RPart, Topic: 1, Ids: []int{1, 2}, Isr: []int{0}}, wrong("row", 2, api.ErrReplicas)},
		{api.Record{Kind: api.RPart, Topic: 1, Ids: []int{1, 2}, Add: []int{1}}, wrong("row", 2, api.ErrReplicas)},
		{api.Record{Kind: api.RPart, Topic: 1, Epoch: 1}, wrong("epoch", 1, api.ErrRange)},
		{api.Record{Kind: api.RNoop, Drop: []int{1, 2, 3}}, wrong("row", 0, api.ErrReplicas)},
		{api.Record{Kind: api.RNoop, Flag: true}, wrong("flag", 1, api.ErrArg)},
	} {
		if err := record.Check(c.r); err != c.want {
			t.Errorf("%v: %#v, not %#v", c.r, err, c.want)
		}
	}
}

// TestCheckAway: 5.3, a setting that is taken away has no value.
func TestCheckAway(t *testing.T) {
	r := api.Record{Kind: api.RConfig, Key: "k", Flag: true}
	if err := record.Check(r); err != nil {
		t.Errorf("%#v", err)
	}
	for _, n := range []int{1, 2, 256, 257} {
		r.Value = strings.Repeat("v", n)
		if err := record.Check(r); err != wrong("value", n, api.ErrLimit) {
			t.Errorf("a value of %d bytes: %#v", n, err)
		}
	}
	r.Key = "K"
	if err := record.Check(r); err != wrong("name", 0, api.ErrArg) {
		t.Errorf("a wrong key, and a value: %#v", err)
	}
}

// TestSame: 5.6, each field counts, a record's kind or what it is about or not.
func TestSame(t *testing.T) {
	full := api.Record{
		Kind: 1, Broker: 2, Epoch: 3, Topic: 4, Part: 5, Leader: 6, Client: 7, Serial: 8, Code: 9, Flag: true,
		Name: "n", Key: "k", Value: "v", Rack: "r", Ids: []int{1, 2}, Isr: []int{3, 4}, Add: []int{5, 6}, Drop: []int{7, 8},
	}
	same := func(a, b api.Record, want bool) {
		t.Helper()
		if record.Same(a, b) != want || record.Same(b, a) != want {
			t.Errorf("%v, %v: not %t", a, b, want)
		}
	}
	for _, r := range []api.Record{{}, full} {
		same(r, r, true)
		for _, f := range append(names(), "Kind") {
			for _, v := range strange(f) {
				if other := with(r, f, v); !reflect.DeepEqual(other, r) {
					same(r, other, false)
				}
			}
		}
	}
	same(full, api.Record{}, false)
	for _, f := range []string{"Ids", "Isr", "Add", "Drop"} {
		same(with(full, f, []int(nil)), with(full, f, []int{}), true)
		same(with(full, f, []int{1, 2, 3}), with(full, f, []int{1, 2}), false)
		same(with(full, f, []int{1, 2}), with(full, f, []int{2, 1}), false)
		same(with(full, f, []int{1, 2}), with(full, f, slices.Grow([]int{1, 2}, 9)), true)
		for _, g := range []string{"Ids", "Isr", "Add", "Drop"} {
			if f != g {
				same(with(api.Record{}, f, []int{1}), with(api.Record{}, g, []int{1}), false)
			}
		}
	}
	same(with(full, "Name", "k"), with(full, "Key", "n"), false)
}
