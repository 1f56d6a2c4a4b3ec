package rpc_test

import (
	"math"
	"reflect"
	"slices"
	"testing"

	"castellan/api"
	"castellan/batch"
	"castellan/rpc"
)

// about is 7.1: what messages of each kind are about, beside From, To and Term.
var about = map[int][]string{
	api.QVote:  {"Pre", "At", "AtTerm"},
	api.AVote:  {"Pre", "Ok", "Leader"},
	api.QFetch: {"At", "AtTerm"},
	api.AFetch: {"Leader", "At", "AtTerm", "High", "Code", "Batches"},
	api.QBegin: {"Leader"},
	api.QEnd:   {"Leader"},
	api.QSnap:  {"At", "AtTerm", "Pos"},
	api.ASnap:  {"Leader", "At", "AtTerm", "Code", "Size", "Pos", "Data"},
}

// noKinds are kinds that no message has.
var noKinds = []int{0, -1, 9, 10, 16, 17, 63, 64, 257, 1<<32 + 1, math.MaxInt, math.MinInt}

// far are numbers that are nowhere in a range.
var far = []int{-1, -2, 1<<30 + 1, 1 << 32, 1<<32 + 1, math.MaxInt, math.MinInt}

// wrong is a fault as the chapter words it: of op, at so much, around an error.
func wrong(op string, at int, err error) error { return api.Fault{Op: op, At: at, Err: err} }

// isAbout tells whether messages of a kind are about a field.
func isAbout(kind int, field string) bool { return slices.Contains(about[kind], field) }

// set gives a field of a message a value.
func set(m *api.Rpc, field string, v any) {
	reflect.ValueOf(m).Elem().FieldByName(field).Set(reflect.ValueOf(v))
}

// bare is a message of a kind that says nothing.
func bare(kind int) api.Rpc { return api.Rpc{Kind: kind, From: 1, To: 2, Term: 3} }

// mixed are batches that may be, of records with texts and with rows, in new memory.
func mixed() []api.Batch {
	return []api.Batch{
		{Term: 2, Base: 9, Records: []api.Record{{Kind: api.RNoop}, {Kind: api.RDrop, Topic: 2}}},
		{Term: 3, Base: 10, Records: []api.Record{{Kind: api.RTopic, Topic: 70, Name: "a.b"}, {Kind: api.RConfig, Key: "k", Value: "v\xff"}}},
		{Term: 3, Base: 11, Records: []api.Record{{Kind: api.RChange, Topic: 5, Part: 2, Epoch: 7, Leader: 2, Ids: []int{1, 2, 3}, Isr: []int{2, 1}, Add: []int{3}, Drop: []int{1}}}},
	}
}

// full is a message of a kind that says something of all that it is about, in new memory.
func full(kind int) api.Rpc {
	m := bare(kind)
	for _, f := range about[kind] {
		switch f {
		case "Pre", "Ok":
			set(&m, f, true)
		case "Data":
			m.Data = []byte{7, 0, 255}
		case "Batches":
			m.Batches = mixed()
		default:
			set(&m, f, map[string]int{"Leader": 1, "At": 12, "AtTerm": 70, "High": 20000, "Code": 15, "Size": 1 << 30, "Pos": 64}[f])
		}
	}
	return m
}

// batches are so many batches that may be.
func batches(many int) []api.Batch {
	var l []api.Batch
	for i := range many {
		l = append(l, api.Batch{Term: 1, Base: i, Records: []api.Record{{Kind: api.RNoop}}})
	}
	return l
}

// spoiltBatches are batches that may not be.
func spoiltBatches() []api.Batch {
	noop := []api.Record{{Kind: api.RNoop}}
	return []api.Batch{
		{},
		{Records: noop},
		{Term: 1<<30 + 1, Records: noop},
		{Term: 1, Base: -1, Records: noop},
		{Term: 1},
		{Term: 1, Records: slices.Repeat(noop, 65)},
		{Term: 1, Records: []api.Record{{Kind: api.RNoop}, {Kind: api.RDrop}}},
		{Term: 1, Records: []api.Record{{Kind: api.RTopic, Topic: 1, Name: "A"}}},
	}
}

// TestCheckGood: 7.1 and 7.2, each kind with what it is about, up to the ends of what may be.
func TestCheckGood(t *testing.T) {
	good := func(m api.Rpc) {
		t.Helper()
		if err := rpc.Check(m); err != nil {
			t.Errorf("%v: %#v", m, err)
		}
	}
	for kind, fields := range about {
		good(bare(kind))
		good(full(kind))
		for _, ends := range [][3]int{{1, 2, 0}, {2, 1, 1}, {1, 1 << 30, 1 << 30}, {1 << 30, 1, 1<<30 - 1}, {1 << 30, 1<<30 - 1, 5}} {
			m := full(kind)
			m.From, m.To, m.Term = ends[0], ends[1], ends[2]
			good(m)
		}
		for _, f := range fields {
			for _, v := range goodValues(f) {
				for _, m := range []api.Rpc{bare(kind), full(kind)} {
					set(&m, f, v)
					good(m)
				}
			}
		}
	}
}

// goodValues are values of a field that may be, where a message is about it.
func goodValues(field string) []any {
	switch field {
	case "Pre", "Ok":
		return []any{false, true}
	case "Code":
		return []any{0, 1, 20, 21}
	case "Data":
		return []any{[]byte(nil), []byte{}, []byte{0}, make([]byte, 511), make([]byte, 512)}
	case "Batches":
		return []any{[]api.Batch(nil), []api.Batch{}, batches(1), batches(7), batches(8)}
	}
	return []any{0, 1, 2, 1<<30 - 1, 1 << 30}
}

// badValues are values of a field that may not be, in a message of a kind.
func badValues(kind int, field string) []any {
	var l []any
	is := isAbout(kind, field)
	for _, n := range far {
		l = append(l, n)
	}
	switch field {
	case "Pre", "Ok":
		if is {
			return nil
		}
		return []any{true}
	case "Data":
		if is {
			return []any{make([]byte, 513), make([]byte, 514), make([]byte, 1<<14)}
		}
		return []any{[]byte{0}, make([]byte, 512), make([]byte, 513)}
	case "Batches":
		if is {
			return []any{batches(9), batches(10), make([]api.Batch, 9), batches(264)}
		}
		return []any{batches(1), make([]api.Batch, 1), batches(8), batches(9)}
	case "Code":
		if is {
			return append(l, 22, 64, 1<<30)
		}
	}
	if is {
		return l
	}
	return append(l, 1, 21, 1<<30)
}

// group is things of which 7.2 tells the same: which fields, and what is told of a message in which one of them is wrong.
type group struct {
	fields []string
	told   func(m api.Rpc) error
}

// groups is 7.2, in the order in which it names things, behind the kind.
var groups = []group{
	{[]string{"From", "To"}, func(m api.Rpc) error { return wrong("from", m.From, api.ErrRange) }},
	{[]string{"Term"}, func(m api.Rpc) error { return wrong("term", m.Term, api.ErrRange) }},
	{[]string{"Pre", "Ok"}, func(m api.Rpc) error { return wrong("flag", 1, api.ErrArg) }},
	{[]string{"Leader"}, func(m api.Rpc) error { return wrong("leader", m.Leader, api.ErrRange) }},
	{[]string{"At", "AtTerm"}, func(m api.Rpc) error { return wrong("place", m.At, api.ErrRange) }},
	{[]string{"High"}, func(m api.Rpc) error { return wrong("high", m.High, api.ErrRange) }},
	{[]string{"Code"}, func(m api.Rpc) error { return wrong("code", m.Code, api.ErrRange) }},
	{[]string{"Size", "Pos"}, func(m api.Rpc) error { return wrong("size", m.Size, api.ErrRange) }},
	{[]string{"Data"}, func(m api.Rpc) error { return wrong("data", len(m.Data), api.ErrLimit) }},
	{[]string{"Batches"}, func(m api.Rpc) error { return wrong("batches", len(m.Batches), api.ErrLimit) }},
}

// spoilers are all ways by which a thing of a group may be wrong in a message of a kind.
func (g group) spoilers(kind int) []func(m *api.Rpc) {
	var l []func(m *api.Rpc)
	for _, f := range g.fields {
		var values []any
		switch f {
		case "From", "To":
			values = []any{0, -1, 1<<30 + 1, 1<<32 + 1, math.MaxInt, math.MinInt}
		case "Term":
			for _, n := range far {
				values = append(values, n)
			}
		default:
			values = badValues(kind, f)
		}
		for _, v := range values {
			l = append(l, func(m *api.Rpc) { set(m, f, v) })
		}
	}
	if g.fields[0] == "From" {
		for _, n := range []int{1, 2, 1 << 30, 0} {
			l = append(l, func(m *api.Rpc) { m.From, m.To = n, n })
		}
	}
	return l
}

// TestCheckKind: 7.2, no such kind, whatever else is wrong.
func TestCheckKind(t *testing.T) {
	for _, kind := range noKinds {
		for _, m := range []api.Rpc{{}, bare(0), full(api.ASnap), {From: -1, To: -1, Term: -1, Batches: make([]api.Batch, 9)}} {
			m.Kind = kind
			if err := rpc.Check(m); err != wrong("kind", kind, api.ErrKind) {
				t.Errorf("%v: %#v", m, err)
			}
		}
	}
}

// TestCheckBad: 7.2 and R6, each thing that is wrong, and of two what is named first.
func TestCheckBad(t *testing.T) {
	for kind := range about {
		for i, g := range groups {
			for _, spoil := range g.spoilers(kind) {
				for _, m := range []api.Rpc{bare(kind), full(kind)} {
					spoil(&m)
					if err := rpc.Check(m); err != g.told(m) {
						t.Errorf("%v: %#v, not %#v", m, err, g.told(m))
					}
				}
				for _, later := range groups[i:] {
					for _, other := range later.spoilers(kind) {
						m := full(kind)
						other(&m)
						spoil(&m)
						if err := rpc.Check(m); err != g.told(m) {
							t.Errorf("with another thing: %v: %#v, not %#v", m, err, g.told(m))
						}
					}
				}
			}
		}
	}
	if err := rpc.Check(api.Rpc{Kind: api.QBegin, From: 1, To: 1}); err != wrong("from", 1, api.ErrRange) {
		t.Errorf("%#v", err)
	}
}

// TestCheckBatches: 7.2 and R6, the first batch that is wrong, by its number, around what batch.Check tells, behind all else.
func TestCheckBatches(t *testing.T) {
	for _, bad := range spoiltBatches() {
		for i := range 8 {
			m := bare(api.AFetch)
			m.Batches = batches(8)
			m.Batches[i] = bad
			want := wrong("batch", i, batch.Check(bad))
			if err := rpc.Check(m); err != want {
				t.Errorf("%d: %#v, not %#v", i, err, want)
			}
			for k := i + 1; k < 8; k += 2 {
				m.Batches[k] = api.Batch{Term: -1}
			}
			if err := rpc.Check(m); err != want {
				t.Errorf("%d, and others: %#v, not %#v", i, err, want)
			}
		}
		for _, g := range groups {
			for _, spoil := range g.spoilers(api.AFetch) {
				m := full(api.AFetch)
				m.Batches = []api.Batch{bad}
				spoil(&m)
				if err := rpc.Check(m); err != g.told(m) {
					t.Errorf("%#v, not %#v", err, g.told(m))
				}
			}
		}
	}
	m := bare(api.AFetch)
	m.Batches = append(batches(1), spoiltBatches()[6])
	want := wrong("batch", 1, wrong("record", 1, wrong("topic", 0, api.ErrRange)))
	if err := rpc.Check(m); err != want {
		t.Errorf("%#v, not %#v", err, want)
	}
}

// all are messages of each kind, and some that may not be, in new memory.
func all() []api.Rpc {
	odd := full(api.ASnap)
	odd.Kind, odd.From, odd.Pre, odd.Ok, odd.High = -5, -6, true, true, -7
	odd.Data, odd.Batches = make([]byte, 600), append(spoiltBatches(), mixed()...)
	l := []api.Rpc{{}, {Data: []byte{}, Batches: []api.Batch{}}, odd}
	for kind := range 10 {
		l = append(l, bare(kind), full(kind))
	}
	return l
}

// alike holds two messages against each other, field by field, a list that is nil the same as one without elements.
func alike(a, b api.Rpc) bool {
	sameData, sameBatches := string(a.Data) == string(b.Data), slices.EqualFunc(a.Batches, b.Batches, batch.Same)
	a.Data, a.Batches, b.Data, b.Batches = nil, nil, nil, nil
	return sameData && sameBatches && reflect.DeepEqual(a, b)
}

// TestSame: 7.5, all fields, whether such messages may be or not.
func TestSame(t *testing.T) {
	same := func(a, b api.Rpc, want bool) {
		t.Helper()
		if rpc.Same(a, b) != want || rpc.Same(b, a) != want {
			t.Errorf("%v, %v: not %t", a, b, want)
		}
	}
	one, two := all(), all()
	for i := range one {
		for k := range two {
			same(one[i], two[k], alike(one[i], two[k]))
		}
		same(one[i], two[i], true)
	}
	for i := range reflect.TypeFor[api.Rpc]().NumField() {
		for k := range one {
			m := all()[k]
			switch f := reflect.ValueOf(&m).Elem().Field(i); v := f.Interface().(type) {
			case int:
				f.SetInt(int64(v + 1))
			case bool:
				f.SetBool(!v)
			case []byte:
				m.Data = append(m.Data, 0)
			case []api.Batch:
				m.Batches = append(m.Batches, api.Batch{})
			default:
				t.Fatalf("%T", v)
			}
			same(one[k], m, false)
		}
	}
	same(api.Rpc{}, api.Rpc{Data: []byte{}, Batches: []api.Batch{}}, true)
	same(api.Rpc{At: 1, AtTerm: 2}, api.Rpc{At: 2, AtTerm: 1}, false)
	same(api.Rpc{Size: 1}, api.Rpc{Pos: 1}, false)
	same(api.Rpc{From: 1, To: 2}, api.Rpc{From: 2, To: 1}, false)
}

// TestSameLists: 7.5, byte by byte, and batch by batch, in their order.
func TestSameLists(t *testing.T) {
	for i := range 3 {
		other := full(api.ASnap)
		other.Data[i] ^= 1
		if rpc.Same(full(api.ASnap), other) {
			t.Errorf("byte %d", i)
		}
		for k := range 3 {
			other := full(api.AFetch)
			other.Batches[i], other.Batches[k] = other.Batches[k], other.Batches[i]
			if rpc.Same(full(api.AFetch), other) != (i == k) {
				t.Errorf("batches %d and %d", i, k)
			}
		}
		for _, change := range []func(b *api.Batch){
			func(b *api.Batch) { b.Term++ },
			func(b *api.Batch) { b.Base++ },
			func(b *api.Batch) { b.Records = b.Records[1:] },
			func(b *api.Batch) { b.Records[0].Code++ },
			func(b *api.Batch) { b.Records[len(b.Records)-1].Drop = []int{9} },
		} {
			other := full(api.AFetch)
			change(&other.Batches[i])
			if rpc.Same(full(api.AFetch), other) {
				t.Errorf("batch %d: %v", i, other.Batches[i])
			}
		}
	}
}

// spoil changes all that can be reached from a message, behind its lists' lengths, too.
func spoil(m api.Rpc) {
	for _, b := range m.Batches {
		for _, r := range b.Records {
			for _, row := range [][]int{r.Ids, r.Isr, r.Add, r.Drop} {
				for k := range row[:cap(row)] {
					row[:cap(row)][k] = -9
				}
			}
		}
		clear(b.Records[:cap(b.Records)])
	}
	clear(m.Batches[:cap(m.Batches)])
	for k := range m.Data[:cap(m.Data)] {
		m.Data[:cap(m.Data)][k] = 99
	}
}

// TestCopy: 7.5, all of a message, in memory of its own, whether it may be or not.
func TestCopy(t *testing.T) {
	for i, m := range all() {
		one, two := rpc.Copy(m), rpc.Copy(m)
		if !alike(one, m) || !alike(m, all()[i]) {
			t.Errorf("%v: %v", m, one)
		}
		spoil(one)
		if !alike(m, all()[i]) || !alike(two, m) {
			t.Errorf("%v, %v: changed with a copy", m, two)
		}
		spoil(m)
		if !alike(two, all()[i]) {
			t.Errorf("%v: changed with what was copied", two)
		}
	}
}

// TestCopyBehind: R3, what lies behind a list's length is neither written nor handed out.
func TestCopyBehind(t *testing.T) {
	data, row := []byte{1, 2, 3}, []int{1, 2, 3}
	list := []api.Batch{{Term: 1, Records: []api.Record{{Kind: api.RChange, Ids: row[:2], Isr: row[:1]}}}, {Term: 7}}
	for _, many := range []int{0, 1} {
		c := rpc.Copy(api.Rpc{Data: data[:many], Batches: list[:many]})
		_, _ = append(c.Data, 9), append(c.Batches, api.Batch{Term: 9})
		if many > 0 {
			r := c.Batches[0].Records[0]
			_, _ = append(r.Ids, -9), append(r.Isr, -9)
		}
		if !slices.Equal(data, []byte{1, 2, 3}) || !slices.Equal(row, []int{1, 2, 3}) || list[many].Term != []int{1, 7}[many] {
			t.Errorf("%d: %v, %v, %v", many, data, row, list)
		}
	}
}
