package spans_test

import (
	"math"
	"slices"
	"testing"

	"castellan/api"
	"castellan/spans"
)

// wrong is a fault as the chapter words it: of op, at so much, a code.
func wrong(op string, at int, c api.Code) error { return api.Fault{Op: op, At: at, Err: c} }

// three are the spans of the chapter's example, whose log ends at 9.
func three() []api.Span {
	return []api.Span{{Term: 0, Start: 0}, {Term: 1, Start: 3}, {Term: 4, Start: 7}}
}

// rising are all spans whose terms and starts are below most, and rise: each set of terms with each set of as many starts.
func rising(most int) [][]api.Span {
	var all [][]api.Span
	for terms := range 1 << most {
		for starts := range 1 << most {
			t, s := places(terms), places(starts)
			if len(t) != len(s) {
				continue
			}
			var l []api.Span
			for i := range t {
				l = append(l, api.Span{Term: t[i], Start: s[i]})
			}
			all = append(all, l)
		}
	}
	return all
}

// places are the bits that are set, the least first.
func places(set int) []int {
	var l []int
	for i := 0; set>>i > 0; i++ {
		if set>>i&1 == 1 {
			l = append(l, i)
		}
	}
	return l
}

// roomy is a list with spare memory behind it, which holds what is nobody's.
func roomy(l []api.Span) []api.Span {
	b := append(slices.Clone(l), api.Span{Term: -7, Start: -7}, api.Span{Term: -8, Start: -8})
	return b[:len(l)]
}

// untouched tells whether a list of roomy stands as it was made, its spare memory, too.
func untouched(l, was []api.Span) bool {
	return slices.Equal(l, was) && slices.Equal(l[len(l):len(l)+2], []api.Span{{Term: -7, Start: -7}, {Term: -8, Start: -8}})
}

// TestExample: the chapter's example, and the same spans told of batches.
func TestExample(t *testing.T) {
	if term, end, parts := spans.Parted(three(), 9, 3, 6); term != 1 || end != 7 || !parts {
		t.Errorf("%d, %d, %v", term, end, parts)
	}
	var l []api.Batch
	for i, term := range []int{0, 0, 0, 1, 1, 1, 1, 4, 4} {
		l = append(l, api.Batch{Term: term, Base: i})
	}
	if got := spans.Of(0, 9, l); !slices.Equal(got, three()) {
		t.Errorf("%v", got)
	}
}

// TestCheck: 13.1, spans that may be, and those of which one thing is wrong, at the edges and beyond.
func TestCheck(t *testing.T) {
	const most = api.MaxNum
	for _, c := range []struct {
		l    []api.Span
		want error
	}{
		{nil, nil},
		{[]api.Span{}, nil},
		{[]api.Span{{}}, nil},
		{three(), nil},
		{[]api.Span{{Term: most, Start: most}}, nil},
		{[]api.Span{{Term: 0, Start: most}}, nil},
		{[]api.Span{{Term: most, Start: 0}}, nil},
		{[]api.Span{{Term: most - 1, Start: 0}, {Term: most, Start: most}}, nil},
		{[]api.Span{{Term: 0, Start: most - 1}, {Term: most, Start: most}}, nil},

		{[]api.Span{{Term: -1}}, wrong("span", 0, api.ErrRange)},
		{[]api.Span{{Start: -1}}, wrong("span", 0, api.ErrRange)},
		{[]api.Span{{Term: most + 1}}, wrong("span", 0, api.ErrRange)},
		{[]api.Span{{Start: most + 1}}, wrong("span", 0, api.ErrRange)},
		{[]api.Span{{Term: math.MinInt}}, wrong("span", 0, api.ErrRange)},
		{[]api.Span{{Start: math.MinInt}}, wrong("span", 0, api.ErrRange)},
		{[]api.Span{{Term: math.MaxInt}}, wrong("span", 0, api.ErrRange)},
		{[]api.Span{{Start: math.MaxInt}}, wrong("span", 0, api.ErrRange)},
		{[]api.Span{{Term: 1, Start: 1}, {Term: most + 1, Start: 2}}, wrong("span", 1, api.ErrRange)},
		{[]api.Span{{Term: 1, Start: 1}, {Term: 2, Start: most + 1}}, wrong("span", 1, api.ErrRange)},

		{[]api.Span{{Term: 1, Start: 1}, {Term: 1, Start: 2}}, wrong("span", 1, api.ErrState)},
		{[]api.Span{{Term: 1, Start: 1}, {Term: 2, Start: 1}}, wrong("span", 1, api.ErrState)},
		{[]api.Span{{Term: 1, Start: 1}, {Term: 0, Start: 2}}, wrong("span", 1, api.ErrState)},
		{[]api.Span{{Term: 1, Start: 1}, {Term: 2, Start: 0}}, wrong("span", 1, api.ErrState)},
		{[]api.Span{{}, {}}, wrong("span", 1, api.ErrState)},
		{append(three(), api.Span{Term: 4, Start: 8}), wrong("span", 3, api.ErrState)},
		{append(three(), api.Span{Term: 5, Start: 7}), wrong("span", 3, api.ErrState)},
		{append(three(), api.Span{Term: 3, Start: 8}), wrong("span", 3, api.ErrState)},
		// It is the one ahead that a span rises from, not an earlier one.
		{append(three(), api.Span{Term: 2, Start: 8}, api.Span{Term: 3, Start: 9}), wrong("span", 3, api.ErrState)},
		{append(three(), api.Span{Term: 5, Start: 8}, api.Span{Term: 5, Start: 9}), wrong("span", 4, api.ErrState)},
	} {
		if got := spans.Check(c.l); got != c.want {
			t.Errorf("%v: %v, not %v", c.l, got, c.want)
		}
	}
}

// TestCheckFirst: 13.1 (R6), of two things that are wrong the first span's is told, and of one span's its number ahead of its order.
func TestCheckFirst(t *testing.T) {
	const most = api.MaxNum
	for _, c := range []struct {
		l    []api.Span
		want error
	}{
		{[]api.Span{{Term: 1, Start: 1}, {Term: -1, Start: 2}}, wrong("span", 1, api.ErrRange)},
		{[]api.Span{{Term: 1, Start: 1}, {Term: 2, Start: -1}}, wrong("span", 1, api.ErrRange)},
		{[]api.Span{{Term: 1, Start: 1}, {Term: 1, Start: most + 1}}, wrong("span", 1, api.ErrRange)},
		{[]api.Span{{Term: 1, Start: 1}, {Term: most + 1, Start: 1}}, wrong("span", 1, api.ErrRange)},
		{[]api.Span{{Term: 1, Start: 1}, {Term: 1, Start: 2}, {Term: -1, Start: 3}}, wrong("span", 1, api.ErrState)},
		{[]api.Span{{Term: 1, Start: 1}, {Term: -1, Start: 2}, {Term: -2, Start: 1}}, wrong("span", 1, api.ErrRange)},
		{[]api.Span{{Term: most + 1, Start: 1}, {Term: 2, Start: 2}}, wrong("span", 0, api.ErrRange)},
		{[]api.Span{{Term: 3}, {Term: 2, Start: 1}, {Term: 1, Start: 2}}, wrong("span", 1, api.ErrState)},
	} {
		if got := spans.Check(c.l); got != c.want {
			t.Errorf("%v: %v, not %v", c.l, got, c.want)
		}
	}
}

// TestCheckAll: 13.1, all lists of up to three spans of few numbers, against the words.
func TestCheckAll(t *testing.T) {
	numbers := []int{-1, 0, 1, 2, api.MaxNum, api.MaxNum + 1}
	may := func(n int) bool { return n >= 0 && n <= api.MaxNum }
	want := func(l []api.Span) error {
		for i, s := range l {
			switch {
			case !may(s.Term), !may(s.Start):
				return wrong("span", i, api.ErrRange)
			case i > 0 && !(s.Term > l[i-1].Term && s.Start > l[i-1].Start):
				return wrong("span", i, api.ErrState)
			}
		}
		return nil
	}
	var grow func(l []api.Span)
	grow = func(l []api.Span) {
		if got := spans.Check(l); got != want(l) {
			t.Fatalf("%v: %v, not %v", l, got, want(l))
		}
		if len(l) == 3 {
			return
		}
		for _, term := range numbers {
			for _, start := range numbers {
				grow(append(l[:len(l):len(l)], api.Span{Term: term, Start: start}))
			}
		}
	}
	grow(nil)
}

// TestOf: 13.2, the spans of batches, by hand.
func TestOf(t *testing.T) {
	for _, c := range []struct {
		base, term int
		terms      []int
		want       []api.Span
	}{
		{0, 0, nil, nil},
		{0, 5, nil, nil},
		{-1, 5, nil, nil},
		{math.MinInt, 5, nil, nil},
		{1, 5, nil, []api.Span{{Term: 5, Start: 0}}},
		{7, 5, nil, []api.Span{{Term: 5, Start: 6}}},
		{7, 0, nil, []api.Span{{Term: 0, Start: 6}}},
		{api.MaxNum, api.MaxNum, nil, []api.Span{{Term: api.MaxNum, Start: api.MaxNum - 1}}},
		{math.MaxInt, -3, nil, []api.Span{{Term: -3, Start: math.MaxInt - 1}}},

		{0, 5, []int{1}, []api.Span{{Term: 1, Start: 0}}},
		{0, 5, []int{1, 1, 1}, []api.Span{{Term: 1, Start: 0}}},
		{0, 5, []int{1, 1, 2, 5, 5}, []api.Span{{Term: 1, Start: 0}, {Term: 2, Start: 2}, {Term: 5, Start: 3}}},
		{3, 1, []int{1, 2}, []api.Span{{Term: 1, Start: 2}, {Term: 2, Start: 4}}},
		{3, 1, []int{2, 2}, []api.Span{{Term: 1, Start: 2}, {Term: 2, Start: 3}}},
		{3, 0, []int{1}, []api.Span{{Term: 0, Start: 2}, {Term: 1, Start: 3}}},
		{1, 4, []int{4, 4, 9}, []api.Span{{Term: 4, Start: 0}, {Term: 9, Start: 3}}},
		{0, 5, []int{0, 0, 1}, []api.Span{{Term: 0, Start: 0}, {Term: 1, Start: 2}}},

		// Of promises something at whatever it is given: where a term falls there is no span, and without a base above 0 none ahead.
		{3, 6, []int{2, 6, 7}, []api.Span{{Term: 6, Start: 2}, {Term: 7, Start: 5}}},
		{0, 6, []int{2, 1, 2, 3}, []api.Span{{Term: 2, Start: 0}, {Term: 3, Start: 3}}},
		{-2, 6, []int{2, 3}, []api.Span{{Term: 2, Start: -2}, {Term: 3, Start: -1}}},
		{-1, 6, []int{-4, -3, 0}, []api.Span{{Term: -4, Start: -1}, {Term: -3, Start: 0}, {Term: 0, Start: 1}}},
	} {
		var l []api.Batch
		for _, term := range c.terms {
			// Where a batch stands is told by the base alone.
			l = append(l, api.Batch{Term: term, Base: 77})
		}
		if got := spans.Of(c.base, c.term, l); !slices.Equal(got, c.want) {
			t.Errorf("%d, %d, %v: %v, not %v", c.base, c.term, c.terms, got, c.want)
		}
		for i, b := range l {
			if b.Term != c.terms[i] || b.Base != 77 || b.Records != nil {
				t.Errorf("%d, %d, %v: batch %d was changed", c.base, c.term, c.terms, i)
			}
		}
	}
}

// TestOfByAdd: 13.2, Of is Add of each batch's term, one by one, behind the span of what is ahead.
func TestOfByAdd(t *testing.T) {
	for _, terms := range sequences(5, 4) {
		for base := -2; base <= 3; base++ {
			for ahead := range 3 {
				var want []api.Span
				if base > 0 {
					want = spans.Add(nil, ahead, base-1)
				}
				var l []api.Batch
				for i, term := range terms {
					l = append(l, api.Batch{Term: term, Base: base + i})
					want = spans.Add(want, term, base+i)
				}
				if got := spans.Of(base, ahead, l); !slices.Equal(got, want) {
					t.Fatalf("%d, %d, %v: %v, not %v", base, ahead, terms, got, want)
				}
			}
		}
	}
}

// sequences are all lists of up to so many numbers below most.
func sequences(many, most int) [][]int {
	all := [][]int{nil}
	last := all
	for range many {
		var next [][]int
		for _, l := range last {
			for n := range most {
				next = append(next, append(l[:len(l):len(l)], n))
			}
		}
		all, last = append(all, next...), next
	}
	return all
}

// TestOfLong: 13.2, a long log whose every batch is of another term has as many spans; its end is found at every term.
func TestOfLong(t *testing.T) {
	const many = 200000
	l := make([]api.Batch, many)
	for i := range l {
		l[i] = api.Batch{Term: 2*i + 1, Base: i + 5}
	}
	got := spans.Of(5, 0, l)
	if len(got) != many+1 || spans.Check(got) != nil {
		t.Fatalf("%d spans, %v", len(got), spans.Check(got))
	}
	for i, s := range got[1:] {
		if s.Term != 2*i+1 || s.Start != i+5 {
			t.Fatalf("%d: %v", i, s)
		}
	}
}

// TestAdd: 13.3, by hand: what begins at the start, or behind it, is gone; a term that is no greater than the last one's is no span.
func TestAdd(t *testing.T) {
	for _, c := range []struct {
		l           []api.Span
		term, start int
		want        []api.Span
	}{
		{nil, 3, 5, []api.Span{{Term: 3, Start: 5}}},
		{nil, 0, 0, []api.Span{{}}},
		{nil, -4, -5, []api.Span{{Term: -4, Start: -5}}},
		{three(), 5, 9, append(three(), api.Span{Term: 5, Start: 9})},
		{three(), 5, 8, append(three(), api.Span{Term: 5, Start: 8})},
		{three(), 4, 9, three()},
		{three(), 3, 9, three()},
		{three(), -1, 9, three()},
		{three(), 5, 7, []api.Span{{Term: 0, Start: 0}, {Term: 1, Start: 3}, {Term: 5, Start: 7}}},
		{three(), 4, 7, three()},
		{three(), 2, 7, []api.Span{{Term: 0, Start: 0}, {Term: 1, Start: 3}, {Term: 2, Start: 7}}},
		{three(), 1, 7, []api.Span{{Term: 0, Start: 0}, {Term: 1, Start: 3}}},
		{three(), 0, 7, []api.Span{{Term: 0, Start: 0}, {Term: 1, Start: 3}}},
		{three(), 2, 4, []api.Span{{Term: 0, Start: 0}, {Term: 1, Start: 3}, {Term: 2, Start: 4}}},
		{three(), 2, 3, []api.Span{{Term: 0, Start: 0}, {Term: 2, Start: 3}}},
		{three(), 0, 3, []api.Span{{Term: 0, Start: 0}}},
		{three(), 1, 1, []api.Span{{Term: 0, Start: 0}, {Term: 1, Start: 1}}},
		{three(), 0, 0, []api.Span{{Term: 0, Start: 0}}},
		{three(), 9, 0, []api.Span{{Term: 9, Start: 0}}},
		{three(), 9, -1, []api.Span{{Term: 9, Start: -1}}},
		{three(), math.MaxInt, math.MaxInt, append(three(), api.Span{Term: math.MaxInt, Start: math.MaxInt})},
		{three(), math.MinInt, math.MinInt, []api.Span{{Term: math.MinInt, Start: math.MinInt}}},
	} {
		if got := spans.Add(c.l, c.term, c.start); !slices.Equal(got, c.want) {
			t.Errorf("%v, %d, %d: %v, not %v", c.l, c.term, c.start, got, c.want)
		}
	}
}

// TestAddAll: 13.3, all spans of few numbers with every term and start, against the words; spans that may be are such with one more, too.
func TestAddAll(t *testing.T) {
	for _, l := range rising(5) {
		for term := -1; term <= 6; term++ {
			for start := -1; start <= 6; start++ {
				var want []api.Span
				greatest := -9
				for _, s := range l {
					if s.Start < start {
						want = append(want, s)
						greatest = s.Term
					}
				}
				if greatest < term {
					want = append(want, api.Span{Term: term, Start: start})
				}
				got := spans.Add(l, term, start)
				if !slices.Equal(got, want) {
					t.Fatalf("%v, %d, %d: %v, not %v", l, term, start, got, want)
				}
				if err := spans.Check(got); term >= 0 && start >= 0 && err != nil {
					t.Fatalf("%v, %d, %d: %v", l, term, start, err)
				}
			}
		}
	}
}

// TestMemory: R3, no call changes spans that are handed in, nor what lies behind them; what Add answers is memory of its own.
func TestMemory(t *testing.T) {
	for _, was := range rising(4) {
		l := roomy(was)
		for term := range 5 {
			for start := range 6 {
				got := spans.Add(l, term, start)
				clear(got[:cap(got)])
				spans.Check(l)
				spans.EndOf(l, term, start)
				spans.Parted(l, 5, term, start)
				spans.Keep(l, 5, term, start)
				if !untouched(l, was) {
					t.Fatalf("%v is %v behind %d, %d", was, l[:cap(l)], term, start)
				}
			}
		}
	}
	l := []api.Batch{{Term: 1}, {Term: 2}}
	one, other := spans.Of(3, 0, l), spans.Of(3, 0, l)
	clear(one[:cap(one)])
	if !slices.Equal(other, []api.Span{{Term: 0, Start: 2}, {Term: 1, Start: 3}, {Term: 2, Start: 4}}) {
		t.Errorf("%v", other)
	}
}
