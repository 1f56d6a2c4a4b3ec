package spans_test

import (
	"math/rand/v2"
	"slices"
	"testing"

	"castellan/api"
	"castellan/spans"
)

// ended is what EndOf answers.
type ended struct {
	term, end int
	ok        bool
}

// endOf is where a term ends, by the chapter's words: the last span whose term is not above it, and where the next one begins.
func endOf(l []api.Span, term, end int) ended {
	var found ended
	for i, s := range l {
		if s.Term > term {
			continue
		}
		found = ended{s.Term, end, true}
		if i+1 < len(l) {
			found.end = l[i+1].Start
		}
	}
	return found
}

// TestEndOf: 13.4, by hand, and that the end counts for the last span alone.
func TestEndOf(t *testing.T) {
	for _, c := range []struct {
		l         []api.Span
		term, end int
		want      ended
	}{
		{nil, 3, 9, ended{}},
		{[]api.Span{}, 0, 0, ended{}},
		{three(), -1, 9, ended{}},
		{three(), 0, 9, ended{0, 3, true}},
		{three(), 1, 9, ended{1, 7, true}},
		{three(), 2, 9, ended{1, 7, true}},
		{three(), 3, 9, ended{1, 7, true}},
		{three(), 4, 9, ended{4, 9, true}},
		{three(), 5, 9, ended{4, 9, true}},
		{three(), api.MaxNum, 9, ended{4, 9, true}},
		{three(), 4, 8, ended{4, 8, true}},
		{three(), 4, 0, ended{4, 0, true}},
		{three(), 4, -2, ended{4, -2, true}},
		{three(), 3, 0, ended{1, 7, true}},
		{three()[1:], 0, 9, ended{}},
		{three()[1:], 1, 9, ended{1, 7, true}},
		{three()[2:], 3, 9, ended{}},
		{three()[2:], 4, 9, ended{4, 9, true}},
	} {
		term, end, ok := spans.EndOf(c.l, c.term, c.end)
		if got := (ended{term, end, ok}); got != c.want {
			t.Errorf("%v, %d, %d: %v, not %v", c.l, c.term, c.end, got, c.want)
		}
	}
}

// TestParted: 13.5, by hand, at the edges where a log goes on, or parts.
func TestParted(t *testing.T) {
	for _, c := range []struct {
		l                 []api.Span
		end, lastTerm, at int
		want              ended
	}{
		// Without a span of such a term: from where the spans begin.
		{nil, 9, 3, 6, ended{0, 0, true}},
		{[]api.Span{}, 0, 0, 0, ended{0, 0, true}},
		{three(), 9, -1, 6, ended{0, 0, true}},
		{three()[1:], 9, 0, 6, ended{0, 3, true}},
		{three()[1:], 9, 0, 1, ended{0, 3, true}},
		{three()[2:], 9, 3, 7, ended{0, 7, true}},
		// The term is there: a log goes on as long as that one does.
		{three(), 9, 0, 0, ended{}},
		{three(), 9, 0, 2, ended{}},
		{three(), 9, 0, 3, ended{}},
		{three(), 9, 0, 4, ended{0, 3, true}},
		{three(), 9, 1, 7, ended{}},
		{three(), 9, 1, 8, ended{1, 7, true}},
		{three(), 9, 1, 2, ended{}},
		{three(), 9, 4, 9, ended{}},
		{three(), 9, 4, 8, ended{}},
		{three(), 9, 4, 10, ended{4, 9, true}},
		{three(), 9, 4, -1, ended{}},
		// Another one is: a log parts, wherever it ends.
		{three(), 9, 3, 6, ended{1, 7, true}},
		{three(), 9, 2, 7, ended{1, 7, true}},
		{three(), 9, 2, 8, ended{1, 7, true}},
		{three(), 9, 3, 0, ended{1, 7, true}},
		{three(), 9, 5, 9, ended{4, 9, true}},
		{three(), 9, 5, 1, ended{4, 9, true}},
	} {
		term, end, parts := spans.Parted(c.l, c.end, c.lastTerm, c.at)
		if got := (ended{term, end, parts}); got != c.want {
			t.Errorf("%v, %d, %d, %d: %v, not %v", c.l, c.end, c.lastTerm, c.at, got, c.want)
		}
	}
}

// TestKeep: 13.6, by hand.
func TestKeep(t *testing.T) {
	for _, c := range []struct {
		l                     []api.Span
		end, term, upto, want int
	}{
		// No term that is no greater: from where the spans begin, whatever was told.
		{nil, 9, 3, 6, 0},
		{[]api.Span{}, 4, 0, 2, 0},
		{three(), 9, -1, 6, 0},
		{three()[1:], 9, 0, 1, 3},
		{three()[1:], 9, 0, 8, 3},
		{three()[2:], 9, 3, 5, 7},
		// The term itself: the one that ends first.
		{three(), 9, 1, 5, 5},
		{three(), 9, 1, 6, 6},
		{three(), 9, 1, 7, 7},
		{three(), 9, 1, 8, 7},
		{three(), 9, 1, 1, 1},
		{three(), 9, 1, -3, -3},
		{three(), 9, 0, 2, 2},
		{three(), 9, 0, 4, 3},
		{three(), 9, 4, 8, 8},
		{three(), 9, 4, 9, 9},
		{three(), 9, 4, 10, 9},
		// A lesser one: where that ends, whatever was told.
		{three(), 9, 3, 5, 7},
		{three(), 9, 2, 9, 7},
		{three(), 9, 5, 8, 9},
		{three(), 9, 5, 12, 9},
	} {
		if got := spans.Keep(c.l, c.end, c.term, c.upto); got != c.want {
			t.Errorf("%v, %d, %d, %d: %d, not %d", c.l, c.end, c.term, c.upto, got, c.want)
		}
	}
}

// TestWords: 13.4 to 13.6, all spans of few numbers, at every end, term and offset, against the words.
func TestWords(t *testing.T) {
	for _, l := range rising(4) {
		start := 0
		if len(l) > 0 {
			start = l[0].Start
		}
		for end := -1; end <= 5; end++ {
			for term := -1; term <= 5; term++ {
				want := endOf(l, term, end)
				last, upto, ok := spans.EndOf(l, term, end)
				if got := (ended{last, upto, ok}); got != want {
					t.Fatalf("EndOf %v, %d, %d: %v, not %v", l, term, end, got, want)
				}
				for at := -1; at <= 5; at++ {
					last, upto, parts := spans.Parted(l, end, term, at)
					if got := (ended{last, upto, parts}); got != parted(want, start, term, at) {
						t.Fatalf("Parted %v, %d, %d, %d: %v", l, end, term, at, got)
					}
					if got := spans.Keep(l, end, term, at); got != kept(want, start, term, at) {
						t.Fatalf("Keep %v, %d, %d, %d: %d", l, end, term, at, got)
					}
				}
			}
		}
	}
}

// parted is what Parted is to answer, by where a term ends, and where the spans begin.
func parted(e ended, start, lastTerm, at int) ended {
	switch {
	case !e.ok:
		return ended{0, start, true}
	case e.term == lastTerm && e.end >= at:
		return ended{}
	}
	return e
}

// kept is what Keep is to answer, by where a term ends, and where the spans begin.
func kept(e ended, start, term, upto int) int {
	switch {
	case !e.ok:
		return start
	case e.term == term && upto < e.end:
		return upto
	}
	return e.end
}

// history are the logs of a quorum, each the terms of its batches: who leads in a term puts batches of it behind some log, and all others have beginnings of it.
func history(r *rand.Rand, terms int) [][]int {
	logs := [][]int{nil}
	for term := 1; term <= terms; term++ {
		l := slices.Clone(logs[r.IntN(len(logs))])
		for range r.IntN(4) {
			l = append(l, term)
			logs = append(logs, slices.Clone(l))
		}
	}
	return logs
}

// common is how many batches two logs have in common from their beginning on.
func common(a, b []int) int {
	n := 0
	for n < min(len(a), len(b)) && a[n] == b[n] {
		n++
	}
	return n
}

// spansOf are the spans of a log's batches from a base on.
func spansOf(log []int, base int) []api.Span {
	var l []api.Batch
	for i := base; i < len(log); i++ {
		l = append(l, api.Batch{Term: log[i], Base: i})
	}
	return spans.Of(base, lastTerm(log[:base]), l)
}

// lastTerm is the term of a log's last batch; without one 0.
func lastTerm(log []int) int {
	if len(log) == 0 {
		return 0
	}
	return log[len(log)-1]
}

// cutBack is a log that was cut back as it was told by another one, until it parts no more.
func cutBack(t *testing.T, leader, log []int, leaderBase, base int) []int {
	t.Helper()
	theirs := spansOf(leader, leaderBase)
	// A log without batches has no last one by which it could part.
	for len(log) > 0 {
		term, upto, parts := spans.Parted(theirs, len(leader), lastTerm(log), len(log))
		if !parts {
			break
		}
		keep := spans.Keep(spansOf(log, base), len(log), term, upto)
		if keep >= len(log) || keep < base {
			t.Fatalf("%v from %d on: %v from %d on may stay up to %d", leader, leaderBase, log, base, keep)
		}
		log = log[:keep]
	}
	return log
}

// pairs are two logs of one quorum each, and how many batches they have in common, from many histories.
func pairs(r *rand.Rand, act func(leader, log []int, same int)) {
	for range 300 {
		logs := history(r, 1+r.IntN(7))
		for _, leader := range logs {
			for _, log := range logs {
				act(leader, log, common(leader, log))
			}
		}
	}
}

// TestCutBack: 13.7, of the logs of a quorum each, told by each other, becomes a beginning of it, and loses nothing that both have, though the batches up to somewhere were taken into a snapshot.
func TestCutBack(t *testing.T) {
	r := rand.New(rand.NewPCG(13, 7))
	pairs(r, func(leader, log []int, same int) {
		for _, bases := range [][2]int{{0, 0}, {same, 0}, {0, same}, {same, same}, {r.IntN(same + 1), r.IntN(same + 1)}} {
			got := cutBack(t, leader, log, bases[0], bases[1])
			if !slices.Equal(got, leader[:same]) {
				t.Fatalf("%v from %d on: %v from %d on became %v", leader, bases[0], log, bases[1], got)
			}
		}
	})
}

// TestGoesOn: 13.5, a log that is a beginning of another one does not part from it, and one that is none does.
func TestGoesOn(t *testing.T) {
	r := rand.New(rand.NewPCG(13, 5))
	pairs(r, func(leader, log []int, same int) {
		if len(log) == 0 {
			return
		}
		for _, base := range []int{0, r.IntN(same + 1), same} {
			_, _, parts := spans.Parted(spansOf(leader, base), len(leader), lastTerm(log), len(log))
			if parts != (same < len(log)) {
				t.Fatalf("%v from %d on: %v parts: %v", leader, base, log, parts)
			}
		}
	})
}
