package quorum_test

import (
	"bytes"
	"testing"

	"castellan/api"
)

// ramp is so many bytes, each unlike the one ahead of it.
func ramp(n int) []byte {
	b := make([]byte, n)
	for i := range b {
		b[i] = byte(i + i/256)
	}
	return b
}

// TestGiveSnapshot: 14.18: which bytes are given, 512 at most, and when there are none to give; the voter is heard.
func TestGiveSnapshot(t *testing.T) {
	for _, c := range []struct {
		what           string
		base, size     int
		at, term, pos  int
		stale          bool
		first, nowMany int
	}{
		{"from the beginning", 5, 4, 5, 2, 0, false, 0, 4},
		{"from the midst", 5, 4, 5, 2, 3, false, 3, 1},
		{"from the end", 5, 4, 5, 2, 4, false, 4, 0},
		{"beyond the end", 5, 4, 5, 2, 5, true, 0, 0},
		{"far beyond the end", 5, 4, 5, 2, 1<<63 - 1, true, 0, 0},
		{"another offset", 5, 4, 6, 2, 0, true, 0, 0},
		{"an earlier offset", 5, 4, 4, 2, 0, true, 0, 0},
		{"another term", 5, 4, 5, 3, 0, true, 0, 0},
		{"no term", 5, 4, 5, 0, 0, true, 0, 0},
		{"no bytes", 5, 0, 5, 2, 0, false, 0, 0},
		{"no bytes, and beyond them", 5, 0, 5, 2, 1, true, 0, 0},
		{"no snapshot", 0, 4, 0, 2, 0, true, 0, 0},
		{"no snapshot, and another one", 0, 4, 5, 2, 0, true, 0, 0},
		{"512 bytes", 5, 512, 5, 2, 0, false, 0, 512},
		{"one more", 5, 513, 5, 2, 0, false, 0, 512},
		{"the last of these", 5, 513, 5, 2, 512, false, 512, 1},
		{"all but the first", 5, 513, 5, 2, 1, false, 1, 512},
		{"many", 5, 2000, 5, 2, 700, false, 700, 512},
		{"the last of many", 5, 2000, 5, 2, 1500, false, 1500, 500},
	} {
		for _, from := range []int{2, 9} {
			q := leader(func(q *api.Quorum) { q.Base, q.Shot = c.base, ramp(c.size) })
			want := q
			if from == 2 {
				want.Quiet = []int{1, 0, 3}
			}
			answer := api.Rpc{Kind: api.ASnap, From: 1, To: from, Term: 6, Leader: 1, At: c.base, AtTerm: 2}
			if c.stale {
				answer.Code = int(api.ErrStale)
			} else {
				answer.Size, answer.Pos, answer.Data = c.size, c.pos, ramp(c.size)[c.first:c.first+c.nowMany]
			}
			receives(t, c.what, q, api.Rpc{Kind: api.QSnap, From: from, To: 1, Term: 6, At: c.at, AtTerm: c.term, Pos: c.pos}, want, answer)
		}
	}
}

// loads is a follower that has 3 bytes of the snapshot of 19, of the term 4.
func loads(change func(*api.Quorum)) api.Quorum {
	return follower(func(q *api.Quorum) {
		q.Load = api.Load{End: 19, Term: 4, Size: 99, Data: []byte("abc")}
		if change != nil {
			change(q)
		}
	})
}

// piece is the next piece of what loads has, of so many bytes in all.
func piece(size int, data string) api.Rpc {
	return api.Rpc{Kind: api.ASnap, From: 3, To: 2, Term: 4, Leader: 3, At: 19, AtTerm: 4, Size: size, Pos: 3, Data: []byte(data)}
}

// TestTakePiece: 14.19: what comes stands behind what came, and the rest is asked for; but not, if nothing came.
func TestTakePiece(t *testing.T) {
	for _, c := range []struct {
		size int
		data string
	}{{5, "d"}, {1000, "defg"}, {4, ""}, {99, ""}, {2, ""}, {0, ""}} {
		want := changed(at0(loads(nil)), func(q *api.Quorum) { q.Load.Size, q.Load.Data = c.size, []byte("abc"+c.data) })
		var wanted []api.Rpc
		if c.data != "" {
			wanted = []api.Rpc{{Kind: api.QSnap, From: 2, To: 3, Term: 4, At: 19, AtTerm: 4, Pos: 3 + len(c.data)}}
		}
		receives(t, text(c), loads(nil), piece(c.size, c.data), want, wanted...)
	}
}

// TestTakePieceOther: 14.19: nothing comes of a piece of another snapshot, or of another place, or of one that is not its leader's, or where none is fetched.
func TestTakePieceOther(t *testing.T) {
	for what, change := range map[string]func(*api.Rpc){
		"another offset": func(x *api.Rpc) { x.At = 20 },
		"the base":       func(x *api.Rpc) { x.At = 5 },
		"another term":   func(x *api.Rpc) { x.AtTerm = 3 },
		"the last piece": func(x *api.Rpc) { x.Pos = 2 },
		"one beyond":     func(x *api.Rpc) { x.Pos = 4 },
		"the first one":  func(x *api.Rpc) { x.Pos = 0 },
	} {
		x := piece(4, "d")
		change(&x)
		receives(t, what, loads(nil), x, at0(loads(nil)))
	}
	for what, change := range map[string]func(*api.Rpc){
		"not its leader's":       func(x *api.Rpc) { x.From = 1 },
		"another leader's":       func(x *api.Rpc) { x.From, x.Leader = 1, 1 },
		"nobody's":               func(x *api.Rpc) { x.Leader = 0 },
		"of an elder term":       func(x *api.Rpc) { x.Term = 3 },
		"an elder term's refuse": func(x *api.Rpc) { x.Term, x.Code = 3, int(api.ErrStale) },
		"another one's refuse":   func(x *api.Rpc) { x.From, x.Code = 1, int(api.ErrStale) },
	} {
		x := piece(4, "d")
		change(&x)
		receives(t, what, loads(nil), x, loads(nil))
	}
	for _, code := range []int{0, int(api.ErrStale)} {
		x := api.Rpc{Kind: api.ASnap, From: 3, To: 2, Term: 4, Leader: 3, At: 99, Code: code, Size: 1, Data: []byte("a")}
		receives(t, "none is fetched", follower(nil), x, at0(follower(nil)))
		x.At = 0
		receives(t, "none is fetched", follower(nil), x, at0(follower(nil)))
		odd := follower(func(q *api.Quorum) { q.Load = api.Load{Term: 7, Data: []byte("x")} })
		receives(t, "none is fetched, though bytes came", odd, x, at0(odd))
	}
}

// TestTakeWhole: 14.19: a snapshot that came whole is taken for what it is of, with an empty log behind.
func TestTakeWhole(t *testing.T) {
	for _, c := range []struct {
		size int
		data string
	}{{4, "d"}, {3, ""}, {3, "d"}, {0, "d"}, {0, "def"}, {7, "defg"}} {
		want := changed(at0(loads(nil)), func(q *api.Quorum) {
			q.Base, q.BaseTerm, q.High, q.Shot, q.Log, q.Load = 19, 4, 19, []byte("abc"+c.data), nil, api.Load{}
		})
		receives(t, text(c), loads(nil), piece(c.size, c.data), want, api.Rpc{Kind: api.QFetch, From: 2, To: 3, Term: 4, At: 19, AtTerm: 4})
	}
}

// TestTakeWholeKnown: 14.19: what the log has already stays as it is, and what is committed already, too.
func TestTakeWholeKnown(t *testing.T) {
	for _, c := range []struct {
		what            string
		end, term, high int
		taken, known    bool
	}{
		{"beyond the log", 11, 3, 6, true, false},
		{"its end, its term", 10, 3, 6, false, false},
		{"its end, another term", 10, 4, 6, true, false},
		{"its midst, its term", 8, 3, 6, false, false},
		{"its midst, another term", 8, 2, 6, true, false},
		{"just above what is committed, its term", 7, 2, 6, false, false},
		{"just above what is committed, another term", 7, 3, 6, true, false},
		{"what is committed", 6, 2, 6, false, false},
		{"what is committed, another term", 6, 3, 6, false, false},
		{"below what is committed, another term", 7, 9, 8, false, false},
		{"its base", 5, 2, 6, false, false},
		{"ahead of its base", 3, 1, 6, false, false},
		// No member that goes on by the calls knows less than its base as committed.
		{"its base, of which it does not know", 5, 2, 3, false, true},
		{"ahead of its base, of which it does not know", 4, 2, 3, true, false},
	} {
		q := loads(func(q *api.Quorum) { q.High, q.Load.End, q.Load.Term = c.high, c.end, c.term })
		x := piece(4, "d")
		x.At, x.AtTerm = c.end, c.term
		want := changed(at0(q), func(q *api.Quorum) { q.Load = api.Load{} })
		fetches := api.Rpc{Kind: api.QFetch, From: 2, To: 3, Term: 4, At: 10, AtTerm: 3}
		if c.taken {
			want.Base, want.BaseTerm, want.High, want.Shot, want.Log = c.end, c.term, c.end, []byte("abcd"), nil
			fetches.At, fetches.AtTerm = c.end, c.term
		}
		if c.known {
			want.High = c.end
		}
		receives(t, c.what, q, x, want, fetches)
	}
}

// TestTakeRefused: 14.19: a snapshot that is not there any more is fetched no more, but the one that is, if it is of more than is committed.
func TestTakeRefused(t *testing.T) {
	for _, code := range []int{-1, 1, int(api.ErrStale), 99} {
		for _, at := range []int{0, 5, 6, 7, 19, 30} {
			want := changed(at0(loads(nil)), func(q *api.Quorum) { q.Load = api.Load{} })
			fetches := api.Rpc{Kind: api.QFetch, From: 2, To: 3, Term: 4, At: 10, AtTerm: 3}
			if at > 6 {
				want.Load = api.Load{End: at, Term: 5}
				fetches = api.Rpc{Kind: api.QSnap, From: 2, To: 3, Term: 4, At: at, AtTerm: 5}
			}
			x := piece(4, "d")
			x.At, x.AtTerm, x.Code = at, 5, code
			receives(t, text([]int{code, at}), loads(nil), x, want, fetches)
		}
	}
}

// TestSnapshotPieces: 14.5, 14.18, 14.19: snapshots of all sizes about the pieces' come over whole, piece by piece.
func TestSnapshotPieces(t *testing.T) {
	for _, size := range []int{0, 1, 511, 512, 513, 1023, 1024, 1025, 3000} {
		from := leader(func(q *api.Quorum) { q.Shot, q.High = ramp(size), 14 })
		to := api.Quorum{Id: 3, Voters: 3, Term: 6}
		way, pieces := []api.Rpc{{Kind: api.QBegin, From: 1, To: 3, Term: 6, Leader: 1}}, 0
		for len(way) > 0 {
			x := way[0]
			way = way[1:]
			if x.Kind == api.ASnap {
				pieces++
			}
			if x.To == 1 {
				from, way = onward(from, x, way)
			} else {
				to, way = onward(to, x, way)
			}
		}
		if !bytes.Equal(to.Shot, from.Shot) || to.Base != 5 || to.BaseTerm != 2 || text(to.Log) != text(from.Log) || to.High != 14 || to.Load.End != 0 {
			t.Errorf("%d: %+v", size, to)
		}
		if want := max(1, (size+511)/512); pieces != want {
			t.Errorf("%d: %d pieces, not %d", size, pieces, want)
		}
	}
}
