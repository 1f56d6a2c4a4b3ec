package fault_test

import (
	"errors"
	"fmt"
	"math"
	"slices"
	"strconv"
	"testing"

	"castellan/api"
	"castellan/fault"
)

// codes lists every code by its number, from 1 on.
var codes = []api.Code{
	api.ErrArg, api.ErrRange, api.ErrShort, api.ErrSum, api.ErrKind, api.ErrLimit, api.ErrFull,
	api.ErrNone, api.ErrExists, api.ErrState, api.ErrEpoch, api.ErrLeader, api.ErrBusy, api.ErrTimeout,
	api.ErrDiverge, api.ErrDown, api.ErrFenced, api.ErrReplicas, api.ErrTorn, api.ErrStale, api.ErrOther,
}

// strange is an error that is neither a code nor a fault, and wraps none.
var strange = errors.New("strange")

// bursting panics as soon as it is unwrapped.
type bursting struct{}

func (bursting) Error() string { return "bursting" }
func (bursting) Unwrap() error { panic("unwrapped") }

// rows is an error that can't be compared with ==.
type rows []int

func (rows) Error() string { return "rows" }

// sample is an error, and what each call must tell of it.
type sample struct {
	name  string
	err   error
	of    api.Code
	at    int
	fault bool
	path  []string
	again error
}

func samples() []sample {
	read := api.Fault{Op: "read", At: 7, Err: api.ErrSum}
	open := api.Fault{Op: "open", At: 3, Err: read}
	start := api.Fault{Op: "start", At: -1, Err: open}
	odd := api.Fault{Op: "odd", At: 5, Err: strange}
	odder := api.Fault{Op: "odder", At: 6, Err: odd}
	told := fmt.Errorf("told: %w", open)
	between := api.Fault{Op: "keep", At: 2, Err: told}
	return []sample{
		{"nil", nil, 0, 0, false, nil, nil},
		{"code", api.ErrFull, api.ErrFull, 0, false, nil, api.ErrFull},
		{"code 0", api.Code(0), 0, 0, false, nil, api.Code(0)},
		{"depth 1", read, api.ErrSum, 7, true, []string{"read"}, api.ErrSum},
		{"depth 2", open, api.ErrSum, 3, true, []string{"open", "read"}, read},
		{"depth 3", start, api.ErrSum, -1, true, []string{"start", "open", "read"}, open},
		{"strange", strange, api.ErrOther, 0, false, nil, strange},
		{"fault of strange", odd, api.ErrOther, 5, true, []string{"odd"}, strange},
		{"fault of fault of strange", odder, api.ErrOther, 6, true, []string{"odder", "odd"}, odd},
		{"strange about a code", fmt.Errorf("told: %w", api.ErrTorn), api.ErrTorn, 0, false, nil, nil},
		{"strange about a fault", told, api.ErrSum, 3, true, []string{"open", "read"}, read},
		{"fault of strange about a fault", between, api.ErrSum, 2, true, []string{"keep", "open", "read"}, told},
		{"fault without an error", api.Fault{Op: "bare", At: 4}, api.ErrOther, 4, true, []string{"bare"}, nil},
		{"fault without a name", api.Fault{Err: api.ErrArg}, api.ErrArg, 0, true, []string{""}, api.ErrArg},
		{"fault of code 0", api.Fault{Op: "zero", At: 9, Err: api.Code(0)}, 0, 9, true, []string{"zero"}, api.Code(0)},
		{"code that has no name", api.Fault{Op: "far", At: 1, Err: api.Code(-5)}, -5, 1, true, []string{"far"}, api.Code(-5)},
	}
}

// TestCodes: the codes are numbered from 1 on; what a code's and a fault's Error and Unwrap are.
func TestCodes(t *testing.T) {
	for i, c := range codes {
		if int(c) != i+1 {
			t.Errorf("code %d is number %d", i+1, int(c))
		}
		if want := "code " + strconv.Itoa(i+1); c.Error() != want {
			t.Errorf("%q, not %q", c.Error(), want)
		}
	}
	if s := api.Code(-2).Error(); s != "code -2" {
		t.Errorf("%q", s)
	}
	f := api.Fault{Op: "read", At: -7, Err: strange}
	if f.Error() != "read at -7" || f.Unwrap() != strange {
		t.Errorf("%q, %v", f.Error(), f.Unwrap())
	}
}

// TestNew is promise 1.1.
func TestNew(t *testing.T) {
	for _, c := range append([]api.Code{0, -1, 22, math.MaxInt}, codes...) {
		for _, op := range []string{"read", "", "two words"} {
			for _, at := range []int{0, 7, -1, math.MaxInt, math.MinInt} {
				if got, want := fault.New(op, at, c), error(api.Fault{Op: op, At: at, Err: c}); got != want {
					t.Errorf("New(%q, %d, %d) is %#v", op, at, c, got)
				}
			}
		}
	}
	if s := fault.New("read", 7, api.ErrSum).Error(); s != "read at 7" {
		t.Errorf("%q", s)
	}
}

// TestWrap is promise 1.2.
func TestWrap(t *testing.T) {
	for _, s := range samples() {
		for _, at := range []int{0, 3, -1, math.MaxInt, math.MinInt} {
			got := fault.Wrap("open", at, s.err)
			if s.err == nil {
				if got != nil {
					t.Errorf("nil wrapped is %#v", got)
				}
				continue
			}
			if want := error(api.Fault{Op: "open", At: at, Err: s.err}); got != want {
				t.Errorf("%s wrapped is %#v", s.name, got)
			}
			if errors.Unwrap(got) != s.err {
				t.Errorf("%s is no more what it was", s.name)
			}
		}
	}
}

// TestOf is promise 1.3.
func TestOf(t *testing.T) {
	for _, s := range samples() {
		if got := fault.Of(s.err); got != s.of {
			t.Errorf("%s: %v, not %v", s.name, got, s.of)
		}
	}
	for _, c := range codes {
		err := error(c)
		for range 5 {
			if got := fault.Of(err); got != c {
				t.Errorf("%v: %v, not %v", err, got, c)
			}
			err = fault.Wrap("more", 1, err)
		}
	}
}

// TestIs is promise 1.4.
func TestIs(t *testing.T) {
	for _, s := range samples() {
		for _, c := range codes {
			want := s.of == c
			if c == api.ErrOther { // Of's answer where no code is there is no code that is there
				want = false
			}
			if got := fault.Is(s.err, c); got != want {
				t.Errorf("%s: Is(%d) is %v", s.name, int(c), got)
			}
		}
	}
	for depth, err := 0, error(api.ErrOther); depth < 4; depth, err = depth+1, fault.Wrap("more", depth, err) {
		if !fault.Is(err, api.ErrOther) || fault.Is(err, api.ErrStale) {
			t.Errorf("depth %d: ErrOther is not told", depth)
		}
	}
	if !fault.Is(fault.Wrap("more", 1, fault.New("zero", 0, 0)), 0) {
		t.Error("code 0 is not told")
	}
}

// TestWhere is promise 1.5.
func TestWhere(t *testing.T) {
	for _, s := range samples() {
		if at, ok := fault.Where(s.err); at != s.at || ok != s.fault {
			t.Errorf("%s: %d, %v", s.name, at, ok)
		}
	}
	for _, at := range []int{0, -1, math.MaxInt, math.MinInt} {
		if got, ok := fault.Where(fault.Wrap("x", at, fault.New("y", 77, api.ErrArg))); got != at || !ok {
			t.Errorf("%d: %d, %v", at, got, ok)
		}
	}
}

// TestPath is the first half of promise 1.6.
func TestPath(t *testing.T) {
	for _, s := range samples() {
		if got := fault.Path(s.err); !slices.Equal(got, s.path) {
			t.Errorf("%s: %q", s.name, got)
		}
	}
	twice := fault.Wrap("same", 1, fault.New("same", 2, api.ErrArg))
	if got := fault.Path(twice); !slices.Equal(got, []string{"same", "same"}) {
		t.Errorf("%q", got)
	}
}

// TestPathIsNew: what is answered is new memory (R3).
func TestPathIsNew(t *testing.T) {
	err := fault.Wrap("open", 3, fault.New("read", 7, api.ErrSum))
	first := fault.Path(err)
	for i := range first {
		first[i] = "spoilt"
	}
	if got := fault.Path(err); !slices.Equal(got, []string{"open", "read"}) {
		t.Errorf("%q", got)
	}
}

// TestUnder is the second half of promise 1.6.
func TestUnder(t *testing.T) {
	for _, s := range samples() {
		for _, op := range []string{"", "start", "open", "read", "odd", "odder", "keep", "bare", "zero", "far", "told", "both", "rea", "reads", "Read"} {
			if got, want := fault.Under(s.err, op), slices.Contains(s.path, op); got != want {
				t.Errorf("%s: Under(%q) is %v", s.name, op, got)
			}
		}
	}
}

// TestAgain is promise 1.7.
func TestAgain(t *testing.T) {
	for _, s := range samples() {
		want := s.again
		if !s.fault {
			want = s.err
		}
		if got := fault.Again(s.err); got != want {
			t.Errorf("%s: %#v", s.name, got)
		}
	}
	for _, s := range samples() {
		if got := fault.Again(fault.Wrap("more", 1, s.err)); got != s.err {
			t.Errorf("%s wrapped, and again: %#v", s.name, got)
		}
	}
}

// TestBoth is promise 1.8.
func TestBoth(t *testing.T) {
	for _, a := range samples() {
		for _, b := range samples() {
			want := error(api.Fault{Op: "both", At: int(b.of), Err: a.err})
			if b.err == nil {
				want = a.err
			}
			if a.err == nil {
				want = b.err
			}
			if got := fault.Both(a.err, b.err); got != want {
				t.Errorf("%s, %s: %#v", a.name, b.name, got)
			}
		}
	}
	if fault.Both(nil, nil) != nil {
		t.Error("both are nil, and there is an error")
	}
}

// TestWrapKeeps is promise 1.9.
func TestWrapKeeps(t *testing.T) {
	for _, s := range samples() {
		err := s.err
		for depth := range 4 {
			if got := fault.Of(err); got != s.of {
				t.Errorf("%s at depth %d: %v", s.name, depth, got)
			}
			for _, c := range codes {
				if fault.Is(err, c) != fault.Is(s.err, c) {
					t.Errorf("%s at depth %d: Is(%d) is another one", s.name, depth, int(c))
				}
			}
			if depth%2 == 0 {
				err = fault.Wrap("more", depth, err)
			} else {
				err = fault.Both(err, api.ErrTimeout)
			}
			if s.err == nil {
				err = nil // Both of nil and ErrTimeout is ErrTimeout: nothing was wrapped
			}
		}
	}
}

// TestExample is the chapter's example.
func TestExample(t *testing.T) {
	err := fault.Wrap("open", 3, fault.New("read", 7, api.ErrSum))
	at, ok := fault.Where(err)
	if fault.Of(err) != api.ErrSum || at != 3 || !ok || !slices.Equal(fault.Path(err), []string{"open", "read"}) {
		t.Errorf("%v: %v, %d, %v, %q", err, fault.Of(err), at, ok, fault.Path(err))
	}
}

// TestDeep: the depth up to which the promises hold (R7).
func TestDeep(t *testing.T) {
	const depth = 1 << 16
	err := error(api.ErrDiverge)
	for i := range depth {
		err = fault.Wrap("deep", i, err)
	}
	if fault.Of(err) != api.ErrDiverge || !fault.Is(err, api.ErrDiverge) || fault.Is(err, api.ErrDown) {
		t.Error("the code is not told")
	}
	if at, ok := fault.Where(err); at != depth-1 || !ok {
		t.Errorf("%d, %v", at, ok)
	}
	if n := len(fault.Path(err)); n != depth {
		t.Errorf("%d faults", n)
	}
	if fault.Under(err, "flat") || !fault.Under(err, "deep") {
		t.Error("what was being done is not told")
	}
}

// TestNoPanic: errors made elsewhere, whatever they do when they are unwrapped or compared, make no call panic (P0).
func TestNoPanic(t *testing.T) {
	var none *api.Fault
	for _, err := range []error{none, bursting{}, rows{1}, &rows{1}, api.Fault{Op: "odd", At: 1, Err: rows{1}}} {
		whole := fault.Wrap("open", 3, err)
		if fault.Of(whole) != api.ErrOther || fault.Is(whole, api.ErrSum) || fault.Is(err, api.ErrSum) {
			t.Errorf("%T: a code is told", err)
		}
		if at, ok := fault.Where(whole); at != 3 || !ok {
			t.Errorf("%T: %d, %v", err, at, ok)
		}
		if l := fault.Path(whole); len(l) == 0 || l[0] != "open" {
			t.Errorf("%T: %q", err, l)
		}
		if fault.Under(err, "open") || !fault.Under(whole, "open") {
			t.Errorf("%T: what was being done is not told", err)
		}
		if again := fault.Again(whole); again == nil || fault.Of(again) != api.ErrOther {
			t.Errorf("%T: what was wrapped is not told", err)
		}
		if at, ok := fault.Where(fault.Both(api.ErrSum, err)); at != int(api.ErrOther) || !ok {
			t.Errorf("%T: %d, %v", err, at, ok)
		}
	}
	if at, ok := fault.Where(none); at != 0 || ok {
		t.Errorf("%d, %v", at, ok)
	}
}
