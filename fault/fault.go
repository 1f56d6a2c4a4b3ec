// Package fault is layer 1: errors that wrap others, and what they are. See shared/doc/01-fault.md.
package fault

import (
	"errors"
	"slices"

	"castellan/api"
)

// New is an error: what was being done, where, and what is wrong.
func New(op string, at int, c api.Code) error {
	return api.Fault{Op: op, At: at, Err: c}
}

// Wrap is an error about an error; about none it is none.
func Wrap(op string, at int, err error) error {
	if err == nil {
		return nil
	}
	return api.Fault{Op: op, At: at, Err: err}
}

// Of is what is wrong; 0: nothing; ErrOther, if no code tells.
func Of(err error) api.Code {
	if err == nil {
		return 0
	}
	c, ok := outermost[api.Code](err)
	if !ok {
		return api.ErrOther
	}
	return c
}

// Is tells whether something is wrong just so.
func Is(err error, c api.Code) (is bool) {
	defer func() {
		// As in outermost: an error made elsewhere may panic when it is unwrapped.
		if recover() != nil {
			is = false
		}
	}()
	return errors.Is(err, c)
}

// Where is where the outermost fault is; false: there is none.
func Where(err error) (int, bool) {
	f, ok := outermost[api.Fault](err)
	if !ok {
		return 0, false
	}
	return f.At, true
}

// Path is what was being done, the outermost first.
func Path(err error) []string {
	var ops []string
	for {
		f, ok := outermost[api.Fault](err)
		if !ok {
			return ops
		}
		ops = append(ops, f.Op)
		err = f.Err
	}
}

// Under tells whether something was being done, at any depth.
func Under(err error, op string) bool {
	return slices.Contains(Path(err), op)
}

// Again is an error as it would be, had the outermost thing not been done.
func Again(err error) error {
	f, ok := outermost[api.Fault](err)
	if !ok {
		return err
	}
	return f.Err
}

// Both is two errors as one: the first, and, if there is none, the second.
func Both(a, b error) error {
	if a == nil {
		return b
	}
	if b == nil {
		return a
	}
	return Wrap("both", int(Of(b)), a)
}

// outermost is the first error of one type that err is, or wraps.
func outermost[T error](err error) (found T, ok bool) {
	defer func() {
		// An error made elsewhere may panic when it is unwrapped, as a nil pointer does; no call here may, so nothing is found in such a one.
		if recover() != nil {
			var none T
			found, ok = none, false
		}
	}()
	ok = errors.As(err, &found)
	return found, ok
}
