package mlog

import (
	"castellan/api"
	"castellan/fault"
	"castellan/wire"
)

// The head stands in the block headAt, and the one behind it; records in firstBlock, or behind it.
const (
	headAt     = 2
	firstBlock = 16
)

// head is what a log's head says: the block at which its records begin, its base, and the term of what is ahead of that.
type head struct {
	start int
	base  int
	term  int
}

// headOf is what a head says that has this value.
func headOf(value []byte) (head, error) {
	if len(value) == 0 {
		return head{start: firstBlock}, nil
	}
	var h head
	r := wire.Read(value)
	num := r.Int
	h.start = num(api.MaxNum)
	h.base = num(api.MaxNum)
	h.term = num(api.MaxNum)
	if err := r.End(); err != nil {
		return head{}, err
	}
	if h.start < firstBlock {
		return head{}, fault.New("start", h.start, api.ErrRange)
	}
	return h, nil
}

// value is the value by which a head says this.
func (h head) value() []byte {
	// Behind the last block there is none that could be told: the last one is free then, so no record stands there either.
	b := wire.Int(nil, min(h.start, api.MaxNum))
	b = wire.Int(b, h.base)
	return wire.Int(b, h.term)
}
