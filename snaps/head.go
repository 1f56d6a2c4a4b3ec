package snaps

import (
	"castellan/api"
	"castellan/fault"
	"castellan/wire"
)

// The head stands in the block headAt, and the one behind it; records in firstBlock, or behind it.
const (
	headAt     = 4
	firstBlock = 1 << 24
)

// head is what a snapshot's head says: the block at which its records begin, and what it is of.
type head struct {
	start int
	meta  api.Meta
}

// headOf is what a head says that has this value.
func headOf(value []byte) (head, error) {
	if len(value) == 0 {
		return head{start: firstBlock}, nil
	}
	var h head
	r := wire.Read(value)
	h.start = r.Int(api.MaxNum)
	h.meta.End = r.Int(api.MaxNum)
	h.meta.Term = r.Int(api.MaxNum)
	h.meta.Size = r.Int(Most)
	if err := r.End(); err != nil {
		return head{}, err
	}
	return h, nil
}

// check looks whether records may begin where a head says.
func (h head) check() error {
	if h.start < firstBlock {
		return fault.New("start", h.start, api.ErrRange)
	}
	return nil
}

// value is the value by which a head says this.
func (h head) value() []byte {
	// Only a snapshot of no bytes begins behind the last block of a store; it has no record, so it is as well said to begin at the last one, which is free then.
	b := wire.Int(nil, min(h.start, api.MaxNum))
	b = wire.Int(b, h.meta.End)
	b = wire.Int(b, h.meta.Term)
	return wire.Int(b, h.meta.Size)
}
