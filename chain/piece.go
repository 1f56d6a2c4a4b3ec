package chain

import "castellan/block"

// A block has its stamp ahead, two bytes of what is left, bytes of the record from ownAt on, and its stamp once more from behindAt on.
const (
	leftAt   = 8
	ownAt    = leftAt + 2
	behindAt = ownAt + Part
)

// beginBit is set beside what is left, where a record begins.
const beginBit = 1 << 15

// topStamp is the highest number that is a stamp.
const topStamp = 1 << 60

// edge is a stamp as it stands in a block, ahead and behind: the highest byte first.
type edge [leftAt]byte

// edgeOf is how a stamp stands in a block.
func edgeOf(stamp int) edge {
	var e edge
	for i := range e {
		e[len(e)-1-i] = byte(stamp >> (8 * i))
	}
	return e
}

// stamp is the stamp that an edge is; 0: none.
func (e edge) stamp() int {
	var n uint64
	for _, x := range e {
		n = n<<8 | uint64(x)
	}
	if n > topStamp {
		return 0
	}
	return int(n)
}

// ahead is the edge that a block begins with.
func ahead(b []byte) edge {
	var e edge
	copy(e[:], b)
	return e
}

// behind is the edge that a block ends with.
func behind(b []byte) edge {
	var e edge
	copy(e[:], b[behindAt:])
	return e
}

// piece is what a block says: its stamp (0: none), whether a record begins there, how many bytes of the record stand from there on, and those of them that stand in it.
type piece struct {
	stamp  int
	begins bool
	left   int
	own    []byte
}

// pieceOf is what a block says that has these bytes.
func pieceOf(b []byte) piece {
	left := int(b[leftAt])<<8 | int(b[leftAt+1])
	p := piece{begins: left&beginBit != 0, left: left &^ beginBit}
	if e := ahead(b); e == behind(b) {
		p.stamp = e.stamp()
	}
	end := ownAt + min(p.left, Part)
	p.own = b[ownAt:end:end]
	return p
}

// blockOf is a block of a stamp, at which a record begins, or goes on, and the rest of the record from there on, of which it has as much as it can.
func blockOf(stamp int, begins bool, rest []byte) []byte {
	e, left := edgeOf(stamp), len(rest)
	if begins {
		left |= beginBit
	}
	b := make([]byte, block.Size)
	copy(b, e[:])
	b[leftAt], b[leftAt+1] = byte(left>>8), byte(left)
	copy(b[ownAt:behindAt], rest)
	copy(b[behindAt:], e[:])
	return b
}
