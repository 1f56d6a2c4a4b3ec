package slot

import (
	"bytes"

	"castellan/block"
)

// A block has its turn ahead, a byte that tells how long the value is, the value from valueAt on, and its turn once more from behindAt on.
const (
	lengthAt = 8
	valueAt  = lengthAt + 1
	behindAt = valueAt + Most
)

// topTurn is the highest number that is a turn.
const topTurn = 1 << 60

// said is what a block says: a turn, and a value, which stands in the block. There is no block, if none says anything.
type said struct {
	turn  int
	block []byte
}

// pair is what both blocks say.
type pair [2]said

// saidOf is what a block says that has these bytes. One that says nothing is as one of turn 0 without a value: that is what there is, if neither says anything.
func saidOf(b []byte) said {
	turn, long := turnOf(b), int(b[lengthAt])
	if turn != turnOf(b[behindAt:]) || long > Most {
		return said{}
	}
	return said{turn: turn, block: b}
}

// value is the value that is said, in new memory.
func (x said) value() []byte {
	if x.block == nil {
		return nil
	}
	return bytes.Clone(x.block[valueAt : valueAt+int(x.block[lengthAt])])
}

// turnOf is the turn that bytes begin with, the highest first; 0, if they are above all turns.
func turnOf(b []byte) int {
	var n uint64
	for _, x := range b[:lengthAt] {
		n = n<<8 | uint64(x)
	}
	if n > topTurn {
		return 0
	}
	return int(n)
}

// place is in which of both blocks it stands.
func (x said) place() int { return x.turn % len(pair{}) }

// newest is the one of the greater turn, of those that stand where they should.
func (p pair) newest() said {
	var last said
	for i, x := range p {
		if x.place() == i && x.turn >= last.turn {
			last = x
		}
	}
	return last
}

// say is a value of a turn, with the block that says it.
func say(turn int, value []byte) said {
	b := make([]byte, block.Size)
	putTurn(b, turn)
	b[lengthAt] = byte(len(value))
	copy(b[valueAt:behindAt], value)
	putTurn(b[behindAt:], turn)
	return said{turn: turn, block: b}
}

// putTurn writes a turn where bytes begin, the highest first.
func putTurn(b []byte, turn int) {
	for i := range lengthAt {
		b[i] = byte(turn >> (8 * (lengthAt - 1 - i)))
	}
}
