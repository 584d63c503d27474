package journal

import "despatch/api"

// Where in a block things stand: the mark at its beginning, how many bytes of the record there are, these, the mark again.
const (
	markBytes = 10
	countAt   = markBytes
	partAt    = countAt + 2
	backAt    = partAt + Payload
)

// lastPlace is what a mark tells in addition to the place of a record's last block.
const lastPlace = 32768

// mark is what stands at both ends of a block: of which generation and which record it is, its place there, whether it is the last one.
type mark struct {
	generation, number uint32
	place              uint16
	last               bool
}

// markIn gives the mark at the beginning of some bytes.
func markIn(b []byte) mark {
	place := uint16(numberIn(b[8:markBytes]))
	return mark{numberIn(b[:4]), numberIn(b[4:8]), place % lastPlace, place >= lastPlace}
}

// bytes gives the bytes of a mark.
func (m mark) bytes() []byte {
	place := uint32(m.place)
	if m.last {
		place += lastPlace
	}
	b := withNumber(nil, m.generation, 4)
	b = withNumber(b, m.number, 4)
	return withNumber(b, place, 2)
}

// blockOf gives the block with a mark, and with a part of a record.
func blockOf(m mark, part []byte) api.Block {
	b := withNumber(m.bytes(), uint32(len(part)), 2)
	b = append(b, part...)
	b = append(b, make([]byte, Payload-len(part))...)
	return api.Block(append(b, m.bytes()...))
}

// partIn gives a block's mark, and its part of a record, if it is whole.
func partIn(b api.Block) (mark, []byte, bool) {
	m, count := markIn(b[:]), int(numberIn(b[countAt:partAt]))
	if m != markIn(b[backAt:]) || count > Payload || count < Payload && !m.last {
		return mark{}, nil, false
	}
	return m, b[partAt : partAt+count], true
}

// numberIn gives the number that bytes tell, that of the greatest weight first.
func numberIn(b []byte) uint32 {
	var n uint32
	for _, c := range b {
		n = n<<8 | uint32(c)
	}
	return n
}

// withNumber gives bytes with a number of so many bytes behind them.
func withNumber(b []byte, n uint32, size int) []byte {
	for i := range size {
		b = append(b, byte(n>>(8*(size-1-i))))
	}
	return b
}
