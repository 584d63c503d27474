package journal

import (
	"despatch/api"
	"despatch/number"
)

// Where in a block things stand: the mark at its beginning, how many bytes of the record there are, these, the mark again.
const (
	markBytes = 10
	countAt   = markBytes
	partAt    = countAt + 2
	backAt    = partAt + Payload
)

// lastPlace is what a mark tells in addition to the place of a record's last block.
const lastPlace = 32768

// mark is what stands at both ends of a block: of which generation and which record it is, its place there, whether it is the last one.
type mark struct {
	generation, number uint32
	place              uint16
	last               bool
}

// markIn gives the mark at the beginning of some bytes.
func markIn(b []byte) mark {
	place := uint16(number.Read(b[8:markBytes]))
	return mark{uint32(number.Read(b[:4])), uint32(number.Read(b[4:8])), place % lastPlace, place >= lastPlace}
}

// bytes gives the bytes of a mark.
func (m mark) bytes() []byte {
	place := uint64(m.place)
	if m.last {
		place += lastPlace
	}
	b := number.Append(nil, uint64(m.generation), 4)
	b = number.Append(b, uint64(m.number), 4)
	return number.Append(b, place, 2)
}

// blockOf gives the block with a mark, and with a part of a record.
func blockOf(m mark, part []byte) api.Block {
	b := number.Append(m.bytes(), uint64(len(part)), 2)
	b = append(b, part...)
	b = append(b, make([]byte, Payload-len(part))...)
	return api.Block(append(b, m.bytes()...))
}

// partIn gives a block's mark, and its part of a record, if it is whole.
func partIn(b api.Block) (mark, []byte, bool) {
	m, count := markIn(b[:]), int(number.Read(b[countAt:partAt]))
	if m != markIn(b[backAt:]) || count > Payload || count < Payload && !m.last {
		return mark{}, nil, false
	}
	return m, b[partAt : partAt+count], true
}
