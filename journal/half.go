package journal

import (
	"math"

	"despatch/api"
)

// blocks are what a journal asks of its disk; the tests have some whose power goes while they are written.
type blocks interface {
	Size() int
	Read(n int) (api.Block, api.Errno)
	Write(n int, b api.Block) api.Errno
	Sync()
}

// half is one of a disk's halves: its place there, and the records that stand in it, one behind the other.
type half struct {
	disk        blocks
	first, size int    // the block that it begins with, and how many it has
	generation  uint32 // 0: it has none
	count, used int    // how many records there are, and how many blocks they take
}

// current gives the half that is a disk's journal, and its records. If there is none, it is the second one, so that the other one is begun, with a record without bytes.
func current(d blocks) (half, [][]byte) {
	first, records := halfAt(d, 0)
	second, others := halfAt(d, d.Size()/2)
	if first.generation > 0 && first.generation >= second.generation {
		return first, records
	}
	if second.generation > 0 {
		return second, others
	}
	return second, [][]byte{nil}
}

// halfAt gives the half of a disk that begins with a block, and the records that stand there.
func halfAt(d blocks, first int) (half, [][]byte) {
	b, _ := d.Read(first)
	h := half{disk: d, first: first, size: d.Size() / 2, generation: markIn(b[:]).generation}
	records := h.told()
	if len(records) == 0 {
		h.generation = 0
	}
	return h, records
}

// other gives the disk's other half, with nothing in it.
func (h half) other() half {
	return half{disk: h.disk, first: h.size - h.first, size: h.size}
}

// told gives the records that stand in the half with its generation.
func (h half) told() [][]byte {
	var records [][]byte
	at := 0
	for {
		record, size := h.read(at, len(records))
		if size == 0 {
			return records
		}
		records = append(records, record)
		at += size
	}
}

// read gives the record of a number that begins with a block of the half, and how many blocks it takes: 0, if it isn't there as a whole.
func (h half) read(at, number int) ([]byte, int) {
	var record []byte
	for place := range h.size - at {
		b, _ := h.disk.Read(h.first + at + place)
		m, part, whole := partIn(b)
		if !whole || m != (mark{h.generation, uint32(number), uint16(place), m.last}) {
			return nil, 0
		}
		record = append(record, part...)
		if m.last {
			return record, place + 1
		}
	}
	return nil, 0
}

// begin lets the half have a new generation, with records of which there is a base. That is written when all others last: with it the half has the generation, and what isn't there then is lost.
func (h *half) begin(generation uint32, records [][]byte) {
	h.generation, h.count, h.used = generation, 1, blocksFor(len(records[0]))
	for _, record := range records[1:] {
		h.put(record)
	}
	if len(records) > 1 {
		h.disk.Sync()
	}
	h.write(0, 0, records[0])
	h.disk.Sync()
}

// put writes a record behind the others; it lasts when the disk is synced.
func (h *half) put(record []byte) {
	h.write(h.used, h.count, record)
	h.used += blocksFor(len(record))
	h.count++
}

// write writes the record of a number, from a block of the half on.
func (h half) write(at, number int, record []byte) {
	size := blocksFor(len(record))
	for place := range size {
		part := record[place*Payload : min((place+1)*Payload, len(record))]
		m := mark{h.generation, uint32(number), uint16(place), place == size-1}
		h.disk.Write(h.first+at+place, blockOf(m, part))
	}
}

// blocksFor gives how many blocks a record of so many bytes takes.
func blocksFor(n int) int { return max(1, n/Payload+min(1, n%Payload)) }

// newGeneration gives a generation that no block of the disk has had, be it whole or torn.
func newGeneration(d blocks) (uint32, api.Errno) {
	var greatest uint32
	for n := range d.Size() {
		b, _ := d.Read(n)
		greatest = max(greatest, markIn(b[:]).generation, markIn(b[backAt:]).generation)
	}
	if greatest == math.MaxUint32 {
		return 0, api.ErrFull
	}
	return greatest + 1, api.OK
}
