package journal

import (
	"bytes"
	"slices"
	"strings"
	"testing"

	"despatch/api"
	"despatch/disk"
)

// dice gives numbers that seem to be of no order, each from 0 to one less than asked.
func dice(first int) func(n int) int {
	x := uint32(first)*2654435761 + 12345
	return func(n int) int {
		x = x*1664525 + 1013904223
		return int(x>>8) % n
	}
}

// text gives a text of so many bytes, another one for each first one.
func text(first, size int) string {
	b := make([]byte, size)
	for i := range b {
		b[i] = byte(first + i*7)
	}
	return string(b)
}

// tells gives the number that bytes tell.
func tells(b ...byte) int {
	n := 0
	for _, c := range b {
		n = n*256 + int(c)
	}
	return n
}

// four gives the four bytes of a number.
func four(n int) []byte { return []byte{byte(n >> 24), byte(n >> 16), byte(n >> 8), byte(n)} }

// slowBlock gives a block as the chapter tells it; place is that in the mark.
func slowBlock(generation, number, place int, part string) api.Block {
	mark := slices.Concat(four(generation), four(number), four(place)[2:])
	rest := make([]byte, 42-len(part))
	return api.Block(slices.Concat(mark, four(len(part))[2:], []byte(part), rest, mark))
}

// slowBlocks gives the blocks of a record as the chapter tells them.
func slowBlocks(generation, number int, record string) []api.Block {
	var blocks []api.Block
	for len(record) > 42 {
		blocks = append(blocks, slowBlock(generation, number, len(blocks), record[:42]))
		record = record[42:]
	}
	return append(blocks, slowBlock(generation, number, len(blocks)+32768, record))
}

// slowRecord gives the record that blocks begin with, and how many they are; 0, if none does.
func slowRecord(blocks []api.Block, generation, number int) (string, int) {
	record := ""
	for i, b := range blocks {
		place, size := tells(b[8:10]...), tells(b[10:12]...)
		whole := bytes.Equal(b[:10], b[54:]) && size <= 42 && (size == 42 || place >= 32768)
		if !whole || tells(b[:4]...) != generation || tells(b[4:8]...) != number || place%32768 != i {
			return "", 0
		}
		record += string(b[12 : 12+size])
		if place >= 32768 {
			return record, i + 1
		}
	}
	return "", 0
}

// slowHalf gives a half's generation and its records; 0, if it has none.
func slowHalf(blocks []api.Block) (int, []string) {
	generation := tells(blocks[0][:4]...)
	var records []string
	for len(blocks) > 0 && generation > 0 {
		record, n := slowRecord(blocks, generation, len(records))
		if n == 0 {
			break
		}
		records, blocks = append(records, record), blocks[n:]
	}
	if len(records) == 0 {
		return 0, nil
	}
	return generation, records
}

// slowJournal is a journal as the chapter tells it: the disk's blocks, which half it is, its records.
type slowJournal struct {
	blocks     []api.Block
	second     bool
	generation int
	records    []string
}

// slowFound gives the journal of a disk; that it is the second half, if there is none, lets the first one be begun.
func slowFound(blocks []api.Block) slowJournal {
	middle := len(blocks) / 2
	generation, records := slowHalf(blocks[:middle])
	other, others := slowHalf(blocks[middle : 2*middle])
	switch {
	case generation == 0 && other == 0:
		return slowJournal{blocks, true, 0, []string{""}}
	case generation >= other:
		return slowJournal{blocks, false, generation, records}
	}
	return slowJournal{blocks, true, other, others}
}

// first gives the half's first block, and how many blocks it has.
func (s slowJournal) first() (int, int) {
	if s.second {
		return len(s.blocks) / 2, len(s.blocks) / 2
	}
	return 0, len(s.blocks) / 2
}

// room tells how many blocks behind the records there are.
func (s slowJournal) room() int {
	_, room := s.first()
	for i, record := range s.records {
		room -= len(slowBlocks(0, i, record))
	}
	return room
}

// begun gives the journal with records in its other half; false, if they have no room, or no generation is left.
func (s slowJournal) begun(records ...string) (slowJournal, bool) {
	greatest := 0
	for _, b := range s.blocks {
		greatest = max(greatest, tells(b[:4]...), tells(b[54:58]...))
	}
	next := slowJournal{slices.Clone(s.blocks), !s.second, greatest + 1, records}
	if greatest == 1<<32-1 || next.room() < 0 {
		return s, false
	}
	at, _ := next.first()
	for number, record := range records {
		at += copy(next.blocks[at:], slowBlocks(next.generation, number, record))
	}
	return next, true
}

// appended gives the journal with one more record; false, if it has no room.
func (s slowJournal) appended(record string) (slowJournal, bool) {
	first, size := s.first()
	at := first + size - s.room()
	next := slowJournal{slices.Clone(s.blocks), s.second, s.generation, append(slices.Clone(s.records), record)}
	if next.room() < 0 {
		return s, false
	}
	copy(next.blocks[at:], slowBlocks(s.generation, len(s.records), record))
	return next, true
}

// diskOf gives a disk of blocks, which all last.
func diskOf(blocks []api.Block) *disk.Disk {
	d, _ := disk.New(len(blocks))
	for n, b := range blocks {
		d.Write(n, b)
	}
	d.Sync()
	return d
}

// blocksOf gives a disk's blocks.
func blocksOf(d *disk.Disk) []api.Block {
	blocks := make([]api.Block, d.Size())
	for n := range blocks {
		blocks[n], _ = d.Read(n)
	}
	return blocks
}

// textsOf gives records as texts.
func textsOf(records [][]byte) []string {
	var texts []string
	for _, record := range records {
		texts = append(texts, string(record))
	}
	return texts
}

// check checks that a journal and its disk are as a slow one's, and that all of it lasts.
func check(t *testing.T, what string, j *Journal, d *disk.Disk, s slowJournal) {
	t.Helper()
	if got := textsOf(j.Records()); !slices.Equal(got, s.records) {
		t.Fatalf("%s: records %q, not %q", what, got, s.records)
	}
	if d.Pending() != 0 {
		t.Fatalf("%s: %d writes don't last", what, d.Pending())
	}
	for n, b := range blocksOf(d) {
		if b != s.blocks[n] {
			t.Fatalf("%s: block %d is %v, not %v", what, n, b, s.blocks[n])
		}
	}
	room := s.room()
	for n := -2; n <= room*42+43; n++ {
		want := n >= 0 && (room > 0 && n == 0 || n > 0 && (n+41)/42 <= room)
		if j.Fits(n) != want {
			t.Fatalf("%s: %d bytes fit in %d blocks: %v", what, n, room, !want)
		}
	}
}

// opened gives the journal of a disk, which there must be, and its slow one.
func opened(t *testing.T, d *disk.Disk) (*Journal, slowJournal) {
	t.Helper()
	old := slowFound(blocksOf(d))
	s, there := old.begun(old.records...)
	j, code := Open(d)
	if code != api.OK || j == nil || !there {
		t.Fatalf("open: %v, %v, %v", j, code, there)
	}
	check(t, "open", j, d, s)
	return j, s
}

// someRecord gives a record of no order, often of a size at the bound of blocks.
func someRecord(roll func(n int) int, most int) string {
	size := []int{0, 1, 2, 41, 42, 43, 83, 84, 85, 126, 127, roll(300)}[roll(12)]
	return text(roll(256), min(size, most*42))
}

// someHalf fills blocks with records of a generation, as long as there is room and the dice say so.
func someHalf(roll func(n int) int, blocks []api.Block, generation int) {
	for number := 0; len(blocks) > 0 && roll(6) > 0; number++ {
		blocks = blocks[copy(blocks, slowBlocks(generation, number, someRecord(roll, len(blocks)))):]
	}
}

// someBlocks gives the blocks of a disk of no order: halves with records, older ones below them, some of them hurt in one of so many ways.
func someBlocks(roll func(n int) int, ways int) []api.Block {
	blocks := make([]api.Block, 4+roll(24))
	middle := len(blocks) / 2
	for range roll(4) {
		someHalf(roll, blocks[:middle], roll(5))
		someHalf(roll, blocks[middle:2*middle], roll(5))
	}
	for range roll(4) {
		hurt(roll, blocks, ways)
	}
	return blocks
}

// How many ways there are to hurt a block, and how many of them leave marks that are alike so. (Of a block with other marks at its ends a torn write may by chance make a whole one, of a generation that there hasn't been.)
const (
	allWays  = 9
	evenWays = 6
)

// hurt changes something of one of some blocks.
func hurt(roll func(n int) int, blocks []api.Block, ways int) {
	b := &blocks[roll(len(blocks))]
	switch roll(ways) {
	case 0: // a byte of both marks
		at, turn := roll(10), byte(1<<roll(8))
		b[at] ^= turn
		b[54+at] ^= turn
	case 1: // whether it is the last one
		b[8] ^= 128
		b[62] ^= 128
	case 2: // how many bytes there are
		b[10], b[11] = byte(roll(20)/19), []byte{0, 1, 41, 42, 43, 255}[roll(6)]
	case 3: // what is behind the bytes, or they
		b[53]++
	case 4:
		*b = blocks[roll(len(blocks))]
	case 5:
		*b = api.Block{}
	case 6: // a byte of any kind
		b[roll(64)] ^= byte(1 << roll(8))
	case 7: // torn
		copy(b[:roll(64)], blocks[roll(len(blocks))][:])
	case 8: // a greater number, at one end
		b[roll(2)*54+2+roll(2)] = byte(roll(256))
	}
}

// short gives a record's beginning.
func short(s string) string { return s[:min(len(s), 20)] + strings.Repeat("..", min(1, len(s)/21)) }
