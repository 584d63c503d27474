package journal

import (
	"bytes"
	"math"
	"slices"
	"strings"
	"testing"

	"despatch/api"
	"despatch/disk"
)

// fresh gives a disk of noughts.
func fresh(t *testing.T, blocks int) *disk.Disk {
	t.Helper()
	d, code := disk.New(blocks)
	if code != api.OK {
		t.Fatal(code)
	}
	return d
}

// whole gives a block of 64 bytes: those told, in turn with how many noughts are behind them.
func whole(t *testing.T, pieces ...any) api.Block {
	t.Helper()
	var b []byte
	for _, piece := range pieces {
		switch x := piece.(type) {
		case string:
			b = append(b, x...)
		case int:
			b = append(b, make([]byte, x)...)
		}
	}
	if len(b) != 64 {
		t.Fatalf("%d bytes", len(b))
	}
	return api.Block(b)
}

func TestOnTheDisk(t *testing.T) { // P15.1, P15.3: byte by byte
	d := fresh(t, 10)
	j, code := Open(d)
	if code != api.OK || !slices.Equal(textsOf(j.Records()), []string{""}) {
		t.Fatal(code)
	}
	j.Append([]byte("one"))
	long := text(1, 42+42+1)
	j.Append([]byte(long))
	want := []api.Block{
		whole(t, "\x00\x00\x00\x01\x00\x00\x00\x00\x80\x00\x00\x00", 42, "\x00\x00\x00\x01\x00\x00\x00\x00\x80\x00"),
		whole(t, "\x00\x00\x00\x01\x00\x00\x00\x01\x80\x00\x00\x03one", 39, "\x00\x00\x00\x01\x00\x00\x00\x01\x80\x00"),
		whole(t, "\x00\x00\x00\x01\x00\x00\x00\x02\x00\x00\x00\x2a"+long[:42]+"\x00\x00\x00\x01\x00\x00\x00\x02\x00\x00"),
		whole(t, "\x00\x00\x00\x01\x00\x00\x00\x02\x00\x01\x00\x2a"+long[42:84]+"\x00\x00\x00\x01\x00\x00\x00\x02\x00\x01"),
		whole(t, "\x00\x00\x00\x01\x00\x00\x00\x02\x80\x02\x00\x01"+long[84:], 41, "\x00\x00\x00\x01\x00\x00\x00\x02\x80\x02"),
		{}, {}, {}, {}, {},
	}
	if got := blocksOf(d); !slices.Equal(got, want) || d.Pending() != 0 {
		t.Fatalf("%v", got)
	}

	full := text(2, 84)
	if code := j.Restart([]byte(full)); code != api.OK {
		t.Fatal(code)
	}
	want[5] = whole(t, "\x00\x00\x00\x02\x00\x00\x00\x00\x00\x00\x00\x2a"+full[:42]+"\x00\x00\x00\x02\x00\x00\x00\x00\x00\x00")
	want[6] = whole(t, "\x00\x00\x00\x02\x00\x00\x00\x00\x80\x01\x00\x2a"+full[42:]+"\x00\x00\x00\x02\x00\x00\x00\x00\x80\x01")
	if got := blocksOf(d); !slices.Equal(got, want) || d.Pending() != 0 {
		t.Fatalf("%v", got)
	}
	if got := textsOf(j.Records()); !slices.Equal(got, []string{full}) {
		t.Fatalf("%q", got)
	}
}

func TestOpenSmall(t *testing.T) { // P15.1: also ahead of ErrFull
	for blocks := 1; blocks <= 4; blocks++ {
		for _, b := range []api.Block{{}, {255, 255, 255, 255}} {
			d := fresh(t, blocks)
			d.Write(blocks-1, b)
			ahead := blocksOf(d)
			want := api.ErrRange
			if blocks == 4 {
				want = []api.Errno{api.OK, api.ErrFull}[b[0]/255]
			}
			j, code := Open(d)
			if code != want || (j == nil) != (code != api.OK) {
				t.Errorf("%d: %v, %v", blocks, j, code)
			}
			if code != api.OK && (d.Pending() != 1 || !slices.Equal(blocksOf(d), ahead)) {
				t.Errorf("%d: %v", blocks, blocksOf(d))
			}
		}
	}
}

func TestOpenNew(t *testing.T) { // P15.1: of many sizes; a block that is in no half is left
	for _, blocks := range []int{4, 5, 6, 7, 8, 9, 100, 101, 65535, 65536} {
		d := fresh(t, blocks)
		j, s := opened(t, d)
		if s.second || s.generation != 1 || !slices.Equal(textsOf(j.Records()), []string{""}) {
			t.Errorf("%d: %v, %d", blocks, s.second, s.generation)
		}
		most := make([]byte, (blocks/2-1)*42)
		if !j.Fits(len(most)) || j.Fits(len(most)+1) {
			t.Errorf("%d: room", blocks)
		}
		if code := j.Append(append(most, 1)); code != api.ErrFull {
			t.Errorf("%d: %v", blocks, code)
		}
		if code := j.Append(most); code != api.OK || j.Fits(0) || j.Append(nil) != api.ErrFull {
			t.Errorf("%d: %v", blocks, code)
		}
		if got := j.Records(); len(got) != 2 || len(got[0]) != 0 || !bytes.Equal(got[1], most) {
			t.Errorf("%d: %d records", blocks, len(got))
		}
		j, code := Open(d)
		if code != api.OK || len(j.Records()) != 2 || !bytes.Equal(j.Records()[1], most) || j.Fits(0) {
			t.Errorf("%d: again: %v", blocks, code)
		}
		most = make([]byte, blocks/2*42)
		if code := j.Restart(append(most, 1)); code != api.ErrFull || len(j.Records()) != 2 {
			t.Errorf("%d: %v", blocks, code)
		}
		if code := j.Restart(most); code != api.OK || j.Fits(0) || len(j.Records()) != 1 || !bytes.Equal(j.Records()[0], most) {
			t.Errorf("%d: %v", blocks, code)
		}
		if b, _ := d.Read(blocks - 1); blocks%2 == 1 && b != (api.Block{}) {
			t.Errorf("%d: %v", blocks, b)
		}
	}
}

func TestWhichHalf(t *testing.T) { // P15.1, P15.2: the greater generation, the first half of two alike
	for first := range 4 {
		for second := range 4 {
			for size := 8; size < 10; size++ {
				blocks := make([]api.Block, size)
				copy(blocks, slices.Concat(slowBlocks(first, 0, "first"), slowBlocks(first, 1, "more")))
				copy(blocks[4:], slices.Concat(slowBlocks(second, 0, "second"), slowBlocks(second, 1, "more")))
				want, at := []string{"first", "more"}, 4
				switch {
				case first == 0 && second == 0:
					want, at = []string{""}, 0
				case second > first:
					want, at = []string{"second", "more"}, 0
				}
				d := diskOf(blocks)
				j, _ := opened(t, d)
				if got := textsOf(j.Records()); !slices.Equal(got, want) {
					t.Errorf("%d, %d: %q", first, second, got)
				}
				if b, _ := d.Read(at); tells(b[:4]...) != max(first, second)+1 || string(b[12:12+len(want[0])]) != want[0] {
					t.Errorf("%d, %d: %v", first, second, b)
				}
			}
		}
	}
}

func TestWholeBlocks(t *testing.T) { // P15.1: what a whole block is, and where a record is one
	long := text(5, 100)
	base, one, two := slowBlocks(7, 0, long), slowBlocks(7, 1, long), slowBlocks(7, 2, "two")
	all := slices.Concat(base, one, two, slowBlocks(7, 3, ""))
	turn := func(at int, places ...int) func(list []api.Block) {
		return func(list []api.Block) {
			for _, place := range places {
				list[at][place] ^= 1
			}
		}
	}
	size := func(at, n int) func(list []api.Block) {
		return func(list []api.Block) { list[at][10], list[at][11] = byte(n>>8), byte(n) }
	}
	for i, c := range []struct {
		turn func(list []api.Block)
		want int // how many records there are; 0: none, not even a base
	}{
		{func([]api.Block) {}, 4},
		{turn(0, 0), 0}, {turn(0, 3), 0}, {turn(0, 54), 0}, {turn(0, 57), 0}, {turn(0, 63), 0}, {turn(0, 9), 0},
		{turn(0, 7, 61), 0}, {turn(0, 9, 63), 0}, {turn(0, 2, 56), 0}, {turn(1, 3, 57), 0}, {turn(1, 9), 0}, {turn(2, 9, 63), 0},
		{turn(0, 8, 62), 0}, // place 256
		{size(0, 41), 0}, {size(0, 43), 0}, {size(1, 0), 0}, {size(1, 42+256), 0}, {size(2, 43), 0}, {size(2, 256), 0}, {size(2, 65535), 0},
		{turn(3, 0), 1}, {turn(3, 54), 1}, {turn(3, 3, 57), 1}, {turn(3, 7, 61), 1}, {turn(4, 7, 61), 1}, {turn(4, 9, 63), 1}, {turn(5, 63), 1}, {turn(5, 5, 59), 1},
		{size(4, 41), 1}, {size(5, 43), 1}, {size(3, 0), 1},
		{turn(6, 4, 58), 2}, {turn(6, 7, 61), 2}, {turn(6, 1, 55), 2}, {size(6, 43), 2},
		{turn(7, 7, 61), 3}, {turn(7, 54), 3},
		{func(list []api.Block) { list[3], list[4] = list[4], list[3] }, 1},
		{func(list []api.Block) { list[6], list[7] = list[7], list[6] }, 2},
		{func(list []api.Block) { list[5] = api.Block{} }, 1},
		{func(list []api.Block) { copy(list[6:], slowBlocks(6, 2, "two")) }, 2},
		{func(list []api.Block) { copy(list[6:], slowBlocks(8, 2, "two")) }, 2},
		{func(list []api.Block) { copy(list[7:], slowBlocks(7, 4, "four")) }, 3},
		{func(list []api.Block) { copy(list[7:], slowBlocks(7, 2, "two")) }, 3},
		{func(list []api.Block) { copy(list[7:], slowBlocks(7, 3, text(1, 42))) }, 4},
		{func(list []api.Block) { list[7] = slowBlock(7, 3, 0, text(1, 42)) }, 3}, // no last block within the half
		{func(list []api.Block) { list[7][20] = 1 }, 4},                           // what is behind the bytes doesn't count
	} {
		for _, second := range []bool{false, true} {
			blocks := make([]api.Block, 16)
			at := blocks[:8]
			if second {
				at = blocks[8:]
			}
			copy(at, all)
			c.turn(at)
			// behind the first half the records seem to go on
			if !second {
				copy(blocks[8:], slices.Concat([]api.Block{slowBlock(7, 3, 32769, "x")}, slowBlocks(7, 4, "")))
			}
			j, code := Open(diskOf(blocks))
			if code != api.OK {
				t.Fatal(code)
			}
			want := []string{long, long, "two", ""}[:c.want]
			if c.want == 0 {
				want = []string{""}
			}
			if got := textsOf(j.Records()); len(got) != len(want) || !slices.Equal(got[:min(3, len(got))], want[:min(3, len(want))]) {
				t.Errorf("%d, %v: %d records, not %d", i, second, len(got), len(want))
			}
		}
	}
}

func TestNewGeneration(t *testing.T) { // P15.2: any block tells, at its beginning, or at 54
	for _, at := range []int{0, 54} {
		for n := range 9 {
			for _, c := range []struct{ told, want int }{{1, 4}, {3, 4}, {4, 5}, {255, 256}, {256, 257}, {65535, 65536}, {1 << 24, 1<<24 + 1}, {1<<31 - 1, 1 << 31}, {1 << 31, 1<<31 + 1}, {1<<32 - 2, 1<<32 - 1}} {
				blocks := make([]api.Block, 9)
				copy(blocks, slowBlocks(2, 0, "old"))
				copy(blocks[4:], slowBlocks(3, 0, "base"))
				if n == 4 || n == 0 {
					continue
				}
				copy(blocks[n][at:], four(c.told))
				d := diskOf(blocks)
				j, s := opened(t, d)
				if s.second || s.generation != c.want || !slices.Equal(textsOf(j.Records()), []string{"base"}) {
					t.Fatalf("%d at %d of %d: %v", c.told, at, n, s)
				}
				if b, _ := d.Read(0); tells(b[:4]...) != c.want || tells(b[54:58]...) != c.want {
					t.Errorf("%d at %d of %d: %v", c.told, at, n, b)
				}
			}
		}
	}
	// between the two ends nothing tells
	for at := 1; at < 54; at++ {
		d := fresh(t, 4)
		b := api.Block{}
		b[max(4, at)] = 255
		d.Write(3, b)
		if _, s := opened(t, d); s.generation != 1 {
			t.Errorf("%d: %d", at, s.generation)
		}
	}
}

func TestNoGenerationLeft(t *testing.T) { // P15.1, P15.3: with an error nothing changes
	for _, at := range []int{0, 54} {
		for n := range 9 {
			d := fresh(t, 9)
			j, _ := opened(t, d)
			j.Append([]byte("one"))
			b, _ := d.Read(n)
			copy(b[at:], four(1<<32-1))
			d.Write(n, b)
			ahead := blocksOf(d)
			if j, code := Open(d); j != nil || code != api.ErrFull {
				t.Errorf("%d: %v, %v", n, j, code)
			}
			if d.Pending() != 1 || !slices.Equal(blocksOf(d), ahead) {
				t.Errorf("%d: changed", n)
			}
		}
	}
	d := fresh(t, 8)
	d.Write(7, api.Block(slices.Concat(make([]byte, 54), four(1<<32-2), make([]byte, 6))))
	j, s := opened(t, d)
	if s.generation != 1<<32-1 {
		t.Fatalf("%d", s.generation)
	}
	for range 2 {
		var there bool
		s, there = s.appended("one")
		if code := j.Append([]byte("one")); code != api.OK || !there {
			t.Error(code)
		}
		check(t, "append", j, d, s)
		for _, record := range []string{"", "x", text(0, 1000)} {
			if code := j.Restart([]byte(record)); code != api.ErrFull {
				t.Error(code)
			}
			check(t, "restart", j, d, s)
		}
	}
	if j, code := Open(d); j != nil || code != api.ErrFull {
		t.Errorf("%v, %v", j, code)
	}
	check(t, "open", j, d, s)
}

func TestFits(t *testing.T) { // P15.3
	j, _ := opened(t, fresh(t, 9))
	for _, n := range []int{-1, -42, math.MinInt, math.MaxInt, math.MaxInt - 41, math.MaxInt - 42, 1 << 32, 127} {
		if j.Fits(n) {
			t.Errorf("%d", n)
		}
	}
	for n := range 127 {
		if !j.Fits(n) {
			t.Errorf("%d", n)
		}
	}
	j.Append([]byte(text(1, 84)))
	for n := -1; n < 100; n++ {
		if j.Fits(n) != (n >= 0 && n <= 42) {
			t.Errorf("%d", n)
		}
	}
	j.Append(nil)
	if j.Fits(0) || j.Fits(-1) || j.Append(nil) != api.ErrFull {
		t.Error("no room")
	}
}

func TestManyOpens(t *testing.T) { // P15.1, P15.2: against the slow journal, of disks that are hurt
	for n := range 6000 {
		opened(t, diskOf(someBlocks(dice(n), allWays)))
	}
}

func TestManyCalls(t *testing.T) { // P15.1, P15.2, P15.3, P2: against the slow journal, and twice
	for n := range 400 {
		roll := dice(n)
		blocks := someBlocks(roll, allWays)
		d, again := diskOf(blocks), diskOf(blocks)
		j, s := opened(t, d)
		same, _ := opened(t, again)
		for range 30 {
			record, want, there := someRecord(roll, 9), api.OK, false
			switch roll(10) {
			case 0:
				s, _ = s.begun(s.records...)
				j, _ = Open(d)
				same, _ = Open(again)
			case 1, 2:
				if s, there = s.begun(record); !there {
					want = api.ErrFull
				}
				if code := j.Restart([]byte(record)); code != want || same.Restart([]byte(record)) != want {
					t.Fatalf("restart %q: %v", short(record), code)
				}
			default:
				if s, there = s.appended(record); !there {
					want = api.ErrFull
				}
				if code := j.Append([]byte(record)); code != want || same.Append([]byte(record)) != want {
					t.Fatalf("append %q: %v", short(record), code)
				}
			}
			check(t, "calls", j, d, s)
			check(t, "calls again", same, again, s)
			d.Crash([]byte{byte(roll(256))})
			check(t, "behind a crash", j, d, s)
		}
	}
}

func TestManyRecords(t *testing.T) { // P15.1: as many as a half has blocks, and a record of as many blocks
	d := fresh(t, 65536)
	j, _ := opened(t, d)
	var want []string
	want = append(want, "")
	for i := 1; i < 32768; i++ {
		record := text(i, i%43)
		if code := j.Append([]byte(record)); code != api.OK {
			t.Fatalf("%d: %v", i, code)
		}
		want = append(want, record)
	}
	if code := j.Append(nil); code != api.ErrFull {
		t.Fatal(code)
	}
	for range 3 {
		if got := textsOf(j.Records()); !slices.Equal(got, want) {
			t.Fatalf("%d records", len(got))
		}
		j, _ = Open(d)
	}
	long := text(3, 32768*42)
	if code := j.Restart([]byte(long + "x")); code != api.ErrFull {
		t.Fatal(code)
	}
	if code := j.Restart([]byte(long)); code != api.OK {
		t.Fatal(code)
	}
	for range 3 {
		if got := textsOf(j.Records()); len(got) != 1 || got[0] != long || j.Fits(0) {
			t.Fatalf("%d records", len(got))
		}
		j, _ = Open(d)
	}
}

func TestMemory(t *testing.T) { // rule 4: what is handed in is neither changed nor kept, answers are new
	d := fresh(t, 40)
	j, _ := opened(t, d)
	records := []string{text(9, 50), "one", text(1, 43), "", "two"}
	base := []byte(records[0] + "behind")[:50]
	j.Restart(base)
	clear(base)
	for _, record := range records[1:] {
		b := []byte(record)
		j.Append(b)
		if string(b) != record {
			t.Errorf("%q", b)
		}
		clear(b)
	}
	if string(base[:56][50:]) != "behind" {
		t.Errorf("%q", base)
	}
	for range 3 {
		got, other := j.Records(), j.Records()
		for i := range got {
			clear(got[i][:cap(got[i])])
			_ = append(got[i], strings.Repeat("x", 20)...)
		}
		if !slices.Equal(textsOf(other), records) || !slices.Equal(textsOf(j.Records()), records) {
			t.Errorf("%q, %q", other, j.Records())
		}
		got[0], other[1] = nil, nil
		j, _ = Open(d)
	}
}

func TestPendingWrites(t *testing.T) { // P15.1: what isn't synced yet is as it is seen, and lasts then
	d := fresh(t, 8)
	for n, b := range slices.Concat(slowBlocks(3, 0, "base"), slowBlocks(3, 1, "one")) {
		d.Write(4+n, b)
	}
	j, s := opened(t, d)
	d.Crash(nil)
	check(t, "pending", j, d, s)
	if !slices.Equal(s.records, []string{"base", "one"}) {
		t.Errorf("%q", s.records)
	}
}
