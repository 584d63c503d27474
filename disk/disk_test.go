package disk

import (
	"bytes"
	"math"
	"slices"
	"testing"

	"despatch/api"
)

// dice gives numbers that seem to be of no order, each from 0 to one less than asked.
func dice(first int) func(n int) int {
	x := uint32(first)*2654435761 + 12345
	return func(n int) int {
		x = x*1664525 + 1013904223
		return int(x>>8) % n
	}
}

// filled gives a block of which all bytes are one.
func filled(c byte) api.Block {
	return api.Block(bytes.Repeat([]byte{c}, 64))
}

// row gives a block whose bytes are another one each.
func row(first int) api.Block {
	var b api.Block
	for i := range b {
		b[i] = byte(first + i)
	}
	return b
}

// mixed gives a block of runs: of which byte, and how many, in turn.
func mixed(runs ...int) api.Block {
	var b []byte
	for i := 0; i < len(runs); i += 2 {
		b = append(b, bytes.Repeat([]byte{byte(runs[i])}, runs[i+1])...)
	}
	return api.Block(b)
}

// slowDisk is a disk as the chapter tells it: what lasts, and the writes since then, in order.
type slowDisk struct {
	lasting []api.Block
	writes  []slowWrite
}

type slowWrite struct {
	n int
	b api.Block
}

// seen gives the blocks as they were written last.
func (s slowDisk) seen() []api.Block {
	blocks := slices.Clone(s.lasting)
	for _, w := range s.writes {
		blocks[w.n] = w.b
	}
	return blocks
}

// crashed gives the disk behind a crash.
func (s slowDisk) crashed(picks []byte) slowDisk {
	blocks := slices.Clone(s.lasting)
	for i, w := range s.writes {
		pick := 0
		if len(picks) > 0 {
			pick = int(picks[i%len(picks)])
		}
		bytesDone := []int{0, 64, pick / 3 % 64}[pick%3]
		for k := range bytesDone {
			blocks[w.n][k] = w.b[k]
		}
	}
	return slowDisk{lasting: blocks}
}

// check checks that a disk has a slow one's blocks, and as many writes that are pending.
func check(t *testing.T, what string, d *Disk, s slowDisk) {
	t.Helper()
	if d.Size() != len(s.lasting) || d.Pending() != len(s.writes) {
		t.Fatalf("%s: %d blocks, %d pending, not %d and %d", what, d.Size(), d.Pending(), len(s.lasting), len(s.writes))
	}
	for n, want := range s.seen() {
		if b, code := d.Read(n); b != want || code != api.OK {
			t.Fatalf("%s: block %d: %v, %v, not %v", what, n, b, code, want)
		}
	}
}

// made gives a disk that there must be.
func made(t *testing.T, blocks int) *Disk {
	t.Helper()
	d, code := New(blocks)
	if code != api.OK || d == nil {
		t.Fatalf("%d blocks: %v", blocks, code)
	}
	return d
}

func TestNew(t *testing.T) { // P14.1
	for _, blocks := range []int{0, -1, 65537, 65536 + 65536, math.MinInt, math.MaxInt, 1 << 32, 1<<32 + 1, -65536} {
		if d, code := New(blocks); d != nil || code != api.ErrRange {
			t.Errorf("%d: %v, %v", blocks, d, code)
		}
	}
	for _, blocks := range []int{1, 2, 3, 100, 65535, 65536} {
		check(t, "new", made(t, blocks), slowDisk{lasting: make([]api.Block, blocks)})
	}
}

func TestNoSuchBlock(t *testing.T) { // P14.1: with an error nothing changes
	for _, blocks := range []int{1, 3, 65536} {
		d := made(t, blocks)
		d.Write(0, row(7))
		for _, n := range []int{-1, blocks, blocks + 1, -blocks, math.MinInt, math.MaxInt, 1 << 32} {
			if b, code := d.Read(n); b != (api.Block{}) || code != api.ErrRange {
				t.Errorf("%d of %d: %v, %v", n, blocks, b, code)
			}
			if code := d.Write(n, row(9)); code != api.ErrRange {
				t.Errorf("%d of %d: %v", n, blocks, code)
			}
		}
		check(t, "errors", d, slowDisk{make([]api.Block, blocks), []slowWrite{{0, row(7)}}})
	}
}

func TestWriteIsSeen(t *testing.T) { // P14.1: at once, and as it was written last
	for _, blocks := range []int{1, 5, 65536} {
		d := made(t, blocks)
		for _, n := range []int{0, blocks / 2, blocks - 1, 0} {
			for i := range 3 {
				b := row(n + i)
				if code := d.Write(n, b); code != api.OK {
					t.Errorf("%d: %v", n, code)
				}
				b[0]++
				if got, code := d.Read(n); got != row(n+i) || code != api.OK {
					t.Errorf("%d: %v, %v", n, got, code)
				}
			}
		}
		if d.Pending() != 12 {
			t.Errorf("%d pending", d.Pending())
		}
	}
}

func TestSync(t *testing.T) { // P14.1: what lasts no crash takes
	for _, picks := range [][]byte{nil, {0}, {1}, {2}, {14, 200}} {
		d := made(t, 4)
		d.Sync()
		d.Write(1, row(1))
		d.Write(3, row(2))
		d.Write(1, row(3))
		d.Sync()
		want := slowDisk{lasting: []api.Block{{}, row(3), {}, row(2)}}
		check(t, "synced", d, want)
		d.Crash(picks)
		check(t, "crashed", d, want)
		// the same bytes again are a write, too
		d.Write(1, row(3))
		if d.Pending() != 1 {
			t.Errorf("%d pending", d.Pending())
		}
		d.Crash(picks)
		check(t, "crashed again", d, want)
	}
}

func TestEachPick(t *testing.T) { // P14.2
	for pick := range 256 {
		for _, ahead := range []api.Block{{}, filled(255), row(100)} {
			d := made(t, 2)
			d.Write(1, ahead)
			d.Sync()
			d.Write(1, row(1))
			d.Crash([]byte{byte(pick)})
			want := ahead
			switch pick % 3 {
			case 1:
				want = row(1)
			case 2:
				b := row(1)
				copy(want[:pick/3%64], b[:])
			}
			check(t, "a pick", d, slowDisk{lasting: []api.Block{{}, want}})
		}
	}
}

func TestCrashKnown(t *testing.T) { // P14.2
	d := made(t, 1)
	d.Write(0, filled(9))
	d.Crash([]byte{5})
	check(t, "5", d, slowDisk{lasting: []api.Block{{9}}})

	// the writes to one block are done in order, each to what the ones ahead have left
	for _, c := range []struct {
		picks []byte
		want  api.Block
	}{
		{nil, filled(7)},
		{[]byte{}, filled(7)},
		{[]byte{0}, filled(7)},
		{[]byte{3, 0, 255}, filled(7)},
		{[]byte{1}, filled(3)},
		{[]byte{1, 0, 0}, filled(1)},
		{[]byte{1, 1, 0}, filled(2)},
		{[]byte{0, 1, 0}, filled(2)},
		{[]byte{0, 0, 4}, filled(3)},
		{[]byte{1, 0}, filled(3)}, // the third pick is the first one again
		{[]byte{0, 1}, filled(2)},
		{[]byte{0, 1, 0, 1, 1}, filled(2)},
		{[]byte{1, 2 + 3*2, 2 + 3}, mixed(3, 1, 2, 1, 1, 62)},
		{[]byte{2 + 3*3, 2 + 3*2, 2 + 3}, mixed(3, 1, 2, 1, 1, 1, 7, 61)},
		{[]byte{2 + 3}, mixed(3, 1, 7, 63)},
		{[]byte{2 + 3*63, 0, 0}, mixed(1, 63, 7, 1)},
		{[]byte{2 + 3*64, 0, 0}, filled(7)},
		{[]byte{2 + 3*65, 0, 0}, mixed(1, 1, 7, 63)},
		{[]byte{2, 2, 2}, filled(7)},
	} {
		d := made(t, 1)
		d.Write(0, filled(7))
		d.Sync()
		for i := range 3 {
			d.Write(0, filled(byte(1+i)))
		}
		d.Crash(c.picks)
		check(t, "in order", d, slowDisk{lasting: []api.Block{c.want}})
	}
}

func TestCrashLasts(t *testing.T) { // P14.2: what a crash leaves lasts
	d := made(t, 3)
	d.Write(0, row(1))
	d.Write(1, row(2))
	d.Write(2, row(3))
	d.Crash([]byte{1, 0, 2 + 3*10})
	want := slowDisk{lasting: []api.Block{row(1), {}, {}}}
	b := row(3)
	copy(want.lasting[2][:10], b[:])
	check(t, "once", d, want)
	d.Crash([]byte{1})
	check(t, "twice", d, want)
	d.Crash(nil)
	check(t, "thrice", d, want)
}

func TestTwin(t *testing.T) { // P14.2: a disk of its own, where all lasts
	d := made(t, 3)
	d.Write(0, row(1))
	d.Sync()
	d.Write(1, row(2))
	d.Write(0, row(3))
	x := d.Twin()
	here := slowDisk{[]api.Block{row(1), {}, {}}, []slowWrite{{1, row(2)}, {0, row(3)}}}
	there := slowDisk{lasting: []api.Block{row(3), row(2), {}}}
	check(t, "here", d, here)
	check(t, "there", x, there)

	x.Crash(nil)
	check(t, "there, crashed", x, there)
	x.Write(2, row(4))
	x.Write(0, row(5))
	check(t, "here, behind writes there", d, here)
	x.Sync()
	check(t, "here, behind a sync there", d, here)
	d.Write(1, row(6))
	d.Crash([]byte{0, 0, 1})
	check(t, "here, crashed", d, slowDisk{lasting: []api.Block{row(1), row(6), {}}})
	check(t, "there, behind a crash here", x, slowDisk{lasting: []api.Block{row(5), row(2), row(4)}})
}

func TestPicksAreLeft(t *testing.T) { // rule 4: neither changed nor kept
	d := made(t, 2)
	picks := []byte{1, 0, 77}
	d.Write(0, row(1))
	d.Crash(picks[:2])
	if !bytes.Equal(picks, []byte{1, 0, 77}) {
		t.Errorf("%v", picks)
	}
	picks[0] = 0
	check(t, "picks", d, slowDisk{lasting: []api.Block{row(1), {}}})
}

func TestManySteps(t *testing.T) { // P14.1, P14.2, P2: against a slow disk, and twice
	for n := range 400 {
		roll := dice(n)
		blocks := 1 + roll(6)
		d, again := made(t, blocks), made(t, blocks)
		s := slowDisk{lasting: make([]api.Block, blocks)}
		for range 60 {
			switch roll(12) {
			case 0:
				d.Sync()
				again.Sync()
				s = slowDisk{lasting: s.seen()}
			case 1:
				picks := make([]byte, roll(9))
				for i := range picks {
					picks[i] = byte(roll(256))
				}
				d.Crash(picks)
				again.Crash(picks)
				s = s.crashed(picks)
			case 2:
				if roll(3) == 0 {
					d, s = d.Twin(), slowDisk{lasting: s.seen()}
					again = again.Twin()
				}
			default:
				place, b := roll(blocks+2)-1, row(roll(256))
				want := api.ErrRange
				if place >= 0 && place < blocks {
					want = api.OK
					s.writes = append(slices.Clone(s.writes), slowWrite{place, b})
				}
				if code := d.Write(place, b); code != want || again.Write(place, b) != want {
					t.Fatalf("%d of %d: %v", place, blocks, code)
				}
			}
			check(t, "steps", d, s)
			check(t, "steps again", again, s)
		}
	}
}

func TestManyPending(t *testing.T) { // P14.2: each write has its pick, as many as there are
	d := made(t, 65536)
	s := slowDisk{lasting: make([]api.Block, 65536)}
	for i := range 150000 {
		w := slowWrite{i * 7 % 65536, row(i / 300)}
		d.Write(w.n, w.b)
		s.writes = append(s.writes, w)
	}
	picks := make([]byte, 1001)
	for i := range picks {
		picks[i] = byte(i * 5)
	}
	check(t, "many", d, s)
	d.Crash(picks)
	check(t, "many, crashed", d, s.crashed(picks))
}
