package journal

import (
	"fmt"
	"math"
	"slices"
	"testing"

	"despatch/api"
	"despatch/disk"
)

// failing is a disk whose power goes behind so many writes and syncs; it tells what was done.
type failing struct {
	*disk.Disk
	left int
	log  []string
}

// spend does one thing, if there is still power.
func (f *failing) spend(what string) {
	if f.left == 0 {
		panic("the power goes")
	}
	f.left--
	f.log = append(f.log, what)
}

func (f *failing) Write(n int, b api.Block) api.Errno {
	f.spend(fmt.Sprint(n))
	return f.Disk.Write(n, b)
}

func (f *failing) Sync() {
	f.spend("sync")
	f.Disk.Sync()
}

// ends tells whether a call on a failing disk comes to its end.
func ends(call func()) (ended bool) {
	defer func() { ended = recover() == nil }()
	call()
	return true
}

// somePicks gives picks of no order, of which many let a write be lost or done.
func somePicks(roll func(n int) int, size int) []byte {
	picks := make([]byte, size)
	for i := range picks {
		picks[i] = []byte{0, 1, byte(roll(256)), byte(2 + 3*roll(64))}[roll(4)]
	}
	return picks
}

// allPicks gives picks of all ways in which so many writes may be lost, done, or torn at places that count.
func allPicks(size int) [][]byte {
	list := [][]byte{nil}
	for range size {
		var longer [][]byte
		for _, picks := range list {
			for _, pick := range []byte{0, 1, 2 + 3*1, 2 + 3*4, 2 + 3*10, 2 + 3*12, 2 + 3*54, 2 + 3*58, 2 + 3*63} {
				longer = append(longer, append(slices.Clone(picks), pick))
			}
		}
		list = longer
	}
	return list
}

// checkWhole checks that a disk's journal has one of two lists of records, and goes on from there.
func checkWhole(t *testing.T, what string, d *disk.Disk, ahead, behind []string) {
	t.Helper()
	j, s := opened(t, d)
	got := textsOf(j.Records())
	if !slices.Equal(got, ahead) && !slices.Equal(got, behind) {
		t.Fatalf("%s: %q, neither %q nor %q", what, got, ahead, behind)
	}
	if next, there := s.appended("more"); there {
		j.Append([]byte("more"))
		check(t, what, j, d, next)
	}
}

// cut gives a copy of a disk on which the power went behind so many steps of a call, and whether that had ended by then. begin makes the call ready, while the power is still there.
func cut(d *disk.Disk, begin func(f *failing) (call func()), steps int) (*disk.Disk, bool) {
	f := &failing{Disk: d.Twin(), left: math.MaxInt}
	call := begin(f)
	f.left = steps
	ended := ends(call)
	return f.Disk, ended
}

// checkCrashes checks what comes of a call on a disk when the power goes behind each of its writes and syncs.
func checkCrashes(t *testing.T, what string, d *disk.Disk, begin func(f *failing) (call func()), ahead, behind []string, roll func(n int) int) {
	t.Helper()
	for steps := 0; ; steps++ {
		x, ended := cut(d, begin, steps)
		pending := x.Pending()
		list := [][]byte{nil, {1}, somePicks(roll, 9), somePicks(roll, 9), somePicks(roll, 9)}
		if pending <= 2 {
			list = slices.Concat(list, allPicks(pending))
		}
		for _, picks := range list {
			x, _ := cut(d, begin, steps)
			x.Crash(picks)
			switch {
			case ended:
				checkWhole(t, what+", at its end", x, behind, behind)
			case pending == 0 || picks == nil:
				checkWhole(t, what+", nothing more lasts", x, ahead, ahead)
			default:
				checkWhole(t, what, x, ahead, behind)
			}
		}
		if ended {
			return
		}
	}
}

// checkOpenCrashes checks crashes while the journal of a disk is opened.
func checkOpenCrashes(t *testing.T, d *disk.Disk, roll func(n int) int) {
	t.Helper()
	records := slowFound(blocksOf(d)).records
	checkCrashes(t, "open", d, func(f *failing) func() {
		return func() { open(f) }
	}, records, records, roll)
}

// checkCallCrashes checks crashes while a call is done by the journal of a disk.
func checkCallCrashes(t *testing.T, what string, d *disk.Disk, call func(j *Journal), ahead, behind []string, roll func(n int) int) {
	t.Helper()
	checkCrashes(t, what, d, func(f *failing) func() {
		j, _ := open(f)
		return func() { call(j) }
	}, ahead, behind, roll)
}

func TestCrashes(t *testing.T) { // P15.4: in Append, in Restart, in Open
	for n := range 150 {
		roll := dice(n)
		d := diskOf(someBlocks(roll, evenWays))
		checkOpenCrashes(t, d, roll)
		j, s := opened(t, d)
		for range roll(4) {
			record := someRecord(roll, s.room())
			if j.Append([]byte(record)) == api.OK {
				s, _ = s.appended(record)
			}
		}
		check(t, "append", j, d, s)
		checkOpenCrashes(t, d, roll)
		record := someRecord(roll, 3)
		if next, there := s.appended(record); there {
			checkCallCrashes(t, "append", d, func(j *Journal) { j.Append([]byte(record)) }, s.records, next.records, roll)
		}
		if _, there := s.begun(record); there {
			checkCallCrashes(t, "restart", d, func(j *Journal) { j.Restart([]byte(record)) }, s.records, []string{record}, roll)
		}
	}
}

func TestManyCrashes(t *testing.T) { // P15.4: one behind the other, each while something is on its way
	for n := range 300 {
		roll := dice(n)
		d := fresh(t, 4+roll(20))
		ahead, behind := []string{""}, []string{""}
		for range 30 {
			f := &failing{Disk: d, left: roll(12)}
			ends(func() {
				j, code := open(f)
				if code != api.OK {
					t.Fatal(code)
				}
				got := textsOf(j.Records())
				if !slices.Equal(got, ahead) && !slices.Equal(got, behind) {
					t.Fatalf("%q, neither %q nor %q", got, ahead, behind)
				}
				ahead, behind = got, got
				for {
					record := someRecord(roll, 4)
					if behind = append(slices.Clone(ahead), record); !j.Fits(len(record)) || roll(4) == 0 {
						behind = []string{record}
						code = j.Restart([]byte(record))
					} else {
						code = j.Append([]byte(record))
					}
					if code == api.OK {
						ahead = behind
					}
				}
			})
			d.Crash(somePicks(roll, roll(9)))
		}
	}
}

func TestOrder(t *testing.T) { // P15.1, P15.3: what is written, and when it is synced
	f := &failing{Disk: fresh(t, 21), left: math.MaxInt}
	steps := func(want ...string) {
		t.Helper()
		if !slices.Equal(f.log, want) {
			t.Errorf("%q, not %q", f.log, want)
		}
		f.log = nil
	}
	j, _ := open(f)
	steps("0", "sync")
	j.Append([]byte("one"))
	steps("1", "sync")
	j.Append([]byte(text(1, 100)))
	steps("2", "3", "4", "sync")
	j.Append(nil)
	steps("5", "sync")
	j.Append([]byte(text(1, 5*42)))
	j.Restart([]byte(text(1, 10*42+1)))
	steps()
	j, _ = open(f)
	steps("11", "12", "13", "14", "15", "sync", "10", "sync")
	j.Append([]byte(text(1, 84)))
	steps("16", "17", "sync")
	j.Restart([]byte(text(1, 43)))
	steps("0", "1", "sync")
	j.Append([]byte("one"))
	steps("2", "sync")
	j, _ = open(f)
	steps("12", "sync", "10", "11", "sync")
	j.Restart(nil)
	steps("0", "sync")
	j.Records()
	j.Fits(1)
	steps()
}
