package box

import (
	"bytes"
	"fmt"
	"math"
	"slices"
	"strings"
	"testing"

	"despatch/api"
	"despatch/disk"
	"despatch/journal"
	"despatch/store"
)

// dice gives numbers that seem to be of no order, each from 0 to one less than asked.
func dice(first int) func(n int) int {
	x := uint32(first)*2654435761 + 12345
	return func(n int) int {
		x = x*1664525 + 1013904223
		return int(x>>8) % n
	}
}

// text gives a text of so many bytes, another one for each first one.
func text(first, size int) string {
	b := make([]byte, size)
	for i := range b {
		b[i] = byte(first + i*7)
	}
	return string(b)
}

// made gives a new box, with its store and its disk.
func made(t *testing.T, blocks int) (*Box, *store.Store, *disk.Disk) {
	t.Helper()
	d, code := disk.New(blocks)
	if code != api.OK {
		t.Fatal(code)
	}
	s := opened(t, d)
	return New(s), s, d
}

// opened gives the store of a disk, which there must be.
func opened(t *testing.T, d *disk.Disk) *store.Store {
	t.Helper()
	s, code := store.Open(d)
	if code != api.OK {
		t.Fatal(code)
	}
	return s
}

// blocksOf gives a disk's blocks.
func blocksOf(d *disk.Disk) []api.Block {
	blocks := make([]api.Block, d.Size())
	for n := range blocks {
		blocks[n], _ = d.Read(n)
	}
	return blocks
}

// lastPairs gives the pairs of the last record on a disk, and how many records there are; the disk is left as it is.
func lastPairs(t *testing.T, d *disk.Disk) (string, int) {
	t.Helper()
	j, code := journal.Open(d.Twin())
	if code != api.OK {
		t.Fatal(code)
	}
	records := j.Records()
	list, code := store.Decode(records[len(records)-1])
	if code != api.OK {
		t.Fatal(code)
	}
	all := ""
	for _, p := range list {
		all += fmt.Sprintf("%s=%q %t\n", p.Key, p.Value, p.Gone)
	}
	return all, len(records)
}

// slowFolder is a folder as the chapter tells it: its next number, and its mails.
type slowFolder struct {
	next  int
	mails map[int]string // the flags as the first byte
}

// slowBox is folders by their names.
type slowBox map[string]*slowFolder

// folder gives a folder, which is new, if nothing was delivered there.
func (s slowBox) folder(name string) *slowFolder {
	if s[name] == nil {
		s[name] = &slowFolder{1, map[int]string{}}
	}
	return s[name]
}

// names are texts that may be folders' names, or may not; each has another one's beginning, or looks like a key's part.
func names() []string {
	return []string{"in", "in0", "in1", "i", "IN", "out", "-", ".", "..", "0000000001", strings.Repeat("x", 40), "", ":", "in:", ":in", "n:in", "m:in", "in:0000000001", "in:0", "in\x00", "in ", "ä", strings.Repeat("x", 41)}
}

// check checks that a box is as a slow one.
func check(t *testing.T, what string, b *Box, slow slowBox) {
	t.Helper()
	for _, name := range names() {
		want := slowFolder{next: 1}
		if f := slow[name]; f != nil {
			want = *f
		}
		if got := b.Next(name); got != want.next {
			t.Fatalf("%s: next of %q is %d, not %d", what, name, got, want.next)
		}
		var uids []int
		for uid := range want.next + 2 {
			mail, there := want.mails[uid]
			got, code := b.Fetch(name, uid)
			switch {
			case there && (code != api.OK || got.Uid != uid || got.Flags != int(mail[0]) || string(got.Bytes) != mail[1:]):
				t.Fatalf("%s: %q %d is %v, %v, not %q", what, name, uid, got, code, mail)
			case !there && (code != api.ErrNone || got.Uid != 0 || got.Flags != 0 || got.Bytes != nil):
				t.Fatalf("%s: %q %d is %v, %v", what, name, uid, got, code)
			case there:
				uids = append(uids, uid)
			}
		}
		if got := b.List(name); !slices.Equal(got, uids) {
			t.Fatalf("%s: %q has %v, not %v", what, name, got, uids)
		}
	}
}

func TestFolder(t *testing.T) { // P17.1: each byte, at each end, and how many
	for c := range 256 {
		s := string([]byte{byte(c)})
		want := strings.Contains("ABCDEFGHIJKLMNOPQRSTUVWXYZabcdefghijklmnopqrstuvwxyz0123456789-.", s)
		for _, name := range []string{s, "in" + s, s + "in", "i" + s + "n", s + s, strings.Repeat(s, 40), strings.Repeat("x", 39) + s} {
			if Folder(name) != want {
				t.Errorf("%q: %v", name, !want)
			}
		}
		if Folder(strings.Repeat(s, 41)) || Folder(strings.Repeat("x", 40)+s) {
			t.Errorf("41 bytes: %q", s)
		}
	}
	if Folder("") || Folder(strings.Repeat("x", 1<<16)) || Folder("ä") || Folder("٣") {
		t.Error("a folder")
	}
}

func TestNew(t *testing.T) { // P17.1: a box has nothing but its store, and writes nothing as long as nobody asks for it
	b, s, d := made(t, 200)
	ahead := blocksOf(d)
	check(t, "new", b, slowBox{})
	other := New(s)
	if !slices.Equal(blocksOf(d), ahead) || len(s.Keys("")) != 0 {
		t.Errorf("%q", s.Keys(""))
	}
	for i := range 6 {
		box := []*Box{b, other}[i%2]
		if uid, code := box.Deliver("in", []byte("one")); uid != i+1 || code != api.OK {
			t.Errorf("%d: %d, %v", i, uid, code)
		}
		if code := box.Mark("in", i/2+1, i); code != api.OK {
			t.Errorf("%d: %v", i, code)
		}
	}
	b.Mark("in", 4, api.FlagDeleted)
	if uids, code := other.Expunge("in"); code != api.OK || !slices.Equal(uids, []int{3, 4}) || !slices.Equal(b.List("in"), []int{1, 2, 5, 6}) {
		t.Errorf("%v, %v, %v", uids, code, b.List("in"))
	}
}

func TestInTheStore(t *testing.T) { // P17.1, P17.2, P17.3: key by key, and what is committed at once
	b, s, d := made(t, 400)
	steps := 0
	step := func(what, want string) {
		t.Helper()
		steps++
		if got, records := lastPairs(t, d); got != want || records != steps+1 {
			t.Errorf("%s: %s, not %s; %d records", what, got, want, records)
		}
	}
	b.Deliver("in", []byte("one"))
	step("deliver", "m:in:0000000001=\"\\x00one\" false\nn:in=\"\\x00\\x00\\x00\\x00\\x00\\x00\\x00\\x02\" false\n")
	b.Deliver("in", nil)
	step("deliver", "m:in:0000000002=\"\\x00\" false\nn:in=\"\\x00\\x00\\x00\\x00\\x00\\x00\\x00\\x03\" false\n")
	b.Deliver("-.a", []byte{0, 255})
	step("deliver", "m:-.a:0000000001=\"\\x00\\x00\\xff\" false\nn:-.a=\"\\x00\\x00\\x00\\x00\\x00\\x00\\x00\\x02\" false\n")
	b.Deliver("in", []byte("3"))
	step("deliver", "m:in:0000000003=\"\\x003\" false\nn:in=\"\\x00\\x00\\x00\\x00\\x00\\x00\\x00\\x04\" false\n")
	b.Mark("in", 1, 15)
	step("mark", "m:in:0000000001=\"\\x0fone\" false\n")
	b.Mark("in", 3, api.FlagDeleted)
	step("mark", "m:in:0000000003=\"\\x043\" false\n")
	b.Expunge("in")
	step("expunge", "m:in:0000000001=\"\" true\nm:in:0000000003=\"\" true\n")
	want := []string{"m:-.a:0000000001", "m:in:0000000002", "n:-.a", "n:in"}
	if got := s.Keys(""); !slices.Equal(got, want) {
		t.Errorf("%q", got)
	}
}

func TestDeliverErrors(t *testing.T) { // P17.1: in their order, with nothing changed
	b, s, d := made(t, 40)
	b.Deliver("in", []byte("one"))
	s.Commit([]api.Pair{{Key: "n:full", Value: []byte{0, 0, 0, 1, 0, 0, 0, 0}}})
	large := make([]byte, api.MaxMail+1)
	ahead := blocksOf(d)
	for i, c := range []struct {
		folder string
		size   int
		want   api.Errno
	}{
		{"", 0, api.ErrArg}, {"a:b", 0, api.ErrArg}, {"in ", 3, api.ErrArg}, {strings.Repeat("x", 41), 0, api.ErrArg},
		{"", api.MaxMail + 1, api.ErrArg}, {"in/", 5000, api.ErrArg},
		{"in", api.MaxMail + 1, api.ErrTooLarge}, {"new", api.MaxMail + 1, api.ErrTooLarge},
		{"full", 0, api.ErrTooLarge}, {"full", 5000, api.ErrTooLarge}, {"full", api.MaxMail + 1, api.ErrTooLarge},
		{"in", api.MaxMail, api.ErrFull}, {"new", api.MaxMail, api.ErrFull}, {"in", 5000, api.ErrFull},
	} {
		uid, code := b.Deliver(c.folder, large[:c.size])
		if uid != 0 || code != c.want || !slices.Equal(blocksOf(d), ahead) || d.Pending() != 0 {
			t.Errorf("%d: %d, %v, not %v", i, uid, code, c.want)
		}
	}
	if b.Next("in") != 2 || b.Next("new") != 1 || b.Next("full") != 1<<32 || !slices.Equal(b.List("in"), []int{1}) || len(b.List("new")) != 0 {
		t.Error("changed")
	}
	if uid, code := b.Deliver("in", []byte("two")); uid != 2 || code != api.OK {
		t.Errorf("%d, %v", uid, code)
	}
}

func TestLastNumbers(t *testing.T) { // P17.1: 4294967295 is the greatest
	b, s, d := made(t, 200)
	s.Commit([]api.Pair{{Key: "n:in", Value: []byte{0, 0, 0, 0, 255, 255, 255, 254}}})
	if b.Next("in") != 1<<32-2 {
		t.Fatalf("%d", b.Next("in"))
	}
	for i, c := range []struct {
		uid  int
		want api.Errno
	}{{1<<32 - 2, api.OK}, {1<<32 - 1, api.OK}, {0, api.ErrTooLarge}, {0, api.ErrTooLarge}} {
		if uid, code := b.Deliver("in", []byte{byte(i)}); uid != c.uid || code != c.want {
			t.Errorf("%d: %d, %v", i, uid, code)
		}
	}
	for range 2 {
		m, code := b.Fetch("in", 1<<32-1)
		if code != api.OK || m.Uid != 1<<32-1 || m.Bytes[0] != 1 || b.Next("in") != 1<<32 || !slices.Equal(b.List("in"), []int{1<<32 - 2, 1<<32 - 1}) {
			t.Errorf("%v, %v, %d, %v", m, code, b.Next("in"), b.List("in"))
		}
		b = New(opened(t, d))
	}
	if code := b.Mark("in", 1<<32-1, 4); code != api.OK {
		t.Error(code)
	}
	if uids, code := b.Expunge("in"); code != api.OK || !slices.Equal(uids, []int{1<<32 - 1}) {
		t.Errorf("%v, %v", uids, code)
	}
	if uid, code := b.Deliver("in", nil); uid != 0 || code != api.ErrTooLarge {
		t.Errorf("%d, %v", uid, code)
	}
}

func TestNoSuchMail(t *testing.T) { // P17.2: of any number, and any name
	b, s, d := made(t, 200)
	b.Deliver("in", []byte("one"))
	b.Deliver("in", []byte("two"))
	b.Mark("in", 1, api.FlagDeleted)
	b.Expunge("in")
	ahead := blocksOf(d)
	for _, folder := range append(names(), "in:0000000002", "in:000000000", "in:00000000", strings.Repeat("y", 1<<12)) {
		for _, uid := range []int{1, 3, 0, -1, -2, 1 << 32, 1<<32 + 2, 2 + 10_000_000_000, 10_000_000_002, 20_000_000_000, math.MaxInt, math.MinInt, -10_000_000_002} {
			if m, code := b.Fetch(folder, uid); code != api.ErrNone || m.Uid != 0 || m.Flags != 0 || m.Bytes != nil {
				t.Errorf("%q %d: %v, %v", folder, uid, m, code)
			}
			if code := b.Mark(folder, uid, 0); code != api.ErrNone {
				t.Errorf("%q %d: %v", folder, uid, code)
			}
		}
		if uids, code := b.Expunge(folder); code != api.OK || len(uids) != 0 {
			t.Errorf("%q: %v, %v", folder, uids, code)
		}
		if uids := b.List(folder); folder != "in" && (len(uids) != 0 || b.Next(folder) != 1) {
			t.Errorf("%q: %v, %d", folder, uids, b.Next(folder))
		}
	}
	if !slices.Equal(blocksOf(d), ahead) || len(s.Keys("")) != 2 {
		t.Errorf("%q", s.Keys(""))
	}
}

func TestMark(t *testing.T) { // P17.2: all flags, and ErrArg ahead of ErrNone
	b, _, d := made(t, 200)
	b.Deliver("in", []byte("one"))
	for flags := range 16 {
		if code := b.Mark("in", 1, flags); code != api.OK {
			t.Errorf("%d: %v", flags, code)
		}
		for _, box := range []*Box{b, New(opened(t, d.Twin()))} {
			if m, code := box.Fetch("in", 1); code != api.OK || m.Uid != 1 || m.Flags != flags || string(m.Bytes) != "one" {
				t.Errorf("%d: %v, %v", flags, m, code)
			}
		}
	}
	ahead := blocksOf(d)
	for _, flags := range []int{-1, 16, 17, 31, 256, 256 + 1, -16, math.MaxInt, math.MinInt, 1 << 32} {
		for _, uid := range []int{1, 2, -1} {
			for _, folder := range []string{"in", "out", "a:b"} {
				if code := b.Mark(folder, uid, flags); code != api.ErrArg {
					t.Errorf("%q %d %d: %v", folder, uid, flags, code)
				}
			}
		}
	}
	if m, _ := b.Fetch("in", 1); m.Flags != 15 || !slices.Equal(blocksOf(d), ahead) {
		t.Errorf("%v", m)
	}
}

func TestExpunge(t *testing.T) { // P17.3: those with FlagDeleted, whatever else they have; with none, nothing is committed
	b, _, d := made(t, 400)
	slow := slowBox{}
	for i := range 16 {
		b.Deliver("in", []byte{byte(i)})
		b.Deliver("out", []byte("out"))
		b.Mark("in", i+1, i)
		slow.folder("in").mails[i+1] = string([]byte{byte(i), byte(i)})
		slow.folder("out").mails[i+1] = "\x00out"
	}
	b.Mark("out", 7, 15)
	slow["out"].mails[7] = "\x0fout"
	slow["in"].next, slow["out"].next = 17, 17
	check(t, "marked", b, slow)
	want := []int{5, 6, 7, 8, 13, 14, 15, 16}
	if uids, code := b.Expunge("in"); code != api.OK || !slices.Equal(uids, want) {
		t.Errorf("%v, %v", uids, code)
	}
	for _, uid := range want {
		delete(slow["in"].mails, uid)
	}
	check(t, "expunged", b, slow)
	ahead := blocksOf(d)
	for _, folder := range []string{"in", "other", "", "a:b"} {
		if uids, code := b.Expunge(folder); code != api.OK || len(uids) != 0 || !slices.Equal(blocksOf(d), ahead) {
			t.Errorf("%q: %v, %v", folder, uids, code)
		}
	}
	// a number is never used again
	for _, uid := range b.List("in") {
		b.Mark("in", uid, api.FlagDeleted)
	}
	b.Expunge("in")
	if uid, code := b.Deliver("in", nil); uid != 17 || code != api.OK {
		t.Errorf("%d, %v", uid, code)
	}
	b = New(opened(t, d))
	if uid, code := b.Deliver("in", nil); uid != 18 || code != api.OK || !slices.Equal(b.List("in"), []int{17, 18}) {
		t.Errorf("%d, %v, %v", uid, code, b.List("in"))
	}
}

func TestNoRoom(t *testing.T) { // P17.1, P17.2, P17.3: the Commit's error, with nothing changed
	d, _ := disk.New(41)
	d.Write(40, api.Block{255, 255, 255, 254}) // no generation is left but one, so that nothing is committed once the half is full
	b := New(opened(t, d))
	b.Deliver("in", []byte("one"))
	b.Deliver("in", []byte("two"))
	b.Mark("in", 2, api.FlagDeleted|api.FlagSeen)
	for b.Mark("in", 1, api.FlagTaken) == api.OK {
	}
	slow := slowBox{"in": {3, map[int]string{1: "\x08one", 2: "\x05two"}}}
	check(t, "full", b, slow)
	ahead := blocksOf(d)
	if uid, code := b.Deliver("in", nil); uid != 0 || code != api.ErrFull {
		t.Errorf("%d, %v", uid, code)
	}
	if code := b.Mark("in", 1, 0); code != api.ErrFull {
		t.Error(code)
	}
	if uids, code := b.Expunge("in"); uids != nil || code != api.ErrFull {
		t.Errorf("%v, %v", uids, code)
	}
	if uids, code := b.Expunge("out"); len(uids) != 0 || code != api.OK {
		t.Errorf("%v, %v", uids, code)
	}
	check(t, "no room", b, slow)
	if !slices.Equal(blocksOf(d), ahead) || d.Pending() != 0 {
		t.Error("changed")
	}
}

func TestLarge(t *testing.T) { // P17.1, P17.2: as large a mail as a disk has room for
	b, _, d := made(t, api.MaxBlocks)
	mail := text(3, 1<<20)
	if uid, code := b.Deliver("in", []byte(mail)); uid != 1 || code != api.OK {
		t.Fatalf("%d, %v", uid, code)
	}
	b.Mark("in", 1, 3)
	b = New(opened(t, d))
	if m, code := b.Fetch("in", 1); code != api.OK || m.Uid != 1 || m.Flags != 3 || string(m.Bytes) != mail {
		t.Errorf("%d, %v", len(m.Bytes), code)
	}
	if uid, code := b.Deliver("in", []byte(mail)); uid != 0 || code != api.ErrFull {
		t.Errorf("%d, %v", uid, code)
	}
}

// twins are two boxes on which all is done alike, with their slow one.
type twins struct {
	boxes [2]*Box
	disks [2]*disk.Disk
	slow  slowBox
}

// deliver delivers a mail to both, and checks what is answered.
func (w twins) deliver(t *testing.T, folder, mail string, may bool) {
	t.Helper()
	one, code := w.boxes[0].Deliver(folder, []byte(mail))
	two, same := w.boxes[1].Deliver(folder, []byte(mail))
	want := 0
	if may && code == api.OK {
		f := w.slow.folder(folder)
		want = f.next
		f.mails[f.next] = "\x00" + mail
		f.next++
	}
	if one != want || two != want || same != code || !may && code != api.ErrArg || may && code != api.OK && code != api.ErrFull {
		t.Fatalf("deliver to %q: %d, %v and %d, %v, not %d", folder, one, code, two, same, want)
	}
}

// mark marks a mail of both, and checks what is answered.
func (w twins) mark(t *testing.T, folder string, uid, flags int) {
	t.Helper()
	code, same := w.boxes[0].Mark(folder, uid, flags), w.boxes[1].Mark(folder, uid, flags)
	mail, there := "", false
	if f := w.slow[folder]; f != nil {
		mail, there = f.mails[uid]
	}
	switch {
	case flags < 0 || flags > 15:
		there = code == api.ErrArg
	case !there:
		there = code == api.ErrNone
	case code == api.OK:
		w.slow[folder].mails[uid] = string([]byte{byte(flags)}) + mail[1:]
	default:
		there = code == api.ErrFull
	}
	if !there || same != code {
		t.Fatalf("mark %q %d %d: %v, %v", folder, uid, flags, code, same)
	}
}

// expunge expunges a folder of both, and checks what is answered.
func (w twins) expunge(t *testing.T, folder string) {
	t.Helper()
	one, code := w.boxes[0].Expunge(folder)
	two, same := w.boxes[1].Expunge(folder)
	var want []int
	if f := w.slow[folder]; f != nil {
		for uid := range f.next {
			if mail := f.mails[uid]; mail != "" && mail[0]&4 > 0 {
				want = append(want, uid)
				delete(f.mails, uid)
			}
		}
	}
	if code != api.OK || same != code || !slices.Equal(one, want) || !slices.Equal(two, want) {
		t.Fatalf("expunge %q: %v, %v and %v, %v, not %v", folder, one, code, two, same, want)
	}
}

func TestManyCalls(t *testing.T) { // P17.1, P17.2, P17.3, P2: against the slow box, and twice
	list := names()
	for n := range 120 {
		roll := dice(n)
		blocks := []int{30, 100, 400}[roll(3)]
		w := twins{slow: slowBox{}}
		for i := range w.boxes {
			w.boxes[i], _, w.disks[i] = made(t, blocks)
		}
		for range 40 {
			at := []int{0, 0, 0, 1, 2, 3, roll(len(list))}[roll(7)]
			folder := list[at]
			switch roll(8) {
			case 0, 1, 2:
				w.deliver(t, folder, text(roll(256), roll(60)), at <= 10)
			case 3, 4, 5:
				w.mark(t, folder, roll(9)-1, roll(20)-2)
			case 6:
				w.expunge(t, folder)
			default:
				for i, d := range w.disks {
					d.Crash([]byte{byte(roll(256))})
					w.boxes[i] = New(opened(t, d))
				}
			}
			check(t, "calls", w.boxes[0], w.slow)
			check(t, "calls again", w.boxes[1], w.slow)
		}
		if !slices.Equal(blocksOf(w.disks[0]), blocksOf(w.disks[1])) {
			t.Fatal("two disks")
		}
	}
}

func TestMemory(t *testing.T) { // rule 4: what is handed in is neither changed nor kept, answers are new
	b, _, _ := made(t, 400)
	slow := slowBox{"in": {4, map[int]string{1: "\x00one", 2: "\x04two", 3: "\x04three"}}}
	for _, mail := range []string{"one", "two", "three"} {
		whole := []byte(mail + " and what is behind")
		b.Deliver("in", whole[:len(mail)])
		if string(whole) != mail+" and what is behind" {
			t.Errorf("%q", whole)
		}
		clear(whole)
	}
	b.Mark("in", 2, 4)
	b.Mark("in", 3, 4)
	check(t, "delivered", b, slow)
	one, _ := b.Fetch("in", 1)
	other, _ := b.Fetch("in", 1)
	clear(one.Bytes[:cap(one.Bytes)])
	if string(other.Bytes) != "one" {
		t.Errorf("%q", other.Bytes)
	}
	uids, others := b.List("in"), b.List("in")
	clear(uids[:cap(uids)])
	if !slices.Equal(others, []int{1, 2, 3}) {
		t.Errorf("%v", others)
	}
	check(t, "answered", b, slow)
	uids, _ = b.Expunge("in")
	clear(uids[:cap(uids)])
	delete(slow["in"].mails, 2)
	delete(slow["in"].mails, 3)
	check(t, "expunged", b, slow)
}

func TestStrangeStores(t *testing.T) { // P1: of a store that others changed nothing is promised but that calls end
	for i, value := range [][]byte{nil, {4}, {255}, {1, 2, 3}, bytes.Repeat([]byte{255}, 8), bytes.Repeat([]byte{128}, 100)} {
		b, s, _ := made(t, 400)
		var list []api.Pair
		for _, key := range []string{"n:in", "m:in:", "m:in:0000000001", "m:in:0000000000", "m:in:-000000001", "m:in:x", "m:in:1", "m:in:99999999999999999999", "n:", "m::0000000001", "m:in"} {
			list = append(list, api.Pair{Key: key, Value: value})
		}
		s.Commit(list)
		for _, folder := range append(names(), "in") {
			b.Deliver(folder, []byte("one"))
			for _, uid := range append(b.List(folder), -1, 0, 1, math.MaxInt, math.MinInt, b.Next(folder)) {
				b.Fetch(folder, uid)
				b.Mark(folder, uid, 15)
			}
			b.Expunge(folder)
		}
		if m, code := b.Fetch("in", 5); code != api.ErrNone {
			t.Errorf("%d: %v, %v", i, m, code)
		}
	}
}
