package store

import (
	"bytes"
	"slices"
	"strings"
	"testing"

	"despatch/api"
	"despatch/disk"
	"despatch/journal"
)

// mayNotBe are pairs that may not be.
func mayNotBe() []api.Pair {
	long := strings.Repeat("k", 1001)
	return []api.Pair{
		{}, gone(""), put("", "x"), put(long, "x"), put(long, ""), gone(long), put(long+long, "x"), put(strings.Repeat("k", 65536+1), "x"),
		{Key: "a", Value: []byte{0}, Gone: true}, {Key: "a", Value: make([]byte, 300), Gone: true}, {Key: "", Value: []byte{0}, Gone: true},
	}
}

func TestEncodeKnown(t *testing.T) { // P16.1: byte by byte
	for _, c := range []struct {
		list []api.Pair
		want string
	}{
		{nil, ""},
		{[]api.Pair{}, ""},
		{[]api.Pair{put("a", "")}, "\x00\x00\x01a\x00\x00\x00\x00"},
		{[]api.Pair{gone("a")}, "\x01\x00\x01a\x00\x00\x00\x00"},
		{[]api.Pair{{Key: "a", Value: []byte{}, Gone: true}}, "\x01\x00\x01a\x00\x00\x00\x00"},
		{[]api.Pair{put("ab", "123"), gone("c"), put("ab", "4")}, "\x00\x00\x02ab\x00\x00\x00\x03123\x01\x00\x01c\x00\x00\x00\x00\x00\x00\x02ab\x00\x00\x00\x014"},
		{[]api.Pair{put("\x00", "\x00\xff")}, "\x00\x00\x01\x00\x00\x00\x00\x02\x00\xff"},
		{[]api.Pair{put(text(1, 256), text(2, 256))}, "\x00\x01\x00" + text(1, 256) + "\x00\x00\x01\x00" + text(2, 256)},
		{[]api.Pair{put(text(1, 1000), text(2, 65536))}, "\x00\x03\xe8" + text(1, 1000) + "\x00\x01\x00\x00" + text(2, 65536)},
		{[]api.Pair{put("k", text(2, 1<<24+5))}, "\x00\x00\x01k\x01\x00\x00\x05" + text(2, 1<<24+5)},
	} {
		b, code := Encode(c.list)
		if code != api.OK || string(b) != c.want {
			t.Errorf("%.100s: %.100q, %v, not %.100q", told(c.list), b, code, c.want)
		}
		if list, code := Decode([]byte(c.want)); code != api.OK || !samePairs(list, c.list) {
			t.Errorf("%.100q: %.100s, %v, not %.100s", c.want, told(list), code, told(c.list))
		}
	}
}

func TestEncodeWrong(t *testing.T) { // P16.1: wherever the pair stands that may not be
	for _, wrong := range mayNotBe() {
		for _, list := range [][]api.Pair{{wrong}, {wrong, put("a", "1")}, {put("a", "1"), wrong}, {gone("a"), wrong, gone("b")}} {
			if b, code := Encode(list); code != api.ErrArg || len(b) > 0 {
				t.Errorf("%.100s: %.100q, %v", told(list), b, code)
			}
			if list, code := Decode([]byte(slowBytes(list))); code != api.ErrForm || len(list) > 0 {
				t.Errorf("decode: %.100s, %v", told(list), code)
			}
		}
	}
}

// checkDecode checks what Decode tells of bytes.
func checkDecode(t *testing.T, b string) {
	t.Helper()
	want, there := slowDecode(b)
	wantCode := api.OK
	if !there {
		want, wantCode = nil, api.ErrForm
	}
	if list, code := Decode([]byte(b)); code != wantCode || !samePairs(list, want) {
		t.Fatalf("%.300q: %.300s, %v, not %.300s, %v", b, told(list), code, told(want), wantCode)
	}
}

func TestDecodeShort(t *testing.T) { // P16.1: of all short texts of some bytes
	texts := []string{""}
	for len(texts[0]) < 11 {
		var longer []string
		for _, b := range texts {
			checkDecode(t, b)
			for c := range 3 {
				longer = append(longer, b+string([]byte{byte(c)}))
			}
		}
		texts = longer
	}
}

func TestDecodeHurt(t *testing.T) { // P16.1: each byte of some pairs changed, left out, put in, and each beginning and ending
	for _, list := range [][]api.Pair{
		{put("a", "")}, {gone("a")}, {put("abc", "12"), gone("d"), put("e", "")}, {gone("x"), gone("yy")}, {put(text(0, 300), text(7, 300))},
	} {
		b := slowBytes(list)
		for i := range b {
			if i > 50 && i < len(b)-10 && i%40 > 0 {
				continue
			}
			checkDecode(t, b[:i])
			checkDecode(t, b[i:])
			checkDecode(t, b[:i]+b[i+1:])
			for _, c := range []byte{0, 1, 2, 3, 4, 7, 128, 255} {
				checkDecode(t, b[:i]+string([]byte{c})+b[i:])
				checkDecode(t, b[:i]+string([]byte{c})+b[i+1:])
				checkDecode(t, b[:i]+string([]byte{b[i] + c})+b[i+1:])
			}
		}
	}
	for sign := range 256 {
		checkDecode(t, string([]byte{byte(sign)})+"\x00\x01a\x00\x00\x00\x00")
		checkDecode(t, string([]byte{byte(sign)}))
	}
	for _, b := range []string{"\x00\xff\xff", "\x00\x00\x01a\xff\xff\xff\xff", "\x00\x00\x01a\x80\x00\x00\x00", "\x00\x00\x01a\x7f\xff\xff\xffx", "\x00\x00\x00\x00\x00\x00\x00", slowPair(put(text(0, 1000), "")), slowPair(put(text(0, 1001), ""))} {
		checkDecode(t, b)
	}
}

func TestManyCodes(t *testing.T) { // P16.1: there and back
	for n := range 3000 {
		roll := dice(n)
		list := somePairs(roll, false)
		b, code := Encode(list)
		if code != api.OK || string(b) != slowBytes(list) {
			t.Fatalf("%s: %q, %v", told(list), b, code)
		}
		if again, code := Decode(b); code != api.OK || !samePairs(again, list) {
			t.Fatalf("%s: %s, %v", told(list), told(again), code)
		}
		if len(b) > 0 {
			b[roll(len(b))] += byte(1 + roll(255))
			checkDecode(t, string(b))
		}
	}
}

func TestOpenErrors(t *testing.T) { // P16.2: layer 15's errors, with nothing changed
	for blocks := 1; blocks <= 4; blocks++ {
		d := newDisk(t, blocks)
		s, code := Open(d)
		if blocks < 4 && (s != nil || code != api.ErrRange) || blocks == 4 && (s == nil || code != api.OK) {
			t.Errorf("%d: %v, %v", blocks, s, code)
		}
	}
	d := withRecords(t, 9, "not pairs") // ErrFull comes first
	d.Write(8, api.Block{255, 255, 255, 255})
	ahead := blocksOf(d)
	if s, code := Open(d); s != nil || code != api.ErrFull {
		t.Errorf("%v, %v", s, code)
	}
	if d.Pending() != 1 || !slices.Equal(blocksOf(d), ahead) {
		t.Error("changed")
	}
}

func TestOpenNotPairs(t *testing.T) { // P16.2: ErrSum, with nothing changed
	right := slowPair(put("a", "1"))
	for i, records := range [][]string{
		{"x"}, {"\x00"}, {right, "x"}, {"x", right}, {right, right + "x", right}, {right[:len(right)-1]}, {right, "", "\x02" + right[1:]},
		{slowPair(put("", "1"))}, {slowPair(put(text(0, 1001), "1"))}, {slowPair(api.Pair{Key: "a", Value: []byte("1"), Gone: true})},
	} {
		d := withRecords(t, 100, records...)
		b, _ := d.Read(99)
		d.Write(99, b)
		ahead := blocksOf(d)
		if s, code := Open(d); s != nil || code != api.ErrSum {
			t.Errorf("%d: %v, %v", i, s, code)
		}
		if d.Pending() != 1 || !slices.Equal(blocksOf(d), ahead) {
			t.Errorf("%d: changed", i)
		}
	}
	for _, base := range []string{"x", right + "x"} {
		d := newDisk(t, 20)
		j, _ := journal.Open(d)
		j.Restart([]byte(base))
		j.Append([]byte(right))
		if s, code := Open(d); s != nil || code != api.ErrSum {
			t.Errorf("%q: %v, %v", base, s, code)
		}
	}
}

func TestOpen(t *testing.T) { // P16.2: what the records come to, one behind the other
	slow := slowStore{50, [][]api.Pair{
		nil,
		{put("a", "1"), put("b", "2"), put("c", "3"), gone("b")},
		nil,
		{gone("a"), put("a", "4"), put("d", ""), gone("nobody")},
		{gone("c"), put("b", "5"), put("b", "6")},
	}}
	d := withRecords(t, 100, slow.texts()[1:]...)
	s := opened(t, d)
	check(t, "opened", s, d, slow)
	if got := tellValues(s); got != "\"a\": \"4\"\n\"b\": \"6\"\n\"d\": \"\"\n" {
		t.Error(got)
	}
}

func TestKeys(t *testing.T) { // P16.2: those that begin with front, rising by their bytes
	s, d, slow := made(t, 1000)
	keys := []string{"b", "a", "ab", "abc", "abd", "B", "a\x00", "a\xff", "\xff", "\x00", "a:1", "a:10", "a:2", "ä", text(3, 1000)}
	for _, key := range keys {
		s.Commit([]api.Pair{put(key, key)})
		slow, _ = slow.committed([]api.Pair{put(key, key)})
	}
	check(t, "keys", s, d, slow)
	for _, front := range append(keys, "", "z", "abcd", "a:", "a:1", text(3, 999), text(3, 1000)+"x", "\xc3", "\xc3\xa4") {
		if got, want := s.Keys(front), slow.keys(front); !slices.Equal(got, want) {
			t.Errorf("%q: %q, not %q", front, got, want)
		}
	}
	if got := s.Keys("ab"); !slices.Equal(got, []string{"ab", "abc", "abd"}) {
		t.Errorf("%q", got)
	}
}

func TestCommit(t *testing.T) { // P16.3: one behind the other, at once
	s, d, slow := made(t, 200)
	for i, list := range [][]api.Pair{
		{put("a", "1"), gone("a")},
		{gone("a"), put("a", "2")},
		{put("a", "3"), put("a", ""), put("b", "4")},
		nil,
		{gone("nobody")},
		{put(text(0, 1000), text(1, 1000))},
		{gone("a"), gone("b"), gone(text(0, 1000))},
	} {
		want := slow
		want, _ = slow.committed(list)
		if code := s.Commit(list); code != api.OK || len(want.records) != i+2 {
			t.Fatalf("%d: %v, %d records", i, code, len(want.records))
		}
		slow = want
		check(t, "commit", s, d, slow)
		check(t, "opened", opened(t, d.Twin()), d, slow)
	}
	if got := s.Keys(""); len(got) != 0 {
		t.Errorf("%q", got)
	}
}

func TestCommitWrong(t *testing.T) { // P16.3: Encode's error, ahead of ErrFull, with nothing changed
	s, d, slow := made(t, 20)
	s.Commit([]api.Pair{put("a", "1")})
	slow, _ = slow.committed([]api.Pair{put("a", "1")})
	for _, wrong := range mayNotBe() {
		for _, list := range [][]api.Pair{{wrong}, {put("b", "2"), gone("a"), wrong}, {wrong, put("b", "2")}, {put("b", text(0, 1000)), wrong}} {
			ahead := blocksOf(d)
			if code := s.Commit(list); code != api.ErrArg || !slices.Equal(blocksOf(d), ahead) {
				t.Errorf("%.100s: %v", told(list), code)
			}
			check(t, "wrong", s, d, slow)
		}
	}
}

func TestCommitAtTheBound(t *testing.T) { // P16.3: as long as a record fits it is appended; then all keys are the base; then ErrFull
	// A half has 10 blocks, of which the base takes one; a pair of the key k takes 8 bytes more than its value.
	for size := 8*42 - 8; size <= 11*42-8; size++ {
		for _, first := range []string{"", "other"} {
			s, d, slow := made(t, 20)
			if first != "" {
				s.Commit([]api.Pair{put(first, "x")})
				slow, _ = slow.committed([]api.Pair{put(first, "x")})
			}
			list := []api.Pair{put("k", text(0, size))}
			next, want := slow.committed(list)
			if code := s.Commit(list); code != want {
				t.Fatalf("%d, %q: %v, not %v", size, first, code, want)
			}
			check(t, "at the bound", s, d, next)
			records := len(next.records)
			switch {
			case first == "" && size <= 9*42-8 && records != 2,
				first == "" && size > 9*42-8 && size <= 10*42-8 && records != 1,
				first == "" && size > 10*42-8 && want != api.ErrFull:
				t.Fatalf("%d: %d records, %v", size, records, want)
			}
		}
	}
}

func TestCommitMakesRoom(t *testing.T) { // P16.3: what goes makes room for what comes, in the same list too
	s, d, slow := made(t, 20)
	big := text(5, 390)
	for i, c := range []struct {
		list []api.Pair
		want api.Errno
	}{
		{[]api.Pair{put("k", big)}, api.OK},
		{[]api.Pair{put("kk", big)}, api.ErrFull},
		{[]api.Pair{put("kk", big), gone("k")}, api.OK},
		{[]api.Pair{put("kk", big), gone("kk"), put("kk", big)}, api.OK},
		{[]api.Pair{put("kk", big), put("a", text(1, 40))}, api.ErrFull},
		{[]api.Pair{gone("kk")}, api.OK},
		{[]api.Pair{put("k", big)}, api.OK},
		{nil, api.OK},
	} {
		next, want := slow.committed(c.list)
		if code := s.Commit(c.list); code != c.want || want != c.want {
			t.Fatalf("%d: %v, %v, not %v", i, code, want, c.want)
		}
		slow = next
		check(t, "room", s, d, slow)
	}
}

func TestCommitOrder(t *testing.T) { // P16.3: the base that a journal is Restarted with has all keys, rising
	s, d, _ := made(t, 12)
	s.Commit([]api.Pair{put("b", "2"), put("a", "1")})
	s.Commit([]api.Pair{put("c", "3"), put("ab", "")})
	s.Commit([]api.Pair{gone("b")})
	s.Commit([]api.Pair{put("B", "4"), put("c", "5")})
	s.Commit([]api.Pair{put("B", "4")})
	if got := recordsOn(t, d); len(got) != 6 {
		t.Fatalf("%q", got)
	}
	s.Commit([]api.Pair{put("\xff", "7"), put("A", "6"), gone("ab"), put("ab", "8"), gone("B")})
	want := []string{slowBytes([]api.Pair{put("A", "6"), put("a", "1"), put("ab", "8"), put("c", "5"), put("\xff", "7")})}
	if got := recordsOn(t, d); !slices.Equal(got, want) {
		t.Errorf("%q, not %q", got, want)
	}
}

func TestNoGenerationLeft(t *testing.T) { // P16.3: Restart's ErrFull, with nothing changed
	d := newDisk(t, 13)
	d.Write(12, api.Block{255, 255, 255, 254})
	s, slow := opened(t, d), newSlow(13)
	check := func(what string) {
		t.Helper()
		checkValues(t, what, s, slow)
	}
	for i := range 5 {
		list := []api.Pair{put("k", text(i, 1)), put("a", "")}
		if code := s.Commit(list); code != api.OK {
			t.Fatalf("%d: %v", i, code)
		}
		slow, _ = slow.committed(list)
		check("commit")
	}
	ahead := blocksOf(d)
	for _, list := range [][]api.Pair{{put("k", "x")}, {gone("k")}, nil} {
		if code := s.Commit(list); code != api.ErrFull || !slices.Equal(blocksOf(d), ahead) || d.Pending() != 0 {
			t.Errorf("%s: %v", told(list), code)
		}
		check("full")
	}
	if s, code := Open(d); s != nil || code != api.ErrFull {
		t.Errorf("%v, %v", s, code)
	}
}

func TestManyCommits(t *testing.T) { // P16.2, P16.3, P2: against the slow store, and twice
	for n := range 250 {
		roll := dice(n)
		blocks := []int{4, 5, 8, 12, 13, 20, 40, 200}[roll(8)]
		s, d, slow := made(t, blocks)
		same, again, _ := made(t, blocks)
		for range 40 {
			list := somePairs(roll, true)
			next, want := slow.committed(list)
			if code := s.Commit(list); code != want {
				t.Fatalf("%s: %v, not %v", told(list), code, want)
			}
			if code := same.Commit(list); code != want {
				t.Fatalf("%s, again: %v, not %v", told(list), code, want)
			}
			slow = next
			check(t, "commits", s, d, slow)
			if roll(10) == 0 {
				d.Crash([]byte{byte(roll(256))})
				s = opened(t, d)
				check(t, "opened", s, d, slow)
				same = opened(t, again)
			}
			if got, want := tellValues(same), tellValues(s); got != want || !slices.Equal(blocksOf(again), blocksOf(d)) {
				t.Fatalf("again: %s, not %s", got, want)
			}
		}
	}
}

// written gives the blocks that are other ones on a disk than on another, by their places.
func written(ahead, behind *disk.Disk) []int {
	var places []int
	for n := range ahead.Size() {
		a, _ := ahead.Read(n)
		b, _ := behind.Read(n)
		if a != b {
			places = append(places, n)
		}
	}
	return places
}

// halfway gives a disk as it is behind a crash, with these picks, while the blocks were written that make it another one.
func halfway(ahead, behind *disk.Disk, picks []byte) *disk.Disk {
	d := ahead.Twin()
	for _, n := range written(ahead, behind) {
		b, _ := behind.Read(n)
		d.Write(n, b)
	}
	d.Crash(picks)
	return d
}

// allPicks gives picks of all ways in which so many writes may be lost, done, or torn at places that count.
func allPicks(size int) [][]byte {
	list := [][]byte{nil}
	for range size {
		var longer [][]byte
		for _, picks := range list {
			for _, pick := range []byte{0, 1, 2 + 3*4, 2 + 3*12, 2 + 3*58, 2 + 3*63} {
				longer = append(longer, append(slices.Clone(picks), pick))
			}
		}
		list = longer
	}
	return list
}

// checkHalfway checks what the store of a disk is behind a crash with these picks, while a Commit made it another one.
func checkHalfway(t *testing.T, aheadDisk, behindDisk *disk.Disk, ahead, behind slowStore, picks []byte) {
	t.Helper()
	s := opened(t, halfway(aheadDisk, behindDisk, picks))
	switch got, want, next := tellValues(s), ahead.tell(), behind.tell(); {
	case len(picks) == 0 && got != want:
		t.Fatalf("nothing is written: %s, not %s", got, want)
	case len(picks) == 1 && picks[0] == 1 && got != next:
		t.Fatalf("all is written: %s, not %s", got, next)
	case got != want && got != next:
		t.Fatalf("%v: %s, neither %s nor %s", picks, got, want, next)
	}
}

func TestCrashes(t *testing.T) { // P16.4: all of a Commit, or nothing; of an appended record and of a base
	appended, based := 0, 0
	for n := range 150 {
		roll := dice(n)
		s, d, slow := made(t, 10+roll(30))
		for range 12 {
			ahead := d.Twin()
			list := somePairs(roll, false)
			next, want := slow.committed(list)
			if code := s.Commit(list); code != want {
				t.Fatalf("%v, not %v", code, want)
			}
			if want != api.OK {
				continue
			}
			if len(next.records) == 1 {
				based++
			} else {
				appended++
			}
			picks := [][]byte{nil, {1}, {0, 1}, {1, 0}, {1, 1, 0}, {0, 0, 1}, {1, byte(roll(256))}, {byte(roll(256)), byte(roll(256)), byte(roll(256))}}
			if places := len(written(ahead, d)); places <= 2 {
				picks = append(picks, allPicks(places)...)
			}
			for _, each := range picks {
				checkHalfway(t, ahead, d, slow, next, each)
			}
			slow = next
		}
	}
	if appended < 100 || based < 100 {
		t.Errorf("%d appended, %d based", appended, based)
	}
}

func TestLasts(t *testing.T) { // P16.3: what Commit has answered lasts
	for _, picks := range [][]byte{nil, {0}, {1}, {2 + 3*20}} {
		s, d, slow := made(t, 12)
		for i := range 20 {
			list := []api.Pair{put("k", text(i, i)), put(text(i%3, 1), "")}
			s.Commit(list)
			slow, _ = slow.committed(list)
			d.Crash(picks)
			check(t, "lasts", s, d, slow)
			check(t, "lasts, opened", opened(t, d.Twin()), d, slow)
		}
	}
}

func TestMemory(t *testing.T) { // rule 4: what is handed in is neither changed nor kept, answers are new
	for _, blocks := range []int{100, 12} { // with records behind the base, and with a base anew
		s, d, slow := made(t, blocks)
		for i := range 8 {
			value := []byte("one and what is behind")
			list := []api.Pair{{Key: "k", Value: value[:3]}, put("kk", text(i, 5)), gone("a")}
			slow, _ = slow.committed(list)
			s.Commit(list)
			if string(value) != "one and what is behind" || list[0].Key != "k" || !list[2].Gone {
				t.Errorf("%q, %s", value, told(list))
			}
			clear(value)
			clear(list[1].Value)
			clear(list)
			check(t, "handed in", s, d, slow)
		}
		one, _ := s.Get("k")
		other, _ := s.Get("k")
		clear(one[:cap(one)])
		keys := s.Keys("")
		clear(keys[:cap(keys)])
		if string(other) != "one" {
			t.Errorf("%q", other)
		}
		check(t, "answered", s, d, slow)
		check(t, "opened", opened(t, d), d, slow)
	}
}

func TestCodesMemory(t *testing.T) { // rule 4, of Encode and Decode
	list := []api.Pair{put("a", "123"), put("b", "456"), gone("c")}
	one, _ := Encode(list)
	other, _ := Encode(list)
	clear(one[:cap(one)])
	if string(other) != slowBytes(list) || told(list) != told([]api.Pair{put("a", "123"), put("b", "456"), gone("c")}) {
		t.Errorf("%q, %s", other, told(list))
	}
	b := []byte(slowBytes(list) + "behind")
	first, _ := Decode(b[:len(b)-6])
	second, _ := Decode(b[:len(b)-6])
	if string(b) != slowBytes(list)+"behind" {
		t.Errorf("%q", b)
	}
	_ = append(first[0].Value, "written over"...)
	clear(first[0].Value[:cap(first[0].Value)])
	if !samePairs(first[1:], list[1:]) || !samePairs(second, list) || string(b) != slowBytes(list)+"behind" {
		t.Errorf("%s, %s, %q", told(first), told(second), b)
	}
	clear(b)
	if !samePairs(second, list) {
		t.Errorf("%s", told(second))
	}
}

func TestManyKeys(t *testing.T) { // P16.2, P16.3: on a disk of the most blocks
	s, d, _ := made(t, api.MaxBlocks)
	var list []api.Pair
	for i := range 20000 {
		key := string([]byte{'k', byte(i * 7 >> 8), byte(i * 7)})
		list = append(list, put(key, text(i, i%20)))
	}
	for part := range slices.Chunk(list, 100) {
		if code := s.Commit(part); code != api.OK {
			t.Fatal(code)
		}
	}
	last := map[string][]byte{}
	for _, p := range list {
		last[p.Key] = p.Value
	}
	for range 2 {
		keys := s.Keys("k")
		if len(keys) != len(last) || !slices.IsSorted(keys) {
			t.Fatalf("%d keys of %d", len(keys), len(last))
		}
		for _, key := range keys {
			if value, there := s.Get(key); !there || !bytes.Equal(value, last[key]) {
				t.Fatalf("%q: %q, %v", key, value, there)
			}
		}
		s = opened(t, d)
	}
	if code := s.Commit([]api.Pair{put("big", text(1, 1<<20))}); code != api.ErrFull {
		t.Error(code)
	}
}
