package store

import (
	"bytes"
	"fmt"
	"slices"
	"sort"
	"strings"
	"testing"

	"despatch/api"
	"despatch/disk"
	"despatch/journal"
)

// dice gives numbers that seem to be of no order, each from 0 to one less than asked.
func dice(first int) func(n int) int {
	x := uint32(first)*2654435761 + 12345
	return func(n int) int {
		x = x*1664525 + 1013904223
		return int(x>>8) % n
	}
}

// text gives a text of so many bytes, another one for each first one.
func text(first, size int) string {
	b := make([]byte, size)
	for i := range b {
		b[i] = byte(first + i*7)
	}
	return string(b)
}

// put gives a pair of a key and a value.
func put(key, value string) api.Pair { return api.Pair{Key: key, Value: []byte(value)} }

// gone gives a pair of a key that has no value any more.
func gone(key string) api.Pair { return api.Pair{Key: key, Gone: true} }

// slowPair gives the bytes of a pair as the chapter tells them.
func slowPair(p api.Pair) string {
	n := len(p.Value)
	value := string([]byte{byte(n >> 24), byte(n >> 16), byte(n >> 8), byte(n)}) + string(p.Value)
	sign := "\x00"
	if p.Gone {
		sign = "\x01"
	}
	return sign + string([]byte{byte(len(p.Key) / 256), byte(len(p.Key) % 256)}) + p.Key + value
}

// slowBytes gives the bytes of pairs as the chapter tells them.
func slowBytes(list []api.Pair) string {
	all := ""
	for _, p := range list {
		all += slowPair(p)
	}
	return all
}

// slowDecode gives the pairs of which bytes are those that the chapter tells, by trying all that may be.
func slowDecode(b string) ([]api.Pair, bool) {
	if b == "" {
		return nil, true
	}
	for key := 1; key <= 1000 && 3+key+4 <= len(b); key++ {
		if front := slowPair(put(b[3:3+key], ""))[1:3]; b[1:3] != front {
			continue
		}
		for value := 0; 3+key+4+value <= len(b); value++ {
			size := 3 + key + 4 + value
			for _, p := range []api.Pair{put(b[3:3+key], b[size-value:size]), gone(b[3 : 3+key])} {
				if b[:size] != slowPair(p) {
					continue
				}
				// There is at most one pair that bytes begin with.
				more, there := slowDecode(b[size:])
				return append([]api.Pair{p}, more...), there
			}
		}
	}
	return nil, false
}

// told gives pairs as a text.
func told(list []api.Pair) string {
	all := fmt.Sprintf("%d:", len(list))
	for _, p := range list {
		all += fmt.Sprintf(" %q %q %t", p.Key, p.Value, p.Gone)
	}
	return all
}

// samePairs tells whether two lists of pairs are one: a list without elements and none are.
func samePairs(a, b []api.Pair) bool {
	return slices.EqualFunc(a, b, func(p, q api.Pair) bool {
		return p.Key == q.Key && p.Gone == q.Gone && bytes.Equal(p.Value, q.Value)
	})
}

// slowStore is a store as the chapter tells it: how many blocks a half of its disk has, and the pairs of the journal's records.
type slowStore struct {
	half    int
	records [][]api.Pair
}

// blocksFor gives how many blocks a record takes.
func blocksFor(list []api.Pair) int {
	return max(1, (len(slowBytes(list))+journal.Payload-1)/journal.Payload)
}

// texts gives the bytes of all records.
func (s slowStore) texts() []string {
	var texts []string
	for _, list := range s.records {
		texts = append(texts, slowBytes(list))
	}
	return texts
}

// values gives what the records come to.
func (s slowStore) values() map[string]string {
	all := map[string]string{}
	for _, p := range slices.Concat(s.records...) {
		delete(all, p.Key)
		if !p.Gone {
			all[p.Key] = string(p.Value)
		}
	}
	return all
}

// keys gives the keys with a front that have a value, rising.
func (s slowStore) keys(front string) []string {
	var keys []string
	for key := range s.values() {
		if len(key) >= len(front) && key[:len(front)] == front {
			keys = append(keys, key)
		}
	}
	sort.Strings(keys)
	return keys
}

// committed gives the store behind pairs, and the error.
func (s slowStore) committed(list []api.Pair) (slowStore, api.Errno) {
	for _, p := range list {
		if len(p.Key) == 0 || len(p.Key) > 1000 || p.Gone && len(p.Value) > 0 {
			return s, api.ErrArg
		}
	}
	var own []api.Pair // as the tests write over what they hand in
	for _, p := range list {
		own = append(own, api.Pair{Key: p.Key, Value: bytes.Clone(p.Value), Gone: p.Gone})
	}
	next := slowStore{s.half, append(slices.Clone(s.records), own)}
	used := 0
	for _, record := range next.records {
		used += blocksFor(record)
	}
	if used <= s.half {
		return next, api.OK
	}
	all := next.values()
	var base []api.Pair
	for _, key := range next.keys("") {
		base = append(base, put(key, all[key]))
	}
	next.records = [][]api.Pair{base}
	if blocksFor(next.records[0]) > s.half {
		return s, api.ErrFull
	}
	return next, api.OK
}

// recordsOn gives the records of a disk's journal, and leaves the disk as it is.
func recordsOn(t *testing.T, d *disk.Disk) []string {
	t.Helper()
	j, code := journal.Open(d.Twin())
	if code != api.OK {
		t.Fatal(code)
	}
	var records []string
	for _, record := range j.Records() {
		records = append(records, string(record))
	}
	return records
}

// tellValues gives all values of a store as a text.
func tellValues(s *Store) string {
	all := ""
	for _, key := range s.Keys("") {
		value, _ := s.Get(key)
		all += fmt.Sprintf("%q: %q\n", key, value)
	}
	return all
}

// tell gives all values of a slow store as a text.
func (s slowStore) tell() string {
	all, values := "", s.values()
	for _, key := range s.keys("") {
		all += fmt.Sprintf("%q: %q\n", key, values[key])
	}
	return all
}

// check checks that a store is as a slow one, and so is its disk, all of which lasts.
func check(t *testing.T, what string, s *Store, d *disk.Disk, slow slowStore) {
	t.Helper()
	if got := recordsOn(t, d); !slices.Equal(got, slow.texts()) || d.Pending() != 0 {
		t.Fatalf("%s: records %.300q, not %.300q; %d writes don't last", what, got, slow.texts(), d.Pending())
	}
	checkValues(t, what, s, slow)
}

// checkValues checks that a store has the values of a slow one.
func checkValues(t *testing.T, what string, s *Store, slow slowStore) {
	t.Helper()
	all := slow.values()
	for key, want := range all {
		if got, there := s.Get(key); !there || string(got) != want {
			t.Fatalf("%s: %q is %.100q, %v, not %.100q", what, key, got, there, want)
		}
	}
	for _, key := range []string{"", "a", "b", "k", "kk", "\x00", "\xff", strings.Repeat("k", 1001), "nobody"} {
		if _, there := all[key]; there {
			continue
		}
		if got, there := s.Get(key); there || len(got) > 0 {
			t.Fatalf("%s: %q is %.100q, %v", what, key, got, there)
		}
	}
	for _, front := range []string{"", "k", "kk", "a", "\x00", "\xff", "nobody"} {
		if got, want := s.Keys(front), slow.keys(front); !slices.Equal(got, want) {
			t.Fatalf("%s: keys of %q: %.300q, not %.300q", what, front, got, want)
		}
	}
}

// newDisk gives a disk of noughts.
func newDisk(t *testing.T, blocks int) *disk.Disk {
	t.Helper()
	d, code := disk.New(blocks)
	if code != api.OK {
		t.Fatal(code)
	}
	return d
}

// opened gives the store of a disk, which there must be.
func opened(t *testing.T, d *disk.Disk) *Store {
	t.Helper()
	s, code := Open(d)
	if code != api.OK || s == nil {
		t.Fatalf("%v, %v", s, code)
	}
	return s
}

// newSlow gives the slow store of a new disk.
func newSlow(blocks int) slowStore { return slowStore{blocks / 2, [][]api.Pair{nil}} }

// made gives a new store, its disk, and its slow one.
func made(t *testing.T, blocks int) (*Store, *disk.Disk, slowStore) {
	t.Helper()
	d := newDisk(t, blocks)
	s, slow := opened(t, d), newSlow(blocks)
	check(t, "new", s, d, slow)
	return s, d, slow
}

// withRecords gives a disk whose journal has these records behind a base without bytes.
func withRecords(t *testing.T, blocks int, records ...string) *disk.Disk {
	t.Helper()
	d := newDisk(t, blocks)
	j, code := journal.Open(d)
	for _, record := range records {
		if code == api.OK {
			code = j.Append([]byte(record))
		}
	}
	if code != api.OK {
		t.Fatal(code)
	}
	return d
}

// blocksOf gives a disk's blocks.
func blocksOf(d *disk.Disk) []api.Block {
	blocks := make([]api.Block, d.Size())
	for n := range blocks {
		blocks[n], _ = d.Read(n)
	}
	return blocks
}

// someKey gives a key of no order, often one that was there already, of those that begin another one.
func someKey(roll func(n int) int) string {
	switch roll(8) {
	case 0:
		return text(roll(256), 1)
	case 1:
		return text(roll(256), 1+roll(60))
	}
	return []string{"a", "b", "k", "kk", "kkk", "k\x00", "\x00", "\xff\xff"}[roll(8)]
}

// somePairs gives pairs of no order; a few of them may not be, if wrong ones are asked for.
func somePairs(roll func(n int) int, wrong bool) []api.Pair {
	var list []api.Pair
	for range roll(4) {
		switch p := put(someKey(roll), text(roll(256), roll(60))); roll(10) {
		case 0, 1, 2:
			list = append(list, gone(p.Key))
		case 3:
			p.Gone = wrong && roll(3) == 0
			list = append(list, p)
		case 4:
			if wrong && roll(3) == 0 {
				p.Key = strings.Repeat(p.Key, 1001*roll(2))
			}
			list = append(list, p)
		default:
			list = append(list, p)
		}
	}
	return list
}
