package agent

import (
	"bytes"
	"fmt"
	"math"
	"slices"
	"strings"
	"testing"

	"despatch/api"
	"despatch/curve"
	"despatch/disk"
	"despatch/journal"
)

// wrongNames are texts that aren't addresses of at most 100 bytes, just as they stand.
func wrongNames() []string {
	return []string{
		"", "ann", "@", "ann@", "@x", "ann@X", "ann@x.Y", "<ann@x>", "Ann <ann@x>", " ann@x", "ann@x ", "ann@x(c)", "a b@x", "ann@x@y",
		".ann@x", "ann.@x", "a..b@x", "ann@x.", "ann@.x", "ann\n@x", "ann@x\n", "ann\x00@x", "änn@x", "\"ann\"@x", "ann@[x]",
		strings.Repeat("a", 99) + "@x", strings.Repeat("a", 5000) + "@x", "a@" + strings.Repeat("x.", 49) + "x",
	}
}

// rightNames are addresses.
func rightNames() []string {
	return []string{"a@b", "ann@x", "Ann.B-c@x.org", "!#$%&'*+-^_`{|}~@!#$%&'*+-^_`{|}~", strings.Repeat("a", 98) + "@x", "a@" + strings.Repeat("x.", 48) + "xx"}
}

func TestOpenNames(t *testing.T) { // P22.1: which addresses may be
	for _, name := range wrongNames() {
		d := newDisk(t, 100)
		if a, code := Open(d, name, api.Key{1}, api.Key{2}); a != nil || code != api.ErrArg {
			t.Errorf("%.50q: %v, %v", name, a, code)
		}
		if n := len(storeOn(t, d).Keys("")); n != 0 {
			t.Errorf("%.50q: %d keys", name, n)
		}
	}
	for _, name := range rightNames() {
		d := newDisk(t, 100)
		a, code := Open(d, name, api.Key{1, 2: 7}, api.Key{2, 31: 9})
		if a == nil || code != api.OK {
			t.Fatalf("%.50q: %v", name, code)
		}
		want := name + "\n\x01\x00\x07" + strings.Repeat("\x00", 29) + "\x02" + strings.Repeat("\x00", 30) + "\x09"
		if got := valuesOf(storeOn(t, d)); got != fmt.Sprintf("%q: %q\n", "me", want) || d.Pending() != 0 {
			t.Errorf("%.50q: %s", name, got)
		}
	}
}

func TestOpenErrors(t *testing.T) { // P22.1: the address's error first, layer 16's, the Commit's
	for _, blocks := range []int{1, 3} {
		d := newDisk(t, blocks)
		if a, code := Open(d, "ann@x", api.Key{1}, api.Key{2}); a != nil || code != api.ErrRange {
			t.Errorf("%d blocks: %v", blocks, code)
		}
		if a, code := Open(d, "ann", api.Key{1}, api.Key{2}); a != nil || code != api.ErrArg {
			t.Errorf("%d blocks, a wrong address: %v", blocks, code)
		}
	}
	d := newDisk(t, 100)
	j, _ := journal.Open(d)
	if code := j.Append([]byte("no pairs")); code != api.OK {
		t.Fatal(code)
	}
	if a, code := Open(d, "ann@x", api.Key{1}, api.Key{2}); a != nil || code != api.ErrSum {
		t.Errorf("no pairs: %v", code)
	}
	// Of 4 blocks a half has 2, which hold 84 bytes: a me with an address of 10 bytes, just.
	for size, want := range map[int]api.Errno{9: api.OK, 10: api.OK, 11: api.ErrFull, 100: api.ErrFull} {
		d := newDisk(t, 4)
		a, code := Open(d, strings.Repeat("a", size-2)+"@x", api.Key{1}, api.Key{2})
		if code != want || (a != nil) != (want == api.OK) {
			t.Errorf("an address of %d bytes: %v", size, code)
		}
	}
}

func TestOpenAgain(t *testing.T) { // P22.1: me tells the pairs, and whose the disk is
	o := newOne(t, "ann@x", 1, 200)
	want := api.Bundle{Identity: curve.Public(api.Key{1, 1}), Prekey: curve.Public(api.Key{1, 2})}
	if got := o.agent.Bundle(); got != want {
		t.Errorf("%v, not %v", got, want)
	}
	for _, name := range []string{"bob@x", "Ann@x", "ann@y", "ann@x.y", "an@x"} {
		if a, code := Open(o.disk, name, api.Key{1, 1}, api.Key{1, 2}); a != nil || code != api.ErrArg {
			t.Errorf("%s: %v", name, code)
		}
	}
	values := valuesOf(storeOn(t, o.disk))
	for range 3 {
		a, code := Open(o.disk, "ann@x", api.Key{7}, api.Key{8})
		if code != api.OK || a.Bundle() != want || valuesOf(storeOn(t, o.disk)) != values {
			t.Errorf("opened again: %v, %v", code, a.Bundle())
		}
	}
	// A disk that others changed: nothing is told of it, but that nothing panics.
	for _, value := range []string{"", "\n", "ann@x", "ann@x\n", "ann@x\n" + strings.Repeat("k", 63), "ann@x\n" + strings.Repeat("k", 65)} {
		commit(t, o.disk, pairOf("me", value))
		if a, code := Open(o.disk, "ann@x", api.Key{7}, api.Key{8}); a != nil || code != api.ErrArg {
			t.Errorf("me is %q: %v", value, code)
		}
	}
}

func TestStrange(t *testing.T) { // P1: whatever a disk's store has, nothing panics
	for _, value := range []string{"", "\n", "S", "S\n", "N\n", "Sbob@y\n", "P\n\n", "P\n\n\n", "x\n\n\n\n", strings.Repeat("\x01", 65), strings.Repeat("\n", 178), "\n" + strings.Repeat("\x00", 177), "S\n" + strings.Repeat("\x00", 177)} {
		for _, key := range []string{"t:t", "o:0000000001", "o:x", "i:0000000000", "i:", "k:bob@y", "n", "g:bob@y\n1", "t:", "k:", "o:", "strange"} {
			o := newOne(t, "ann@x", 1, 300)
			commit(t, o.disk, pairOf(key, value))
			a, code := Open(o.disk, "ann@x", api.Key{}, api.Key{})
			if code != api.OK {
				t.Fatalf("%q: %q: %v", key, value, code)
			}
			a.Outbox()
			a.Notes()
			a.Secured("t")
			a.Session("t")
			a.Peer("bob@y")
			a.Send("bob@y", "t", []byte("x"), true, api.Key{5})
			a.Send("bob@y", "u", []byte("x"), false, api.Key{5})
			e := newStarter("bob@y", a.Bundle()).mail(t, "ann@x", "t", "1", newStarter("bob@y", a.Bundle()).start(), []byte("x"))
			a.Receive([]byte(mailOf(t, e)), api.Key{6})
			a.Posted(1)
			a.Reset("t")
			a.Bundle()
		}
	}
}

func TestAsked(t *testing.T) { // P22.3: of what there isn't, and rule 5
	o := newOne(t, "ann@x", 1, 2000)
	bob := newOne(t, "bob@y", 2, 2000)
	long := strings.Repeat("x", 2000)
	texts := []string{"", "t", "hello", "bob@y", "ann@x", "0000000001", "me", "n", ":", "\x00", "\xff", long, long[:998], long[:999]}
	o.check(texts, texts)
	o.meet(bob)
	o.meet(bob)
	o.check(texts, texts)
	if code := o.send("bob@y", "t", []byte("x"), true, api.Key{9}); code != api.OK {
		t.Fatal(code)
	}
	o.check(texts, texts)
	for _, number := range []int{0, -1, 2, 10, 11, math.MaxInt, math.MinInt, math.MaxInt32, 1 << 32, 1<<32 + 1, 10_000_000_001} {
		if code := o.posted(number); code != api.ErrNone {
			t.Errorf("posted %d: %v", number, code)
		}
	}
	for _, text := range texts {
		if text == "t" {
			continue
		}
		if code := o.reset(text); code != api.ErrNone {
			t.Errorf("reset %.20q: %v", text, code)
		}
	}
	if o.posted(1) != api.OK || o.posted(1) != api.ErrNone || o.reset("t") != api.OK || o.reset("t") != api.ErrNone {
		t.Error("posted, reset")
	}
	o.check(texts, texts)
	if len(o.agent.Outbox()) != 0 || len(o.agent.Notes()) != 2 {
		t.Error("what waits, what was delivered")
	}
}

func TestOutboxOrder(t *testing.T) { // P22.3: by their numbers, and a number stays a mail's own
	o := newOne(t, "ann@x", 1, 3000)
	for i := range 25 {
		if code := o.send([]string{"bob@y", "eve@z"}[i%2], "t", []byte{byte(i)}, false, api.Key{}); code != api.OK {
			t.Fatal(code)
		}
	}
	for _, gone := range []int{25, 1, 10, 7} {
		if code := o.posted(gone); code != api.OK {
			t.Error(code)
		}
	}
	o.crash(nil)
	if code := o.send("bob@y", "t", nil, false, api.Key{}); code != api.OK {
		t.Error(code)
	}
	var numbers []int
	for _, mail := range o.agent.Outbox() {
		numbers = append(numbers, mail.Number)
		if e := envelopeOf(t, mail.Bytes); e.Id != fmt.Sprintf("%d.ann@x", mail.Number) || e.To != mail.To {
			t.Errorf("%d: %v", mail.Number, e)
		}
	}
	if want := []int{2, 3, 4, 5, 6, 8, 9, 11, 12, 13, 14, 15, 16, 17, 18, 19, 20, 21, 22, 23, 24, 26}; !slices.Equal(numbers, want) {
		t.Errorf("%v", numbers)
	}
	o.check(nil, nil)
}

// tellAll gives all that an agent tells, as a text.
func tellAll(a *Agent) string {
	s, is := a.Session("t")
	peer, known := a.Peer("bob@y")
	return fmt.Sprint(a.Bundle(), a.Outbox(), a.Notes(), a.Secured("t"), s, is, peer, known)
}

func TestMemory(t *testing.T) { // P22.5, P2, and rule 4: answers are new memory
	o, bob := newOne(t, "ann@x", 1, 3000), newOne(t, "bob@y", 2, 3000)
	o.meet(bob)
	o.meet(bob)
	bob.meet(o)
	for range 3 {
		if bob.send("ann@x", "t", []byte("to be left out"), true, api.Key{9}) != api.OK {
			t.Fatal("send")
		}
	}
	if o.receive(bob.last(), api.Key{8}) != api.OK || o.send("bob@y", "u", []byte("x"), true, api.Key{7}) != api.OK {
		t.Fatal("receive, send")
	}
	want := tellAll(o.agent)
	for range 2 {
		for _, mail := range o.agent.Outbox() {
			clear(mail.Bytes)
			_ = append(mail.Bytes, "spoilt"...)
		}
		for _, note := range o.agent.Notes() {
			clear(note.Body)
			_ = append(note.Body, "spoilt"...)
		}
		s, _ := o.agent.Session("t")
		if len(s.Kept) != 2 {
			t.Fatal(s)
		}
		clear(s.Kept)
		if got := tellAll(o.agent); got != want {
			t.Fatalf("%.1000s\nnot %.1000s", got, want)
		}
	}
}

func TestSameCalls(t *testing.T) { // P2: the same calls give the same answers, and the same disk
	run := func() (string, *disk.Disk) {
		o, bob := newOne(t, "ann@x", 1, 2000), newOne(t, "bob@y", 2, 2000)
		o.meet(bob)
		for i := range 4 {
			o.send("bob@y", "t", []byte{byte(i)}, true, api.Key{9})
			bob.receive(o.last(), api.Key{8, byte(i)})
			bob.send("ann@x", "t", []byte{byte(i)}, true, api.Key{7})
			o.receive(bob.last(), api.Key{6, byte(i)})
		}
		o.crash(nil)
		return tellAll(o.agent) + tellAll(bob.agent), o.disk
	}
	told, first := run()
	again, second := run()
	if told != again || !slices.Equal(blocksOf(first), blocksOf(second)) {
		t.Error("the same calls answer otherwise")
	}
}

func TestFull(t *testing.T) { // P22.2 to P22.5: the Commit's error, and nothing changes
	full := 0
	for _, blocks := range []int{12, 30, 44, 60, 100} {
		roll := dice(blocks)
		o, bob := newOne(t, "ann@x", 1, blocks), newOne(t, "bob@y", 2, 3000)
		for i := range 40 {
			var code api.Errno
			switch roll(6) {
			case 0, 1:
				code = o.send("bob@y", []string{"t", "u"}[roll(2)], bytes.Repeat([]byte{7}, roll(300)), roll(3) > 0, api.Key{byte(i), 3})
			case 2, 3:
				if bob.send("ann@x", []string{"v", "w"}[roll(2)], bytes.Repeat([]byte{7}, roll(300)), false, api.Key{byte(i), 4}) == api.OK {
					code = o.receive(bob.last(), api.Key{byte(i), 5})
				}
			case 4:
				code = o.posted(1 + roll(5))
			case 5:
				code = o.reset([]string{"t", "u"}[roll(2)])
			}
			if code == api.ErrFull {
				full++
				o.crash([]byte{byte(i)})
			}
		}
		o.check([]string{"t", "u", "v"}, []string{"bob@y", "eve@z"})
	}
	if full < 20 {
		t.Errorf("only %d calls found no room", full)
	}
}
