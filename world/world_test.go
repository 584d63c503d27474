package world

import (
	"crypto/sha256"
	"fmt"
	"math"
	"testing"

	"despatch/api"
	"despatch/curve"
)

func TestName(t *testing.T) { // P23.1: a, the number, @x.org
	for n, want := range map[int]string{
		0: "a0@x.org", 1: "a1@x.org", 3: "a3@x.org", 4: "a4@x.org", 10: "a10@x.org", -1: "a-1@x.org", 1234567: "a1234567@x.org",
		math.MaxInt: "a9223372036854775807@x.org", math.MinInt: "a-9223372036854775808@x.org",
	} {
		if got := Name(n); got != want {
			t.Errorf("%d: %s", n, got)
		}
	}
}

func TestNewErrors(t *testing.T) { // P23.1: how many agents there may be, layer 14's error, layer 22's
	for _, agents := range []int{0, -1, 5, 6, 100, math.MinInt, math.MaxInt, 1<<32 + 1} {
		for _, blocks := range []int{300, 0, 1} {
			if w, code := New(agents, blocks); w != nil || code != api.ErrRange {
				t.Errorf("%d agents, %d blocks: %v", agents, blocks, code)
			}
		}
	}
	for _, blocks := range []int{0, -1, 1, 2, 3, api.MaxBlocks + 1, math.MinInt, math.MaxInt, 1<<32 + 300} {
		for agents := 1; agents <= 4; agents++ {
			if w, code := New(agents, blocks); w != nil || code != api.ErrRange {
				t.Errorf("%d agents, %d blocks: %v", agents, blocks, code)
			}
		}
	}
	// Of 4 blocks a half has room for who an agent is, and for nothing else.
	w := newWorld(t, 4, 4)
	if code := w.Do(send(0, 1, "t", "x", false, 0)); code != api.ErrFull || len(w.Sent()) != 0 {
		t.Error(code)
	}
	newWorld(t, 1, api.MaxBlocks)
}

func TestNew(t *testing.T) { // P23.1: its agents, each with its keys, on a disk of its own; nothing is under way
	for agents := 1; agents <= 4; agents++ {
		w := newWorld(t, agents, 500)
		if len(w.Under()) != 0 || len(w.Sent()) != 0 {
			t.Error("there are mails in a new world")
		}
		for _, n := range []int{-1, agents, 4, 5, math.MinInt, math.MaxInt, 1 << 32} {
			if w.Agent(n) != nil || len(w.Inbox(n)) != 0 {
				t.Errorf("of %d agents there is one of the number %d", agents, n)
			}
		}
		for n := range agents {
			a := w.Agent(n)
			if a == nil || a != w.Agent(n) || len(w.Inbox(n)) != 0 || len(a.Outbox()) != 0 || len(a.Notes()) != 0 {
				t.Fatalf("%d of %d", n, agents)
			}
			name := fmt.Sprintf("a%d@x.org", n)
			want := api.Bundle{
				Identity: curve.Public(sha256.Sum256([]byte(name + "i"))),
				Prekey:   curve.Public(sha256.Sum256([]byte(name + "p"))),
			}
			if got := a.Bundle(); got != want {
				t.Errorf("%d: %x, not %x", n, got, want)
			}
			if w.members[n].disk.Size() != 500 {
				t.Errorf("%d: %d blocks", n, w.members[n].disk.Size())
			}
			if id, code := a.Send("bob@y", "t", nil, false, api.Key{}); id != "1."+name || code != api.OK {
				t.Errorf("%d: %s, %v", n, id, code)
			}
		}
	}
}

func TestMemory(t *testing.T) { // rule 4: answers are new memory, and what is handed in isn't kept
	w := newWorld(t, 2, 3000)
	body := []byte("a body")
	for range 3 {
		if code := w.Do(api.Event{Kind: api.EvSend, To: 1, Thread: "t", Body: body}); code != api.OK {
			t.Fatal(code)
		}
	}
	clear(body)
	for _, e := range []api.Event{post(0), post(0), carry(0), {Kind: api.EvCarry, Stays: true}} {
		if code := w.Do(e); code != api.OK {
			t.Fatal(code)
		}
	}
	want := tellWorld(w)
	for range 2 {
		for _, mail := range w.Under() {
			clear(mail.Bytes[:cap(mail.Bytes)])
		}
		for _, mail := range w.Inbox(1) {
			clear(mail.Bytes[:cap(mail.Bytes)])
		}
		for _, mail := range w.Sent() {
			clear(mail.Body[:cap(mail.Body)])
		}
		clear(w.Under())
		clear(w.Inbox(1))
		clear(w.Sent())
		if got := tellWorld(w); got != want {
			t.Fatalf("%s\nnot %s", got, want)
		}
	}
	// What was told ahead stays as it was, whatever happens then.
	under, inbox, sent := w.Under(), w.Inbox(1), w.Sent()
	told := fmt.Sprint(under, inbox, sent)
	w.Do(api.Event{Kind: api.EvCorrupt, Turn: 255})
	w.Do(fetch(1, 0, 1))
	w.Do(send(0, 1, "t", "more", false, 0))
	w.Do(api.Event{Kind: api.EvDrop})
	w.Do(post(0))
	if got := fmt.Sprint(under, inbox, sent); got != told {
		t.Errorf("%s\nnot %s", got, told)
	}
}

func TestSameCalls(t *testing.T) { // P2: the same events come to the same
	run := func() string {
		w, roll, text := newWorld(t, 3, 1000), dice(99), ""
		for range 150 {
			text += fmt.Sprint(w.Do(someEvent(roll, 1+roll(9), 3)), " ")
		}
		w.Settle(api.Key{9})
		return text + tellWorld(w)
	}
	if run() != run() {
		t.Error("the same events come to something else")
	}
}
