package world

import (
	"bytes"
	"fmt"
	"math"
	"slices"
	"testing"

	"despatch/api"
)

// send is the event that somebody writes a mail.
func send(who, to int, thread, body string, secure bool, fresh byte) api.Event {
	return api.Event{Kind: api.EvSend, Who: who, To: to, Thread: thread, Body: []byte(body), Secure: secure, Fresh: api.Key{fresh, 1}}
}

// post is the event that a mail is posted.
func post(who int) api.Event { return api.Event{Kind: api.EvPost, Who: who} }

// carry is the event that a mail comes to its box.
func carry(n int) api.Event { return api.Event{Kind: api.EvCarry, N: n} }

// fetch is the event that somebody takes a mail.
func fetch(who, n int, fresh byte) api.Event {
	return api.Event{Kind: api.EvFetch, Who: who, N: n, Fresh: api.Key{fresh, 2}}
}

// must does an event in both worlds, and checks its answer.
func (b two) must(want api.Errno, e api.Event) {
	b.t.Helper()
	if code := b.do(e); code != want {
		b.t.Fatalf("%+v: %v, not %v", e, code, want)
	}
}

// meet lets each of two know the other one's keys.
func (b two) meet(one, other int) {
	b.t.Helper()
	b.must(api.OK, send(one, other, "hello", "hello", false, 0))
	b.must(api.OK, send(other, one, "hi", "hi", false, 0))
	b.settle(api.Key{123})
}

func TestWho(t *testing.T) { // P23.1: someone that there isn't is ErrRange, ahead of all else; of a kind that there isn't nobody is asked for
	for agents := 1; agents <= 4; agents++ {
		b := newTwo(t, agents, 300)
		for _, who := range []int{-1, agents, agents + 1, 4, 100, math.MinInt, math.MaxInt, 1 << 32} {
			for _, kind := range []int{api.EvSend, api.EvPost, api.EvFetch, api.EvCrash, api.EvReset} {
				b.must(api.ErrRange, api.Event{Kind: kind, Who: who, Thread: "t"})
				b.must(api.ErrRange, api.Event{Kind: kind, Who: who, To: -1, N: -5})
			}
			for _, kind := range []int{api.EvCarry, api.EvDrop, api.EvRewrite, api.EvCorrupt} {
				b.must(api.ErrNone, api.Event{Kind: kind, Who: who, To: who, N: who})
			}
			for _, kind := range []int{0, -1, 10, 11, math.MinInt, math.MaxInt, 1 << 32, 1<<32 + 1} {
				b.must(api.ErrArg, api.Event{Kind: kind, Who: who})
				b.must(api.ErrArg, api.Event{Kind: kind, Thread: "t", Body: []byte("x")})
			}
		}
		for who := range agents {
			b.must(api.ErrNone, post(who))
			b.must(api.ErrNone, fetch(who, 0, 1))
			b.must(api.ErrNone, api.Event{Kind: api.EvReset, Who: who, Thread: "t"})
			b.must(api.OK, api.Event{Kind: api.EvCrash, Who: who})
			b.must(api.OK, send(who, 0, "t", "x", false, 0))
			b.must(api.OK, post(who))
		}
		// With mails under way Who counts for none of what becomes of them.
		for _, who := range []int{-1, agents, math.MaxInt} {
			for _, kind := range []int{api.EvRewrite, api.EvCorrupt} {
				b.must(api.OK, api.Event{Kind: kind, Who: who, To: who})
			}
			b.must(api.OK, api.Event{Kind: api.EvCarry, Who: who, To: who, Stays: true})
		}
	}
}

func TestSend(t *testing.T) { // P23.1: EvSend: the error of Send, and what is noted
	b := newTwo(t, 2, 3000)
	for _, c := range []struct {
		want api.Errno
		e    api.Event
	}{
		{api.ErrForm, send(0, 1, "", "x", false, 0)},
		{api.ErrForm, send(0, 1, "a b", "x", true, 0)},
		{api.ErrTooLarge, api.Event{Kind: api.EvSend, To: 1, Thread: "t", Body: make([]byte, api.MaxBody+1)}},
		{api.ErrFull, api.Event{Kind: api.EvSend, To: 1, Thread: "t", Body: make([]byte, 60000)}},
		{api.ErrNoRoute, send(0, 1, "t", "x", true, 0)},
	} {
		b.must(c.want, c.e)
		if len(b.w.Sent()) != 0 {
			t.Fatalf("%v, and noted", c.want)
		}
	}
	b.meet(0, 1)
	b.must(api.OK, send(0, 1, "t", "one", true, 1))
	b.must(api.OK, send(0, 1, "t", "two", false, 2))
	b.must(api.OK, send(0, 1, "u", "", false, 3))
	b.must(api.ErrArg, send(0, 0, "t", "x", false, 4))
	b.must(api.OK, send(1, 1, "t", "own", false, 5))
	for _, to := range []int{-1, 2, 3, 4, 77, math.MinInt, math.MaxInt} {
		b.must(api.OK, send(1, to, "far", "gone", false, 6))
		b.must(api.ErrNoRoute, send(1, to, "far", "gone", true, 6))
	}
	want := []string{
		"a0@x.org a1@x.org 1.a0@x.org hello false hello", "a1@x.org a0@x.org 1.a1@x.org hi false hi",
		"a0@x.org a1@x.org 2.a0@x.org t true one", "a0@x.org a1@x.org 3.a0@x.org t true two", "a0@x.org a1@x.org 4.a0@x.org u false ",
		"a1@x.org a1@x.org 2.a1@x.org t false own", "a1@x.org a-1@x.org 3.a1@x.org far false gone", "a1@x.org a2@x.org 4.a1@x.org far false gone",
		"a1@x.org a3@x.org 5.a1@x.org far false gone", "a1@x.org a4@x.org 6.a1@x.org far false gone", "a1@x.org a77@x.org 7.a1@x.org far false gone",
		"a1@x.org a-9223372036854775808@x.org 8.a1@x.org far false gone", "a1@x.org a9223372036854775807@x.org 9.a1@x.org far false gone",
	}
	var got []string
	for _, s := range b.w.Sent() {
		got = append(got, fmt.Sprint(s.From, " ", s.To, " ", s.Id, " ", s.Thread, " ", s.Sealed, " ", string(s.Body)))
	}
	if !slices.Equal(got, want) {
		t.Errorf("%q\nnot %q", got, want)
	}
	if len(b.w.Agent(1).Outbox()) != 8 || len(b.w.Under()) != 0 {
		t.Error("what was written waits")
	}
}

func TestPost(t *testing.T) { // P23.1: EvPost: the first one that waits is under way, and waits no longer
	b := newTwo(t, 3, 3000)
	for i, to := range []int{1, 5, 0, 2, -1, 3, 1} {
		b.must(api.OK, send(0, to, "t", string(rune('a'+i)), false, 0))
	}
	b.must(api.OK, send(2, 0, "t", "other", false, 0))
	b.must(api.ErrNone, post(1))
	for i, want := range [][]int{{1}, {1}, {1, 0}, {1, 0, 2}, {1, 0, 2}, {1, 0, 2}, {1, 0, 2, 1}} {
		first := b.w.Agent(0).Outbox()[0]
		b.must(api.OK, post(0))
		var to []int
		for _, mail := range b.w.Under() {
			to = append(to, mail.To)
		}
		if !slices.Equal(to, want) || len(b.w.Agent(0).Outbox()) != 6-i {
			t.Fatalf("%d: under way to %v, not %v", i, to, want)
		}
		if last := b.w.Under()[len(to)-1]; i != 1 && i != 4 && i != 5 && !bytes.Equal(last.Bytes, slowLaid(first.Bytes)) {
			t.Errorf("%d: %q", i, last.Bytes)
		}
	}
	b.must(api.ErrNone, post(0))
	b.must(api.OK, post(2))
	if mails := b.w.Under(); len(mails) != 5 || mails[4].To != 0 || !bytes.Contains(mails[4].Bytes, []byte("From: a2@x.org\r\n")) {
		t.Error(mails)
	}
}

func TestPostOwn(t *testing.T) { // P23.1: what an agent was told to send beside the events goes, too; an address in other letters is nobody's
	b := newTwo(t, 2, 3000)
	for _, to := range []string{"A1@x.org", "a1@x.org.de", "a01@x.org", "a1@x", "bob@y", "a2@x.org", "a+1@x.org", "a1@x.org"} {
		for _, a := range []interface {
			Send(to, thread string, body []byte, secure bool, fresh api.Key) (string, api.Errno)
		}{b.w.Agent(0), b.slow.agents[0]} {
			if _, code := a.Send(to, "t", []byte(to), false, api.Key{}); code != api.OK {
				t.Fatal(to, code)
			}
		}
	}
	for i := range 8 {
		b.must(api.OK, post(0))
		if got := len(b.w.Under()); got != i/7 {
			t.Errorf("%d: %d under way", i, got)
		}
	}
	b.settle(api.Key{1})
	if notes := b.w.Agent(1).Notes(); len(notes) != 1 || string(notes[0].Body) != "a1@x.org" || len(b.w.Sent()) != 0 {
		t.Error(notes)
	}
}

// underWay gives two worlds with so many mails under way, of an agent to others in turn.
func underWay(t *testing.T, many int) two {
	t.Helper()
	b := newTwo(t, 3, 3000)
	for i := range many {
		b.must(api.OK, send(0, i%3, "t", fmt.Sprint(i), false, 0))
		b.must(api.OK, post(0))
	}
	return b
}

// bodies gives what stands in the notes of all agents of a world.
func bodies(w *World) string {
	text := ""
	for n := range 4 {
		if a := w.Agent(n); a != nil {
			for _, note := range a.Notes() {
				text += fmt.Sprintf("%d:%s ", n, note.Body)
			}
		}
	}
	return text
}

func TestMailPlaces(t *testing.T) { // P23.1: the mail N under way, N being any number
	for _, c := range []struct{ n, place int }{
		{0, 0}, {1, 1}, {4, 4}, {5, 0}, {7, 2}, {-1, 4}, {-5, 0}, {-6, 4}, {math.MaxInt, 2}, {math.MinInt, 2}, {1<<32 + 1, 2},
	} {
		b := underWay(t, 5)
		ahead := b.w.Under()
		b.must(api.OK, api.Event{Kind: api.EvCorrupt, N: c.n, M: 3, Turn: 1})
		for i, mail := range b.w.Under() {
			if changed := !bytes.Equal(mail.Bytes, ahead[i].Bytes); changed != (i == c.place) {
				t.Errorf("corrupt %d: %d changed: %t", c.n, i, changed)
			}
		}
		b.must(api.OK, api.Event{Kind: api.EvCorrupt, N: c.n, M: 3, Turn: 1})
		b.must(api.OK, api.Event{Kind: api.EvRewrite, N: c.n, Rewrite: api.Rewrite{Kind: api.RwBare}})
		for i, mail := range b.w.Under() {
			if changed := !bytes.Equal(mail.Bytes, ahead[i].Bytes); changed != (i == c.place) {
				t.Errorf("rewrite %d: %d changed: %t", c.n, i, changed)
			}
		}
		b.must(api.OK, api.Event{Kind: api.EvDrop, N: c.n})
		if want := slices.Delete(ahead, c.place, c.place+1); fmt.Sprint(b.w.Under()) != fmt.Sprint(want) {
			t.Errorf("drop %d: %v", c.n, b.w.Under())
		}
		for i := range 3 {
			if len(b.w.Inbox(i)) != 0 {
				t.Errorf("drop %d: delivered", c.n)
			}
		}
		b = underWay(t, 5)
		b.must(api.OK, carry(c.n))
		b.settle(api.Key{2})
		if got := len(b.w.Inbox(c.place % 3)); got == 0 || string(b.w.Agent(c.place % 3).Notes()[0].Body) != fmt.Sprint(c.place) {
			t.Errorf("carry %d: %s", c.n, bodies(b.w))
		}
	}
}

func TestCarry(t *testing.T) { // P23.1: EvCarry: to its box; with Stays it stays under way, too
	b := underWay(t, 4)
	ahead := b.w.Under()
	for i := range 3 {
		b.must(api.OK, api.Event{Kind: api.EvCarry, N: 1, Stays: true})
		if fmt.Sprint(b.w.Under()) != fmt.Sprint(ahead) || len(b.w.Inbox(1)) != i+1 {
			t.Fatalf("%d: %d under way, %d in the box", i, len(b.w.Under()), len(b.w.Inbox(1)))
		}
	}
	b.must(api.OK, carry(1))
	if fmt.Sprint(b.w.Under()) != fmt.Sprint([]api.Under{ahead[0], ahead[2], ahead[3]}) {
		t.Error(b.w.Under())
	}
	for i, mail := range b.w.Inbox(1) {
		if mail.Uid != i+1 || mail.Flags != 0 || !bytes.Equal(mail.Bytes, ahead[1].Bytes) {
			t.Errorf("%d: %v", i, mail)
		}
	}
	if len(b.w.Inbox(1)) != 4 || len(b.w.Inbox(0)) != 0 || len(b.w.Inbox(2)) != 0 {
		t.Error("delivered elsewhere")
	}
	for range 3 {
		b.must(api.OK, carry(2))
	}
	b.must(api.ErrNone, carry(0))
	b.must(api.ErrNone, api.Event{Kind: api.EvDrop})
	b.must(api.ErrNone, api.Event{Kind: api.EvRewrite, Rewrite: api.Rewrite{Kind: api.RwBare}})
	b.must(api.ErrNone, api.Event{Kind: api.EvCorrupt, Turn: 1})
}

func TestFolders(t *testing.T) { // P23.1: in the server's box each agent's folder is in, and the number
	b := underWay(t, 5)
	for range 5 {
		b.must(api.OK, carry(0))
	}
	if got, want := b.w.box.Keys(""), []string{"m:in0:0000000001", "m:in0:0000000002", "m:in1:0000000001", "m:in1:0000000002", "m:in2:0000000001", "n:in0", "n:in1", "n:in2"}; !slices.Equal(got, want) {
		t.Errorf("%q", got)
	}
}

func TestCorrupt(t *testing.T) { // P23.1: EvCorrupt: the byte M, M being any number
	b := underWay(t, 2)
	size := len(b.w.Under()[1].Bytes)
	for _, c := range []struct{ m, place int }{
		{0, 0}, {1, 1}, {size - 1, size - 1}, {size, 0}, {size + 2, 2}, {-1, size - 1}, {-size, 0}, {-size - 1, size - 1},
		{math.MaxInt, int(uint64(math.MaxInt) % uint64(size))}, {math.MinInt, (size - int(uint64(1<<63)%uint64(size))) % size},
	} {
		for _, turn := range []byte{0, 1, 128, 255} {
			ahead := b.w.Under()
			b.must(api.OK, api.Event{Kind: api.EvCorrupt, N: 1, M: c.m, Turn: turn})
			ahead[1].Bytes[c.place] ^= turn
			if fmt.Sprint(b.w.Under()) != fmt.Sprint(ahead) {
				t.Errorf("%d, %d: another byte", c.m, turn)
			}
		}
	}
	// A mail without bytes, as none is under way: nothing is turned.
	b.w.under[0].Bytes, b.slow.under[0].Bytes = nil, nil
	b.must(api.OK, api.Event{Kind: api.EvCorrupt, N: 0, M: 7, Turn: 1})
	b.must(api.OK, carry(0))
	b.must(api.ErrForm, fetch(0, 0, 1))
}

func TestRewrite(t *testing.T) { // P23.1: EvRewrite: what a relay does to a mail; of no kind, nothing
	for kind := -1; kind <= 9; kind++ {
		b := underWay(t, 3)
		ahead := b.w.Under()
		b.must(api.OK, api.Event{Kind: api.EvRewrite, N: 1, Rewrite: api.Rewrite{Kind: kind, N: 3, M: 20, Text: "x y z"}})
		now := b.w.Under()
		if !bytes.Equal(now[0].Bytes, ahead[0].Bytes) || !bytes.Equal(now[2].Bytes, ahead[2].Bytes) || now[1].To != 1 {
			t.Errorf("%d: others changed", kind)
		}
		if slices.Contains([]int{api.RwBare, api.RwCase, api.RwAdd, api.RwOrder}, kind) == bytes.Equal(now[1].Bytes, ahead[1].Bytes) {
			t.Errorf("%d: %q", kind, now[1].Bytes)
		}
		b.must(api.OK, carry(1))
		b.must(api.OK, fetch(1, 0, 1))
		if got := bodies(b.w); got != "1:1 " {
			t.Errorf("%d: %s", kind, got)
		}
	}
}

func TestFetch(t *testing.T) { // P23.1: EvFetch: the mail at the place N of the box, its flags, and Receive's answer
	for _, c := range []struct{ n, place int }{{0, 0}, {2, 2}, {3, 0}, {-1, 2}, {-4, 2}, {-6, 0}, {math.MinInt, 1}, {math.MaxInt, 1}} {
		b := newTwo(t, 2, 3000)
		for i := range 3 {
			b.must(api.OK, send(0, 1, "t", fmt.Sprint(i), false, 0))
			b.must(api.OK, post(0))
			b.must(api.OK, carry(0))
		}
		b.must(api.ErrNone, fetch(0, c.n, 1))
		b.must(api.OK, fetch(1, c.n, 1))
		b.must(api.ErrOld, fetch(1, c.n, 1))
		want := []int{0, 0, 0}
		want[c.place] = api.FlagTaken | api.FlagSeen
		for i, mail := range b.w.Inbox(1) {
			if mail.Flags != want[i] || mail.Uid != i+1 {
				t.Errorf("%d: %d has %d", c.n, i, mail.Flags)
			}
		}
		if got := bodies(b.w); got != fmt.Sprintf("1:%d ", c.place) {
			t.Errorf("%d: %s", c.n, got)
		}
	}
}

func TestFetchFlags(t *testing.T) { // P23.1: FlagTaken, or FlagSeen, in addition to the flags that there are
	for flags := range 16 {
		for _, takes := range []bool{true, false} {
			b := underWay(t, 2)
			if !takes {
				b.must(api.OK, api.Event{Kind: api.EvCorrupt, N: 1, M: 0, Turn: 32 ^ '-'})
				b.must(api.OK, api.Event{Kind: api.EvRewrite, N: 1, Rewrite: api.Rewrite{Kind: api.RwBare}})
			}
			b.must(api.OK, carry(1))
			if flags > 0 {
				b.w.box.Mark("in1", 1, flags)
				b.slow.boxes[1][0].Flags = flags
			}
			code := b.do(fetch(1, 0, 1))
			want := flags | api.FlagSeen
			if takes {
				want = flags | api.FlagTaken
			}
			if got := b.w.Inbox(1)[0].Flags; got != want || (code == api.OK) != takes {
				t.Errorf("%d: %d, %v", flags, got, code)
			}
		}
	}
}

func TestFetchGaps(t *testing.T) { // P23.1: the place N is one of those that there are, by the numbers
	w := newWorld(t, 2, 3000)
	for i := range 4 {
		for _, e := range []api.Event{send(0, 1, "t", fmt.Sprint(i), false, 0), post(0), carry(0)} {
			if code := w.Do(e); code != api.OK {
				t.Fatal(code)
			}
		}
	}
	w.box.Mark("in1", 2, api.FlagDeleted)
	if gone, code := w.box.Expunge("in1"); len(gone) != 1 || code != api.OK {
		t.Fatal(gone, code)
	}
	for i, want := range []string{"1:0 ", "1:0 1:2 ", "1:0 1:2 1:3 "} {
		if code := w.Do(fetch(1, i, 1)); code != api.OK || bodies(w) != want {
			t.Errorf("%d: %v, %s", i, code, bodies(w))
		}
	}
	if code := w.Do(fetch(1, 3, 1)); code != api.ErrOld {
		t.Error(code)
	}
}

func TestFetchErrors(t *testing.T) { // P23.1: Receive's errors, each seen; the mail stays in its box
	b := newTwo(t, 3, 3000)
	b.meet(0, 1)
	b.must(api.OK, send(0, 1, "t", "one", true, 1))
	b.must(api.OK, send(0, 1, "t", "two", true, 1))
	b.must(api.OK, send(1, 0, "t", "open", false, 1))
	for _, who := range []int{0, 0, 1} {
		b.must(api.OK, post(who))
	}
	b.must(api.OK, api.Event{Kind: api.EvCarry, N: 1, Stays: true})
	b.must(api.OK, api.Event{Kind: api.EvCorrupt, N: 1, M: bytes.Index(b.w.Under()[1].Bytes, []byte("octet-stream")) + 240, Turn: 'A' ^ 'B'})
	for range 3 {
		b.must(api.OK, carry(0))
	}
	b.must(api.ErrSecured, fetch(0, 1, 3)) // the first mail in each box is a hello
	if code := b.do(fetch(1, 3, 4)); code != api.ErrTag && code != api.ErrForm {
		t.Error(code)
	}
	b.must(api.OK, fetch(1, 1, 5))
	b.must(api.OK, fetch(1, 2, 6))
	b.must(api.ErrOld, fetch(1, 2, 7))
	var flags []int
	for _, mail := range slices.Concat(b.w.Inbox(0), b.w.Inbox(1)) {
		flags = append(flags, mail.Flags)
	}
	if !slices.Equal(flags, []int{8, 1, 8, 8, 9, 1}) {
		t.Errorf("%v", flags)
	}
}

func TestFetchFull(t *testing.T) { // P23.1: an agent without room answers ErrFull, and the mail is seen alone
	b := newTwo(t, 2, 40)
	big := string(bytes.Repeat([]byte{'x'}, 300))
	var codes []api.Errno
	for range 4 {
		codes = append(codes, b.do(send(0, 0, "t", "own", false, 0)), b.do(post(0)))
		b.do(api.Event{Kind: api.EvCarry, Stays: true})
		codes = append(codes, b.do(carry(0)), b.do(fetch(0, -1, 1)), b.do(send(1, 0, "t", big, false, 0)))
	}
	if !slices.Contains(codes, api.ErrFull) {
		t.Errorf("%v", codes)
	}
	b.settle(api.Key{7})
}

func TestCrash(t *testing.T) { // P23.1: EvCrash: what was answered lasts, and the agent goes on with its keys
	for _, picks := range [][]byte{nil, {0}, {1}, {2}, {5, 1, 0}, {255}} {
		b := newTwo(t, 2, 3000)
		held := b.w.Agent(0)
		b.meet(0, 1)
		b.must(api.OK, send(0, 1, "t", "one", true, 1))
		ahead := tellWorld(b.w)
		for who := range 2 {
			b.must(api.OK, api.Event{Kind: api.EvCrash, Who: who, Body: picks})
			if now := tellWorld(b.w); now != ahead {
				t.Fatalf("%v: %s\nnot %s", picks, now, ahead)
			}
		}
		b.must(api.OK, send(0, 1, "t", "two", true, 2))
		b.settle(api.Key{3})
		b.must(api.OK, send(1, 0, "t", "back", true, 2))
		b.settle(api.Key{4})
		if got := bodies(b.w); got != "0:hi 0:back 1:hello 1:one 1:two " {
			t.Error(got)
		}
		// Who holds an agent from ahead of a crash holds the one that goes on.
		if got, want := tellAgent(held), tellAgent(b.w.Agent(0)); got != want {
			t.Errorf("%s\nnot %s", got, want)
		}
	}
}

func TestCrashError(t *testing.T) { // P23.1: an agent that can't be opened again: its error, and the world goes on with the one that there was
	w := newWorld(t, 2, 300)
	if code := w.Do(send(0, 1, "t", "x", false, 0)); code != api.OK {
		t.Fatal(code)
	}
	ahead := tellWorld(w)
	// A disk that something else wrote to, as no event does: no generation is left.
	last := w.members[0].disk.Size() - 1
	w.members[0].disk.Write(last, api.Block{255, 255, 255, 255})
	w.members[0].disk.Sync()
	if code := w.Do(api.Event{Kind: api.EvCrash}); code != api.ErrFull || tellWorld(w) != ahead {
		t.Errorf("%v, %s", code, tellWorld(w))
	}
	if code := w.Do(api.Event{Kind: api.EvCrash, Who: 1}); code != api.OK || tellWorld(w) != ahead {
		t.Errorf("%v, %s", code, tellWorld(w))
	}
	// Of what doesn't last the picks tell which writes are done, lost, torn.
	w.members[1].disk.Write(last, api.Block{0, 0, 0, 0, 7, 7})
	w.members[1].disk.Write(last-1, api.Block{0, 0, 0, 0, 7, 7})
	if code := w.Do(api.Event{Kind: api.EvCrash, Who: 1, Body: []byte{2 + 3*5, 0}}); code != api.OK {
		t.Error(code)
	}
	first, _ := w.members[1].disk.Read(last)
	second, _ := w.members[1].disk.Read(last - 1)
	if first != (api.Block{0, 0, 0, 0, 7}) || second != (api.Block{}) {
		t.Errorf("%v, %v", first, second)
	}
}

func TestReset(t *testing.T) { // P23.1: EvReset
	b := newTwo(t, 2, 3000)
	b.meet(0, 1)
	reset := api.Event{Kind: api.EvReset, Thread: "t"}
	b.must(api.ErrNone, reset)
	b.must(api.OK, send(0, 1, "t", "one", true, 1))
	b.must(api.ErrNone, api.Event{Kind: api.EvReset, Who: 1, Thread: "t"})
	b.must(api.ErrNone, api.Event{Kind: api.EvReset, Thread: "u"})
	b.must(api.OK, reset)
	b.must(api.ErrNone, reset)
	b.must(api.OK, send(0, 1, "t", "two", false, 1))
	if sent := b.w.Sent(); !sent[2].Sealed || sent[3].Sealed {
		t.Errorf("%v", sent)
	}
}

func TestServerFull(t *testing.T) { // P23.1: Deliver's error: what has no room stays under way
	w := newWorld(t, 2, api.MaxBlocks)
	must := func(want api.Errno, e api.Event) {
		t.Helper()
		if code := w.Do(e); code != want {
			t.Fatalf("%v, not %v", code, want)
		}
	}
	must(api.OK, api.Event{Kind: api.EvSend, To: 1, Thread: "t", Body: make([]byte, 600000)})
	must(api.OK, send(0, 1, "t", "small", false, 0))
	must(api.OK, post(0))
	must(api.OK, post(0))
	must(api.OK, api.Event{Kind: api.EvCarry, Stays: true})
	ahead := tellWorld(w)
	must(api.ErrFull, api.Event{Kind: api.EvCarry, Stays: true})
	must(api.ErrFull, carry(0))
	if tellWorld(w) != ahead {
		t.Error("ErrFull, and something changed")
	}
	// Settle carries the first one alone, as long as that is OK: the others wait behind it.
	w.Settle(api.Key{1})
	if len(w.Under()) != 2 || len(w.Inbox(1)) != 1 || w.Inbox(1)[0].Flags != api.FlagTaken {
		t.Errorf("%d under way, %d in the box", len(w.Under()), len(w.Inbox(1)))
	}
	must(api.OK, api.Event{Kind: api.EvDrop})
	w.Settle(api.Key{2})
	if notes := w.Agent(1).Notes(); len(w.Under()) != 0 || len(notes) != 2 || string(notes[1].Body) != "small" {
		t.Errorf("%d under way, %d notes", len(w.Under()), len(notes))
	}
}

func TestServerBlocks(t *testing.T) { // P23.1: the server's disk has MaxBlocks blocks
	w := newWorld(t, 2, 300)
	// Of a half's blocks, of 42 bytes each, the two pairs take 44 beside the mail.
	const most = api.MaxBlocks/2*42 - 44
	for _, c := range []struct {
		size int
		want api.Errno
	}{{api.MaxMail + 1, api.ErrTooLarge}, {api.MaxMail, api.ErrFull}, {most + 1, api.ErrFull}, {most, api.OK}, {0, api.ErrFull}} {
		w.under = []api.Under{{To: 1, Bytes: make([]byte, c.size)}}
		if code := w.Do(carry(0)); code != c.want || (len(w.under) == 0) != (code == api.OK) {
			t.Errorf("%d bytes: %v, not %v, %d under way", c.size, code, c.want, len(w.under))
		}
	}
	if list := w.Inbox(1); len(list) != 1 || len(list[0].Bytes) != most {
		t.Errorf("%d in the box", len(list))
	}
	// A mail that fills it all is marked, too.
	if code := w.Do(fetch(1, 0, 1)); code == api.OK || w.Inbox(1)[0].Flags != api.FlagSeen {
		t.Errorf("%v, %d", code, w.Inbox(1)[0].Flags)
	}
}

func TestEvents(t *testing.T) { // P23.1, P23.2: events of no order, held against a slow world
	all := map[api.Errno]int{}
	for first := range 24 {
		roll := dice(first)
		agents := 1 + first%4
		b := newTwo(t, agents, []int{120, 400, 2500}[first/4%3])
		codes := map[api.Errno]int{}
		for range 120 {
			kinds := []int{1, 1, 1, 1, 1, 2, 2, 2, 2, 3, 3, 3, 4, 5, 5, 6, 7, 7, 7, 7, 8, 9, 10}
			e := someEvent(roll, kinds[roll(len(kinds))], agents)
			switch roll(25) {
			case 0:
				e.Who = someNumber(roll)
			case 1:
				e.To = someNumber(roll)
			case 2:
				e.Thread = someThreads()[roll(6)]
			}
			codes[b.do(e)]++
			if roll(30) == 0 {
				b.settle(someKey(roll))
			}
		}
		b.settle(someKey(roll))
		for code, times := range codes {
			all[code] += times
		}
	}
	for _, code := range []api.Errno{api.OK, api.ErrArg, api.ErrRange, api.ErrForm, api.ErrFull, api.ErrNone, api.ErrTag, api.ErrOld, api.ErrNoRoute, api.ErrSecured, api.ErrThere} {
		if all[code] == 0 {
			t.Errorf("none is %v: %v", code, all)
		}
	}
	if all[api.OK] < 1000 {
		t.Error(all)
	}
}
