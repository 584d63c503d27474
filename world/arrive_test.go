package world

import (
	"bytes"
	"encoding/base64"
	"fmt"
	"slices"
	"testing"

	"despatch/api"
	"despatch/pack"
)

// watched is a world of which what goes, and what is delivered, is checked as events happen.
type watched struct {
	t    *testing.T
	w    *World
	roll func(n int) int
}

// newWatched gives a world whose agents know each other's keys, and begin no thread.
func newWatched(t *testing.T, first, agents, blocks int) watched {
	t.Helper()
	v := watched{t, newWorld(t, agents, blocks), dice(first)}
	for n := range agents {
		for to := range agents {
			v.do(send(n, to, "hello", "hello", false, 0))
		}
	}
	v.w.Settle(someKey(v.roll))
	return v
}

// do does an event, and checks that a mail of a secured thread goes enciphered.
func (v watched) do(e api.Event) api.Errno {
	v.t.Helper()
	a := v.w.Agent(e.Who)
	secured := e.Kind == api.EvSend && a != nil && a.Secured(e.Thread)
	code := v.w.Do(e)
	if e.Kind != api.EvSend || code != api.OK {
		return code
	}
	waiting := a.Outbox()
	mail := waiting[len(waiting)-1].Bytes
	sealed := pack.Sealed(mail)
	told := v.w.Sent()[len(v.w.Sent())-1]
	if sealed != (secured || e.Secure) || sealed != told.Sealed || sealed != a.Secured(e.Thread) {
		v.t.Fatalf("%v goes %t", e, sealed)
	}
	signs := []byte(base64.StdEncoding.EncodeToString(e.Body))
	if sealed && len(signs) > 20 && bytes.Contains(bytes.ReplaceAll(mail, []byte("\r\n"), nil), signs) {
		v.t.Fatalf("%v goes in the open", e)
	}
	return code
}

// judge checks that what was delivered was sent, each mail once, and gives the ids of what wasn't delivered. When some were corrupted this is checked of what came enciphered.
func (v watched) judge(corrupts bool) (missing []string) {
	v.t.Helper()
	sent := map[string]api.Sent{}
	for _, mail := range v.w.Sent() {
		sent[mail.From+" "+mail.Id] = mail
	}
	had := map[string]int{}
	for n := range 4 {
		a := v.w.Agent(n)
		if a == nil {
			continue
		}
		for _, note := range a.Notes() {
			place := note.From + " " + note.Id
			if had[place]++; had[place] > 1 && !corrupts {
				v.t.Fatalf("%v is there twice", note)
			}
			if corrupts && !note.Sealed {
				continue
			}
			if mail, was := sent[place]; !was || mail.To != Name(n) || mail.Thread != note.Thread || mail.Sealed != note.Sealed || !bytes.Equal(mail.Body, note.Body) {
				v.t.Fatalf("%v was not sent, but %v", note, mail)
			}
		}
	}
	for _, mail := range v.w.Sent() {
		if _, is := had[mail.From+" "+mail.Id]; !is {
			missing = append(missing, mail.Id)
		}
	}
	return missing
}

func TestDelivered(t *testing.T) { // P23.3: what is delivered is what was sent, at most once, whatever happens but that somebody corrupts
	for first := range 16 {
		agents := 2 + first%3
		v := newWatched(t, first, agents, []int{400, 6000}[first%2])
		for range 220 {
			kinds := []int{1, 1, 1, 1, 1, 2, 2, 2, 2, 3, 3, 3, 4, 5, 5, 5, 7, 7, 7, 7, 8, 9}
			v.do(someEvent(v.roll, kinds[v.roll(len(kinds))], agents))
		}
		v.judge(false)
		v.w.Settle(someKey(v.roll))
		v.judge(false)
	}
}

func TestCorrupted(t *testing.T) { // P23.3: who corrupts makes nobody take for enciphered what wasn't sent so
	for first := range 8 {
		v := newWatched(t, 100+first, 3, 6000)
		for range 200 {
			kinds := []int{1, 1, 1, 1, 2, 2, 2, 2, 3, 3, 3, 5, 6, 6, 7, 7, 7, 7, 8, 9}
			v.do(someEvent(v.roll, kinds[v.roll(len(kinds))], 3))
		}
		v.w.Settle(someKey(v.roll))
		v.judge(true)
	}
}

// talks gives an event in which somebody writes to another one: in a thread that one of the two begins, and the other one goes on with as soon as it has come; or in a thread in which all goes in the open.
func (v watched) talks(agents int) api.Event {
	from, to := v.roll(agents), v.roll(agents)
	e := api.Event{Kind: api.EvSend, Who: from, To: to, Thread: "open", Body: someBody(v.roll), Fresh: someKey(v.roll)}
	begins := fmt.Sprintf("%d-%d", from, to)
	goesOn := fmt.Sprintf("%d-%d", to, from)
	switch {
	case from == to || v.roll(4) == 0:
	case v.roll(2) == 0 && v.w.Agent(from).Secured(goesOn):
		e.Thread = goesOn
	default:
		e.Thread, e.Secure = begins, true
	}
	return e
}

// mild gives what a relay may do again and again without a head's, or a mail's, becoming too large.
func (v watched) mild() api.Rewrite {
	x := someRewrite(v.roll)
	x.Text = x.Text[:min(len(x.Text), 20)]
	return x
}

func TestArrives(t *testing.T) { // P23.3: all that was sent is delivered when all settles, in whatever order it came, doubled and rewritten, with crashes between
	for first := range 12 {
		agents := 2 + first%3
		v := newWatched(t, 200+first, agents, 20000)
		for i := range 260 {
			kinds := []int{1, 1, 1, 1, 2, 2, 2, 2, 3, 3, 5, 5, 5, 7, 7, 7, 8}
			e := someEvent(v.roll, kinds[v.roll(len(kinds))], agents)
			e.Rewrite = v.mild()
			if e.Kind == api.EvSend {
				e = v.talks(agents)
			}
			code := v.do(e)
			if e.Kind == api.EvSend && code != api.OK {
				t.Fatalf("%v: %v", e, code)
			}
			if i%90 == 89 {
				v.w.Settle(someKey(v.roll))
				if missing := v.judge(false); len(missing) > 0 {
					t.Fatalf("%d: %q didn't arrive", first, missing)
				}
			}
		}
		v.w.Settle(someKey(v.roll))
		if missing := v.judge(false); len(missing) > 0 || len(v.w.Under()) > 0 || len(v.w.Sent()) < 40 {
			t.Errorf("%d: %q of %d didn't arrive", first, missing, len(v.w.Sent()))
		}
	}
}

func TestDropped(t *testing.T) { // P23.3: what is dropped is missing, and nothing else
	for first := range 6 {
		v := newWatched(t, 300+first, 3, 20000)
		var dropped []string
		for range 200 {
			kinds := []int{1, 1, 1, 2, 2, 2, 3, 4, 5, 7, 7, 8}
			e := someEvent(v.roll, kinds[v.roll(len(kinds))], 3)
			e.Rewrite, e.Stays = v.mild(), false
			if e.Kind == api.EvSend {
				e = v.talks(3)
			}
			if under := v.w.Under(); e.Kind == api.EvDrop && len(under) > 0 {
				mail := under[slowPlace(e.N, len(under))].Bytes
				for _, sent := range v.w.Sent() {
					if bytes.Contains(mail, []byte("<"+sent.Id+">")) {
						dropped = append(dropped, sent.Id)
					}
				}
			}
			v.do(e)
		}
		v.w.Settle(someKey(v.roll))
		missing := v.judge(false)
		slices.Sort(missing)
		slices.Sort(dropped)
		if !slices.Equal(missing, dropped) || len(dropped) == 0 {
			t.Errorf("%d: missing %q, dropped %q", first, missing, dropped)
		}
	}
}

func TestExamples(t *testing.T) { // the document's eight examples, of a whole world
	b := newTwo(t, 2, 3000)
	b.must(api.ErrNoRoute, send(0, 1, "tea", "secret", true, 1))
	b.must(api.ErrNone, post(0))
	b.must(api.OK, send(1, 0, "hello", "hello", false, 0)) // 2
	b.settle(api.Key{1})
	for _, body := range []string{"one", "two", "three", "four"} {
		b.must(api.OK, send(0, 1, "tea", body, true, 2))
		b.must(api.OK, post(0))
	}
	if mails := b.w.Under(); !pack.Sealed(mails[0].Bytes) || pack.Sealed(b.w.Inbox(0)[0].Bytes) {
		t.Error("2: the answer is enciphered, the hello isn't")
	}
	for _, n := range []int{2, 0, 0} { // 3
		b.must(api.OK, api.Event{Kind: api.EvCarry, N: n})
		b.must(api.OK, fetch(1, -1, byte(3+n)))
	}
	if got := bodies(b.w); got != "0:hello 1:three 1:one 1:two " {
		t.Error("3:", got)
	}
	b.must(api.ErrOld, fetch(1, 1, 7))                                           // 4
	for _, kind := range []int{api.RwFold, api.RwDrop, api.RwWrap, api.RwBare} { // 5
		for n := range 6 {
			b.must(api.OK, api.Event{Kind: api.EvRewrite, Rewrite: api.Rewrite{Kind: kind, N: n, M: 19}})
		}
	}
	whole := b.w.Under()[0].Bytes
	at := bytes.Index(whole, []byte("octet-stream")) + 150 // 6
	b.must(api.OK, api.Event{Kind: api.EvCarry, Stays: true})
	b.must(api.OK, api.Event{Kind: api.EvCorrupt, M: at, Turn: 1})
	b.must(api.OK, carry(0))
	session, _ := b.w.Agent(1).Session("tea")
	if code := b.do(fetch(1, -1, 8)); code != api.ErrForm && code != api.ErrTag {
		t.Error("6:", code)
	}
	if now, _ := b.w.Agent(1).Session("tea"); fmt.Sprint(now) != fmt.Sprint(session) {
		t.Error("6: the session is another one")
	}
	b.must(api.OK, fetch(1, -2, 8))
	b.must(api.OK, api.Event{Kind: api.EvCrash, Who: 1, Body: []byte{1, 0}}) // 7
	if got := bodies(b.w); got != "0:hello 1:three 1:one 1:two 1:four " {
		t.Error("7:", got)
	}
	b.must(api.OK, send(1, 0, "coffee", "in the open", false, 0)) // 8
	b.must(api.OK, send(0, 1, "coffee", "secured meanwhile", true, 9))
	b.must(api.OK, post(1))
	b.must(api.OK, carry(0))
	b.must(api.ErrSecured, fetch(0, -1, 9))
}
