package agent

import (
	"bytes"
	"fmt"
	"slices"
	"testing"

	"despatch/api"
	"despatch/bundle"
	"despatch/curve"
	"despatch/disk"
	"despatch/pack"
	"despatch/ratchet"
)

// way is some agents, what they sent, and the mails that are on their way, which come in any order, and more than once.
type way struct {
	t    *testing.T
	all  []*one
	sent map[string]api.Envelope // by From and Id; Cipher is the body
	on   [][]byte
	seen map[string]int // the places of keys that were used
	roll func(n int) int
}

// names and threads that agents use in a way.
func wayNames() []string   { return []string{"ann@x", "bob@y", "eve@z.org"} }
func wayThreads() []string { return []string{"a", "b", "c@d"} }

// newWay gives agents that know nobody.
func newWay(t *testing.T, first, blocks int) *way {
	t.Helper()
	w := &way{t: t, sent: map[string]api.Envelope{}, seen: map[string]int{}, roll: dice(first)}
	for i, name := range wayNames() {
		w.all = append(w.all, newOne(t, name, byte(i+1), blocks))
	}
	return w
}

// fresh gives a key that none had yet.
func (w *way) fresh() api.Key {
	k := api.Key{byte(w.roll(256)), byte(w.roll(256)), byte(w.roll(256)), byte(w.roll(256)), byte(w.roll(256)), 77}
	return k
}

// send lets somebody write a mail, and checks that no key was used ahead.
func (w *way) send(o *one) {
	w.t.Helper()
	to, thread := wayNames()[w.roll(3)], wayThreads()[w.roll(3)]
	body := bytes.Repeat([]byte{byte(w.roll(256))}, w.roll(60))
	was := o.agent.Secured(thread)
	if o.send(to, thread, body, w.roll(2) == 0, w.fresh()) != api.OK {
		return
	}
	e := envelopeOf(w.t, o.last())
	if was && e.Plain || e.Plain == o.agent.Secured(thread) {
		w.t.Fatalf("%v: a thread that is secured goes in the open", e)
	}
	if !e.Plain {
		w.useKey(e)
	}
	w.on = append(w.on, o.last())
	e.Cipher = body
	w.sent[e.From+" "+e.Id] = e
}

// useKey notes the key of a sealed mail, which none may have had.
func (w *way) useKey(e api.Envelope) {
	w.t.Helper()
	c, is := cutCipher(e.Cipher)
	h, _, code := ratchet.Head(c.sealed)
	if !is || code != api.OK {
		w.t.Fatalf("%v: %v", e, code)
	}
	place := fmt.Sprint(h.Chain, h.Number)
	if _, used := w.seen[place]; used {
		w.t.Fatalf("%v: a key is used twice", e)
	}
	w.seen[place] = 1
}

// carry lets a mail come to whom it is for, or to another one.
func (w *way) carry(wrong bool) api.Errno {
	w.t.Helper()
	if len(w.on) == 0 {
		return api.ErrNone
	}
	at := w.roll(len(w.on))
	mail := bytes.Clone(w.on[at])
	e := envelopeOf(w.t, mail)
	to := w.all[slices.Index(wayNames(), e.To)]
	if wrong {
		to = w.all[w.roll(3)]
		mail[w.roll(len(mail))] ^= 1 << w.roll(8)
	}
	code := to.receive(mail, w.fresh())
	if code == api.OK && w.roll(2) == 0 {
		w.on = slices.Delete(w.on, at, at+1)
	}
	return code
}

// judge checks that what was delivered was sent, once.
func (w *way) judge(sealedAlone bool) {
	w.t.Helper()
	for i, o := range w.all {
		had := map[string]int{}
		for _, n := range o.agent.Notes() {
			id := n.From + " " + n.Id
			if _, twice := had[id]; twice {
				w.t.Fatalf("%v is there twice", n)
			}
			had[id] = 1
			if sealedAlone && !n.Sealed {
				continue
			}
			e, was := w.sent[id]
			if !was || e.To != wayNames()[i] || e.Thread != n.Thread || e.Plain == n.Sealed || !bytes.Equal(e.Cipher, n.Body) {
				w.t.Fatalf("%v was not sent, but %v", n, e)
			}
		}
	}
}

func TestSome(t *testing.T) { // P22.1 to P22.5: calls of no order, held against the slow form, and what comes of them
	for first := range 8 {
		w := newWay(t, first, 2500)
		spoils := first%2 == 1
		codes := map[api.Errno]int{}
		for range 90 {
			o := w.all[w.roll(3)]
			switch n := w.roll(40); {
			case n < 14:
				w.send(o)
			case n < 30:
				codes[w.carry(false)]++
			case n < 33 && spoils:
				codes[w.carry(true)]++
			case n < 35:
				o.posted(w.roll(12))
			case n < 38:
				o.crash([]byte{byte(w.roll(256)), byte(w.roll(256))})
			case n < 39:
				o.reset(wayThreads()[w.roll(3)])
			}
			o.check(wayThreads(), wayNames())
		}
		w.judge(spoils)
		if codes[api.OK] < 5 || codes[api.ErrOld] == 0 {
			t.Errorf("%d: %v", first, codes)
		}
	}
}

func TestTalk(t *testing.T) { // P22.4, P22.5: two who talk read all, in whatever order the mails come
	for first := range 6 {
		w := newWay(t, 50+first, 3000)
		ann, bob := w.all[0], w.all[1]
		ann.meet(bob)
		for range 16 {
			from, to := ann, bob
			if w.roll(2) == 0 {
				from, to = bob, ann
			}
			// Bob doesn't begin the thread, too: neither of two starts would be taken.
			if from == ann || bob.agent.Secured("t") {
				if code := from.send(to.agent.address, "t", []byte{byte(w.roll(256))}, true, w.fresh()); code != api.OK {
					t.Fatal(code)
				}
				w.on = append(w.on, from.last())
			}
			for w.roll(2) == 0 && len(w.on) > 0 {
				w.takeOne()
			}
		}
		for len(w.on) > 0 {
			w.takeOne()
		}
	}
}

// takeOne lets one of the mails on their way come, which must be taken.
func (w *way) takeOne() {
	w.t.Helper()
	at := w.roll(len(w.on))
	mail := w.on[at]
	w.on = slices.Delete(w.on, at, at+1)
	e := envelopeOf(w.t, mail)
	to := w.all[slices.Index(wayNames(), e.To)]
	if code := to.receive(mail, w.fresh()); code != api.OK || !pack.Sealed(mail) {
		w.t.Fatalf("%s to %s: %v", e.Id, e.To, code)
	}
	if code := to.receive(mail, w.fresh()); code != api.ErrOld {
		w.t.Fatalf("%s to %s again: %v", e.Id, e.To, code)
	}
}

// fates are picks by which a call's blocks are lost, done, or torn.
func fates(roll func(n int) int) [][]byte {
	list := [][]byte{{0}, {1}, {2}, {0, 1}, {1, 0}, {1, 1, 0}, {0, 0, 1}, {5, 1}, {1, 2 + 3*63}, {2 + 3*9}}
	for range 8 {
		b := make([]byte, 1+roll(12))
		for i := range b {
			b[i] = byte(roll(256))
		}
		list = append(list, b)
	}
	return list
}

// holdCrash does a call, and checks that behind a crash while its blocks are written all of it, or nothing, is known.
func (o *one) holdCrash(roll func(n int) int, call func()) {
	o.t.Helper()
	ahead := o.disk.Twin()
	before := valuesOf(storeOn(o.t, o.disk))
	call()
	after := valuesOf(storeOn(o.t, o.disk))
	for _, picks := range fates(roll) {
		d := ahead.Twin()
		writeChanged(d, o.disk)
		d.Crash(picks)
		a, code := Open(d, o.agent.address, api.Key{}, api.Key{})
		if code != api.OK {
			o.t.Fatal(code)
		}
		if now := valuesOf(storeOn(o.t, d)); now != before && now != after {
			o.t.Fatalf("picks %v: %.1000s\nis neither %.1000s\nnor %.1000s", picks, now, before, after)
		}
		a.Outbox()
	}
}

// writeChanged writes the blocks of a disk in which another one differs.
func writeChanged(d, other *disk.Disk) {
	for n := range d.Size() {
		was, _ := d.Read(n)
		if is, _ := other.Read(n); is != was {
			d.Write(n, is)
		}
	}
}

func TestCrashOnTheWay(t *testing.T) { // P22.5: of a call on its way, all or nothing
	for _, blocks := range []int{180, 400, 3000} {
		roll := dice(blocks)
		o, bob := newOne(t, "ann@x", 1, blocks), newOne(t, "bob@y", 2, 3000)
		o.holdCrash(roll, func() { o.meet(bob) })
		for i := range 8 {
			o.holdCrash(roll, func() { o.send("bob@y", "t", []byte{byte(i)}, true, api.Key{9, byte(i)}) })
			if i > 0 && bob.receive(o.last(), api.Key{8, byte(i)}) != api.OK {
				t.Fatal("receive")
			}
			if i > 0 {
				bob.send("ann@x", "t", []byte("back"), true, api.Key{7})
				o.holdCrash(roll, func() { o.receive(bob.last(), api.Key{6, byte(i)}) })
				bob.posted(len(bob.agent.Outbox()) + 1)
			}
			o.holdCrash(roll, func() { o.posted(i + 1) })
		}
		o.holdCrash(roll, func() { o.reset("t") })
		if o.agent.Secured("t") || len(o.agent.Notes()) < 5 {
			t.Errorf("%d blocks: too little was done", blocks)
		}
	}
}

func TestCrashBegun(t *testing.T) { // P22.5: who crashes while the first mail of a thread is written begins with another key, and the other one reads it
	o, bob := newOne(t, "ann@x", 1, 3000), newOne(t, "bob@y", 2, 3000)
	o.meet(bob)
	ahead := o.disk.Twin()
	if o.send("bob@y", "t", []byte("lost"), true, api.Key{9}) != api.OK {
		t.Fatal("send")
	}
	writeChanged(ahead, o.disk)
	ahead.Crash([]byte{1, 0})
	o.disk = ahead
	o.crash(nil)
	if o.agent.Secured("t") || len(o.agent.Outbox()) != 0 {
		t.Fatal("half of a mail is known")
	}
	if id, code := o.agent.Send("bob@y", "t", []byte("again"), true, api.Key{10}); id != "1.ann@x" || code != api.OK {
		t.Fatal(id, code)
	}
	if bob.receive(o.last(), api.Key{8}) != api.OK || string(bob.agent.Notes()[0].Body) != "again" {
		t.Error("receive")
	}
}

func TestExamples(t *testing.T) { // the document's eight examples, as far as agents go
	ann, bob := newOne(t, "ann@x", 1, 3000), newOne(t, "bob@y", 2, 3000)
	if code := ann.send("bob@y", "t", []byte("x"), true, api.Key{9}); code != api.ErrNoRoute || len(ann.agent.Outbox()) != 0 {
		t.Error("1:", code)
	}
	ann.meet(bob)
	if peer, known := ann.agent.Peer("bob@y"); !known || peer != bundle.Of(curve.New(api.Key{2, 1}), curve.New(api.Key{2, 2})) {
		t.Error("2: one hello tells keys")
	}
	var mails [][]byte
	for i := range 3 {
		if ann.send("bob@y", "t", []byte{byte(i)}, true, api.Key{9}) != api.OK || !pack.Sealed(ann.last()) {
			t.Error("2: the answer")
		}
		mails = append(mails, ann.last())
	}
	for _, i := range []int{2, 0, 1} {
		if code := bob.receive(mails[i], api.Key{8, byte(i)}); code != api.OK {
			t.Error("3:", code)
		}
	}
	if code := bob.receive(mails[1], api.Key{7}); code != api.ErrOld {
		t.Error("4:", code)
	}
	if code := ann.receive([]byte(mailOf(t, plainMail("bob@y", "ann@x", "5", "t", "open"))), api.Key{7}); code != api.ErrSecured {
		t.Error("8:", code)
	}
	session, _ := bob.agent.Session("t")
	turned := bytes.Clone(mails[0])
	turned[bytes.Index(turned, []byte("octet-stream"))+80] ^= 1
	turned = bytes.Replace(turned, []byte("<2.ann@x>"), []byte("<9.ann@x>"), 1)
	code := bob.receive(turned, api.Key{7})
	if now, _ := bob.agent.Session("t"); code != api.ErrForm && code != api.ErrTag && code != api.ErrOld || encoded(t, now) != encoded(t, session) {
		t.Error("6:", code)
	}
}
