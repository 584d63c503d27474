package agent

import (
	"bytes"
	"fmt"
	"reflect"
	"slices"
	"testing"

	"despatch/api"
	"despatch/bundle"
	"despatch/curve"
	"despatch/disk"
	"despatch/letter"
	"despatch/pack"
	"despatch/ratchet"
	"despatch/store"
)

// one is an agent that is held against a slow one at each call.
type one struct {
	t     *testing.T
	disk  *disk.Disk
	agent *Agent
}

// newOne gives an agent on a new disk, whose pairs' numbers begin with a byte.
func newOne(t *testing.T, address string, first byte, blocks int) *one {
	t.Helper()
	o := &one{t: t, disk: newDisk(t, blocks)}
	a, code := Open(o.disk, address, api.Key{first, 1}, api.Key{first, 2})
	if code != api.OK {
		t.Fatal(code)
	}
	o.agent = a
	return o
}

// blocksOf gives a disk's blocks.
func blocksOf(d *disk.Disk) []api.Block {
	blocks := make([]api.Block, d.Size())
	for n := range blocks {
		blocks[n], _ = d.Read(n)
	}
	return blocks
}

// hold does the same with the agent and with a slow one, and checks that what they answer, and know then, is one.
func (o *one) hold(what string, does func(a *Agent) (string, api.Errno), slow func(a slowAgent) (string, api.Errno)) (string, api.Errno) {
	o.t.Helper()
	ahead := o.disk.Twin()
	twin := storeOn(o.t, o.disk)
	wantText, wantCode := slow(slowOf(o.t, twin))
	text, code := does(o.agent)
	if text != wantText || code != wantCode {
		o.t.Fatalf("%s: %.100q, %v, not %.100q, %v", what, text, code, wantText, wantCode)
	}
	if got, want := valuesOf(storeOn(o.t, o.disk)), valuesOf(twin); got != want {
		o.t.Fatalf("%s: it knows %.3000s\nnot %.3000s", what, got, want)
	}
	if code != api.OK && !slices.Equal(blocksOf(ahead), blocksOf(o.disk)) {
		o.t.Fatalf("%s: %v, and the disk changed", what, code)
	}
	if o.disk.Pending() != 0 {
		o.t.Fatalf("%s: %d writes don't last", what, o.disk.Pending())
	}
	return text, code
}

// send does Send, and gives its error.
func (o *one) send(to, thread string, body []byte, secure bool, fresh api.Key) api.Errno {
	o.t.Helper()
	own := bytes.Clone(body)
	what := fmt.Sprintf("send %.50q %.50q %.20q %t", to, thread, body, secure)
	_, code := o.hold(what, func(a *Agent) (string, api.Errno) {
		id, code := a.Send(to, thread, own, secure, fresh)
		if !bytes.Equal(own, body) {
			o.t.Fatalf("%s: the body changed", what)
		}
		clear(own)
		return id, code
	}, func(a slowAgent) (string, api.Errno) { return a.send(o.t, to, thread, body, secure, fresh) })
	return code
}

// receive does Receive, and gives its error.
func (o *one) receive(mail []byte, fresh api.Key) api.Errno {
	o.t.Helper()
	own := bytes.Clone(mail)
	_, code := o.hold(fmt.Sprintf("receive %.300q", mail), func(a *Agent) (string, api.Errno) {
		code := a.Receive(own, fresh)
		if !bytes.Equal(own, mail) {
			o.t.Fatalf("receive %.300q: it changed", mail)
		}
		clear(own)
		return "", code
	}, func(a slowAgent) (string, api.Errno) { return "", a.receive(o.t, mail, fresh) })
	return code
}

// posted does Posted, and gives its error.
func (o *one) posted(number int) api.Errno {
	o.t.Helper()
	_, code := o.hold(fmt.Sprintf("posted %d", number), func(a *Agent) (string, api.Errno) {
		return "", a.Posted(number)
	}, func(a slowAgent) (string, api.Errno) { return "", a.drop(fmt.Sprintf("o:%010d", number)) })
	return code
}

// reset does Reset, and gives its error.
func (o *one) reset(thread string) api.Errno {
	o.t.Helper()
	_, code := o.hold(fmt.Sprintf("reset %.50q", thread), func(a *Agent) (string, api.Errno) {
		return "", a.Reset(thread)
	}, func(a slowAgent) (string, api.Errno) { return "", a.drop("t:" + thread) })
	return code
}

// check checks what the agent tells against the slow one, of some threads and addresses.
func (o *one) check(threads, addresses []string) {
	o.t.Helper()
	a := slowOf(o.t, storeOn(o.t, o.disk))
	if got := o.agent.Bundle(); got.Identity != a.identity.Public || got.Prekey != a.prekey.Public {
		o.t.Fatalf("%s: bundle %v", a.address, got)
	}
	if got, want := o.agent.Outbox(), a.outbox(o.t); !slices.EqualFunc(got, want, sameOut) {
		o.t.Fatalf("%s: outbox %v, not %v", a.address, got, want)
	}
	if got, want := o.agent.Notes(), a.notes(o.t); !slices.EqualFunc(got, want, sameNote) {
		o.t.Fatalf("%s: notes %v, not %v", a.address, got, want)
	}
	for _, thread := range threads {
		_, _, want, is := a.thread(o.t, thread)
		got, there := o.agent.Session(thread)
		if there != is || o.agent.Secured(thread) != is || !reflect.DeepEqual(got, want) {
			o.t.Fatalf("%s: thread %.50q: %v, %v, not %v, %v", a.address, thread, got, there, want, is)
		}
	}
	for _, address := range addresses {
		value, is := a.get("k:" + address)
		got, there := o.agent.Peer(address)
		if there != is || is && string(bundle.Encode(got)) != value || !is && got != (api.Bundle{}) {
			o.t.Fatalf("%s: peer %.50q: %v, %v", a.address, address, got, there)
		}
	}
}

// sameOut tells whether two mails that wait are one.
func sameOut(a, b api.Outgoing) bool {
	return a.Number == b.Number && a.To == b.To && bytes.Equal(a.Bytes, b.Bytes)
}

// sameNote tells whether two mails that were delivered are one: a body without bytes and none are.
func sameNote(a, b api.Note) bool {
	return a.Thread == b.Thread && a.From == b.From && a.Id == b.Id && a.Sealed == b.Sealed && bytes.Equal(a.Body, b.Body)
}

// last gives the bytes of the mail that was written last, of those that wait.
func (o *one) last() []byte {
	o.t.Helper()
	list := o.agent.Outbox()
	if len(list) == 0 {
		o.t.Fatal("no mail waits")
	}
	return list[len(list)-1].Bytes
}

// meet lets one know the other one's bundle, by a mail in the open.
func (o *one) meet(other *one) {
	o.t.Helper()
	if code := other.send(o.agent.address, "hello", []byte("hi"), false, api.Key{}); code != api.OK {
		o.t.Fatal(code)
	}
	if code := o.receive(other.last(), api.Key{}); code != api.OK {
		o.t.Fatal(code)
	}
}

// crash lets the power go, and opens the agent again, with other numbers of pairs, which don't count.
func (o *one) crash(picks []byte) {
	o.t.Helper()
	ahead := valuesOf(storeOn(o.t, o.disk))
	o.disk.Crash(picks)
	a, code := Open(o.disk, o.agent.address, api.Key{200}, api.Key{201})
	if code != api.OK {
		o.t.Fatal(code)
	}
	o.agent = a
	if now := valuesOf(storeOn(o.t, o.disk)); now != ahead {
		o.t.Fatalf("behind a crash it knows %.1000s\nnot %.1000s", now, ahead)
	}
}

// envelopeOf gives the envelope of a mail's bytes.
func envelopeOf(t *testing.T, mail []byte) api.Envelope {
	t.Helper()
	l, code := letter.Read(mail)
	if code != api.OK {
		t.Fatal(code)
	}
	e, code := pack.Read(l)
	if code != api.OK {
		t.Fatal(code)
	}
	return e
}

// changed gives the bytes of a mail whose envelope is changed.
func changed(t *testing.T, mail []byte, change func(e *api.Envelope)) []byte {
	t.Helper()
	e := envelopeOf(t, mail)
	change(&e)
	return []byte(mailOf(t, e))
}

// starter is somebody who begins threads by hand, as the chapters tell, without an agent.
type starter struct {
	address         string
	identity, fresh curve.Pair
	session         api.Session
}

// newStarter gives a starter to somebody.
func newStarter(address string, to api.Bundle) *starter {
	s := &starter{address: address, identity: curve.New(api.Key{90, 1}), fresh: curve.New(api.Key{90, 2})}
	s.session = ratchet.First(bundle.Begin(s.identity, s.fresh, to), s.fresh, to.Prekey)
	return s
}

// mail gives the next mail's envelope, with bytes ahead of what is enciphered.
func (s *starter) mail(t *testing.T, to, thread, id string, ahead, body []byte) api.Envelope {
	t.Helper()
	e := api.Envelope{From: s.address, To: to, Id: id, Thread: thread}
	next, sealed, code := ratchet.Encrypt(s.session, slices.Concat(pack.Beside(e), ahead), body)
	if code != api.OK {
		t.Fatal(code)
	}
	s.session = next
	e.Cipher = slices.Concat(ahead, sealed)
	return e
}

// start gives a byte 1 and the start.
func (s *starter) start() []byte {
	return slices.Concat([]byte{1}, s.identity.Public[:], s.fresh.Public[:])
}

// commit puts pairs into a disk's store, as nothing but a test does.
func commit(t *testing.T, d *disk.Disk, list ...api.Pair) {
	t.Helper()
	s, code := store.Open(d)
	if code != api.OK {
		t.Fatal(code)
	}
	if code := s.Commit(list); code != api.OK {
		t.Fatal(code)
	}
}
