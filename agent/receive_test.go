package agent

import (
	"bytes"
	"slices"
	"strings"
	"testing"

	"despatch/api"
	"despatch/curve"
	"despatch/ratchet"
)

// plainMail gives the envelope of a mail in the open.
func plainMail(from, to, id, thread, body string) api.Envelope {
	return api.Envelope{From: from, To: to, Id: id, Thread: thread, Plain: true, Cipher: []byte(body)}
}

func TestReceivePlain(t *testing.T) { // P22.4: what stands in the store then, to the letter
	o := newOne(t, "ann@x", 1, 500)
	e := plainMail("bob@y", "ann@x", "7.a", "t", "a\nb\n")
	e.Bundle = slices.Concat([]byte{1}, bytes.Repeat([]byte{5}, 32), bytes.Repeat([]byte{6}, 32))
	if code := o.receive([]byte(mailOf(t, e)), api.Key{}); code != api.OK {
		t.Fatal(code)
	}
	e = plainMail("eve@z", "ann@x", "7.a", "u", "")
	if code := o.receive([]byte(mailOf(t, e)), api.Key{}); code != api.OK {
		t.Fatal(code)
	}
	s := storeOn(t, o.disk)
	want := map[string]string{
		"k:bob@y":      "\x01" + strings.Repeat("\x05", 32) + strings.Repeat("\x06", 32),
		"i:0000000000": "Pt\nbob@y\n7.a\na\nb\n", "g:bob@y\n7.a": "\x01",
		"i:0000000001": "Pu\neve@z\n7.a\n", "g:eve@z\n7.a": "\x01",
		"n": "\x00\x00\x00\x00\x00\x00\x00\x02",
	}
	for key, want := range want {
		if value, _ := s.Get(key); string(value) != want {
			t.Errorf("%s is %q", key, value)
		}
	}
	if keys := s.Keys(""); len(keys) != 1+len(want) {
		t.Errorf("%q", keys)
	}
	notes := o.agent.Notes()
	if len(notes) != 2 || !sameNote(notes[0], api.Note{Thread: "t", From: "bob@y", Id: "7.a", Body: []byte("a\nb\n")}) || !sameNote(notes[1], api.Note{Thread: "u", From: "eve@z", Id: "7.a"}) {
		t.Errorf("%v", notes)
	}
}

func TestReceiveSealed(t *testing.T) { // P22.4: the first mail of a thread, by the chapters' own words
	o := newOne(t, "ann@x", 1, 500)
	begins := newStarter("bob@y", o.agent.Bundle())
	mail := mailOf(t, begins.mail(t, "ann@x", "t", "7.a", begins.start(), []byte("secret")))
	if code := o.receive([]byte(mail), api.Key{8, 8}); code != api.OK {
		t.Fatal(code)
	}
	s := storeOn(t, o.disk)
	if value, _ := s.Get("i:0000000000"); string(value) != "St\nbob@y\n7.a\nsecret" {
		t.Errorf("%q", value)
	}
	session, is := o.agent.Session("t")
	if !is || session.Own != (api.Key{8, 8}) || session.Other != begins.fresh.Public || !session.Sends || session.Taken != 1 {
		t.Errorf("%v", session)
	}
	if value, _ := s.Get("t:t"); string(value) != "Nbob@y\n"+encoded(t, session) {
		t.Errorf("%q", value)
	}
	if keys := s.Keys(""); !slices.Equal(keys, []string{"g:bob@y\n7.a", "i:0000000000", "me", "n", "t:t"}) {
		t.Errorf("%q", keys)
	}
}

func TestReceiveBundles(t *testing.T) { // P22.4: a bundle is known, if it is one, and none was
	first := slices.Concat([]byte{1}, bytes.Repeat([]byte{5}, 64))
	second := slices.Concat([]byte{1}, bytes.Repeat([]byte{6}, 64))
	for _, wrong := range [][]byte{nil, {1}, first[:64], append(slices.Clone(first), 0), append([]byte{2}, first[1:]...), append([]byte{0}, first[1:]...), bytes.Repeat([]byte{1}, 3000)} {
		o := newOne(t, "ann@x", 1, 500)
		for i, b := range [][]byte{wrong, first, wrong, second, first} {
			e := plainMail("bob@y", "ann@x", string(rune('a'+i)), "t", "x")
			e.Bundle = b
			if code := o.receive([]byte(mailOf(t, e)), api.Key{}); code != api.OK {
				t.Fatal(code)
			}
			peer, known := o.agent.Peer("bob@y")
			if known != (i > 0) || known && peer.Identity[0] != 5 {
				t.Errorf("%d of %d bytes: %v, %v", i, len(wrong), peer, known)
			}
		}
	}
	// With an error none is known.
	o := newOne(t, "ann@x", 1, 500)
	begins := newStarter("bob@y", o.agent.Bundle())
	e := begins.mail(t, "ann@x", "t", "1", begins.start(), []byte("x"))
	e.Bundle = first
	e.Cipher[70] ^= 1
	if code := o.receive([]byte(mailOf(t, e)), api.Key{7}); code == api.OK {
		t.Error("a turned mail is OK")
	}
	if _, known := o.agent.Peer("bob@y"); known {
		t.Error("the bundle of a turned mail is known")
	}
}

func TestReceiveForm(t *testing.T) { // P22.4: layer 11's error, layer 13's, and those of the envelope
	o := newOne(t, "ann@x", 1, 3000)
	name, thread := strings.Repeat("b", 98)+"@y", strings.Repeat("t", 100)
	good := mailOf(t, plainMail("bob@y", "ann@x", "1", "t", "x"))
	large := mailOf(t, api.Envelope{From: "bob@y", To: "ann@x", Id: "1", Thread: "t", Plain: true, Cipher: make([]byte, api.MaxBody+1)})
	for _, c := range []struct {
		mail string
		want api.Errno
	}{
		{"", api.ErrForm}, {"\r\n", api.ErrForm}, {good[:40], api.ErrForm}, {"x" + good + "\x00", api.ErrForm},
		{good + strings.Repeat(" ", api.MaxMail), api.ErrTooLarge},
		{strings.Repeat("A: b\n", 201) + good, api.ErrTooLarge},
		{strings.Replace(good, "base64", "other", 1), api.ErrForm},
		{strings.Replace(good, "text/plain", "text/html", 1), api.ErrForm},
		{strings.Replace(good, "X-Thread", "Y-Thread", 1), api.ErrForm},
		{strings.Replace(good, "To: ann@x", "To: "+strings.Repeat("(", 10)+strings.Repeat(")", 10), 1), api.ErrForm},
		{strings.Replace(good, "text/plain", "text/plain"+strings.Repeat("(", 10)+strings.Repeat(")", 10), 1), api.ErrDeep},
		{mailOf(t, plainMail("bob@y", "eve@z", "1", "t", "x")), api.ErrForm},
		{mailOf(t, plainMail("bob@y", "Ann@x", "1", "t", "x")), api.ErrForm},
		{mailOf(t, plainMail("bob@y", "ann@x.y", "1", "t", "x")), api.ErrForm},
		{mailOf(t, plainMail("b"+name, "ann@x", "1", "t", "x")), api.ErrForm},
		{mailOf(t, plainMail("bob@y", "ann@x", "1", "t"+thread, "x")), api.ErrForm},
		{strings.Replace(large, "To: ann@x", "To: eve@x", 1), api.ErrForm},
		{large, api.ErrTooLarge},
		{mailOf(t, plainMail(name, "ann@x", strings.Repeat("i", 200), thread, "x")), api.OK},
		{strings.Replace(good, "To: ann@x", "to:  Ann (x) <ann@X>", 1), api.OK},
		{good, api.ErrOld},
		{large, api.ErrOld},
		{strings.Replace(good, "From: bob@y", "FROM: B <bob@Y>", 1), api.ErrOld},
	} {
		if code := o.receive([]byte(c.mail), api.Key{9}); code != c.want {
			t.Errorf("%.200q: %v, not %v", c.mail, code, c.want)
		}
	}
	o.check([]string{"t"}, []string{"bob@y"})
}

func TestReceiveOld(t *testing.T) { // P22.4: of that id, from that one
	o := newOne(t, "ann@x", 1, 3000)
	for _, c := range []struct {
		from, id, thread, body string
		want                   api.Errno
	}{
		{"bob@y", "1", "t", "x", api.OK}, {"bob@y", "1", "t", "x", api.ErrOld}, {"bob@y", "1", "u", "y", api.ErrOld},
		{"eve@z", "1", "t", "x", api.OK}, {"bob@y", "2", "t", "x", api.OK}, {"bob@y", "11", "t", "x", api.OK}, {"Bob@y", "1", "t", "x", api.OK},
		{"eve@z", "1", "t", "x", api.ErrOld}, {"bob@y", "11", "t", "x", api.ErrOld}, {"bob@y", "2", "t", "", api.ErrOld},
	} {
		if code := o.receive([]byte(mailOf(t, plainMail(c.from, "ann@x", c.id, c.thread, c.body))), api.Key{}); code != c.want {
			t.Errorf("%v: %v", c, code)
		}
		o.crash([]byte{2})
	}
	// Old comes ahead of all that is asked of what is sealed.
	begins := newStarter("bob@y", o.agent.Bundle())
	e := begins.mail(t, "ann@x", "s", "2", []byte{3}, []byte("x"))
	if code := o.receive([]byte(mailOf(t, e)), api.Key{}); code != api.ErrOld {
		t.Error(code)
	}
}

func TestReceiveSecured(t *testing.T) { // P22.4: in the open in a thread that is secured, whoever it is from, whatever it has
	o, bob := newOne(t, "ann@x", 1, 3000), newOne(t, "bob@y", 2, 3000)
	o.meet(bob)
	if o.send("bob@y", "t", []byte("x"), true, api.Key{9}) != api.OK || bob.receive(o.last(), api.Key{8}) != api.OK {
		t.Fatal("send, receive")
	}
	large := strings.Repeat("x", api.MaxBody+1)
	for _, body := range []string{"", "x", large} {
		for _, from := range []string{"bob@y", "eve@z"} {
			if code := o.receive([]byte(mailOf(t, plainMail(from, "ann@x", "7", "t", body))), api.Key{}); code != api.ErrSecured {
				t.Error(from, code)
			}
		}
		if code := bob.receive([]byte(mailOf(t, plainMail("ann@x", "bob@y", "7", "t", body))), api.Key{}); code != api.ErrSecured {
			t.Error(code)
		}
	}
	if o.receive([]byte(mailOf(t, plainMail("bob@y", "ann@x", "7", "T", "x"))), api.Key{}) != api.OK {
		t.Error("another thread")
	}
	if o.reset("t") != api.OK || o.receive([]byte(mailOf(t, plainMail("bob@y", "ann@x", "8", "t", "x"))), api.Key{}) != api.OK {
		t.Error("a thread that was reset")
	}
}

func TestReceiveCipher(t *testing.T) { // P22.4: ErrForm, if there is no byte 0, or 1 and a start
	o, bob := newOne(t, "ann@x", 1, 3000), newOne(t, "bob@y", 2, 3000)
	o.meet(bob)
	if o.send("bob@y", "mine", []byte("x"), true, api.Key{9}) != api.OK {
		t.Fatal("send")
	}
	for _, thread := range []string{"t", "mine"} {
		for _, c := range []struct {
			cipher []byte
			want   [2]api.Errno // where the thread isn't secured, and where it is, with a start
		}{
			{nil, [2]api.Errno{api.ErrForm, api.ErrForm}},
			{[]byte{2}, [2]api.Errno{api.ErrForm, api.ErrForm}},
			{bytes.Repeat([]byte{255}, 200), [2]api.Errno{api.ErrForm, api.ErrForm}},
			{bytes.Repeat([]byte{1}, 1), [2]api.Errno{api.ErrForm, api.ErrForm}},
			{bytes.Repeat([]byte{1}, 64), [2]api.Errno{api.ErrForm, api.ErrForm}},
			{bytes.Repeat([]byte{1}, 65), [2]api.Errno{api.ErrForm, api.ErrThere}},
			{bytes.Repeat([]byte{1}, 66), [2]api.Errno{api.ErrForm, api.ErrThere}},
			{bytes.Repeat([]byte{1}, 65+72), [2]api.Errno{api.ErrTag, api.ErrThere}},
			{[]byte{0}, [2]api.Errno{api.ErrNoRoute, api.ErrForm}},
			{make([]byte, 40), [2]api.Errno{api.ErrNoRoute, api.ErrForm}},
			{make([]byte, 1+40+32), [2]api.Errno{api.ErrNoRoute, api.ErrTag}},
			{append(append([]byte{0}, make([]byte, 36)...), 0, 0, 4, 0, 9), [2]api.Errno{api.ErrNoRoute, api.ErrFar}},
		} {
			e := api.Envelope{From: "bob@y", To: "ann@x", Id: "9", Thread: thread, Cipher: c.cipher}
			want := c.want[0]
			if thread == "mine" {
				want = c.want[1]
			}
			if len(c.cipher) == 65+72 && want == api.ErrTag {
				// Its number, which is 1 in each byte, is too many ahead.
				want = api.ErrFar
			}
			if code := o.receive([]byte(mailOf(t, e)), api.Key{5}); code != want {
				t.Errorf("%s, %d bytes: %v, not %v", thread, len(c.cipher), code, want)
			}
		}
	}
}

func TestReceiveOthers(t *testing.T) { // P22.4: ErrArg, ErrThere, ErrNoRoute, in their order
	o, bob, eve := newOne(t, "ann@x", 1, 3000), newOne(t, "bob@y", 2, 3000), newOne(t, "eve@z", 3, 3000)
	for _, other := range []*one{bob, eve} {
		o.meet(other)
		other.meet(o)
	}
	// Each begins the thread t with ann, who begins it with bob.
	for _, who := range []*one{bob, eve} {
		if who.send("ann@x", "t", []byte("begun"), true, api.Key{7}) != api.OK {
			t.Fatal("send")
		}
	}
	if o.send("bob@y", "t", []byte("mine"), true, api.Key{8}) != api.OK {
		t.Fatal("send")
	}
	if code := o.receive(eve.last(), api.Key{6}); code != api.ErrArg {
		t.Error("from another one:", code)
	}
	if code := o.receive(bob.last(), api.Key{6}); code != api.ErrThere {
		t.Error("begun by both:", code)
	}
	if code := bob.receive(o.last(), api.Key{6}); code != api.ErrThere {
		t.Error("begun by both:", code)
	}
	// A mail without a start is of no thread that began here.
	e := newStarter("bob@y", o.agent.Bundle()).mail(t, "ann@x", "t", "77", []byte{0}, []byte("x"))
	if code := o.receive([]byte(mailOf(t, e)), api.Key{6}); code != api.ErrTag {
		t.Error("by another key:", code)
	}
	// Behind a reset the one who reset it takes the other one's start.
	if o.reset("t") != api.OK || o.receive(bob.last(), api.Key{6}) != api.OK || !o.agent.Notes()[2].Sealed {
		t.Error("behind a reset")
	}
	if code := o.receive(eve.last(), api.Key{6}); code != api.ErrArg {
		t.Error("from another one:", code)
	}
	if o.send("bob@y", "t", []byte("back"), true, api.Key{}) != api.OK || startOf(t, o.last()) != "" || bob.receive(o.last(), api.Key{5}) != api.OK {
		t.Error("the answer")
	}
	// Bob's session takes: a mail with a start is no error of its own any more, only by another key, or old.
	begins := newStarter("ann@x", bob.agent.Bundle())
	e = begins.mail(t, "bob@y", "t", "88.ann@x", begins.start(), []byte("x"))
	if code := bob.receive([]byte(mailOf(t, e)), api.Key{6}); code != api.ErrTag {
		t.Error("a start in a thread that takes:", code)
	}
	// No route without a start.
	e = begins.mail(t, "bob@y", "new", "89.ann@x", []byte{0}, []byte("x"))
	if code := bob.receive([]byte(mailOf(t, e)), api.Key{6}); code != api.ErrNoRoute {
		t.Error("no start:", code)
	}
}

func TestReceiveStartStays(t *testing.T) { // P22.4: a start is passed over where the thread takes, and is authenticated all the same
	o := newOne(t, "ann@x", 1, 3000)
	begins := newStarter("bob@y", o.agent.Bundle())
	for i, ahead := range [][]byte{begins.start(), begins.start(), {0}, begins.start()} {
		e := begins.mail(t, "ann@x", "t", string(rune('a'+i)), ahead, []byte{byte(i)})
		if code := o.receive([]byte(mailOf(t, e)), api.Key{byte(i), 6}); code != api.OK {
			t.Fatal(i, code)
		}
	}
	good := begins.mail(t, "ann@x", "t", "z", begins.start(), []byte("last"))
	for at := 1; at < 65; at += 9 {
		e := good
		e.Cipher = bytes.Clone(good.Cipher)
		e.Cipher[at] ^= 4
		if code := o.receive([]byte(mailOf(t, e)), api.Key{7}); code != api.ErrTag {
			t.Errorf("the start's byte %d: %v", at, code)
		}
	}
	e := good
	e.Cipher = append([]byte{0}, good.Cipher[65:]...)
	if code := o.receive([]byte(mailOf(t, e)), api.Key{7}); code != api.ErrTag {
		t.Error("without the start:", code)
	}
	for _, change := range []func(e *api.Envelope){
		func(e *api.Envelope) { e.Id = "y" },
		func(e *api.Envelope) { e.Thread = "u" },
		func(e *api.Envelope) { e.Thread, e.From = "u", "eve@z" },
	} {
		if code := o.receive(changed(t, []byte(mailOf(t, good)), change), api.Key{7}); code != api.ErrTag {
			t.Error("another envelope:", code)
		}
	}
	e = good
	e.From = "eve@z"
	if code := o.receive([]byte(mailOf(t, e)), api.Key{7}); code != api.ErrArg {
		t.Error("from another one:", code)
	}
	if o.receive([]byte(mailOf(t, good)), api.Key{7}) != api.OK || o.receive([]byte(mailOf(t, good)), api.Key{7}) != api.ErrOld {
		t.Error("as it was")
	}
}

func TestReceiveLarge(t *testing.T) { // P22.4: ErrTooLarge behind all else, and the session is as it was
	o := newOne(t, "ann@x", 1, api.MaxBlocks)
	begins := newStarter("bob@y", o.agent.Bundle())
	kept := begins.session
	e := begins.mail(t, "ann@x", "t", "1", begins.start(), make([]byte, api.MaxBody+1))
	if code := o.agent.Receive([]byte(mailOf(t, e)), api.Key{6}); code != api.ErrTooLarge || o.agent.Secured("t") || len(o.agent.Notes()) != 0 {
		t.Error(code)
	}
	e.Cipher[100] ^= 1
	if code := o.agent.Receive([]byte(mailOf(t, e)), api.Key{6}); code != api.ErrTag && code != api.ErrFar {
		t.Error(code)
	}
	begins.session = kept
	e = begins.mail(t, "ann@x", "t", "1", begins.start(), make([]byte, api.MaxBody))
	if code := o.agent.Receive([]byte(mailOf(t, e)), api.Key{6}); code != api.OK || len(o.agent.Notes()[0].Body) != api.MaxBody {
		t.Error(code)
	}
}

func TestReceiveSessionError(t *testing.T) { // P22.4: what layer 19 can't keep is an error, and nothing changes
	o := newOne(t, "ann@x", 1, 3000)
	// Somebody who uses one pair for two chains, and leaves the same mail out of both.
	s := api.Session{Root: api.Key{1}, Own: api.Key{0, 2}, Other: curve.Public(api.Key{0, 3}), Sends: true, Takes: true}
	s.Kept = []api.Kept{{Chain: curve.Public(api.Key{0, 4}), Number: 0, Key: api.Key{5}}}
	commit(t, o.disk, pairOf("t:t", "Nbob@y\n"+encoded(t, s)))
	o.crash(nil)
	// What bob knows of it, who turns the root by his pair 4.
	begins := &starter{address: "bob@y", session: ratchet.First(s.Root, curve.New(api.Key{0, 4}), curve.Public(s.Own))}
	begins.mail(t, "ann@x", "t", "1", []byte{0}, nil)
	e := begins.mail(t, "ann@x", "t", "2", []byte{0}, []byte("x"))
	if code := o.agent.Receive([]byte(mailOf(t, e)), api.Key{9}); code != api.ErrArg || len(o.agent.Notes()) != 0 {
		t.Error(code)
	}
	if now, _ := o.agent.Session("t"); encoded(t, now) != encoded(t, s) {
		t.Error("the session changed")
	}
}
