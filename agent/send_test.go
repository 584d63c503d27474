package agent

import (
	"bytes"
	"encoding/base64"
	"fmt"
	"regexp"
	"slices"
	"strings"
	"testing"

	"despatch/api"
	"despatch/bundle"
	"despatch/curve"
	"despatch/pack"
	"despatch/ratchet"
)

// wrongThreads are texts that aren't ids of at most 100 bytes.
func wrongThreads() []string {
	list := []string{"", "a b", "<t>", " t", "t ", "t\n", "\x7f", "ä", strings.Repeat("t", 101), strings.Repeat("t", 201), strings.Repeat("t", 5000)}
	for c := range 256 {
		if c <= 32 || c >= 127 || strings.IndexByte("<>()\"\\", byte(c)) >= 0 {
			list = append(list, "t"+string([]byte{byte(c)}))
		}
	}
	return list
}

func TestSendPlain(t *testing.T) { // P22.2: a mail in the open, to the letter
	o := newOne(t, "ann@x", 1, 500)
	id, code := o.agent.Send("Bob@y", "a/t@1", []byte("hello"), false, api.Key{})
	if id != "1.ann@x" || code != api.OK {
		t.Fatal(id, code)
	}
	identity, prekey := curve.Public(api.Key{1, 1}), curve.Public(api.Key{1, 2})
	keys := base64.StdEncoding.EncodeToString(slices.Concat([]byte{1}, identity[:], prekey[:]))
	want := "From: ann@x\r\nTo: Bob@y\r\nMessage-ID: <1.ann@x>\r\nX-Thread: <a/t@1>\r\nX-Keys: " + keys +
		"\r\nContent-Type: text/plain\r\nContent-Transfer-Encoding: base64\r\n\r\naGVsbG8=\r\n"
	list := o.agent.Outbox()
	if len(list) != 1 || list[0].Number != 1 || list[0].To != "Bob@y" || string(list[0].Bytes) != want {
		t.Errorf("%v\nnot %q", list, want)
	}
	s := storeOn(t, o.disk)
	for key, want := range map[string]string{"o:0000000001": "Bob@y\n" + want, "n": "\x00\x00\x00\x01\x00\x00\x00\x00"} {
		if value, _ := s.Get(key); string(value) != want {
			t.Errorf("%s is %q", key, value)
		}
	}
	if keys := s.Keys(""); !slices.Equal(keys, []string{"me", "n", "o:0000000001"}) {
		t.Errorf("%q", keys)
	}
}

func TestSendSealed(t *testing.T) { // P22.2: the first mail of a thread, by the chapters' own words
	o, bob := newOne(t, "ann@x", 1, 500), newOne(t, "bob@y", 2, 500)
	o.meet(bob)
	if id, code := o.agent.Send("bob@y", "t", []byte("secret"), true, api.Key{9, 9}); id != "1.ann@x" || code != api.OK {
		t.Fatal(id, code)
	}
	pair := curve.New(api.Key{9, 9})
	session := ratchet.First(bundle.Begin(curve.New(api.Key{1, 1}), pair, bob.agent.Bundle()), pair, curve.Public(api.Key{2, 2}))
	identity := curve.Public(api.Key{1, 1})
	ahead := "\x01" + string(identity[:]) + string(pair.Public[:])
	next, sealed, _ := ratchet.Encrypt(session, []byte("ann@x\nbob@y\n1.ann@x\nt\n"+ahead), []byte("secret"))
	e := envelopeOf(t, o.last())
	if e.Plain || string(e.Cipher) != ahead+string(sealed) || !bytes.Equal(e.Bundle, bundle.Encode(o.agent.Bundle())) {
		t.Errorf("%q", e.Cipher)
	}
	value, _ := storeOn(t, o.disk).Get("t:t")
	if want := "Sbob@y\n" + encoded(t, next); string(value) != want {
		t.Errorf("%q, not %q", value, want)
	}
}

func TestSendErrors(t *testing.T) { // P22.2: each error, and their order
	o, bob := newOne(t, "ann@x", 1, 3000), newOne(t, "bob@y", 2, 3000)
	o.meet(bob)
	if o.send("bob@y", "secured", []byte("x"), true, api.Key{9}) != api.OK {
		t.Fatal("send")
	}
	large := make([]byte, api.MaxBody+1)
	for _, name := range wrongNames() {
		for _, thread := range []string{"t", "secured"} {
			for _, body := range [][]byte{nil, large} {
				if code := o.send(name, thread, body, thread == "t", api.Key{8}); code != api.ErrForm {
					t.Errorf("to %.50q: %v", name, code)
				}
			}
		}
	}
	for _, thread := range wrongThreads() {
		if code := o.send("bob@y", thread, large, true, api.Key{8}); code != api.ErrForm {
			t.Errorf("thread %.50q: %v", thread, code)
		}
	}
	for _, c := range []struct {
		to, thread string
		body       []byte
		secure     bool
		want       api.Errno
	}{
		{"eve@z", "secured", large, false, api.ErrTooLarge},
		{"eve@z", "t", large, true, api.ErrTooLarge},
		{"bob@y", "t", large, false, api.ErrTooLarge},
		{"bob@y", "t", large[1:], false, api.ErrFull},
		{"eve@z", "secured", nil, false, api.ErrArg},
		{"eve@z", "secured", nil, true, api.ErrArg},
		{"Bob@y", "secured", nil, true, api.ErrArg},
		{"eve@z", "t", nil, true, api.ErrNoRoute},
		{"ann@x", "t", nil, true, api.ErrNoRoute},
		{"Bob@y", "t", nil, true, api.ErrNoRoute},
		{"eve@z", "t", nil, false, api.OK},
		{"ann@x", "t", nil, false, api.OK},
		{"bob@y", "t", nil, true, api.OK},
		{"eve@z", "t", nil, false, api.ErrArg},
		{"bob@y", "secured", nil, false, api.OK},
		{"bob@y", "SECURED", nil, false, api.OK},
	} {
		if code := o.send(c.to, c.thread, c.body, c.secure, api.Key{7}); code != c.want {
			t.Errorf("%s, %s: %v, not %v", c.to, c.thread, code, c.want)
		}
	}
	for _, name := range rightNames() {
		if code := o.send(name, strings.Repeat("~", 100), nil, false, api.Key{7}); code != api.OK {
			t.Errorf("to %.50q: %v", name, code)
		}
	}
	o.check([]string{"t", "secured", "SECURED"}, []string{"bob@y", "Bob@y", "ann@x"})
}

func TestSendThreads(t *testing.T) { // P22.2: each byte that an id may have
	o, bob := newOne(t, "ann@x", 1, 500), newOne(t, "bob@y", 2, 500)
	o.meet(bob)
	thread := ""
	for c := range 128 {
		if s := string(rune(c)); threadForm.MatchString(s) {
			thread += s
		}
	}
	if len(thread) != 88 {
		t.Fatalf("%q", thread)
	}
	if o.send("bob@y", thread, []byte("x"), true, api.Key{7}) != api.OK || bob.receive(o.last(), api.Key{6}) != api.OK {
		t.Error("all bytes that an id may have")
	}
	if notes := bob.agent.Notes(); notes[0].Thread != thread || !bob.agent.Secured(thread) {
		t.Errorf("%v", notes)
	}
}

func TestSendEncryptError(t *testing.T) { // P22.2: layer 19's error
	o, bob := newOne(t, "ann@x", 1, 500), newOne(t, "bob@y", 2, 500)
	o.meet(bob)
	if o.send("bob@y", "t", nil, true, api.Key{9}) != api.OK {
		t.Fatal("send")
	}
	s, _ := o.agent.Session("t")
	s.Sent = 1<<31 - 1
	commit(t, o.disk, pairOf("t:t", "Sbob@y\n"+encoded(t, s)), pairOf("t:u", "Nbob@y\n"+encoded(t, api.Session{})))
	o.crash(nil)
	for thread, want := range map[string]api.Errno{"t": api.ErrFar, "u": api.ErrNoRoute} {
		if code := o.send("bob@y", thread, nil, true, api.Key{8}); code != want {
			t.Errorf("%s: %v", thread, code)
		}
	}
	s.Sent--
	commit(t, o.disk, pairOf("t:t", "Sbob@y\n"+encoded(t, s)))
	o.crash(nil)
	if o.send("bob@y", "t", nil, true, api.Key{8}) != api.OK || o.send("bob@y", "t", nil, true, api.Key{8}) != api.ErrFar {
		t.Error("the last mail of a chain")
	}
}

// startOf gives the start of a sealed mail: its points, or none.
func startOf(t *testing.T, mail []byte) string {
	t.Helper()
	e := envelopeOf(t, mail)
	if e.Plain || len(e.Cipher) == 0 || e.Cipher[0] > 1 {
		t.Fatalf("%v is not sealed", e)
	}
	if e.Cipher[0] == 0 {
		return ""
	}
	return string(e.Cipher[1:65])
}

func TestStartGoesAlong(t *testing.T) { // P22.2: with each mail of a thread that began here, as long as the session doesn't take
	o, bob := newOne(t, "ann@x", 1, 3000), newOne(t, "bob@y", 2, 3000)
	o.meet(bob)
	identity, point := curve.Public(api.Key{1, 1}), curve.Public(api.Key{9})
	want := string(identity[:]) + string(point[:])
	var mails [][]byte
	for i := range 4 {
		if o.send("bob@y", "t", []byte{byte(i)}, i%2 == 0, api.Key{9 + byte(i)}) != api.OK {
			t.Fatal("send")
		}
		if got := startOf(t, o.last()); got != want {
			t.Fatalf("mail %d: the start %q, not %q", i, got, want)
		}
		mails = append(mails, o.last())
		o.crash([]byte{1})
	}
	// Whichever of them comes first is enough to begin, and the others come along.
	for _, i := range []int{2, 0, 3} {
		if code := bob.receive(mails[i], api.Key{50, byte(i)}); code != api.OK {
			t.Fatal(i, code)
		}
	}
	for range 2 {
		if bob.send("ann@x", "t", []byte("back"), true, api.Key{60}) != api.OK || startOf(t, bob.last()) != "" {
			t.Error("who answers sends a start")
		}
	}
	if o.send("bob@y", "t", nil, false, api.Key{}) != api.OK || startOf(t, o.last()) != want {
		t.Error("no start, and no answer has come")
	}
	if o.receive(bob.last(), api.Key{70}) != api.OK {
		t.Error("receive")
	}
	for range 2 {
		if o.send("bob@y", "t", nil, false, api.Key{}) != api.OK || startOf(t, o.last()) != "" {
			t.Error("a start, and an answer has come")
		}
		o.crash(nil)
	}
	if bob.receive(o.last(), api.Key{71}) != api.OK || bob.receive(mails[1], api.Key{72}) != api.OK {
		t.Error("receive")
	}
	// Begun anew, with another pair.
	if o.reset("t") != api.OK || o.send("bob@y", "t", nil, true, api.Key{33}) != api.OK {
		t.Fatal("reset, send")
	}
	point = curve.Public(api.Key{33})
	if startOf(t, o.last()) != string(identity[:])+string(point[:]) {
		t.Error("the start of a thread that was reset")
	}
}

func TestSendIds(t *testing.T) { // P22.2: each id is told by how many were written, the longest ones too, and errors count none
	name := strings.Repeat("a", 98) + "@x"
	o := newOne(t, name, 1, 3000)
	form := regexp.MustCompile(`^([1-9][0-9]*)\.(a{98}@x)$`)
	for i := 1; i < 15; i++ {
		o.send("eve@z", "t", nil, true, api.Key{})
		id, code := o.agent.Send("bob@y", "t", nil, false, api.Key{})
		told := form.FindStringSubmatch(id)
		if code != api.OK || told == nil || told[1] != fmt.Sprint(i) {
			t.Errorf("%d: %q, %v", i, id, code)
		}
		if i%4 == 0 {
			o.crash(nil)
		}
	}
	commit(t, o.disk, pairOf("n", "\x7f\xff\xff\xfd\x00\x00\x00\x09"))
	o.crash(nil)
	for _, want := range []string{"2147483646.", "2147483647."} {
		if id, code := o.agent.Send("bob@y", "t", nil, false, api.Key{}); code != api.OK || id != want+name {
			t.Errorf("%q, %v", id, code)
		}
	}
	list := o.agent.Outbox()
	if n := list[len(list)-1].Number; n != 2147483647 || o.posted(n) != api.OK {
		t.Error("the number of the last one")
	}
}

func TestSendLarge(t *testing.T) { // P22.2, P22.4: a large body goes, sealed and in the open; the mail of the largest one needs more than the greatest disk has
	body := make([]byte, api.MaxBody)
	for i := range body {
		body[i] = byte(i * i >> 3)
	}
	for _, secure := range []bool{false, true} {
		o, bob := newOne(t, "ann@x", 1, api.MaxBlocks), newOne(t, "bob@y", 2, api.MaxBlocks)
		o.meet(bob)
		if _, code := o.agent.Send("bob@y", "t", body, secure, api.Key{9}); code != api.ErrFull {
			t.Error(code)
		}
		large := body[:980_000]
		if _, code := o.agent.Send("bob@y", "t", large, secure, api.Key{9}); code != api.OK {
			t.Fatal(code)
		}
		if mail := o.last(); pack.Sealed(mail) != secure || bob.agent.Receive(mail, api.Key{8}) != api.OK {
			t.Fatalf("%v: a large mail isn't received", secure)
		}
		if notes := bob.agent.Notes(); !bytes.Equal(notes[0].Body, large) {
			t.Errorf("%v: another body", secure)
		}
	}
}
