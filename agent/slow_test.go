package agent

import (
	"encoding/binary"
	"fmt"
	"regexp"
	"slices"
	"sort"
	"strings"
	"testing"

	"despatch/api"
	"despatch/bundle"
	"despatch/curve"
	"despatch/disk"
	"despatch/letter"
	"despatch/pack"
	"despatch/ratchet"
	"despatch/store"
)

// dice gives numbers that seem to be of no order, each from 0 to one less than asked.
func dice(first int) func(n int) int {
	x := uint32(first)*2654435761 + 12345
	return func(n int) int {
		x = x*1664525 + 1013904223
		return int(x>>8) % n
	}
}

// newDisk gives a disk of noughts.
func newDisk(t *testing.T, blocks int) *disk.Disk {
	t.Helper()
	d, code := disk.New(blocks)
	if code != api.OK {
		t.Fatal(code)
	}
	return d
}

// storeOn gives the store of a disk's twin, so that the disk is left as it is.
func storeOn(t *testing.T, d *disk.Disk) *store.Store {
	t.Helper()
	s, code := store.Open(d.Twin())
	if code != api.OK {
		t.Fatal(code)
	}
	return s
}

// valuesOf gives all values of a store by their keys, as a text.
func valuesOf(s *store.Store) string {
	all := ""
	for _, key := range s.Keys("") {
		value, _ := s.Get(key)
		all += fmt.Sprintf("%q: %q\n", key, value)
	}
	return all
}

// The forms of what stands in a store, and of addresses and ids, as the chapters tell them.
var (
	addressForm = regexp.MustCompile("^[!#$%&'*+\\-0-9A-Z^_`a-z{|}~]+(\\.[!#$%&'*+\\-0-9A-Z^_`a-z{|}~]+)*@[!#$%&'*+\\-0-9^_`a-z{|}~]+(\\.[!#$%&'*+\\-0-9^_`a-z{|}~]+)*$")
	threadForm  = regexp.MustCompile("^[!#-'*-;=?-\\[\\]-~]{1,100}$")
	meForm      = regexp.MustCompile("(?s)^([^\n]*)\n(.{64})$")
	securedForm = regexp.MustCompile("(?s)^([SN])([^\n]*)\n(.*)$")
)

// isName tells whether a text is an address of no more than 100 bytes.
func isName(s string) bool { return len(s) <= 100 && addressForm.MatchString(s) }

// slowAgent is an agent as the chapter tells it: a store, and who it is.
type slowAgent struct {
	store            *store.Store
	address          string
	identity, prekey curve.Pair
}

// get gives a key's value as a text, and whether it has one.
func (a slowAgent) get(key string) (string, bool) {
	value, there := a.store.Get(key)
	return string(value), there
}

// latin gives bytes as a text of as many signs, so that a form may tell any byte, and back.
func latin(s string) string {
	var r []rune
	for i := range len(s) {
		r = append(r, rune(s[i]))
	}
	return string(r)
}

// bytesIn gives the bytes of a text that latin gave.
func bytesIn(s string) string {
	var b []byte
	for _, r := range s {
		b = append(b, byte(r))
	}
	return string(b)
}

// match gives what a form's groups tell of bytes, or none.
func match(form *regexp.Regexp, s string) []string {
	var told []string
	for _, group := range form.FindStringSubmatch(latin(s)) {
		told = append(told, bytesIn(group))
	}
	return told
}

// key gives the key of a text of 32 bytes.
func key(s string) api.Key { return api.Key([]byte(s)) }

// slowOf gives the slow agent of a store that has a me.
func slowOf(t *testing.T, s *store.Store) slowAgent {
	t.Helper()
	a := slowAgent{store: s}
	me, _ := a.get("me")
	told := match(meForm, me)
	if told == nil {
		t.Fatalf("me is %q", me)
	}
	a.address = told[1]
	a.identity, a.prekey = curve.New(key(told[2][:32])), curve.New(key(told[2][32:]))
	return a
}

// counts gives how many mails were written, and delivered.
func (a slowAgent) counts() (written, delivered uint32) {
	if n, there := a.get("n"); there {
		return binary.BigEndian.Uint32([]byte(n[:4])), binary.BigEndian.Uint32([]byte(n[4:]))
	}
	return 0, 0
}

// countsPair gives the pair of how many there were.
func countsPair(written, delivered uint32) api.Pair {
	return pairOf("n", string(binary.BigEndian.AppendUint32(binary.BigEndian.AppendUint32(nil, written), delivered)))
}

// pairOf gives a pair of a key and a value.
func pairOf(key, value string) api.Pair { return api.Pair{Key: key, Value: []byte(value)} }

// thread gives the sign, the other one, and the session of a secured thread.
func (a slowAgent) thread(t *testing.T, id string) (sign, other string, s api.Session, is bool) {
	t.Helper()
	value, there := a.get("t:" + id)
	if !there {
		return "", "", s, false
	}
	told := match(securedForm, value)
	if told == nil {
		t.Fatalf("thread %q is %q", id, value)
	}
	s, code := ratchet.Decode([]byte(told[3]))
	if code != api.OK {
		t.Fatalf("thread %q is %q", id, value)
	}
	return told[1], told[2], s, true
}

// encoded gives a session's bytes as a text.
func encoded(t *testing.T, s api.Session) string {
	t.Helper()
	b, code := ratchet.Encode(s)
	if code != api.OK {
		t.Fatal(code)
	}
	return string(b)
}

// send is Send as the chapter tells it.
func (a slowAgent) send(t *testing.T, to, thread string, body []byte, secure bool, fresh api.Key) (string, api.Errno) {
	t.Helper()
	if !isName(to) || !threadForm.MatchString(thread) {
		return "", api.ErrForm
	}
	if len(body) > 1<<20 {
		return "", api.ErrTooLarge
	}
	written, delivered := a.counts()
	id := fmt.Sprintf("%d.%s", written+1, a.address)
	e := api.Envelope{From: a.address, To: to, Id: id, Thread: thread}
	e.Bundle = slices.Concat([]byte{1}, a.identity.Public[:], a.prekey.Public[:])
	sign, other, s, is := a.thread(t, thread)
	var list []api.Pair
	switch {
	case is && other != to:
		return "", api.ErrArg
	case !is && secure:
		known, there := a.get("k:" + to)
		if !there {
			return "", api.ErrNoRoute
		}
		peer := api.Bundle{Identity: key(known[1:33]), Prekey: key(known[33:])}
		pair := curve.New(fresh)
		sign, s, is = "S", ratchet.First(bundle.Begin(a.identity, pair, peer), pair, peer.Prekey), true
	}
	if is {
		ahead := []byte{0}
		if sign == "S" {
			point := curve.Public(s.Own)
			ahead = slices.Concat([]byte{1}, a.identity.Public[:], point[:])
		}
		beside := e.From + "\n" + e.To + "\n" + e.Id + "\n" + e.Thread + "\n" + string(ahead)
		next, sealed, code := ratchet.Encrypt(s, []byte(beside), body)
		if code != api.OK {
			return "", code
		}
		e.Cipher = slices.Concat(ahead, sealed)
		list = append(list, pairOf("t:"+thread, sign+to+"\n"+encoded(t, next)))
	} else {
		e.Plain, e.Cipher = true, body
	}
	list = append(list, pairOf(fmt.Sprintf("o:%010d", written+1), to+"\n"+mailOf(t, e)), countsPair(written+1, delivered))
	if code := a.store.Commit(list); code != api.OK {
		return "", code
	}
	return id, api.OK
}

// mailOf gives the bytes of an envelope's mail.
func mailOf(t *testing.T, e api.Envelope) string {
	t.Helper()
	l, code := pack.Write(e)
	if code != api.OK {
		t.Fatal(code, e)
	}
	b, code := letter.Write(l)
	if code != api.OK {
		t.Fatal(code)
	}
	return string(b)
}

// receive is Receive as the chapter tells it.
func (a slowAgent) receive(t *testing.T, b []byte, fresh api.Key) api.Errno {
	t.Helper()
	l, code := letter.Read(b)
	if code != api.OK {
		return code
	}
	e, code := pack.Read(l)
	if code != api.OK {
		return code
	}
	if e.To != a.address || len(e.From) > 100 || len(e.Thread) > 100 {
		return api.ErrForm
	}
	if _, was := a.get("g:" + e.From + "\n" + e.Id); was {
		return api.ErrOld
	}
	sign, other, s, is := a.thread(t, e.Thread)
	if e.Plain {
		if is {
			return api.ErrSecured
		}
		return a.deliver(e, "P", e.Cipher, nil)
	}
	c := string(e.Cipher)
	starts := strings.HasPrefix(c, "\x01") && len(c) >= 65
	if !starts && !strings.HasPrefix(c, "\x00") {
		return api.ErrForm
	}
	ahead := 1
	if starts {
		ahead = 65
	}
	switch {
	case is && other != e.From:
		return api.ErrArg
	case is && sign == "S" && !s.Takes && starts:
		return api.ErrThere
	case !is && !starts:
		return api.ErrNoRoute
	case !is:
		s = ratchet.Second(bundle.Answer(a.identity, a.prekey, key(c[1:33]), key(c[33:65])), a.prekey)
	}
	beside := e.From + "\n" + e.To + "\n" + e.Id + "\n" + e.Thread + "\n" + c[:ahead]
	next, body, code := ratchet.Decrypt(s, []byte(beside), []byte(c[ahead:]), fresh)
	if code != api.OK {
		return code
	}
	return a.deliver(e, "S", body, []api.Pair{pairOf("t:"+e.Thread, "N"+e.From+"\n"+encoded(t, next))})
}

// deliver puts a mail that is delivered.
func (a slowAgent) deliver(e api.Envelope, sign string, body []byte, list []api.Pair) api.Errno {
	if len(body) > 1<<20 {
		return api.ErrTooLarge
	}
	written, delivered := a.counts()
	if _, known := a.get("k:" + e.From); !known && len(e.Bundle) == 65 && e.Bundle[0] == 1 {
		list = append(list, pairOf("k:"+e.From, string(e.Bundle)))
	}
	list = append(list, pairOf(fmt.Sprintf("i:%010d", delivered), sign+e.Thread+"\n"+e.From+"\n"+e.Id+"\n"+string(body)))
	list = append(list, pairOf("g:"+e.From+"\n"+e.Id, "\x01"), countsPair(written, delivered+1))
	return a.store.Commit(list)
}

// drop is Posted, or Reset, by the key.
func (a slowAgent) drop(key string) api.Errno {
	if _, there := a.get(key); !there {
		return api.ErrNone
	}
	return a.store.Commit([]api.Pair{{Key: key, Gone: true}})
}

// outbox gives what Outbox must give.
func (a slowAgent) outbox(t *testing.T) []api.Outgoing {
	t.Helper()
	var list []api.Outgoing
	for _, key := range a.store.Keys("o:") {
		value, _ := a.get(key)
		to, mail, _ := strings.Cut(value, "\n")
		o := api.Outgoing{To: to, Bytes: []byte(mail)}
		if n, err := fmt.Sscanf(key, "o:%d", &o.Number); n != 1 || err != nil {
			t.Fatal(key)
		}
		list = append(list, o)
	}
	sort.Slice(list, func(i, j int) bool { return list[i].Number < list[j].Number })
	return list
}

// notes gives what Notes must give.
func (a slowAgent) notes(t *testing.T) []api.Note {
	t.Helper()
	_, delivered := a.counts()
	var list []api.Note
	for i := range delivered {
		value, there := a.get(fmt.Sprintf("i:%010d", i))
		told := strings.SplitN(value, "\n", 4)
		if !there || len(told) != 4 {
			t.Fatalf("%d: %q", i, value)
		}
		list = append(list, api.Note{Thread: told[0][1:], From: told[1], Id: told[2], Sealed: value[0] == 'S', Body: []byte(told[3])})
	}
	return list
}
