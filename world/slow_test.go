package world

import (
	"bytes"
	"crypto/hmac"
	"crypto/sha256"
	"encoding/binary"
	"fmt"
	"math"
	"slices"
	"strings"
	"testing"

	"despatch/agent"
	"despatch/api"
	"despatch/disk"
	"despatch/pack"
	"despatch/rewrite"
)

// dice gives numbers that seem to be of no order, each from 0 to one less than asked.
func dice(first int) func(n int) int {
	x := uint32(first)*2654435761 + 12345
	return func(n int) int {
		x = x*1664525 + 1013904223
		return int(x>>8) % n
	}
}

// slowWorld is a world as the chapter tells it, without lines, a server's disk, or a desk: its box has room for all.
type slowWorld struct {
	t      *testing.T
	disks  []*disk.Disk
	agents []*agent.Agent
	boxes  [][]api.Mail
	under  []api.Under
	sent   []api.Sent
}

// slowName gives the address of an agent.
func slowName(n int) string { return fmt.Sprintf("a%d@x.org", n) }

// slowOpen opens the agent of a number.
func slowOpen(d *disk.Disk, n int) (*agent.Agent, api.Errno) {
	return agent.Open(d, slowName(n), sha256.Sum256([]byte(slowName(n)+"i")), sha256.Sum256([]byte(slowName(n)+"p")))
}

// newSlow gives a slow world.
func newSlow(t *testing.T, agents, blocks int) *slowWorld {
	t.Helper()
	s := &slowWorld{t: t, boxes: make([][]api.Mail, agents)}
	for n := range agents {
		d, code := disk.New(blocks)
		if code != api.OK {
			t.Fatal(code)
		}
		a, code := slowOpen(d, n)
		if code != api.OK {
			t.Fatal(code)
		}
		s.disks, s.agents = append(s.disks, d), append(s.agents, a)
	}
	return s
}

// slowLaid gives a mail as it is behind having gone over a line.
func slowLaid(b []byte) []byte {
	s := strings.ReplaceAll(string(b), "\r\n", "\n")
	s = strings.ReplaceAll(s, "\r", "\n")
	if s != "" && !strings.HasSuffix(s, "\n") {
		s += "\n"
	}
	return []byte(strings.ReplaceAll(s, "\n", "\r\n"))
}

// slowPlace gives the place of a number among some: going on, or back, from the first one, round and round.
func slowPlace(n, many int) int {
	if n >= 0 {
		return n % many
	}
	return many - 1 - int(uint64(-(n+1))%uint64(many))
}

// do does an event.
func (s *slowWorld) do(e api.Event) api.Errno {
	s.t.Helper()
	tellsWho := slices.Contains([]int{api.EvSend, api.EvPost, api.EvFetch, api.EvCrash, api.EvReset}, e.Kind)
	tellsMail := slices.Contains([]int{api.EvCarry, api.EvDrop, api.EvRewrite, api.EvCorrupt}, e.Kind)
	switch {
	case !tellsWho && !tellsMail:
		return api.ErrArg
	case tellsWho && (e.Who < 0 || e.Who >= len(s.agents)):
		return api.ErrRange
	case tellsMail && len(s.under) == 0:
		return api.ErrNone
	case tellsMail:
		s.doMail(slowPlace(e.N, len(s.under)), e)
		return api.OK
	}
	switch e.Kind {
	case api.EvSend:
		return s.send(e)
	case api.EvPost:
		return s.post(e)
	case api.EvFetch:
		return s.fetch(e)
	case api.EvReset:
		return s.agents[e.Who].Reset(e.Thread)
	}
	s.disks[e.Who].Crash(e.Body)
	a, code := slowOpen(s.disks[e.Who], e.Who)
	if code == api.OK {
		s.agents[e.Who] = a
	}
	return code
}

// doMail does an event of a mail under way.
func (s *slowWorld) doMail(at int, e api.Event) {
	mail := s.under[at]
	switch e.Kind {
	case api.EvCarry:
		s.boxes[mail.To] = append(s.boxes[mail.To], api.Mail{Uid: len(s.boxes[mail.To]) + 1, Bytes: bytes.Clone(mail.Bytes)})
	case api.EvRewrite:
		s.under[at].Bytes = rewrite.Apply(mail.Bytes, e.Rewrite)
	case api.EvCorrupt:
		if len(mail.Bytes) > 0 {
			mail.Bytes[slowPlace(e.M, len(mail.Bytes))] ^= e.Turn
		}
	}
	if e.Kind == api.EvDrop || e.Kind == api.EvCarry && !e.Stays {
		s.under = append(slices.Clone(s.under[:at]), s.under[at+1:]...)
	}
}

// send does Send, and notes the mail by what then waits.
func (s *slowWorld) send(e api.Event) api.Errno {
	id, code := s.agents[e.Who].Send(slowName(e.To), e.Thread, e.Body, e.Secure, e.Fresh)
	if code == api.OK {
		waiting := s.agents[e.Who].Outbox()
		sealed := pack.Sealed(waiting[len(waiting)-1].Bytes)
		s.sent = append(s.sent, api.Sent{From: slowName(e.Who), To: slowName(e.To), Id: id, Thread: e.Thread, Sealed: sealed, Body: bytes.Clone(e.Body)})
	}
	return code
}

// post lets the first mail that waits be under way.
func (s *slowWorld) post(e api.Event) api.Errno {
	waiting := s.agents[e.Who].Outbox()
	if len(waiting) == 0 {
		return api.ErrNone
	}
	for n := range s.agents {
		if slowName(n) == waiting[0].To {
			s.under = append(s.under, api.Under{To: n, Bytes: slowLaid(waiting[0].Bytes)})
		}
	}
	return s.agents[e.Who].Posted(waiting[0].Number)
}

// fetch lets somebody take a mail.
func (s *slowWorld) fetch(e api.Event) api.Errno {
	list := s.boxes[e.Who]
	if len(list) == 0 {
		return api.ErrNone
	}
	mail := &list[slowPlace(e.N, len(list))]
	code := s.agents[e.Who].Receive(slowLaid(mail.Bytes), e.Fresh)
	if code == api.OK {
		mail.Flags |= 8
	} else {
		mail.Flags |= 1
	}
	return code
}

// settle is Settle.
func (s *slowWorld) settle(seed api.Key) {
	k := uint32(0)
	for range 200 {
		ahead := s.tell()
		for n := range s.agents {
			for len(s.agents[n].Outbox()) > 0 {
				if s.do(api.Event{Kind: api.EvPost, Who: n}) != api.OK {
					break
				}
			}
		}
		for len(s.under) > 0 && s.do(api.Event{Kind: api.EvCarry}) == api.OK {
		}
		for n := range s.agents {
			for at, mail := range slices.Clone(s.boxes[n]) {
				if mail.Flags == 0 {
					s.do(api.Event{Kind: api.EvFetch, Who: n, N: at, Fresh: slowKey(seed, k)})
					k++
				}
			}
		}
		if s.tell() == ahead {
			return
		}
	}
}

// slowKey gives the key of the k-th fetch.
func slowKey(seed api.Key, k uint32) api.Key {
	code := hmac.New(sha256.New, seed[:])
	code.Write(binary.BigEndian.AppendUint32(nil, k))
	return api.Key(code.Sum(nil))
}

// tell gives all that a slow world has, as a text.
func (s *slowWorld) tell() string {
	text := tellMails(s.under, s.sent)
	for n, a := range s.agents {
		text += fmt.Sprintf("%d\n", n) + tellBox(s.boxes[n]) + tellAgent(a)
	}
	return text
}

// tellWorld gives all that a world has, as a text.
func tellWorld(w *World) string {
	text := tellMails(w.Under(), w.Sent())
	for n := range 4 {
		if a := w.Agent(n); a != nil {
			text += fmt.Sprintf("%d\n", n) + tellBox(w.Inbox(n)) + tellAgent(a)
		}
	}
	return text
}

// tellMails gives mails under way, and those that were written, as a text.
func tellMails(under []api.Under, sent []api.Sent) string {
	text := ""
	for _, mail := range under {
		text += fmt.Sprintf("under way to %d: %q\n", mail.To, mail.Bytes)
	}
	for _, mail := range sent {
		text += fmt.Sprintf("sent from %s to %s: %s, %s, %t, %q\n", mail.From, mail.To, mail.Id, mail.Thread, mail.Sealed, mail.Body)
	}
	return text
}

// tellBox gives mails of a box, as a text.
func tellBox(list []api.Mail) string {
	text := ""
	for _, mail := range list {
		text += fmt.Sprintf("in the box %d: %d, %q\n", mail.Uid, mail.Flags, mail.Bytes)
	}
	return text
}

// tellAgent gives what an agent tells, as a text.
func tellAgent(a *agent.Agent) string {
	text := fmt.Sprintf("bundle %x\n", a.Bundle())
	for _, mail := range a.Outbox() {
		text += fmt.Sprintf("waits %d for %s: %q\n", mail.Number, mail.To, mail.Bytes)
	}
	for _, note := range a.Notes() {
		text += fmt.Sprintf("note from %s: %s, %s, %t, %q\n", note.From, note.Id, note.Thread, note.Sealed, note.Body)
	}
	for _, thread := range someThreads() {
		session, is := a.Session(thread)
		text += fmt.Sprintln("session", session, is, a.Secured(thread))
	}
	for n := range 5 {
		peer, known := a.Peer(slowName(n))
		text += fmt.Sprintf("peer %x, %t\n", peer, known)
	}
	return text
}

// two is a world, and a slow one to which the same happens.
type two struct {
	t    *testing.T
	w    *World
	slow *slowWorld
}

// newTwo gives two worlds.
func newTwo(t *testing.T, agents, blocks int) two {
	t.Helper()
	return two{t, newWorld(t, agents, blocks), newSlow(t, agents, blocks)}
}

// do does an event in both, and checks that all is the same then.
func (b two) do(e api.Event) api.Errno {
	b.t.Helper()
	own := e
	own.Body = bytes.Clone(e.Body)
	code, want := b.w.Do(own), b.slow.do(e)
	if code != want {
		b.t.Fatalf("%+v: %v, not %v", e, code, want)
	}
	if !bytes.Equal(own.Body, e.Body) {
		b.t.Fatalf("%+v: the body changed", e)
	}
	clear(own.Body)
	b.check(fmt.Sprintf("%+v", e))
	return code
}

// settle settles both, and checks that all is the same then.
func (b two) settle(seed api.Key) {
	b.t.Helper()
	b.w.Settle(seed)
	b.slow.settle(seed)
	b.check("settle")
}

// check checks that both worlds are the same, to the blocks of the agents' disks.
func (b two) check(what string) {
	b.t.Helper()
	if got, want := tellWorld(b.w), b.slow.tell(); got != want {
		b.t.Fatalf("%.300s: %.3000s\nnot %.3000s", what, got, want)
	}
	for n, m := range b.w.members {
		if !slices.Equal(blocksOf(m.disk), blocksOf(b.slow.disks[n])) || m.disk.Pending() != 0 {
			b.t.Fatalf("%.300s: the disk of %d is another one", what, n)
		}
	}
	for _, n := range []int{-1, len(b.w.members), 4, math.MinInt, math.MaxInt} {
		if b.w.Agent(n) != nil || len(b.w.Inbox(n)) != 0 {
			b.t.Fatalf("%.300s: there is a %d", what, n)
		}
	}
}

// blocksOf gives a disk's blocks.
func blocksOf(d *disk.Disk) []api.Block {
	blocks := make([]api.Block, d.Size())
	for n := range blocks {
		blocks[n], _ = d.Read(n)
	}
	return blocks
}

// newWorld gives a world.
func newWorld(t *testing.T, agents, blocks int) *World {
	t.Helper()
	w, code := New(agents, blocks)
	if w == nil || code != api.OK {
		t.Fatalf("%d agents, %d blocks: %v", agents, blocks, code)
	}
	return w
}

// someThreads are threads' ids that events tell; the last ones may be none.
func someThreads() []string { return []string{"t", "u", "v", "w@x", "", "a b"} }

// someKey gives a key that none had yet.
func someKey(roll func(n int) int) api.Key {
	return api.Key{byte(roll(256)), byte(roll(256)), byte(roll(256)), byte(roll(256)), byte(roll(256)), 77}
}

// someNumber gives any number: most are small.
func someNumber(roll func(n int) int) int {
	if roll(8) == 0 {
		return []int{math.MinInt, math.MaxInt, math.MinInt32, 1 << 32, -1, 1000003}[roll(6)]
	}
	return roll(41) - 20
}

// someBody gives a body.
func someBody(roll func(n int) int) []byte {
	b := bytes.Repeat([]byte{byte(roll(256))}, roll(90))
	return append(b, []string{"", "\r\n.\r\n", "\n", "\r", ".", "QUIT\r\n"}[roll(6)]...)
}

// someRewrite gives what a relay may do to a mail, or nothing that it may.
func someRewrite(roll func(n int) int) api.Rewrite {
	texts := []string{"", "x", "from a by b; c", " y", "a\nb", "\r\n\r\n", strings.Repeat("z ", 100), strings.Repeat("z", 201)}
	return api.Rewrite{Kind: roll(10), N: someNumber(roll), M: someNumber(roll), Text: texts[roll(len(texts))]}
}

// someEvent gives an event of a kind.
func someEvent(roll func(n int) int, kind, agents int) api.Event {
	return api.Event{
		Kind: kind, Who: roll(agents), To: roll(agents), N: someNumber(roll), M: someNumber(roll),
		Thread: someThreads()[roll(3)], Body: someBody(roll), Secure: roll(3) == 0, Stays: roll(4) == 0,
		Turn: byte(1 << roll(8)), Fresh: someKey(roll), Rewrite: someRewrite(roll),
	}
}
