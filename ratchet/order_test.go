package ratchet

import (
	"bytes"
	"math/rand/v2"
	"slices"
	"strconv"
	"testing"

	"despatch/api"
	"despatch/curve"
)

// sent is a mail on its way: who it is for, what it is, whether it was taken.
type sent struct {
	to     int
	plain  string
	beside []byte
	bytes  []byte
	taken  bool
}

// two are the ends of a talk: 0 began it.
type two struct {
	t     *testing.T
	ends  [2]api.Session
	mails []*sent
	fresh int
}

// begin gives two ends that have begun.
func begin(t *testing.T, seed int) *two {
	root, own, other := row(seed), curve.New(row(seed+1)), curve.New(row(seed+2))
	return &two{t: t, fresh: 1000 * (seed + 1), ends: [2]api.Session{First(root, own, other.Public), Second(root, other)}}
}

// send encrypts the next mail of an end, if it can, and gives it.
func (w *two) send(from int) *sent {
	w.t.Helper()
	m := &sent{to: 1 - from, plain: "the mail " + strconv.Itoa(len(w.mails)), beside: []byte(strconv.Itoa(len(w.mails) % 3))}
	next, sealed, code := Encrypt(w.ends[from], m.beside, []byte(m.plain))
	if !w.ends[from].Sends {
		if code != api.ErrNoRoute || !same(next, w.ends[from]) || len(sealed) > 0 {
			w.t.Fatalf("who doesn't send: %v", code)
		}
		return nil
	}
	if code != api.OK {
		w.t.Fatalf("%q: %v", m.plain, code)
	}
	m.bytes = sealed
	w.ends[from] = w.through(next)
	w.mails = append(w.mails, m)
	return m
}

// through gives a session that was kept as bytes.
func (w *two) through(s api.Session) api.Session {
	w.t.Helper()
	b, code := Encode(s)
	if code != api.OK {
		w.t.Fatalf("Encode: %v", code)
	}
	again, code := Decode(b)
	if code != api.OK || !same(again, s) {
		w.t.Fatalf("Decode: %v", code)
	}
	return again
}

// take decrypts a mail: the first time it is to be read; later it is to be refused.
func (w *two) take(m *sent) {
	w.t.Helper()
	w.fresh++
	next, plain, code := Decrypt(w.ends[m.to], m.beside, m.bytes, row(w.fresh))
	if m.taken {
		w.refused(m, next, plain, code)
		return
	}
	if code != api.OK || string(plain) != m.plain {
		w.t.Fatalf("%q: %q, %v", m.plain, plain, code)
	}
	m.taken = true
	w.ends[m.to] = w.through(next)
}

// refused asks for an error, with the session as it was.
func (w *two) refused(m *sent, next api.Session, plain []byte, code api.Errno) {
	w.t.Helper()
	if code != api.ErrOld && code != api.ErrTag && code != api.ErrFar || len(plain) > 0 || !same(next, w.ends[m.to]) {
		w.t.Fatalf("%q once more: %q, %v", m.plain, plain, code)
	}
}

// hurt takes a mail of which a bit was turned.
func (w *two) hurt(m *sent, bit int) {
	w.t.Helper()
	b := bytes.Clone(m.bytes)
	b[bit/8%len(b)] ^= 1 << (bit % 8)
	next, plain, code := Decrypt(w.ends[m.to], m.beside, b, row(w.fresh))
	if code == api.OK || len(plain) > 0 || !same(next, w.ends[m.to]) {
		w.t.Fatalf("%q, bit %d turned: %q, %v", m.plain, bit, plain, code)
	}
}

// takeAll takes all mails in some order, and then all once more.
func (w *two) takeAll(r *rand.Rand) {
	w.t.Helper()
	for range 2 {
		for _, i := range r.Perm(len(w.mails)) {
			w.take(w.mails[i])
		}
	}
	for i, s := range w.ends {
		if len(s.Kept) > 0 {
			w.t.Errorf("the end %d has %d kept when all came", i, len(s.Kept))
		}
	}
}

func TestOrder(t *testing.T) { // P19.6: two talk, and their mails come in any order, again, and hurt
	for seed := range 30 {
		r := rand.New(rand.NewPCG(19, uint64(seed)))
		w := begin(t, 3*seed)
		mostly := 2 + r.IntN(8) // how much more is written than comes
		for range 120 {
			if r.IntN(10) < mostly {
				w.send(r.IntN(2))
			}
			if len(w.mails) == 0 {
				continue
			}
			m := w.mails[r.IntN(len(w.mails))]
			switch r.IntN(8) {
			case 0:
				w.hurt(m, r.IntN(1<<16))
			case 1, 2, 3:
				m = w.mails[max(0, len(w.mails)-1-r.IntN(4))]
				fallthrough
			default:
				w.take(m)
			}
		}
		w.takeAll(r)
	}
}

// orders gives each order of the numbers below n.
func orders(n int) [][]int {
	if n == 0 {
		return [][]int{nil}
	}
	var list [][]int
	for _, o := range orders(n - 1) {
		for at := range n {
			list = append(list, slices.Insert(slices.Clone(o), at, n-1))
		}
	}
	return list
}

func TestOrderAll(t *testing.T) { // P19.6: three mails of a chain, of which one is answered, and two of the next one, in each order
	for i, order := range orders(5) {
		w := begin(t, 7)
		for range 3 {
			w.send(0)
		}
		w.take(w.mails[i%3])
		w.take(w.send(1))
		mails := append(slices.Clone(w.mails[:3]), w.send(0), w.send(0))
		for _, at := range order {
			w.take(mails[at])
		}
		w.takeAll(rand.New(rand.NewPCG(1, uint64(i))))
	}
}

func TestOrderTurns(t *testing.T) { // P19.6: each answer brings a new chain, a new root and a new pair; the late ones of all of them come in the end
	w := begin(t, 11)
	seen := map[api.Key]int{}
	for i := range 20 {
		from := i % 2
		w.send(from)
		m := w.send(from)
		w.send(from)
		w.take(m)
		s := w.ends[1-from]
		for _, k := range []api.Key{s.Root, s.Own, s.Other, s.Send} {
			if j, found := seen[k]; found {
				t.Errorf("%d has a key of %d: %x", i, j, k)
			}
			seen[k] = i
		}
		previous := 3
		if i == 0 {
			previous = 0
		}
		if !s.Sends || !s.Takes || s.Sent != 0 || s.Taken != 2 || s.Previous != previous {
			t.Errorf("%d: %v", i, s)
		}
	}
	if len(w.ends[0].Kept) != 19 || len(w.ends[1].Kept) != 19 { // the first one of each of ten chains, and the third one of all but the last
		t.Errorf("%d, %d kept", len(w.ends[0].Kept), len(w.ends[1].Kept))
	}
	w.takeAll(rand.New(rand.NewPCG(2, 2)))
}

func TestOrderMost(t *testing.T) { // P19.6: 1000 left out of a chain at once, and 2000 in all
	w := begin(t, 13)
	for range 1001 {
		w.send(0)
	}
	w.take(w.mails[1000])
	w.take(w.send(1))
	for range 1001 {
		w.send(0)
	}
	end := w.mails[len(w.mails)-1]
	w.take(end)
	if len(w.ends[1].Kept) != 2000 {
		t.Fatalf("%d kept", len(w.ends[1].Kept))
	}
	w.take(w.mails[1000])
	w.take(end)
	r := rand.New(rand.NewPCG(3, 3))
	left := slices.DeleteFunc(slices.Clone(w.mails), func(m *sent) bool { return m.taken })
	for _, i := range r.Perm(len(left))[:40] {
		w.take(left[i])
		w.take(left[i])
	}
	for _, m := range left { // as one by one through bytes takes long
		if m.taken {
			continue
		}
		next, plain, code := Decrypt(w.ends[1], m.beside, m.bytes, row(1))
		if code != api.OK || string(plain) != m.plain {
			t.Fatalf("%q: %q, %v", m.plain, plain, code)
		}
		w.ends[1] = next
	}
	if len(w.ends[1].Kept) != 0 {
		t.Errorf("%d kept", len(w.ends[1].Kept))
	}
}

func TestOrderFar(t *testing.T) { // P19.6, P19.4: more than 1000 left out at once are ErrFar, until one ahead of them has come
	w := begin(t, 17)
	for range 1003 {
		w.send(0)
	}
	for range 2 {
		for _, m := range w.mails[1001:] {
			next, plain, code := Decrypt(w.ends[1], m.beside, m.bytes, row(1))
			if code != api.ErrFar || len(plain) > 0 || !same(next, w.ends[1]) {
				t.Fatalf("%q: %q, %v", m.plain, plain, code)
			}
		}
	}
	w.take(w.mails[1])
	w.take(w.mails[1002])
	w.take(w.mails[1001])
	w.take(w.mails[0])
	w.take(w.mails[0])
}

func TestOrderDropped(t *testing.T) { // P19.4: the first ones of more than 2000 are gone, all others are there
	w := begin(t, 19)
	for range 2103 {
		w.send(0)
	}
	for _, i := range []int{1000, 2001, 2102} { // 1000, 1000 and 100 left out
		w.take(w.mails[i])
	}
	if kept := w.ends[1].Kept; len(kept) != 2000 || kept[0].Number != 100 || kept[1999].Number != 2101 {
		t.Fatalf("%d kept", len(w.ends[1].Kept))
	}
	for _, i := range []int{0, 50, 99} {
		m := w.mails[i]
		next, plain, code := Decrypt(w.ends[1], m.beside, m.bytes, row(1))
		if code != api.ErrOld || len(plain) > 0 || !same(next, w.ends[1]) {
			t.Errorf("%q: %q, %v", m.plain, plain, code)
		}
	}
	for _, i := range []int{2101, 100, 101, 999, 1001, 1500, 2000, 2002} {
		w.take(w.mails[i])
		w.take(w.mails[i])
	}
}

func TestOthers(t *testing.T) { // P19.6: what goes to one is nothing for another one, nor for the sender, nor by other roots
	w := begin(t, 23)
	m := w.send(0)
	for i, s := range []api.Session{
		Second(row(23), curve.New(row(99))), Second(row(99), curve.New(row(25))), w.ends[0], {},
		First(row(23), curve.New(row(25)), pointOf(row(24))),
	} {
		if _, plain, code := decrypt(t, s, m.beside, m.bytes, row(1)); code != api.ErrTag {
			t.Errorf("%d: %q, %v", i, plain, code)
		}
	}
	if _, plain, code := decrypt(t, w.ends[1], []byte("9"), m.bytes, row(1)); code != api.ErrTag {
		t.Errorf("with other bytes beside: %q, %v", plain, code)
	}
	w.take(m)
}
