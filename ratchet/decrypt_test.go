package ratchet

import (
	"bytes"
	"math/rand/v2"
	"slices"
	"testing"

	"despatch/api"
)

// slowKey gives the key of the mail of a header, and the session behind it, step by step as the chapter tells, by other programs' means.
func slowKey(s api.Session, h api.Header, fresh api.Key) (api.Session, api.Key, api.Errno) {
	for i, k := range s.Kept {
		if k.Chain == h.Chain && k.Number == h.Number {
			s.Kept = slices.Concat(s.Kept[:i], s.Kept[i+1:])
			return s, k.Key, api.OK
		}
	}
	s = clone(s)
	leaves := func(upTo int) bool {
		if upTo-s.Taken > 1000 {
			return false
		}
		for ; s.Taken < upTo; s.Taken++ {
			next, message := otherStep(s.Take)
			s.Kept = append(s.Kept, api.Kept{Chain: s.Other, Number: s.Taken, Key: message})
			s.Take = next
		}
		return true
	}
	if s.Other != h.Chain || !s.Takes {
		if s.Takes && !leaves(h.Previous) {
			return s, api.Key{}, api.ErrFar
		}
		s.Other = h.Chain
		s.Root, s.Take = otherTurn(s.Root, otherShared(s.Own, h.Chain))
		s.Takes, s.Taken = true, 0
		s.Own = fresh
		s.Root, s.Send = otherTurn(s.Root, otherShared(fresh, h.Chain))
		s.Sends, s.Previous, s.Sent = true, s.Sent, 0
	}
	if h.Number < s.Taken {
		return s, api.Key{}, api.ErrOld
	}
	if !leaves(h.Number) {
		return s, api.Key{}, api.ErrFar
	}
	var message api.Key
	s.Take, message = otherStep(s.Take)
	s.Taken++
	if more := len(s.Kept) - 2000; more > 0 {
		s.Kept = s.Kept[more:]
	}
	return s, message, api.OK
}

// holdSlow holds Decrypt against slowKey, with a mail of the right key, one of another key, and one that is too short to be sealed.
func holdSlow(t *testing.T, s api.Session, h api.Header, fresh api.Key) api.Errno {
	t.Helper()
	beside, plain := []byte("beside"), []byte("plain")
	want, message, wantCode := slowKey(s, h, fresh)
	right := mailOf(h, message, beside, plain)
	next, got, code := decrypt(t, s, beside, right, fresh)
	if code != wantCode || code == api.OK && (!same(next, want) || !bytes.Equal(got, plain)) {
		t.Errorf("%v: %q, %v, want %v", h, got, code, wantCode)
	}
	wrong := wantCode
	if wantCode == api.OK {
		wrong = api.ErrTag
	}
	message[0] ^= 1
	if _, _, code := decrypt(t, s, beside, mailOf(h, message, beside, plain), fresh); code != wrong {
		t.Errorf("%v, by another key: %v, want %v", h, code, wrong)
	}
	if _, _, code := decrypt(t, s, []byte("besides"), right, fresh); code != wrong {
		t.Errorf("%v, with other bytes beside: %v, want %v", h, code, wrong)
	}
	if wantCode == api.OK {
		wrong = api.ErrForm
	}
	for _, n := range []int{HeaderBytes, HeaderBytes + 31} {
		if _, _, code := decrypt(t, s, beside, right[:n], fresh); code != wrong {
			t.Errorf("%v, of %d bytes: %v, want %v", h, n, code, wrong)
		}
	}
	return code
}

// expect asks for an error, too.
func expect(t *testing.T, s api.Session, h api.Header, want api.Errno) {
	t.Helper()
	if code := holdSlow(t, s, h, row(77)); code != want {
		t.Errorf("%v: %v, want %v", h, code, want)
	}
}

func TestDecryptHead(t *testing.T) { // P19.4: Head's error comes first
	for _, s := range sessions() {
		for _, k := range append(s.Kept, api.Kept{Chain: row(70)}) {
			mail := mailOf(api.Header{Chain: k.Chain, Number: k.Number}, k.Key, nil, nil)
			for _, n := range []int{0, 1, 39} {
				if _, _, code := decrypt(t, s, nil, mail[:n], row(71)); code != api.ErrForm {
					t.Errorf("%d bytes: %v", n, code)
				}
			}
			for _, at := range []int{32, 36} {
				turned := bytes.Clone(mail)
				turned[at] |= 0x80
				if _, _, code := decrypt(t, s, nil, turned, row(71)); code != api.ErrForm {
					t.Errorf("a number above the greatest: %v", code)
				}
			}
		}
	}
}

func TestDecryptKept(t *testing.T) { // P19.4: a kept key opens, whatever else the session has, and goes; nothing else changes
	for i, s := range sessions() {
		for j, k := range s.Kept {
			for _, previous := range []int{0, 2000, last} {
				h := api.Header{Chain: k.Chain, Previous: previous, Number: k.Number}
				expect(t, s, h, api.OK)
				next, _, _ := decrypt(t, s, nil, mailOf(h, k.Key, nil, nil), row(71))
				want := clone(s)
				want.Kept = slices.Delete(want.Kept, j, j+1)
				if !same(next, want) {
					t.Errorf("%d, %d: %v", i, j, next)
				}
			}
		}
	}
}

func TestDecryptKeptFirst(t *testing.T) { // P19.4: a kept key is asked ahead of the chain, also for the mail that the chain is at
	for _, number := range []int{0, 4, 5, 6, 3000} {
		s := api.Session{Root: row(1), Own: row(2), Other: row(3), Takes: true, Take: row(4), Taken: 5}
		s.Kept = []api.Kept{{Chain: row(3), Number: number + 1, Key: row(5)}, {Chain: row(3), Number: number, Key: row(6)}}
		h := api.Header{Chain: row(3), Number: number}
		expect(t, s, h, api.OK)
		_, message := chainAt(s.Take, max(number-s.Taken, 0))
		if _, _, code := decrypt(t, s, nil, mailOf(h, message, nil, nil), row(7)); code != api.ErrTag {
			t.Errorf("%d: the chain's own key: %v", number, code)
		}
	}
}

func TestDecryptKeptPlace(t *testing.T) { // P19.4: of a kept key both the chain and the number count
	s := api.Session{Root: row(1), Own: row(2), Other: row(3), Takes: true, Take: row(4), Taken: 5}
	s.Kept = []api.Kept{{Chain: row(3), Number: 2, Key: row(5)}, {Chain: row(6), Number: 3, Key: row(7)}}
	expect(t, s, api.Header{Chain: row(3), Number: 3}, api.ErrOld)
	expect(t, s, api.Header{Chain: row(3), Number: 2}, api.OK)
	expect(t, s, api.Header{Chain: row(6), Number: 3}, api.OK)
	expect(t, s, api.Header{Chain: row(6), Number: 2}, api.OK) // a new chain
	other := row(6)
	other[31] ^= 0x80 // the same point, told by other bytes
	expect(t, s, api.Header{Chain: other, Number: 3}, api.OK)
	if _, _, code := decrypt(t, s, nil, mailOf(api.Header{Chain: other, Number: 3}, row(7), nil, nil), row(8)); code != api.ErrTag {
		t.Errorf("the kept key of a chain told by other bytes: %v", code)
	}
}

func TestDecryptChain(t *testing.T) { // P19.4: mails of the chain that is taken by; Previous doesn't count
	s := api.Session{Root: row(1), Own: row(2), Other: row(3), Takes: true, Take: row(4), Taken: 5, Previous: 9}
	for _, previous := range []int{0, 6, 5000, last} {
		for number := range 9 {
			want := api.OK
			if number < s.Taken {
				want = api.ErrOld
			}
			expect(t, s, api.Header{Chain: row(3), Previous: previous, Number: number}, want)
		}
	}
	h := api.Header{Chain: row(3), Number: 7}
	_, message := chainAt(s.Take, 2)
	next, plain, code := decrypt(t, s, []byte("x"), mailOf(h, message, []byte("x"), []byte("seven")), row(5))
	want := clone(s)
	want.Take, _ = chainAt(s.Take, 3)
	want.Taken = 8
	for i := range 2 {
		_, key := chainAt(s.Take, i)
		want.Kept = append(want.Kept, api.Kept{Chain: row(3), Number: 5 + i, Key: key})
	}
	if code != api.OK || string(plain) != "seven" || !same(next, want) {
		t.Errorf("%v, %q, %v", next, plain, code)
	}
}

func TestDecryptNewChain(t *testing.T) { // P19.4: of each right session, by each point
	for _, s := range sessions() {
		for _, chain := range append(points(), s.Other) {
			for _, number := range []int{0, 2} {
				for _, previous := range []int{0, s.Taken, min(s.Taken+3, last)} {
					h := api.Header{Chain: chain, Previous: previous, Number: number}
					holdSlow(t, s, h, row(71))
				}
			}
		}
	}
}

func TestDecryptNotTaking(t *testing.T) { // P19.4: who doesn't take yet gets a new chain, though the point is Other, and leaves none of the one ahead out
	s := api.Session{Root: row(1), Own: row(2), Other: row(3), Sends: true, Send: row(4), Sent: 3, Taken: 7, Previous: 8}
	for _, chain := range []api.Key{row(3), row(5)} {
		expect(t, s, api.Header{Chain: chain, Previous: last, Number: 1000}, api.OK)
		expect(t, s, api.Header{Chain: chain, Previous: last, Number: 1001}, api.ErrFar)
		next, _, _ := slowKey(s, api.Header{Chain: chain, Previous: 9, Number: 2}, row(6))
		if len(next.Kept) != 2 || next.Taken != 3 || next.Sent != 0 || next.Previous != 3 || next.Own != row(6) {
			t.Errorf("%v", next)
		}
	}
}

func TestDecryptFar(t *testing.T) { // P19.4: at most 1000 of a chain are left out at once
	s := api.Session{Root: row(1), Own: row(2), Other: row(3), Takes: true, Take: row(4), Taken: 5}
	for _, x := range []struct {
		h    api.Header
		want api.Errno
	}{
		{api.Header{Chain: row(3), Number: 1004}, api.OK},
		{api.Header{Chain: row(3), Number: 1005}, api.OK},
		{api.Header{Chain: row(3), Number: 1006}, api.ErrFar},
		{api.Header{Chain: row(3), Number: last}, api.ErrFar},
		{api.Header{Chain: row(3), Number: 4, Previous: last}, api.ErrOld},
		{api.Header{Chain: row(5), Previous: 1005, Number: 1000}, api.OK},
		{api.Header{Chain: row(5), Previous: 1006, Number: 0}, api.ErrFar},
		{api.Header{Chain: row(5), Previous: last, Number: last}, api.ErrFar},
		{api.Header{Chain: row(5), Previous: 0, Number: 1001}, api.ErrFar},
		{api.Header{Chain: row(5), Previous: 1005, Number: 1001}, api.ErrFar},
		{api.Header{Chain: row(5), Previous: 4, Number: 1000}, api.OK},
		{api.Header{Chain: row(5), Number: last}, api.ErrFar},
	} {
		expect(t, s, x.h, x.want)
	}
}

// keptOf gives keys of so many mails of a chain.
func keptOf(chain api.Key, n int) []api.Kept {
	var list []api.Kept
	for i := range n {
		list = append(list, api.Kept{Chain: chain, Number: i, Key: row(i)})
	}
	return list
}

func TestDecryptMostKept(t *testing.T) { // P19.4: of more than 2000 kept the first ones are dropped
	for _, x := range []struct{ kept, previous, number, want int }{
		{1998, 0, 1, 1999}, {1999, 0, 1, 2000}, {2000, 0, 0, 2000}, {2000, 0, 1, 2000}, {2000, 0, 3, 2000},
		{1000, 1000, 0, 2000}, {1001, 1000, 0, 2000}, {0, 1000, 1000, 2000}, {1, 1000, 1000, 2000},
		{1500, 1000, 1000, 2000}, {2000, 1000, 1000, 2000}, {1999, 1, 1, 2000},
	} {
		s := api.Session{Root: row(1), Own: row(2), Other: row(3), Takes: true, Take: row(4), Kept: keptOf(row(9), x.kept)}
		h := api.Header{Chain: row(5), Previous: x.previous, Number: x.number}
		expect(t, s, h, api.OK)
		next, message, _ := slowKey(s, h, row(6))
		got, _, code := decrypt(t, s, nil, mailOf(h, message, nil, nil), row(6))
		if code != api.OK || len(got.Kept) != x.want || !same(got, next) {
			t.Errorf("%v: %d kept, %v", x, len(got.Kept), code)
		}
		left := x.kept + x.previous + x.number
		if left > 2000 && x.kept > left-2000 && got.Kept[0] != s.Kept[left-2000] {
			t.Errorf("%v: the first one is %v", x, got.Kept[0])
		}
		if end := got.Kept[len(got.Kept)-1]; x.number > 0 && (end.Chain != row(5) || end.Number != x.number-1) {
			t.Errorf("%v: the last one is %v", x, end)
		}
		if b, code := Encode(got); code != api.OK || len(b) != 177+68*x.want {
			t.Errorf("%v: %d, %v", x, len(b), code)
		}
	}
}

func TestDecryptGreatest(t *testing.T) { // P19.4: numbers up to the greatest
	for _, taken := range []int{last - 1000, last - 3, last - 2, last - 1, last} {
		s := api.Session{Root: row(1), Own: row(2), Other: row(3), Takes: true, Take: row(4), Sends: true, Send: row(5), Sent: last, Taken: taken}
		for _, number := range []int{last - 2, last - 1, last} {
			want := api.OK
			if number < taken {
				want = api.ErrOld
			}
			expect(t, s, api.Header{Chain: row(3), Previous: last, Number: number}, want)
			expect(t, s, api.Header{Chain: row(7), Previous: number, Number: 2}, api.OK)
		}
	}
}

func TestDecryptTurned(t *testing.T) { // P19.4: each bit of a mail counts, and so do the bytes beside
	s := api.Session{Root: row(1), Own: row(2), Other: row(3), Takes: true, Take: row(4), Taken: 2, Kept: []api.Kept{{Chain: row(9), Number: 1, Key: row(8)}}}
	beside := []byte("beside")
	for _, h := range []api.Header{{Chain: row(3), Number: 3}, {Chain: row(5), Previous: 3, Number: 2}, {Chain: row(9), Number: 1}} {
		_, message, _ := slowKey(s, h, row(6))
		mail := mailOf(h, message, beside, []byte("plain"))
		if _, plain, code := decrypt(t, s, beside, mail, row(6)); code != api.OK || string(plain) != "plain" {
			t.Fatalf("%v: %q, %v", h, plain, code)
		}
		for i := range 8 * len(mail) {
			turned := bytes.Clone(mail)
			turned[i/8] ^= 1 << (i % 8)
			_, _, code := Decrypt(s, beside, turned, row(6))
			switch code {
			case api.ErrForm, api.ErrTag, api.ErrOld, api.ErrFar:
			default:
				t.Errorf("%v, bit %d: %v", h, i, code)
			}
			if code != api.ErrTag && i >= 8*HeaderBytes {
				t.Errorf("%v, bit %d: %v", h, i, code)
			}
		}
		for _, other := range [][]byte{nil, beside[:5], []byte("beside\x00"), slices.Concat(beside, mail[:1])} {
			if _, _, code := decrypt(t, s, other, mail, row(6)); code != api.ErrTag {
				t.Errorf("%v, beside %q: %v", h, other, code)
			}
		}
	}
}

// someSession gives a right session of no order, whose numbers are small or great.
func someSession(r *rand.Rand, chains []api.Key) api.Session {
	count := func() int { return []int{0, r.IntN(5), r.IntN(2000), last - r.IntN(3)}[r.IntN(4)] }
	s := api.Session{Root: row(r.IntN(99)), Own: row(r.IntN(99)), Sent: count(), Taken: count(), Previous: count()}
	if s.Sends = r.IntN(3) > 0; s.Sends {
		s.Send = row(r.IntN(99))
	}
	if s.Takes = r.IntN(3) > 0; s.Takes {
		s.Take = row(r.IntN(99))
	}
	if s.Sends || s.Takes {
		s.Other = chains[r.IntN(len(chains))]
	}
	for _, chain := range chains[:r.IntN(len(chains))] {
		for n := range r.IntN(4) {
			s.Kept = append(s.Kept, api.Kept{Chain: chain, Number: s.Taken/2 + 2*n, Key: row(r.IntN(99))})
		}
	}
	return s
}

func TestDecryptSlow(t *testing.T) { // P19.4: sessions and mails of no order
	r := rand.New(rand.NewPCG(19, 4))
	chains := []api.Key{row(200), {}, pointOf(row(201)), filled(255)}
	codes := map[api.Errno]int{}
	for range 500 {
		s := someSession(r, chains)
		near := func() int {
			n := []int{r.IntN(6), s.Taken + r.IntN(9) - 4, s.Taken + 998 + r.IntN(5), s.Taken/2 + r.IntN(8), r.IntN(1 << 31)}[r.IntN(5)]
			return min(max(n, 0), last)
		}
		h := api.Header{Chain: chains[r.IntN(len(chains))], Previous: near(), Number: near()}
		codes[holdSlow(t, s, h, row(r.IntN(99)))]++
	}
	for _, code := range []api.Errno{api.OK, api.ErrOld, api.ErrFar} {
		if codes[code] < 20 {
			t.Errorf("the answer %d came %d times", code, codes[code])
		}
	}
}
