package ratchet

import (
	"bytes"
	"encoding/binary"
	"math"
	"slices"
	"testing"

	"despatch/api"
)

// bytesOf gives a session's bytes as the chapter tells, whether or not it is right.
func bytesOf(s api.Session) []byte {
	b := []byte{0}
	if s.Sends {
		b[0]++
	}
	if s.Takes {
		b[0] += 2
	}
	b = slices.Concat(b, s.Root[:], s.Own[:], s.Other[:], s.Send[:], s.Take[:])
	for _, n := range []int{s.Sent, s.Taken, s.Previous, len(s.Kept)} {
		b = binary.BigEndian.AppendUint32(b, uint32(n))
	}
	for _, k := range s.Kept {
		b = append(b, k.Chain[:]...)
		b = binary.BigEndian.AppendUint32(b, uint32(k.Number))
		b = append(b, k.Key[:]...)
	}
	return b
}

// wrong gives sessions that aren't right, each by one thing.
func wrong() []api.Session {
	from := func(turn func(s *api.Session)) api.Session {
		s := clone(sessions()[7])
		turn(&s)
		return s
	}
	list := []api.Session{
		{Send: row(1)}, {Take: row(1)}, {Other: row(1)}, {Other: api.Key{31: 1}}, {Send: api.Key{31: 1}}, {Take: api.Key{0: 1}},
		{Sends: true, Take: row(1)}, {Takes: true, Send: row(1)},
		{Kept: keptOf(row(1), 2001)},
		{Kept: slices.Concat(keptOf(row(1), 2000), []api.Kept{{}})},
		{Kept: slices.Concat(keptOf(row(1), 1999), []api.Kept{{Chain: row(1), Number: 0, Key: row(500)}})},
	}
	for _, n := range []int{-1, 1 << 31, 1<<31 + 5, 1<<32 - 1, 1 << 32, 1<<32 + 6, math.MinInt, math.MaxInt, -1 << 31} {
		list = append(list,
			from(func(s *api.Session) { s.Sent = n }),
			from(func(s *api.Session) { s.Taken = n }),
			from(func(s *api.Session) { s.Previous = n }),
			from(func(s *api.Session) { s.Kept[0].Number = n }),
			from(func(s *api.Session) { s.Kept[4].Number = n }))
	}
	for i := range 5 {
		list = append(list,
			from(func(s *api.Session) { s.Kept = append(s.Kept, s.Kept[i]) }),
			from(func(s *api.Session) { s.Kept = slices.Insert(s.Kept, 0, s.Kept[i]) }),
			from(func(s *api.Session) {
				s.Kept = append(s.Kept, api.Kept{Chain: s.Kept[i].Chain, Number: s.Kept[i].Number, Key: filled(9)})
			}))
	}
	return list
}

// great gives right sessions with as many kept as may be.
func great() []api.Session {
	many := slices.Concat(keptOf(row(1), 1000), keptOf(row(2), 1000))
	return []api.Session{
		{Kept: many}, {Kept: many[:1999]}, {Kept: many[:1]},
		{Other: row(1), Takes: true, Take: row(3), Taken: 4, Kept: many},
	}
}

func TestEncode(t *testing.T) { // P19.5
	for i, s := range append(sessions(), great()...) {
		was := clone(s)
		b, code := Encode(s)
		if code != api.OK || !bytes.Equal(b, bytesOf(s)) || len(b) != 177+68*len(s.Kept) {
			t.Errorf("%d: %x, %v", i, b, code)
		}
		if !same(s, was) {
			t.Errorf("%d: what was handed in was changed", i)
		}
		again, _ := Encode(s)
		clear(again[:cap(again)])
		if !bytes.Equal(b, bytesOf(s)) {
			t.Errorf("%d: two answers share memory", i)
		}
	}
}

func TestEncodeArg(t *testing.T) { // P19.5
	for i, s := range wrong() {
		if b, code := Encode(s); code != api.ErrArg || len(b) > 0 {
			t.Errorf("%d: %x, %v", i, b, code)
		}
	}
}

func TestDecode(t *testing.T) { // P19.5
	for i, s := range append(sessions(), great()...) {
		b := bytesOf(s)
		got, code := Decode(b)
		if code != api.OK || !same(got, s) {
			t.Errorf("%d: %v, %v", i, got, code)
		}
		if !bytes.Equal(b, bytesOf(s)) {
			t.Errorf("%d: what was handed in was changed", i)
		}
		again, _ := Decode(b)
		scribble(again)
		clear(b)
		if !same(got, s) {
			t.Errorf("%d: the answer shares memory", i)
		}
	}
}

func TestDecodeForm(t *testing.T) { // P19.5
	refuse := func(what string, i int, b []byte) {
		t.Helper()
		if s, code := Decode(b); code != api.ErrForm || !same(s, api.Session{}) {
			t.Errorf("%s %d: %v, %v", what, i, s, code)
		}
	}
	for i, s := range wrong() {
		b := bytesOf(s)
		if n := s.Sent | s.Taken | s.Previous; n > math.MaxUint32 || n < 0 {
			continue // whose bytes tell another number
		}
		if slices.ContainsFunc(s.Kept, func(k api.Kept) bool { return k.Number > math.MaxUint32 || k.Number < 0 }) {
			continue
		}
		refuse("of no right session", i, b)
	}
	for _, s := range sessions() {
		whole := bytesOf(s)
		for n := range whole {
			refuse("cut", n, whole[:n])
		}
		refuse("more", 1, append(bytes.Clone(whole), 0))
		refuse("more", 68, append(bytes.Clone(whole), make([]byte, 68)...))
		refuse("behind another byte", 0, append([]byte{0}, whole...))
		for first := 4; first < 256; first++ {
			refuse("the first byte", first, append([]byte{byte(first)}, whole[1:]...))
		}
		for _, count := range []int{len(s.Kept) + 1, len(s.Kept) - 1, len(s.Kept) + 256, 1 << 31, math.MaxUint32, 2001} {
			b := bytes.Clone(whole)
			binary.BigEndian.PutUint32(b[173:], uint32(count))
			refuse("of kept", count, b)
		}
	}
	refuse("noughts", 176, make([]byte, 176))
	refuse("noughts", 178, make([]byte, 178))
	if s, code := Decode(make([]byte, 177)); code != api.OK || !same(s, api.Session{}) {
		t.Errorf("177 noughts: %v, %v", s, code)
	}
}

func TestDecodeEachBit(t *testing.T) { // P19.5: what Decode takes is what Encode gives of its answer, and nothing else
	for i, s := range sessions() {
		whole := bytesOf(s)
		taken := 0
		for j := range 8 * len(whole) {
			b := bytes.Clone(whole)
			b[j/8] ^= 1 << (j % 8)
			got, code := Decode(b)
			switch code {
			case api.OK:
				taken++
				again, code := Encode(got)
				if same(got, s) || code != api.OK || !bytes.Equal(again, b) {
					t.Errorf("%d, bit %d: %v, %v", i, j, got, code)
				}
			case api.ErrForm:
				if !same(got, api.Session{}) {
					t.Errorf("%d, bit %d: %v", i, j, got)
				}
			default:
				t.Errorf("%d, bit %d: %v", i, j, code)
			}
		}
		if taken < 8*64 {
			t.Errorf("%d: %d bits alone", i, taken)
		}
	}
}

func TestOddSessions(t *testing.T) { // P1, P2: each call ends, also of sessions that aren't right
	odd := append(wrong(), api.Session{Sends: true, Takes: true, Sent: -5, Taken: math.MinInt, Previous: math.MaxInt, Kept: keptOf(api.Key{}, 5000)})
	for _, s := range odd {
		s.Sends, s.Takes = true, true
		for _, taken := range []int{s.Taken, math.MinInt, math.MinInt + 1000, -1000, -1, math.MaxInt, last + 1} {
			s.Taken = taken
			for _, h := range []api.Header{{Chain: s.Other}, {Chain: s.Other, Number: last}, {Chain: row(98), Previous: last, Number: 2}, {Chain: row(98), Number: last}} {
				decrypt(t, s, nil, mailOf(h, row(1), nil, nil), row(2))
			}
		}
		next, sealed, code := Encrypt(s, nil, nil)
		again, sealedAgain, codeAgain := Encrypt(s, nil, nil)
		if !same(next, again) || !bytes.Equal(sealed, sealedAgain) || code != codeAgain {
			t.Errorf("%v: another answer at the second call", s)
		}
	}
}
