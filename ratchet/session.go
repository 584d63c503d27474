package ratchet

import (
	"despatch/api"
	"despatch/number"
)

// What a session's first byte is the sum of.
const (
	sendsSign = 1
	takesSign = 2
)

// How many bytes a session has without its kept keys, and how many each one of these has.
const (
	fixedBytes = 1 + 5*api.KeyBytes + 4*numberBytes
	keptBytes  = api.KeyBytes + numberBytes + api.KeyBytes
)

// place is where a mail stands: its chain, and its number there.
type place struct {
	chain  api.Key
	number int
}

// Encode gives a session's bytes.
func Encode(s api.Session) ([]byte, api.Errno) {
	if !right(s) {
		return nil, api.ErrArg
	}
	b := make([]byte, 0, fixedBytes+len(s.Kept)*keptBytes)
	b = append(b, signs(s))
	for _, k := range [...]api.Key{s.Root, s.Own, s.Other, s.Send, s.Take} {
		b = append(b, k[:]...)
	}
	for _, n := range [...]int{s.Sent, s.Taken, s.Previous, len(s.Kept)} {
		b = appendNumber(b, n)
	}
	for _, k := range s.Kept {
		b = append(b, k.Chain[:]...)
		b = appendNumber(b, k.Number)
		b = append(b, k.Key[:]...)
	}
	return b, api.OK
}

// Decode gives the session of bytes.
func Decode(b []byte) (api.Session, api.Errno) {
	if len(b) < fixedBytes || b[0] > sendsSign+takesSign {
		return api.Session{}, api.ErrForm
	}
	// Asked ahead of cutting, so that what is cut is there.
	count := number.Read(b[fixedBytes-numberBytes : fixedBytes])
	if uint64(len(b)) != fixedBytes+count*keptBytes {
		return api.Session{}, api.ErrForm
	}
	if s := decoded(b, int(count)); right(s) {
		return s, api.OK
	}
	return api.Session{}, api.ErrForm
}

// decoded gives what bytes tell that are as many as a session with so many kept keys has.
func decoded(b []byte, count int) api.Session {
	s := api.Session{Sends: b[0]&sendsSign != 0, Takes: b[0]&takesSign != 0}
	c := cut{left: b[1:]}
	for _, k := range [...]*api.Key{&s.Root, &s.Own, &s.Other, &s.Send, &s.Take} {
		*k = c.key()
	}
	for _, n := range [...]*int{&s.Sent, &s.Taken, &s.Previous} {
		*n = c.number()
	}
	c.number() // how many are kept, which is known
	for range count {
		s.Kept = append(s.Kept, api.Kept{Chain: c.key(), Number: c.number(), Key: c.key()})
	}
	return s
}

// signs gives a session's first byte.
func signs(s api.Session) byte {
	var sum byte
	if s.Sends {
		sum += sendsSign
	}
	if s.Takes {
		sum += takesSign
	}
	return sum
}

// right tells whether a session is right.
func right(s api.Session) bool {
	if !mayCount(s.Sent) || !mayCount(s.Taken) || !mayCount(s.Previous) {
		return false
	}
	none := api.Key{}
	if !s.Sends && s.Send != none || !s.Takes && s.Take != none {
		return false
	}
	if !s.Sends && !s.Takes && s.Other != none {
		return false
	}
	return len(s.Kept) <= api.MaxKept && rightKept(s.Kept)
}

// rightKept tells whether keys are each of a number that may be, and no two of one place.
func rightKept(kept []api.Kept) bool {
	seen := map[place]int{}
	for i, k := range kept {
		at := place{k.Chain, k.Number}
		if _, twice := seen[at]; twice || !mayCount(k.Number) {
			return false
		}
		seen[at] = i
	}
	return true
}
