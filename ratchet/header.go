package ratchet

import (
	"bytes"
	"math"

	"despatch/api"
	"despatch/number"
)

// numberBytes is how many bytes tell a number.
const numberBytes = 4

// HeaderBytes is how many bytes a header has.
const HeaderBytes = api.KeyBytes + 8

// mostNumber is the greatest number of a mail in its chain, and the most mails of a chain.
const mostNumber = math.MaxInt32

// Head gives the header of an enciphered mail, and what is behind it.
func Head(sealed []byte) (h api.Header, rest []byte, code api.Errno) {
	if len(sealed) < HeaderBytes {
		return api.Header{}, nil, api.ErrForm
	}
	c := cut{left: sealed}
	h = api.Header{Chain: c.key(), Previous: c.number(), Number: c.number()}
	if !mayCount(h.Previous) || !mayCount(h.Number) {
		return api.Header{}, nil, api.ErrForm
	}
	return h, bytes.Clone(c.left), api.OK
}

// headerBytes gives a header's bytes.
func headerBytes(h api.Header) []byte {
	b := make([]byte, 0, HeaderBytes)
	b = append(b, h.Chain[:]...)
	b = appendNumber(b, h.Previous)
	return appendNumber(b, h.Number)
}

// mayCount tells whether there may be so many mails, or a mail of that number.
func mayCount(n int) bool { return n >= 0 && n <= mostNumber }

// appendNumber gives bytes with a number behind them.
func appendNumber(b []byte, n int) []byte { return number.Append(b, uint64(n), numberBytes) }

// cut is bytes that are there, from which keys and numbers are cut, one behind the other.
type cut struct{ left []byte }

// key cuts a key.
func (c *cut) key() api.Key {
	k := api.Key(c.left[:api.KeyBytes])
	c.left = c.left[api.KeyBytes:]
	return k
}

// number cuts a number.
func (c *cut) number() int {
	n := number.Read(c.left[:numberBytes])
	c.left = c.left[numberBytes:]
	return int(n)
}
