// Package hash is layer 1: see shared/doc/01-hash.md.
package hash

import (
	"math/bits"

	"despatch/api"
)

// Digest takes bytes one behind the other.
type Digest struct {
	state [8]uint32
	rest  [api.BlockBytes]byte // what was taken behind the last whole block
	total uint64               // how many bytes were taken in all
}

// New gives a Digest that has taken nothing.
func New() *Digest {
	return &Digest{state: [8]uint32{
		0x6a09e667, 0xbb67ae85, 0x3c6ef372, 0xa54ff53a,
		0x510e527f, 0x9b05688c, 0x1f83d9ab, 0x5be0cd19,
	}}
}

// Write takes bytes.
func (d *Digest) Write(b []byte) {
	filled := int(d.total % api.BlockBytes)
	d.total += uint64(len(b))
	if filled > 0 {
		n := copy(d.rest[filled:], b)
		if filled+n < api.BlockBytes {
			return
		}
		d.state = mix(d.state, d.rest)
		b = b[n:]
	}
	for len(b) >= api.BlockBytes {
		d.state = mix(d.state, [api.BlockBytes]byte(b))
		b = b[api.BlockBytes:]
	}
	copy(d.rest[:], b)
}

// Sum gives the digest of what was taken.
func (d *Digest) Sum() api.Key {
	// A copy takes the ending, so that d can go on taking bytes.
	done := *d
	done.Write(ending(d.total))
	var k api.Key
	for i, w := range done.state {
		k[4*i], k[4*i+1], k[4*i+2], k[4*i+3] = byte(w>>24), byte(w>>16), byte(w>>8), byte(w)
	}
	return k
}

// Sum gives the digest of bytes.
func Sum(b []byte) api.Key { return joined(b) }

// Hmac gives the code of some bytes, one behind the other, by a key.
func Hmac(key []byte, parts ...[]byte) api.Key {
	filled := filledKey(key)
	inner := joined(masked(filled, 54), parts...)
	return joined(masked(filled, 92), inner[:])
}

// joined gives the digest of some bytes, and of parts one behind the other.
func joined(first []byte, parts ...[]byte) api.Key {
	d := New()
	d.Write(first)
	for _, p := range parts {
		d.Write(p)
	}
	return d.Sum()
}

// filledKey gives a key of any length as one block.
func filledKey(key []byte) [api.BlockBytes]byte {
	var block [api.BlockBytes]byte
	if len(key) > api.BlockBytes {
		short := Sum(key)
		copy(block[:], short[:])
	} else {
		copy(block[:], key)
	}
	return block
}

// masked gives a block, each byte of it Xor a mask.
func masked(block [api.BlockBytes]byte, mask byte) []byte {
	for i := range block {
		block[i] ^= mask
	}
	return block[:]
}

// ending gives what comes behind n bytes, so that the last block is whole.
func ending(n uint64) []byte {
	size := api.BlockBytes - int(n%api.BlockBytes)
	if size < 1+8 {
		size += api.BlockBytes
	}
	var room [2 * api.BlockBytes]byte
	room[0] = 128
	count := n * 8
	for i := range 8 {
		room[size-1-i] = byte(count >> (8 * i))
	}
	return room[:size:size]
}

// rounds are the numbers K of the 64 rounds.
var rounds = [64]uint32{
	0x428a2f98, 0x71374491, 0xb5c0fbcf, 0xe9b5dba5, 0x3956c25b, 0x59f111f1, 0x923f82a4, 0xab1c5ed5,
	0xd807aa98, 0x12835b01, 0x243185be, 0x550c7dc3, 0x72be5d74, 0x80deb1fe, 0x9bdc06a7, 0xc19bf174,
	0xe49b69c1, 0xefbe4786, 0x0fc19dc6, 0x240ca1cc, 0x2de92c6f, 0x4a7484aa, 0x5cb0a9dc, 0x76f988da,
	0x983e5152, 0xa831c66d, 0xb00327c8, 0xbf597fc7, 0xc6e00bf3, 0xd5a79147, 0x06ca6351, 0x14292967,
	0x27b70a85, 0x2e1b2138, 0x4d2c6dfc, 0x53380d13, 0x650a7354, 0x766a0abb, 0x81c2c92e, 0x92722c85,
	0xa2bfe8a1, 0xa81a664b, 0xc24b8b70, 0xc76c51a3, 0xd192e819, 0xd6990624, 0xf40e3585, 0x106aa070,
	0x19a4c116, 0x1e376c08, 0x2748774c, 0x34b0bcb5, 0x391c0cb3, 0x4ed8aa4a, 0x5b9cca4f, 0x682e6ff3,
	0x748f82ee, 0x78a5636f, 0x84c87814, 0x8cc70208, 0x90befffa, 0xa4506ceb, 0xbef9a3f7, 0xc67178f2,
}

// mix gives the state behind one more block.
func mix(state [8]uint32, block [api.BlockBytes]byte) [8]uint32 {
	w := schedule(block)
	a, b, c, d := state[0], state[1], state[2], state[3]
	e, f, g, h := state[4], state[5], state[6], state[7]
	for i := range rounds {
		t1 := h + (turn(e, 6) ^ turn(e, 11) ^ turn(e, 25)) + (e&f ^ ^e&g) + rounds[i] + w[i]
		t2 := (turn(a, 2) ^ turn(a, 13) ^ turn(a, 22)) + (a&b ^ a&c ^ b&c)
		h, g, f, e, d, c, b, a = g, f, e, d+t1, c, b, a, t1+t2
	}
	for i, x := range [8]uint32{a, b, c, d, e, f, g, h} {
		state[i] += x
	}
	return state
}

// schedule gives the words w of a block.
func schedule(block [api.BlockBytes]byte) [64]uint32 {
	var w [64]uint32
	for i := range 16 {
		w[i] = uint32(block[4*i])<<24 | uint32(block[4*i+1])<<16 | uint32(block[4*i+2])<<8 | uint32(block[4*i+3])
	}
	for i := 16; i < len(w); i++ {
		s0 := turn(w[i-15], 7) ^ turn(w[i-15], 18) ^ w[i-15]>>3
		s1 := turn(w[i-2], 17) ^ turn(w[i-2], 19) ^ w[i-2]>>10
		w[i] = s1 + w[i-7] + s0 + w[i-16]
	}
	return w
}

// turn gives a word, turned n bits to the right.
func turn(x uint32, n int) uint32 { return bits.RotateLeft32(x, -n) }
