package ratchet

import (
	"bytes"
	"crypto/ecdh"
	"crypto/hkdf"
	"crypto/hmac"
	"crypto/sha256"
	"encoding/binary"
	"encoding/hex"
	"reflect"
	"slices"
	"testing"

	"despatch/api"
	"despatch/seal"
)

// last is the greatest number that there is.
const last = 1<<31 - 1

// rising gives a key whose bytes rise from a first one.
func rising(first int) api.Key {
	var k api.Key
	for i := range k {
		k[i] = byte(first + i)
	}
	return k
}

// row gives a key whose bytes seem to be of no order.
func row(first int) api.Key {
	var k api.Key
	x := uint32(first)*2654435761 + 12345
	for i := range k {
		x = x*1664525 + 1013904223
		k[i] = byte(x >> 24)
	}
	return k
}

// filled gives a key of one byte.
func filled(b byte) api.Key { return api.Key(bytes.Repeat([]byte{b}, api.KeyBytes)) }

// unhex gives the bytes of hexadecimal digits.
func unhex(t *testing.T, s string) []byte {
	t.Helper()
	b, err := hex.DecodeString(s)
	if err != nil {
		t.Fatal(err)
	}
	return b
}

// sum gives the digits of a digest.
func sum(b []byte) string {
	k := sha256.Sum256(b)
	return hex.EncodeToString(k[:])
}

// pointOf gives a number's point as the library has it.
func pointOf(own api.Key) api.Key {
	k, err := ecdh.X25519().NewPrivateKey(own[:])
	if err != nil {
		panic(err)
	}
	return api.Key(k.PublicKey().Bytes())
}

// otherShared gives what two share as the library has it, whose error for a point that shares 0 stands for 0.
func otherShared(own, point api.Key) api.Key {
	k, err := ecdh.X25519().NewPrivateKey(own[:])
	if err != nil {
		panic(err)
	}
	p, err := ecdh.X25519().NewPublicKey(point[:])
	if err != nil {
		panic(err)
	}
	shared, err := k.ECDH(p)
	if err != nil {
		return api.Key{}
	}
	return api.Key(shared)
}

// otherTurn turns a root as the library's HKDF has it.
func otherTurn(root, shared api.Key) (next, chain api.Key) {
	b, err := hkdf.Key(sha256.New, shared[:], root[:], "ratchet", 64)
	if err != nil {
		panic(err)
	}
	return api.Key(b[:32]), api.Key(b[32:])
}

// otherStep goes a chain on as the library's HMAC has it.
func otherStep(chain api.Key) (next, message api.Key) {
	code := func(b byte) api.Key {
		h := hmac.New(sha256.New, chain[:])
		h.Write([]byte{b})
		return api.Key(h.Sum(nil))
	}
	return code(2), code(1)
}

// chainAt gives a chain's key so many steps on, and the message key that is next there.
func chainAt(chain api.Key, n int) (at, message api.Key) {
	for range n {
		chain, _ = otherStep(chain)
	}
	_, message = otherStep(chain)
	return chain, message
}

// mailOf gives the mail of a header that is sealed by a key.
func mailOf(h api.Header, message api.Key, beside, plain []byte) []byte {
	head := binary.BigEndian.AppendUint32(bytes.Clone(h.Chain[:]), uint32(h.Previous))
	head = binary.BigEndian.AppendUint32(head, uint32(h.Number))
	return slices.Concat(head, seal.Seal(message, api.Nonce{}, slices.Concat(beside, head), plain))
}

// clone gives a session with a list of its own, in whose memory is nothing else.
func clone(s api.Session) api.Session {
	s.Kept = slices.Clone(s.Kept)
	return s
}

// same tells whether two sessions are one; no list, and one without elements, are one.
func same(a, b api.Session) bool {
	kept := slices.Equal(a.Kept, b.Kept)
	a.Kept, b.Kept = nil, nil
	return kept && reflect.DeepEqual(a, b)
}

// scribble writes over all memory of a session's list.
func scribble(s api.Session) {
	room := s.Kept[:cap(s.Kept)]
	for i := range room {
		room[i] = api.Kept{Chain: filled(0xee), Number: -1, Key: filled(0xee)}
	}
}

// decrypt decrypts, and asks of the call what holds of each one: what is handed in stays; with an error the session is as it was, and there is no plain; the same call gives the same, in memory of its own.
func decrypt(t *testing.T, s api.Session, beside, sealed []byte, fresh api.Key) (api.Session, []byte, api.Errno) {
	t.Helper()
	was, mail, aside := clone(s), bytes.Clone(sealed), bytes.Clone(beside)
	next, plain, code := Decrypt(s, beside, sealed, fresh)
	kept, keptPlain := clone(next), bytes.Clone(plain)
	again, plainAgain, codeAgain := Decrypt(s, beside, sealed, fresh)
	if !same(again, next) || !bytes.Equal(plainAgain, plain) || codeAgain != code {
		t.Errorf("another answer at the second call: %v, %v", code, codeAgain)
	}
	scribble(again)
	clear(plainAgain[:cap(plainAgain)])
	if !same(s, was) || !bytes.Equal(sealed, mail) || !bytes.Equal(beside, aside) {
		t.Error("what was handed in was changed, or is shared")
	}
	if !same(next, kept) || !bytes.Equal(plain, keptPlain) {
		t.Error("two answers share memory")
	}
	if code != api.OK && (!same(next, s) || len(plain) > 0) {
		t.Errorf("with the error %d the session is another one, or there is plain: %x", code, plain)
	}
	return next, plain, code
}

// sessions gives sessions that are right, of each kind.
func sessions() []api.Session {
	kept := []api.Kept{
		{Chain: row(60), Number: 5, Key: row(61)}, {Chain: row(60), Number: 3, Key: row(62)},
		{Chain: row(63), Number: 3, Key: row(61)}, {Number: last, Key: row(64)}, {Chain: row(65)},
	}
	return []api.Session{
		{},
		{Root: row(1), Own: row(2)},
		{Root: row(1), Own: row(2), Sent: 7, Taken: 8, Previous: 9, Kept: kept},
		{Root: row(3), Own: row(4), Other: row(5), Sends: true, Send: row(6)},
		{Root: row(3), Own: row(4), Other: row(5), Sends: true, Send: row(6), Sent: 12, Kept: kept[:1]},
		{Root: row(7), Own: row(8), Other: row(9), Takes: true, Take: row(10), Taken: 4},
		{Root: row(7), Own: row(8), Other: row(9), Takes: true, Take: row(10), Sent: last, Taken: last, Previous: last, Kept: kept},
		{Root: row(11), Own: row(12), Other: row(13), Sends: true, Takes: true, Send: row(14), Take: row(15), Sent: 5, Taken: 6, Previous: 7, Kept: kept},
		{Sends: true, Takes: true},
		{Sends: true}, {Takes: true},
		{Root: filled(255), Own: filled(255), Other: filled(255), Sends: true, Takes: true, Send: filled(255), Take: filled(255), Sent: last, Taken: last, Previous: last, Kept: kept},
	}
}
