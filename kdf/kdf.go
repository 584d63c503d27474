// Package kdf is layer 2: see shared/doc/02-kdf.md.
package kdf

import (
	"despatch/api"
	"despatch/hash"
)

// MostBytes is how many bytes are made of a key at most.
const MostBytes = 255 * api.KeyBytes

// mostKeys is how many keys are made of bytes at most.
const mostKeys = MostBytes / api.KeyBytes

// Extract makes a key of some bytes.
func Extract(salt, secret []byte) api.Key {
	if len(salt) == 0 {
		salt = make([]byte, api.KeyBytes)
	}
	return hash.Hmac(salt, secret)
}

// Expand makes bytes of a key.
func Expand(key api.Key, info []byte, n int) ([]byte, api.Errno) {
	if n < 0 || n > MostBytes {
		return nil, api.ErrRange
	}
	var made, last []byte
	for i := 1; len(made) < n; i++ {
		t := hash.Hmac(key[:], last, info, []byte{byte(i)})
		last = t[:]
		made = append(made, last...)
	}
	// The room ends with the bytes, so that nobody reaches the rest of the last key.
	return made[:n:n], api.OK
}

// Keys makes some keys of bytes, for a purpose.
func Keys(salt, secret []byte, purpose string, n int) ([]api.Key, api.Errno) {
	if n < 0 || n > mostKeys {
		return nil, api.ErrRange
	}
	b, code := Expand(Extract(salt, secret), []byte(purpose), n*api.KeyBytes)
	if code != api.OK {
		return nil, code
	}
	keys := make([]api.Key, n)
	for i := range keys {
		copy(keys[i][:], b[i*api.KeyBytes:])
	}
	return keys, api.OK
}

// Step makes the next chain key, and a message key, of a chain key.
func Step(chain api.Key) (next, message api.Key) {
	return hash.Hmac(chain[:], []byte{2}), hash.Hmac(chain[:], []byte{1})
}
