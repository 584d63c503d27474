package store

import (
	"bytes"

	"despatch/api"
	"despatch/number"
)

// What a pair's first byte tells.
const (
	staysSign = 0
	goneSign  = 1
)

// How many bytes tell how many a key has, and how many a value.
const (
	keyCount   = 2
	valueCount = 4
)

// Encode gives pairs as bytes.
func Encode(list []api.Pair) ([]byte, api.Errno) {
	var b []byte
	for _, p := range list {
		if !mayBe(p) {
			return nil, api.ErrArg
		}
		b = appendPair(b, p)
	}
	return b, api.OK
}

// Decode gives the pairs of bytes.
func Decode(b []byte) ([]api.Pair, api.Errno) {
	var list []api.Pair
	for len(b) > 0 {
		p, rest, there := firstPair(b)
		if !there {
			return nil, api.ErrForm
		}
		list = append(list, p)
		b = rest
	}
	return list, api.OK
}

// mayBe tells whether there may be such a pair.
func mayBe(p api.Pair) bool {
	return len(p.Key) >= 1 && len(p.Key) <= MaxKey && !(p.Gone && len(p.Value) > 0)
}

// appendPair gives bytes with those of a pair behind them.
func appendPair(b []byte, p api.Pair) []byte {
	sign := byte(staysSign)
	if p.Gone {
		sign = goneSign
	}
	b = append(b, sign)
	b = number.Append(b, uint64(len(p.Key)), keyCount)
	b = append(b, p.Key...)
	b = number.Append(b, uint64(len(p.Value)), valueCount)
	return append(b, p.Value...)
}

// firstPair gives the pair that some bytes, one at least, begin with, if they do, and what is behind it.
func firstPair(b []byte) (p api.Pair, rest []byte, there bool) {
	sign := b[0]
	key, rest, hasKey := counted(b[1:], keyCount)
	value, rest, hasValue := counted(rest, valueCount)
	p = api.Pair{Key: string(key), Value: bytes.Clone(value), Gone: sign == goneSign}
	return p, rest, hasKey && hasValue && sign <= goneSign && mayBe(p)
}

// counted gives bytes ahead of which so many others tell how many they are, if they are all there, and what is behind them.
func counted(b []byte, size int) (told, rest []byte, there bool) {
	if len(b) < size {
		return nil, nil, false
	}
	count, rest := number.Read(b[:size]), b[size:]
	if count > uint64(len(rest)) {
		return nil, nil, false
	}
	return rest[:count], rest[count:], true
}
