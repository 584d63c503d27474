package hash

import (
	"bytes"
	"crypto/hmac"
	"crypto/sha256"
	"encoding/binary"
	"encoding/hex"
	"math/big"
	"strings"
	"testing"

	"despatch/api"
)

// row gives n bytes, no two blocks of which are alike.
func row(n int) []byte {
	b := make([]byte, n)
	for i := range b {
		b[i] = byte(i*7 + i>>8 + 3)
	}
	return b
}

func otherHmac(key, b []byte) api.Key {
	h := hmac.New(sha256.New, key)
	h.Write(b)
	return api.Key(h.Sum(nil))
}

// firstPrimes gives the first n primes.
func firstPrimes(n int) []int64 {
	var list []int64
	for p := int64(2); len(list) < n; p++ {
		prime := true
		for _, q := range list {
			prime = prime && p%q != 0
		}
		if prime {
			list = append(list, p)
		}
	}
	return list
}

// rootBits gives the first 32 bits behind the point of a prime's root of that power.
func rootBits(prime, power int64) uint32 {
	target := new(big.Int).Lsh(big.NewInt(prime), uint(32*power))
	root := new(big.Int)
	for bit := 40; bit >= 0; bit-- {
		more := new(big.Int).SetBit(root, bit, 1)
		if new(big.Int).Exp(more, big.NewInt(power), nil).Cmp(target) <= 0 {
			root = more
		}
	}
	return uint32(root.Uint64())
}

func TestNumbersAreRoots(t *testing.T) { // P1.1
	primes := firstPrimes(len(rounds))
	for i, k := range rounds {
		if want := rootBits(primes[i], 3); k != want {
			t.Errorf("K(%d): %08x, want %08x", i, k, want)
		}
	}
	for i, h := range New().state {
		if want := rootBits(primes[i], 2); h != want {
			t.Errorf("H%d: %08x, want %08x", i, h, want)
		}
	}
}

func TestSumKnown(t *testing.T) { // P1.1
	for s, want := range map[string]string{
		"":                             "e3b0c44298fc1c149afbf4c8996fb92427ae41e4649b934ca495991b7852b855",
		"abc":                          "ba7816bf8f01cfea414140de5dae2223b00361a396177a9cb410ff61f20015ad",
		strings.Repeat("a", 1_000_000): "cdc76e5c9914fb9281a1c7e284d73e67f1809a48a497200e046d39ccc7112cd0",
	} {
		if k := Sum([]byte(s)); hex.EncodeToString(k[:]) != want {
			t.Errorf("%d bytes: %x, want %s", len(s), k, want)
		}
	}
	if Sum(nil) != Sum([]byte{}) {
		t.Error("no bytes and nil are not one")
	}
}

func TestSumOfAllLengths(t *testing.T) { // P1.1: each way to fill the last block
	for n := range 400 {
		b := row(n)
		if got, want := Sum(b), api.Key(sha256.Sum256(b)); got != want {
			t.Errorf("%d bytes: %x, want %x", n, got, want)
		}
	}
}

func TestEnding(t *testing.T) { // P1.1: numbers of bits that need more than 32 bits, too
	for _, n := range []uint64{0, 1, 54, 55, 56, 63, 64, 119, 120, 1<<29 - 1, 1 << 29, 1<<31 - 1} {
		b := ending(n)
		zeros := len(b) - 9
		if (n+uint64(len(b)))%api.BlockBytes != 0 || zeros < 0 || zeros >= api.BlockBytes {
			t.Errorf("%d: %d bytes", n, len(b))
			continue
		}
		want := append([]byte{128}, make([]byte, zeros)...)
		want = binary.BigEndian.AppendUint64(want, 8*n)
		if !bytes.Equal(b, want) {
			t.Errorf("%d: %x, want %x", n, b, want)
		}
	}
}

func TestWriteInPieces(t *testing.T) { // P1.1
	b := row(200)
	want := Sum(b)
	for i := range len(b) + 1 {
		for j := i; j <= len(b); j++ {
			d := New()
			d.Write(b[:i])
			d.Write(nil)
			d.Write(b[i:j])
			d.Write(b[j:])
			if d.Sum() != want {
				t.Fatalf("pieces end at %d and %d", i, j)
			}
		}
	}
}

func TestSumChangesNothing(t *testing.T) { // P1.1
	b := row(300)
	d := New()
	for i := range b {
		want := Sum(b[:i])
		if d.Sum() != want || d.Sum() != want {
			t.Fatalf("behind %d bytes", i)
		}
		d.Write(b[i : i+1])
	}
}

func TestDigestsAreApart(t *testing.T) { // P1.1, P2
	d, e := New(), New()
	d.Write([]byte("a"))
	e.Write([]byte("x"))
	d.Write([]byte("bc"))
	e.Write([]byte("yz"))
	if d.Sum() != Sum([]byte("abc")) || e.Sum() != Sum([]byte("xyz")) {
		t.Error("what one has taken is told by the other")
	}
	if New().Sum() != Sum(nil) {
		t.Error("a new one has taken something")
	}
}

func TestWriteKeepsNothing(t *testing.T) { // P1.1
	for _, n := range []int{1, 63, 64, 65, 200} {
		b := row(n)
		d := New()
		d.Write(b)
		if !bytes.Equal(b, row(n)) {
			t.Errorf("%d bytes were changed", n)
		}
		want := d.Sum()
		clear(b)
		if d.Sum() != want || want != Sum(row(n)) {
			t.Errorf("%d bytes were kept", n)
		}
	}
}

func TestHmacOfAllKeys(t *testing.T) { // P1.1: keys of less than a block, of one, of more
	b := row(100)
	for n := range 200 {
		key := row(n)
		if got, want := Hmac(key, b), otherHmac(key, b); got != want {
			t.Errorf("key of %d bytes: %x, want %x", n, got, want)
		}
	}
	for n := range 200 {
		if got, want := Hmac([]byte("key"), row(n)), otherHmac([]byte("key"), row(n)); got != want {
			t.Errorf("%d bytes: %x, want %x", n, got, want)
		}
	}
}

func TestHmacParts(t *testing.T) { // P1.1
	key, b := []byte("key"), row(150)
	want := otherHmac(key, b)
	for i := range b {
		if Hmac(key, b[:i], nil, b[i:], []byte{}) != want {
			t.Errorf("parts end at %d", i)
		}
	}
	if Hmac(key, b[75:], b[:75]) == want {
		t.Error("the parts' order is of no account")
	}
	none := otherHmac(nil, nil)
	if Hmac(nil) != none || Hmac(nil, nil) != none || Hmac([]byte{}, []byte{}) != none {
		t.Error("no key, no parts")
	}
}

func TestArgumentsStay(t *testing.T) { // P1.1
	for _, n := range []int{0, 20, 64, 65, 130} {
		whole := row(300)
		// Both have room behind them, into which an append would write.
		key, part := whole[:n], whole[n:n+20]
		list := [][]byte{part, part[:10], nil}
		first := Hmac(key, list...)
		Sum(part)
		if !bytes.Equal(whole, row(300)) {
			t.Errorf("key of %d bytes: the bytes were changed", n)
		}
		if len(list[0]) != 20 || len(list[1]) != 10 || list[2] != nil {
			t.Errorf("key of %d bytes: the list was changed", n)
		}
		if Hmac(key, list...) != first {
			t.Errorf("key of %d bytes: another answer at the second call", n)
		}
	}
}
