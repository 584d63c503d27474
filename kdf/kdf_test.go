package kdf

import (
	"bytes"
	"crypto/hkdf"
	"crypto/hmac"
	"crypto/sha256"
	"encoding/hex"
	"math"
	"slices"
	"testing"

	"despatch/api"
)

// row gives n bytes that rise from a first one.
func row(n, first int) []byte {
	b := make([]byte, n)
	for i := range b {
		b[i] = byte(first + i)
	}
	return b
}

func otherHmac(key []byte, parts ...[]byte) []byte {
	h := hmac.New(sha256.New, key)
	for _, p := range parts {
		h.Write(p)
	}
	return h.Sum(nil)
}

func otherExpand(t *testing.T, key api.Key, info []byte, n int) []byte {
	t.Helper()
	b, err := hkdf.Expand(sha256.New, key[:], string(info), n)
	if err != nil {
		t.Fatal(err)
	}
	return b
}

func TestKnown(t *testing.T) { // P2.1: the second example of RFC 5869
	key := Extract(row(80, 0x60), row(80, 0))
	if hex.EncodeToString(key[:]) != "06a6b88c5853361a06104c9ceb35b45cef760014904671014a193f40c15fc244" {
		t.Errorf("Extract: %x", key)
	}
	b, code := Expand(key, row(80, 0xb0), 82)
	if code != api.OK || hex.EncodeToString(b) != "b11e398dc80327a1c8e7f78c596a49344f012eda2d4efad8a050cc4c19afa97c59045a99cac7827271cb41c65e590e09da3275600c2f09b8367793a9aca3db71cc30c58179ec3e87c14c01d5c1f3434f1d87" {
		t.Errorf("Expand: %x, %v", b, code)
	}
}

func TestExtract(t *testing.T) { // P2.1
	for _, salts := range []int{0, 1, 31, 32, 33, 63, 64, 65, 200} {
		for _, secrets := range []int{0, 1, 32, 64, 100} {
			salt, secret := row(salts, 1), row(secrets, 9)
			want := otherHmac(salt, secret)
			if got := Extract(salt, secret); !bytes.Equal(got[:], want) {
				t.Errorf("%d, %d: %x, want %x", salts, secrets, got, want)
			}
		}
	}
}

func TestExtractWithoutSalt(t *testing.T) { // P2.1
	want := Extract(make([]byte, api.KeyBytes), []byte("secret"))
	if Extract(nil, []byte("secret")) != want || Extract([]byte{}, []byte("secret")) != want {
		t.Error("no salt isn't 32 noughts")
	}
	if Extract(nil, nil) != Extract([]byte{}, []byte{}) {
		t.Error("no secret and nil are not one")
	}
}

func TestExpand(t *testing.T) { // P2.1
	key := api.Key(row(api.KeyBytes, 50))
	for _, info := range [][]byte{nil, []byte("info"), row(100, 3)} {
		for _, n := range []int{0, 1, 31, 32, 33, 63, 64, 65, 1000, MostBytes - 1, MostBytes} {
			b, code := Expand(key, info, n)
			if code != api.OK || !bytes.Equal(b, otherExpand(t, key, info, n)) {
				t.Errorf("%d bytes, info %q: %x, %v", n, info, b, code)
			}
		}
	}
	if MostBytes != 8160 {
		t.Errorf("MostBytes: %d", MostBytes)
	}
}

func TestExpandRange(t *testing.T) { // P2.1
	for _, n := range []int{-1, math.MinInt, MostBytes + 1, math.MaxInt} {
		if b, code := Expand(api.Key{}, nil, n); code != api.ErrRange || len(b) != 0 {
			t.Errorf("%d: %x, %v", n, b, code)
		}
	}
}

func TestExpandRoom(t *testing.T) { // P2.3: what is answered is as long as its memory
	for _, n := range []int{1, 5, 32, 40, 100} {
		b, _ := Expand(api.Key{7}, nil, n)
		if len(b) != n || cap(b) != n {
			t.Errorf("%d: %d bytes, room for %d", n, len(b), cap(b))
		}
	}
}

func TestKeys(t *testing.T) { // P2.1
	salt, secret := []byte("salt"), []byte("secret")
	whole := otherExpand(t, Extract(salt, secret), []byte("purpose"), MostBytes)
	for _, n := range []int{0, 1, 2, 3, 17, 254, 255} {
		keys, code := Keys(salt, secret, "purpose", n)
		if code != api.OK || len(keys) != n {
			t.Fatalf("%d: %d keys, %v", n, len(keys), code)
		}
		for i, k := range keys {
			if !bytes.Equal(k[:], whole[i*api.KeyBytes:(i+1)*api.KeyBytes]) {
				t.Errorf("%d: key %d is %x", n, i, k)
			}
		}
	}
	one, _ := Keys(salt, secret, "purpose", 1)
	for _, purpose := range []string{"", "Purpose", "purpose\x00"} {
		if other, _ := Keys(salt, secret, purpose, 1); slices.Equal(one, other) {
			t.Errorf("%q gives the same key", purpose)
		}
	}
}

func TestKeysRange(t *testing.T) { // P2.1
	// Of 1 << 59 keys the number of bytes would go round to 0.
	for _, n := range []int{-1, 256, 1 << 59, 1<<59 + 1, math.MinInt, math.MaxInt} {
		if keys, code := Keys(nil, nil, "", n); code != api.ErrRange || len(keys) != 0 {
			t.Errorf("%d: %d keys, %v", n, len(keys), code)
		}
	}
}

func TestStep(t *testing.T) { // P2.2
	chain := api.Key(row(api.KeyBytes, 100))
	for range 5 {
		next, message := Step(chain)
		if !bytes.Equal(next[:], otherHmac(chain[:], []byte{2})) {
			t.Errorf("next: %x", next)
		}
		if !bytes.Equal(message[:], otherHmac(chain[:], []byte{1})) {
			t.Errorf("message: %x", message)
		}
		chain = next
	}
}

func TestArgumentsStay(t *testing.T) { // P2.3
	whole := row(300, 0)
	// Each has room behind it, into which an append would write.
	salt, secret, info := whole[:10], whole[100:140], whole[200:220]
	key := Extract(salt, secret)
	b, _ := Expand(key, info, 100)
	keys, _ := Keys(salt, secret, "purpose", 3)
	if !bytes.Equal(whole, row(300, 0)) {
		t.Error("what was handed in was changed")
	}
	keptBytes, keptKeys := bytes.Clone(b), slices.Clone(keys)
	clear(whole)
	if !bytes.Equal(b, keptBytes) || !slices.Equal(keys, keptKeys) {
		t.Error("an answer shares what was handed in")
	}
}

func TestAnswersAreNew(t *testing.T) { // P2, P2.3
	first, _ := Expand(api.Key{1}, []byte("info"), 64)
	kept := bytes.Clone(first)
	clear(first)
	if again, _ := Expand(api.Key{1}, []byte("info"), 64); !bytes.Equal(again, kept) {
		t.Error("Expand: another answer at the second call")
	}
	keys, _ := Keys(nil, []byte("secret"), "", 3)
	keptKeys := slices.Clone(keys)
	clear(keys)
	if again, _ := Keys(nil, []byte("secret"), "", 3); !slices.Equal(again, keptKeys) {
		t.Error("Keys: another answer at the second call")
	}
}
