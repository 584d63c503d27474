package seal

import (
	"bytes"
	"crypto/hkdf"
	"crypto/hmac"
	"crypto/sha256"
	"encoding/binary"
	"encoding/hex"
	"testing"

	"despatch/api"
	"despatch/stream"
)

// row gives n bytes that rise from a first one.
func row(n, first int) []byte {
	b := make([]byte, n)
	for i := range b {
		b[i] = byte(first + i)
	}
	return b
}

// otherSeal seals with the library's HKDF and HMAC.
func otherSeal(t *testing.T, key api.Key, nonce api.Nonce, beside, plain []byte) []byte {
	t.Helper()
	keys, err := hkdf.Key(sha256.New, key[:], nil, "seal", 64)
	if err != nil {
		t.Fatal(err)
	}
	cipher := stream.Turn(api.Key(keys[:32]), 1, nonce, plain)
	h := hmac.New(sha256.New, keys[32:])
	h.Write(otherMessage(nonce, beside, cipher))
	return h.Sum(cipher)
}

func otherMessage(nonce api.Nonce, beside, cipher []byte) []byte {
	b := binary.BigEndian.AppendUint64(bytes.Clone(nonce[:]), uint64(len(beside)))
	return append(append(b, beside...), cipher...)
}

func someKey() (api.Key, api.Nonce) { return api.Key(row(32, 7)), api.Nonce(row(12, 200)) }

func TestSealKnown(t *testing.T) { // P4.1
	key, nonce := someKey()
	for _, x := range []struct{ beside, plain, want string }{
		{"beside", "the plain bytes", "c923734191a494aee1e6f6d820826c29a108b4f9607ec9dc49dcc94183bb0368c27641ac389a2bc33ef807efbea871"},
		{"", "", "fb51670b6f8ccdeb6f105bb07830a6477a23114fdd716e0a568fccd2023e6f77"},
	} {
		if got := Seal(key, nonce, []byte(x.beside), []byte(x.plain)); hex.EncodeToString(got) != x.want {
			t.Errorf("%q, %q: %x", x.beside, x.plain, got)
		}
	}
	sum := sha256.Sum256(Seal(key, nonce, row(512, 0), make([]byte, 200)))
	if hex.EncodeToString(sum[:]) != "d07b50a7da59ef8cd631e4dd48901834dd2d8200814c1ab64e815283d94991e2" {
		t.Errorf("%x", sum)
	}
}

func TestSeal(t *testing.T) { // P4.1
	key, nonce := someKey()
	for _, besides := range []int{0, 1, 44, 255, 256, 257, 70000} {
		for _, plains := range []int{0, 1, 31, 32, 63, 64, 65, 1000} {
			beside, plain := row(besides, 1), row(plains, 9)
			got := Seal(key, nonce, beside, plain)
			if !bytes.Equal(got, otherSeal(t, key, nonce, beside, plain)) {
				t.Errorf("%d beside, %d plain: %x", besides, plains, got)
			}
			if len(got) != plains+api.TagBytes {
				t.Errorf("%d plain: %d sealed", plains, len(got))
			}
			if b, code := Open(key, nonce, beside, got); code != api.OK || !bytes.Equal(b, plain) {
				t.Errorf("%d beside, %d plain: opened %x, %v", besides, plains, b, code)
			}
		}
	}
}

func TestOpenShort(t *testing.T) { // P4.1: fewer than 32 bytes
	key, nonce := someKey()
	sealed := Seal(key, nonce, nil, nil)
	if b, code := Open(key, nonce, nil, nil); code != api.ErrForm || len(b) != 0 {
		t.Errorf("none: %x, %v", b, code)
	}
	for n := range sealed {
		if b, code := Open(key, nonce, nil, sealed[:n]); code != api.ErrForm || len(b) != 0 {
			t.Errorf("%d: %x, %v", n, b, code)
		}
	}
	if b, code := Open(key, nonce, nil, sealed); code != api.OK || len(b) != 0 {
		t.Errorf("32: %x, %v", b, code)
	}
	if b, code := Open(key, nonce, nil, make([]byte, 32)); code != api.ErrTag || len(b) != 0 {
		t.Errorf("32 noughts: %x, %v", b, code)
	}
}

func TestOpenTurned(t *testing.T) { // P4.1: each bit counts
	key, nonce := someKey()
	beside, plain := []byte("beside"), []byte("plain bytes")
	sealed := Seal(key, nonce, beside, plain)
	check := func(what string, i int, key api.Key, nonce api.Nonce, beside, sealed []byte) {
		t.Helper()
		if b, code := Open(key, nonce, beside, sealed); code != api.ErrTag || b != nil {
			t.Errorf("%s %d: %x, %v", what, i, b, code)
		}
	}
	turned := func(b []byte, i int) []byte {
		b = bytes.Clone(b)
		b[i/8] ^= 1 << (i % 8)
		return b
	}
	for i := range 8 * len(sealed) {
		check("sealed", i, key, nonce, beside, turned(sealed, i))
	}
	for i := range 8 * len(beside) {
		check("beside", i, key, nonce, turned(beside, i), sealed)
	}
	for i := range 8 * len(key) {
		check("key", i, api.Key(turned(key[:], i)), nonce, beside, sealed)
	}
	for i := range 8 * len(nonce) {
		check("nonce", i, key, api.Nonce(turned(nonce[:], i)), beside, sealed)
	}
	for i := range len(beside) {
		check("beside cut", i, key, nonce, beside[:i], sealed)
	}
	check("more beside", 0, key, nonce, []byte("beside\x00"), sealed)
	check("more sealed", 0, key, nonce, beside, append(bytes.Clone(sealed), 0))
	check("less sealed", 0, key, nonce, beside, sealed[:len(sealed)-1])
	check("without its beginning", 0, key, nonce, beside, sealed[1:])
}

func TestOpenMoved(t *testing.T) { // P4.1: bytes that go from beside to the cipher aren't the same message
	key, nonce := someKey()
	sealed := Seal(key, nonce, []byte("ab"), nil)
	if b, code := Open(key, nonce, []byte("a"), append([]byte("b"), sealed...)); code != api.ErrTag || b != nil {
		t.Errorf("%x, %v", b, code)
	}
}

func TestSame(t *testing.T) { // P4.1
	for _, x := range []struct {
		a, b string
		want bool
	}{
		{"", "", true}, {"a", "a", true}, {"abc", "abc", true}, {"\x00", "\x00", true},
		{"", "a", false}, {"a", "", false}, {"", "\x00", false}, {"\x00", "", false},
		{"abc", "abd", false}, {"abc", "bbc", false}, {"abc", "aBc", false},
		{"abc", "ab", false}, {"ab", "abc", false}, {"ab", "ba", false},
		{"\x01\x01", "\x02\x02", false}, {"\x01\x02", "\x02\x01", false}, {"\x00\x00", "\x80\x80", false},
	} {
		if got := Same([]byte(x.a), []byte(x.b)); got != x.want {
			t.Errorf("%q, %q: %v", x.a, x.b, got)
		}
	}
	if !Same(nil, []byte{}) || !Same([]byte{}, nil) || !Same(nil, nil) {
		t.Error("nil and no bytes are not one")
	}
	for i := range 64 * 8 {
		a, b := row(64, 3), row(64, 3)
		b[i/8] ^= 1 << (i % 8)
		if Same(a, b) || !Same(a, row(64, 3)) {
			t.Errorf("bit %d", i)
		}
	}
}

func TestMessage(t *testing.T) { // P4.1
	nonce := api.Nonce(row(12, 0xa0))
	want := string(row(12, 0xa0)) + "\x00\x00\x00\x00\x00\x00\x00\x04sidecipher"
	if got := Message(nonce, []byte("side"), []byte("cipher")); string(got) != want {
		t.Errorf("%q", got)
	}
	if got := Message(nonce, nil, nil); string(got) != string(row(12, 0xa0))+"\x00\x00\x00\x00\x00\x00\x00\x00" {
		t.Errorf("%q", got)
	}
	for _, besides := range []int{0, 1, 255, 256, 257, 65535, 65536, 0x123456} {
		for _, ciphers := range []int{0, 1, 300} {
			beside, cipher := row(besides, 1), row(ciphers, 9)
			if got := Message(nonce, beside, cipher); !bytes.Equal(got, otherMessage(nonce, beside, cipher)) {
				t.Errorf("%d beside, %d of the cipher", besides, ciphers)
			}
		}
	}
}

func TestMemory(t *testing.T) { // P4.1: arguments stay as they are, and answers are new memory
	key, nonce := someKey()
	room := row(300, 1)
	beside, plain := room[10:60], room[50:150]
	sealed := Seal(key, nonce, beside, plain)
	message := Message(nonce, beside, plain)
	spare := append(bytes.Clone(sealed), row(50, 8)...)
	opened, code := Open(key, nonce, beside, spare[:len(sealed)])
	if code != api.OK || !bytes.Equal(opened, plain) {
		t.Fatalf("%x, %v", opened, code)
	}
	if !bytes.Equal(room, row(300, 1)) || !bytes.Equal(spare[:len(sealed)], sealed) || !bytes.Equal(spare[len(sealed):], row(50, 8)) {
		t.Error("an argument was changed")
	}
	kept := [][]byte{bytes.Clone(sealed), bytes.Clone(message), bytes.Clone(opened)}
	clear(room)
	clear(spare)
	for i, b := range [][]byte{sealed, message, opened} {
		if !bytes.Equal(b, kept[i]) {
			t.Errorf("answer %d changes with an argument", i)
		}
	}
	again := Seal(key, nonce, row(300, 1)[10:60], row(300, 1)[50:150])
	if !bytes.Equal(again, sealed) {
		t.Error("the same call gives another answer") // P2
	}
	clear(again)
	if !bytes.Equal(sealed, kept[0]) {
		t.Error("two answers share memory")
	}
}
