package stream

import (
	"bytes"
	"crypto/sha256"
	"encoding/binary"
	"encoding/hex"
	"math"
	"testing"

	"despatch/api"
)

// row gives n bytes that rise from a first one.
func row(n, first int) []byte {
	b := make([]byte, n)
	for i := range b {
		b[i] = byte(first + i)
	}
	return b
}

func filled[T ~[32]byte | ~[12]byte](x byte) (all T) {
	for i := 0; i < len(all); i++ {
		all[i] = x
	}
	return all
}

// slowWord gives a word by sums of 64 bits, which no word's sum goes beyond.
func slowWord(x uint64) uint64 { return x % (1 << 32) }

func slowLeft(x uint64, n int) uint64 { return slowWord(x<<n) + x>>(32-n) }

// slowQuarter is a quarter, written as the chapter tells it.
func slowQuarter(v *[16]uint64, a, b, c, d int) {
	v[a] = slowWord(v[a] + v[b])
	v[d] = slowLeft(v[d]^v[a], 16)
	v[c] = slowWord(v[c] + v[d])
	v[b] = slowLeft(v[b]^v[c], 12)
	v[a] = slowWord(v[a] + v[b])
	v[d] = slowLeft(v[d]^v[a], 8)
	v[c] = slowWord(v[c] + v[d])
	v[b] = slowLeft(v[b]^v[c], 7)
}

// slowBlock is a block, written as the chapter tells it.
func slowBlock(key api.Key, counter uint32, nonce api.Nonce) []byte {
	head := append([]byte("expand 32-byte k"), key[:]...)
	head = binary.LittleEndian.AppendUint32(head, counter)
	head = append(head, nonce[:]...)
	var begin, v [16]uint64
	for i := range begin {
		begin[i] = uint64(binary.LittleEndian.Uint32(head[4*i:]))
	}
	v = begin
	for range 10 {
		for i := range 4 {
			slowQuarter(&v, i, 4+i, 8+i, 12+i)
		}
		for i := range 4 {
			slowQuarter(&v, i, 4+(i+1)%4, 8+(i+2)%4, 12+(i+3)%4)
		}
	}
	var block []byte
	for i := range v {
		block = binary.LittleEndian.AppendUint32(block, uint32(slowWord(v[i]+begin[i])))
	}
	return block
}

func slowTurn(key api.Key, counter uint32, nonce api.Nonce, b []byte) []byte {
	turned := bytes.Clone(b)
	for i := range turned {
		turned[i] ^= slowBlock(key, counter+uint32(i/64), nonce)[i%64]
	}
	return turned
}

func TestQuarter(t *testing.T) { // P3.1
	for _, x := range []struct{ v, want [4]uint32 }{
		{[4]uint32{0x11111111, 0x01020304, 0x9b8d6f43, 0x01234567}, [4]uint32{0xea2a92f4, 0xcb1cf8ce, 0x4581472e, 0x5881c4bb}},
		{[4]uint32{0x516461b1, 0x2a5f714c, 0x53372767, 0x3d631689}, [4]uint32{0xbdb886dc, 0xcfacafd2, 0xe46bea80, 0xccc07c79}},
		{[4]uint32{}, [4]uint32{}},
	} {
		if got := Quarter(x.v); got != x.want {
			t.Errorf("%x: %x, want %x", x.v, got, x.want)
		}
	}
}

func TestQuarterAll(t *testing.T) { // P3.1: each word counts, at its edges too
	some := []uint32{0, 1, 0x7fffffff, 0x80000000, 0x9e3779b9, math.MaxUint32}
	for i := range len(some) * len(some) * len(some) * len(some) {
		n := len(some)
		v := [4]uint32{some[i%n], some[i/n%n], some[i/n/n%n], some[i/n/n/n]}
		var slow [16]uint64
		for j, x := range v {
			slow[j] = uint64(x)
		}
		slowQuarter(&slow, 0, 1, 2, 3)
		for j, x := range Quarter(v) {
			if uint64(x) != slow[j] {
				t.Fatalf("%x: word %d is %x, want %x", v, j, x, slow[j])
			}
		}
	}
}

func TestBlockKnown(t *testing.T) { // P3.1
	for _, x := range []struct {
		key     api.Key
		counter uint32
		nonce   api.Nonce
		want    string
	}{
		{api.Key(row(32, 0)), 1, api.Nonce{3: 9, 7: 0x4a}, "10f1e7e4d13b5915500fdd1fa32071c4c7d1f4c733c068030422aa9ac3d46c4ed2826446079faa0914c2d705d98b02a2b5129cd1de164eb9cbd083e8a2503c4e"},
		{api.Key{}, 0, api.Nonce{}, "76b8e0ada0f13d90405d6ae55386bd28bdd219b8a08ded1aa836efcc8b770dc7da41597c5157488d7724e03fb8d84a376a43b8f41518a11cc387b669b2ee6586"},
		{filled[api.Key](255), math.MaxUint32, filled[api.Nonce](255), "d72b21cfa4b6b0c41d61f62b8a11159c6a4f63bc56c2035796c7ad37811121bbec56d54a530f3a933dd28a50feb23bfaf64f405be985f3718bdf4683e96be749"},
	} {
		if got := Block(x.key, x.counter, x.nonce); hex.EncodeToString(got[:]) != x.want {
			t.Errorf("%x, %d, %x: %x, want %s", x.key, x.counter, x.nonce, got, x.want)
		}
	}
}

func TestBlockAll(t *testing.T) { // P3.1: each byte of the key and of the nonce, and each of the counter's, counts
	check := func(key api.Key, counter uint32, nonce api.Nonce) {
		t.Helper()
		if got := Block(key, counter, nonce); !bytes.Equal(got[:], slowBlock(key, counter, nonce)) {
			t.Errorf("%x, %d, %x: %x", key, counter, nonce, got)
		}
	}
	for i := range api.KeyBytes {
		key := api.Key(row(32, 100))
		key[i] ^= 0x81
		check(key, 0, api.Nonce{})
	}
	for i := range len(api.Nonce{}) {
		nonce := api.Nonce(row(12, 10))
		nonce[i] ^= 0x81
		check(api.Key{}, 7, nonce)
	}
	for i := range 32 {
		check(api.Key{1}, 1<<i, api.Nonce{2})
		check(api.Key{1}, math.MaxUint32-1<<i, api.Nonce{2})
	}
}

func TestTurn(t *testing.T) { // P3.1
	key, nonce := api.Key(row(32, 7)), api.Nonce(row(12, 200))
	for _, n := range []int{0, 1, 2, 63, 64, 65, 127, 128, 129, 500} {
		for _, counter := range []uint32{0, 1, 2, 1 << 31, math.MaxUint32 - 1, math.MaxUint32} {
			b := row(n, int(counter))
			if got := Turn(key, counter, nonce, b); !bytes.Equal(got, slowTurn(key, counter, nonce, b)) {
				t.Errorf("%d bytes from the block %d: %x", n, counter, got)
			}
		}
	}
}

func TestTurnKnown(t *testing.T) { // P3.1
	key, nonce := api.Key(row(32, 7)), api.Nonce(row(12, 200))
	sum := sha256.Sum256(Turn(key, 1, nonce, make([]byte, 1000)))
	if hex.EncodeToString(sum[:]) != "e0f82f2a2167a37fa94c4b2c51428a01b24b3ef628375ecff20ef0e070fbf80f" {
		t.Errorf("%x", sum)
	}
	text := "Ladies and Gentlemen of the class of '99: If I could offer you only one tip for the future, sunscreen would be it."
	got := Turn(api.Key(row(32, 0)), 1, api.Nonce{7: 0x4a}, []byte(text))
	if hex.EncodeToString(got) != "6e2e359a2568f98041ba0728dd0d6981e97e7aec1d4360c20a27afccfd9fae0bf91b65c5524733ab8f593dabcd62b3571639d624e65152ab8f530c359f0861d807ca0dbf500d6a6156a38e088a22b65e52bc514d16ccf806818ce91ab77937365af90bbf74a35be6b40b8eedf2785e42874d" {
		t.Errorf("%x", got)
	}
}

func TestTurnRound(t *testing.T) { // P3.1: behind the greatest counter comes 0, and the nonce stays
	key, nonce := api.Key(row(32, 7)), api.Nonce(row(12, 200))
	want := "624462947ae5ed944cb928dc5170f2d0d684a7bd1e287c3b444a83a9b5a6e72b1da160ffa8e0fd65b590d1b5c4a79f19199aa2dae5234ed2111823fe409519e905e468582d99b668554f46038c47b75371e4915625cfb084571877e3382f032b1f1ff755e2fab6eb076ed6e9e25943682ddc97cf2bebfb1b62a2d05f117ff4ce"
	if got := Turn(key, math.MaxUint32, nonce, make([]byte, 128)); hex.EncodeToString(got) != want {
		t.Errorf("%x", got)
	}
	second := Block(key, 0, nonce)
	if got := Turn(key, math.MaxUint32, nonce, make([]byte, 128)); !bytes.Equal(got[64:], second[:]) {
		t.Errorf("%x", got[64:])
	}
}

func TestTurnTwice(t *testing.T) { // P3.1: turned twice, bytes are as they were
	key, nonce, b := api.Key{3}, api.Nonce{4}, row(300, 5)
	if got := Turn(key, 9, nonce, Turn(key, 9, nonce, b)); !bytes.Equal(got, b) {
		t.Errorf("%x", got)
	}
}

func TestTurnNothing(t *testing.T) { // P3.1, P1
	if got := Turn(api.Key{}, 0, api.Nonce{}, nil); len(got) != 0 {
		t.Errorf("%x", got)
	}
	if got := Turn(api.Key{}, math.MaxUint32, api.Nonce{}, []byte{}); len(got) != 0 {
		t.Errorf("%x", got)
	}
}

func TestTurnMemory(t *testing.T) { // P3.1: new memory, and b isn't changed, nor what stands behind it
	room := row(200, 1)
	b := room[10:110]
	got := Turn(api.Key{1}, 1, api.Nonce{1}, b)
	if !bytes.Equal(room, row(200, 1)) {
		t.Errorf("changed: %x", room)
	}
	kept := bytes.Clone(got)
	clear(room)
	if !bytes.Equal(got, kept) {
		t.Error("the answer changes with the argument")
	}
	again := Turn(api.Key{1}, 1, api.Nonce{1}, row(200, 1)[10:110])
	if !bytes.Equal(again, kept) {
		t.Error("the same call gives another answer") // P2
	}
	clear(again)
	if !bytes.Equal(got, kept) {
		t.Error("two answers share memory")
	}
}
