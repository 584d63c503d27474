package bundle

import (
	"bytes"
	"crypto/ecdh"
	"crypto/hkdf"
	"crypto/sha256"
	"encoding/hex"
	"slices"
	"testing"

	"despatch/api"
	"despatch/curve"
)

// rising gives a key whose bytes rise from a first one.
func rising(first int) api.Key {
	var k api.Key
	for i := range k {
		k[i] = byte(first + i)
	}
	return k
}

// row gives a key whose bytes seem to be of no order.
func row(first int) api.Key {
	var k api.Key
	x := uint32(first)*2654435761 + 12345
	for i := range k {
		x = x*1664525 + 1013904223
		k[i] = byte(x >> 24)
	}
	return k
}

// filled gives a key of one byte.
func filled(b byte) api.Key {
	return api.Key(bytes.Repeat([]byte{b}, api.KeyBytes))
}

// noughts gives points that share 0 with all: 0 and 1, told as themselves, with the bit that doesn't count, and as p and one more.
func noughts() []api.Key {
	p := filled(255)
	p[0], p[31] = 0xed, 0x7f
	above := p
	above[0]++
	return []api.Key{{}, {1}, {31: 0x80}, p, above}
}

// edges gives points that share 0 with all, greater ones than p, and some others.
func edges() []api.Key {
	return append(noughts(), api.Key{9}, filled(255), filled(1), rising(3), row(1), row(2))
}

// otherShared gives what two share as the library has it; it takes no point that shares 0.
func otherShared(t *testing.T, own, point api.Key) api.Key {
	t.Helper()
	k, err := ecdh.X25519().NewPrivateKey(own[:])
	if err != nil {
		t.Fatal(err)
	}
	p, err := ecdh.X25519().NewPublicKey(point[:])
	if err != nil {
		t.Fatal(err)
	}
	shared, err := k.ECDH(p)
	if err != nil {
		t.Fatal(err)
	}
	return api.Key(shared)
}

// otherCommon gives the key of what is shared as the library has it.
func otherCommon(t *testing.T, one, two, three api.Key) api.Key {
	t.Helper()
	secret := slices.Concat(bytes.Repeat([]byte{255}, 32), one[:], two[:], three[:])
	k, err := hkdf.Key(sha256.New, secret, nil, "start", 32)
	if err != nil {
		t.Fatal(err)
	}
	return api.Key(k)
}

func unhex(t *testing.T, s string) []byte {
	t.Helper()
	b, err := hex.DecodeString(s)
	if err != nil {
		t.Fatal(err)
	}
	return b
}

// four gives the pairs of the one who begins, and of the other one.
func four() (identity, fresh, others, prekey curve.Pair) {
	return curve.New(rising(1)), curve.New(rising(40)), curve.New(rising(90)), curve.New(rising(200))
}

func TestKnown(t *testing.T) { // P18.1: numbers made apart from the program
	identity, fresh, others, prekey := four()
	want := api.Key(unhex(t, "98933603df9d77acbd65eac1955f7a9746f65b0fa56f2ebb6be1e89e204ac5d4"))
	if got := Begin(identity, fresh, Of(others, prekey)); got != want {
		t.Errorf("Begin: %x", got)
	}
	if got := Answer(others, prekey, identity.Public, fresh.Public); got != want {
		t.Errorf("Answer: %x", got)
	}
	told := unhex(t, "0115d7b75064fdd1ca3b6887d75b37d6afc1fd2573ed9ddfef38d67dc3cdcaf91b4d5bab89b0733d9d8dcecf04f321c90b761b7765a6bdb2bddbfad3e7abdf1f66")
	if got := Encode(Of(others, prekey)); !bytes.Equal(got, told) {
		t.Errorf("Encode: %x", got)
	}
	if got, code := Decode(told); code != api.OK || got != Of(others, prekey) {
		t.Errorf("Decode: %x, %v", got, code)
	}
}

func TestEncode(t *testing.T) { // P18.1: of any two points
	if Size != 65 {
		t.Errorf("Size: %d", Size)
	}
	for _, x := range edges() {
		for _, y := range edges() {
			want := slices.Concat([]byte{1}, x[:], y[:])
			if got := Encode(api.Bundle{Identity: x, Prekey: y}); !bytes.Equal(got, want) {
				t.Errorf("%x, %x: %x", x, y, got)
			}
		}
	}
}

func TestDecode(t *testing.T) { // P18.1: of any two points, whether or not they are below p
	for _, x := range edges() {
		for _, y := range edges() {
			b := api.Bundle{Identity: x, Prekey: y}
			if got, code := Decode(Encode(b)); code != api.OK || got != b {
				t.Errorf("%x, %x: %x, %v", x, y, got, code)
			}
		}
	}
}

func TestDecodeForm(t *testing.T) { // P18.1
	whole := Encode(api.Bundle{Identity: row(3), Prekey: row(4)})
	long := slices.Concat(whole, whole, whole, whole)
	wrong := [][]byte{nil, {}, {1}, make([]byte, Size), bytes.Repeat([]byte{255}, Size), whole[1:], long[1 : 1+Size]}
	for n := range len(long) + 1 {
		if n != Size {
			wrong = append(wrong, long[:n])
		}
	}
	for first := range 256 {
		if first != 1 {
			wrong = append(wrong, slices.Concat([]byte{byte(first)}, whole[1:]))
		}
	}
	for _, b := range wrong {
		if got, code := Decode(b); code != api.ErrForm || got != (api.Bundle{}) {
			t.Errorf("%x: %x, %v", b, got, code)
		}
	}
}

func TestDecodeEachByte(t *testing.T) { // P18.1: what it takes is what Encode gives, and no other bytes tell the same
	b := api.Bundle{Identity: row(5), Prekey: row(6)}
	whole := Encode(b)
	for i := range whole {
		for _, turn := range []byte{1, 2, 0x40, 0x80, 0xff} {
			told := bytes.Clone(whole)
			told[i] ^= turn
			got, code := Decode(told)
			if i == 0 {
				if code != api.ErrForm {
					t.Errorf("byte 0 Xor %d: %v", turn, code)
				}
			} else if code != api.OK || got == b || !bytes.Equal(Encode(got), told) {
				t.Errorf("byte %d Xor %d: %x, %v", i, turn, got, code)
			}
		}
	}
}

func TestMemory(t *testing.T) { // P18.1: what is handed in stays as it is, and what is answered is new
	b := api.Bundle{Identity: row(7), Prekey: row(8)}
	first := Encode(b)
	kept := bytes.Clone(first)
	got, _ := Decode(first)
	if !bytes.Equal(first, kept) {
		t.Error("Decode changed what was handed in")
	}
	clear(first)
	if got != b {
		t.Error("Decode keeps what was handed in")
	}
	if !bytes.Equal(Encode(b), kept) { // P2
		t.Error("Encode: another answer at the second call")
	}
}

func TestOf(t *testing.T) { // P18.1: the points, whosever they are
	identity, _, _, prekey := four()
	want := api.Bundle{Identity: identity.Public, Prekey: prekey.Public}
	if got := Of(identity, prekey); got != want {
		t.Errorf("%x", got)
	}
	x, y := curve.Pair{Own: row(1), Public: row(2)}, curve.Pair{Own: row(3), Public: row(4)}
	if got := Of(x, y); got != (api.Bundle{Identity: row(2), Prekey: row(4)}) {
		t.Errorf("of pairs whose points are others': %x", got)
	}
	if got := Of(curve.Pair{}, curve.Pair{}); got != (api.Bundle{}) {
		t.Errorf("of no pairs: %x", got)
	}
}

func TestBegin(t *testing.T) { // P18.1: as another program has it
	for i := range 40 {
		identity, fresh := curve.New(row(4*i)), curve.New(row(4*i+1))
		other := api.Bundle{Identity: row(4*i + 2), Prekey: row(4*i + 3)}
		want := otherCommon(t,
			otherShared(t, identity.Own, other.Prekey),
			otherShared(t, fresh.Own, other.Identity),
			otherShared(t, fresh.Own, other.Prekey))
		if got := Begin(identity, fresh, other); got != want {
			t.Errorf("%d: %x, want %x", i, got, want)
		}
	}
}

func TestAnswer(t *testing.T) { // P18.1: as another program has it
	for i := range 40 {
		identity, prekey := curve.New(row(4*i)), curve.New(row(4*i+1))
		other, fresh := row(4*i+2), row(4*i+3)
		want := otherCommon(t,
			otherShared(t, prekey.Own, other),
			otherShared(t, identity.Own, fresh),
			otherShared(t, prekey.Own, fresh))
		if got := Answer(identity, prekey, other, fresh); got != want {
			t.Errorf("%d: %x, want %x", i, got, want)
		}
	}
}

func TestPoints(t *testing.T) { // P18.1: a point that shares 0 with all is taken as any
	want := api.Key(unhex(t, "42888f97c64c94a9dec9699f5a53130944e138ec768b32f595383b6b12e8e355"))
	if otherCommon(t, api.Key{}, api.Key{}, api.Key{}) != want {
		t.Fatal("the numbers made apart aren't one")
	}
	identity, fresh, _, _ := four()
	for _, nought := range noughts() {
		if got := Begin(identity, fresh, api.Bundle{Identity: nought, Prekey: nought}); got != want {
			t.Errorf("Begin, %x: %x", nought, got)
		}
		if got := Answer(identity, fresh, nought, nought); got != want {
			t.Errorf("Answer, %x: %x", nought, got)
		}
	}
	for _, x := range edges() {
		for _, y := range edges() {
			want := otherCommon(t, identity.Shared(y), fresh.Shared(x), fresh.Shared(y))
			if got := Begin(identity, fresh, api.Bundle{Identity: x, Prekey: y}); got != want {
				t.Errorf("Begin, %x, %x: %x, want %x", x, y, got, want)
			}
			want = otherCommon(t, fresh.Shared(x), identity.Shared(y), fresh.Shared(y))
			if got := Answer(identity, fresh, x, y); got != want {
				t.Errorf("Answer, %x, %x: %x, want %x", x, y, got, want)
			}
		}
	}
}

func TestOwnPoints(t *testing.T) { // P18.1: of the own pairs the numbers alone count
	identity, fresh, others, prekey := four()
	x, y := curve.Pair{Own: identity.Own, Public: row(1)}, curve.Pair{Own: fresh.Own}
	if Begin(x, y, Of(others, prekey)) != Begin(identity, fresh, Of(others, prekey)) {
		t.Error("Begin hangs on the own points")
	}
	if Answer(x, y, others.Public, prekey.Public) != Answer(identity, fresh, others.Public, prekey.Public) {
		t.Error("Answer hangs on the own points")
	}
	if got, want := Begin(curve.Pair{}, curve.Pair{}, Of(others, prekey)), Begin(curve.New(api.Key{}), curve.New(api.Key{}), Of(others, prekey)); got != want {
		t.Errorf("Begin of no pairs: %x, want %x", got, want)
	}
}

func TestOneKey(t *testing.T) { // P18.2: of pairs of any numbers
	numbers := []api.Key{{}, {31: 0x80}, filled(255), rising(3), row(1)}
	var pairs []curve.Pair
	for _, k := range numbers {
		pairs = append(pairs, curve.New(k))
	}
	for _, identity := range pairs {
		for _, fresh := range pairs {
			for i, others := range pairs {
				prekey := pairs[(i+1)%len(pairs)]
				x := Begin(identity, fresh, Of(others, prekey))
				y := Answer(others, prekey, identity.Public, fresh.Public)
				if x != y {
					t.Errorf("%x, %x, %x, %x: %x and %x", identity.Own, fresh.Own, others.Own, prekey.Own, x, y)
				}
			}
		}
	}
}

func TestOneKeyMany(t *testing.T) { // P18.2: the bundle told as bytes; no two beginnings have one key
	seen := map[api.Key]int{}
	for i := range 60 {
		identity, fresh := curve.New(row(4*i+100)), curve.New(row(4*i+101))
		others, prekey := curve.New(row(4*i+102)), curve.New(row(4*i+103))
		told, code := Decode(Encode(Of(others, prekey)))
		if code != api.OK {
			t.Fatalf("%d: %v", i, code)
		}
		x := Begin(identity, fresh, told)
		if y := Answer(others, prekey, identity.Public, fresh.Public); x != y {
			t.Errorf("%d: %x and %x", i, x, y)
		}
		if j, found := seen[x]; found {
			t.Errorf("%d and %d have one key", i, j)
		}
		seen[x] = i
	}
}

func TestOnePair(t *testing.T) { // P18.2: when all four pairs are one, and when each has one for both
	one, two := curve.New(row(9)), curve.New(row(10))
	if Begin(one, one, Of(one, one)) != Answer(one, one, one.Public, one.Public) {
		t.Error("all four are one")
	}
	if Begin(one, one, Of(two, two)) != Answer(two, two, one.Public, one.Public) {
		t.Error("each has one")
	}
}

func TestEachCounts(t *testing.T) { // P18.1, P18.2: with any of the four another one, or two of them exchanged, the key is another one
	a, f, b, p := four()
	x := curve.New(row(11))
	keys := []api.Key{Begin(a, f, Of(b, p)),
		Begin(x, f, Of(b, p)), Begin(a, x, Of(b, p)), Begin(a, f, Of(x, p)), Begin(a, f, Of(b, x)),
		Begin(f, a, Of(b, p)), Begin(a, f, Of(p, b)), Begin(f, a, Of(p, b)),
		Answer(x, p, a.Public, f.Public), Answer(b, x, a.Public, f.Public), Answer(b, p, x.Public, f.Public), Answer(b, p, a.Public, x.Public),
		Answer(p, b, a.Public, f.Public), Answer(b, p, f.Public, a.Public),
	}
	for i, k := range keys {
		if i > 0 && k == keys[0] {
			t.Errorf("%d: the same key", i)
		}
	}
}
