package curve

import (
	"crypto/ecdh"
	"encoding/hex"
	"math/big"
	"slices"
	"testing"

	"despatch/api"
)

// prime is p.
func prime() *big.Int {
	p := new(big.Int).Lsh(big.NewInt(1), 255)
	return p.Sub(p, big.NewInt(19))
}

// bigOf gives a key as a number of 256 bits.
func bigOf(k api.Key) *big.Int {
	slices.Reverse(k[:])
	return new(big.Int).SetBytes(k[:])
}

// keyOf gives a number of at most 256 bits as a key.
func keyOf(x *big.Int) api.Key {
	var k api.Key
	x.FillBytes(k[:])
	slices.Reverse(k[:])
	return k
}

// slowMult is Mult as the chapter tells it, with numbers of any size.
func slowMult(k, u api.Key) api.Key {
	p := prime()
	mod := func(x *big.Int) *big.Int { return x.Mod(x, p) }
	add := func(x, y *big.Int) *big.Int { return mod(new(big.Int).Add(x, y)) }
	sub := func(x, y *big.Int) *big.Int { return mod(new(big.Int).Sub(x, y)) }
	mul := func(x, y *big.Int) *big.Int { return mod(new(big.Int).Mul(x, y)) }
	scalar := bigOf(k)
	for _, i := range []int{0, 1, 2, 255} {
		scalar.SetBit(scalar, i, 0)
	}
	scalar.SetBit(scalar, 254, 1)
	x1 := bigOf(u)
	x1 = mod(x1.SetBit(x1, 255, 0))
	x2, z2, x3, z3 := big.NewInt(1), big.NewInt(0), x1, big.NewInt(1)
	for i := 254; i >= 0; i-- {
		if scalar.Bit(i) == 1 {
			x2, z2, x3, z3 = x3, z3, x2, z2
		}
		a, b, c, d := add(x2, z2), sub(x2, z2), add(x3, z3), sub(x3, z3)
		aa, bb, da, cb := mul(a, a), mul(b, b), mul(d, a), mul(c, b)
		e := sub(aa, bb)
		x3, z3 = mul(add(da, cb), add(da, cb)), mul(x1, mul(sub(da, cb), sub(da, cb)))
		x2, z2 = mul(aa, bb), mul(e, add(aa, mul(big.NewInt(121665), e)))
		if scalar.Bit(i) == 1 {
			x2, z2, x3, z3 = x3, z3, x2, z2
		}
	}
	if z2.Sign() == 0 {
		return api.Key{}
	}
	return keyOf(mul(x2, new(big.Int).ModInverse(z2, p)))
}

// row gives a key whose bytes seem to be of no order.
func row(first int) api.Key {
	var k api.Key
	x := uint32(first)*2654435761 + 12345
	for i := range k {
		x = x*1664525 + 1013904223
		k[i] = byte(x >> 24)
	}
	return k
}

// filled gives a key of one byte.
func filled(b byte) api.Key {
	var k api.Key
	for i := range k {
		k[i] = b
	}
	return k
}

// turned gives a key with one bit turned.
func turned(k api.Key, i int) api.Key {
	k[i/8] ^= 1 << (i % 8)
	return k
}

func unhex(t *testing.T, s string) api.Key {
	t.Helper()
	b, err := hex.DecodeString(s)
	if err != nil || len(b) != api.KeyBytes {
		t.Fatal(s)
	}
	return api.Key(b)
}

// edges gives numbers by p, by 2^255, by limbs' and bytes' ends, and some others.
func edges() []api.Key {
	list := []api.Key{{}, {1}, {2}, {9}, {18}, {19}, {31: 0x40}, {31: 0x80}, {31: 0xff}, filled(0xff), filled(0x7f), filled(0x80), filled(0x55), filled(0xaa)}
	for i := int64(-20); i <= 18; i++ {
		x := new(big.Int).Add(prime(), big.NewInt(i))
		list = append(list, keyOf(x), keyOf(x.SetBit(x, 255, 1)))
	}
	for _, n := range []uint{51, 64, 102, 128, 153, 192, 204} {
		x := new(big.Int).Lsh(big.NewInt(1), n)
		list = append(list, keyOf(x), keyOf(x.Sub(x, big.NewInt(1))))
	}
	for i := range 20 {
		list = append(list, row(i))
	}
	return list
}

func TestClamp(t *testing.T) { // P5.1: the fixed bits, and all others as they were
	for first := range 256 {
		for last := range 256 {
			k := row(first)
			k[0], k[31] = byte(first), byte(last)
			want := k
			want[0], want[31] = byte(first/8*8), byte(last%64+64)
			if got := Clamp(k); got != want {
				t.Fatalf("%x: %x", k, got)
			}
		}
	}
}

func TestMultKnown(t *testing.T) { // P5.1: the numbers of RFC 7748
	for _, x := range []struct{ k, u, want string }{
		{"a546e36bf0527c9d3b16154b82465edd62144c0ac1fc5a18506a2244ba449ac4", "e6db6867583030db3594c1a424b15f7c726624ec26b3353b10a903a6d0ab1c4c", "c3da55379de9c6908e94ea4df28d084f32eccf03491c71f754b4075577a28552"},
		{"4b66e9d4d1b4673c5ad22691957d6af5c11b6421e0ea01d42ca4169e7918ba0d", "e5210f12786811d3f4b7959d0538ae2c31dbe7106fc03c3efc4cd549c715a493", "95cbde9476e8907d7aade45cb4b873f88b595a68799fa152e6f8f7647aac7957"},
	} {
		if got := Mult(unhex(t, x.k), unhex(t, x.u)); got != unhex(t, x.want) {
			t.Errorf("%s, %s: %x, want %s", x.k, x.u, got, x.want)
		}
	}
	k, u := api.Key{9}, api.Key{9}
	for i := range 1000 {
		k, u = Mult(k, u), k
		if i == 0 && k != unhex(t, "422c8e7a6227d7bca1350b3e2bb7279f7897b87bb6854b783c60e80311ae3079") {
			t.Fatalf("once: %x", k)
		}
	}
	if k != unhex(t, "684cf59ba83309552800ef566f2f4d3c1c3887c49360e3875f2eb94d99532c51") {
		t.Errorf("1000 times: %x", k)
	}
}

func TestMultEdges(t *testing.T) { // P5.1: points of p and more, and scalars of any bits
	scalars := []api.Key{{}, filled(0xff), filled(0x55), filled(0xaa), row(100), row(101)}
	for _, u := range edges() {
		for _, k := range scalars {
			if got, want := Mult(k, u), slowMult(k, u); got != want {
				t.Errorf("%x, %x: %x, want %x", k, u, got, want)
			}
		}
	}
	for _, k := range edges() {
		for _, u := range []api.Key{{9}, {4}, row(102)} {
			if got, want := Mult(k, u), slowMult(k, u); got != want {
				t.Errorf("%x, %x: %x, want %x", k, u, got, want)
			}
		}
	}
}

func TestMultOthers(t *testing.T) { // P5.1: as another program has it
	for i := range 300 {
		k, u := row(2*i), row(2*i+1)
		own, err := ecdh.X25519().NewPrivateKey(k[:])
		if err != nil {
			t.Fatal(err)
		}
		point, err := ecdh.X25519().NewPublicKey(u[:])
		if err != nil {
			t.Fatal(err)
		}
		want, err := own.ECDH(point)
		if err != nil {
			t.Fatal(err)
		}
		if got := Mult(k, u); got != api.Key(want) {
			t.Errorf("%x, %x: %x, want %x", k, u, got, want)
		}
		if got := Public(k); got != api.Key(own.PublicKey().Bytes()) {
			t.Errorf("%x: %x, want %x", k, got, own.PublicKey().Bytes())
		}
	}
}

func TestMultBits(t *testing.T) { // P5.1: each bit counts, but for the fixed ones of a scalar, and a point's last one
	k, u := row(50), row(51)
	whole := Mult(k, u)
	for i := range 256 {
		fixed := i < 3 || i >= 254
		if got := Mult(turned(k, i), u); (got == whole) != fixed || got != slowMult(turned(k, i), u) {
			t.Errorf("bit %d of the scalar: %x", i, got)
		}
		if got := Mult(k, turned(u, i)); (got == whole) != (i == 255) || got != slowMult(k, turned(u, i)) {
			t.Errorf("bit %d of the point: %x", i, got)
		}
	}
	if Mult(Clamp(k), u) != whole {
		t.Error("a clamped scalar is another one")
	}
}

func TestMultNought(t *testing.T) { // P5.1: what is divided by 0 is 0
	points := []api.Key{
		{}, {1},
		unhex(t, "e0eb7a7c3b41b8ae1656e3faf19fc46ada098deb9c32b1fd866205165f49b800"),
		unhex(t, "5f9c95bca3508c24b1d0b1559c83ef5b04445cc4581c8e86d8224eddd09f1157"),
	}
	for i := int64(-1); i <= 1; i++ {
		points = append(points, keyOf(new(big.Int).Add(prime(), big.NewInt(i))))
	}
	for _, u := range points {
		for _, k := range edges() {
			if got := Mult(k, u); got != (api.Key{}) {
				t.Errorf("%x, %x: %x", k, u, got)
			}
			if got := Mult(k, turned(u, 255)); got != (api.Key{}) {
				t.Errorf("%x, %x with the last bit: %x", k, u, got)
			}
		}
	}
}

func TestPublic(t *testing.T) { // P5.1
	for _, k := range edges() {
		want := slowMult(k, api.Key{9})
		if got := Public(k); got != want || got != Mult(k, api.Key{9}) {
			t.Errorf("%x: %x, want %x", k, got, want)
		}
	}
}

func TestPair(t *testing.T) { // P5.1: Own stays as it is, clamped or not
	for i, k := range edges() {
		p := New(k)
		if p.Own != k || p.Public != Public(k) {
			t.Errorf("%x: %x", k, p)
		}
		other := row(i)
		if got := p.Shared(other); got != Mult(k, other) {
			t.Errorf("%x, %x: %x", k, other, got)
		}
		if p != New(k) {
			t.Errorf("%x: changed", k) // P2
		}
	}
	p := Pair{Own: row(1), Public: row(2)}
	if got := p.Shared(row(3)); got != Mult(row(1), row(3)) || p != (Pair{Own: row(1), Public: row(2)}) {
		t.Errorf("of a pair whose point is another one's: %x", got)
	}
	var none Pair
	if got := none.Shared(row(3)); got != Mult(api.Key{}, row(3)) {
		t.Errorf("of no pair: %x", got)
	}
}

func TestShared(t *testing.T) { // P5.1, P5.2: the two of RFC 7748
	alice := New(unhex(t, "77076d0a7318a57d3c16c17251b26645df4c2f87ebc0992ab177fba51db92c2a"))
	bob := New(unhex(t, "5dab087e624a8a4b79e17f8b83800ee66f3bb1292618b6fd1c2f8b27ff88e0eb"))
	if alice.Public != unhex(t, "8520f0098930a754748b7ddcb43ef75a0dbf3a0d26381af4eba4a98eaa9b4e6a") {
		t.Errorf("%x", alice.Public)
	}
	if bob.Public != unhex(t, "de9edb7d7b7dc1b4d35b61c2ece435373f8343c85b78674dadfc7e146f882b4f") {
		t.Errorf("%x", bob.Public)
	}
	want := unhex(t, "4a5d9d5ba4ce2de1728e3bf480350f25e07e21c947d19e3376f09b3c1e161742")
	if a, b := alice.Shared(bob.Public), bob.Shared(alice.Public); a != want || b != want {
		t.Errorf("%x, %x", a, b)
	}
}

func TestBothWays(t *testing.T) { // P5.2
	list := append(edges()[:16:16], row(70), row(71), row(72), row(73))
	for _, a := range list {
		for _, b := range list {
			x, y := Mult(a, Public(b)), Mult(b, Public(a))
			if x != y || x == (api.Key{}) {
				t.Errorf("%x, %x: %x and %x", a, b, x, y)
			}
		}
	}
}
