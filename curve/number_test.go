package curve

import (
	"math"
	"math/big"
	"testing"

	"despatch/api"
)

// most is how big a limb may be.
const most = 1<<51 + 1<<18 - 1

// valueOf gives what a number's limbs tell, not modulo p.
func valueOf(n number) *big.Int {
	x := new(big.Int)
	for i := len(n) - 1; i >= 0; i-- {
		x.Lsh(x, 51)
		x.Add(x, new(big.Int).SetUint64(n[i]))
	}
	return x
}

// manyNumbers gives numbers with limbs at their bounds, and others.
func manyNumbers() []number {
	some := []uint64{0, 1, 1<<51 - 19, 1<<51 - 1, 1 << 51, most}
	list := []number{{1<<51 - 20, 1<<51 - 1, 1<<51 - 1, 1<<51 - 1, 1<<51 - 1}}
	for _, first := range some {
		for _, other := range some {
			list = append(list, number{first, other, other, other, other}, number{first, first, other, first, other})
		}
	}
	for i := range 20 {
		list = append(list, numberOf(row(i)))
	}
	return list
}

// checkNumber checks that a number is another one modulo p, and that its limbs are small.
func checkNumber(t *testing.T, what string, got number, want *big.Int) {
	t.Helper()
	for i, limb := range got {
		if limb > most {
			t.Errorf("%s: limb %d is %x", what, i, limb)
		}
	}
	p := prime()
	if new(big.Int).Mod(valueOf(got), p).Cmp(new(big.Int).Mod(want, p)) != 0 {
		t.Errorf("%s: %x", what, got)
	}
}

func TestNumberOf(t *testing.T) { // P5.1: as a point
	for i := range 256 {
		list := []api.Key{turned(api.Key{}, i), turned(filled(255), i), turned(row(i), i)}
		for _, k := range list {
			want := bigOf(k)
			want.SetBit(want, 255, 0)
			if n := numberOf(k); valueOf(n).Cmp(want) != 0 || carried(n) != n {
				t.Errorf("%x: %x", k, n)
			}
		}
	}
}

func TestNumberKey(t *testing.T) { // P5.1: modulo p
	for _, n := range manyNumbers() {
		if got, want := n.key(), keyOf(new(big.Int).Mod(valueOf(n), prime())); got != want {
			t.Errorf("%x: %x, want %x", n, got, want)
		}
	}
	for _, k := range edges() {
		x := bigOf(k)
		x.SetBit(x, 255, 0)
		if got, want := numberOf(k).key(), keyOf(x.Mod(x, prime())); got != want {
			t.Errorf("%x: %x, want %x", k, got, want)
		}
	}
}

func TestCarried(t *testing.T) { // P5.1
	full := number{math.MaxUint64, math.MaxUint64, math.MaxUint64, math.MaxUint64, math.MaxUint64}
	checkNumber(t, "full", carried(full), valueOf(full))
	for i := range full {
		n := number{}
		n[i] = math.MaxUint64
		checkNumber(t, "one limb", carried(n), valueOf(n))
	}
}

func TestNumbers(t *testing.T) { // P5.1: sums, differences and products
	list := manyNumbers()
	for _, a := range list {
		for _, b := range list {
			x, y := valueOf(a), valueOf(b)
			checkNumber(t, "sum", sum(a, b), new(big.Int).Add(x, y))
			checkNumber(t, "difference", difference(a, b), new(big.Int).Sub(x, y))
			checkNumber(t, "product", product(a, b), new(big.Int).Mul(x, y))
		}
	}
}

func TestInverse(t *testing.T) { // P5.1: of 0, and of p, it is 0
	p := prime()
	less := new(big.Int).Sub(p, big.NewInt(2))
	for _, n := range manyNumbers() {
		checkNumber(t, "inverse", inverse(n), new(big.Int).Exp(valueOf(n), less, p))
	}
	for _, n := range []number{{}, numberOf(keyOf(p))} {
		if got := inverse(n).key(); got != (api.Key{}) {
			t.Errorf("%x: %x", n, got)
		}
	}
}

func TestExchange(t *testing.T) { // P5.1
	a, b := manyNumbers()[3], numberOf(row(9))
	if x, y := exchange(a, b, 0); x != a || y != b {
		t.Errorf("0: %x, %x", x, y)
	}
	if x, y := exchange(a, b, 1); x != b || y != a {
		t.Errorf("1: %x, %x", x, y)
	}
}
