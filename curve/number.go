package curve

import (
	"math/bits"

	"despatch/api"
)

// A number has limbCount limbs; each limb but for a small rest has limbBits bits.
const (
	limbCount = 5
	limbBits  = 51
	limbMask  = 1<<limbBits - 1
)

// fold is what 2^255 is modulo p: what is carried out of the last limb comes back to the first one so many times.
const fold = 19

// The limbs of twice p: what is taken away from them never goes below 0.
const (
	twiceFirst = 2 * (1<<limbBits - fold)
	twiceOther = 2 * limbMask
)

// number is a number modulo p: the sum of its limbs, each with 2^51 times the weight of the one ahead of it.
// Every limb is below 2^51 + 2^18, so that sums of limbs, and of their products, have room; the number may be p or more.
type number [limbCount]uint64

// numberOf gives a key as a number, without the key's bit of the greatest weight.
func numberOf(k api.Key) number {
	w0, w1, w2, w3 := word(k, 0), word(k, 1), word(k, 2), word(k, 3)
	return number{
		w0 & limbMask,
		(w0>>51 | w1<<13) & limbMask,
		(w1>>38 | w2<<26) & limbMask,
		(w2>>25 | w3<<39) & limbMask,
		w3 >> 12 & limbMask,
	}
}

// word gives eight of a key's bytes as a number, that of the least weight first.
func word(k api.Key, place int) uint64 {
	var w uint64
	for i := range 8 {
		w |= uint64(k[8*place+i]) << (8 * i)
	}
	return w
}

// key gives a number, made less than p, as bytes.
func (n number) key() api.Key {
	n = n.least()
	words := [4]uint64{
		n[0] | n[1]<<51,
		n[1]>>13 | n[2]<<38,
		n[2]>>26 | n[3]<<25,
		n[3]>>39 | n[4]<<12,
	}
	var k api.Key
	for i := range k {
		k[i] = byte(words[i/8] >> (i % 8 * 8))
	}
	return k
}

// least gives a number made less than p, each limb of limbBits bits.
func (n number) least() number {
	// A number is less than twice p: p is taken away once, if 19 more reach 2^255, or not at all.
	over := uint64(fold)
	for _, limb := range n {
		over = (limb + over) >> limbBits
	}
	rest := fold * over
	for i, limb := range n {
		limb += rest
		n[i], rest = limb&limbMask, limb>>limbBits
	}
	return n
}

// carried gives a number, whose limbs may be any, with limbs as small as told above.
func carried(n number) number {
	return number{
		n[0]&limbMask + fold*(n[4]>>limbBits),
		n[1]&limbMask + n[0]>>limbBits,
		n[2]&limbMask + n[1]>>limbBits,
		n[3]&limbMask + n[2]>>limbBits,
		n[4]&limbMask + n[3]>>limbBits,
	}
}

// sum gives a + b.
func sum(a, b number) number {
	return carried(number{a[0] + b[0], a[1] + b[1], a[2] + b[2], a[3] + b[3], a[4] + b[4]})
}

// difference gives a - b.
func difference(a, b number) number {
	return carried(number{
		a[0] + twiceFirst - b[0],
		a[1] + twiceOther - b[1],
		a[2] + twiceOther - b[2],
		a[3] + twiceOther - b[3],
		a[4] + twiceOther - b[4],
	})
}

// product gives a times b.
func product(a, b number) number {
	a0, a1, a2, a3, a4 := a[0], a[1], a[2], a[3], a[4]
	b0, b1, b2, b3, b4 := b[0], b[1], b[2], b[3], b[4]
	// What two limbs give beyond the last limb comes back to the first ones.
	f1, f2, f3, f4 := fold*b1, fold*b2, fold*b3, fold*b4
	return narrow(
		times(a0, b0).plus(a1, f4).plus(a2, f3).plus(a3, f2).plus(a4, f1),
		times(a0, b1).plus(a1, b0).plus(a2, f4).plus(a3, f3).plus(a4, f2),
		times(a0, b2).plus(a1, b1).plus(a2, b0).plus(a3, f4).plus(a4, f3),
		times(a0, b3).plus(a1, b2).plus(a2, b1).plus(a3, b0).plus(a4, f4),
		times(a0, b4).plus(a1, b3).plus(a2, b2).plus(a3, b1).plus(a4, b0),
	)
}

// wide is a number of 128 bits.
type wide struct{ high, low uint64 }

// times gives a times b.
func times(a, b uint64) wide {
	high, low := bits.Mul64(a, b)
	return wide{high, low}
}

// plus gives w and a times b.
func (w wide) plus(a, b uint64) wide {
	high, low := bits.Mul64(a, b)
	low, carry := bits.Add64(w.low, low, 0)
	high, _ = bits.Add64(w.high, high, carry)
	return wide{high, low}
}

// rest gives what of w is above a limb's bits.
func (w wide) rest() uint64 { return w.high<<(64-limbBits) | w.low>>limbBits }

// narrow gives a number of wide limbs: all below 2^112, the last one, whose rest comes back 19 times, below 2^108.
func narrow(w0, w1, w2, w3, w4 wide) number {
	return carried(number{
		w0.low&limbMask + fold*w4.rest(),
		w1.low&limbMask + w0.rest(),
		w2.low&limbMask + w1.rest(),
		w3.low&limbMask + w2.rest(),
		w4.low&limbMask + w3.rest(),
	})
}

// squared gives a number, squared so many times.
func squared(n number, count int) number {
	for range count {
		n = product(n, n)
	}
	return n
}

// inverse gives 1 divided by a number, and 0 for 0: the number to the power of p - 2.
func inverse(n number) number {
	// The bits of p - 2, which is 2^255 - 21, are 250 times 1, then 01011, which is 11.
	two := squared(n, 1)
	nine := product(squared(two, 2), n)
	eleven := product(nine, two)
	// The power's bits are so many times 1.
	ones5 := product(squared(eleven, 1), nine)
	ones10 := product(squared(ones5, 5), ones5)
	ones20 := product(squared(ones10, 10), ones10)
	ones40 := product(squared(ones20, 20), ones20)
	ones50 := product(squared(ones40, 10), ones10)
	ones100 := product(squared(ones50, 50), ones50)
	ones200 := product(squared(ones100, 100), ones100)
	ones250 := product(squared(ones200, 50), ones50)
	return product(squared(ones250, 5), eleven)
}

// exchange gives b and a, if the bit is 1, else a and b.
func exchange(a, b number, bit byte) (number, number) {
	// Without a branch, so that how long it takes doesn't tell a secret number's bits.
	mask := -uint64(bit)
	for i := range limbCount {
		differ := mask & (a[i] ^ b[i])
		a[i] ^= differ
		b[i] ^= differ
	}
	return a, b
}
