/-
  Of no statement by itself: five limbs of 51 bits modulo 2^255 - 19: carries, sums, differences, products of 128 bits; no program stands here.
  Conditions: none but each lemma's own.
-/
import Derived.Test.YtmbabkigjckaaaaCrvM
namespace Go.Proofs.Ytmbabkigjckaaaa
namespace Crv
abbrev W64 := BitVec 64
structure N5 where
  a0 : W64
  a1 : W64
  a2 : W64
  a3 : W64
  a4 : W64
@[reducible] def N5.l (n : N5) : List W64 := [n.a0, n.a1, n.a2, n.a3, n.a4]
def val5 (n : N5) : Nat := n.a0.toNat + 2251799813685248 * (n.a1.toNat + 2251799813685248 * (n.a2.toNat + 2251799813685248 * (n.a3.toNat + 2251799813685248 * n.a4.toNat)))
structure Good5 (n : N5) : Prop where
  a0 : n.a0.toNat < 2251799813947392
  a1 : n.a1.toNat < 2251799813947392
  a2 : n.a2.toNat < 2251799813947392
  a3 : n.a3.toNat < 2251799813947392
  a4 : n.a4.toNat < 2251799813947392
/-! ### natural numbers modulo p -/
theorem P_is : P = 57896044618658097711785492504343953926634992332820282019728792003956564819949 := rfl
def fn (x : Nat) : F := fi (x : Int)
theorem fn_add (x y : Nat) : fn (x + y) = fn x + fn y := by
  unfold fn
  rw [Int.natCast_add, fi_add]
theorem fn_mul (x y : Nat) : fn (x * y) = fn x * fn y := by
  unfold fn
  rw [Int.natCast_mul, fi_mul]
theorem fn_off {x y q : Nat} (h : x + q * P = y) : fn x = fn y := by
  unfold fn
  refine (fi_off (q := (q : Int)) ?_).symm
  rw [← h, Int.natCast_add, Int.natCast_mul]
theorem fn_val (x : F) : fn x.val = x := fi_nat x
theorem fn_lt {x : Nat} (h : x < P) : (fn x).val = x := by
  have := fi_val (x : Int)
  rw [Int.emod_eq_of_lt (by omega) (by omega)] at this
  unfold fn
  omega
def fv5 (n : N5) : F := fn (val5 n)
def rr : F := 2251799813685248
theorem rr5 : rr * rr * rr * rr * rr = 19 := by decide +kernel
theorem fn_rr : fn 2251799813685248 = rr := by decide +kernel
theorem fn_19 : fn 19 = 19 := by decide +kernel
theorem fv5_is (n : N5) : fv5 n = fn n.a0.toNat + rr * (fn n.a1.toNat + rr * (fn n.a2.toNat + rr * (fn n.a3.toNat + rr * fn n.a4.toNat))) := by
  unfold fv5 val5
  rw [fn_add, fn_mul, fn_add, fn_mul, fn_add, fn_mul, fn_add, fn_mul, fn_rr]
/-! ### words -/
theorem toNat_mask (x : W64) : (x &&& 2251799813685247#64).toNat = x.toNat % 2251799813685248 := by
  rw [BitVec.toNat_and, show (2251799813685247#64).toNat = 2 ^ 51 - 1 from rfl, Nat.and_two_pow_sub_one_eq_mod]
theorem toNat_shr (x : W64) (k : Nat) : (x >>> k).toNat = x.toNat / 2 ^ k := by rw [BitVec.toNat_ushiftRight, Nat.shiftRight_eq_div_pow]
theorem toNat_shr51 (x : W64) : (x >>> 51).toNat = x.toNat / 2251799813685248 := toNat_shr x 51
theorem toNat_add {x y : W64} (h : x.toNat + y.toNat < 18446744073709551616) : (x + y).toNat = x.toNat + y.toNat := by
  rw [BitVec.toNat_add]
  exact Nat.mod_eq_of_lt h
theorem toNat_mul19 {y : W64} (h : 19 * y.toNat < 18446744073709551616) : (19#64 * y).toNat = 19 * y.toNat := by
  rw [BitVec.toNat_mul]
  exact Nat.mod_eq_of_lt h
/-! ### carries -/
def carB (n : N5) : N5 :=
  ⟨(n.a0 &&& 2251799813685247#64) + 19#64 * (n.a4 >>> 51), (n.a1 &&& 2251799813685247#64) + n.a0 >>> 51, (n.a2 &&& 2251799813685247#64) + n.a1 >>> 51,
   (n.a3 &&& 2251799813685247#64) + n.a2 >>> 51, (n.a4 &&& 2251799813685247#64) + n.a3 >>> 51⟩
structure CarS (n m : N5) : Prop where
  a0 : m.a0.toNat = n.a0.toNat % 2251799813685248 + 19 * (n.a4.toNat / 2251799813685248)
  a1 : m.a1.toNat = n.a1.toNat % 2251799813685248 + n.a0.toNat / 2251799813685248
  a2 : m.a2.toNat = n.a2.toNat % 2251799813685248 + n.a1.toNat / 2251799813685248
  a3 : m.a3.toNat = n.a3.toNat % 2251799813685248 + n.a2.toNat / 2251799813685248
  a4 : m.a4.toNat = n.a4.toNat % 2251799813685248 + n.a3.toNat / 2251799813685248
theorem carB_is (n : N5) : CarS n (carB n) := by
  have h0 := n.a0.isLt
  have h1 := n.a1.isLt
  have h2 := n.a2.isLt
  have h3 := n.a3.isLt
  have h4 := n.a4.isLt
  have m0 := toNat_mask n.a0
  have m1 := toNat_mask n.a1
  have m2 := toNat_mask n.a2
  have m3 := toNat_mask n.a3
  have m4 := toNat_mask n.a4
  have s0 := toNat_shr51 n.a0
  have s1 := toNat_shr51 n.a1
  have s2 := toNat_shr51 n.a2
  have s3 := toNat_shr51 n.a3
  have s4 := toNat_shr51 n.a4
  have f := toNat_mul19 (y := n.a4 >>> 51) (by omega)
  exact ⟨(toNat_add (by omega)).trans (by omega), (toNat_add (by omega)).trans (by omega), (toNat_add (by omega)).trans (by omega), (toNat_add (by omega)).trans (by omega), (toNat_add (by omega)).trans (by omega)⟩
theorem carB_good (n : N5) : Good5 (carB n) := by
  have c := carB_is n
  have h0 := n.a0.isLt
  have h1 := n.a1.isLt
  have h2 := n.a2.isLt
  have h3 := n.a3.isLt
  have h4 := n.a4.isLt
  exact ⟨by rw [c.a0]; omega, by rw [c.a1]; omega, by rw [c.a2]; omega, by rw [c.a3]; omega, by rw [c.a4]; omega⟩
theorem carB_val (n : N5) : val5 (carB n) + n.a4.toNat / 2251799813685248 * P = val5 n := by
  have c := carB_is n
  unfold val5
  rw [c.a0, c.a1, c.a2, c.a3, c.a4, P_is]
  omega
theorem carB_fv (n : N5) : fv5 (carB n) = fv5 n := fn_off (carB_val n)
/-! ### sums and differences -/
def sumB (a b : N5) : N5 := carB ⟨a.a0 + b.a0, a.a1 + b.a1, a.a2 + b.a2, a.a3 + b.a3, a.a4 + b.a4⟩
def difB (a b : N5) : N5 := carB ⟨a.a0 + 4503599627370458#64 - b.a0, a.a1 + 4503599627370494#64 - b.a1, a.a2 + 4503599627370494#64 - b.a2, a.a3 + 4503599627370494#64 - b.a3, a.a4 + 4503599627370494#64 - b.a4⟩
theorem sumB_good (a b : N5) : Good5 (sumB a b) := carB_good _
theorem difB_good (a b : N5) : Good5 (difB a b) := carB_good _
theorem sumB_fv {a b : N5} (ha : Good5 a) (hb : Good5 b) : fv5 (sumB a b) = fv5 a + fv5 b := by
  obtain ⟨p0, p1, p2, p3, p4⟩ := ha
  obtain ⟨q0, q1, q2, q3, q4⟩ := hb
  have e0 := toNat_add (x := a.a0) (y := b.a0) (by omega)
  have e1 := toNat_add (x := a.a1) (y := b.a1) (by omega)
  have e2 := toNat_add (x := a.a2) (y := b.a2) (by omega)
  have e3 := toNat_add (x := a.a3) (y := b.a3) (by omega)
  have e4 := toNat_add (x := a.a4) (y := b.a4) (by omega)
  unfold sumB
  rw [carB_fv]
  unfold fv5
  rw [← fn_add]
  congr 1
  unfold val5
  rw [e0, e1, e2, e3, e4]
  omega
theorem toNat_less {x y : W64} {c : Nat} (h : x.toNat + c < 18446744073709551616) (hy : y.toNat ≤ c) : (x + BitVec.ofNat 64 c - y).toNat + y.toNat = x.toNat + c := by
  rw [BitVec.toNat_sub, BitVec.toNat_add, BitVec.toNat_ofNat]
  have := y.isLt
  omega
theorem difB_fv {a b : N5} (ha : Good5 a) (hb : Good5 b) : fv5 (difB a b) = fv5 a - fv5 b := by
  obtain ⟨p0, p1, p2, p3, p4⟩ := ha
  obtain ⟨q0, q1, q2, q3, q4⟩ := hb
  have e0 := toNat_less (x := a.a0) (y := b.a0) (c := 4503599627370458) (by omega) (by omega)
  have e1 := toNat_less (x := a.a1) (y := b.a1) (c := 4503599627370494) (by omega) (by omega)
  have e2 := toNat_less (x := a.a2) (y := b.a2) (c := 4503599627370494) (by omega) (by omega)
  have e3 := toNat_less (x := a.a3) (y := b.a3) (c := 4503599627370494) (by omega) (by omega)
  have e4 := toNat_less (x := a.a4) (y := b.a4) (c := 4503599627370494) (by omega) (by omega)
  unfold difB
  rw [carB_fv]
  have k : fn (val5 ⟨a.a0 + 4503599627370458#64 - b.a0, a.a1 + 4503599627370494#64 - b.a1, a.a2 + 4503599627370494#64 - b.a2, a.a3 + 4503599627370494#64 - b.a3, a.a4 + 4503599627370494#64 - b.a4⟩ + val5 b) = fn (val5 a) := by
    refine (fn_off (q := 2) ?_).symm
    unfold val5
    simp only
    rw [P_is]
    omega
  rw [fn_add] at k
  unfold fv5
  rw [← k]
  generalize fn (val5 b) = y
  generalize fn (val5 _) = x
  clear k
  grobner
/-! ### products of 128 bits -/
structure W2 where
  hi : W64
  lo : W64
@[reducible] def W2.l (w : W2) : List W64 := [w.hi, w.lo]
def W2.v (w : W2) : Nat := w.hi.toNat * 18446744073709551616 + w.lo.toNat
def mulHi (a b : W64) : W64 := BitVec.ofNat 64 (a.toNat * b.toNat / 18446744073709551616)
def cry (a b : W64) : W64 := BitVec.ofNat 64 ((a.toNat + b.toNat) / 18446744073709551616)
def tms (a b : W64) : W2 := ⟨mulHi a b, a * b⟩
def pls (w : W2) (a b : W64) : W2 := ⟨w.hi + mulHi a b + cry w.lo (a * b), w.lo + a * b⟩
def rst (w : W2) : W64 := w.hi <<< 13 ||| w.lo >>> 51
theorem mulHi_is (a b : W64) : (mulHi a b).toNat = a.toNat * b.toNat / 18446744073709551616 := by
  unfold mulHi
  rw [BitVec.toNat_ofNat]
  apply Nat.mod_eq_of_lt
  have h := Nat.mul_lt_mul'' a.isLt b.isLt
  omega
theorem cry_is (a b : W64) : (cry a b).toNat = (a.toNat + b.toNat) / 18446744073709551616 := by
  unfold cry
  rw [BitVec.toNat_ofNat]
  have := a.isLt
  have := b.isLt
  omega
theorem tms_v (a b : W64) : (tms a b).v = a.toNat * b.toNat := by
  unfold tms W2.v
  simp only
  rw [mulHi_is, BitVec.toNat_mul]
  omega
theorem pls_v {w : W2} {a b : W64} (h : w.v + a.toNat * b.toNat < 340282366920938463463374607431768211456) : (pls w a b).v = w.v + a.toNat * b.toNat := by
  unfold pls W2.v at *
  simp only at *
  rw [BitVec.toNat_add, BitVec.toNat_add, BitVec.toNat_add, cry_is, mulHi_is, BitVec.toNat_mul]
  generalize a.toNat * b.toNat = p at *
  have := w.lo.isLt
  have := w.hi.isLt
  omega
theorem or_add (x y : W64) {k : Nat} (hk : k ≤ 64) (hx : x.toNat < 2 ^ k) : (y <<< k ||| x).toNat = y.toNat * 2 ^ k % 2 ^ 64 + x.toNat := by
  have e : (y.toNat * 2 ^ k % 2 ^ 64) = (y.toNat % 2 ^ (64 - k)) <<< k := by
    rw [Nat.shiftLeft_eq, ← Nat.mul_mod_mul_right, ← Nat.pow_add, Nat.sub_add_cancel hk]
  rw [BitVec.toNat_or, BitVec.toNat_shiftLeft, Nat.shiftLeft_eq, e, ← Nat.shiftLeft_add_eq_or_of_lt hx]
theorem rst_is {w : W2} (h : w.v < 41538374868278621028243970633760768) : (rst w).toNat = w.v / 2251799813685248 := by
  unfold rst
  have hs := toNat_shr51 w.lo
  have l := w.lo.isLt
  rw [or_add _ _ (k := 13) (by omega) (by omega), hs]
  unfold W2.v at *
  omega
def nrw (w0 w1 w2 w3 w4 : W2) : N5 :=
  carB ⟨(w0.lo &&& 2251799813685247#64) + 19#64 * rst w4, (w1.lo &&& 2251799813685247#64) + rst w0, (w2.lo &&& 2251799813685247#64) + rst w1, (w3.lo &&& 2251799813685247#64) + rst w2, (w4.lo &&& 2251799813685247#64) + rst w3⟩
def prdB (a b : N5) : N5 :=
  let f1 := 19#64 * b.a1
  let f2 := 19#64 * b.a2
  let f3 := 19#64 * b.a3
  let f4 := 19#64 * b.a4
  nrw (pls (pls (pls (pls (tms a.a0 b.a0) a.a1 f4) a.a2 f3) a.a3 f2) a.a4 f1)
    (pls (pls (pls (pls (tms a.a0 b.a1) a.a1 b.a0) a.a2 f4) a.a3 f3) a.a4 f2)
    (pls (pls (pls (pls (tms a.a0 b.a2) a.a1 b.a1) a.a2 b.a0) a.a3 f4) a.a4 f3)
    (pls (pls (pls (pls (tms a.a0 b.a3) a.a1 b.a2) a.a2 b.a1) a.a3 b.a0) a.a4 f4)
    (pls (pls (pls (pls (tms a.a0 b.a4) a.a1 b.a3) a.a2 b.a2) a.a3 b.a1) a.a4 b.a0)
theorem prdB_good (a b : N5) : Good5 (prdB a b) := carB_good _
theorem nrw_fv {w0 w1 w2 w3 w4 : W2} (h0 : w0.v < 5192296858534827628530496329220096) (h1 : w1.v < 5192296858534827628530496329220096) (h2 : w2.v < 5192296858534827628530496329220096) (h3 : w3.v < 5192296858534827628530496329220096) (h4 : w4.v < 324518553658426726783156020576256) :
    fv5 (nrw w0 w1 w2 w3 w4) = fn w0.v + rr * (fn w1.v + rr * (fn w2.v + rr * (fn w3.v + rr * fn w4.v))) := by
  have r0 := rst_is (w := w0) (by omega)
  have r1 := rst_is (w := w1) (by omega)
  have r2 := rst_is (w := w2) (by omega)
  have r3 := rst_is (w := w3) (by omega)
  have r4 := rst_is (w := w4) (by omega)
  have lo : ∀ w : W2, w.lo.toNat % 2251799813685248 = w.v % 2251799813685248 := fun w => by
    unfold W2.v
    omega
  have m0 := (toNat_mask w0.lo).trans (lo w0)
  have m1 := (toNat_mask w1.lo).trans (lo w1)
  have m2 := (toNat_mask w2.lo).trans (lo w2)
  have m3 := (toNat_mask w3.lo).trans (lo w3)
  have m4 := (toNat_mask w4.lo).trans (lo w4)
  clear lo
  have f := toNat_mul19 (y := rst w4) (by omega)
  have e0 := toNat_add (x := w0.lo &&& 2251799813685247#64) (y := 19#64 * rst w4) (by omega)
  have e1 := toNat_add (x := w1.lo &&& 2251799813685247#64) (y := rst w0) (by omega)
  have e2 := toNat_add (x := w2.lo &&& 2251799813685247#64) (y := rst w1) (by omega)
  have e3 := toNat_add (x := w3.lo &&& 2251799813685247#64) (y := rst w2) (by omega)
  have e4 := toNat_add (x := w4.lo &&& 2251799813685247#64) (y := rst w3) (by omega)
  unfold nrw
  rw [carB_fv, ← fn_rr, ← fn_mul, ← fn_add, ← fn_mul, ← fn_add, ← fn_mul, ← fn_add, ← fn_mul, ← fn_add]
  refine fn_off (q := w4.v / 2251799813685248) ?_
  unfold val5
  simp only
  rw [e0, e1, e2, e3, e4, f, m0, m1, m2, m3, m4, r0, r1, r2, r3, r4, P_is]
  clear e0 e1 e2 e3 e4 f m0 m1 m2 m3 m4 r0 r1 r2 r3 r4
  generalize w0.v = v0 at *
  generalize w1.v = v1 at *
  generalize w2.v = v2 at *
  generalize w3.v = v3 at *
  generalize w4.v = v4 at *
  omega
theorem bdm {x y : Nat} {c d : Nat} (hx : x < c) (hy : y < d) : x * y ≤ c * d := Nat.mul_le_mul (Nat.le_of_lt hx) (Nat.le_of_lt hy)
/-- five products, one behind the other -/
theorem five {a0 a1 a2 a3 a4 b0 b1 b2 b3 b4 : W64} (h0 : a0.toNat < 2251799813947392) (h1 : a1.toNat < 2251799813947392) (h2 : a2.toNat < 2251799813947392) (h3 : a3.toNat < 2251799813947392) (h4 : a4.toNat < 2251799813947392)
    {d : Nat} (hd : d ≤ 42784196465000448) (k0 : b0.toNat < d) (k1 : b1.toNat < d) (k2 : b2.toNat < d) (k3 : b3.toNat < d) (k4 : b4.toNat < d) :
    (pls (pls (pls (pls (tms a0 b0) a1 b1) a2 b2) a3 b3) a4 b4).v = a0.toNat * b0.toNat + a1.toNat * b1.toNat + a2.toNat * b2.toNat + a3.toNat * b3.toNat + a4.toNat * b4.toNat ∧
    (pls (pls (pls (pls (tms a0 b0) a1 b1) a2 b2) a3 b3) a4 b4).v ≤ 11258999069736960 * d := by
  have p0 := bdm h0 k0
  have p1 := bdm h1 k1
  have p2 := bdm h2 k2
  have p3 := bdm h3 k3
  have p4 := bdm h4 k4
  have e0 := tms_v a0 b0
  have e1 := pls_v (w := tms a0 b0) (a := a1) (b := b1) (by rw [e0]; omega)
  rw [e0] at e1
  have e2 := pls_v (w := pls (tms a0 b0) a1 b1) (a := a2) (b := b2) (by rw [e1]; omega)
  rw [e1] at e2
  have e3 := pls_v (w := pls (pls (tms a0 b0) a1 b1) a2 b2) (a := a3) (b := b3) (by rw [e2]; omega)
  rw [e2] at e3
  have e4 := pls_v (w := pls (pls (pls (tms a0 b0) a1 b1) a2 b2) a3 b3) (a := a4) (b := b4) (by rw [e3]; omega)
  rw [e3] at e4
  refine ⟨e4, ?_⟩
  rw [e4]
  omega
theorem prdB_fv {a b : N5} (ha : Good5 a) (hb : Good5 b) : fv5 (prdB a b) = fv5 a * fv5 b := by
  obtain ⟨p0, p1, p2, p3, p4⟩ := ha
  obtain ⟨q0, q1, q2, q3, q4⟩ := hb
  have f1 := toNat_mul19 (y := b.a1) (by omega)
  have f2 := toNat_mul19 (y := b.a2) (by omega)
  have f3 := toNat_mul19 (y := b.a3) (by omega)
  have f4 := toNat_mul19 (y := b.a4) (by omega)
  have v0 := five p0 p1 p2 p3 p4 (b0 := b.a0) (b1 := 19#64 * b.a4) (b2 := 19#64 * b.a3) (b3 := 19#64 * b.a2) (b4 := 19#64 * b.a1) (d := 42784196465000448) (by omega) (by omega) (by omega) (by omega) (by omega) (by omega)
  have v1 := five p0 p1 p2 p3 p4 (b0 := b.a1) (b1 := b.a0) (b2 := 19#64 * b.a4) (b3 := 19#64 * b.a3) (b4 := 19#64 * b.a2) (d := 42784196465000448) (by omega) (by omega) (by omega) (by omega) (by omega) (by omega)
  have v2 := five p0 p1 p2 p3 p4 (b0 := b.a2) (b1 := b.a1) (b2 := b.a0) (b3 := 19#64 * b.a4) (b4 := 19#64 * b.a3) (d := 42784196465000448) (by omega) (by omega) (by omega) (by omega) (by omega) (by omega)
  have v3 := five p0 p1 p2 p3 p4 (b0 := b.a3) (b1 := b.a2) (b2 := b.a1) (b3 := b.a0) (b4 := 19#64 * b.a4) (d := 42784196465000448) (by omega) (by omega) (by omega) (by omega) (by omega) (by omega)
  have v4 := five p0 p1 p2 p3 p4 (b0 := b.a4) (b1 := b.a3) (b2 := b.a2) (b3 := b.a1) (b4 := b.a0) (d := 2251799813947392) (by omega) q4 q3 q2 q1 q0
  unfold prdB
  simp only
  rw [nrw_fv (by have := v0.2; omega) (by have := v1.2; omega) (by have := v2.2; omega) (by have := v3.2; omega) (by have := v4.2; omega), v0.1, v1.1, v2.1, v3.1, v4.1, f1, f2, f3, f4, fv5_is, fv5_is]
  simp only [fn_add, fn_mul, fn_19]
  have h := rr5
  generalize rr = r at *
  generalize fn a.a0.toNat = x0
  generalize fn a.a1.toNat = x1
  generalize fn a.a2.toNat = x2
  generalize fn a.a3.toNat = x3
  generalize fn a.a4.toNat = x4
  generalize fn b.a0.toNat = y0
  generalize fn b.a1.toNat = y1
  generalize fn b.a2.toNat = y2
  generalize fn b.a3.toNat = y3
  generalize fn b.a4.toNat = y4
  clear v0 v1 v2 v3 v4 f1 f2 f3 f4 p0 p1 p2 p3 p4 q0 q1 q2 q3 q4
  grobner
end Crv
end Go.Proofs.Ytmbabkigjckaaaa
