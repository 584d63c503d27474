/-
  Of no statement by itself: five limbs of 51 bits modulo 2^255 - 19: bytes in and out; no program stands here.
  Conditions: none but each lemma's own.
-/
import Derived.Test.YtmbabkigjckaaaaCrvX
import Derived.KernelRfl
namespace Go.Proofs.Ytmbabkigjckaaaa
namespace Crv
/-! ### as bytes -/
theorem or_add' (x y : W64) {k : Nat} (hk : k ≤ 64) (hx : x.toNat < 2 ^ k) : (x ||| y <<< k).toNat = y.toNat * 2 ^ k % 2 ^ 64 + x.toNat := by
  rw [BitVec.or_comm, or_add x y hk hx]
def wdsB (n : N5) : List W64 := [n.a0 ||| n.a1 <<< 51, n.a1 >>> 13 ||| n.a2 <<< 38, n.a2 >>> 26 ||| n.a3 <<< 25, n.a3 >>> 39 ||| n.a4 <<< 12]
def bys (w : W64) : List By := [(w >>> 0).setWidth 8, (w >>> 8).setWidth 8, (w >>> 16).setWidth 8, (w >>> 24).setWidth 8, (w >>> 32).setWidth 8, (w >>> 40).setWidth 8, (w >>> 48).setWidth 8, (w >>> 56).setWidth 8]
theorem byt (w : W64) (k : Nat) : ((w >>> k).setWidth 8).toNat = w.toNat / 2 ^ k % 256 := by
  rw [BitVec.toNat_setWidth, toNat_shr]
theorem le_bys (w : W64) : le (bys w) = w.toNat := by
  unfold bys
  simp only [le, byt]
  have := w.isLt
  omega
def kbB (w : List W64) : Nat → List By
  | 0 => List.replicate 32 0
  | i + 1 => (kbB w i).set i ((w.getD (i / 8) 0 >>> (i % 8 * 8)).setWidth 8)
theorem kbB_len (w : List W64) : ∀ i, (kbB w i).length = 32
  | 0 => rfl
  | i + 1 => by rw [kbB, List.length_set, kbB_len w i]
theorem kbB_all (a b c d : W64) : kbB [a, b, c, d] 32 = bys a ++ (bys b ++ (bys c ++ bys d)) := by kernel_rfl
theorem kbB_is {n : N5} (h : Nrm n) : kbB (wdsB n) 32 = keyB 32 (val5 n) := by
  obtain ⟨p0, p1, p2, p3, p4⟩ := h
  have e0 := or_add' n.a0 n.a1 (k := 51) (by omega) (by omega)
  have s1 := toNat_shr n.a1 13
  have s2 := toNat_shr n.a2 26
  have s3 := toNat_shr n.a3 39
  have e1 := or_add' (n.a1 >>> 13) n.a2 (k := 38) (by omega) (by omega)
  have e2 := or_add' (n.a2 >>> 26) n.a3 (k := 25) (by omega) (by omega)
  have e3 := or_add' (n.a3 >>> 39) n.a4 (k := 12) (by omega) (by omega)
  unfold wdsB
  rw [kbB_all]
  have l8 : ∀ w, (bys w).length = 8 := fun _ => rfl
  have el : le (bys (n.a0 ||| n.a1 <<< 51) ++ (bys (n.a1 >>> 13 ||| n.a2 <<< 38) ++ (bys (n.a2 >>> 26 ||| n.a3 <<< 25) ++ bys (n.a3 >>> 39 ||| n.a4 <<< 12)))) = val5 n := by
    rw [le_append, le_append, le_append, l8, l8, l8, le_bys, le_bys, le_bys, le_bys, e0, e1, e2, e3, s1, s2, s3]
    unfold val5
    omega
  rw [← el]
  have := keyB_le (bys (n.a0 ||| n.a1 <<< 51) ++ (bys (n.a1 >>> 13 ||| n.a2 <<< 38) ++ (bys (n.a2 >>> 26 ||| n.a3 <<< 25) ++ bys (n.a3 >>> 39 ||| n.a4 <<< 12))))
  exact this.symm
/-- a number's bytes -/
def kyB (n : N5) : List By := kbB (wdsB (lstB n)) 32
theorem kyB_is {n : N5} (h : Good5 n) : kyB n = keyF (fv5 n) := by
  have := lstB_is h
  rw [kyB, kbB_is this.1, this.2]; rfl
/-! ### bytes as limbs -/
def wdB (k : List By) (p : Nat) : Nat → W64
  | 0 => 0
  | i + 1 => wdB k p i ||| ((k.getD (8 * p + i) 0).setWidth 64) <<< (8 * i)
theorem wdB_is (k : List By) (p : Nat) : ∀ i, i ≤ 8 → 8 * p + i ≤ k.length → (wdB k p i).toNat = le ((k.drop (8 * p)).take i)
  | 0, _, _ => rfl
  | i + 1, hi, hl => by
    have ih := wdB_is k p i (by omega) (by omega)
    have lt := le_lt ((k.drop (8 * p)).take i)
    have ln : ((k.drop (8 * p)).take i).length = i := by rw [List.length_take, List.length_drop]; omega
    rw [ln, show 256 ^ i = 2 ^ (8 * i) by rw [Nat.pow_mul]] at lt
    have hb : (k.drop (8 * p))[i]? = some (k.getD (8 * p + i) 0) := by
      rw [List.getElem?_drop, List.getD_eq_getElem?_getD, List.getElem?_eq_getElem (by omega)]; rfl
    rw [wdB, or_add' _ _ (k := 8 * i) (by omega) (by rw [ih]; exact lt), ih, List.take_add_one, hb, le_append, ln, show 256 ^ i = 2 ^ (8 * i) by rw [Nat.pow_mul]]
    generalize k.getD (8 * p + i) 0 = x
    have hx := x.isLt
    have hs : (x.setWidth 64).toNat = x.toNat := by rw [BitVec.toNat_setWidth]; exact Nat.mod_eq_of_lt (by omega)
    have hp : 2 ^ (8 * i) ≤ 2 ^ 56 := Nat.pow_le_pow_right (by omega) (by omega)
    have hm : x.toNat * 2 ^ (8 * i) ≤ 255 * 2 ^ 56 := Nat.mul_le_mul (by omega) hp
    rw [hs, Nat.mod_eq_of_lt (by omega)]
    show _ = _ + 2 ^ (8 * i) * (x.toNat + 256 * 0)
    rw [Nat.mul_zero, Nat.add_zero, Nat.mul_comm]
    omega
def numW (w0 w1 w2 w3 : W64) : N5 := ⟨w0 &&& 2251799813685247#64, (w0 >>> 51 ||| w1 <<< 13) &&& 2251799813685247#64, (w1 >>> 38 ||| w2 <<< 26) &&& 2251799813685247#64, (w2 >>> 25 ||| w3 <<< 39) &&& 2251799813685247#64, w3 >>> 12 &&& 2251799813685247#64⟩
theorem numW_is (w0 w1 w2 w3 : W64) : Nrm (numW w0 w1 w2 w3) ∧ val5 (numW w0 w1 w2 w3) = (w0.toNat + 18446744073709551616 * (w1.toNat + 18446744073709551616 * (w2.toNat + 18446744073709551616 * w3.toNat))) % 57896044618658097711785492504343953926634992332820282019728792003956564819968 := by
  have h0 := w0.isLt
  have h1 := w1.isLt
  have h2 := w2.isLt
  have h3 := w3.isLt
  have s0 := toNat_shr w0 51
  have s1 := toNat_shr w1 38
  have s2 := toNat_shr w2 25
  have s3 := toNat_shr w3 12
  have e1 := or_add' (w0 >>> 51) w1 (k := 13) (by omega) (by omega)
  have e2 := or_add' (w1 >>> 38) w2 (k := 26) (by omega) (by omega)
  have e3 := or_add' (w2 >>> 25) w3 (k := 39) (by omega) (by omega)
  have m0 := toNat_mask w0
  have m1 := toNat_mask (w0 >>> 51 ||| w1 <<< 13)
  have m2 := toNat_mask (w1 >>> 38 ||| w2 <<< 26)
  have m3 := toNat_mask (w2 >>> 25 ||| w3 <<< 39)
  have m4 := toNat_mask (w3 >>> 12)
  rw [e1, s0] at m1
  rw [e2, s1] at m2
  rw [e3, s2] at m3
  rw [s3] at m4
  refine ⟨⟨?_, ?_, ?_, ?_, ?_⟩, ?_⟩
  · show (w0 &&& 2251799813685247#64).toNat < _; rw [m0]; omega
  · show ((w0 >>> 51 ||| w1 <<< 13) &&& 2251799813685247#64).toNat < _; rw [m1]; omega
  · show ((w1 >>> 38 ||| w2 <<< 26) &&& 2251799813685247#64).toNat < _; rw [m2]; omega
  · show ((w2 >>> 25 ||| w3 <<< 39) &&& 2251799813685247#64).toNat < _; rw [m3]; omega
  · show (w3 >>> 12 &&& 2251799813685247#64).toNat < _; rw [m4]; omega
  · unfold val5 numW
    simp only
    rw [m0, m1, m2, m3, m4]
    clear e1 e2 e3 s0 s1 s2 s3 m0 m1 m2 m3 m4
    generalize w0.toNat = x0 at *
    generalize w1.toNat = x1 at *
    generalize w2.toNat = x2 at *
    generalize w3.toNat = x3 at *
    omega
theorem Nrm.good {n : N5} (h : Nrm n) : Good5 n := by
  obtain ⟨p0, p1, p2, p3, p4⟩ := h
  exact ⟨by omega, by omega, by omega, by omega, by omega⟩
def numB (u : List By) : N5 := numW (wdB u 0 8) (wdB u 1 8) (wdB u 2 8) (wdB u 3 8)
theorem numB_good (u : List By) : Good5 (numB u) := (numW_is _ _ _ _).1.good
theorem numB_fv {u : List By} (hu : u.length = 32) : fv5 (numB u) = pt u := by
  have e := (numW_is (wdB u 0 8) (wdB u 1 8) (wdB u 2 8) (wdB u 3 8)).2
  rw [wdB_is u 0 8 (by omega) (by omega), wdB_is u 1 8 (by omega) (by omega), wdB_is u 2 8 (by omega) (by omega), wdB_is u 3 8 (by omega) (by omega)] at e
  have c : ∀ l : List By, 8 ≤ l.length → le l = le (l.take 8) + 18446744073709551616 * le (l.drop 8) := fun l hl => by
    have := le_append (l.take 8) (l.drop 8)
    rw [List.take_append_drop, List.length_take, Nat.min_eq_left hl] at this
    exact this
  have c0 := c u (by omega)
  have c1 := c (u.drop 8) (by rw [List.length_drop]; omega)
  have c2 := c (u.drop 16) (by rw [List.length_drop]; omega)
  have c3 : le (u.drop 24) = le ((u.drop 24).take 8) := by rw [List.take_of_length_le (by rw [List.length_drop]; omega)]
  rw [List.drop_drop] at c1 c2
  have hl : le u = le ((u.drop (8 * 0)).take 8) + 18446744073709551616 * (le ((u.drop (8 * 1)).take 8) + 18446744073709551616 * (le ((u.drop (8 * 2)).take 8) + 18446744073709551616 * le ((u.drop (8 * 3)).take 8))) := by
    rw [c0]
    show _ = le ((u.drop 0).take 8) + 18446744073709551616 * (le ((u.drop 8).take 8) + 18446744073709551616 * (le ((u.drop 16).take 8) + 18446744073709551616 * le ((u.drop 24).take 8)))
    rw [← c3, ← c2, ← c1]; rfl
  rw [← hl] at e
  unfold fv5 pt
  show fn _ = fn _
  congr 1
end Crv
end Go.Proofs.Ytmbabkigjckaaaa
