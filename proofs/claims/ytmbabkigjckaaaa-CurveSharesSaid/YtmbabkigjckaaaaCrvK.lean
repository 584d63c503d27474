/-
  Of no statement by itself: bytes as limbs, and one by a number as a power; no program stands here.
  Conditions: none but each lemma's own.
-/
import Derived.Test.YtmbabkigjckaaaaCrvJ
namespace Go.Proofs.Ytmbabkigjckaaaa
namespace Crv
abbrev By := BitVec 8
/-- bytes as a number, that of the least weight first -/
def le : List By → Nat
  | [] => 0
  | b :: l => b.toNat + 256 * le l
def wordN (u : List By) (i : Nat) : Nat := (u.getD (2 * i) 0).toNat + 256 * (u.getD (2 * i + 1) 0).toNat
theorem wordN_lt (u : List By) (i : Nat) : wordN u i < 65536 := by
  have a := (u.getD (2 * i) 0).isLt
  have b := (u.getD (2 * i + 1) 0).isLt
  unfold wordN
  omega
def rdL (u : List By) : Nat → List Int
  | 0 => List.replicate 16 0
  | i + 1 => (rdL u i).set i ((wordN u i : Nat) : Int)
def readL (u : List By) : List Int := (rdL u 16).set 15 ((wordN u 15 % 32768 : Nat) : Int)
theorem rdL_len (u : List By) : ∀ i, (rdL u i).length = 16
  | 0 => rfl
  | i + 1 => by rw [rdL, List.length_set, rdL_len u i]
theorem rdL_nth (u : List By) (j : Nat) : ∀ i, i ≤ 16 → nth (rdL u i) j = if j < i then ((wordN u j : Nat) : Int) else 0
  | 0, _ => by rw [rdL, rep0_nth]; rfl
  | i + 1, h => by
    rw [rdL, nth_set _ _ _ _ (by rw [rdL_len]; omega), rdL_nth u j i (by omega)]
    by_cases e : i = j
    · subst e
      rw [if_pos rfl, if_pos (by omega)]
    · rw [if_neg e]
      by_cases e2 : j < i
      · rw [if_pos e2, if_pos (by omega)]
      · rw [if_neg e2, if_neg (by omega)]
def lw (u : List By) : Nat → Nat
  | 0 => 0
  | k + 1 => lw u k + wordN u k * 65536 ^ k
theorem lw_ps (u : List By) : ∀ k, k ≤ 16 → ps (rdL u 16) k = (lw u k : Nat)
  | 0, _ => rfl
  | k + 1, h => by
    show ps (rdL u 16) k + nth (rdL u 16) k * 65536 ^ k = ((lw u k + wordN u k * 65536 ^ k : Nat) : Int)
    rw [lw_ps u k (by omega), rdL_nth u k 16 (by omega), if_pos (by omega)]
    simp
theorem lw_lt (u : List By) : ∀ k, lw u k < 65536 ^ k
  | 0 => by show 0 < 65536 ^ 0; rw [Nat.pow_zero]; omega
  | k + 1 => by
    have ih := lw_lt u k
    have w := wordN_lt u k
    have m := Nat.mul_le_mul_right (65536 ^ k) (Nat.le_of_lt_succ (show wordN u k < 65535 + 1 by omega))
    show lw u k + wordN u k * 65536 ^ k < 65536 ^ (k + 1)
    rw [Nat.pow_succ]
    omega
theorem le_lw (u : List By) (hu : u.length = 32) : ∀ k, k ≤ 16 → le u = lw u k + 65536 ^ k * le (u.drop (2 * k))
  | 0, _ => by rw [lw, Nat.zero_add, Nat.pow_zero, Nat.one_mul, Nat.mul_zero, List.drop_zero]
  | k + 1, h => by
    rw [le_lw u hu k (by omega)]
    have e1 : u.drop (2 * k) = u.getD (2 * k) 0 :: u.getD (2 * k + 1) 0 :: u.drop (2 * (k + 1)) := by
      rw [List.drop_eq_getElem_cons (by omega), List.drop_eq_getElem_cons (by omega)]
      simp only [List.getD_eq_getElem?_getD, List.getElem?_eq_getElem (show 2 * k < u.length by omega), List.getElem?_eq_getElem (show 2 * k + 1 < u.length by omega), Option.getD_some]
      rfl
    rw [e1]
    show lw u k + 65536 ^ k * ((u.getD (2 * k) 0).toNat + 256 * ((u.getD (2 * k + 1) 0).toNat + 256 * le (u.drop (2 * (k + 1))))) = lw u k + wordN u k * 65536 ^ k + 65536 ^ (k + 1) * le (u.drop (2 * (k + 1)))
    have e2 : (u.getD (2 * k) 0).toNat + 256 * ((u.getD (2 * k + 1) 0).toNat + 256 * le (u.drop (2 * (k + 1)))) = wordN u k + 65536 * le (u.drop (2 * (k + 1))) := by unfold wordN; omega
    rw [e2, Nat.mul_add, Nat.pow_succ, Nat.mul_comm (wordN u k), Nat.mul_assoc, Nat.add_assoc]
theorem mod_top (M x y : Nat) (hy : y < M) : (y + x * M) % (32768 * M) = y + (x % 32768) * M := by
  have e : y + x * M = (y + (x % 32768) * M) + (x / 32768) * (32768 * M) := by
    have h : x = x % 32768 + (x / 32768) * 32768 := by omega
    rw [Nat.add_assoc, ← Nat.mul_assoc, ← Nat.add_mul, ← h]
  have l : (x % 32768) * M ≤ 32767 * M := Nat.mul_le_mul_right M (by omega)
  have l2 : 32768 * M = 32767 * M + M := by omega
  rw [e, Nat.add_mul_mod_self_right, Nat.mod_eq_of_lt (by omega)]
def top : Nat := 32768 * 65536 ^ 15
theorem readL_val (u : List By) (hu : u.length = 32) : val (readL u) = ((le u % top : Nat) : Int) := by
  have e := le_lw u hu 16 (by omega)
  have e0 : u.drop (2 * 16) = [] := List.drop_eq_nil_of_le (by omega)
  have e1 : lw u 16 = lw u 15 + wordN u 15 * 65536 ^ 15 := rfl
  have e2 := lw_lt u 15
  rw [e0] at e
  have e3 : le u = lw u 15 + wordN u 15 * 65536 ^ 15 := by
    rw [e, ← e1]
    show lw u 16 + 65536 ^ 16 * 0 = lw u 16
    rw [Nat.mul_zero, Nat.add_zero]
  rw [e3, top, mod_top _ _ _ e2, readL, val_set _ _ _ (by rw [rdL_len]; omega), rdL_nth u 15 16 (by omega), if_pos (by omega), val_ps _ 16 (by rw [rdL_len]; omega), lw_ps u 16 (by omega), e1]
  clear e e0 e1 e2 e3
  generalize wordN u 15 = x
  generalize lw u 15 = y
  rw [Int.natCast_add, Int.natCast_add, Int.natCast_mul, Int.natCast_mul, Int.natCast_pow, Int.sub_mul]
  rw [show ((65536 : Nat) : Int) = 65536 from rfl]
  generalize (65536 : Int) ^ 15 = M
  omega
theorem readL_good (u : List By) : Good (readL u) := by
  have n : ∀ j, j < 16 → 0 ≤ nth (readL u) j ∧ nth (readL u) j ≤ 65535 := fun j hj => by
    have a := wordN_lt u j
    have b := wordN_lt u 15
    rw [readL, nth_set _ _ _ _ (by rw [rdL_len]; omega), rdL_nth u j 16 (by omega), if_pos hj]
    split <;> omega
  refine ⟨by rw [readL, List.length_set, rdL_len], ?_, fun j _ h => n j h⟩
  have := n 0 (by omega)
  omega
/-- a point's bytes as a number modulo p -/
def pt (u : List By) : F := fi ((le u % top : Nat) : Int)
theorem readL_fv (u : List By) (hu : u.length = 32) : fv (readL u) = pt u := by rw [fv, readL_val u hu]; rfl
/-! ### one by a number -/
def oneL : List Int := 1 :: List.replicate 15 0
theorem oneL_good : Good oneL := ⟨rfl, by decide, fun j h0 h1 => by rw [show oneL = los 1 0 from rfl, los_nth _ _ _ h1, if_neg (by omega)]; omega⟩
theorem oneL_fv : fv oneL = 1 := by decide +kernel
def invS (a : List Int) : Nat → List Int
  | 0 => oneL
  | n + 1 => if n = 252 ∨ n = 250 then mulL (invS a n) (invS a n) else mulL (mulL (invS a n) (invS a n)) a
def invE : Nat → Nat
  | 0 => 0
  | n + 1 => if n = 252 ∨ n = 250 then 2 * invE n else 2 * invE n + 1
theorem invS_good {a : List Int} (ha : Good a) : ∀ n, Good (invS a n)
  | 0 => oneL_good
  | n + 1 => by
    have ih := invS_good ha n
    rw [invS]
    split
    · exact mulL_good ih ih
    · exact mulL_good (mulL_good ih ih) ha
theorem invS_fv {a : List Int} (ha : Good a) : ∀ n, fv (invS a n) = pw (fv a) (invE n)
  | 0 => oneL_fv
  | n + 1 => by
    have ih := invS_fv ha n
    have g := invS_good ha n
    rw [invS, invE]
    have e : pw (fv a) (2 * invE n) = pw (fv a) (invE n) * pw (fv a) (invE n) := by rw [Nat.two_mul, pw_add]
    split
    · rw [mulL_fv g.len g.len, ih, e]
    · rw [mulL_fv (mulL_good g g).len ha.len, mulL_fv g.len g.len, ih]
      show _ = pw (fv a) (2 * invE n) * fv a
      rw [e]
theorem invE_all : invE 255 = P - 2 := by decide +kernel
theorem invL_fv {a : List Int} (ha : Good a) : fv (invS a 255) = inv (fv a) := by rw [invS_fv ha, invE_all]; rfl
end Crv
end Go.Proofs.Ytmbabkigjckaaaa
