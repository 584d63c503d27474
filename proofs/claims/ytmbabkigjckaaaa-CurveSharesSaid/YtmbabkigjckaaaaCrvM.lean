/-
  Of no statement by itself: Mult as bytes, over the ladder modulo p; the ladder over limbs; no program stands here.
  Conditions: none but each lemma's own.
-/
import Derived.Test.YtmbabkigjckaaaaCrvW
namespace Go.Proofs.Ytmbabkigjckaaaa
namespace Crv
/-! ### keys -/
theorem pt_keyF (x : F) : pt (keyF x) = x := by
  have h := x.isLt
  have e : le (keyF x) % top = x.val := by
    rw [keyF, le_keyB]
    have e1 : x.val % 256 ^ 32 = x.val := Nat.mod_eq_of_lt (Nat.lt_trans h (by decide))
    rw [e1]
    exact Nat.mod_eq_of_lt (Nat.lt_trans h (by decide))
  unfold pt
  rw [e, fi_nat]
theorem keyF_len (x : F) : (keyF x).length = 32 := keyB_len 32 _
/-- a number's fixed bits -/
def clampB (k : List By) : List By := (k.set 0 (k.getD 0 0 / 8 * 8)).set 31 ((k.set 0 (k.getD 0 0 / 8 * 8)).getD 31 0 % 64 + 64)
theorem clampB_len (k : List By) : (clampB k).length = k.length := by rw [clampB, List.length_set, List.length_set]
theorem le_even : ∀ b : List By, le b % 2 = (b.getD 0 0).toNat % 2
  | [] => rfl
  | x :: b => by
    show (x.toNat + 256 * le b) % 2 = x.toNat % 2
    omega
theorem le_lt : ∀ b : List By, le b < 256 ^ b.length
  | [] => by show 0 < 256 ^ 0; decide
  | x :: b => by
    have ih := le_lt b
    have h := x.isLt
    show x.toNat + 256 * le b < 256 ^ (b.length + 1)
    rw [Nat.pow_succ]
    omega
theorem le_append : ∀ a b : List By, le (a ++ b) = le a + 256 ^ a.length * le b
  | [], b => by show le b = 0 + 256 ^ 0 * le b; rw [Nat.pow_zero]; omega
  | x :: a, b => by
    show x.toNat + 256 * le (a ++ b) = x.toNat + 256 * le a + 256 ^ (a.length + 1) * le b
    rw [le_append a b, Nat.pow_succ, Nat.mul_add, Nat.mul_comm (256 ^ a.length) 256, Nat.mul_assoc, Nat.add_assoc]
theorem low8 : ∀ x : By, (x / 8 * 8).toNat % 2 = 0 := by decide +kernel
theorem high8 : ∀ x : By, (x % 64 + 64).toNat < 128 := by decide +kernel
theorem clampB_even (k : List By) (h : k.length = 32) : le (clampB k) % 2 = 0 := by
  rw [le_even, clampB]
  simp only [List.getD_eq_getElem?_getD, List.getElem?_set, List.length_set, h]
  simp only [show ¬ (31 : Nat) = 0 by decide, if_false, if_true, show (0 : Nat) < 32 by decide, Option.getD_some]
  exact low8 _
theorem clampB_lt (k : List By) (h : k.length = 32) : le (clampB k) < 2 ^ 255 := by
  have l := clampB_len k
  have e : clampB k = (clampB k).take 31 ++ [(clampB k).getD 31 0] := by
    have d : (clampB k).drop 31 = [(clampB k).getD 31 0] := by
      rw [List.drop_eq_getElem_cons (by omega), List.drop_eq_nil_of_le (by omega), List.getD_eq_getElem?_getD, List.getElem?_eq_getElem (by omega)]
      rfl
    rw [← d, List.take_append_drop]
  have top : ((clampB k).getD 31 0).toNat < 128 := by
    rw [clampB]
    generalize k.set 0 (k.getD 0 0 / 8 * 8) = m at *
    by_cases hm : 31 < m.length
    · rw [List.getD_eq_getElem?_getD, List.getElem?_set, if_pos rfl, if_pos hm]
      exact high8 _
    · rw [List.getD_eq_getElem?_getD, List.getElem?_eq_none (by rw [List.length_set]; omega)]
      decide
  have lt := le_lt ((clampB k).take 31)
  have l31 : ((clampB k).take 31).length = 31 := by rw [List.length_take]; omega
  rw [e, le_append, l31]
  rw [l31] at lt
  generalize (clampB k).getD 31 0 = x at *
  generalize le ((clampB k).take 31) = y at *
  have p : (2 : Nat) ^ 255 = 256 ^ 31 * 128 := by decide
  have s : le [x] = x.toNat := by show x.toNat + 256 * 0 = x.toNat; omega
  rw [p, s]
  have m := Nat.mul_le_mul_left (256 ^ 31) (show x.toNat ≤ 127 by omega)
  generalize (256 : Nat) ^ 31 = M at *
  generalize M * x.toNat = z at *
  omega
/-- a point so many times -/
def multB (k u : List By) : List By := keyF (mulF (le (clampB k)) (pt u))
theorem multB_comm (a b u : List By) (ha : a.length = 32) (hb : b.length = 32) : multB a (multB b u) = multB b (multB a u) := by
  unfold multB
  rw [pt_keyF, pt_keyF, mul_comm2 _ (clampB_lt a ha) (clampB_lt b hb) (clampB_even a ha) (clampB_even b hb)]
theorem le_bit : ∀ (b : List By) (i : Nat), (le b).testBit i = (b.getD (i / 8) 0).toNat.testBit (i % 8)
  | [], i => by
    rw [show le [] = 0 from rfl, Nat.zero_testBit]
    show false = (0 : By).toNat.testBit (i % 8)
    rw [show (0 : By).toNat = 0 from rfl, Nat.zero_testBit]
  | x :: b, i => by
    have ih := le_bit b
    have h := x.isLt
    have e : le (x :: b) = 2 ^ 8 * le b + x.toNat := by show x.toNat + 256 * le b = 256 * le b + x.toNat; omega
    rw [e, Nat.testBit_two_pow_mul_add _ h]
    by_cases hi : i < 8
    · rw [if_pos hi, Nat.div_eq_of_lt hi, Nat.mod_eq_of_lt hi]
      rfl
    · rw [if_neg hi, ih, show i / 8 = (i - 8) / 8 + 1 by omega, show i % 8 = (i - 8) % 8 by omega]
      rfl
/-! ### the ladder over limbs -/
structure N4 where
  x2 : List Int
  z2 : List Int
  x3 : List Int
  z3 : List Int
def N4.f (s : N4) : L4 := ⟨fv s.x2, fv s.z2, fv s.x3, fv s.z3⟩
structure N4.ok (s : N4) : Prop where
  x2 : Good s.x2
  z2 : Good s.z2
  x3 : Good s.x3
  z3 : Good s.z3
def cL : List Int := 56129 :: 1 :: List.replicate 14 0
theorem cL_good : Good cL := ⟨rfl, by decide, fun j h0 h1 => by
  unfold cL
  cases j with
  | zero => omega
  | succ j =>
    cases j with
    | zero => decide
    | succ j =>
      have : nth (56129 :: 1 :: List.replicate 14 0) (j + 1 + 1) = 0 := rep0_nth 14 j
      omega⟩
theorem cL_fv : fv cL = 121665 := by decide +kernel
def coreL (x1 : List Int) (s : N4) : N4 :=
  let a := addL s.x2 s.z2
  let b := subL s.x2 s.z2
  let c := addL s.x3 s.z3
  let d := subL s.x3 s.z3
  let da := mulL d a
  let cb := mulL c b
  let aa := mulL a a
  let bb := mulL b b
  let e := subL aa bb
  ⟨mulL aa bb, mulL e (addL aa (mulL cL e)), mulL (addL da cb) (addL da cb), mulL x1 (mulL (subL da cb) (subL da cb))⟩
def swapL (b : Bool) (s : N4) : N4 := if b then ⟨s.x3, s.z3, s.x2, s.z2⟩ else s
theorem swapL_ok {s : N4} (h : s.ok) (b : Bool) : (swapL b s).ok := by
  cases b
  · exact h
  · exact ⟨h.x3, h.z3, h.x2, h.z2⟩
theorem swapL_f (s : N4) (b : Bool) : (swapL b s).f = swap b s.f := by cases b <;> rfl
theorem coreL_ok {x1 : List Int} {s : N4} (h1 : Good x1) (h : s.ok) : (coreL x1 s).ok := by
  have a := addL_good h.x2 h.z2
  have b := subL_good h.x2 h.z2
  have c := addL_good h.x3 h.z3
  have d := subL_good h.x3 h.z3
  have da := mulL_good d a
  have cb := mulL_good c b
  have aa := mulL_good a a
  have bb := mulL_good b b
  have e := subL_good aa bb
  have r1 := mulL_good aa bb
  have r2 := mulL_good e (addL_good aa (mulL_good cL_good e))
  have r3 := mulL_good (addL_good da cb) (addL_good da cb)
  have r4 := mulL_good h1 (mulL_good (subL_good da cb) (subL_good da cb))
  unfold coreL
  refine ⟨?_, ?_, ?_, ?_⟩
  · simp only; exact r1
  · simp only; exact r2
  · simp only; exact r3
  · simp only; exact r4
theorem gadd {a b : List Int} (ha : Good a) (hb : Good b) : fv (addL a b) = fv a + fv b := addL_fv ha.len hb.len
theorem gsub {a b : List Int} (ha : Good a) (hb : Good b) : fv (subL a b) = fv a - fv b := subL_fv ha.len hb.len
theorem gmul {a b : List Int} (ha : Good a) (hb : Good b) : fv (mulL a b) = fv a * fv b := mulL_fv ha.len hb.len
theorem coreL_f {x1 : List Int} {s : N4} (h1 : Good x1) (h : s.ok) : (coreL x1 s).f = core (fv x1) s.f := by
  have a := addL_good h.x2 h.z2
  have b := subL_good h.x2 h.z2
  have c := addL_good h.x3 h.z3
  have d := subL_good h.x3 h.z3
  have da := mulL_good d a
  have cb := mulL_good c b
  have aa := mulL_good a a
  have bb := mulL_good b b
  have e := subL_good aa bb
  unfold N4.f coreL core
  simp only
  rw [gmul aa bb, gmul e (addL_good aa (mulL_good cL_good e)), gadd aa (mulL_good cL_good e), gmul cL_good e, gsub aa bb, gmul (addL_good da cb) (addL_good da cb), gadd da cb,
    gmul h1 (mulL_good (subL_good da cb) (subL_good da cb)), gmul (subL_good da cb) (subL_good da cb), gsub da cb, gmul d a, gmul c b, gmul a a, gmul b b, gadd h.x2 h.z2, gsub h.x2 h.z2, gadd h.x3 h.z3, gsub h.x3 h.z3, cL_fv]
/-- the state behind n steps, from bit 254 down -/
def ladL (x1 : List Int) (k : Nat) : Nat → N4
  | 0 => ⟨oneL, List.replicate 16 0, x1, oneL⟩
  | n + 1 => swapL (k.testBit (254 - n)) (coreL x1 (swapL (k.testBit (254 - n)) (ladL x1 k n)))
theorem zeroL_good : Good (List.replicate 16 0) := ⟨rfl, by decide, fun j _ _ => by rw [rep0_nth]; omega⟩
theorem ladL_ok {x1 : List Int} (h : Good x1) (k : Nat) : ∀ n, (ladL x1 k n).ok
  | 0 => ⟨oneL_good, zeroL_good, h, oneL_good⟩
  | n + 1 => swapL_ok (coreL_ok h (swapL_ok (ladL_ok h k n) _)) _
theorem ladL_f {x1 : List Int} (h : Good x1) (k : Nat) : ∀ n, n ≤ 255 → lad (fv x1) k (255 - n) (ladL x1 k n).f = lad (fv x1) k 255 (ladL x1 k 0).f
  | 0, _ => rfl
  | n + 1, hn => by
    rw [← ladL_f h k n (by omega)]
    have e : 255 - n = (255 - (n + 1)) + 1 := by omega
    have e2 : 254 - n = 255 - (n + 1) := by omega
    rw [e]
    show lad (fv x1) k (255 - (n + 1)) (swapL (k.testBit (254 - n)) (coreL x1 (swapL (k.testBit (254 - n)) (ladL x1 k n)))).f = lad (fv x1) k (255 - (n + 1)) (swap (k.testBit (255 - (n + 1))) (core (fv x1) (swap (k.testBit (255 - (n + 1))) (ladL x1 k n).f)))
    rw [swapL_f, coreL_f h (swapL_ok (ladL_ok h k n) _), swapL_f, e2]
theorem zeroL_fv : fv (List.replicate 16 0) = 0 := by decide +kernel
theorem ladL_all {x1 : List Int} (h : Good x1) (k : Nat) : fv (mulL (ladL x1 k 255).x2 (invS (ladL x1 k 255).z2 255)) = mulF k (fv x1) := by
  have g := ladL_ok h k 255
  have e : (ladL x1 k 255).f = lad (fv x1) k 255 (ladL x1 k 0).f := ladL_f h k 255 (by omega)
  have e0 : (ladL x1 k 0).f = ⟨1, 0, fv x1, 1⟩ := by
    show (⟨fv oneL, fv (List.replicate 16 0), fv x1, fv oneL⟩ : L4) = _
    rw [oneL_fv, zeroL_fv]
  rw [e0] at e
  rw [gmul g.x2 (invS_good g.z2 255), invL_fv g.z2]
  unfold mulF
  rw [← e]
  rfl
/-- what the reference's Mult lays -/
theorem ladL_mult (k u : List By) (hu : u.length = 32) : keyF (fv (mulL (ladL (readL u) (le (clampB k)) 255).x2 (invS (ladL (readL u) (le (clampB k)) 255).z2 255))) = multB k u := by
  rw [ladL_all (readL_good u), readL_fv u hu]
  rfl
end Crv
end Go.Proofs.Ytmbabkigjckaaaa
