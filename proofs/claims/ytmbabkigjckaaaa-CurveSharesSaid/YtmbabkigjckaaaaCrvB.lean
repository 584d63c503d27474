/-
  Of no statement by itself: the numbers modulo 2^255 - 19: each but nought has an inverse, and one of two certain multiples of each has a root; no program stands here.
  Conditions: none but each lemma's own.
-/
import Derived.Test.YtmbabkigjckaaaaCrvA
namespace Go.Proofs.Ytmbabkigjckaaaa
namespace Crv
abbrev F := Fin P
def pw (x : F) : Nat → F
  | 0 => 1
  | n + 1 => pw x n * x
theorem pw_val (x : F) : ∀ n, (pw x n).val = x.val ^ n % P
  | 0 => rfl
  | n + 1 => by
    show (pw x n * x).val = _
    rw [Fin.val_mul, pw_val x n, Nat.pow_succ, Nat.mul_mod, Nat.mod_mod, ← Nat.mul_mod]
theorem pw_add (x : F) (m : Nat) : ∀ n, pw x (m + n) = pw x m * pw x n
  | 0 => by show pw x m = pw x m * 1; grobner
  | n + 1 => by
    show pw x (m + n) * x = pw x m * (pw x n * x)
    rw [pw_add x m n]; grobner
theorem pw_mul (x y : F) : ∀ n, pw (x * y) n = pw x n * pw y n
  | 0 => by show (1 : F) = 1 * 1; grobner
  | n + 1 => by
    show pw (x * y) n * (x * y) = pw x n * x * (pw y n * y)
    rw [pw_mul x y n]; grobner
theorem val_ne {x : F} (h : x ≠ 0) : ¬ P ∣ x.val := fun d => h (by
  apply Fin.ext
  have := Nat.eq_zero_of_dvd_of_lt d x.isLt
  rw [this]; rfl)
theorem fermatF {x : F} (h : x ≠ 0) : pw x (P - 1) = 1 := by
  apply Fin.ext
  rw [pw_val, fermat prim_P _ (val_ne h)]; rfl
def inv (x : F) : F := pw x (P - 2)
theorem mul_inv {x : F} (h : x ≠ 0) : x * inv x = 1 := by
  have := fermatF h
  have e : P - 1 = (P - 2) + 1 := by decide
  rw [e] at this
  have t : pw x (P - 2) * x = 1 := this
  show x * pw x (P - 2) = 1
  grobner
theorem inv_zero : inv 0 = 0 := by
  apply Fin.ext
  have e : P - 2 = (P - 3) + 1 := by decide
  show (pw 0 (P - 2)).val = 0
  rw [e]
  show (pw 0 (P - 3) * 0).val = 0
  have : pw 0 (P - 3) * 0 = (0 : F) := by grobner
  rw [this]; rfl
theorem mul_zero {x y : F} (h : x * y = 0) : x = 0 ∨ y = 0 := by
  by_cases hx : x = 0
  · exact Or.inl hx
  · have := mul_inv hx
    exact Or.inr (by grobner)
theorem mul_ne {x y : F} (hx : x ≠ 0) (hy : y ≠ 0) : x * y ≠ 0 := fun h => by
  cases mul_zero h with
  | inl h => exact hx h
  | inr h => exact hy h
theorem cancel {c x y : F} (h : c ≠ 0) (e : c * x = c * y) : x = y := by
  have := mul_inv h
  grobner
theorem sq_zero {x : F} (h : x * x = 0) : x = 0 := (mul_zero h).elim id id
theorem two_ne : (2 : F) ≠ 0 := by decide
/-- half of what comes before p -/
def chi (x : F) : F := pw x 28948022309329048855892746252171976963317496166410141009864396001978282409974
theorem chi_sq {x : F} (h : x ≠ 0) : chi x * chi x = 1 := by
  unfold chi
  rw [← pw_add, ← fermatF h]
  exact congrArg (pw x) (by decide)
theorem chi_one {x : F} (h : x ≠ 0) : chi x = 1 ∨ chi x = -1 := by
  have := chi_sq h
  have e : (chi x - 1) * (chi x + 1) = 0 := by grobner
  cases mul_zero e with
  | inl h => exact Or.inl (by grobner)
  | inr h => exact Or.inr (by grobner)
theorem chi_mul (x y : F) : chi (x * y) = chi x * chi y := pw_mul x y _
/-- its square is -1 -/
def im : F := 19681161376707505956807079304988542015446066515923890162744021073123829784752
theorem im_sq : im * im = -1 := by decide +kernel
theorem root {x : F} (hc : chi x = 1) : ∃ s, x = s * s := by
  let q := pw x 14474011154664524427946373126085988481658748083205070504932198000989141204987
  let s := pw x 7237005577332262213973186563042994240829374041602535252466099000494570602494
  have e1 : q * q = 1 := by
    rw [← hc]; show pw x _ * pw x _ = pw x _
    rw [← pw_add]
  have e2 : s * s = q * x := by
    show pw x _ * pw x _ = pw x (14474011154664524427946373126085988481658748083205070504932198000989141204987 + 1)
    rw [← pw_add]
  have e3 : (q - 1) * (q + 1) = 0 := by grobner
  cases mul_zero e3 with
  | inl h => exact ⟨s, by grobner⟩
  | inr h =>
    have := im_sq
    exact ⟨im * s, by grobner⟩
/-- the curve's number -/
def ca : F := 486662
theorem pw_pm (x : F) {e f v : Nat} (he : e < 2 ^ f) (h : pm P f x.val e 1 % P = v) : (pw x e).val = v := by
  rw [pw_val]; exact pm_is he h
theorem chi_ca : chi (ca * ca - 4) = -1 := by
  apply Fin.ext
  exact pw_pm (f := 255) _ (by decide) (by decide +kernel)
/-- of what is left of the curve's square less 4, no root is there -/
theorem no_root (t : F) : t * t ≠ ca * ca - 4 := fun h => by
  have h0 : t ≠ 0 := fun e => by
    rw [e] at h
    revert h
    decide +kernel
  have e := chi_sq h0
  rw [← chi_mul, h, chi_ca] at e
  revert e
  decide +kernel
theorem one_has {w : F} (hw : w ≠ 0) : (∃ s, (ca + 2) * w = s * s) ∨ (∃ s, (ca - 2) * w = s * s) := by
  have n1 : (ca + 2) * w ≠ 0 := mul_ne (by decide +kernel) hw
  have n2 : (ca - 2) * w ≠ 0 := mul_ne (by decide +kernel) hw
  have e : chi ((ca + 2) * w) * chi ((ca - 2) * w) = -1 := by
    have e1 := chi_sq hw
    have e2 := chi_ca
    have e3 : (ca + 2) * (ca - 2) = ca * ca - 4 := by grobner
    rw [← e3, chi_mul] at e2
    rw [chi_mul, chi_mul]
    grobner
  cases chi_one n1 with
  | inl h => exact Or.inl (root h)
  | inr h =>
    refine Or.inr (root ?_)
    rw [h] at e
    grobner
end Crv
end Go.Proofs.Ytmbabkigjckaaaa
