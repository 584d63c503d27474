/-
  Of no statement by itself: whole numbers as sixteen limbs of sixteen bits: what a carry does to their sum and to their bounds; no program stands here.
  Conditions: none but each lemma's own.
-/
import Derived.Test.YtmbabkigjckaaaaCrvG
namespace Go.Proofs.Ytmbabkigjckaaaa
namespace Crv
/-- the sum of limbs -/
def val : List Int → Int
  | [] => 0
  | a :: l => a + 65536 * val l
def nth (l : List Int) (i : Nat) : Int := l.getD i 0
theorem nth_set (l : List Int) (i j : Nat) (x : Int) (h : i < l.length) : nth (l.set i x) j = if i = j then x else nth l j := by
  unfold nth
  simp only [List.getD_eq_getElem?_getD, List.getElem?_set]
  by_cases e : i = j
  · subst e
    simp [h]
  · simp [e]
theorem val_set : ∀ (l : List Int) (i : Nat) (x : Int), i < l.length → val (l.set i x) = val l + (x - nth l i) * 65536 ^ i
  | [], i, x, h => absurd h (by simp)
  | a :: l, 0, x, _ => by
    show x + 65536 * val l = a + 65536 * val l + (x - a) * 65536 ^ 0
    rw [Int.pow_zero]; omega
  | a :: l, i + 1, x, h => by
    have ih := val_set l i x (by simpa using h)
    show a + 65536 * val (l.set i x) = a + 65536 * val l + (x - nth l i) * 65536 ^ (i + 1)
    rw [ih, Int.pow_succ, Int.mul_add, Int.mul_comm (65536 ^ i) 65536, Int.mul_left_comm, Int.add_assoc]
/-- one step of the carry -/
def cstep (l : List Int) (i : Nat) : List Int :=
  let q := nth l i / 65536
  let m := l.set i (nth l i - q * 65536)
  if i < 15 then m.set (i + 1) (nth m (i + 1) + q) else m.set 0 (nth m 0 + 38 * q)
def cit (l : List Int) : Nat → List Int
  | 0 => l
  | i + 1 => cstep (cit l i) i
def car (l : List Int) : List Int := cit l 16
theorem cstep_len (l : List Int) (i : Nat) : (cstep l i).length = l.length := by
  unfold cstep
  simp only
  split <;> simp
theorem cit_len (l : List Int) : ∀ i, (cit l i).length = l.length
  | 0 => rfl
  | i + 1 => by show (cstep (cit l i) i).length = _; rw [cstep_len, cit_len l i]
theorem val_cstep {l : List Int} (hl : l.length = 16) {i : Nat} (h : i < 15) : val (cstep l i) = val l := by
  unfold cstep
  simp only [h, if_true]
  rw [val_set _ _ _ (by simp [hl]; omega), val_set _ _ _ (by omega), Int.pow_succ]
  have e : nth (l.set i (nth l i - nth l i / 65536 * 65536)) (i + 1) + nth l i / 65536 - nth (l.set i (nth l i - nth l i / 65536 * 65536)) (i + 1) = nth l i / 65536 := by omega
  have e2 : nth l i - nth l i / 65536 * 65536 - nth l i = -(nth l i / 65536 * 65536) := by omega
  rw [e, e2]
  generalize nth l i / 65536 = q
  rw [Int.neg_mul, Int.mul_assoc q, Int.mul_comm 65536 (65536 ^ i)]
  omega
theorem val_cstep15 {l : List Int} (hl : l.length = 16) : ∃ q, val (cstep l 15) = val l - q * (2 * P) := by
  refine ⟨nth l 15 / 65536, ?_⟩
  unfold cstep
  simp only [show ¬ (15 : Nat) < 15 by decide, if_false]
  rw [val_set _ _ _ (by simp [hl]), val_set _ _ _ (by omega)]
  have e2 : nth l 15 - nth l 15 / 65536 * 65536 - nth l 15 = -(nth l 15 / 65536 * 65536) := by omega
  rw [e2]
  generalize nth l 15 / 65536 = q
  generalize nth (l.set 15 (nth l 15 - q * 65536)) 0 = z
  have e3 : (65536 : Int) ^ 15 = 1766847064778384329583297500742918515827483896875618958121606201292619776 := by decide
  have e4 : (2 * (P : Int)) = 115792089237316195423570985008687907853269984665640564039457584007913129639898 := by decide
  rw [e3, e4, Int.pow_zero]
  omega
theorem val_cit {l : List Int} (hl : l.length = 16) : ∀ i, i ≤ 15 → val (cit l i) = val l
  | 0, _ => rfl
  | i + 1, h => by
    show val (cstep (cit l i) i) = val l
    rw [val_cstep (by rw [cit_len, hl]) (by omega), val_cit hl i (by omega)]
theorem val_car {l : List Int} (hl : l.length = 16) : ∃ q, val (car l) = val l - q * (2 * P) := by
  obtain ⟨q, e⟩ := val_cstep15 (l := cit l 15) (by rw [cit_len, hl])
  exact ⟨q, by show val (cstep (cit l 15) 15) = _; rw [e, val_cit hl 15 (by omega)]⟩
/-- what a carry of these bounds may be -/
def cmin (lo : List Int) : Nat → Int
  | 0 => 0
  | i + 1 => (nth lo i + cmin lo i) / 65536
/-- the limbs lie between these -/
def Btw (lo hi l : List Int) : Prop := ∀ j, j < 16 → nth lo j ≤ nth l j ∧ nth l j ≤ nth hi j
/-- where the carry stands at limb i -/
structure Cst (lo hi : List Int) (i : Nat) (l : List Int) : Prop where
  len : l.length = 16
  done : ∀ j, j < i → 0 ≤ nth l j ∧ nth l j ≤ 65535
  here : nth lo i + cmin lo i ≤ nth l i ∧ nth l i ≤ nth hi i + cmin hi i
  rest : ∀ j, i < j → j < 16 → nth lo j ≤ nth l j ∧ nth l j ≤ nth hi j
theorem Cst.step {lo hi l : List Int} {i : Nat} (h : i < 15) (c : Cst lo hi i l) : Cst lo hi (i + 1) (cstep l i) := by
  obtain ⟨len, done, here, rest⟩ := c
  unfold cstep
  simp only [h, if_true]
  have l1 : (l.set i (nth l i - nth l i / 65536 * 65536)).length = 16 := by simp [len]
  refine ⟨by simp [len], fun j hj => ?_, ?_, fun j hj hj2 => ?_⟩
  · rw [nth_set _ _ _ _ (by omega), if_neg (by omega), nth_set _ _ _ _ (by omega)]
    split
    next e => omega
    next e => exact done j (by omega)
  · rw [nth_set _ _ _ _ (by omega), if_pos rfl, nth_set _ _ _ _ (by omega), if_neg (by omega)]
    have r := rest (i + 1) (by omega) (by omega)
    have e1 : cmin lo (i + 1) = (nth lo i + cmin lo i) / 65536 := rfl
    have e2 : cmin hi (i + 1) = (nth hi i + cmin hi i) / 65536 := rfl
    rw [e1, e2]
    omega
  · rw [nth_set _ _ _ _ (by omega), if_neg (by omega), nth_set _ _ _ _ (by omega), if_neg (by omega)]
    exact rest j (by omega) hj2
theorem Cst.all {lo hi l : List Int} (hl : l.length = 16) (b : Btw lo hi l) : ∀ i, i ≤ 15 → Cst lo hi i (cit l i)
  | 0, _ => ⟨hl, fun j h => absurd h (by omega), by have := b 0 (by omega); show nth lo 0 + 0 ≤ nth l 0 ∧ nth l 0 ≤ nth hi 0 + 0; omega, fun j _ h => b j h⟩
  | i + 1, h => (Cst.all hl b i (by omega)).step (by omega)
/-- after it: small, but the first -/
structure Small (l0 h0 : Int) (l : List Int) : Prop where
  len : l.length = 16
  first : l0 ≤ nth l 0 ∧ nth l 0 ≤ h0
  rest : ∀ j, 0 < j → j < 16 → 0 ≤ nth l j ∧ nth l j ≤ 65535
theorem Cst.last {lo hi l : List Int} (c : Cst lo hi 15 l) : Small (38 * cmin lo 16) (65535 + 38 * cmin hi 16) (cstep l 15) := by
  obtain ⟨len, done, here, rest⟩ := c
  unfold cstep
  simp only [show ¬ (15 : Nat) < 15 by decide, if_false]
  have l1 : (l.set 15 (nth l 15 - nth l 15 / 65536 * 65536)).length = 16 := by simp [len]
  have d0 := done 0 (by omega)
  have e1 : cmin lo 16 = (nth lo 15 + cmin lo 15) / 65536 := rfl
  have e2 : cmin hi 16 = (nth hi 15 + cmin hi 15) / 65536 := rfl
  refine ⟨by simp [len], ?_, fun j hj hj2 => ?_⟩
  · rw [nth_set _ _ _ _ (by omega), if_pos rfl, nth_set _ _ _ _ (by omega), if_neg (by omega), e1, e2]
    omega
  · rw [nth_set _ _ _ _ (by omega), if_neg (by omega), nth_set _ _ _ _ (by omega)]
    split
    next e => omega
    next e => exact done j (by omega)
theorem car_small {lo hi l : List Int} (hl : l.length = 16) (b : Btw lo hi l) : Small (38 * cmin lo 16) (65535 + 38 * cmin hi 16) (car l) :=
  (Cst.all hl b 15 (by omega)).last
theorem Small.weak {a b c d : Int} {l : List Int} (h : Small a b l) (h1 : c ≤ a) (h2 : b ≤ d) : Small c d l :=
  ⟨h.len, by have := h.first; omega, h.rest⟩
def los (a b : Int) : List Int := a :: List.replicate 15 b
theorem los_nth (a b : Int) (j : Nat) (h : j < 16) : nth (los a b) j = if j = 0 then a else b := by
  cases j with
  | zero => rfl
  | succ j =>
    unfold nth los
    rw [List.getD_cons_succ, List.getD_eq_getElem?_getD, List.getElem?_replicate, if_pos (by omega), if_neg (by omega)]
    rfl
theorem Small.btw {a b : Int} {l : List Int} (h : Small a b l) : Btw (los a 0) (los b 65535) l := fun j hj => by
  rw [los_nth _ _ _ hj, los_nth _ _ _ hj]
  by_cases e : j = 0
  · subst e; simpa using h.first
  · simpa [e] using h.rest j (by omega) hj
end Crv
end Go.Proofs.Ytmbabkigjckaaaa
