/-
  Of no statement by itself: the texts CrvH, CurA, CrvJ, CurB, CurC, CrvK, CurD, CrvW, CurE, CrvM, CurF, CrvU, CrvV, CrvX, CrvY, CrvZ, CuvA, CuvB in one.
  Conditions: each theorem's own.
-/
import Derived.Test.YtbhlcnimjoppeaaDoorFc
import Derived.Test.YtbhlcnimjoppeaaDoorProg
import Derived.KernelRfl
set_option linter.unusedSimpArgs false
set_option linter.unusedVariables false
/-
  Of no statement by itself: whole numbers as sixteen limbs of sixteen bits: what a carry does to their sum and to their bounds; no program stands here.
  Conditions: none but each lemma's own.
-/
namespace Go.Proofs.YtbhlcnimjoppeaaDoor
namespace Crv
/-- the sum of limbs -/
def val : List Int → Int
  | [] => 0
  | a :: l => a + 65536 * val l
def nth (l : List Int) (i : Nat) : Int := l.getD i 0
theorem nth_set (l : List Int) (i j : Nat) (x : Int) (h : i < l.length) : nth (l.set i x) j = if i = j then x else nth l j := by
  unfold nth
  simp only [List.getD_eq_getElem?_getD, List.getElem?_set]
  by_cases e : i = j
  · subst e
    simp [h]
  · simp [e]
theorem val_set : ∀ (l : List Int) (i : Nat) (x : Int), i < l.length → val (l.set i x) = val l + (x - nth l i) * 65536 ^ i
  | [], i, x, h => absurd h (by simp)
  | a :: l, 0, x, _ => by
    show x + 65536 * val l = a + 65536 * val l + (x - a) * 65536 ^ 0
    rw [Int.pow_zero]; omega
  | a :: l, i + 1, x, h => by
    have ih := val_set l i x (by simpa using h)
    show a + 65536 * val (l.set i x) = a + 65536 * val l + (x - nth l i) * 65536 ^ (i + 1)
    rw [ih, Int.pow_succ, Int.mul_add, Int.mul_comm (65536 ^ i) 65536, Int.mul_left_comm, Int.add_assoc]
/-- one step of the carry -/
def cstep (l : List Int) (i : Nat) : List Int :=
  let q := nth l i / 65536
  let m := l.set i (nth l i - q * 65536)
  if i < 15 then m.set (i + 1) (nth m (i + 1) + q) else m.set 0 (nth m 0 + 38 * q)
def cit (l : List Int) : Nat → List Int
  | 0 => l
  | i + 1 => cstep (cit l i) i
def car (l : List Int) : List Int := cit l 16
theorem cstep_len (l : List Int) (i : Nat) : (cstep l i).length = l.length := by
  unfold cstep
  simp only
  split <;> simp
theorem cit_len (l : List Int) : ∀ i, (cit l i).length = l.length
  | 0 => rfl
  | i + 1 => by show (cstep (cit l i) i).length = _; rw [cstep_len, cit_len l i]
theorem val_cstep {l : List Int} (hl : l.length = 16) {i : Nat} (h : i < 15) : val (cstep l i) = val l := by
  unfold cstep
  simp only [h, if_true]
  rw [val_set _ _ _ (by simp [hl]; omega), val_set _ _ _ (by omega), Int.pow_succ]
  have e : nth (l.set i (nth l i - nth l i / 65536 * 65536)) (i + 1) + nth l i / 65536 - nth (l.set i (nth l i - nth l i / 65536 * 65536)) (i + 1) = nth l i / 65536 := by omega
  have e2 : nth l i - nth l i / 65536 * 65536 - nth l i = -(nth l i / 65536 * 65536) := by omega
  rw [e, e2]
  generalize nth l i / 65536 = q
  rw [Int.neg_mul, Int.mul_assoc q, Int.mul_comm 65536 (65536 ^ i)]
  omega
theorem val_cstep15 {l : List Int} (hl : l.length = 16) : ∃ q, val (cstep l 15) = val l - q * (2 * P) := by
  refine ⟨nth l 15 / 65536, ?_⟩
  unfold cstep
  simp only [show ¬ (15 : Nat) < 15 by decide, if_false]
  rw [val_set _ _ _ (by simp [hl]), val_set _ _ _ (by omega)]
  have e2 : nth l 15 - nth l 15 / 65536 * 65536 - nth l 15 = -(nth l 15 / 65536 * 65536) := by omega
  rw [e2]
  generalize nth l 15 / 65536 = q
  generalize nth (l.set 15 (nth l 15 - q * 65536)) 0 = z
  have e3 : (65536 : Int) ^ 15 = 1766847064778384329583297500742918515827483896875618958121606201292619776 := by decide
  have e4 : (2 * (P : Int)) = 115792089237316195423570985008687907853269984665640564039457584007913129639898 := by decide
  rw [e3, e4, Int.pow_zero]
  omega
theorem val_cit {l : List Int} (hl : l.length = 16) : ∀ i, i ≤ 15 → val (cit l i) = val l
  | 0, _ => rfl
  | i + 1, h => by
    show val (cstep (cit l i) i) = val l
    rw [val_cstep (by rw [cit_len, hl]) (by omega), val_cit hl i (by omega)]
theorem val_car {l : List Int} (hl : l.length = 16) : ∃ q, val (car l) = val l - q * (2 * P) := by
  obtain ⟨q, e⟩ := val_cstep15 (l := cit l 15) (by rw [cit_len, hl])
  exact ⟨q, by show val (cstep (cit l 15) 15) = _; rw [e, val_cit hl 15 (by omega)]⟩
/-- what a carry of these bounds may be -/
def cmin (lo : List Int) : Nat → Int
  | 0 => 0
  | i + 1 => (nth lo i + cmin lo i) / 65536
/-- the limbs lie between these -/
def Btw (lo hi l : List Int) : Prop := ∀ j, j < 16 → nth lo j ≤ nth l j ∧ nth l j ≤ nth hi j
/-- where the carry stands at limb i -/
structure Cst (lo hi : List Int) (i : Nat) (l : List Int) : Prop where
  len : l.length = 16
  done : ∀ j, j < i → 0 ≤ nth l j ∧ nth l j ≤ 65535
  here : nth lo i + cmin lo i ≤ nth l i ∧ nth l i ≤ nth hi i + cmin hi i
  rest : ∀ j, i < j → j < 16 → nth lo j ≤ nth l j ∧ nth l j ≤ nth hi j
theorem Cst.step {lo hi l : List Int} {i : Nat} (h : i < 15) (c : Cst lo hi i l) : Cst lo hi (i + 1) (cstep l i) := by
  obtain ⟨len, done, here, rest⟩ := c
  unfold cstep
  simp only [h, if_true]
  have l1 : (l.set i (nth l i - nth l i / 65536 * 65536)).length = 16 := by simp [len]
  refine ⟨by simp [len], fun j hj => ?_, ?_, fun j hj hj2 => ?_⟩
  · rw [nth_set _ _ _ _ (by omega), if_neg (by omega), nth_set _ _ _ _ (by omega)]
    split
    next e => omega
    next e => exact done j (by omega)
  · rw [nth_set _ _ _ _ (by omega), if_pos rfl, nth_set _ _ _ _ (by omega), if_neg (by omega)]
    have r := rest (i + 1) (by omega) (by omega)
    have e1 : cmin lo (i + 1) = (nth lo i + cmin lo i) / 65536 := rfl
    have e2 : cmin hi (i + 1) = (nth hi i + cmin hi i) / 65536 := rfl
    rw [e1, e2]
    omega
  · rw [nth_set _ _ _ _ (by omega), if_neg (by omega), nth_set _ _ _ _ (by omega), if_neg (by omega)]
    exact rest j (by omega) hj2
theorem Cst.all {lo hi l : List Int} (hl : l.length = 16) (b : Btw lo hi l) : ∀ i, i ≤ 15 → Cst lo hi i (cit l i)
  | 0, _ => ⟨hl, fun j h => absurd h (by omega), by have := b 0 (by omega); show nth lo 0 + 0 ≤ nth l 0 ∧ nth l 0 ≤ nth hi 0 + 0; omega, fun j _ h => b j h⟩
  | i + 1, h => (Cst.all hl b i (by omega)).step (by omega)
/-- after it: small, but the first -/
structure Small (l0 h0 : Int) (l : List Int) : Prop where
  len : l.length = 16
  first : l0 ≤ nth l 0 ∧ nth l 0 ≤ h0
  rest : ∀ j, 0 < j → j < 16 → 0 ≤ nth l j ∧ nth l j ≤ 65535
theorem Cst.last {lo hi l : List Int} (c : Cst lo hi 15 l) : Small (38 * cmin lo 16) (65535 + 38 * cmin hi 16) (cstep l 15) := by
  obtain ⟨len, done, here, rest⟩ := c
  unfold cstep
  simp only [show ¬ (15 : Nat) < 15 by decide, if_false]
  have l1 : (l.set 15 (nth l 15 - nth l 15 / 65536 * 65536)).length = 16 := by simp [len]
  have d0 := done 0 (by omega)
  have e1 : cmin lo 16 = (nth lo 15 + cmin lo 15) / 65536 := rfl
  have e2 : cmin hi 16 = (nth hi 15 + cmin hi 15) / 65536 := rfl
  refine ⟨by simp [len], ?_, fun j hj hj2 => ?_⟩
  · rw [nth_set _ _ _ _ (by omega), if_pos rfl, nth_set _ _ _ _ (by omega), if_neg (by omega), e1, e2]
    omega
  · rw [nth_set _ _ _ _ (by omega), if_neg (by omega), nth_set _ _ _ _ (by omega)]
    split
    next e => omega
    next e => exact done j (by omega)
theorem car_small {lo hi l : List Int} (hl : l.length = 16) (b : Btw lo hi l) : Small (38 * cmin lo 16) (65535 + 38 * cmin hi 16) (car l) :=
  (Cst.all hl b 15 (by omega)).last
theorem Small.weak {a b c d : Int} {l : List Int} (h : Small a b l) (h1 : c ≤ a) (h2 : b ≤ d) : Small c d l :=
  ⟨h.len, by have := h.first; omega, h.rest⟩
def los (a b : Int) : List Int := a :: List.replicate 15 b
theorem los_nth (a b : Int) (j : Nat) (h : j < 16) : nth (los a b) j = if j = 0 then a else b := by
  cases j with
  | zero => rfl
  | succ j =>
    unfold nth los
    rw [List.getD_cons_succ, List.getD_eq_getElem?_getD, List.getElem?_replicate, if_pos (by omega), if_neg (by omega)]
    rfl
theorem Small.btw {a b : Int} {l : List Int} (h : Small a b l) : Btw (los a 0) (los b 65535) l := fun j hj => by
  rw [los_nth _ _ _ hj, los_nth _ _ _ hj]
  by_cases e : j = 0
  · subst e; simpa using h.first
  · simpa [e] using h.rest j (by omega) hj
end Crv
end Go.Proofs.YtbhlcnimjoppeaaDoor

/-
  Of no statement by itself: what the reference's carry gives.
  Conditions: each theorem's own.
-/
namespace Go.Proofs.YtbhlcnimjoppeaaDoor
set_option maxRecDepth 10000
open Sl Crv

theorem mixC : Tryd.prog.follows .mixedOrders = true := by kernel_rfl
theorem i1s : szT Tryd.prog 2 = some 1 := by kernel_rfl
theorem i1c : scal Tryd.prog 2 = true := by kernel_rfl
theorem n16s : szT Tryd.prog 90 = some 16 := by kernel_rfl
theorem n16a : aggT Tryd.prog 90 = true := by kernel_rfl
theorem n16z : zc Tryd.prog 90 = some ((List.replicate 16 (0 : Int)).map I) := by kernel_rfl
theorem goes_carry : Goes Tryd.prog 84 := ⟨_, Tryd.func84, rfl, by kernel_rfl⟩
theorem I_nth {l : List Int} {i : Nat} (h : i < l.length) : (l.map I)[i]? = some (I (nth l i)) := by
  simp [nth, h]
theorem I_set (l : List Int) (i : Nat) (x : Int) : (l.map I).set i (I x) = (l.set i x).map I := by rw [List.map_set]
/-- so small that a carry stays in 64 bits -/
def Fit (l : List Int) : Prop := ∀ j, j < 16 → -288230376151711744 ≤ nth l j ∧ nth l j ≤ 288230376151711744
def wlo : List Int := List.replicate 16 (-288230376151711744)
def whi : List Int := List.replicate 16 288230376151711744
theorem rep_nth (x : Int) (j : Nat) (h : j < 16) : nth (List.replicate 16 x) j = x := by
  unfold nth
  rw [List.getD_eq_getElem?_getD, List.getElem?_replicate, if_pos h]; rfl
theorem Fit.btw {l : List Int} (h : Fit l) : Btw wlo whi l := fun j hj => by
  rw [wlo, whi, rep_nth _ _ hj, rep_nth _ _ hj]; exact h j hj
theorem wlo_min : ∀ i, i ≤ 16 → -8796093022208 ≤ cmin wlo i ∧ cmin wlo i ≤ 0
  | 0, _ => by decide
  | i + 1, h => by
    have ih := wlo_min i (by omega)
    have e : cmin wlo (i + 1) = (nth wlo i + cmin wlo i) / 65536 := rfl
    rw [e, wlo, rep_nth _ _ (by omega), ← wlo]
    omega
theorem whi_min : ∀ i, i ≤ 16 → 0 ≤ cmin whi i ∧ cmin whi i ≤ 8796093022208
  | 0, _ => by decide
  | i + 1, h => by
    have ih := whi_min i (by omega)
    have e : cmin whi (i + 1) = (nth whi i + cmin whi i) / 65536 := rfl
    rw [e, whi, rep_nth _ _ (by omega), ← whi]
    omega
theorem Fit.here {l : List Int} (hl : l.length = 16) (h : Fit l) {i : Nat} (hi : i < 16) : -297237575406452736 ≤ nth (cit l i) i ∧ nth (cit l i) i ≤ 297237575406452736 := by
  have c := (Cst.all hl h.btw i (by omega)).here
  have a := wlo_min i (by omega)
  have b := whi_min i (by omega)
  rw [wlo, whi, rep_nth _ _ hi, rep_nth _ _ hi, ← wlo, ← whi] at c
  omega
theorem Fit.next {l : List Int} (hl : l.length = 16) (h : Fit l) {i : Nat} (hi : i < 15) : -288230376151711744 ≤ nth (cit l i) (i + 1) ∧ nth (cit l i) (i + 1) ≤ 288230376151711744 := by
  have c := (Cst.all hl h.btw i (by omega)).rest (i + 1) (by omega) (by omega)
  rw [wlo, whi, rep_nth _ _ (by omega), rep_nth _ _ (by omega)] at c
  exact c
theorem Fit.zero {l : List Int} (hl : l.length = 16) (h : Fit l) : 0 ≤ nth (cit l 15) 0 ∧ nth (cit l 15) 0 ≤ 65535 := (Cst.all hl h.btw 15 (by omega)).done 0 (by omega)
theorem cit_next {l : List Int} {i : Nat} (h : i < 15) : ((cit l i).set i (nth (cit l i) i - nth (cit l i) i / 65536 * 65536)).set (i + 1) (nth ((cit l i).set i (nth (cit l i) i - nth (cit l i) i / 65536 * 65536)) (i + 1) + nth (cit l i) i / 65536) = cit l (i + 1) := by
  show _ = cstep (cit l i) i
  unfold cstep
  simp only [h, if_true]
theorem cit_last {l : List Int} : ((cit l 15).set 15 (nth (cit l 15) 15 - nth (cit l 15) 15 / 65536 * 65536)).set 0 (nth ((cit l 15).set 15 (nth (cit l 15) 15 - nth (cit l 15) 15 / 65536 * 65536)) 0 + 38 * (nth (cit l 15) 15 / 65536)) = cit l 16 := by
  show _ = cstep (cit l 15) 15
  unfold cstep
  simp only [show ¬ (15 : Nat) < 15 by decide, if_false]

set_option maxHeartbeats 8000000 in
theorem carry_any (l : List Int) (hl : l.length = 16) (hf : Fit l) (w : World) : Calls Tryd.prog 84 [.agg (l.map I).toArray].toArray w fun e w' => e = .returned (.agg ((car l).map I).toArray) ∧ Ext w w' := by
  refine enter (n := 36) Tryd.func84 rfl rfl rfl (Holds.start w []) ?_
  repeat (first | refine JC.seq ?_ | refine JC.region ?_)
  refine JL.box (r := l.map I) rfl rfl rfl fun b1 _ => ?_
  refine JL.alloc n16z rfl fun b2 _ => ?_
  repeat (first | refine JL.q (by (apply OQ.assign; exact rfl)) rfl ?_ | refine JC.seq ?_ | refine JC.region ?_ | refine JC.block ?_ | refine JL.nil ?_ | refine JE.next ?_)
  refine JC.loop (fun i : Nat => [(1, Pt b1 0), (2, Pt b2 0), (3, N i)])
    (fun i => [⟨b2, Row 90 ((List.replicate 16 (0 : Int)).map I), true⟩, ⟨b1, Row 90 ((cit l i).map I), true⟩])
    (fun i => 16 - i) (fun i => i ≤ 16) 0 (by omega) (by repeat (first | exact SubE.nil | refine SubE.cons _ _ _ rfl ?_)) (Less.refl _) ?_
  intro i hi
  have len := cit_len l i
  rw [hl] at len
  repeat (first | refine JL.q (by first | (apply OQ.move; exact rfl) | (apply OQ.lssN; exact rfl; exact rfl)) rfl ?_ | refine JC.seq ?_ | refine JC.region ?_ | refine JL.nil ?_ | refine JE.next ?_)
  refine JC.cond rfl (fun h => ?_) (fun h => ?_)
  · have hi' : i < 16 := of_decide_eq_true h
    clear h hi
    have hh := hf.here hl hi'
    have hc := I_nth (l := cit l i) (i := i) (by omega)
    repeat (first | refine JL.q (by first | (apply OQ.idxA0; exact Tryd.underlying90; exact i1s; exact rfl; exact rfl; exact (by (try simp only []); omega)) | (apply OQ.load; exact i1c; exact rfl; exact (.there .here); exact (Row.cell hc)) | (apply OQ.shrI (m := 65536) (k := 16); exact (by decide); exact (by decide); exact rfl; exact rfl) | (apply OQ.shlI (m := 65536) (k := 16); exact (by decide); exact (by decide); exact rfl; exact rfl; exact (by omega); exact (by omega)) | (apply OQ.subI; exact rfl; exact rfl; exact (by omega); exact (by omega)) | (apply OQ.move; exact rfl) | (apply OQ.assign; exact rfl)) rfl ?_ | refine JC.seq ?_ | refine JC.region ?_ | refine JC.block ?_ | refine JC.skip ?_ | refine JL.nil ?_ | refine JE.next ?_)
    refine JL.store_eq (r' := ((cit l i).set i (nth (cit l i) i - nth (cit l i) i / 65536 * 65536)).map I) i1s rfl rfl rfl rfl (.there .here) (by rw [List.length_map]; omega) (I_set _ _ _) ?_
    repeat (first | refine JL.q (by first | (apply OQ.move; exact rfl) | (apply OQ.lssN; exact rfl; exact rfl)) rfl ?_ | refine JC.seq ?_ | refine JC.region ?_ | refine JL.nil ?_ | refine JE.next ?_)
    refine JC.cond rfl (fun h => ?_) (fun h => ?_)
    · have h15 : i < 15 := of_decide_eq_true h
      clear h
      have hn := hf.next hl h15
      have hm : nth ((cit l i).set i (nth (cit l i) i - nth (cit l i) i / 65536 * 65536)) (i + 1) = nth (cit l i) (i + 1) := by rw [nth_set _ _ _ _ (by omega), if_neg (by omega)]
      have hd := I_nth (l := (cit l i).set i (nth (cit l i) i - nth (cit l i) i / 65536 * 65536)) (i := i + 1) (by rw [List.length_set]; omega)
      repeat (first | refine JL.q (by first | (apply OQ.idxA0; exact Tryd.underlying90; exact i1s; exact rfl; exact rfl; exact (by (try simp only []); omega)) | (apply OQ.load; exact i1c; exact rfl; exact (.there .here); exact (Row.cell hd)) | (apply OQ.addI; exact rfl; exact rfl; exact (by omega); exact (by omega)) | (apply OQ.move; exact rfl)) rfl ?_ | refine JC.region ?_)
      refine JL.store_eq (r' := (cit l (i + 1)).map I) i1s rfl rfl rfl rfl (.there .here) (by rw [List.length_map, List.length_set, len]; (try simp only []); omega) (by rw [I_set, cit_next h15]) ?_
      repeat (first | refine JL.q (by first | (apply OQ.move; exact rfl) | (apply OQ.assign; exact rfl) | (apply OQ.addN; exact rfl; exact rfl; exact (by (try simp only []); omega))) rfl ?_ | refine JC.region ?_ | refine JL.nil ?_ | refine JE.next ?_ | refine JE.blk_normal ?_)
      exact JE.again (i := i) (i + 1) (by omega) (by omega) (by repeat (first | exact SubE.nil | refine SubE.cons _ _ _ rfl ?_)) (Less.refl _)
    · have h15 : ¬ i < 15 := of_decide_eq_false h
      obtain rfl : i = 15 := by omega
      clear h
      have hn := hf.zero hl
      have hm : nth ((cit l 15).set 15 (nth (cit l 15) 15 - nth (cit l 15) 15 / 65536 * 65536)) 0 = nth (cit l 15) 0 := by rw [nth_set _ _ _ _ (by omega), if_neg (by omega)]
      have hd := I_nth (l := (cit l 15).set 15 (nth (cit l 15) 15 - nth (cit l 15) 15 / 65536 * 65536)) (i := 0) (by rw [List.length_set]; omega)
      repeat (first | refine JL.q (by first | (apply OQ.idxA0; exact Tryd.underlying90; exact i1s; exact rfl; exact rfl; exact (by decide)) | (apply OQ.load; exact i1c; exact rfl; exact (.there .here); exact (Row.cell hd)) | (apply OQ.mulI (a := 38); exact rfl; exact rfl; exact (by omega); exact (by omega)) | (apply OQ.addI; exact rfl; exact rfl; exact (by omega); exact (by omega)) | (apply OQ.move; exact rfl)) rfl ?_ | refine JC.region ?_)
      refine JL.store_eq (r' := (cit l 16).map I) i1s rfl rfl rfl rfl (.there .here) (by rw [List.length_map, List.length_set, len]; (try simp only []); omega) (by rw [I_set, cit_last]) ?_
      repeat (first | refine JL.q (by first | (apply OQ.move; exact rfl) | (apply OQ.assign; exact rfl) | (apply OQ.addN; exact rfl; exact rfl; exact (by (try simp only []); omega))) rfl ?_ | refine JC.region ?_ | refine JL.nil ?_ | refine JE.next ?_ | refine JE.blk_normal ?_)
      exact JE.again (i := 15) 16 (by omega) (by omega) (by repeat (first | exact SubE.nil | refine SubE.cons _ _ _ rfl ?_)) (Less.refl _)
  · have hi' : ¬ i < 16 := of_decide_eq_false h
    obtain rfl : i = 16 := by omega
    clear h hi hi'
    have hl' : ((cit l 16).map I).length = 16 := by rw [List.length_map]; exact len
    repeat (first | refine JL.q (by (apply OQ.load_agg (cs := (cit l 16).map I); exact n16a; exact n16s; exact rfl; exact (.there .here); exact hl'; exact Row.all)) rfl ?_ | refine JC.seq ?_ | refine JC.region ?_ | refine JC.exit ?_ | refine JE.next ?_ | refine JE.then_exit ?_ | refine JE.blk_hit ?_)
    refine JL.store_all n16s rfl rfl hl' (I_cell _) .here (by simp) ?_
    repeat (first | refine JL.nil ?_ | refine JE.next ?_)
    refine JC.ret (JE.ret1 rfl (RV.cell_agg n16a n16s rfl .here hl' Row.all) ?_)
    exact fun w' hw => ⟨rfl, hw.chg⟩
end Go.Proofs.YtbhlcnimjoppeaaDoor

/-
  Of no statement by itself: sums, differences and products of limbs modulo 2^255 - 19; no program stands here.
  Conditions: none but each lemma's own.
-/
namespace Go.Proofs.YtbhlcnimjoppeaaDoor
namespace Crv
/-! ### whole numbers modulo p -/
def fi (x : Int) : F := ⟨(x % (P : Int)).toNat, by
  have h1 : 0 ≤ x % (P : Int) := Int.emod_nonneg _ (by decide)
  have h2 : x % (P : Int) < (P : Int) := Int.emod_lt_of_pos _ (by decide)
  omega⟩
theorem fi_val (x : Int) : ((fi x).val : Int) = x % (P : Int) := Int.toNat_of_nonneg (Int.emod_nonneg _ (by decide))
theorem F_ext {a b : F} (h : (a.val : Int) = (b.val : Int)) : a = b := Fin.ext (by omega)
theorem fi_add (x y : Int) : fi (x + y) = fi x + fi y := F_ext (by
  rw [fi_val, Fin.val_add, Int.natCast_emod, Int.natCast_add, fi_val, fi_val, ← Int.add_emod])
theorem fi_mul (x y : Int) : fi (x * y) = fi x * fi y := F_ext (by
  rw [fi_val, Fin.val_mul, Int.natCast_emod, Int.natCast_mul, fi_val, fi_val, ← Int.mul_emod])
theorem fi_sub (x y : Int) : fi (x - y) = fi x - fi y := by
  have h := fi_add (x - y) y
  rw [Int.sub_add_cancel] at h
  rw [h]
  generalize fi (x - y) = a
  generalize fi y = b
  clear h
  grobner
theorem fi_P (q : Int) : fi (q * P) = 0 := F_ext (by rw [fi_val, Int.mul_emod_left]; rfl)
theorem fi_off {x y q : Int} (h : x = y + q * P) : fi x = fi y := by
  rw [h, fi_add, fi_P]
  generalize fi y = a
  clear h
  grobner
/-- limbs as a number modulo p -/
def fv (l : List Int) : F := fi (val l)
theorem car_fv {l : List Int} (hl : l.length = 16) : fv (car l) = fv l := by
  obtain ⟨q, e⟩ := val_car hl
  refine fi_off (q := -(2 * q)) ?_
  rw [e, Int.sub_eq_add_neg, ← Int.neg_mul, ← Int.mul_assoc, Int.mul_comm (-q) 2, Int.mul_neg]
/-! ### sums by index -/
def ps (l : List Int) : Nat → Int
  | 0 => 0
  | k + 1 => ps l k + nth l k * 65536 ^ k
theorem ps_cons (a : Int) (l : List Int) : ∀ k, ps (a :: l) (k + 1) = a + 65536 * ps l k
  | 0 => by
    show 0 + nth (a :: l) 0 * 65536 ^ 0 = a + 65536 * 0
    rw [Int.pow_zero]
    show 0 + a * 1 = a + 65536 * 0
    omega
  | k + 1 => by
    show ps (a :: l) (k + 1) + nth (a :: l) (k + 1) * 65536 ^ (k + 1) = a + 65536 * (ps l k + nth l k * 65536 ^ k)
    rw [ps_cons a l k, Int.pow_succ, Int.mul_comm (65536 ^ k) 65536, Int.mul_add, Int.mul_left_comm]
    show a + 65536 * ps l k + 65536 * (nth l k * 65536 ^ k) = _
    rw [Int.add_assoc]
theorem ps_nil : ∀ k, ps [] k = 0
  | 0 => rfl
  | k + 1 => by show ps [] k + 0 * 65536 ^ k = 0; rw [ps_nil k, Int.zero_mul]; rfl
theorem val_ps : ∀ (l : List Int) (k : Nat), l.length ≤ k → val l = ps l k
  | [], k, _ => (ps_nil k).symm
  | a :: l, 0, h => absurd h (by simp)
  | a :: l, k + 1, h => by rw [ps_cons, ← val_ps l k (by simpa using h)]; rfl
/-! ### sums, differences -/
def zip2 (f : Int → Int → Int) (a b : List Int) : Nat → List Int
  | 0 => a
  | i + 1 => (zip2 f a b i).set i (f (nth (zip2 f a b i) i) (nth b i))
theorem zip2_len (f : Int → Int → Int) (a b : List Int) : ∀ i, (zip2 f a b i).length = a.length
  | 0 => rfl
  | i + 1 => by rw [zip2, List.length_set, zip2_len f a b i]
theorem zip2_nth (f : Int → Int → Int) (a b : List Int) (j : Nat) : ∀ i, i ≤ a.length → nth (zip2 f a b i) j = if j < i then f (nth a j) (nth b j) else nth a j
  | 0, _ => rfl
  | i + 1, h => by
    have ih := zip2_nth f a b j i (by omega)
    rw [zip2, nth_set _ _ _ _ (by rw [zip2_len]; omega)]
    by_cases e : i = j
    · subst e
      rw [if_pos rfl, if_pos (by omega), ih, if_neg (by omega)]
    · rw [if_neg e, ih]
      by_cases e2 : j < i
      · rw [if_pos e2, if_pos (by omega)]
      · rw [if_neg e2, if_neg (by omega)]
theorem zip2_val (s : Int) (a b : List Int) : ∀ i, i ≤ a.length → val (zip2 (fun x y => x + s * y) a b i) = val a + s * ps b i
  | 0, _ => by show val a = val a + s * 0; rw [Int.mul_zero, Int.add_zero]
  | i + 1, h => by
    rw [zip2, val_set _ _ _ (by rw [zip2_len]; omega), zip2_val s a b i (by omega)]
    show val a + s * ps b i + (nth (zip2 (fun x y => x + s * y) a b i) i + s * nth b i - nth (zip2 (fun x y => x + s * y) a b i) i) * 65536 ^ i = val a + s * (ps b i + nth b i * 65536 ^ i)
    generalize nth (zip2 (fun x y => x + s * y) a b i) i = z
    rw [show z + s * nth b i - z = s * nth b i by omega, Int.mul_add, Int.mul_assoc, Int.add_assoc]
def addL (a b : List Int) : List Int := car (zip2 (fun x y => x + y) a b 16)
def subL (a b : List Int) : List Int := car (zip2 (fun x y => x - y) a b 16)
theorem zip_add (a b : List Int) : zip2 (fun x y => x + y) a b = zip2 (fun x y => x + 1 * y) a b := by
  have : (fun x y : Int => x + y) = fun x y => x + 1 * y := by funext x y; omega
  rw [this]
theorem zip_sub (a b : List Int) : zip2 (fun x y => x - y) a b = zip2 (fun x y => x + -1 * y) a b := by
  have : (fun x y : Int => x - y) = fun x y => x + -1 * y := by funext x y; omega
  rw [this]
abbrev Good (l : List Int) : Prop := Small (-128) 65663 l
theorem zip2_btw {f : Int → Int → Int} {a b : List Int} {x0 y0 x1 y1 : Int} (ha : Good a) (hb : Good b)
    (h0 : ∀ x y, -128 ≤ x → x ≤ 65663 → -128 ≤ y → y ≤ 65663 → x0 ≤ f x y ∧ f x y ≤ y0)
    (h1 : ∀ x y, 0 ≤ x → x ≤ 65535 → 0 ≤ y → y ≤ 65535 → x1 ≤ f x y ∧ f x y ≤ y1) : Btw (los x0 x1) (los y0 y1) (zip2 f a b 16) := fun j hj => by
  rw [los_nth _ _ _ hj, los_nth _ _ _ hj, zip2_nth _ _ _ _ _ (by rw [ha.len]; omega), if_pos hj]
  by_cases e : j = 0
  · subst e
    rw [if_pos rfl, if_pos rfl]
    have p := ha.first
    have q := hb.first
    exact h0 _ _ p.1 p.2 q.1 q.2
  · rw [if_neg e, if_neg e]
    have p := ha.rest j (by omega) hj
    have q := hb.rest j (by omega) hj
    exact h1 _ _ p.1 p.2 q.1 q.2
theorem addL_good {a b : List Int} (ha : Good a) (hb : Good b) : Good (addL a b) :=
  (car_small (by rw [zip2_len, ha.len]) (zip2_btw (x0 := -256) (y0 := 131326) (x1 := 0) (y1 := 131070) ha hb (fun x y _ _ _ _ => by omega) (fun x y _ _ _ _ => by omega))).weak (by decide) (by decide)
theorem subL_good {a b : List Int} (ha : Good a) (hb : Good b) : Good (subL a b) :=
  (car_small (by rw [zip2_len, ha.len]) (zip2_btw (x0 := -65791) (y0 := 65791) (x1 := -65535) (y1 := 65535) ha hb (fun x y _ _ _ _ => by omega) (fun x y _ _ _ _ => by omega))).weak (by decide) (by decide)
theorem addL_fv {a b : List Int} (ha : a.length = 16) (hb : b.length = 16) : fv (addL a b) = fv a + fv b := by
  rw [addL, car_fv (by rw [zip2_len, ha]), zip_add]
  unfold fv
  rw [zip2_val _ _ _ _ (by omega), ← val_ps b 16 (by omega), fi_add, Int.one_mul]
theorem subL_fv {a b : List Int} (ha : a.length = 16) (hb : b.length = 16) : fv (subL a b) = fv a - fv b := by
  rw [subL, car_fv (by rw [zip2_len, ha]), zip_sub]
  unfold fv
  rw [zip2_val _ _ _ _ (by omega), ← val_ps b 16 (by omega), show val a + -1 * val b = val a - val b by omega, fi_sub]
/-! ### products -/
def tin (t a b : List Int) (i : Nat) : Nat → List Int
  | 0 => t
  | k + 1 => (tin t a b i k).set (i + k) (nth (tin t a b i k) (i + k) + nth a i * nth b k)
def tout (a b : List Int) : Nat → List Int
  | 0 => List.replicate 31 0
  | i + 1 => tin (tout a b i) a b i 16
theorem tin_len (t a b : List Int) (i : Nat) : ∀ k, (tin t a b i k).length = t.length
  | 0 => rfl
  | k + 1 => by rw [tin, List.length_set, tin_len t a b i k]
theorem tout_len (a b : List Int) : ∀ i, (tout a b i).length = 31
  | 0 => rfl
  | i + 1 => by rw [tout, tin_len, tout_len a b i]
theorem tin_val (t a b : List Int) (i : Nat) (h : i < 16) (ht : t.length = 31) : ∀ k, k ≤ 16 → val (tin t a b i k) = val t + nth a i * 65536 ^ i * ps b k
  | 0, _ => by show val t = val t + nth a i * 65536 ^ i * 0; rw [Int.mul_zero, Int.add_zero]
  | k + 1, hk => by
    rw [tin, val_set _ _ _ (by rw [tin_len]; omega), tin_val t a b i h ht k (by omega)]
    show val t + nth a i * 65536 ^ i * ps b k + (nth (tin t a b i k) (i + k) + nth a i * nth b k - nth (tin t a b i k) (i + k)) * 65536 ^ (i + k) = val t + nth a i * 65536 ^ i * (ps b k + nth b k * 65536 ^ k)
    generalize nth (tin t a b i k) (i + k) = z
    rw [show z + nth a i * nth b k - z = nth a i * nth b k by omega, Int.pow_add, Int.mul_add, Int.add_assoc]
    congr 2
    rw [Int.mul_assoc, Int.mul_assoc]
    congr 1
    rw [Int.mul_left_comm]
theorem tout_val (a b : List Int) : ∀ i, i ≤ 16 → val (tout a b i) = ps a i * ps b 16
  | 0, _ => by show val (List.replicate 31 0) = 0 * ps b 16; rw [Int.zero_mul]; decide
  | i + 1, h => by
    rw [tout, tin_val _ _ _ _ (by omega) (tout_len a b i) 16 (by omega), tout_val a b i (by omega)]
    show ps a i * ps b 16 + nth a i * 65536 ^ i * ps b 16 = (ps a i + nth a i * 65536 ^ i) * ps b 16
    rw [Int.add_mul]
/-- between -m and m -/
def Wide (m : Int) (l : List Int) : Prop := ∀ j, -m ≤ nth l j ∧ nth l j ≤ m
theorem prod_bd {x y : Int} (h1 : -131072 ≤ x) (h2 : x ≤ 131072) (h3 : -131072 ≤ y) (h4 : y ≤ 131072) : -17179869184 ≤ x * y ∧ x * y ≤ 17179869184 := by
  have a : x.natAbs ≤ 131072 := by omega
  have b : y.natAbs ≤ 131072 := by omega
  have c := Nat.mul_le_mul a b
  rw [← Int.natAbs_mul] at c
  omega
theorem tin_wide {t a b : List Int} {i : Nat} {m : Int} (h : i < 16) (ht : t.length = 31) (ha : Wide 131072 a) (hb : Wide 131072 b) (hw : Wide m t) : ∀ k : Nat, k ≤ 16 → Wide (m + 17179869184 * k) (tin t a b i k)
  | 0, _ => fun j => by have := hw j; show -(m + 17179869184 * (0 : Nat)) ≤ nth t j ∧ nth t j ≤ m + 17179869184 * (0 : Nat); omega
  | k + 1, hk => fun j => by
    have ih := tin_wide h ht ha hb hw k (by omega)
    have p := prod_bd (ha i).1 (ha i).2 (hb k).1 (hb k).2
    rw [tin, nth_set _ _ _ _ (by rw [tin_len]; omega)]
    generalize nth a i * nth b k = z at p
    split
    · have := ih (i + k)
      omega
    · have := ih j
      omega
theorem rep0_nth (n j : Nat) : nth (List.replicate n 0) j = 0 := by
  unfold nth
  rw [List.getD_eq_getElem?_getD, List.getElem?_replicate]
  split <;> rfl
theorem tout_wide {a b : List Int} (ha : Wide 131072 a) (hb : Wide 131072 b) : ∀ i : Nat, i ≤ 16 → Wide (274877906944 * i) (tout a b i)
  | 0, _ => fun j => by rw [tout, rep0_nth]; omega
  | i + 1, h => fun j => by
    have ih := tin_wide (i := i) (by omega) (tout_len a b i) ha hb (tout_wide ha hb i (by omega)) 16 (by omega) j
    rw [tout]
    omega
theorem Good.wide {l : List Int} (h : Good l) : Wide 131072 l := fun j => by
  by_cases e : j = 0
  · subst e; have := h.first; omega
  · by_cases e2 : j < 16
    · have := h.rest j (by omega) e2; omega
    · have : nth l j = 0 := by
        unfold nth
        rw [List.getD_eq_getElem?_getD, List.getElem?_eq_none (by rw [h.len]; omega)]; rfl
      omega
/-- the upper limbs, 38 times, on the lower -/
def fold (t : List Int) : Nat → List Int
  | 0 => List.replicate 16 0
  | i + 1 => if i < 15 then ((fold t i).set i (nth t i)).set i (nth ((fold t i).set i (nth t i)) i + 38 * nth t (i + 16)) else (fold t i).set i (nth t i)
theorem fold_len (t : List Int) : ∀ i, (fold t i).length = 16
  | 0 => rfl
  | i + 1 => by rw [fold]; split <;> simp [fold_len t i]
theorem fold_nth (t : List Int) : ∀ i, i ≤ 16 → ∀ j, nth (fold t i) j = if j < i then (if j < 15 then nth t j + 38 * nth t (j + 16) else nth t j) else 0
  | 0, _, j => by rw [fold, rep0_nth]; rfl
  | i + 1, h, j => by
    have ih := fold_nth t i (by omega) j
    have l := fold_len t i
    have x1 : ∀ z, nth ((fold t i).set i z) j = if i = j then z else nth (fold t i) j := fun z => nth_set _ _ _ _ (by omega)
    have x2 : ∀ z y, nth (((fold t i).set i z).set i y) j = if i = j then y else nth ((fold t i).set i z) j := fun z y => nth_set _ _ _ _ (by rw [List.length_set]; omega)
    have x3 : ∀ z, nth ((fold t i).set i z) i = z := fun z => by rw [nth_set _ _ _ _ (by omega), if_pos rfl]
    rw [fold]
    by_cases e : i < 15
    · rw [if_pos e, x2, x1, x3, ih]
      by_cases e2 : i = j
      · subst e2
        rw [if_pos rfl, if_pos (by omega), if_pos e]
      · rw [if_neg e2, if_neg e2]
        by_cases e3 : j < i
        · rw [if_pos e3]; exact (if_pos (by omega)).symm
        · rw [if_neg e3, if_neg (by omega)]
    · rw [if_neg e, x1, ih]
      by_cases e2 : i = j
      · subst e2
        rw [if_pos rfl, if_pos (by omega), if_neg e]
      · rw [if_neg e2]
        by_cases e3 : j < i
        · rw [if_pos e3]; exact (if_pos (by omega)).symm
        · rw [if_neg e3, if_neg (by omega)]
def hi15 (t : List Int) : Nat → Int
  | 0 => 0
  | k + 1 => hi15 t k + nth t (k + 16) * 65536 ^ k
theorem ps_hi (t : List Int) : ∀ k, ps t (16 + k) = ps t 16 + 65536 ^ 16 * hi15 t k
  | 0 => by show ps t 16 = ps t 16 + 65536 ^ 16 * 0; rw [Int.mul_zero, Int.add_zero]
  | k + 1 => by
    show ps t (16 + k) + nth t (16 + k) * 65536 ^ (16 + k) = ps t 16 + 65536 ^ 16 * (hi15 t k + nth t (k + 16) * 65536 ^ k)
    rw [ps_hi t k, Int.mul_add, Int.add_assoc, Nat.add_comm 16 k, Int.pow_add, Int.mul_comm (65536 ^ k), ← Int.mul_assoc, Int.mul_comm (nth t (k + 16)), Int.mul_assoc (65536 ^ 16)]
theorem ps_fold (t : List Int) : ∀ k, k ≤ 15 → ps (fold t 16) k = ps t k + 38 * hi15 t k
  | 0, _ => rfl
  | k + 1, h => by
    show ps (fold t 16) k + nth (fold t 16) k * 65536 ^ k = ps t k + nth t k * 65536 ^ k + 38 * (hi15 t k + nth t (k + 16) * 65536 ^ k)
    rw [ps_fold t k (by omega), fold_nth t 16 (by omega), if_pos (by omega), if_pos (by omega), Int.add_mul, Int.mul_add, Int.mul_assoc]
    omega
theorem fold_val {t : List Int} (ht : t.length = 31) : val t = val (fold t 16) + 2 * hi15 t 15 * P := by
  rw [val_ps t 31 (by omega), val_ps (fold t 16) 16 (by rw [fold_len]; omega)]
  have a := ps_hi t 15
  have b := ps_fold t 15 (by omega)
  have c : ps (fold t 16) 16 = ps (fold t 16) 15 + nth (fold t 16) 15 * 65536 ^ 15 := rfl
  have d : ps t 16 = ps t 15 + nth t 15 * 65536 ^ 15 := rfl
  have e : nth (fold t 16) 15 = nth t 15 := by rw [fold_nth t 16 (by omega), if_pos (by omega), if_neg (by omega)]
  rw [a, c, b, e, d]
  generalize nth t 15 * 65536 ^ 15 = z
  generalize hi15 t 15 = y
  have e4 : (65536 : Int) ^ 16 = 2 * (P : Int) + 38 := by decide
  rw [e4]
  have e5 : ((P : Nat) : Int) = 57896044618658097711785492504343953926634992332820282019728792003956564819949 := rfl
  rw [e5]
  omega
def mulL (a b : List Int) : List Int := car (car (fold (tout a b 16) 16))
theorem fold_wide {a b : List Int} (ha : Good a) (hb : Good b) : Wide 171523813933056 (fold (tout a b 16) 16) := fun j => by
  have w := tout_wide ha.wide hb.wide 16 (by omega)
  have w1 := w j
  have w2 := w (j + 16)
  rw [fold_nth _ 16 (by omega)]
  split
  · split <;> omega
  · omega
theorem car_wide {a b : List Int} (w : Wide 171523813933056 (fold (tout a b 16) 16)) : Wide 100000000000 (car (fold (tout a b 16) 16)) := fun j => by
  have b1 : Btw (los (-171523813933056) (-171523813933056)) (los 171523813933056 171523813933056) (fold (tout a b 16) 16) := fun j hj => by
    rw [los_nth _ _ _ hj, los_nth _ _ _ hj]
    have := w j
    split <;> omega
  have s1 := (car_small (fold_len _ 16) b1).weak (c := -100000000000) (d := 100000000000) (by decide) (by decide)
  by_cases e : j = 0
  · subst e; exact s1.first
  · by_cases e2 : j < 16
    · have := s1.rest j (by omega) e2; omega
    · have : nth (car (fold (tout a b 16) 16)) j = 0 := by
        unfold nth
        rw [List.getD_eq_getElem?_getD, List.getElem?_eq_none (by rw [s1.len]; omega)]; rfl
      omega
theorem mulL_good {a b : List Int} (ha : Good a) (hb : Good b) : Good (mulL a b) := by
  have w := fold_wide ha hb
  have b1 : Btw (los (-171523813933056) (-171523813933056)) (los 171523813933056 171523813933056) (fold (tout a b 16) 16) := fun j hj => by
    rw [los_nth _ _ _ hj, los_nth _ _ _ hj]
    have := w j
    split <;> omega
  have s1 := (car_small (fold_len _ 16) b1).weak (c := -100000000000) (d := 100000000000) (by decide) (by decide)
  exact (car_small s1.len s1.btw).weak (by decide) (by decide)
theorem mulL_fv {a b : List Int} (ha : a.length = 16) (hb : b.length = 16) : fv (mulL a b) = fv a * fv b := by
  have l1 := fold_len (tout a b 16) 16
  have e1 : fv (fold (tout a b 16) 16) = fi (val (tout a b 16)) := (fi_off (fold_val (tout_len a b 16))).symm
  rw [mulL, car_fv (by rw [car, cit_len, l1]), car_fv l1, e1, tout_val a b 16 (by omega), ← val_ps a 16 (by omega), ← val_ps b 16 (by omega), fi_mul]
  rfl
end Crv
end Go.Proofs.YtbhlcnimjoppeaaDoor

/-
  Of no statement by itself: what the reference's Add, Less and Times give.
  Conditions: each theorem's own.
-/
namespace Go.Proofs.YtbhlcnimjoppeaaDoor
set_option maxRecDepth 10000
open Sl Crv

theorem goes_nadd : Goes Tryd.prog 54 := ⟨_, Tryd.func54, rfl, by kernel_rfl⟩
theorem goes_nless : Goes Tryd.prog 55 := ⟨_, Tryd.func55, rfl, by kernel_rfl⟩
theorem goes_times : Goes Tryd.prog 56 := ⟨_, Tryd.func56, rfl, by kernel_rfl⟩
theorem n31s : szT Tryd.prog 131 = some 31 := by kernel_rfl
theorem n31z : zc Tryd.prog 131 = some ((List.replicate 31 (0 : Int)).map I) := by kernel_rfl
theorem Fit.of_wide {l : List Int} {m : Int} (h : Wide m l) (hm : m ≤ 288230376151711744) : Fit l := fun j _ => by have := h j; omega
theorem good_zip {f : Int → Int → Int} {a b : List Int} (ha : Good a) (hb : Good b) (h : ∀ x y, -131072 ≤ x → x ≤ 131072 → -131072 ≤ y → y ≤ 131072 → -300000 ≤ f x y ∧ f x y ≤ 300000) : Fit (zip2 f a b 16) := fun j hj => by
  rw [zip2_nth _ _ _ _ _ (by rw [ha.len]; omega), if_pos hj]
  have p := ha.wide j
  have q := hb.wide j
  have := h _ _ p.1 p.2 q.1 q.2
  omega

set_option maxHeartbeats 8000000 in
theorem nadd_any (a b : List Int) (ha : Good a) (hb : Good b) (w : World) : Calls Tryd.prog 54 [.agg (a.map I).toArray, .agg (b.map I).toArray].toArray w fun e w' => e = .returned (.agg ((addL a b).map I).toArray) ∧ Ext w w' := by
  refine enter (n := 20) Tryd.func54 rfl rfl rfl (Holds.start w []) ?_
  repeat (first | refine JC.seq ?_ | refine JC.region ?_)
  refine JL.box (r := a.map I) rfl rfl rfl fun b2 _ => ?_
  refine JL.box (r := b.map I) rfl rfl rfl fun b3 _ => ?_
  refine JL.alloc n16z rfl fun b4 _ => ?_
  repeat (first | refine JL.q (by (apply OQ.assign; exact rfl)) rfl ?_ | refine JC.seq ?_ | refine JC.region ?_ | refine JC.block ?_ | refine JL.nil ?_ | refine JE.next ?_)
  refine JC.loop (fun i : Nat => [(2, Pt b2 0), (3, Pt b3 0), (4, Pt b4 0), (5, N i)])
    (fun i => [⟨b4, Row 90 ((List.replicate 16 (0 : Int)).map I), true⟩, ⟨b3, Row 90 (b.map I), true⟩, ⟨b2, Row 90 ((zip2 (fun x y => x + y) a b i).map I), true⟩])
    (fun i => 16 - i) (fun i => i ≤ 16) 0 (by omega) (by repeat (first | exact SubE.nil | refine SubE.cons _ _ _ rfl ?_)) (Less.refl _) ?_
  intro i hi
  have len := zip2_len (fun x y => x + y) a b i
  rw [ha.len] at len
  repeat (first | refine JL.q (by first | (apply OQ.move; exact rfl) | (apply OQ.lssN; exact rfl; exact rfl)) rfl ?_ | refine JC.seq ?_ | refine JC.region ?_ | refine JL.nil ?_ | refine JE.next ?_)
  refine JC.cond rfl (fun h => ?_) (fun h => ?_)
  · have hi' : i < 16 := of_decide_eq_true h
    clear h hi
    have hc := I_nth (l := zip2 (fun x y => x + y) a b i) (i := i) (by omega)
    have hd := I_nth (l := b) (i := i) (by rw [hb.len]; omega)
    have e1 : nth (zip2 (fun x y => x + y) a b i) i = nth a i := by rw [zip2_nth _ _ _ _ _ (by rw [ha.len]; omega), if_neg (by omega)]
    have w1 := ha.wide i
    have w2 := hb.wide i
    repeat (first | refine JC.seq ?_ | refine JC.block ?_ | refine JC.skip ?_ | refine JE.next ?_)
    refine JC.tail 8 mixC (by kernel_rfl) ?_
    simp only [List.take_succ_cons, List.take_zero, List.drop_succ_cons, List.drop_zero]
    repeat (first | refine JQ.q (by first | (apply OQ.idxA0; exact Tryd.underlying90; exact i1s; exact rfl; exact rfl; exact (by (try simp only []); omega)) | (apply OQ.load; exact i1c; exact rfl; exact (.there (.there .here)); exact (Row.cell hc)) | (apply OQ.load; exact i1c; exact rfl; exact (.there .here); exact (Row.cell hd)) | (apply OQ.addI; exact rfl; exact rfl; exact (by omega); exact (by omega)) | (apply OQ.move; exact rfl)) rfl ?_ | refine JQ.nil_tail ?_)
    refine JL.store_eq (r' := (zip2 (fun x y => x + y) a b (i + 1)).map I) i1s rfl rfl rfl rfl (.there (.there .here)) (by rw [List.length_map, len]; (try simp only []); omega) (I_set _ _ _) ?_
    repeat (first | refine JL.q (by first | (apply OQ.move; exact rfl) | (apply OQ.assign; exact rfl) | (apply OQ.addN; exact rfl; exact rfl; exact (by (try simp only []); omega))) rfl ?_ | refine JC.region ?_ | refine JL.nil ?_ | refine JE.next ?_ | refine JE.blk_normal ?_)
    exact JE.again (i := i) (i + 1) (by omega) (by omega) (by repeat (first | exact SubE.nil | refine SubE.cons _ _ _ rfl ?_)) (Less.refl _)
  · have hi' : ¬ i < 16 := of_decide_eq_false h
    obtain rfl : i = 16 := by omega
    clear h hi hi'
    have hl' : ((zip2 (fun x y => x + y) a b 16).map I).length = 16 := by rw [List.length_map]; exact len
    have hl2 : ((addL a b).map I).length = 16 := by rw [List.length_map]; exact (addL_good ha hb).len
    have hf : Fit (zip2 (fun x y => x + y) a b 16) := good_zip ha hb fun x y _ _ _ _ => by omega
    repeat (first | refine JL.q (by first | (apply OQ.load_agg (cs := (zip2 (fun x y => x + y) a b 16).map I); exact n16a; exact n16s; exact rfl; exact (.there (.there .here)); exact hl'; exact Row.all) | (apply OQ.callx; exact goes_carry; exact rfl; exact (fun w' _ => carry_any _ len hf w'))) rfl ?_ | refine JC.seq ?_ | refine JC.region ?_ | refine JC.exit ?_ | refine JE.next ?_ | refine JE.then_exit ?_ | refine JE.blk_hit ?_)
    refine JL.store_all n16s rfl rfl hl2 (I_cell _) .here (by simp) ?_
    repeat (first | refine JL.nil ?_ | refine JE.next ?_)
    refine JC.ret (JE.ret1 rfl (RV.cell_agg n16a n16s rfl .here hl2 Row.all) ?_)
    exact fun w' hw => ⟨rfl, hw.chg⟩

set_option maxHeartbeats 8000000 in
theorem nless_any (a b : List Int) (ha : Good a) (hb : Good b) (w : World) : Calls Tryd.prog 55 [.agg (a.map I).toArray, .agg (b.map I).toArray].toArray w fun e w' => e = .returned (.agg ((subL a b).map I).toArray) ∧ Ext w w' := by
  refine enter (n := 20) Tryd.func55 rfl rfl rfl (Holds.start w []) ?_
  repeat (first | refine JC.seq ?_ | refine JC.region ?_)
  refine JL.box (r := a.map I) rfl rfl rfl fun b2 _ => ?_
  refine JL.box (r := b.map I) rfl rfl rfl fun b3 _ => ?_
  refine JL.alloc n16z rfl fun b4 _ => ?_
  repeat (first | refine JL.q (by (apply OQ.assign; exact rfl)) rfl ?_ | refine JC.seq ?_ | refine JC.region ?_ | refine JC.block ?_ | refine JL.nil ?_ | refine JE.next ?_)
  refine JC.loop (fun i : Nat => [(2, Pt b2 0), (3, Pt b3 0), (4, Pt b4 0), (5, N i)])
    (fun i => [⟨b4, Row 90 ((List.replicate 16 (0 : Int)).map I), true⟩, ⟨b3, Row 90 (b.map I), true⟩, ⟨b2, Row 90 ((zip2 (fun x y => x - y) a b i).map I), true⟩])
    (fun i => 16 - i) (fun i => i ≤ 16) 0 (by omega) (by repeat (first | exact SubE.nil | refine SubE.cons _ _ _ rfl ?_)) (Less.refl _) ?_
  intro i hi
  have len := zip2_len (fun x y => x - y) a b i
  rw [ha.len] at len
  repeat (first | refine JL.q (by first | (apply OQ.move; exact rfl) | (apply OQ.lssN; exact rfl; exact rfl)) rfl ?_ | refine JC.seq ?_ | refine JC.region ?_ | refine JL.nil ?_ | refine JE.next ?_)
  refine JC.cond rfl (fun h => ?_) (fun h => ?_)
  · have hi' : i < 16 := of_decide_eq_true h
    clear h hi
    have hc := I_nth (l := zip2 (fun x y => x - y) a b i) (i := i) (by omega)
    have hd := I_nth (l := b) (i := i) (by rw [hb.len]; omega)
    have e1 : nth (zip2 (fun x y => x - y) a b i) i = nth a i := by rw [zip2_nth _ _ _ _ _ (by rw [ha.len]; omega), if_neg (by omega)]
    have w1 := ha.wide i
    have w2 := hb.wide i
    repeat (first | refine JC.seq ?_ | refine JC.block ?_ | refine JC.skip ?_ | refine JE.next ?_)
    refine JC.tail 8 mixC (by kernel_rfl) ?_
    simp only [List.take_succ_cons, List.take_zero, List.drop_succ_cons, List.drop_zero]
    repeat (first | refine JQ.q (by first | (apply OQ.idxA0; exact Tryd.underlying90; exact i1s; exact rfl; exact rfl; exact (by (try simp only []); omega)) | (apply OQ.load; exact i1c; exact rfl; exact (.there (.there .here)); exact (Row.cell hc)) | (apply OQ.load; exact i1c; exact rfl; exact (.there .here); exact (Row.cell hd)) | (apply OQ.subI; exact rfl; exact rfl; exact (by omega); exact (by omega)) | (apply OQ.move; exact rfl)) rfl ?_ | refine JQ.nil_tail ?_)
    refine JL.store_eq (r' := (zip2 (fun x y => x - y) a b (i + 1)).map I) i1s rfl rfl rfl rfl (.there (.there .here)) (by rw [List.length_map, len]; (try simp only []); omega) (I_set _ _ _) ?_
    repeat (first | refine JL.q (by first | (apply OQ.move; exact rfl) | (apply OQ.assign; exact rfl) | (apply OQ.addN; exact rfl; exact rfl; exact (by (try simp only []); omega))) rfl ?_ | refine JC.region ?_ | refine JL.nil ?_ | refine JE.next ?_ | refine JE.blk_normal ?_)
    exact JE.again (i := i) (i + 1) (by omega) (by omega) (by repeat (first | exact SubE.nil | refine SubE.cons _ _ _ rfl ?_)) (Less.refl _)
  · have hi' : ¬ i < 16 := of_decide_eq_false h
    obtain rfl : i = 16 := by omega
    clear h hi hi'
    have hl' : ((zip2 (fun x y => x - y) a b 16).map I).length = 16 := by rw [List.length_map]; exact len
    have hl2 : ((subL a b).map I).length = 16 := by rw [List.length_map]; exact (subL_good ha hb).len
    have hf : Fit (zip2 (fun x y => x - y) a b 16) := good_zip ha hb fun x y _ _ _ _ => by omega
    repeat (first | refine JL.q (by first | (apply OQ.load_agg (cs := (zip2 (fun x y => x - y) a b 16).map I); exact n16a; exact n16s; exact rfl; exact (.there (.there .here)); exact hl'; exact Row.all) | (apply OQ.callx; exact goes_carry; exact rfl; exact (fun w' _ => carry_any _ len hf w'))) rfl ?_ | refine JC.seq ?_ | refine JC.region ?_ | refine JC.exit ?_ | refine JE.next ?_ | refine JE.then_exit ?_ | refine JE.blk_hit ?_)
    refine JL.store_all n16s rfl rfl hl2 (I_cell _) .here (by simp) ?_
    repeat (first | refine JL.nil ?_ | refine JE.next ?_)
    refine JC.ret (JE.ret1 rfl (RV.cell_agg n16a n16s rfl .here hl2 Row.all) ?_)
    exact fun w' hw => ⟨rfl, hw.chg⟩

end Go.Proofs.YtbhlcnimjoppeaaDoor

/-
  Of no statement by itself: what the reference's Times gives.
  Conditions: each theorem's own.
-/
namespace Go.Proofs.YtbhlcnimjoppeaaDoor
set_option maxRecDepth 10000
open Sl Crv

/-- the first i of the lower limbs are folded, and the i-th is laid -/
def folded (t : List Int) (i : Nat) : List Int := (fold t i).set i (nth t i)

set_option maxHeartbeats 16000000 in
theorem times_any (a b : List Int) (ha : Good a) (hb : Good b) (w : World) : Calls Tryd.prog 56 [.agg (a.map I).toArray, .agg (b.map I).toArray].toArray w fun e w' => e = .returned (.agg ((mulL a b).map I).toArray) ∧ Ext w w' := by
  have wa := ha.wide
  have wb := hb.wide
  refine enter (n := 58) Tryd.func56 rfl rfl rfl (Holds.start w []) ?_
  repeat (first | refine JC.seq ?_ | refine JC.region ?_)
  refine JL.box (r := a.map I) rfl rfl rfl fun b2 _ => ?_
  refine JL.box (r := b.map I) rfl rfl rfl fun b3 _ => ?_
  refine JL.alloc n16z rfl fun b4 _ => ?_
  repeat (first | refine JC.seq ?_ | refine JC.region ?_ | refine JL.nil ?_ | refine JE.next ?_)
  refine JL.q (OQ.pure (v := .agg ((tout a b 0).map I).toArray) rfl rfl (by kernel_rfl)) rfl ?_
  refine JL.alloc n31z rfl fun b5 _ => ?_
  refine JL.store_all n31s rfl rfl rfl (I_cell _) .here (by simp) ?_
  repeat (first | refine JL.q (by (apply OQ.assign; exact rfl)) rfl ?_ | refine JC.seq ?_ | refine JC.region ?_ | refine JC.block ?_ | refine JL.nil ?_ | refine JE.next ?_)
  refine JC.loop (fun i : Nat => [(2, Pt b2 0), (3, Pt b3 0), (4, Pt b4 0), (5, Pt b5 0), (6, N i)])
    (fun i => [⟨b5, Row 131 ((tout a b i).map I), true⟩, ⟨b4, Row 90 ((List.replicate 16 (0 : Int)).map I), true⟩, ⟨b3, Row 90 (b.map I), true⟩, ⟨b2, Row 90 (a.map I), true⟩])
    (fun i => 16 - i) (fun i => i ≤ 16) 0 (by omega) (by repeat (first | exact SubE.nil | refine SubE.cons _ _ _ rfl ?_)) (Less.refl _) ?_
  intro i hi
  repeat (first | refine JL.q (by first | (apply OQ.move; exact rfl) | (apply OQ.lssN; exact rfl; exact rfl)) rfl ?_ | refine JC.seq ?_ | refine JC.region ?_ | refine JL.nil ?_ | refine JE.next ?_)
  refine JC.cond rfl (fun h => ?_) (fun h => ?_)
  · have hi' : i < 16 := of_decide_eq_true h
    clear h hi
    repeat (first | refine JL.q (by (apply OQ.assign; exact rfl)) rfl ?_ | refine JC.seq ?_ | refine JC.region ?_ | refine JC.block ?_ | refine JC.skip ?_ | refine JL.nil ?_ | refine JE.next ?_)
    refine JC.loop (fun k : Nat => [(2, Pt b2 0), (3, Pt b3 0), (4, Pt b4 0), (5, Pt b5 0), (6, N i), (7, N k)])
      (fun k => [⟨b5, Row 131 ((tin (tout a b i) a b i k).map I), true⟩, ⟨b4, Row 90 ((List.replicate 16 (0 : Int)).map I), true⟩, ⟨b3, Row 90 (b.map I), true⟩, ⟨b2, Row 90 (a.map I), true⟩])
      (fun k => 16 - k) (fun k => k ≤ 16) 0 (by omega) (by repeat (first | exact SubE.nil | refine SubE.cons _ _ _ rfl ?_)) (Less.refl _) ?_
    intro k hk
    have len := tin_len (tout a b i) a b i k
    rw [tout_len] at len
    repeat (first | refine JL.q (by first | (apply OQ.move; exact rfl) | (apply OQ.lssN; exact rfl; exact rfl)) rfl ?_ | refine JC.seq ?_ | refine JC.region ?_ | refine JL.nil ?_ | refine JE.next ?_)
    refine JC.cond rfl (fun h => ?_) (fun h => ?_)
    · have hk' : k < 16 := of_decide_eq_true h
      clear h hk
      have hc := I_nth (l := tin (tout a b i) a b i k) (i := i + k) (by omega)
      have hd := I_nth (l := a) (i := i) (by rw [ha.len]; omega)
      have he := I_nth (l := b) (i := k) (by rw [hb.len]; omega)
      have p := prod_bd (wa i).1 (wa i).2 (wb k).1 (wb k).2
      have q := tin_wide hi' (tout_len a b i) wa wb (tout_wide wa wb i (by omega)) k (by omega) (i + k)
      have q1 : -9007199254740992 ≤ nth (tin (tout a b i) a b i k) (i + k) ∧ nth (tin (tout a b i) a b i k) (i + k) ≤ 9007199254740992 := by omega
      repeat (first | refine JC.seq ?_ | refine JC.block ?_ | refine JC.skip ?_ | refine JE.next ?_)
      refine JC.tail 14 mixC (by kernel_rfl) ?_
      simp only [List.take_succ_cons, List.take_zero, List.drop_succ_cons, List.drop_zero]
      repeat (first | refine JQ.q (by first | (apply OQ.idxA0; exact Tryd.underlying90; exact i1s; exact rfl; exact rfl; exact (by (try simp only []); omega)) | (apply OQ.idxA0; exact Tryd.underlying131; exact i1s; exact rfl; exact rfl; exact (by (try simp only []); omega)) | (apply OQ.load; exact i1c; exact rfl; exact .here; exact (Row.cell hc)) | (apply OQ.load; exact i1c; exact rfl; exact (.there (.there (.there .here))); exact (Row.cell hd)) | (apply OQ.load; exact i1c; exact rfl; exact (.there (.there .here)); exact (Row.cell he)) | (apply OQ.mulI (a := nth a i) (b := nth b k); exact rfl; exact rfl; exact (by omega); exact (by omega)) | (apply OQ.addI; exact rfl; exact rfl; exact (by omega); exact (by omega)) | (apply OQ.move; exact rfl)) rfl ?_ | refine JQ.nil_tail ?_)
      refine JL.store_eq (r' := (tin (tout a b i) a b i (k + 1)).map I) i1s rfl rfl rfl rfl .here (by rw [List.length_map, len]; (try simp only []); omega) (I_set _ _ _) ?_
      repeat (first | refine JL.q (by first | (apply OQ.move; exact rfl) | (apply OQ.assign; exact rfl) | (apply OQ.addN; exact rfl; exact rfl; exact (by (try simp only []); omega))) rfl ?_ | refine JC.region ?_ | refine JL.nil ?_ | refine JE.next ?_ | refine JE.blk_normal ?_)
      exact JE.again (i := k) (k + 1) (by omega) (by omega) (by repeat (first | exact SubE.nil | refine SubE.cons _ _ _ rfl ?_)) (Less.refl _)
    · have hk' : ¬ k < 16 := of_decide_eq_false h
      obtain rfl : k = 16 := by omega
      clear h hk hk'
      repeat (first | refine JL.q (by first | (apply OQ.move; exact rfl) | (apply OQ.assign; exact rfl) | (apply OQ.addN; exact rfl; exact rfl; exact (by (try simp only []); omega))) rfl ?_ | refine JC.region ?_ | refine JC.exit ?_ | refine JL.nil ?_ | refine JE.next ?_ | refine JE.blk_normal ?_ | refine JE.then_exit ?_ | refine JE.blk_hit ?_)
      exact JE.again (i := i) (i + 1) (by omega) (by omega) (by repeat (first | exact SubE.nil | refine SubE.cons _ _ _ rfl ?_)) (Less.refl _)
  · have hi' : ¬ i < 16 := of_decide_eq_false h
    obtain rfl : i = 16 := by omega
    clear h hi hi'
    have tw := tout_wide wa wb 16 (by omega)
    have tl := tout_len a b 16
    generalize ht : tout a b 16 = t at tw tl
    repeat (first | refine JC.seq ?_ | refine JC.region ?_ | refine JC.exit ?_ | refine JE.next ?_ | refine JE.then_exit ?_ | refine JE.blk_hit ?_)
    refine JL.q (OQ.pure (v := .agg ((fold t 0).map I).toArray) rfl rfl (by kernel_rfl)) rfl ?_
    refine JL.alloc n16z rfl fun b8 _ => ?_
    refine JL.store_all n16s rfl rfl rfl (I_cell _) .here (by simp) ?_
    repeat (first | refine JL.q (by (apply OQ.assign; exact rfl)) rfl ?_ | refine JC.seq ?_ | refine JC.region ?_ | refine JC.block ?_ | refine JL.nil ?_ | refine JE.next ?_)
    refine JC.loop (fun i : Nat => [(4, Pt b4 0), (5, Pt b5 0), (8, Pt b8 0), (9, N i)])
      (fun i => [⟨b8, Row 90 ((fold t i).map I), true⟩, ⟨b5, Row 131 (t.map I), true⟩, ⟨b4, Row 90 ((List.replicate 16 (0 : Int)).map I), true⟩])
      (fun i => 16 - i) (fun i => i ≤ 16) 0 (by omega) (by repeat (first | exact SubE.nil | refine SubE.cons _ _ _ rfl ?_)) (.keep _ _ _ _ _ _ (fun _ h => h) (.keep _ _ _ _ _ _ (fun _ h => h) (.keep _ _ _ _ _ _ (fun _ h => h) (Less.nil _)))) ?_
    intro i hi
    have len := fold_len t i
    repeat (first | refine JL.q (by first | (apply OQ.move; exact rfl) | (apply OQ.lssN; exact rfl; exact rfl)) rfl ?_ | refine JC.seq ?_ | refine JC.region ?_ | refine JL.nil ?_ | refine JE.next ?_)
    refine JC.cond rfl (fun h => ?_) (fun h => ?_)
    · have hi' : i < 16 := of_decide_eq_true h
      clear h hi
      have hc := I_nth (l := t) (i := i) (by omega)
      have w1 := tw i
      repeat (first | refine JL.q (by first | (apply OQ.idxA0; exact Tryd.underlying90; exact i1s; exact rfl; exact rfl; exact (by (try simp only []); omega)) | (apply OQ.idxA0; exact Tryd.underlying131; exact i1s; exact rfl; exact rfl; exact (by (try simp only []); omega)) | (apply OQ.load; exact i1c; exact rfl; exact (.there .here); exact (Row.cell hc)) | (apply OQ.move; exact rfl)) rfl ?_ | refine JC.seq ?_ | refine JC.region ?_ | refine JC.block ?_ | refine JC.skip ?_ | refine JE.next ?_)
      refine JL.store_eq (r' := (folded t i).map I) i1s rfl rfl rfl rfl .here (by rw [List.length_map, len]; (try simp only []); omega) (I_set _ _ _) ?_
      repeat (first | refine JL.q (by first | (apply OQ.move; exact rfl) | (apply OQ.lssN; exact rfl; exact rfl)) rfl ?_ | refine JC.seq ?_ | refine JC.region ?_ | refine JL.nil ?_ | refine JE.next ?_)
      have len2 : (folded t i).length = 16 := by rw [folded, List.length_set]; exact len
      refine JC.cond rfl (fun h => ?_) (fun h => ?_)
      · have h15 : i < 15 := of_decide_eq_true h
        clear h
        have hd := I_nth (l := folded t i) (i := i) (by omega)
        have e1 : nth (folded t i) i = nth t i := by rw [folded, nth_set _ _ _ _ (by omega), if_pos rfl]
        have he := I_nth (l := t) (i := i + 16) (by omega)
        have w2 := tw (i + 16)
        have e2 : fold t (i + 1) = (folded t i).set i (nth (folded t i) i + 38 * nth t (i + 16)) := by rw [fold, if_pos h15]; rfl
        skip
        refine JC.tail 10 mixC (by kernel_rfl) ?_
        simp only [List.take_succ_cons, List.take_zero, List.drop_succ_cons, List.drop_zero]
        repeat (first | refine JQ.q (by first | (apply OQ.idxA0; exact Tryd.underlying90; exact i1s; exact rfl; exact rfl; exact (by (try simp only []); omega)) | (apply OQ.idxA0; exact Tryd.underlying131; exact i1s; exact rfl; exact rfl; exact (by (try simp only []); omega)) | (apply OQ.load; exact i1c; exact rfl; exact .here; exact (Row.cell hd)) | (apply OQ.load; exact i1c; exact rfl; exact (.there .here); exact (Row.cell he)) | (apply OQ.mulI (a := 38); exact rfl; exact rfl; exact (by omega); exact (by omega)) | (apply OQ.addI; exact rfl; exact rfl; exact (by omega); exact (by omega)) | (apply OQ.move; exact rfl)) rfl ?_ | refine JQ.nil_tail ?_)
        refine JL.store_eq (r' := (fold t (i + 1)).map I) i1s rfl rfl rfl rfl .here (by rw [List.length_map, len2]; (try simp only []); omega) (by rw [I_set, e2]) ?_
        repeat (first | refine JL.q (by first | (apply OQ.move; exact rfl) | (apply OQ.assign; exact rfl) | (apply OQ.addN; exact rfl; exact rfl; exact (by (try simp only []); omega))) rfl ?_ | refine JC.region ?_ | refine JL.nil ?_ | refine JE.next ?_ | refine JE.blk_normal ?_)
        exact JE.again (i := i) (i + 1) (by omega) (by omega) (by repeat (first | exact SubE.nil | refine SubE.cons _ _ _ rfl ?_)) (Less.refl _)
      · have h15 : ¬ i < 15 := of_decide_eq_false h
        clear h
        have e2 : fold t (i + 1) = folded t i := by rw [fold, if_neg h15]; rfl
        rw [← e2]
        repeat (first | refine JL.q (by first | (apply OQ.move; exact rfl) | (apply OQ.assign; exact rfl) | (apply OQ.addN; exact rfl; exact rfl; exact (by (try simp only []); omega))) rfl ?_ | refine JC.region ?_ | refine JC.skip ?_ | refine JL.nil ?_ | refine JE.next ?_ | refine JE.blk_normal ?_)
        exact JE.again (i := i) (i + 1) (by omega) (by omega) (by repeat (first | exact SubE.nil | refine SubE.cons _ _ _ rfl ?_)) (Less.refl _)
    · have hi' : ¬ i < 16 := of_decide_eq_false h
      obtain rfl : i = 16 := by omega
      clear h hi hi'
      subst ht
      have fw := fold_wide ha hb
      have hf1 := Fit.of_wide fw (by decide)
      have l1 : (car (fold (tout a b 16) 16)).length = 16 := by rw [car, cit_len, len]
      have w2 : Wide 100000000000 (car (fold (tout a b 16) 16)) := car_wide fw
      have hf2 := Fit.of_wide w2 (by decide)
      have c1 := carry_any _ len hf1
      have c2 := carry_any _ l1 hf2
      have eM : car (car (fold (tout a b 16) 16)) = mulL a b := rfl
      have hl2 : ((mulL a b).map I).length = 16 := by rw [List.length_map]; exact (mulL_good ha hb).len
      have hl' : ((fold (tout a b 16) 16).map I).length = 16 := by rw [List.length_map]; exact len
      rw [eM] at c2
      clear eM hf1 hf2 w2 fw l1 tw tl len
      generalize mulL a b = M at *
      generalize car (fold (tout a b 16) 16) = G at *
      generalize fold (tout a b 16) 16 = X at *
      generalize tout a b 16 = T at *
      repeat (first | refine JL.q (by first | (apply OQ.load_agg (cs := X.map I); exact n16a; exact n16s; exact rfl; exact .here; exact hl'; exact Row.all) | (apply OQ.callx (vs := [.agg (X.map I).toArray]); exact goes_carry; exact rfl; exact (fun w' _ => c1 w')) | (apply OQ.callx (vs := [.agg (G.map I).toArray]); exact goes_carry; exact rfl; exact (fun w' _ => c2 w'))) rfl ?_ | refine JC.seq ?_ | refine JC.region ?_ | refine JC.exit ?_ | refine JE.next ?_ | refine JE.then_exit ?_ | refine JE.blk_hit ?_)
      refine JL.store_all (cs := M.map I) n16s rfl rfl hl2 (I_cell _) (.there (.there .here)) (by simp) ?_
      repeat (first | refine JL.nil ?_ | refine JE.next ?_)
      refine JC.ret (JE.ret1 rfl (RV.cell_agg n16a n16s rfl (.there (.there .here)) hl2 Row.all) ?_)
      exact fun w' hw => ⟨rfl, hw.chg⟩
end Go.Proofs.YtbhlcnimjoppeaaDoor

/-
  Of no statement by itself: bytes as limbs, and one by a number as a power; no program stands here.
  Conditions: none but each lemma's own.
-/
namespace Go.Proofs.YtbhlcnimjoppeaaDoor
namespace Crv
abbrev By := BitVec 8
/-- bytes as a number, that of the least weight first -/
def le : List By → Nat
  | [] => 0
  | b :: l => b.toNat + 256 * le l
def wordN (u : List By) (i : Nat) : Nat := (u.getD (2 * i) 0).toNat + 256 * (u.getD (2 * i + 1) 0).toNat
theorem wordN_lt (u : List By) (i : Nat) : wordN u i < 65536 := by
  have a := (u.getD (2 * i) 0).isLt
  have b := (u.getD (2 * i + 1) 0).isLt
  unfold wordN
  omega
def rdL (u : List By) : Nat → List Int
  | 0 => List.replicate 16 0
  | i + 1 => (rdL u i).set i ((wordN u i : Nat) : Int)
def readL (u : List By) : List Int := (rdL u 16).set 15 ((wordN u 15 % 32768 : Nat) : Int)
theorem rdL_len (u : List By) : ∀ i, (rdL u i).length = 16
  | 0 => rfl
  | i + 1 => by rw [rdL, List.length_set, rdL_len u i]
theorem rdL_nth (u : List By) (j : Nat) : ∀ i, i ≤ 16 → nth (rdL u i) j = if j < i then ((wordN u j : Nat) : Int) else 0
  | 0, _ => by rw [rdL, rep0_nth]; rfl
  | i + 1, h => by
    rw [rdL, nth_set _ _ _ _ (by rw [rdL_len]; omega), rdL_nth u j i (by omega)]
    by_cases e : i = j
    · subst e
      rw [if_pos rfl, if_pos (by omega)]
    · rw [if_neg e]
      by_cases e2 : j < i
      · rw [if_pos e2, if_pos (by omega)]
      · rw [if_neg e2, if_neg (by omega)]
def lw (u : List By) : Nat → Nat
  | 0 => 0
  | k + 1 => lw u k + wordN u k * 65536 ^ k
theorem lw_ps (u : List By) : ∀ k, k ≤ 16 → ps (rdL u 16) k = (lw u k : Nat)
  | 0, _ => rfl
  | k + 1, h => by
    show ps (rdL u 16) k + nth (rdL u 16) k * 65536 ^ k = ((lw u k + wordN u k * 65536 ^ k : Nat) : Int)
    rw [lw_ps u k (by omega), rdL_nth u k 16 (by omega), if_pos (by omega)]
    simp
theorem lw_lt (u : List By) : ∀ k, lw u k < 65536 ^ k
  | 0 => by show 0 < 65536 ^ 0; rw [Nat.pow_zero]; omega
  | k + 1 => by
    have ih := lw_lt u k
    have w := wordN_lt u k
    have m := Nat.mul_le_mul_right (65536 ^ k) (Nat.le_of_lt_succ (show wordN u k < 65535 + 1 by omega))
    show lw u k + wordN u k * 65536 ^ k < 65536 ^ (k + 1)
    rw [Nat.pow_succ]
    omega
theorem le_lw (u : List By) (hu : u.length = 32) : ∀ k, k ≤ 16 → le u = lw u k + 65536 ^ k * le (u.drop (2 * k))
  | 0, _ => by rw [lw, Nat.zero_add, Nat.pow_zero, Nat.one_mul, Nat.mul_zero, List.drop_zero]
  | k + 1, h => by
    rw [le_lw u hu k (by omega)]
    have e1 : u.drop (2 * k) = u.getD (2 * k) 0 :: u.getD (2 * k + 1) 0 :: u.drop (2 * (k + 1)) := by
      rw [List.drop_eq_getElem_cons (by omega), List.drop_eq_getElem_cons (by omega)]
      simp only [List.getD_eq_getElem?_getD, List.getElem?_eq_getElem (show 2 * k < u.length by omega), List.getElem?_eq_getElem (show 2 * k + 1 < u.length by omega), Option.getD_some]
      rfl
    rw [e1]
    show lw u k + 65536 ^ k * ((u.getD (2 * k) 0).toNat + 256 * ((u.getD (2 * k + 1) 0).toNat + 256 * le (u.drop (2 * (k + 1))))) = lw u k + wordN u k * 65536 ^ k + 65536 ^ (k + 1) * le (u.drop (2 * (k + 1)))
    have e2 : (u.getD (2 * k) 0).toNat + 256 * ((u.getD (2 * k + 1) 0).toNat + 256 * le (u.drop (2 * (k + 1)))) = wordN u k + 65536 * le (u.drop (2 * (k + 1))) := by unfold wordN; omega
    rw [e2, Nat.mul_add, Nat.pow_succ, Nat.mul_comm (wordN u k), Nat.mul_assoc, Nat.add_assoc]
theorem mod_top (M x y : Nat) (hy : y < M) : (y + x * M) % (32768 * M) = y + (x % 32768) * M := by
  have e : y + x * M = (y + (x % 32768) * M) + (x / 32768) * (32768 * M) := by
    have h : x = x % 32768 + (x / 32768) * 32768 := by omega
    rw [Nat.add_assoc, ← Nat.mul_assoc, ← Nat.add_mul, ← h]
  have l : (x % 32768) * M ≤ 32767 * M := Nat.mul_le_mul_right M (by omega)
  have l2 : 32768 * M = 32767 * M + M := by omega
  rw [e, Nat.add_mul_mod_self_right, Nat.mod_eq_of_lt (by omega)]
def top : Nat := 32768 * 65536 ^ 15
theorem readL_val (u : List By) (hu : u.length = 32) : val (readL u) = ((le u % top : Nat) : Int) := by
  have e := le_lw u hu 16 (by omega)
  have e0 : u.drop (2 * 16) = [] := List.drop_eq_nil_of_le (by omega)
  have e1 : lw u 16 = lw u 15 + wordN u 15 * 65536 ^ 15 := rfl
  have e2 := lw_lt u 15
  rw [e0] at e
  have e3 : le u = lw u 15 + wordN u 15 * 65536 ^ 15 := by
    rw [e, ← e1]
    show lw u 16 + 65536 ^ 16 * 0 = lw u 16
    rw [Nat.mul_zero, Nat.add_zero]
  rw [e3, top, mod_top _ _ _ e2, readL, val_set _ _ _ (by rw [rdL_len]; omega), rdL_nth u 15 16 (by omega), if_pos (by omega), val_ps _ 16 (by rw [rdL_len]; omega), lw_ps u 16 (by omega), e1]
  clear e e0 e1 e2 e3
  generalize wordN u 15 = x
  generalize lw u 15 = y
  rw [Int.natCast_add, Int.natCast_add, Int.natCast_mul, Int.natCast_mul, Int.natCast_pow, Int.sub_mul]
  rw [show ((65536 : Nat) : Int) = 65536 from rfl]
  generalize (65536 : Int) ^ 15 = M
  omega
theorem readL_good (u : List By) : Good (readL u) := by
  have n : ∀ j, j < 16 → 0 ≤ nth (readL u) j ∧ nth (readL u) j ≤ 65535 := fun j hj => by
    have a := wordN_lt u j
    have b := wordN_lt u 15
    rw [readL, nth_set _ _ _ _ (by rw [rdL_len]; omega), rdL_nth u j 16 (by omega), if_pos hj]
    split <;> omega
  refine ⟨by rw [readL, List.length_set, rdL_len], ?_, fun j _ h => n j h⟩
  have := n 0 (by omega)
  omega
/-- a point's bytes as a number modulo p -/
def pt (u : List By) : F := fi ((le u % top : Nat) : Int)
theorem readL_fv (u : List By) (hu : u.length = 32) : fv (readL u) = pt u := by rw [fv, readL_val u hu]; rfl
/-! ### one by a number -/
def oneL : List Int := 1 :: List.replicate 15 0
theorem oneL_good : Good oneL := ⟨rfl, by decide, fun j h0 h1 => by rw [show oneL = los 1 0 from rfl, los_nth _ _ _ h1, if_neg (by omega)]; omega⟩
theorem oneL_fv : fv oneL = 1 := by decide +kernel
def invS (a : List Int) : Nat → List Int
  | 0 => oneL
  | n + 1 => if n = 252 ∨ n = 250 then mulL (invS a n) (invS a n) else mulL (mulL (invS a n) (invS a n)) a
def invE : Nat → Nat
  | 0 => 0
  | n + 1 => if n = 252 ∨ n = 250 then 2 * invE n else 2 * invE n + 1
theorem invS_good {a : List Int} (ha : Good a) : ∀ n, Good (invS a n)
  | 0 => oneL_good
  | n + 1 => by
    have ih := invS_good ha n
    rw [invS]
    split
    · exact mulL_good ih ih
    · exact mulL_good (mulL_good ih ih) ha
theorem invS_fv {a : List Int} (ha : Good a) : ∀ n, fv (invS a n) = pw (fv a) (invE n)
  | 0 => oneL_fv
  | n + 1 => by
    have ih := invS_fv ha n
    have g := invS_good ha n
    rw [invS, invE]
    have e : pw (fv a) (2 * invE n) = pw (fv a) (invE n) * pw (fv a) (invE n) := by rw [Nat.two_mul, pw_add]
    split
    · rw [mulL_fv g.len g.len, ih, e]
    · rw [mulL_fv (mulL_good g g).len ha.len, mulL_fv g.len g.len, ih]
      show _ = pw (fv a) (2 * invE n) * fv a
      rw [e]
theorem invE_all : invE 255 = P - 2 := by decide +kernel
theorem invL_fv {a : List Int} (ha : Good a) : fv (invS a 255) = inv (fv a) := by rw [invS_fv ha, invE_all]; rfl
end Crv
end Go.Proofs.YtbhlcnimjoppeaaDoor

/-
  Of no statement by itself: what the reference's Read and Inverse give.
  Conditions: each theorem's own.
-/
namespace Go.Proofs.YtbhlcnimjoppeaaDoor
set_option maxRecDepth 10000
open Sl Crv

theorem goes_nread : Goes Tryd.prog 53 := ⟨_, Tryd.func53, rfl, by kernel_rfl⟩
theorem goes_ninv : Goes Tryd.prog 58 := ⟨_, Tryd.func58, rfl, by kernel_rfl⟩
theorem k32s : szT Tryd.prog 23 = some 32 := by kernel_rfl
theorem k32a : aggT Tryd.prog 23 = true := by kernel_rfl
theorem y1s : szT Tryd.prog 5 = some 1 := by kernel_rfl
theorem y1c : scal Tryd.prog 5 = true := by kernel_rfl
theorem U8_nth {l : List By} {i : Nat} (h : i < l.length) : (l.map U8)[i]? = some (U8 (l.getD i 0)) := by
  simp [h]
section
variable {P : Program} {n : Nat} {E : Env} {C : World → Prop} {dst : Option Tmp} {ty t t' : TypeId} {pos : String} {aft : Array Edge} {g : Option (Nat × Bool)} {x y : Operand}
theorem OQ.nei_t {k : IntKind} {a b : Int} (hx : ev E x = some (.int k a)) (hy : ev E y = some (.int k b)) (h : ¬ a = b) : OQ P n E C ⟨dst, .binOp .neq t x y t', ty, pos, aft, g⟩ (.bool true) := by
  have e : (!decide (a = b)) = true := by rw [decide_eq_false h]; rfl
  exact e ▸ OQ.nei hx hy
end

set_option maxHeartbeats 8000000 in
theorem nread_any (u : List By) (hu : u.length = 32) (w : World) : Calls Tryd.prog 53 [.agg (u.map U8).toArray].toArray w fun e w' => e = .returned (.agg ((readL u).map I).toArray) ∧ Ext w w' := by
  refine enter (n := 30) Tryd.func53 rfl rfl rfl (Holds.start w []) ?_
  repeat (first | refine JC.seq ?_ | refine JC.region ?_)
  refine JL.box (r := u.map U8) rfl rfl rfl fun b1 _ => ?_
  refine JL.alloc n16z rfl fun b2 _ => ?_
  repeat (first | refine JC.seq ?_ | refine JC.region ?_ | refine JL.nil ?_ | refine JE.next ?_)
  refine JL.q (OQ.pure (v := .agg ((rdL u 0).map I).toArray) rfl rfl (by kernel_rfl)) rfl ?_
  refine JL.alloc n16z rfl fun b3 _ => ?_
  refine JL.store_all n16s rfl rfl rfl (I_cell _) .here (by simp) ?_
  repeat (first | refine JL.q (by (apply OQ.assign; exact rfl)) rfl ?_ | refine JC.seq ?_ | refine JC.region ?_ | refine JC.block ?_ | refine JL.nil ?_ | refine JE.next ?_)
  refine JC.loop (fun i : Nat => [(1, Pt b1 0), (2, Pt b2 0), (3, Pt b3 0), (4, N i)])
    (fun i => [⟨b3, Row 90 ((rdL u i).map I), true⟩, ⟨b2, Row 90 ((List.replicate 16 (0 : Int)).map I), true⟩, ⟨b1, Row 23 (u.map U8), true⟩])
    (fun i => 16 - i) (fun i => i ≤ 16) 0 (by omega) (by repeat (first | exact SubE.nil | refine SubE.cons _ _ _ rfl ?_)) (Less.refl _) ?_
  intro i hi
  have len := rdL_len u i
  repeat (first | refine JL.q (by first | (apply OQ.move; exact rfl) | (apply OQ.lssN; exact rfl; exact rfl)) rfl ?_ | refine JC.seq ?_ | refine JC.region ?_ | refine JL.nil ?_ | refine JE.next ?_)
  refine JC.cond rfl (fun h => ?_) (fun h => ?_)
  · have hi' : i < 16 := of_decide_eq_true h
    clear h hi
    have hc := U8_nth (l := u) (i := 2 * i) (by omega)
    have hd := U8_nth (l := u) (i := 2 * i + 1) (by omega)
    have q1 := (u.getD (2 * i) 0).isLt
    have q2 := (u.getD (2 * i + 1) 0).isLt
    repeat (first | refine JC.seq ?_ | refine JC.block ?_ | refine JC.skip ?_ | refine JE.next ?_)
    refine JC.tail 15 mixC (by kernel_rfl) ?_
    simp only [List.take_succ_cons, List.take_zero, List.drop_succ_cons, List.drop_zero]
    repeat (first | refine JQ.q (by first | (apply OQ.idxA0; exact Tryd.underlying23; exact y1s; exact rfl; exact rfl; exact (by (try simp only []); omega)) | (apply OQ.idxA0; exact Tryd.underlying90; exact i1s; exact rfl; exact rfl; exact (by (try simp only []); omega)) | (apply OQ.load; exact y1c; exact rfl; exact (.there (.there .here)); exact (Row.cell hc)) | (apply OQ.load; exact y1c; exact rfl; exact (.there (.there .here)); exact (Row.cell hd)) | (apply OQ.conv8_N; exact rfl; exact rfl; exact rfl) | (apply OQ.move; exact rfl) | (apply OQ.addN; exact rfl; exact rfl; exact (by (try simp only []); omega)) | (apply OQ.mulN; exact rfl; exact rfl; exact (by (try simp only []); omega))) rfl ?_ | refine JQ.nil_tail ?_)
    refine JL.store_eq (r' := (rdL u (i + 1)).map I) i1s rfl rfl rfl rfl .here (by rw [List.length_map, len]; (try simp only []); omega) (I_set _ _ _) ?_
    repeat (first | refine JL.q (by first | (apply OQ.move; exact rfl) | (apply OQ.assign; exact rfl) | (apply OQ.addN; exact rfl; exact rfl; exact (by (try simp only []); omega))) rfl ?_ | refine JC.region ?_ | refine JL.nil ?_ | refine JE.next ?_ | refine JE.blk_normal ?_)
    exact JE.again (i := i) (i + 1) (by omega) (by omega) (by repeat (first | exact SubE.nil | refine SubE.cons _ _ _ rfl ?_)) (Less.refl _)
  · have hi' : ¬ i < 16 := of_decide_eq_false h
    obtain rfl : i = 16 := by omega
    clear h hi hi'
    have hc : ((rdL u 16).map I)[15]? = some (N (wordN u 15)) := by
      rw [I_nth (by rw [len]; decide), rdL_nth u 15 16 (by omega)]
      rfl
    have hl' : ((readL u).map I).length = 16 := by rw [List.length_map]; exact (readL_good u).len
    repeat (first | refine JL.q (by first | (apply OQ.idxA0; exact Tryd.underlying90; exact i1s; exact rfl; exact rfl; exact (by decide)) | (apply OQ.load; exact i1c; exact rfl; exact .here; exact (Row.cell hc)) | (apply OQ.remN; exact rfl; exact rfl; exact (by (try simp only []); omega))) rfl ?_ | refine JC.seq ?_ | refine JC.region ?_ | refine JC.exit ?_ | refine JE.next ?_ | refine JE.then_exit ?_ | refine JE.blk_hit ?_)
    refine JL.store_eq (r' := (readL u).map I) i1s rfl rfl rfl rfl .here (by rw [List.length_map, len]; decide) (I_set _ _ _) ?_
    repeat (first | refine JL.q (by (apply OQ.load_agg (cs := (readL u).map I); exact n16a; exact n16s; exact rfl; exact .here; exact hl'; exact Row.all)) rfl ?_ | refine JC.seq ?_ | refine JC.region ?_ | refine JL.nil ?_ | refine JE.next ?_)
    refine JL.store_all n16s rfl rfl hl' (I_cell _) (.there .here) (by simp) ?_
    repeat (first | refine JL.nil ?_ | refine JE.next ?_)
    refine JC.ret (JE.ret1 rfl (RV.cell_agg n16a n16s rfl (.there .here) hl' Row.all) ?_)
    exact fun w' hw => ⟨rfl, hw.chg⟩

set_option maxHeartbeats 8000000 in
theorem ninv_any (a : List Int) (ha : Good a) (w : World) : Calls Tryd.prog 58 [.agg (a.map I).toArray].toArray w fun e w' => e = .returned (.agg ((invS a 255).map I).toArray) ∧ Ext w w' := by
  refine enter (n := 23) Tryd.func58 rfl rfl rfl (Holds.start w []) ?_
  repeat (first | refine JC.seq ?_ | refine JC.region ?_)
  refine JL.box (r := a.map I) rfl rfl rfl fun b1 _ => ?_
  refine JL.alloc n16z rfl fun b2 _ => ?_
  repeat (first | refine JC.seq ?_ | refine JC.region ?_ | refine JL.nil ?_ | refine JE.next ?_)
  refine JL.q (OQ.pure (v := .agg ((invS a 0).map I).toArray) rfl rfl (by kernel_rfl)) rfl ?_
  refine JL.alloc n16z rfl fun b3 _ => ?_
  refine JL.store_all n16s rfl rfl rfl (I_cell _) .here (by simp) ?_
  repeat (first | refine JL.q (by (apply OQ.assign; exact rfl)) rfl ?_ | refine JC.seq ?_ | refine JC.region ?_ | refine JC.block ?_ | refine JL.nil ?_ | refine JE.next ?_)
  refine JC.loop (fun i : Nat => [(1, Pt b1 0), (2, Pt b2 0), (3, Pt b3 0), (4, I (254 - i))])
    (fun i => [⟨b3, Row 90 ((invS a i).map I), true⟩, ⟨b2, Row 90 ((List.replicate 16 (0 : Int)).map I), true⟩, ⟨b1, Row 90 (a.map I), true⟩])
    (fun i => 255 - i) (fun i => i ≤ 255) 0 (by omega) (by repeat (first | exact SubE.nil | refine SubE.cons _ _ _ rfl ?_)) (Less.refl _) ?_
  intro i hi
  have g0 := invS_good ha i
  have hl0 : ((invS a i).map I).length = 16 := by rw [List.length_map]; exact g0.len
  have hla : (a.map I).length = 16 := by rw [List.length_map]; exact ha.len
  repeat (first | refine JL.q (by first | (apply OQ.geqI (b := 0); exact rfl; exact rfl) | (apply OQ.move; exact rfl)) rfl ?_ | refine JC.seq ?_ | refine JC.region ?_ | refine JL.nil ?_ | refine JE.next ?_)
  refine JC.cond rfl (fun h => ?_) (fun h => ?_)
  · have hi' : (0 : Int) ≤ 254 - i := of_decide_eq_true h
    clear h hi
    have g1 := mulL_good g0 g0
    have c1 := times_any _ _ g0 g0
    have c2 := times_any _ _ g1 ha
    have hl1 : ((mulL (invS a i) (invS a i)).map I).length = 16 := by rw [List.length_map]; exact g1.len
    have hl2 : ((mulL (mulL (invS a i) (invS a i)) a).map I).length = 16 := by rw [List.length_map]; exact (mulL_good g1 ha).len
    have e1 : invS a (i + 1) = if i = 252 ∨ i = 250 then mulL (invS a i) (invS a i) else mulL (mulL (invS a i) (invS a i)) a := rfl
    generalize mulL (mulL (invS a i) (invS a i)) a = Z at *
    generalize mulL (invS a i) (invS a i) = Y at *
    generalize invS a i = X at *
    repeat (first | refine JL.q (by first | (apply OQ.load_agg (cs := X.map I); exact n16a; exact n16s; exact rfl; exact .here; exact hl0; exact Row.all) | (apply OQ.callx (vs := [.agg (X.map I).toArray, .agg (X.map I).toArray]); exact goes_times; exact rfl; exact (fun w' _ => c1 w'))) rfl ?_ | refine JC.seq ?_ | refine JC.region ?_ | refine JC.block ?_ | refine JC.skip ?_ | refine JE.next ?_)
    refine JL.store_all (cs := Y.map I) n16s rfl rfl hl1 (I_cell _) .here (by rw [hl0]) ?_
    by_cases k1 : i = 252
    · repeat (first | refine JL.q (by first | (apply OQ.nei_f; exact rfl; exact rfl; exact (by omega)) | (apply OQ.pick_f; exact rfl; exact rfl) | (apply OQ.move; exact rfl)) rfl ?_ | refine JC.seq ?_ | refine JC.region ?_ | refine JL.nil ?_ | refine JE.next ?_ | refine JL.gskip rfl rfl rfl rfl ?_)
      refine JC.cond_false rfl rfl ?_
      rw [if_pos (Or.inl k1)] at e1
      rw [← e1]
      repeat (first | refine JL.q (by first | (apply OQ.subI (b := 1); exact rfl; exact rfl; exact (by omega); exact (by omega)) | (apply OQ.move; exact rfl) | (apply OQ.assign; exact rfl)) rfl ?_ | refine JC.region ?_ | refine JC.skip ?_ | refine JL.nil ?_ | refine JE.next ?_ | refine JE.blk_normal ?_)
      refine JE.again (i := i) (i + 1) (by omega) (by omega) ?_ (Less.refl _)
      rw [show (254 - ((i + 1 : Nat) : Int)) = 254 - (i : Int) - 1 by omega]
      exact (by repeat (first | exact SubE.nil | refine SubE.cons _ _ _ rfl ?_))
    · by_cases k2 : i = 250
      · repeat (first | refine JL.q (by first | (apply OQ.nei_t; exact rfl; exact rfl; exact (by omega)) | (apply OQ.nei_f; exact rfl; exact rfl; exact (by omega)) | (apply OQ.pick_t; exact rfl; exact rfl) | (apply OQ.move; exact rfl)) rfl ?_ | refine JC.seq ?_ | refine JC.region ?_ | refine JL.nil ?_ | refine JE.next ?_ | refine JL.gon rfl rfl ?_)
        refine JC.cond_false rfl rfl ?_
        rw [if_pos (Or.inr k2)] at e1
        rw [← e1]
        repeat (first | refine JL.q (by first | (apply OQ.subI (b := 1); exact rfl; exact rfl; exact (by omega); exact (by omega)) | (apply OQ.move; exact rfl) | (apply OQ.assign; exact rfl)) rfl ?_ | refine JC.region ?_ | refine JC.skip ?_ | refine JL.nil ?_ | refine JE.next ?_ | refine JE.blk_normal ?_)
        refine JE.again (i := i) (i + 1) (by omega) (by omega) ?_ (Less.refl _)
        rw [show (254 - ((i + 1 : Nat) : Int)) = 254 - (i : Int) - 1 by omega]
        exact (by repeat (first | exact SubE.nil | refine SubE.cons _ _ _ rfl ?_))
      · repeat (first | refine JL.q (by first | (apply OQ.nei_t; exact rfl; exact rfl; exact (by omega)) | (apply OQ.pick_t; exact rfl; exact rfl) | (apply OQ.move; exact rfl)) rfl ?_ | refine JC.seq ?_ | refine JC.region ?_ | refine JL.nil ?_ | refine JE.next ?_ | refine JL.gon rfl rfl ?_)
        refine JC.cond_true rfl rfl ?_
        rw [if_neg (by omega)] at e1
        repeat (first | refine JL.q (by first | (apply OQ.load_agg (cs := Y.map I); exact n16a; exact n16s; exact rfl; exact .here; exact hl1; exact Row.all) | (apply OQ.load_agg (cs := a.map I); exact n16a; exact n16s; exact rfl; exact (.there (.there .here)); exact hla; exact Row.all) | (apply OQ.callx (vs := [.agg (Y.map I).toArray, .agg (a.map I).toArray]); exact goes_times; exact rfl; exact (fun w' _ => c2 w'))) rfl ?_ | refine JC.region ?_)
        refine JL.store_all (cs := Z.map I) n16s rfl rfl hl2 (I_cell _) .here (by rw [hl1]) ?_
        rw [← e1]
        repeat (first | refine JL.q (by first | (apply OQ.subI (b := 1); exact rfl; exact rfl; exact (by omega); exact (by omega)) | (apply OQ.move; exact rfl) | (apply OQ.assign; exact rfl)) rfl ?_ | refine JC.region ?_ | refine JL.nil ?_ | refine JE.next ?_ | refine JE.blk_normal ?_)
        refine JE.again (i := i) (i + 1) (by omega) (by omega) ?_ (Less.refl _)
        rw [show (254 - ((i + 1 : Nat) : Int)) = 254 - (i : Int) - 1 by omega]
        exact (by repeat (first | exact SubE.nil | refine SubE.cons _ _ _ rfl ?_))
  · have hi' : ¬ (0 : Int) ≤ 254 - i := of_decide_eq_false h
    obtain rfl : i = 255 := by omega
    clear h hi hi'
    generalize invS a 255 = X at *
    repeat (first | refine JL.q (by (apply OQ.load_agg (cs := X.map I); exact n16a; exact n16s; exact rfl; exact .here; exact hl0; exact Row.all)) rfl ?_ | refine JC.seq ?_ | refine JC.region ?_ | refine JC.exit ?_ | refine JE.next ?_ | refine JE.then_exit ?_ | refine JE.blk_hit ?_)
    refine JL.store_all (cs := X.map I) n16s rfl rfl hl0 (I_cell _) (.there .here) (by simp) ?_
    repeat (first | refine JL.nil ?_ | refine JE.next ?_)
    refine JC.ret (JE.ret1 rfl (RV.cell_agg n16a n16s rfl (.there .here) hl0 Row.all) ?_)
    exact fun w' hw => ⟨rfl, hw.chg⟩
end Go.Proofs.YtbhlcnimjoppeaaDoor

/-
  Of no statement by itself: limbs made small, less than p, and as bytes; no program stands here.
  Conditions: none but each lemma's own.
-/
namespace Go.Proofs.YtbhlcnimjoppeaaDoor
namespace Crv
/-- each limb has its sixteen bits -/
structure Norm (l : List Int) : Prop where
  len : l.length = 16
  all : ∀ j, j < 16 → 0 ≤ nth l j ∧ nth l j ≤ 65535
theorem Norm.good {l : List Int} (h : Norm l) : Good l := ⟨h.len, by have := h.all 0 (by omega); omega, fun j _ hj => h.all j hj⟩
theorem set_same (l : List Int) (i : Nat) (h : i < l.length) : l.set i (nth l i) = l := by
  unfold nth
  rw [List.getD_eq_getElem?_getD, List.getElem?_eq_getElem h]
  exact List.set_getElem_self h
theorem Norm.cstep {l : List Int} (h : Norm l) {i : Nat} (hi : i < 16) : Crv.cstep l i = l := by
  have a := h.all i hi
  have q : nth l i / 65536 = 0 := by omega
  have e : l.set i (nth l i - nth l i / 65536 * 65536) = l := by
    rw [q, Int.zero_mul, Int.sub_zero, set_same _ _ (by rw [h.len]; omega)]
  unfold Crv.cstep
  simp only
  rw [e, q, Int.mul_zero, Int.add_zero, Int.add_zero]
  split
  · exact set_same _ _ (by rw [h.len]; omega)
  · exact set_same _ _ (by rw [h.len]; omega)
theorem Norm.cit {l : List Int} (h : Norm l) : ∀ i, i ≤ 16 → Crv.cit l i = l
  | 0, _ => rfl
  | i + 1, hi => by
    show Crv.cstep (Crv.cit l i) i = l
    rw [h.cit i (by omega), h.cstep (by omega)]
theorem Norm.car {l : List Int} (h : Norm l) : Crv.car l = l := h.cit 16 (by omega)
/-! ### bounds of sums -/
theorem ps_bd (l : List Int) : ∀ k, (∀ j, j < k → 0 ≤ nth l j ∧ nth l j ≤ 65535) → 0 ≤ ps l k ∧ ps l k ≤ 65536 ^ k - 1
  | 0, _ => by show (0 : Int) ≤ 0 ∧ (0 : Int) ≤ 65536 ^ 0 - 1; rw [Int.pow_zero]; omega
  | k + 1, h => by
    have ih := ps_bd l k fun j hj => h j (by omega)
    have a := h k (by omega)
    have m : (0 : Int) < 65536 ^ k := Int.pow_pos (by decide)
    show 0 ≤ ps l k + nth l k * 65536 ^ k ∧ ps l k + nth l k * 65536 ^ k ≤ 65536 ^ (k + 1) - 1
    rw [Int.pow_succ]
    generalize (65536 : Int) ^ k = M at *
    have p0 := Int.mul_nonneg a.1 (Int.le_of_lt m)
    have p1 := Int.mul_le_mul_of_nonneg_right a.2 (Int.le_of_lt m)
    omega
/-- the first limb, and the sum of the others -/
theorem ps_first (l : List Int) : ∀ k, ∃ s, ps l (k + 1) = nth l 0 + 65536 * s ∧ ((∀ j, 0 < j → j < k + 1 → 0 ≤ nth l j ∧ nth l j ≤ 65535) → 0 ≤ s ∧ s ≤ 65536 ^ k - 1)
  | 0 => ⟨0, by show 0 + nth l 0 * 65536 ^ 0 = _; rw [Int.pow_zero]; omega, fun _ => by rw [Int.pow_zero]; omega⟩
  | k + 1 => by
    obtain ⟨s, e, b⟩ := ps_first l k
    refine ⟨s + nth l (k + 1) * 65536 ^ k, ?_, fun h => ?_⟩
    · show ps l (k + 1) + nth l (k + 1) * 65536 ^ (k + 1) = _
      rw [e, Int.pow_succ, Int.mul_add, Int.mul_comm (65536 ^ k) 65536, Int.mul_left_comm, Int.add_assoc]
    · have b := b fun j h0 h1 => h j h0 (by omega)
      have a := h (k + 1) (by omega) (by omega)
      have m : (0 : Int) < 65536 ^ k := Int.pow_pos (by decide)
      rw [Int.pow_succ]
      generalize (65536 : Int) ^ k = M at *
      have p0 := Int.mul_nonneg a.1 (Int.le_of_lt m)
      have p1 := Int.mul_le_mul_of_nonneg_right a.2 (Int.le_of_lt m)
      omega
theorem last_limb {M N q r S S' f V S'' f0 : Int} (hM : M = 65536 * N) (e1 : S + (q * 65536 + r) * M = V) (e2 : S = f + 65536 * S') (b0 : 0 ≤ S') (b1 : S' ≤ N - 1) (hr : 0 ≤ r) (hr2 : r ≤ 65535) (hf : 0 ≤ f) (hf2 : f ≤ 65535)
    (hq : q = -1 ∨ q = 0 ∨ q = 1) (v0 : V = f0 + 65536 * S'') (hf0 : -128 ≤ f0) (hf1 : f0 ≤ 65663) (c0 : 0 ≤ S'') (c1 : S'' ≤ M - 1) : 0 ≤ f + 38 * q ∧ f + 38 * q ≤ 65535 := by
  have m0 : 0 ≤ M := by omega
  have p0 := Int.mul_nonneg hr m0
  have p1 := Int.mul_le_mul_of_nonneg_right hr2 m0
  rw [Int.add_mul] at e1
  generalize r * M = R at *
  rcases hq with rfl | rfl | rfl
  · rw [show (-1 * 65536 * M : Int) = -(65536 * M) by omega] at e1
    omega
  · omega
  · rw [show (1 * 65536 * M : Int) = 65536 * M by omega] at e1
    omega
theorem Good.norm {l : List Int} (h : Good l) : Norm (car l) := by
  have c := Cst.all h.len h.btw 15 (by omega)
  have v := val_cit h.len 15 (by omega)
  have len := cit_len l 15
  rw [h.len] at len
  show Norm (cstep (cit l 15) 15)
  obtain ⟨_, done, here, _⟩ := c
  have k1 : cmin (los (-128) 0) 15 = -1 := by decide
  have k2 : cmin (los 65663 65535) 15 = 1 := by decide
  rw [k1, k2, los_nth _ _ _ (by omega), los_nth _ _ _ (by omega), if_neg (by omega), if_neg (by omega)] at here
  obtain ⟨S', e2, b2⟩ := ps_first (cit l 15) 14
  obtain ⟨S'', e3, b3⟩ := ps_first l 15
  have b2 := b2 fun j _ hj => done j hj
  have b3 := b3 fun j h0 hj => h.rest j h0 hj
  have f0 := h.first
  have d0 := done 0 (by omega)
  rw [val_ps _ 16 (by omega), val_ps l 16 (by rw [h.len]; omega), e3] at v
  have v1 : ps (cit l 15) 16 = ps (cit l 15) 15 + nth (cit l 15) 15 * 65536 ^ 15 := rfl
  rw [v1] at v
  have hM : (65536 : Int) ^ 15 = 65536 * 65536 ^ 14 := by rw [Int.pow_succ, Int.mul_comm]
  have top := last_limb (q := nth (cit l 15) 15 / 65536) (r := nth (cit l 15) 15 % 65536) hM (by rw [show nth (cit l 15) 15 / 65536 * 65536 + nth (cit l 15) 15 % 65536 = nth (cit l 15) 15 by omega]; exact v) e2 b2.1 b2.2 (by omega) (by omega) d0.1 d0.2 (by omega) rfl f0.1 f0.2 b3.1 b3.2
  clear v v1 e2 e3 b2 b3 hM
  generalize cit l 15 = m at *
  unfold cstep
  simp only [show ¬ (15 : Nat) < 15 by decide, if_false]
  refine ⟨by simp [len], fun j hj => ?_⟩
  have n0 : nth (m.set 15 (nth m 15 - nth m 15 / 65536 * 65536)) 0 = nth m 0 := by rw [nth_set _ _ _ _ (by omega), if_neg (by omega)]
  rw [nth_set _ 0 j _ (by simp [len]), n0]
  by_cases e : 0 = j
  · rw [if_pos e]; exact top
  · rw [if_neg e, nth_set _ 15 j _ (by omega)]
    split
    · omega
    · exact done j (by omega)
/-! ### p taken off -/
def ptop (i : Nat) : Int := if i = 15 then 32767 else 65535
/-- p's limbs -/
def pl (i : Nat) : Int := if i = 0 then 65517 else ptop i
def sb (a : List Int) : Nat → List Int
  | 0 => (List.replicate 16 0).set 0 (nth a 0 - 65517)
  | k + 1 => ((sb a k).set (k + 1) (nth a (k + 1) - ptop (k + 1) - nth (sb a k) k / 65536 % 2)).set k (nth ((sb a k).set (k + 1) (nth a (k + 1) - ptop (k + 1) - nth (sb a k) k / 65536 % 2)) k % 65536)
structure Sst (a : List Int) (k : Nat) (m : List Int) : Prop where
  len : m.length = 16
  done : ∀ j, j < k → 0 ≤ nth m j ∧ nth m j ≤ 65535
  here : -65536 ≤ nth m k ∧ nth m k ≤ 65535
  zero : ∀ j, k < j → nth m j = 0
  sum : val m = ps a (k + 1) - ps ((List.range 16).map pl) (k + 1)
theorem pl_nth (j : Nat) (h : j < 16) : nth ((List.range 16).map pl) j = pl j := by
  unfold nth
  rw [List.getD_eq_getElem?_getD, List.getElem?_map, List.getElem?_range h]; rfl
theorem Sst.all {a : List Int} (h : Norm a) : ∀ k, k ≤ 15 → Sst a k (sb a k)
  | 0, _ => by
    have a0 := h.all 0 (by omega)
    refine ⟨rfl, fun j hj => absurd hj (by omega), ?_, fun j hj => ?_, ?_⟩
    · show -65536 ≤ nth a 0 - 65517 ∧ nth a 0 - 65517 ≤ 65535
      omega
    · rw [sb, nth_set _ _ _ _ (by simp), if_neg (by omega), rep0_nth]
    · rw [sb, val_set _ _ _ (by simp), rep0_nth, show val (List.replicate 16 0) = 0 by decide]
      show 0 + (nth a 0 - 65517 - 0) * 65536 ^ 0 = 0 + nth a 0 * 65536 ^ 0 - (0 + nth ((List.range 16).map pl) 0 * 65536 ^ 0)
      rw [pl_nth 0 (by omega), Int.pow_zero, show pl 0 = 65517 from rfl]
      omega
  | k + 1, hk => by
    have c := Sst.all h k (by omega)
    obtain ⟨len, done, here, zero, sum⟩ := c
    have ak := h.all (k + 1) (by omega)
    have tp : 32767 ≤ ptop (k + 1) ∧ ptop (k + 1) ≤ 65535 := by unfold ptop; split <;> omega
    have z1 := zero (k + 1) (by omega)
    rw [sb]
    have n1 : nth ((sb a k).set (k + 1) (nth a (k + 1) - ptop (k + 1) - nth (sb a k) k / 65536 % 2)) k = nth (sb a k) k := by rw [nth_set _ _ _ _ (by omega), if_neg (by omega)]
    have l1 : ((sb a k).set (k + 1) (nth a (k + 1) - ptop (k + 1) - nth (sb a k) k / 65536 % 2)).length = 16 := by rw [List.length_set]; exact len
    rw [n1]
    refine ⟨by rw [List.length_set]; exact l1, fun j hj => ?_, ?_, fun j hj => ?_, ?_⟩
    · rw [nth_set _ _ _ _ (by omega), nth_set _ _ _ _ (by omega)]
      split
      · omega
      · rw [if_neg (by omega)]; exact done j (by omega)
    · rw [nth_set _ _ _ _ (by omega), if_neg (by omega), nth_set _ _ _ _ (by omega), if_pos rfl]
      omega
    · rw [nth_set _ _ _ _ (by omega), if_neg (by omega), nth_set _ _ _ _ (by omega), if_neg (by omega)]
      exact zero j (by omega)
    · rw [val_set _ _ _ (by omega), val_set _ _ _ (by omega), sum, z1, n1]
      show _ = ps a (k + 1) + nth a (k + 1) * 65536 ^ (k + 1) - (ps ((List.range 16).map pl) (k + 1) + nth ((List.range 16).map pl) (k + 1) * 65536 ^ (k + 1))
      rw [pl_nth (k + 1) (by omega), show pl (k + 1) = ptop (k + 1) by unfold pl; rw [if_neg (by omega)]]
      have b : nth (sb a k) k % 65536 - nth (sb a k) k = (nth (sb a k) k / 65536 % 2) * 65536 := by omega
      rw [b]
      generalize nth (sb a k) k / 65536 % 2 = q
      generalize nth a (k + 1) = x
      generalize ptop (k + 1) = y
      rw [Int.pow_succ, Int.sub_zero, Int.mul_assoc q, Int.mul_comm 65536 (65536 ^ k), Int.sub_mul, Int.sub_mul]
      omega
theorem pl_sum : ps ((List.range 16).map pl) 16 = (P : Int) := by decide +kernel
/-- p once off, if that leaves something -/
def off (a : List Int) : List Int := if 0 ≤ nth (sb a 15) 15 then sb a 15 else a
theorem off_norm {a : List Int} (h : Norm a) : Norm (off a) := by
  have c := Sst.all h 15 (by omega)
  unfold off
  split
  next hp =>
    refine ⟨c.len, fun j hj => ?_⟩
    by_cases e : j = 15
    · subst e; exact ⟨hp, c.here.2⟩
    · exact c.done j (by omega)
  next => exact h
theorem Norm.val {a : List Int} (h : Norm a) : 0 ≤ Crv.val a ∧ Crv.val a ≤ 65536 ^ 16 - 1 := by
  rw [val_ps a 16 (by rw [h.len]; omega)]
  exact ps_bd a 16 fun j hj => h.all j hj
theorem off_val {a : List Int} (h : Norm a) : Crv.val (off a) = if (P : Int) ≤ Crv.val a then Crv.val a - P else Crv.val a := by
  have c := Sst.all h 15 (by omega)
  have s := c.sum
  rw [pl_sum, ← val_ps a 16 (by rw [h.len]; omega)] at s
  have e1 : Crv.val (sb a 15) = ps (sb a 15) 15 + nth (sb a 15) 15 * 65536 ^ 15 := by rw [val_ps _ 16 (by rw [c.len]; omega)]; rfl
  have b := ps_bd (sb a 15) 15 c.done
  have m : (0 : Int) < 65536 ^ 15 := Int.pow_pos (by decide)
  unfold off
  by_cases hp : 0 ≤ nth (sb a 15) 15
  · rw [if_pos hp]
    have q := Int.mul_nonneg hp (Int.le_of_lt m)
    rw [if_pos (by omega), s]
  · rw [if_neg hp]
    have q := Int.mul_le_mul_of_nonneg_right (show nth (sb a 15) 15 ≤ -1 by omega) (Int.le_of_lt m)
    rw [if_neg (by omega)]
theorem off2_val {a : List Int} (h : Norm a) : Crv.val (off (off a)) = ((fv a).val : Int) := by
  have v := h.val
  rw [off_val (off_norm h), off_val h, fv, fi_val]
  have e : (65536 : Int) ^ 16 = 2 * (P : Int) + 38 := by decide
  rw [e] at v
  have p : ((P : Nat) : Int) = 57896044618658097711785492504343953926634992332820282019728792003956564819949 := rfl
  rw [p] at v ⊢
  generalize Crv.val a = x at *
  by_cases h1 : (57896044618658097711785492504343953926634992332820282019728792003956564819949 : Int) ≤ x
  · rw [if_pos h1]
    by_cases h2 : (57896044618658097711785492504343953926634992332820282019728792003956564819949 : Int) ≤ x - 57896044618658097711785492504343953926634992332820282019728792003956564819949
    · rw [if_pos h2]; omega
    · rw [if_neg h2]; omega
  · rw [if_neg h1, if_neg h1]; omega
/-! ### as bytes -/
def keyB : Nat → Nat → List By
  | 0, _ => []
  | k + 1, n => BitVec.ofNat 8 n :: keyB k (n / 256)
theorem keyB_len : ∀ k n, (keyB k n).length = k
  | 0, _ => rfl
  | k + 1, n => by rw [keyB, List.length_cons, keyB_len k]
theorem keyB_le : ∀ b : List By, keyB b.length (le b) = b
  | [] => rfl
  | x :: b => by
    have h := x.isLt
    show BitVec.ofNat 8 (x.toNat + 256 * le b) :: keyB b.length ((x.toNat + 256 * le b) / 256) = x :: b
    have e1 : (x.toNat + 256 * le b) / 256 = le b := by omega
    have e2 : BitVec.ofNat 8 (x.toNat + 256 * le b) = x := by
      apply BitVec.eq_of_toNat_eq
      rw [BitVec.toNat_ofNat]
      omega
    rw [e1, e2, keyB_le b]
/-- limbs as bytes -/
def lb : List Int → List By
  | [] => []
  | x :: l => BitVec.ofInt 8 x :: BitVec.ofInt 8 (x / 256) :: lb l
theorem le_lb : ∀ l : List Int, (∀ x ∈ l, 0 ≤ x ∧ x ≤ 65535) → ((le (lb l) : Nat) : Int) = val l
  | [], _ => rfl
  | x :: l, h => by
    have hx := h x (List.mem_cons_self ..)
    have ih := le_lb l fun y hy => h y (List.mem_cons_of_mem _ hy)
    show (((BitVec.ofInt 8 x).toNat + 256 * ((BitVec.ofInt 8 (x / 256)).toNat + 256 * le (lb l)) : Nat) : Int) = x + 65536 * val l
    rw [← ih]
    have e1 : ((BitVec.ofInt 8 x).toNat : Int) = x % 256 := by rw [BitVec.toNat_ofInt]; omega
    have e2 : ((BitVec.ofInt 8 (x / 256)).toNat : Int) = x / 256 % 256 := by rw [BitVec.toNat_ofInt]; omega
    omega
theorem lb_len : ∀ l : List Int, (lb l).length = 2 * l.length
  | [] => rfl
  | x :: l => by
    show (lb l).length + 1 + 1 = 2 * (l.length + 1)
    rw [lb_len l]; omega
def writeL (a : List Int) : List By := lb (off (off (car a)))
/-- a number modulo p as a key -/
def keyF (x : F) : List By := keyB 32 x.val
theorem writeL_is {a : List Int} (h : Good a) : writeL a = keyF (fv a) := by
  have n := h.norm
  have n2 := off_norm (off_norm n)
  have v := off2_val n
  rw [car_fv h.len] at v
  have m : ∀ x ∈ off (off (car a)), 0 ≤ x ∧ x ≤ 65535 := fun x hx => by
    obtain ⟨j, hj, e⟩ := List.getElem_of_mem hx
    have := n2.all j (by rw [← n2.len]; exact hj)
    unfold nth at this
    rw [List.getD_eq_getElem?_getD, List.getElem?_eq_getElem hj, e] at this
    exact this
  have e := le_lb _ m
  rw [v] at e
  have e2 : le (writeL a) = (fv a).val := by
    unfold writeL
    omega
  have l : (writeL a).length = 32 := by rw [writeL, lb_len, n2.len]
  rw [keyF, ← e2, ← l, keyB_le]
def offN (a : List Int) : Nat → List Int
  | 0 => a
  | n + 1 => off (offN a n)
theorem offN_norm {a : List Int} (h : Norm a) : ∀ n, Norm (offN a n)
  | 0 => h
  | n + 1 => off_norm (offN_norm h n)
def wb (a : List Int) : Nat → List By
  | 0 => List.replicate 32 0
  | i + 1 => ((wb a i).set (2 * i) (BitVec.ofInt 8 (nth a i))).set (2 * i + 1) (BitVec.ofInt 8 (nth a i / 256))
theorem wb_len (a : List Int) : ∀ i, (wb a i).length = 32
  | 0 => rfl
  | i + 1 => by rw [wb, List.length_set, List.length_set, wb_len a i]
theorem lb_get : ∀ (a : List Int) (i : Nat), i < a.length → (lb a)[2 * i]? = some (BitVec.ofInt 8 (nth a i)) ∧ (lb a)[2 * i + 1]? = some (BitVec.ofInt 8 (nth a i / 256))
  | [], i, h => absurd h (by simp)
  | x :: l, 0, _ => ⟨rfl, rfl⟩
  | x :: l, i + 1, h => by
    have ih := lb_get l i (by simpa using h)
    show (BitVec.ofInt 8 x :: BitVec.ofInt 8 (x / 256) :: lb l)[2 * i + 1 + 1]? = some (BitVec.ofInt 8 (nth l i)) ∧ (BitVec.ofInt 8 x :: BitVec.ofInt 8 (x / 256) :: lb l)[2 * i + 1 + 1 + 1]? = some (BitVec.ofInt 8 (nth l i / 256))
    rw [List.getElem?_cons_succ, List.getElem?_cons_succ, List.getElem?_cons_succ, List.getElem?_cons_succ]
    exact ih
theorem wb_get (a : List Int) (ha : a.length = 16) : ∀ i, i ≤ 16 → ∀ j, j < 2 * i → (wb a i)[j]? = (lb a)[j]?
  | 0, _, j, h => absurd h (by omega)
  | i + 1, hi, j, h => by
    have ih := wb_get a ha i (by omega)
    have g := lb_get a i (by omega)
    have l := wb_len a i
    rw [wb, List.getElem?_set, List.getElem?_set, List.length_set]
    by_cases e1 : 2 * i + 1 = j
    · subst e1
      rw [if_pos rfl, if_pos (by omega), g.2]
    · rw [if_neg e1]
      by_cases e2 : 2 * i = j
      · subst e2
        rw [if_pos rfl, if_pos (by omega), g.1]
      · rw [if_neg e2]
        exact ih j (by omega)
theorem wb_all (a : List Int) (ha : a.length = 16) : wb a 16 = lb a := by
  apply List.ext_getElem?
  intro j
  by_cases h : j < 32
  · exact wb_get a ha 16 (by omega) j (by omega)
  · rw [List.getElem?_eq_none (by rw [wb_len]; omega), List.getElem?_eq_none (by rw [lb_len]; omega)]
end Crv
end Go.Proofs.YtbhlcnimjoppeaaDoor

/-
  Of no statement by itself: what the reference's Write gives.
  Conditions: each theorem's own.
-/
namespace Go.Proofs.YtbhlcnimjoppeaaDoor
set_option maxRecDepth 10000
open Sl Crv

theorem goes_nwrite : Goes Tryd.prog 57 := ⟨_, Tryd.func57, rfl, by kernel_rfl⟩
theorem k32z : zc Tryd.prog 23 = some ((List.replicate 32 (0 : By)).map U8) := by kernel_rfl
theorem Y_cell (l : List By) : (l.map U8).all Value.oneCell' = true := by simp [Value.oneCell']
theorem Y_set (l : List By) (i : Nat) (x : By) : (l.map U8).set i (U8 x) = (l.set i x).map U8 := by rw [List.map_set]
section
variable {P : Program} {n : Nat} {E : Env} {C : World → Prop} {dst : Option Tmp} {ty t t' : TypeId} {pos : String} {aft : Array Edge} {g : Option (Nat × Bool)} {x y : Operand}
theorem OQ.predN {a : Nat} (hx : ev E x = some (N (a + 1))) (hy : ev E y = some (N 1)) (h : a < 1000000) : OQ P n E C ⟨dst, .binOp .sub t x y t', ty, pos, aft, g⟩ (N a) :=
  OQ.subN hx hy (by omega) (by omega)
end
theorem Good.fit {l : List Int} (h : Good l) : Fit l := Fit.of_wide h.wide (by decide)

set_option maxHeartbeats 16000000 in
theorem nwrite_any (a : List Int) (ha : Good a) (w : World) : Calls Tryd.prog 57 [.agg (a.map I).toArray].toArray w fun e w' => e = .returned (.agg ((keyF (fv a)).map U8).toArray) ∧ Ext w w' := by
  have nA := ha.norm
  have c1 := carry_any a ha.len (Good.fit ha)
  have c2 := carry_any (car a) nA.len (Good.fit nA.good)
  rw [nA.car] at c2
  have eW := writeL_is ha
  rw [writeL] at eW
  have hla : (a.map I).length = 16 := by rw [List.length_map]; exact ha.len
  have hlA : ((car a).map I).length = 16 := by rw [List.length_map]; exact nA.len
  generalize hA : car a = A at nA c1 c2 eW hlA
  clear hA
  refine enter (n := 78) Tryd.func57 rfl rfl rfl (Holds.start w []) ?_
  repeat (first | refine JC.seq ?_ | refine JC.region ?_)
  refine JL.box (r := a.map I) rfl rfl rfl fun b1 _ => ?_
  refine JL.alloc k32z rfl fun b2 _ => ?_
  repeat (first | refine JL.q (by first | (apply OQ.load_agg (cs := a.map I); exact n16a; exact n16s; exact rfl; exact (.there .here); exact hla; exact Row.all) | (apply OQ.callx (vs := [.agg (a.map I).toArray]); exact goes_carry; exact rfl; exact (fun w' _ => c1 w')) | (apply OQ.callx (vs := [.agg (A.map I).toArray]); exact goes_carry; exact rfl; exact (fun w' _ => c2 w'))) rfl ?_ | refine JC.seq ?_ | refine JC.region ?_ | refine JL.nil ?_ | refine JE.next ?_)
  refine JL.store_all (cs := A.map I) n16s rfl rfl hlA (I_cell _) (.there .here) (by rw [hla]) ?_
  repeat (first | refine JL.q (by (apply OQ.assign; exact rfl)) rfl ?_ | refine JC.seq ?_ | refine JC.region ?_ | refine JC.block ?_ | refine JL.nil ?_ | refine JE.next ?_)
  refine JC.loop (fun n : Nat => [(1, Pt b1 0), (2, Pt b2 0), (3, N n)])
    (fun n => [⟨b2, Row 23 ((List.replicate 32 (0 : By)).map U8), true⟩, ⟨b1, Row 90 ((offN A n).map I), true⟩])
    (fun n => 2 - n) (fun n => n ≤ 2) 0 (by omega) (by repeat (first | exact SubE.nil | refine SubE.cons _ _ _ rfl ?_)) (Less.refl _) ?_
  intro n hn
  have nX := offN_norm nA n
  have eX : offN A (n + 1) = off (offN A n) := rfl
  have hlX : ((offN A n).map I).length = 16 := by rw [List.length_map]; exact nX.len
  repeat (first | refine JL.q (by first | (apply OQ.move; exact rfl) | (apply OQ.lssN; exact rfl; exact rfl)) rfl ?_ | refine JC.seq ?_ | refine JC.region ?_ | refine JL.nil ?_ | refine JE.next ?_)
  refine JC.cond rfl (fun h => ?_) (fun h => ?_)
  · have hn' : n < 2 := of_decide_eq_true h
    clear h hn
    generalize offN A n = X at *
    have hd0 := I_nth (l := X) (i := 0) (by rw [nX.len]; omega)
    have x0 := nX.all 0 (by omega)
    repeat (first | refine JC.seq ?_ | refine JC.region ?_ | refine JC.block ?_ | refine JC.skip ?_ | refine JE.next ?_)
    refine JL.q (OQ.pure (v := .agg ((List.replicate 16 (0 : Int)).map I).toArray) rfl rfl (by kernel_rfl)) rfl ?_
    refine JL.alloc n16z rfl fun b4 _ => ?_
    refine JL.store_all n16s rfl rfl rfl (I_cell _) .here (by simp) ?_
    repeat (first | refine JL.q (by first | (apply OQ.idxA0; exact Tryd.underlying90; exact i1s; exact rfl; exact rfl; exact (by decide)) | (apply OQ.load; exact i1c; exact rfl; exact (.there (.there .here)); exact (Row.cell hd0)) | (apply OQ.subI (b := 65517); exact rfl; exact rfl; exact (by omega); exact (by omega))) rfl ?_ | refine JC.seq ?_ | refine JC.region ?_ | refine JL.nil ?_ | refine JE.next ?_)
    refine JL.store_eq (r' := (sb X 0).map I) i1s rfl rfl rfl rfl .here (by simp) (I_set _ _ _) ?_
    repeat (first | refine JL.q (by (apply OQ.assign; exact rfl)) rfl ?_ | refine JC.seq ?_ | refine JC.region ?_ | refine JC.block ?_ | refine JL.nil ?_ | refine JE.next ?_)
    refine JC.loop (fun k : Nat => [(1, Pt b1 0), (2, Pt b2 0), (3, N n), (4, Pt b4 0), (5, N (k + 1))])
      (fun k => [⟨b4, Row 90 ((sb X k).map I), true⟩, ⟨b2, Row 23 ((List.replicate 32 (0 : By)).map U8), true⟩, ⟨b1, Row 90 (X.map I), true⟩])
      (fun k => 15 - k) (fun k => k ≤ 15) 0 (by omega) (by repeat (first | exact SubE.nil | refine SubE.cons _ _ _ rfl ?_)) (Less.refl _) ?_
    intro k hk
    have c := Sst.all nX k hk
    repeat (first | refine JL.q (by first | (apply OQ.move; exact rfl) | (apply OQ.lssN; exact rfl; exact rfl)) rfl ?_ | refine JC.seq ?_ | refine JC.region ?_ | refine JL.nil ?_ | refine JE.next ?_)
    refine JC.cond rfl (fun h => ?_) (fun h => ?_)
    · have hk' : k + 1 < 16 := of_decide_eq_true h
      clear h hk
      have hc := I_nth (l := sb X k) (i := k) (by rw [c.len]; omega)
      have hd := I_nth (l := X) (i := k + 1) (by rw [nX.len]; omega)
      have xk := nX.all (k + 1) (by omega)
      have ck := c.here
      have e1 : sb X (k + 1) = ((sb X k).set (k + 1) (nth X (k + 1) - ptop (k + 1) - nth (sb X k) k / 65536 % 2)).set k (nth ((sb X k).set (k + 1) (nth X (k + 1) - ptop (k + 1) - nth (sb X k) k / 65536 % 2)) k % 65536) := rfl
      have l1 : ((sb X k).set (k + 1) (nth X (k + 1) - ptop (k + 1) - nth (sb X k) k / 65536 % 2)).length = 16 := by rw [List.length_set]; exact c.len
      have he := I_nth (l := (sb X k).set (k + 1) (nth X (k + 1) - ptop (k + 1) - nth (sb X k) k / 65536 % 2)) (i := k) (by omega)
      generalize hm1 : (sb X k).set (k + 1) (nth X (k + 1) - ptop (k + 1) - nth (sb X k) k / 65536 % 2) = m1 at e1 l1 he
      repeat (first | refine JL.q (by first | (apply OQ.move; exact rfl) | (apply OQ.assign; exact rfl)) rfl ?_ | refine JC.seq ?_ | refine JC.region ?_ | refine JC.block ?_ | refine JC.skip ?_ | refine JL.nil ?_ | refine JE.next ?_)
      by_cases k15 : k + 1 = 15
      · have kI : ((k + 1 : Nat) : Int) = 15 := by omega
        have t1 : ptop (k + 1) = 32767 := by unfold ptop; rw [if_pos k15]
        repeat (first | refine JL.q (by (apply OQ.eqi_t; exact rfl; exact rfl; exact kI)) rfl ?_ | refine JL.nil ?_ | refine JE.next ?_)
        refine JC.cond_true rfl rfl ?_
        repeat (first | refine JL.q (by first | (apply OQ.predN; exact rfl; exact rfl; exact (by omega)) | (apply OQ.idxA0; exact Tryd.underlying90; exact i1s; exact rfl; exact rfl; exact (by (try simp only []); omega)) | (apply OQ.load; exact i1c; exact rfl; exact .here; exact (Row.cell hc)) | (apply OQ.load; exact i1c; exact rfl; exact (.there (.there .here)); exact (Row.cell hd)) | (apply OQ.shrI (m := 65536) (k := 16); exact (by decide); exact (by decide); exact rfl; exact rfl) | (apply OQ.andI (k := 1) (m := 1) (r := 2); exact (by decide); exact (by decide); exact (by decide); exact rfl; exact rfl) | (apply OQ.subI; exact rfl; exact rfl; exact (by omega); exact (by omega)) | (apply OQ.move; exact rfl) | (apply OQ.assign; exact rfl)) rfl ?_ | refine JC.seq ?_ | refine JC.region ?_ | refine JL.nil ?_ | refine JE.next ?_)
        refine JL.store_eq (r := (sb X k).map I) (r' := m1.map I) i1s rfl rfl rfl rfl .here (by rw [List.length_map, c.len]; (try simp only []); omega) (by rw [I_set, ← hm1, t1]) ?_
        repeat (first | refine JL.q (by first | (apply OQ.predN; exact rfl; exact rfl; exact (by omega)) | (apply OQ.idxA0; exact Tryd.underlying90; exact i1s; exact rfl; exact rfl; exact (by (try simp only []); omega)) | (apply OQ.load; exact i1c; exact rfl; exact .here; exact (Row.cell he)) | (apply OQ.andI (k := 16) (m := 65535) (r := 65536); exact (by decide); exact (by decide); exact (by decide); exact rfl; exact rfl) | (apply OQ.move; exact rfl)) rfl ?_ | refine JC.region ?_ | refine JL.nil ?_ | refine JE.next ?_)
        refine JL.store_eq (r' := (sb X (k + 1)).map I) i1s rfl rfl rfl rfl .here (by rw [List.length_map, l1]; (try simp only []); omega) (by rw [I_set, e1]) ?_
        repeat (first | refine JL.q (by first | (apply OQ.move; exact rfl) | (apply OQ.assign; exact rfl) | (apply OQ.addN; exact rfl; exact rfl; exact (by (try simp only []); omega))) rfl ?_ | refine JC.region ?_ | refine JL.nil ?_ | refine JE.next ?_ | refine JE.blk_normal ?_)
        exact JE.again (i := k) (k + 1) (by omega) (by omega) (by repeat (first | exact SubE.nil | refine SubE.cons _ _ _ rfl ?_)) (Less.refl _)
      · have kI : ¬ ((k + 1 : Nat) : Int) = 15 := by omega
        have t2 : ptop (k + 1) = 65535 := by unfold ptop; rw [if_neg k15]
        repeat (first | refine JL.q (by (apply OQ.eqi_f; exact rfl; exact rfl; exact kI)) rfl ?_ | refine JL.nil ?_ | refine JE.next ?_)
        refine JC.cond_false rfl rfl ?_
        repeat (first | refine JL.q (by first | (apply OQ.predN; exact rfl; exact rfl; exact (by omega)) | (apply OQ.idxA0; exact Tryd.underlying90; exact i1s; exact rfl; exact rfl; exact (by (try simp only []); omega)) | (apply OQ.load; exact i1c; exact rfl; exact .here; exact (Row.cell hc)) | (apply OQ.load; exact i1c; exact rfl; exact (.there (.there .here)); exact (Row.cell hd)) | (apply OQ.shrI (m := 65536) (k := 16); exact (by decide); exact (by decide); exact rfl; exact rfl) | (apply OQ.andI (k := 1) (m := 1) (r := 2); exact (by decide); exact (by decide); exact (by decide); exact rfl; exact rfl) | (apply OQ.subI; exact rfl; exact rfl; exact (by omega); exact (by omega)) | (apply OQ.move; exact rfl) | (apply OQ.assign; exact rfl)) rfl ?_ | refine JC.seq ?_ | refine JC.region ?_ | refine JC.skip ?_ | refine JL.nil ?_ | refine JE.next ?_)
        refine JL.store_eq (r := (sb X k).map I) (r' := m1.map I) i1s rfl rfl rfl rfl .here (by rw [List.length_map, c.len]; (try simp only []); omega) (by rw [I_set, ← hm1, t2]) ?_
        repeat (first | refine JL.q (by first | (apply OQ.predN; exact rfl; exact rfl; exact (by omega)) | (apply OQ.idxA0; exact Tryd.underlying90; exact i1s; exact rfl; exact rfl; exact (by (try simp only []); omega)) | (apply OQ.load; exact i1c; exact rfl; exact .here; exact (Row.cell he)) | (apply OQ.andI (k := 16) (m := 65535) (r := 65536); exact (by decide); exact (by decide); exact (by decide); exact rfl; exact rfl) | (apply OQ.move; exact rfl)) rfl ?_ | refine JC.region ?_ | refine JL.nil ?_ | refine JE.next ?_)
        refine JL.store_eq (r' := (sb X (k + 1)).map I) i1s rfl rfl rfl rfl .here (by rw [List.length_map, l1]; (try simp only []); omega) (by rw [I_set, e1]) ?_
        repeat (first | refine JL.q (by first | (apply OQ.move; exact rfl) | (apply OQ.assign; exact rfl) | (apply OQ.addN; exact rfl; exact rfl; exact (by (try simp only []); omega))) rfl ?_ | refine JC.region ?_ | refine JL.nil ?_ | refine JE.next ?_ | refine JE.blk_normal ?_)
        exact JE.again (i := k) (k + 1) (by omega) (by omega) (by repeat (first | exact SubE.nil | refine SubE.cons _ _ _ rfl ?_)) (Less.refl _)
    · have hk' : ¬ k + 1 < 16 := of_decide_eq_false h
      obtain rfl : k = 15 := by omega
      clear h hk hk'
      have hc := I_nth (l := sb X 15) (i := 15) (by rw [c.len]; omega)
      have hlS : ((sb X 15).map I).length = 16 := by rw [List.length_map]; exact c.len
      have eO : off X = if 0 ≤ nth (sb X 15) 15 then sb X 15 else X := rfl
      generalize sb X 15 = S at *
      repeat (first | refine JL.q (by first | (apply OQ.idxA0; exact Tryd.underlying90; exact i1s; exact rfl; exact rfl; exact (by decide)) | (apply OQ.load; exact i1c; exact rfl; exact .here; exact (Row.cell hc)) | (apply OQ.geqI (b := 0); exact rfl; exact rfl)) rfl ?_ | refine JC.seq ?_ | refine JC.region ?_ | refine JC.exit ?_ | refine JL.nil ?_ | refine JE.next ?_ | refine JE.then_exit ?_ | refine JE.blk_hit ?_)
      refine JC.cond rfl (fun h => ?_) (fun h => ?_)
      · have hp : 0 ≤ nth S 15 := of_decide_eq_true h
        rw [if_pos hp, ← eX] at eO
        repeat (first | refine JL.q (by (apply OQ.load_agg (cs := S.map I); exact n16a; exact n16s; exact rfl; exact .here; exact hlS; exact Row.all)) rfl ?_ | refine JC.region ?_)
        refine JL.store_all (cs := S.map I) n16s rfl rfl hlS (I_cell _) (.there (.there .here)) (by rw [hlX]) ?_
        rw [← eO]
        repeat (first | refine JL.q (by first | (apply OQ.move; exact rfl) | (apply OQ.assign; exact rfl) | (apply OQ.addN; exact rfl; exact rfl; exact (by (try simp only []); omega))) rfl ?_ | refine JC.region ?_ | refine JL.nil ?_ | refine JE.next ?_ | refine JE.blk_normal ?_)
        exact JE.again (i := n) (n + 1) (by omega) (by omega) (by repeat (first | exact SubE.nil | refine SubE.cons _ _ _ rfl ?_)) (.drop _ _ _ (Less.refl _))
      · have hp : ¬ 0 ≤ nth S 15 := of_decide_eq_false h
        rw [if_neg hp, ← eX] at eO
        rw [← eO]
        repeat (first | refine JL.q (by first | (apply OQ.move; exact rfl) | (apply OQ.assign; exact rfl) | (apply OQ.addN; exact rfl; exact rfl; exact (by (try simp only []); omega))) rfl ?_ | refine JC.region ?_ | refine JC.skip ?_ | refine JL.nil ?_ | refine JE.next ?_ | refine JE.blk_normal ?_)
        exact JE.again (i := n) (n + 1) (by omega) (by omega) (by repeat (first | exact SubE.nil | refine SubE.cons _ _ _ rfl ?_)) (.drop _ _ _ (Less.refl _))
  · have hn' : ¬ n < 2 := of_decide_eq_false h
    obtain rfl : n = 2 := by omega
    clear h hn hn'
    have eO : offN A 2 = off (off A) := rfl
    rw [← eO] at eW
    generalize offN A 2 = X at *
    rw [← wb_all X nX.len] at eW
    repeat (first | refine JC.seq ?_ | refine JC.region ?_ | refine JC.exit ?_ | refine JE.next ?_ | refine JE.then_exit ?_ | refine JE.blk_hit ?_)
    refine JL.q (OQ.pure (v := .agg ((wb X 0).map U8).toArray) rfl rfl (by kernel_rfl)) rfl ?_
    refine JL.alloc k32z rfl fun b8 _ => ?_
    refine JL.store_all k32s rfl rfl rfl (Y_cell _) .here (by simp) ?_
    repeat (first | refine JL.q (by (apply OQ.assign; exact rfl)) rfl ?_ | refine JC.seq ?_ | refine JC.region ?_ | refine JC.block ?_ | refine JL.nil ?_ | refine JE.next ?_)
    refine JC.loop (fun i : Nat => [(1, Pt b1 0), (2, Pt b2 0), (8, Pt b8 0), (9, N i)])
      (fun i => [⟨b8, Row 23 ((wb X i).map U8), true⟩, ⟨b2, Row 23 ((List.replicate 32 (0 : By)).map U8), true⟩, ⟨b1, Row 90 (X.map I), true⟩])
      (fun i => 16 - i) (fun i => i ≤ 16) 0 (by omega) (by repeat (first | exact SubE.nil | refine SubE.cons _ _ _ rfl ?_)) (Less.refl _) ?_
    intro i hi
    have len := wb_len X i
    repeat (first | refine JL.q (by first | (apply OQ.move; exact rfl) | (apply OQ.lssN; exact rfl; exact rfl)) rfl ?_ | refine JC.seq ?_ | refine JC.region ?_ | refine JL.nil ?_ | refine JE.next ?_)
    refine JC.cond rfl (fun h => ?_) (fun h => ?_)
    · have hi' : i < 16 := of_decide_eq_true h
      clear h hi
      have hc := I_nth (l := X) (i := i) (by rw [nX.len]; omega)
      repeat (first | refine JL.q (by first | (apply OQ.idxA0; exact Tryd.underlying90; exact i1s; exact rfl; exact rfl; exact (by (try simp only []); omega)) | (apply OQ.idxA0; exact Tryd.underlying23; exact y1s; exact rfl; exact rfl; exact (by (try simp only []); omega)) | (apply OQ.load; exact i1c; exact rfl; exact (.there (.there .here)); exact (Row.cell hc)) | (apply OQ.convI_8; exact rfl; exact rfl; exact rfl) | (apply OQ.move; exact rfl) | (apply OQ.mulN; exact rfl; exact rfl; exact (by (try simp only []); omega))) rfl ?_ | refine JC.seq ?_ | refine JC.region ?_ | refine JC.block ?_ | refine JC.skip ?_ | refine JE.next ?_)
      refine JL.store_eq (r' := ((wb X i).set (2 * i) (BitVec.ofInt 8 (nth X i))).map U8) y1s rfl rfl rfl rfl .here (by rw [List.length_map, len]; (try simp only []); omega) (Y_set _ _ _) ?_
      repeat (first | refine JL.q (by first | (apply OQ.idxA0; exact Tryd.underlying90; exact i1s; exact rfl; exact rfl; exact (by (try simp only []); omega)) | (apply OQ.idxA0; exact Tryd.underlying23; exact y1s; exact rfl; exact rfl; exact (by (try simp only []); omega)) | (apply OQ.load; exact i1c; exact rfl; exact (.there (.there .here)); exact (Row.cell hc)) | (apply OQ.shrI (m := 256) (k := 8); exact (by decide); exact (by decide); exact rfl; exact rfl) | (apply OQ.convI_8; exact rfl; exact rfl; exact rfl) | (apply OQ.move; exact rfl) | (apply OQ.addN; exact rfl; exact rfl; exact (by (try simp only []); omega)) | (apply OQ.mulN; exact rfl; exact rfl; exact (by (try simp only []); omega))) rfl ?_ | refine JC.region ?_ | refine JL.nil ?_ | refine JE.next ?_)
      refine JL.store_eq (r' := (wb X (i + 1)).map U8) y1s rfl rfl rfl rfl .here (by rw [List.length_map, List.length_set, len]; (try simp only []); omega) (Y_set _ _ _) ?_
      repeat (first | refine JL.q (by first | (apply OQ.move; exact rfl) | (apply OQ.assign; exact rfl) | (apply OQ.addN; exact rfl; exact rfl; exact (by (try simp only []); omega))) rfl ?_ | refine JC.region ?_ | refine JL.nil ?_ | refine JE.next ?_ | refine JE.blk_normal ?_)
      exact JE.again (i := i) (i + 1) (by omega) (by omega) (by repeat (first | exact SubE.nil | refine SubE.cons _ _ _ rfl ?_)) (Less.refl _)
    · have hi' : ¬ i < 16 := of_decide_eq_false h
      obtain rfl : i = 16 := by omega
      clear h hi hi'
      rw [eW] at len ⊢
      have hlk : ((keyF (fv a)).map U8).length = 32 := by rw [List.length_map]; exact len
      repeat (first | refine JL.q (by (apply OQ.load_agg (cs := (keyF (fv a)).map U8); exact k32a; exact k32s; exact rfl; exact .here; exact hlk; exact Row.all)) rfl ?_ | refine JC.seq ?_ | refine JC.region ?_ | refine JC.exit ?_ | refine JE.next ?_ | refine JE.then_exit ?_ | refine JE.blk_hit ?_)
      refine JL.store_all (cs := (keyF (fv a)).map U8) k32s rfl rfl hlk (Y_cell _) (.there .here) (by simp) ?_
      repeat (first | refine JL.nil ?_ | refine JE.next ?_)
      refine JC.ret (JE.ret1 rfl (RV.cell_agg k32a k32s rfl (.there .here) hlk Row.all) ?_)
      exact fun w' hw => ⟨rfl, hw.chg⟩
end Go.Proofs.YtbhlcnimjoppeaaDoor

/-
  Of no statement by itself: Mult as bytes, over the ladder modulo p; the ladder over limbs; no program stands here.
  Conditions: none but each lemma's own.
-/
namespace Go.Proofs.YtbhlcnimjoppeaaDoor
namespace Crv
/-! ### keys -/
theorem keyF_len (x : F) : (keyF x).length = 32 := keyB_len 32 _
/-- a number's fixed bits -/
def clampB (k : List By) : List By := (k.set 0 (k.getD 0 0 / 8 * 8)).set 31 ((k.set 0 (k.getD 0 0 / 8 * 8)).getD 31 0 % 64 + 64)
theorem clampB_len (k : List By) : (clampB k).length = k.length := by rw [clampB, List.length_set, List.length_set]
theorem le_even : ∀ b : List By, le b % 2 = (b.getD 0 0).toNat % 2
  | [] => rfl
  | x :: b => by
    show (x.toNat + 256 * le b) % 2 = x.toNat % 2
    omega
theorem le_lt : ∀ b : List By, le b < 256 ^ b.length
  | [] => by show 0 < 256 ^ 0; decide
  | x :: b => by
    have ih := le_lt b
    have h := x.isLt
    show x.toNat + 256 * le b < 256 ^ (b.length + 1)
    rw [Nat.pow_succ]
    omega
theorem le_append : ∀ a b : List By, le (a ++ b) = le a + 256 ^ a.length * le b
  | [], b => by show le b = 0 + 256 ^ 0 * le b; rw [Nat.pow_zero]; omega
  | x :: a, b => by
    show x.toNat + 256 * le (a ++ b) = x.toNat + 256 * le a + 256 ^ (a.length + 1) * le b
    rw [le_append a b, Nat.pow_succ, Nat.mul_add, Nat.mul_comm (256 ^ a.length) 256, Nat.mul_assoc, Nat.add_assoc]
/-- a point so many times -/
def multB (k u : List By) : List By := keyF (mulF (le (clampB k)) (pt u))
theorem le_bit : ∀ (b : List By) (i : Nat), (le b).testBit i = (b.getD (i / 8) 0).toNat.testBit (i % 8)
  | [], i => by
    rw [show le [] = 0 from rfl, Nat.zero_testBit]
    show false = (0 : By).toNat.testBit (i % 8)
    rw [show (0 : By).toNat = 0 from rfl, Nat.zero_testBit]
  | x :: b, i => by
    have ih := le_bit b
    have h := x.isLt
    have e : le (x :: b) = 2 ^ 8 * le b + x.toNat := by show x.toNat + 256 * le b = 256 * le b + x.toNat; omega
    rw [e, Nat.testBit_two_pow_mul_add _ h]
    by_cases hi : i < 8
    · rw [if_pos hi, Nat.div_eq_of_lt hi, Nat.mod_eq_of_lt hi]
      rfl
    · rw [if_neg hi, ih, show i / 8 = (i - 8) / 8 + 1 by omega, show i % 8 = (i - 8) % 8 by omega]
      rfl
/-! ### the ladder over limbs -/
structure N4 where
  x2 : List Int
  z2 : List Int
  x3 : List Int
  z3 : List Int
def N4.f (s : N4) : L4 := ⟨fv s.x2, fv s.z2, fv s.x3, fv s.z3⟩
structure N4.ok (s : N4) : Prop where
  x2 : Good s.x2
  z2 : Good s.z2
  x3 : Good s.x3
  z3 : Good s.z3
def cL : List Int := 56129 :: 1 :: List.replicate 14 0
theorem cL_good : Good cL := ⟨rfl, by decide, fun j h0 h1 => by
  unfold cL
  cases j with
  | zero => omega
  | succ j =>
    cases j with
    | zero => decide
    | succ j =>
      have : nth (56129 :: 1 :: List.replicate 14 0) (j + 1 + 1) = 0 := rep0_nth 14 j
      omega⟩
theorem cL_fv : fv cL = 121665 := by decide +kernel
def coreL (x1 : List Int) (s : N4) : N4 :=
  let a := addL s.x2 s.z2
  let b := subL s.x2 s.z2
  let c := addL s.x3 s.z3
  let d := subL s.x3 s.z3
  let da := mulL d a
  let cb := mulL c b
  let aa := mulL a a
  let bb := mulL b b
  let e := subL aa bb
  ⟨mulL aa bb, mulL e (addL aa (mulL cL e)), mulL (addL da cb) (addL da cb), mulL x1 (mulL (subL da cb) (subL da cb))⟩
def swapL (b : Bool) (s : N4) : N4 := if b then ⟨s.x3, s.z3, s.x2, s.z2⟩ else s
theorem swapL_ok {s : N4} (h : s.ok) (b : Bool) : (swapL b s).ok := by
  cases b
  · exact h
  · exact ⟨h.x3, h.z3, h.x2, h.z2⟩
theorem swapL_f (s : N4) (b : Bool) : (swapL b s).f = swap b s.f := by cases b <;> rfl
theorem coreL_ok {x1 : List Int} {s : N4} (h1 : Good x1) (h : s.ok) : (coreL x1 s).ok := by
  have a := addL_good h.x2 h.z2
  have b := subL_good h.x2 h.z2
  have c := addL_good h.x3 h.z3
  have d := subL_good h.x3 h.z3
  have da := mulL_good d a
  have cb := mulL_good c b
  have aa := mulL_good a a
  have bb := mulL_good b b
  have e := subL_good aa bb
  have r1 := mulL_good aa bb
  have r2 := mulL_good e (addL_good aa (mulL_good cL_good e))
  have r3 := mulL_good (addL_good da cb) (addL_good da cb)
  have r4 := mulL_good h1 (mulL_good (subL_good da cb) (subL_good da cb))
  unfold coreL
  refine ⟨?_, ?_, ?_, ?_⟩
  · simp only; exact r1
  · simp only; exact r2
  · simp only; exact r3
  · simp only; exact r4
theorem gadd {a b : List Int} (ha : Good a) (hb : Good b) : fv (addL a b) = fv a + fv b := addL_fv ha.len hb.len
theorem gsub {a b : List Int} (ha : Good a) (hb : Good b) : fv (subL a b) = fv a - fv b := subL_fv ha.len hb.len
theorem gmul {a b : List Int} (ha : Good a) (hb : Good b) : fv (mulL a b) = fv a * fv b := mulL_fv ha.len hb.len
theorem coreL_f {x1 : List Int} {s : N4} (h1 : Good x1) (h : s.ok) : (coreL x1 s).f = core (fv x1) s.f := by
  have a := addL_good h.x2 h.z2
  have b := subL_good h.x2 h.z2
  have c := addL_good h.x3 h.z3
  have d := subL_good h.x3 h.z3
  have da := mulL_good d a
  have cb := mulL_good c b
  have aa := mulL_good a a
  have bb := mulL_good b b
  have e := subL_good aa bb
  unfold N4.f coreL core
  simp only
  rw [gmul aa bb, gmul e (addL_good aa (mulL_good cL_good e)), gadd aa (mulL_good cL_good e), gmul cL_good e, gsub aa bb, gmul (addL_good da cb) (addL_good da cb), gadd da cb,
    gmul h1 (mulL_good (subL_good da cb) (subL_good da cb)), gmul (subL_good da cb) (subL_good da cb), gsub da cb, gmul d a, gmul c b, gmul a a, gmul b b, gadd h.x2 h.z2, gsub h.x2 h.z2, gadd h.x3 h.z3, gsub h.x3 h.z3, cL_fv]
/-- the state behind n steps, from bit 254 down -/
def ladL (x1 : List Int) (k : Nat) : Nat → N4
  | 0 => ⟨oneL, List.replicate 16 0, x1, oneL⟩
  | n + 1 => swapL (k.testBit (254 - n)) (coreL x1 (swapL (k.testBit (254 - n)) (ladL x1 k n)))
theorem zeroL_good : Good (List.replicate 16 0) := ⟨rfl, by decide, fun j _ _ => by rw [rep0_nth]; omega⟩
theorem ladL_ok {x1 : List Int} (h : Good x1) (k : Nat) : ∀ n, (ladL x1 k n).ok
  | 0 => ⟨oneL_good, zeroL_good, h, oneL_good⟩
  | n + 1 => swapL_ok (coreL_ok h (swapL_ok (ladL_ok h k n) _)) _
theorem ladL_f {x1 : List Int} (h : Good x1) (k : Nat) : ∀ n, n ≤ 255 → lad (fv x1) k (255 - n) (ladL x1 k n).f = lad (fv x1) k 255 (ladL x1 k 0).f
  | 0, _ => rfl
  | n + 1, hn => by
    rw [← ladL_f h k n (by omega)]
    have e : 255 - n = (255 - (n + 1)) + 1 := by omega
    have e2 : 254 - n = 255 - (n + 1) := by omega
    rw [e]
    show lad (fv x1) k (255 - (n + 1)) (swapL (k.testBit (254 - n)) (coreL x1 (swapL (k.testBit (254 - n)) (ladL x1 k n)))).f = lad (fv x1) k (255 - (n + 1)) (swap (k.testBit (255 - (n + 1))) (core (fv x1) (swap (k.testBit (255 - (n + 1))) (ladL x1 k n).f)))
    rw [swapL_f, coreL_f h (swapL_ok (ladL_ok h k n) _), swapL_f, e2]
theorem zeroL_fv : fv (List.replicate 16 0) = 0 := by decide +kernel
theorem ladL_all {x1 : List Int} (h : Good x1) (k : Nat) : fv (mulL (ladL x1 k 255).x2 (invS (ladL x1 k 255).z2 255)) = mulF k (fv x1) := by
  have g := ladL_ok h k 255
  have e : (ladL x1 k 255).f = lad (fv x1) k 255 (ladL x1 k 0).f := ladL_f h k 255 (by omega)
  have e0 : (ladL x1 k 0).f = ⟨1, 0, fv x1, 1⟩ := by
    show (⟨fv oneL, fv (List.replicate 16 0), fv x1, fv oneL⟩ : L4) = _
    rw [oneL_fv, zeroL_fv]
  rw [e0] at e
  rw [gmul g.x2 (invS_good g.z2 255), invL_fv g.z2]
  unfold mulF
  rw [← e]
  rfl
/-- what the reference's Mult lays -/
theorem ladL_mult (k u : List By) (hu : u.length = 32) : keyF (fv (mulL (ladL (readL u) (le (clampB k)) 255).x2 (invS (ladL (readL u) (le (clampB k)) 255).z2 255))) = multB k u := by
  rw [ladL_all (readL_good u), readL_fv u hu]
  rfl
end Crv
end Go.Proofs.YtbhlcnimjoppeaaDoor

/-
  Of no statement by itself: what the reference's Mult gives.
  Conditions: each theorem's own.
-/
namespace Go.Proofs.YtbhlcnimjoppeaaDoor
set_option maxRecDepth 10000
open Sl Crv

theorem goes_rmult : Goes Tryd.prog 30 := ⟨_, Tryd.func30, rfl, by kernel_rfl⟩
def need12 : Nat → List (Nat × Nat)
  | 2 => [(0, 55), (1, 56)]
  | 5 => [(3, 58), (4, 59)]
  | 8 => [(6, 61), (7, 62)]
  | 11 => [(9, 64), (10, 65)]
  | 16 => [(12, 12), (2, 57)]
  | 17 => [(13, 13), (5, 60)]
  | 18 => [(14, 14), (8, 63)]
  | 19 => [(15, 15), (11, 66)]
  | _ => []
def need13 : Nat → List (Nat × Nat)
  | 2 => [(0, 67), (1, 68)]
  | 5 => [(3, 70), (4, 71)]
  | 8 => [(6, 73), (7, 74)]
  | 11 => [(9, 76), (10, 77)]
  | 16 => [(12, 16), (2, 69)]
  | 17 => [(13, 17), (5, 72)]
  | 18 => [(14, 18), (8, 75)]
  | 19 => [(15, 19), (11, 78)]
  | _ => []
def inp12 : Nat → List Nat
  | 0 => [20]
  | 1 => [21]
  | 3 => [20]
  | 4 => [21]
  | 6 => [22]
  | 7 => [23]
  | 9 => [22]
  | 10 => [23]
  | 16 => [12]
  | 17 => [13]
  | 18 => [14]
  | 19 => [15]
  | _ => []
/-- d a c b a a b b: where a b c d lie as 20 21 22 23 -/
def inp13 : Nat → List Nat
  | 0 => [23]
  | 1 => [20]
  | 3 => [22]
  | 4 => [21]
  | 6 => [20]
  | 7 => [20]
  | 9 => [21]
  | 10 => [21]
  | 16 => [12]
  | 17 => [13]
  | 18 => [14]
  | 19 => [15]
  | _ => []
def eat12 : Nat → List Nat
  | 16 => [12]
  | 17 => [13]
  | 18 => [14]
  | 19 => [15]
  | _ => []
def src12 : Nat → Option Nat
  | 16 => some 12
  | 17 => some 13
  | 18 => some 14
  | 19 => some 15
  | _ => none
def need4 : Nat → List (Nat × Nat)
  | 8 => [(4, 6), (0, 33)]
  | 9 => [(5, 7), (1, 34)]
  | 10 => [(6, 8), (2, 35)]
  | 11 => [(7, 9), (3, 36)]
  | _ => []
def inp4 : Nat → List Nat
  | 2 => [12]
  | 8 => [4]
  | 9 => [5]
  | 10 => [6]
  | 11 => [7]
  | _ => []
def eat4 : Nat → List Nat
  | 8 => [4]
  | 9 => [5]
  | 10 => [6]
  | 11 => [7]
  | _ => []
def src4 : Nat → Option Nat
  | 8 => some 4
  | 9 => some 5
  | 10 => some 6
  | 11 => some 7
  | _ => none

theorem bit_is (x : By) (k : Nat) (h : k < 8) : decide ((x >>> k) &&& 1#8 = 1#8) = x.toNat.testBit k := by
  have h8 : ∀ k : Fin 8, ∀ x : By, decide ((x >>> k.val) &&& 1#8 = 1#8) = x.toNat.testBit k.val := by decide +kernel
  exact h8 ⟨k, h⟩ x

set_option maxHeartbeats 32000000 in
set_option maxRecDepth 4000 in
theorem rmult_any (k u : List By) (hk : k.length = 32) (hu : u.length = 32) (w : World) : Calls Tryd.prog 30 [.agg (k.map U8).toArray, .agg (u.map U8).toArray].toArray w fun e w' => e = .returned (.agg ((multB k u).map U8).toArray) ∧ Ext w w' := by
  have eM := ladL_mult k u hu
  have hK : (clampB k).length = 32 := by rw [clampB_len, hk]
  have eK : clampB k = (k.set 0 (k.getD 0 0 / 8 * 8)).set 31 ((k.set 0 (k.getD 0 0 / 8 * 8)).getD 31 0 % 64 + 64) := rfl
  have hc0 := U8_nth (l := k) (i := 0) (by omega)
  have hc31 := U8_nth (l := k.set 0 (k.getD 0 0 / 8 * 8)) (i := 31) (by rw [List.length_set]; omega)
  have gx := readL_good u
  have cR := nread_any u hu
  have hlu : (u.map U8).length = 32 := by rw [List.length_map]; exact hu
  generalize hx1 : readL u = x1 at eM gx cR
  refine enter (n := 119) Tryd.func30 rfl rfl rfl (Holds.start w []) ?_
  repeat (first | refine JC.seq ?_ | refine JC.region ?_)
  refine JL.box (r := k.map U8) rfl rfl rfl fun b2 _ => ?_
  refine JL.box (r := u.map U8) rfl rfl rfl fun b3 _ => ?_
  refine JL.alloc k32z rfl fun b4 _ => ?_
  repeat (first | refine JL.q (by first | (apply OQ.idxA0; exact Tryd.underlying23; exact y1s; exact rfl; exact rfl; exact (by decide)) | (apply OQ.load; exact y1c; exact rfl; exact (.there (.there .here)); exact (Row.cell hc0)) | (apply OQ.quo8 (b := 8#8); exact rfl; exact rfl; exact (by decide)) | (apply OQ.mul8 (b := 8#8); exact rfl; exact rfl)) rfl ?_ | refine JC.seq ?_ | refine JC.region ?_ | refine JL.nil ?_ | refine JE.next ?_)
  refine JL.store_eq (r' := (k.set 0 (k.getD 0 0 / 8 * 8)).map U8) y1s rfl rfl rfl rfl (.there (.there .here)) (by rw [List.length_map, hk]; decide) (Y_set _ _ _) ?_
  repeat (first | refine JL.q (by first | (apply OQ.idxA0; exact Tryd.underlying23; exact y1s; exact rfl; exact rfl; exact (by decide)) | (apply OQ.load; exact y1c; exact rfl; exact (.there (.there .here)); exact (Row.cell hc31)) | (apply OQ.rem8 (b := 64#8); exact rfl; exact rfl; exact (by decide)) | (apply OQ.add8 (b := 64#8); exact rfl; exact rfl)) rfl ?_ | refine JC.seq ?_ | refine JC.region ?_ | refine JL.nil ?_ | refine JE.next ?_)
  refine JL.store_eq (r' := (clampB k).map U8) y1s rfl rfl rfl rfl (.there (.there .here)) (by rw [List.length_map, List.length_set, hk]; decide) (Y_set _ _ _) ?_
  generalize clampB k = K at eM hK
  clear hc0 hc31 eK
  have hx1l : (x1.map I).length = 16 := by rw [List.length_map]; exact gx.len
  repeat (first | refine JL.q (by first | (apply OQ.load_agg (cs := u.map U8); exact k32a; exact k32s; exact rfl; exact (.there .here); exact hlu; exact Row.all) | (apply OQ.callx; exact goes_nread; exact rfl; exact (fun w' _ => cR w'))) rfl ?_ | refine JC.seq ?_ | refine JC.region ?_ | refine JL.nil ?_ | refine JE.next ?_)
  refine JL.alloc n16z rfl fun b5 _ => ?_
  refine JL.store_all (cs := x1.map I) n16s rfl rfl hx1l (I_cell _) .here (by simp) ?_
  repeat (first | refine JC.seq ?_ | refine JL.nil ?_ | refine JE.next ?_)
  · let vs : Nat → Nat → Value := fun j x => match j with
      | 0 => .agg (oneL.map I).toArray
      | 1 => .agg ((List.replicate 16 (0 : Int)).map I).toArray
      | 2 => .agg (x1.map I).toArray
      | 3 => .agg (oneL.map I).toArray
      | _ => Pt x 0
    let Ms : Nat → Nat → List Ent := fun j x => match j with
      | 4 => [⟨x, Row 90 ((List.replicate 16 (0 : Int)).map I), true⟩]
      | 5 => [⟨x, Row 90 ((List.replicate 16 (0 : Int)).map I), true⟩]
      | 6 => [⟨x, Row 90 ((List.replicate 16 (0 : Int)).map I), true⟩]
      | 7 => [⟨x, Row 90 ((List.replicate 16 (0 : Int)).map I), true⟩]
      | 8 => [⟨x, Row 90 (oneL.map I), true⟩]
      | 9 => [⟨x, Row 90 ((List.replicate 16 (0 : Int)).map I), true⟩]
      | 10 => [⟨x, Row 90 (x1.map I), true⟩]
      | 11 => [⟨x, Row 90 (oneL.map I), true⟩]
      | 12 => [⟨b5, Row 90 (x1.map I), true⟩]
      | 13 => [⟨b4, Row 23 ((List.replicate 32 (0 : By)).map U8), true⟩]
      | 14 => [⟨b2, Row 23 (K.map U8), true⟩]
      | _ => []
    refine JC.grow (g := ⟨[(2, Pt b2 0), (4, Pt b4 0), (5, Pt b5 0)], 15, vs, Ms, need4, inp4, eat4, src4⟩) [(4, 6), (5, 7), (6, 8), (7, 9)] [8, 9, 10, 11, 12, 13, 14] mixC (by repeat (first | exact SubE.nil | refine SubE.cons _ _ _ rfl ?_)) (.keep _ _ _ _ _ _ (fun _ h => h) (.keep _ _ _ _ _ _ (fun _ h => h) (.drop _ _ _ (Less.refl _)))) (by kernel_rfl) (by kernel_rfl) (by kernel_rfl) ?_ ?_
    · refine ⟨?_, ?_, ?_, ?_, ?_, ?_, ?_, ?_, ?_, ?_, ?_, ?_, trivial⟩
      · intro x EF MF Q kk
        exact JL.q (OQ.pure (v := .agg (oneL.map I).toArray) rfl rfl (by kernel_rfl)) rfl (JL.nil (kk 0 nofun))
      · intro x EF MF Q kk
        exact JL.q (OQ.pure (v := .agg ((List.replicate 16 (0 : Int)).map I).toArray) rfl rfl (by kernel_rfl)) rfl (JL.nil (kk 0 nofun))
      · intro x EF MF Q kk
        exact JL.q (OQ.load_agg (cs := x1.map I) n16a n16s rfl .here hx1l Row.all) rfl (JL.nil (kk 0 nofun))
      · intro x EF MF Q kk
        exact JL.q (OQ.pure (v := .agg (oneL.map I).toArray) rfl rfl (by kernel_rfl)) rfl (JL.nil (kk 0 nofun))
      iterate 4 (focus (intro x EF MF Q kk; exact JL.alloc n16z rfl fun b _ => JL.nil (kk b nofun)))
      · intro x EF MF Q kk
        exact JL.store_all (cs := oneL.map I) n16s rfl rfl rfl (I_cell _) .here (by simp) (JL.nil (kk (x 4) (fun k h => by cases h; rfl)))
      · intro x EF MF Q kk
        exact JL.store_all (cs := (List.replicate 16 (0 : Int)).map I) n16s rfl rfl rfl (I_cell _) .here (by simp) (JL.nil (kk (x 5) (fun k h => by cases h; rfl)))
      · intro x EF MF Q kk
        exact JL.store_all (cs := x1.map I) n16s rfl rfl hx1l (I_cell _) .here (by simp) (JL.nil (kk (x 6) (fun k h => by cases h; rfl)))
      · intro x EF MF Q kk
        exact JL.store_all (cs := oneL.map I) n16s rfl rfl rfl (I_cell _) .here (by simp) (JL.nil (kk (x 7) (fun k h => by cases h; rfl)))
    · intro x hx
      have h8 := hx 8 4 (by decide) rfl
      have h9 := hx 9 5 (by decide) rfl
      have h10 := hx 10 6 (by decide) rfl
      have h11 := hx 11 7 (by decide) rfl
      show JE _ _ _ _ _ [(6, Pt (x 4) 0), (7, Pt (x 5) 0), (8, Pt (x 6) 0), (9, Pt (x 7) 0), (2, Pt b2 0), (4, Pt b4 0), (5, Pt b5 0)] [⟨(x 8), Row 90 (oneL.map I), true⟩, ⟨(x 9), Row 90 ((List.replicate 16 (0 : Int)).map I), true⟩, ⟨(x 10), Row 90 (x1.map I), true⟩, ⟨(x 11), Row 90 (oneL.map I), true⟩, ⟨b5, Row 90 (x1.map I), true⟩, ⟨b4, Row 23 ((List.replicate 32 (0 : By)).map U8), true⟩, ⟨b2, Row 23 (K.map U8), true⟩]
      rw [h8, h9, h10, h11]
      generalize x 4 = b6
      generalize x 5 = b7
      generalize x 6 = b8
      generalize x 7 = b9
      clear hx h8 h9 h10 h11 x vs Ms
      repeat (first | refine JL.q (by (apply OQ.assign; exact rfl)) rfl ?_ | refine JC.seq ?_ | refine JC.region ?_ | refine JC.block ?_ | refine JL.nil ?_ | refine JE.next ?_)
      refine JC.loop (fun n : Nat => [(2, Pt b2 0), (4, Pt b4 0), (5, Pt b5 0), (6, Pt b6 0), (7, Pt b7 0), (8, Pt b8 0), (9, Pt b9 0), (10, I (254 - n))])
        (fun n => [⟨b6, Row 90 ((ladL x1 (le K) n).x2.map I), true⟩, ⟨b7, Row 90 ((ladL x1 (le K) n).z2.map I), true⟩, ⟨b8, Row 90 ((ladL x1 (le K) n).x3.map I), true⟩, ⟨b9, Row 90 ((ladL x1 (le K) n).z3.map I), true⟩, ⟨b5, Row 90 (x1.map I), true⟩, ⟨b4, Row 23 ((List.replicate 32 (0 : By)).map U8), true⟩, ⟨b2, Row 23 (K.map U8), true⟩])
        (fun n => 255 - n) (fun n => n ≤ 255) 0 (by omega) (by repeat (first | exact SubE.nil | refine SubE.cons _ _ _ rfl ?_)) (Less.refl _) ?_
      intro n hn
      have ok := ladL_ok gx (le K) n
      repeat (first | refine JL.q (by first | (apply OQ.geqI (b := 0); exact rfl; exact rfl) | (apply OQ.move; exact rfl)) rfl ?_ | refine JC.seq ?_ | refine JC.region ?_ | refine JL.nil ?_ | refine JE.next ?_)
      refine JC.cond rfl (fun h => ?_) (fun h => ?_)
      · have hn' : (0 : Int) ≤ 254 - n := of_decide_eq_true h
        clear h hn
        have hb : n < 255 := by omega
        have hb2 : n ≤ 254 := by omega
        have eN : ladL x1 (le K) (n + 1) = swapL ((le K).testBit (254 - n)) (coreL x1 (swapL ((le K).testBit (254 - n)) (ladL x1 (le K) n))) := rfl
        obtain ⟨i, hi⟩ : ∃ i, i = 254 - n := ⟨_, rfl⟩
        have eI : (254 - (n : Int)) = ((i : Nat) : Int) := by omega
        rw [← hi] at eN
        rw [eI]
        have hcb := U8_nth (l := K) (i := i / 8) (by omega)
        have hbit : decide ((K.getD (i / 8) 0 >>> (i % 8)) &&& 1#8 = 1#8) = (le K).testBit i := by rw [bit_is _ _ (by omega), le_bit]
        generalize ladL x1 (le K) n = s at ok eN ⊢
        obtain ⟨x2, z2, x3, z3⟩ := s
        have gx2 : Good x2 := ok.x2
        have gz2 : Good z2 := ok.z2
        have gx3 : Good x3 := ok.x3
        have gz3 : Good z3 := ok.z3
        dsimp only
        repeat (first | refine JL.q (by first | (apply OQ.idxA0; exact Tryd.underlying23; exact y1s; exact rfl; exact rfl; exact (by (try simp only []); omega)) | (apply OQ.load; exact y1c; exact rfl; exact (by repeat (first | exact Has.here | apply Has.there)); exact (Row.cell hcb)) | (apply OQ.shr8; exact rfl; exact rfl) | (apply OQ.and8 (b := 1#8); exact rfl; exact rfl) | (apply OQ.move; exact rfl) | (apply OQ.assign; exact rfl) | (apply OQ.remN; exact rfl; exact rfl; exact (by (try simp only []); omega)) | (apply OQ.quoN; exact rfl; exact rfl; exact (by (try simp only []); omega); exact (by (try simp only []); omega))) rfl ?_ | refine JC.seq ?_ | refine JC.region ?_ | refine JC.block ?_ | refine JC.skip ?_ | refine JL.nil ?_ | refine JE.next ?_)
        generalize hbt : (K.getD (i / 8) 0 >>> (i % 8)) &&& 1#8 = bt at hbit ⊢
        repeat (first | refine JL.q (by (apply OQ.eq8 (b := 1#8); exact rfl; exact rfl)) rfl ?_ | refine JL.nil ?_ | refine JE.next ?_)
        refine JC.join (ι := Unit) (fun _ => [(2, Pt b2 0), (4, Pt b4 0), (5, Pt b5 0), (6, Pt b6 0), (7, Pt b7 0), (8, Pt b8 0), (9, Pt b9 0), (10, N i), (11, U8 bt)]) (fun _ => [⟨b6, Row 90 ((swapL ((le K).testBit i) ⟨x2, z2, x3, z3⟩).x2.map I), true⟩, ⟨b7, Row 90 ((swapL ((le K).testBit i) ⟨x2, z2, x3, z3⟩).z2.map I), true⟩, ⟨b8, Row 90 ((swapL ((le K).testBit i) ⟨x2, z2, x3, z3⟩).x3.map I), true⟩, ⟨b9, Row 90 ((swapL ((le K).testBit i) ⟨x2, z2, x3, z3⟩).z3.map I), true⟩, ⟨b5, Row 90 (x1.map I), true⟩, ⟨b4, Row 23 ((List.replicate 32 (0 : By)).map U8), true⟩, ⟨b2, Row 23 (K.map U8), true⟩]) (fun _ => True) ?_ (fun _ _ => ?_)
        · refine JC.cond rfl (fun h => ?_) (fun h => ?_)
          · rw [← hbit, h]
            repeat (first | refine JL.q (by first | (apply OQ.load_agg (cs := x2.map I); exact n16a; exact n16s; exact rfl; exact (by repeat (first | exact Has.here | apply Has.there)); exact (by rw [List.length_map]; exact gx2.len); exact Row.all) | (apply OQ.load_agg (cs := x3.map I); exact n16a; exact n16s; exact rfl; exact (by repeat (first | exact Has.here | apply Has.there)); exact (by rw [List.length_map]; exact gx3.len); exact Row.all)) rfl ?_ | refine JC.seq ?_ | refine JC.region ?_)
            refine JL.store_all (cs := x3.map I) n16s rfl rfl (by rw [List.length_map]; exact gx3.len) (I_cell _) (by repeat (first | exact Upd.here | apply Upd.there)) (by rw [List.length_map]; exact gx2.len) ?_
            skip
            refine JL.store_all (cs := x2.map I) n16s rfl rfl (by rw [List.length_map]; exact gx2.len) (I_cell _) (by repeat (first | exact Upd.here | apply Upd.there)) (by rw [List.length_map]; exact gx3.len) ?_
            repeat (first | refine JL.q (by first | (apply OQ.load_agg (cs := z2.map I); exact n16a; exact n16s; exact rfl; exact (by repeat (first | exact Has.here | apply Has.there)); exact (by rw [List.length_map]; exact gz2.len); exact Row.all) | (apply OQ.load_agg (cs := z3.map I); exact n16a; exact n16s; exact rfl; exact (by repeat (first | exact Has.here | apply Has.there)); exact (by rw [List.length_map]; exact gz3.len); exact Row.all)) rfl ?_ | refine JC.region ?_ | refine JL.nil ?_ | refine JE.next ?_)
            refine JL.store_all (cs := z3.map I) n16s rfl rfl (by rw [List.length_map]; exact gz3.len) (I_cell _) (by repeat (first | exact Upd.here | apply Upd.there)) (by rw [List.length_map]; exact gz2.len) ?_
            skip
            refine JL.store_all (cs := z2.map I) n16s rfl rfl (by rw [List.length_map]; exact gz2.len) (I_cell _) (by repeat (first | exact Upd.here | apply Upd.there)) (by rw [List.length_map]; exact gz3.len) ?_
            repeat (refine JL.nil ?_)
            exact JE.mid () trivial (by repeat (first | exact SubE.nil | refine SubE.cons _ _ _ rfl ?_)) (Less.refl _)
          · rw [← hbit, h]
            repeat (refine JC.skip ?_)
            exact JE.mid () trivial (by repeat (first | exact SubE.nil | refine SubE.cons _ _ _ rfl ?_)) (Less.refl _)
        have ok' := swapL_ok ok ((le K).testBit i)
        generalize swapL ((le K).testBit i) ⟨x2, z2, x3, z3⟩ = s' at ok' eN ⊢
        obtain ⟨X2, Z2, X3, Z3⟩ := s'
        have gX2 : Good X2 := ok'.x2
        have gZ2 : Good Z2 := ok'.z2
        have gX3 : Good X3 := ok'.x3
        have gZ3 : Good Z3 := ok'.z3
        dsimp only
        clear ok ok' gx2 gz2 gx3 gz3
        have cA := nadd_any X2 Z2 gX2 gZ2
        have gA := addL_good gX2 gZ2
        generalize hA : addL X2 Z2 = A at cA gA
        have cB := nless_any X2 Z2 gX2 gZ2
        have gB := subL_good gX2 gZ2
        generalize hB : subL X2 Z2 = B at cB gB
        have cC := nadd_any X3 Z3 gX3 gZ3
        have gC := addL_good gX3 gZ3
        generalize hC : addL X3 Z3 = C at cC gC
        have cD := nless_any X3 Z3 gX3 gZ3
        have gD := subL_good gX3 gZ3
        generalize hD : subL X3 Z3 = D at cD gD
        have cDA := times_any D A gD gA
        have gDA := mulL_good gD gA
        generalize hDA : mulL D A = DA at cDA gDA
        have cCB := times_any C B gC gB
        have gCB := mulL_good gC gB
        generalize hCB : mulL C B = CB at cCB gCB
        have cAA := times_any A A gA gA
        have gAA := mulL_good gA gA
        generalize hAA : mulL A A = AA at cAA gAA
        have cBB := times_any B B gB gB
        have gBB := mulL_good gB gB
        generalize hBB : mulL B B = BB at cBB gBB
        have cE := nless_any AA BB gAA gBB
        have gE := subL_good gAA gBB
        generalize hE : subL AA BB = E at cE gE
        have cF := times_any cL E cL_good gE
        have gF := mulL_good cL_good gE
        generalize hF : mulL cL E = F at cF gF
        have cG := nadd_any AA F gAA gF
        have gG := addL_good gAA gF
        generalize hG : addL AA F = G at cG gG
        have cR1 := times_any AA BB gAA gBB
        have gR1 := mulL_good gAA gBB
        generalize hR1 : mulL AA BB = R1 at cR1 gR1
        have cR2 := times_any E G gE gG
        have gR2 := mulL_good gE gG
        generalize hR2 : mulL E G = R2 at cR2 gR2
        have cH := nadd_any DA CB gDA gCB
        have gH := addL_good gDA gCB
        generalize hH : addL DA CB = H at cH gH
        have cR3 := times_any H H gH gH
        have gR3 := mulL_good gH gH
        generalize hR3 : mulL H H = R3 at cR3 gR3
        have cJ := nless_any DA CB gDA gCB
        have gJ := subL_good gDA gCB
        generalize hJ : subL DA CB = J at cJ gJ
        have cJJ := times_any J J gJ gJ
        have gJJ := mulL_good gJ gJ
        generalize hJJ : mulL J J = JJ at cJJ gJJ
        have cR4 := times_any x1 JJ gx gJJ
        have gR4 := mulL_good gx gJJ
        generalize hR4 : mulL x1 JJ = R4 at cR4 gR4
        have eC : coreL x1 ⟨X2, Z2, X3, Z3⟩ = ⟨R1, R2, R3, R4⟩ := by
          subst hR4 hJJ hJ hR3 hH hR2 hR1 hG hF hE hBB hAA hCB hDA hD hC hB hA
          rfl
        rw [eC] at eN
        clear eC hA hB hC hD hDA hCB hAA hBB hE hF hG hR1 hR2 hH hR3 hJ hJJ hR4
        repeat (refine JC.seq ?_)
        let vs : Nat → Nat → Value := fun j x => match j with
          | 0 => .agg (X2.map I).toArray
          | 1 => .agg (Z2.map I).toArray
          | 3 => .agg (X2.map I).toArray
          | 4 => .agg (Z2.map I).toArray
          | 6 => .agg (X3.map I).toArray
          | 7 => .agg (Z3.map I).toArray
          | 9 => .agg (X3.map I).toArray
          | 10 => .agg (Z3.map I).toArray
          | 2 => .agg (A.map I).toArray
          | 5 => .agg (B.map I).toArray
          | 8 => .agg (C.map I).toArray
          | 11 => .agg (D.map I).toArray
          | _ => Pt x 0
        let Ms : Nat → Nat → List Ent := fun j x => match j with
          | 12 => [⟨x, Row 90 ((List.replicate 16 (0 : Int)).map I), true⟩]
          | 13 => [⟨x, Row 90 ((List.replicate 16 (0 : Int)).map I), true⟩]
          | 14 => [⟨x, Row 90 ((List.replicate 16 (0 : Int)).map I), true⟩]
          | 15 => [⟨x, Row 90 ((List.replicate 16 (0 : Int)).map I), true⟩]
          | 16 => [⟨x, Row 90 (A.map I), true⟩]
          | 17 => [⟨x, Row 90 (B.map I), true⟩]
          | 18 => [⟨x, Row 90 (C.map I), true⟩]
          | 19 => [⟨x, Row 90 (D.map I), true⟩]
          | 20 => [⟨b6, Row 90 (X2.map I), true⟩]
          | 21 => [⟨b7, Row 90 (Z2.map I), true⟩]
          | 22 => [⟨b8, Row 90 (X3.map I), true⟩]
          | 23 => [⟨b9, Row 90 (Z3.map I), true⟩]
          | 24 => [⟨b5, Row 90 (x1.map I), true⟩]
          | 25 => [⟨b4, Row 23 ((List.replicate 32 (0 : By)).map U8), true⟩]
          | 26 => [⟨b2, Row 23 (K.map U8), true⟩]
          | _ => []
        refine JC.grow (g := ⟨[(2, Pt b2 0), (4, Pt b4 0), (5, Pt b5 0), (6, Pt b6 0), (7, Pt b7 0), (8, Pt b8 0), (9, Pt b9 0), (10, N i), (11, U8 bt)], 27, vs, Ms, need12, inp12, eat12, src12⟩) [(12, 12), (13, 13), (14, 14), (15, 15)] [16, 17, 18, 19, 20, 21, 22, 23, 24, 25, 26] mixC (by repeat (first | exact SubE.nil | refine SubE.cons _ _ _ rfl ?_)) (Less.refl _) (by kernel_rfl) (by kernel_rfl) (by kernel_rfl) ?_ ?_
        · refine ⟨?_, ?_, ?_, ?_, ?_, ?_, ?_, ?_, ?_, ?_, ?_, ?_, ?_, ?_, ?_, ?_, ?_, ?_, ?_, ?_, trivial⟩
          · intro x EF MF Q kk
            exact JL.q (OQ.load_agg (cs := X2.map I) n16a n16s rfl .here (by rw [List.length_map]; exact gX2.len) Row.all) rfl (JL.nil (kk 0 nofun))
          · intro x EF MF Q kk
            exact JL.q (OQ.load_agg (cs := Z2.map I) n16a n16s rfl .here (by rw [List.length_map]; exact gZ2.len) Row.all) rfl (JL.nil (kk 0 nofun))
          · intro x EF MF Q kk
            exact JL.q (OQ.callx goes_nadd rfl fun w' _ => cA w') rfl (JL.nil (kk 0 nofun))
          · intro x EF MF Q kk
            exact JL.q (OQ.load_agg (cs := X2.map I) n16a n16s rfl .here (by rw [List.length_map]; exact gX2.len) Row.all) rfl (JL.nil (kk 0 nofun))
          · intro x EF MF Q kk
            exact JL.q (OQ.load_agg (cs := Z2.map I) n16a n16s rfl .here (by rw [List.length_map]; exact gZ2.len) Row.all) rfl (JL.nil (kk 0 nofun))
          · intro x EF MF Q kk
            exact JL.q (OQ.callx goes_nless rfl fun w' _ => cB w') rfl (JL.nil (kk 0 nofun))
          · intro x EF MF Q kk
            exact JL.q (OQ.load_agg (cs := X3.map I) n16a n16s rfl .here (by rw [List.length_map]; exact gX3.len) Row.all) rfl (JL.nil (kk 0 nofun))
          · intro x EF MF Q kk
            exact JL.q (OQ.load_agg (cs := Z3.map I) n16a n16s rfl .here (by rw [List.length_map]; exact gZ3.len) Row.all) rfl (JL.nil (kk 0 nofun))
          · intro x EF MF Q kk
            exact JL.q (OQ.callx goes_nadd rfl fun w' _ => cC w') rfl (JL.nil (kk 0 nofun))
          · intro x EF MF Q kk
            exact JL.q (OQ.load_agg (cs := X3.map I) n16a n16s rfl .here (by rw [List.length_map]; exact gX3.len) Row.all) rfl (JL.nil (kk 0 nofun))
          · intro x EF MF Q kk
            exact JL.q (OQ.load_agg (cs := Z3.map I) n16a n16s rfl .here (by rw [List.length_map]; exact gZ3.len) Row.all) rfl (JL.nil (kk 0 nofun))
          · intro x EF MF Q kk
            exact JL.q (OQ.callx goes_nless rfl fun w' _ => cD w') rfl (JL.nil (kk 0 nofun))
          · intro x EF MF Q kk
            exact JL.alloc n16z rfl fun b _ => JL.nil (kk b nofun)
          · intro x EF MF Q kk
            exact JL.alloc n16z rfl fun b _ => JL.nil (kk b nofun)
          · intro x EF MF Q kk
            exact JL.alloc n16z rfl fun b _ => JL.nil (kk b nofun)
          · intro x EF MF Q kk
            exact JL.alloc n16z rfl fun b _ => JL.nil (kk b nofun)
          · intro x EF MF Q kk
            exact JL.store_all (cs := A.map I) n16s rfl rfl (by rw [List.length_map]; exact gA.len) (I_cell _) .here (by simp) (JL.nil (kk (x 12) (fun k h => by cases h; rfl)))
          · intro x EF MF Q kk
            exact JL.store_all (cs := B.map I) n16s rfl rfl (by rw [List.length_map]; exact gB.len) (I_cell _) .here (by simp) (JL.nil (kk (x 13) (fun k h => by cases h; rfl)))
          · intro x EF MF Q kk
            exact JL.store_all (cs := C.map I) n16s rfl rfl (by rw [List.length_map]; exact gC.len) (I_cell _) .here (by simp) (JL.nil (kk (x 14) (fun k h => by cases h; rfl)))
          · intro x EF MF Q kk
            exact JL.store_all (cs := D.map I) n16s rfl rfl (by rw [List.length_map]; exact gD.len) (I_cell _) .here (by simp) (JL.nil (kk (x 15) (fun k h => by cases h; rfl)))
        · intro x hx
          have h16 := hx 16 12 (by decide) rfl
          have h17 := hx 17 13 (by decide) rfl
          have h18 := hx 18 14 (by decide) rfl
          have h19 := hx 19 15 (by decide) rfl
          show JE _ _ _ _ _ [(12, Pt (x 12) 0), (13, Pt (x 13) 0), (14, Pt (x 14) 0), (15, Pt (x 15) 0), (2, Pt b2 0), (4, Pt b4 0), (5, Pt b5 0), (6, Pt b6 0), (7, Pt b7 0), (8, Pt b8 0), (9, Pt b9 0), (10, N i), (11, U8 bt)] [⟨(x 16), Row 90 (A.map I), true⟩, ⟨(x 17), Row 90 (B.map I), true⟩, ⟨(x 18), Row 90 (C.map I), true⟩, ⟨(x 19), Row 90 (D.map I), true⟩, ⟨b6, Row 90 (X2.map I), true⟩, ⟨b7, Row 90 (Z2.map I), true⟩, ⟨b8, Row 90 (X3.map I), true⟩, ⟨b9, Row 90 (Z3.map I), true⟩, ⟨b5, Row 90 (x1.map I), true⟩, ⟨b4, Row 23 ((List.replicate 32 (0 : By)).map U8), true⟩, ⟨b2, Row 23 (K.map U8), true⟩]
          rw [h16, h17, h18, h19]
          generalize x 12 = b12
          generalize x 13 = b13
          generalize x 14 = b14
          generalize x 15 = b15
          clear hx h16 h17 h18 h19 x vs Ms
          repeat (first | refine JC.seq ?_ | refine JE.next ?_)
          let vs : Nat → Nat → Value := fun j x => match j with
            | 0 => .agg (D.map I).toArray
            | 1 => .agg (A.map I).toArray
            | 3 => .agg (C.map I).toArray
            | 4 => .agg (B.map I).toArray
            | 6 => .agg (A.map I).toArray
            | 7 => .agg (A.map I).toArray
            | 9 => .agg (B.map I).toArray
            | 10 => .agg (B.map I).toArray
            | 2 => .agg (DA.map I).toArray
            | 5 => .agg (CB.map I).toArray
            | 8 => .agg (AA.map I).toArray
            | 11 => .agg (BB.map I).toArray
            | _ => Pt x 0
          let Ms : Nat → Nat → List Ent := fun j x => match j with
            | 12 => [⟨x, Row 90 ((List.replicate 16 (0 : Int)).map I), true⟩]
            | 13 => [⟨x, Row 90 ((List.replicate 16 (0 : Int)).map I), true⟩]
            | 14 => [⟨x, Row 90 ((List.replicate 16 (0 : Int)).map I), true⟩]
            | 15 => [⟨x, Row 90 ((List.replicate 16 (0 : Int)).map I), true⟩]
            | 16 => [⟨x, Row 90 (DA.map I), true⟩]
            | 17 => [⟨x, Row 90 (CB.map I), true⟩]
            | 18 => [⟨x, Row 90 (AA.map I), true⟩]
            | 19 => [⟨x, Row 90 (BB.map I), true⟩]
            | 20 => [⟨b12, Row 90 (A.map I), true⟩]
            | 21 => [⟨b13, Row 90 (B.map I), true⟩]
            | 22 => [⟨b14, Row 90 (C.map I), true⟩]
            | 23 => [⟨b15, Row 90 (D.map I), true⟩]
            | 24 => [⟨b6, Row 90 (X2.map I), true⟩]
            | 25 => [⟨b7, Row 90 (Z2.map I), true⟩]
            | 26 => [⟨b8, Row 90 (X3.map I), true⟩]
            | 27 => [⟨b9, Row 90 (Z3.map I), true⟩]
            | 28 => [⟨b5, Row 90 (x1.map I), true⟩]
            | 29 => [⟨b4, Row 23 ((List.replicate 32 (0 : By)).map U8), true⟩]
            | 30 => [⟨b2, Row 23 (K.map U8), true⟩]
            | _ => []
          refine JC.grow (g := ⟨[(2, Pt b2 0), (4, Pt b4 0), (5, Pt b5 0), (6, Pt b6 0), (7, Pt b7 0), (8, Pt b8 0), (9, Pt b9 0), (10, N i), (11, U8 bt), (12, Pt b12 0), (13, Pt b13 0), (14, Pt b14 0), (15, Pt b15 0)], 31, vs, Ms, need13, inp13, eat12, src12⟩) [(12, 16), (13, 17), (14, 18), (15, 19)] [16, 17, 18, 19, 20, 21, 22, 23, 24, 25, 26, 27, 28, 29, 30] mixC (by repeat (first | exact SubE.nil | refine SubE.cons _ _ _ rfl ?_)) (Less.refl _) (by kernel_rfl) (by kernel_rfl) (by kernel_rfl) ?_ ?_
          · refine ⟨?_, ?_, ?_, ?_, ?_, ?_, ?_, ?_, ?_, ?_, ?_, ?_, ?_, ?_, ?_, ?_, ?_, ?_, ?_, ?_, trivial⟩
            · intro x EF MF Q kk
              exact JL.q (OQ.load_agg (cs := D.map I) n16a n16s rfl .here (by rw [List.length_map]; exact gD.len) Row.all) rfl (JL.nil (kk 0 nofun))
            · intro x EF MF Q kk
              exact JL.q (OQ.load_agg (cs := A.map I) n16a n16s rfl .here (by rw [List.length_map]; exact gA.len) Row.all) rfl (JL.nil (kk 0 nofun))
            · intro x EF MF Q kk
              exact JL.q (OQ.callx goes_times rfl fun w' _ => cDA w') rfl (JL.nil (kk 0 nofun))
            · intro x EF MF Q kk
              exact JL.q (OQ.load_agg (cs := C.map I) n16a n16s rfl .here (by rw [List.length_map]; exact gC.len) Row.all) rfl (JL.nil (kk 0 nofun))
            · intro x EF MF Q kk
              exact JL.q (OQ.load_agg (cs := B.map I) n16a n16s rfl .here (by rw [List.length_map]; exact gB.len) Row.all) rfl (JL.nil (kk 0 nofun))
            · intro x EF MF Q kk
              exact JL.q (OQ.callx goes_times rfl fun w' _ => cCB w') rfl (JL.nil (kk 0 nofun))
            · intro x EF MF Q kk
              exact JL.q (OQ.load_agg (cs := A.map I) n16a n16s rfl .here (by rw [List.length_map]; exact gA.len) Row.all) rfl (JL.nil (kk 0 nofun))
            · intro x EF MF Q kk
              exact JL.q (OQ.load_agg (cs := A.map I) n16a n16s rfl .here (by rw [List.length_map]; exact gA.len) Row.all) rfl (JL.nil (kk 0 nofun))
            · intro x EF MF Q kk
              exact JL.q (OQ.callx goes_times rfl fun w' _ => cAA w') rfl (JL.nil (kk 0 nofun))
            · intro x EF MF Q kk
              exact JL.q (OQ.load_agg (cs := B.map I) n16a n16s rfl .here (by rw [List.length_map]; exact gB.len) Row.all) rfl (JL.nil (kk 0 nofun))
            · intro x EF MF Q kk
              exact JL.q (OQ.load_agg (cs := B.map I) n16a n16s rfl .here (by rw [List.length_map]; exact gB.len) Row.all) rfl (JL.nil (kk 0 nofun))
            · intro x EF MF Q kk
              exact JL.q (OQ.callx goes_times rfl fun w' _ => cBB w') rfl (JL.nil (kk 0 nofun))
            · intro x EF MF Q kk
              exact JL.alloc n16z rfl fun b _ => JL.nil (kk b nofun)
            · intro x EF MF Q kk
              exact JL.alloc n16z rfl fun b _ => JL.nil (kk b nofun)
            · intro x EF MF Q kk
              exact JL.alloc n16z rfl fun b _ => JL.nil (kk b nofun)
            · intro x EF MF Q kk
              exact JL.alloc n16z rfl fun b _ => JL.nil (kk b nofun)
            · intro x EF MF Q kk
              exact JL.store_all (cs := DA.map I) n16s rfl rfl (by rw [List.length_map]; exact gDA.len) (I_cell _) .here (by simp) (JL.nil (kk (x 12) (fun k h => by cases h; rfl)))
            · intro x EF MF Q kk
              exact JL.store_all (cs := CB.map I) n16s rfl rfl (by rw [List.length_map]; exact gCB.len) (I_cell _) .here (by simp) (JL.nil (kk (x 13) (fun k h => by cases h; rfl)))
            · intro x EF MF Q kk
              exact JL.store_all (cs := AA.map I) n16s rfl rfl (by rw [List.length_map]; exact gAA.len) (I_cell _) .here (by simp) (JL.nil (kk (x 14) (fun k h => by cases h; rfl)))
            · intro x EF MF Q kk
              exact JL.store_all (cs := BB.map I) n16s rfl rfl (by rw [List.length_map]; exact gBB.len) (I_cell _) .here (by simp) (JL.nil (kk (x 15) (fun k h => by cases h; rfl)))
          · intro x hx
            have h16 := hx 16 12 (by decide) rfl
            have h17 := hx 17 13 (by decide) rfl
            have h18 := hx 18 14 (by decide) rfl
            have h19 := hx 19 15 (by decide) rfl
            show JE _ _ _ _ _ [(16, Pt (x 12) 0), (17, Pt (x 13) 0), (18, Pt (x 14) 0), (19, Pt (x 15) 0), (2, Pt b2 0), (4, Pt b4 0), (5, Pt b5 0), (6, Pt b6 0), (7, Pt b7 0), (8, Pt b8 0), (9, Pt b9 0), (10, N i), (11, U8 bt), (12, Pt b12 0), (13, Pt b13 0), (14, Pt b14 0), (15, Pt b15 0)] [⟨(x 16), Row 90 (DA.map I), true⟩, ⟨(x 17), Row 90 (CB.map I), true⟩, ⟨(x 18), Row 90 (AA.map I), true⟩, ⟨(x 19), Row 90 (BB.map I), true⟩, ⟨b12, Row 90 (A.map I), true⟩, ⟨b13, Row 90 (B.map I), true⟩, ⟨b14, Row 90 (C.map I), true⟩, ⟨b15, Row 90 (D.map I), true⟩, ⟨b6, Row 90 (X2.map I), true⟩, ⟨b7, Row 90 (Z2.map I), true⟩, ⟨b8, Row 90 (X3.map I), true⟩, ⟨b9, Row 90 (Z3.map I), true⟩, ⟨b5, Row 90 (x1.map I), true⟩, ⟨b4, Row 23 ((List.replicate 32 (0 : By)).map U8), true⟩, ⟨b2, Row 23 (K.map U8), true⟩]
            rw [h16, h17, h18, h19]
            generalize x 12 = b16
            generalize x 13 = b17
            generalize x 14 = b18
            generalize x 15 = b19
            clear hx h16 h17 h18 h19 x vs Ms
            repeat (first | refine JC.seq ?_ | refine JC.region ?_ | refine JE.next ?_)
            repeat (refine JL.q (by first | (apply OQ.load_agg (cs := AA.map I); exact n16a; exact n16s; exact rfl; exact (by repeat (first | exact Has.here | apply Has.there)); exact (by rw [List.length_map]; exact gAA.len); exact Row.all) | (apply OQ.load_agg (cs := BB.map I); exact n16a; exact n16s; exact rfl; exact (by repeat (first | exact Has.here | apply Has.there)); exact (by rw [List.length_map]; exact gBB.len); exact Row.all) | (apply OQ.callx (vs := [.agg (AA.map I).toArray, .agg (BB.map I).toArray]); exact goes_nless; exact rfl; exact (fun w' _ => cE w'))) rfl ?_)
            refine JL.alloc n16z rfl fun b20 _ => ?_
            refine JL.store_all (cs := E.map I) n16s rfl rfl (by rw [List.length_map]; exact gE.len) (I_cell _) .here (by simp) ?_
            repeat (first | refine JC.seq ?_ | refine JL.nil ?_ | refine JE.next ?_)
            refine JC.tail 7 mixC (by kernel_rfl) ?_
            simp only [List.take_succ_cons, List.take_zero, List.drop_succ_cons, List.drop_zero]
            repeat (first | refine JQ.q (by first | (apply OQ.load_agg (cs := DA.map I); exact n16a; exact n16s; exact rfl; exact (by repeat (first | exact Has.here | apply Has.there)); exact (by rw [List.length_map]; exact gDA.len); exact Row.all) | (apply OQ.load_agg (cs := CB.map I); exact n16a; exact n16s; exact rfl; exact (by repeat (first | exact Has.here | apply Has.there)); exact (by rw [List.length_map]; exact gCB.len); exact Row.all) | (apply OQ.callx (vs := [.agg (DA.map I).toArray, .agg (CB.map I).toArray]); exact goes_nadd; exact rfl; exact (fun w' _ => cH w')) | (apply OQ.callx (vs := [.agg (H.map I).toArray, .agg (H.map I).toArray]); exact goes_times; exact rfl; exact (fun w' _ => cR3 w'))) rfl ?_ | refine JQ.nil_tail ?_)
            refine JL.store_all (cs := R3.map I) n16s rfl rfl (by rw [List.length_map]; exact gR3.len) (I_cell _) (by repeat (first | exact Upd.here | apply Upd.there)) (by rw [List.length_map]; exact gX3.len) ?_
            repeat (first | refine JC.seq ?_ | refine JL.nil ?_ | refine JE.next ?_)
            refine JC.tail 9 mixC (by kernel_rfl) ?_
            simp only [List.take_succ_cons, List.take_zero, List.drop_succ_cons, List.drop_zero]
            repeat (first | refine JQ.q (by first | (apply OQ.load_agg (cs := DA.map I); exact n16a; exact n16s; exact rfl; exact (by repeat (first | exact Has.here | apply Has.there)); exact (by rw [List.length_map]; exact gDA.len); exact Row.all) | (apply OQ.load_agg (cs := CB.map I); exact n16a; exact n16s; exact rfl; exact (by repeat (first | exact Has.here | apply Has.there)); exact (by rw [List.length_map]; exact gCB.len); exact Row.all) | (apply OQ.load_agg (cs := x1.map I); exact n16a; exact n16s; exact rfl; exact (by repeat (first | exact Has.here | apply Has.there)); exact (by rw [List.length_map]; exact gx.len); exact Row.all) | (apply OQ.callx (vs := [.agg (DA.map I).toArray, .agg (CB.map I).toArray]); exact goes_nless; exact rfl; exact (fun w' _ => cJ w')) | (apply OQ.callx (vs := [.agg (J.map I).toArray, .agg (J.map I).toArray]); exact goes_times; exact rfl; exact (fun w' _ => cJJ w')) | (apply OQ.callx (vs := [.agg (x1.map I).toArray, .agg (JJ.map I).toArray]); exact goes_times; exact rfl; exact (fun w' _ => cR4 w'))) rfl ?_ | refine JQ.nil_tail ?_)
            refine JL.store_all (cs := R4.map I) n16s rfl rfl (by rw [List.length_map]; exact gR4.len) (I_cell _) (by repeat (first | exact Upd.here | apply Upd.there)) (by rw [List.length_map]; exact gZ3.len) ?_
            repeat (first | refine JL.q (by first | (apply OQ.load_agg (cs := AA.map I); exact n16a; exact n16s; exact rfl; exact (by repeat (first | exact Has.here | apply Has.there)); exact (by rw [List.length_map]; exact gAA.len); exact Row.all) | (apply OQ.load_agg (cs := BB.map I); exact n16a; exact n16s; exact rfl; exact (by repeat (first | exact Has.here | apply Has.there)); exact (by rw [List.length_map]; exact gBB.len); exact Row.all) | (apply OQ.callx (vs := [.agg (AA.map I).toArray, .agg (BB.map I).toArray]); exact goes_times; exact rfl; exact (fun w' _ => cR1 w'))) rfl ?_ | refine JC.seq ?_ | refine JC.region ?_ | refine JL.nil ?_ | refine JE.next ?_)
            refine JL.store_all (cs := R1.map I) n16s rfl rfl (by rw [List.length_map]; exact gR1.len) (I_cell _) (by repeat (first | exact Upd.here | apply Upd.there)) (by rw [List.length_map]; exact gX2.len) ?_
            repeat (first | refine JC.seq ?_ | refine JL.nil ?_ | refine JE.next ?_)
            refine JC.tail 7 mixC (by kernel_rfl) ?_
            simp only [List.take_succ_cons, List.take_zero, List.drop_succ_cons, List.drop_zero]
            repeat (refine JQ.q (by first | (apply OQ.load_agg (cs := E.map I); exact n16a; exact n16s; exact rfl; exact (by repeat (first | exact Has.here | apply Has.there)); exact (by rw [List.length_map]; exact gE.len); exact Row.all) | (apply OQ.load_agg (cs := AA.map I); exact n16a; exact n16s; exact rfl; exact (by repeat (first | exact Has.here | apply Has.there)); exact (by rw [List.length_map]; exact gAA.len); exact Row.all)) rfl ?_)
            refine JQ.q (OQ.pure (v := .agg (cL.map I).toArray) rfl rfl (by kernel_rfl)) rfl ?_
            repeat (first | refine JQ.q (by first | (apply OQ.load_agg (cs := E.map I); exact n16a; exact n16s; exact rfl; exact (by repeat (first | exact Has.here | apply Has.there)); exact (by rw [List.length_map]; exact gE.len); exact Row.all) | (apply OQ.callx (vs := [.agg (cL.map I).toArray, .agg (E.map I).toArray]); exact goes_times; exact rfl; exact (fun w' _ => cF w')) | (apply OQ.callx (vs := [.agg (AA.map I).toArray, .agg (F.map I).toArray]); exact goes_nadd; exact rfl; exact (fun w' _ => cG w')) | (apply OQ.callx (vs := [.agg (E.map I).toArray, .agg (G.map I).toArray]); exact goes_times; exact rfl; exact (fun w' _ => cR2 w'))) rfl ?_ | refine JQ.nil_tail ?_)
            refine JL.store_all (cs := R2.map I) n16s rfl rfl (by rw [List.length_map]; exact gR2.len) (I_cell _) (by repeat (first | exact Upd.here | apply Upd.there)) (by rw [List.length_map]; exact gZ2.len) ?_
            repeat (first | refine JL.q (by first | (apply OQ.eq8 (b := 1#8); exact rfl; exact rfl) | (apply OQ.move; exact rfl)) rfl ?_ | refine JC.seq ?_ | refine JC.region ?_ | refine JL.nil ?_ | refine JE.next ?_)
            refine JC.cond rfl (fun h => ?_) (fun h => ?_)
            · repeat (first | refine JL.q (by first | (apply OQ.load_agg (cs := R1.map I); exact n16a; exact n16s; exact rfl; exact (by repeat (first | exact Has.here | apply Has.there)); exact (by rw [List.length_map]; exact gR1.len); exact Row.all) | (apply OQ.load_agg (cs := R3.map I); exact n16a; exact n16s; exact rfl; exact (by repeat (first | exact Has.here | apply Has.there)); exact (by rw [List.length_map]; exact gR3.len); exact Row.all)) rfl ?_ | refine JC.seq ?_ | refine JC.region ?_)
              refine JL.store_all (cs := R3.map I) n16s rfl rfl (by rw [List.length_map]; exact gR3.len) (I_cell _) (by repeat (first | exact Upd.here | apply Upd.there)) (by rw [List.length_map]; exact gR1.len) ?_
              skip
              refine JL.store_all (cs := R1.map I) n16s rfl rfl (by rw [List.length_map]; exact gR1.len) (I_cell _) (by repeat (first | exact Upd.here | apply Upd.there)) (by rw [List.length_map]; exact gR3.len) ?_
              repeat (first | refine JL.q (by first | (apply OQ.load_agg (cs := R2.map I); exact n16a; exact n16s; exact rfl; exact (by repeat (first | exact Has.here | apply Has.there)); exact (by rw [List.length_map]; exact gR2.len); exact Row.all) | (apply OQ.load_agg (cs := R4.map I); exact n16a; exact n16s; exact rfl; exact (by repeat (first | exact Has.here | apply Has.there)); exact (by rw [List.length_map]; exact gR4.len); exact Row.all)) rfl ?_ | refine JC.region ?_ | refine JL.nil ?_ | refine JE.next ?_)
              refine JL.store_all (cs := R4.map I) n16s rfl rfl (by rw [List.length_map]; exact gR4.len) (I_cell _) (by repeat (first | exact Upd.here | apply Upd.there)) (by rw [List.length_map]; exact gR2.len) ?_
              skip
              refine JL.store_all (cs := R2.map I) n16s rfl rfl (by rw [List.length_map]; exact gR2.len) (I_cell _) (by repeat (first | exact Upd.here | apply Upd.there)) (by rw [List.length_map]; exact gR4.len) ?_
              repeat (first | refine JL.q (by (apply OQ.move; exact rfl)) rfl ?_ | refine JC.region ?_ | refine JL.nil ?_ | refine JE.next ?_ | refine JE.blk_normal ?_)
              repeat (first | refine JL.q (by first | (apply OQ.subI (b := 1); exact rfl; exact rfl; exact (by omega); exact (by omega)) | (apply OQ.assign; exact rfl)) rfl ?_ | refine JL.nil ?_)
              refine JE.again (i := n) (n + 1) (by omega) (by omega) ?_ ?_
              · rw [show (254 - ((n + 1 : Nat) : Int)) = (i : Int) - 1 by omega]
                exact (by repeat (first | exact SubE.nil | refine SubE.cons _ _ _ rfl ?_))
              · rw [eN, ← hbit, h]
                repeat (first | exact Less.refl _ | refine Less.drop _ _ _ ?_)
            · repeat (first | refine JL.q (by (apply OQ.move; exact rfl)) rfl ?_ | refine JC.region ?_ | refine JC.skip ?_ | refine JE.next ?_ | refine JE.blk_normal ?_)
              repeat (first | refine JL.q (by first | (apply OQ.subI (b := 1); exact rfl; exact rfl; exact (by omega); exact (by omega)) | (apply OQ.assign; exact rfl)) rfl ?_ | refine JL.nil ?_)
              refine JE.again (i := n) (n + 1) (by omega) (by omega) ?_ ?_
              · rw [show (254 - ((n + 1 : Nat) : Int)) = (i : Int) - 1 by omega]
                exact (by repeat (first | exact SubE.nil | refine SubE.cons _ _ _ rfl ?_))
              · rw [eN, ← hbit, h]
                repeat (first | exact Less.refl _ | refine Less.drop _ _ _ ?_)
      · have hn' : ¬ (0 : Int) ≤ 254 - n := of_decide_eq_false h
        obtain rfl : n = 255 := by omega
        clear h hn hn'
        generalize ladL x1 (le K) 255 = s at ok eM ⊢
        obtain ⟨X2, Z2, X3, Z3⟩ := s
        have gX2 : Good X2 := ok.x2
        have gZ2 : Good Z2 := ok.z2
        dsimp only at eM ⊢
        have cV := ninv_any Z2 gZ2
        have gV := invS_good gZ2 255
        generalize invS Z2 255 = V at cV gV eM
        have cW := times_any X2 V gX2 gV
        have gW := mulL_good gX2 gV
        generalize mulL X2 V = W at cW gW eM
        have cY := nwrite_any W gW
        rw [eM] at cY
        have hly : ((multB k u).map U8).length = 32 := by rw [List.length_map]; exact keyF_len _
        generalize multB k u = Y at cY hly ⊢
        repeat (first | refine JC.seq ?_ | refine JC.exit ?_ | refine JE.next ?_ | refine JE.then_exit ?_ | refine JE.blk_hit ?_)
        refine JC.tail 5 mixC (by kernel_rfl) ?_
        simp only [List.take_succ_cons, List.take_zero, List.drop_succ_cons, List.drop_zero]
        repeat (first | refine JQ.q (by first | (apply OQ.load_agg (cs := X2.map I); exact n16a; exact n16s; exact rfl; exact (by repeat (first | exact Has.here | apply Has.there)); exact (by rw [List.length_map]; exact gX2.len); exact Row.all) | (apply OQ.load_agg (cs := Z2.map I); exact n16a; exact n16s; exact rfl; exact (by repeat (first | exact Has.here | apply Has.there)); exact (by rw [List.length_map]; exact gZ2.len); exact Row.all) | (apply OQ.callx (vs := [.agg (Z2.map I).toArray]); exact goes_ninv; exact rfl; exact (fun w' _ => cV w')) | (apply OQ.callx (vs := [.agg (X2.map I).toArray, .agg (V.map I).toArray]); exact goes_times; exact rfl; exact (fun w' _ => cW w')) | (apply OQ.callx (vs := [.agg (W.map I).toArray]); exact goes_nwrite; exact rfl; exact (fun w' _ => cY w'))) rfl ?_ | refine JQ.nil_tail ?_)
        refine JL.store_all (cs := Y.map U8) k32s rfl rfl hly (Y_cell _) (by repeat (first | exact Upd.here | apply Upd.there)) (by simp) ?_
        repeat (first | refine JL.nil ?_ | refine JE.next ?_)
        refine JC.ret (JE.ret1 rfl (RV.cell_agg k32a k32s rfl (by repeat (first | exact Has.here | apply Has.there)) hly Row.all) ?_)
        exact fun w' hw => ⟨rfl, hw.chg⟩
end Go.Proofs.YtbhlcnimjoppeaaDoor

/-
  Of no statement by itself: five limbs of 51 bits modulo 2^255 - 19: carries, sums, differences, products of 128 bits; no program stands here.
  Conditions: none but each lemma's own.
-/
namespace Go.Proofs.YtbhlcnimjoppeaaDoor
namespace Crv
abbrev W64 := BitVec 64
structure N5 where
  a0 : W64
  a1 : W64
  a2 : W64
  a3 : W64
  a4 : W64
@[reducible] def N5.l (n : N5) : List W64 := [n.a0, n.a1, n.a2, n.a3, n.a4]
def val5 (n : N5) : Nat := n.a0.toNat + 2251799813685248 * (n.a1.toNat + 2251799813685248 * (n.a2.toNat + 2251799813685248 * (n.a3.toNat + 2251799813685248 * n.a4.toNat)))
structure Good5 (n : N5) : Prop where
  a0 : n.a0.toNat < 2251799813947392
  a1 : n.a1.toNat < 2251799813947392
  a2 : n.a2.toNat < 2251799813947392
  a3 : n.a3.toNat < 2251799813947392
  a4 : n.a4.toNat < 2251799813947392
/-! ### natural numbers modulo p -/
theorem P_is : P = 57896044618658097711785492504343953926634992332820282019728792003956564819949 := rfl
def fn (x : Nat) : F := fi (x : Int)
theorem fn_add (x y : Nat) : fn (x + y) = fn x + fn y := by
  unfold fn
  rw [Int.natCast_add, fi_add]
theorem fn_mul (x y : Nat) : fn (x * y) = fn x * fn y := by
  unfold fn
  rw [Int.natCast_mul, fi_mul]
theorem fn_off {x y q : Nat} (h : x + q * P = y) : fn x = fn y := by
  unfold fn
  refine (fi_off (q := (q : Int)) ?_).symm
  rw [← h, Int.natCast_add, Int.natCast_mul]
theorem fn_lt {x : Nat} (h : x < P) : (fn x).val = x := by
  have := fi_val (x : Int)
  rw [Int.emod_eq_of_lt (by omega) (by omega)] at this
  unfold fn
  omega
def fv5 (n : N5) : F := fn (val5 n)
def rr : F := 2251799813685248
theorem rr5 : rr * rr * rr * rr * rr = 19 := by decide +kernel
theorem fn_rr : fn 2251799813685248 = rr := by decide +kernel
theorem fn_19 : fn 19 = 19 := by decide +kernel
theorem fv5_is (n : N5) : fv5 n = fn n.a0.toNat + rr * (fn n.a1.toNat + rr * (fn n.a2.toNat + rr * (fn n.a3.toNat + rr * fn n.a4.toNat))) := by
  unfold fv5 val5
  rw [fn_add, fn_mul, fn_add, fn_mul, fn_add, fn_mul, fn_add, fn_mul, fn_rr]
/-! ### words -/
theorem toNat_mask (x : W64) : (x &&& 2251799813685247#64).toNat = x.toNat % 2251799813685248 := by
  rw [BitVec.toNat_and, show (2251799813685247#64).toNat = 2 ^ 51 - 1 from rfl, Nat.and_two_pow_sub_one_eq_mod]
theorem toNat_shr (x : W64) (k : Nat) : (x >>> k).toNat = x.toNat / 2 ^ k := by rw [BitVec.toNat_ushiftRight, Nat.shiftRight_eq_div_pow]
theorem toNat_shr51 (x : W64) : (x >>> 51).toNat = x.toNat / 2251799813685248 := toNat_shr x 51
theorem toNat_add {x y : W64} (h : x.toNat + y.toNat < 18446744073709551616) : (x + y).toNat = x.toNat + y.toNat := by
  rw [BitVec.toNat_add]
  exact Nat.mod_eq_of_lt h
theorem toNat_mul19 {y : W64} (h : 19 * y.toNat < 18446744073709551616) : (19#64 * y).toNat = 19 * y.toNat := by
  rw [BitVec.toNat_mul]
  exact Nat.mod_eq_of_lt h
/-! ### carries -/
def carB (n : N5) : N5 :=
  ⟨(n.a0 &&& 2251799813685247#64) + 19#64 * (n.a4 >>> 51), (n.a1 &&& 2251799813685247#64) + n.a0 >>> 51, (n.a2 &&& 2251799813685247#64) + n.a1 >>> 51,
   (n.a3 &&& 2251799813685247#64) + n.a2 >>> 51, (n.a4 &&& 2251799813685247#64) + n.a3 >>> 51⟩
structure CarS (n m : N5) : Prop where
  a0 : m.a0.toNat = n.a0.toNat % 2251799813685248 + 19 * (n.a4.toNat / 2251799813685248)
  a1 : m.a1.toNat = n.a1.toNat % 2251799813685248 + n.a0.toNat / 2251799813685248
  a2 : m.a2.toNat = n.a2.toNat % 2251799813685248 + n.a1.toNat / 2251799813685248
  a3 : m.a3.toNat = n.a3.toNat % 2251799813685248 + n.a2.toNat / 2251799813685248
  a4 : m.a4.toNat = n.a4.toNat % 2251799813685248 + n.a3.toNat / 2251799813685248
theorem carB_is (n : N5) : CarS n (carB n) := by
  have h0 := n.a0.isLt
  have h1 := n.a1.isLt
  have h2 := n.a2.isLt
  have h3 := n.a3.isLt
  have h4 := n.a4.isLt
  have m0 := toNat_mask n.a0
  have m1 := toNat_mask n.a1
  have m2 := toNat_mask n.a2
  have m3 := toNat_mask n.a3
  have m4 := toNat_mask n.a4
  have s0 := toNat_shr51 n.a0
  have s1 := toNat_shr51 n.a1
  have s2 := toNat_shr51 n.a2
  have s3 := toNat_shr51 n.a3
  have s4 := toNat_shr51 n.a4
  have f := toNat_mul19 (y := n.a4 >>> 51) (by omega)
  exact ⟨(toNat_add (by omega)).trans (by omega), (toNat_add (by omega)).trans (by omega), (toNat_add (by omega)).trans (by omega), (toNat_add (by omega)).trans (by omega), (toNat_add (by omega)).trans (by omega)⟩
theorem carB_good (n : N5) : Good5 (carB n) := by
  have c := carB_is n
  have h0 := n.a0.isLt
  have h1 := n.a1.isLt
  have h2 := n.a2.isLt
  have h3 := n.a3.isLt
  have h4 := n.a4.isLt
  exact ⟨by rw [c.a0]; omega, by rw [c.a1]; omega, by rw [c.a2]; omega, by rw [c.a3]; omega, by rw [c.a4]; omega⟩
theorem carB_val (n : N5) : val5 (carB n) + n.a4.toNat / 2251799813685248 * P = val5 n := by
  have c := carB_is n
  unfold val5
  rw [c.a0, c.a1, c.a2, c.a3, c.a4, P_is]
  omega
theorem carB_fv (n : N5) : fv5 (carB n) = fv5 n := fn_off (carB_val n)
/-! ### sums and differences -/
def sumB (a b : N5) : N5 := carB ⟨a.a0 + b.a0, a.a1 + b.a1, a.a2 + b.a2, a.a3 + b.a3, a.a4 + b.a4⟩
def difB (a b : N5) : N5 := carB ⟨a.a0 + 4503599627370458#64 - b.a0, a.a1 + 4503599627370494#64 - b.a1, a.a2 + 4503599627370494#64 - b.a2, a.a3 + 4503599627370494#64 - b.a3, a.a4 + 4503599627370494#64 - b.a4⟩
theorem sumB_good (a b : N5) : Good5 (sumB a b) := carB_good _
theorem difB_good (a b : N5) : Good5 (difB a b) := carB_good _
theorem sumB_fv {a b : N5} (ha : Good5 a) (hb : Good5 b) : fv5 (sumB a b) = fv5 a + fv5 b := by
  obtain ⟨p0, p1, p2, p3, p4⟩ := ha
  obtain ⟨q0, q1, q2, q3, q4⟩ := hb
  have e0 := toNat_add (x := a.a0) (y := b.a0) (by omega)
  have e1 := toNat_add (x := a.a1) (y := b.a1) (by omega)
  have e2 := toNat_add (x := a.a2) (y := b.a2) (by omega)
  have e3 := toNat_add (x := a.a3) (y := b.a3) (by omega)
  have e4 := toNat_add (x := a.a4) (y := b.a4) (by omega)
  unfold sumB
  rw [carB_fv]
  unfold fv5
  rw [← fn_add]
  congr 1
  unfold val5
  rw [e0, e1, e2, e3, e4]
  omega
theorem toNat_less {x y : W64} {c : Nat} (h : x.toNat + c < 18446744073709551616) (hy : y.toNat ≤ c) : (x + BitVec.ofNat 64 c - y).toNat + y.toNat = x.toNat + c := by
  rw [BitVec.toNat_sub, BitVec.toNat_add, BitVec.toNat_ofNat]
  have := y.isLt
  omega
theorem difB_fv {a b : N5} (ha : Good5 a) (hb : Good5 b) : fv5 (difB a b) = fv5 a - fv5 b := by
  obtain ⟨p0, p1, p2, p3, p4⟩ := ha
  obtain ⟨q0, q1, q2, q3, q4⟩ := hb
  have e0 := toNat_less (x := a.a0) (y := b.a0) (c := 4503599627370458) (by omega) (by omega)
  have e1 := toNat_less (x := a.a1) (y := b.a1) (c := 4503599627370494) (by omega) (by omega)
  have e2 := toNat_less (x := a.a2) (y := b.a2) (c := 4503599627370494) (by omega) (by omega)
  have e3 := toNat_less (x := a.a3) (y := b.a3) (c := 4503599627370494) (by omega) (by omega)
  have e4 := toNat_less (x := a.a4) (y := b.a4) (c := 4503599627370494) (by omega) (by omega)
  unfold difB
  rw [carB_fv]
  have k : fn (val5 ⟨a.a0 + 4503599627370458#64 - b.a0, a.a1 + 4503599627370494#64 - b.a1, a.a2 + 4503599627370494#64 - b.a2, a.a3 + 4503599627370494#64 - b.a3, a.a4 + 4503599627370494#64 - b.a4⟩ + val5 b) = fn (val5 a) := by
    refine (fn_off (q := 2) ?_).symm
    unfold val5
    simp only
    rw [P_is]
    omega
  rw [fn_add] at k
  unfold fv5
  rw [← k]
  generalize fn (val5 b) = y
  generalize fn (val5 _) = x
  clear k
  grobner
/-! ### products of 128 bits -/
structure W2 where
  hi : W64
  lo : W64
@[reducible] def W2.l (w : W2) : List W64 := [w.hi, w.lo]
def W2.v (w : W2) : Nat := w.hi.toNat * 18446744073709551616 + w.lo.toNat
def mulHi (a b : W64) : W64 := BitVec.ofNat 64 (a.toNat * b.toNat / 18446744073709551616)
def cry (a b : W64) : W64 := BitVec.ofNat 64 ((a.toNat + b.toNat) / 18446744073709551616)
def tms (a b : W64) : W2 := ⟨mulHi a b, a * b⟩
def pls (w : W2) (a b : W64) : W2 := ⟨w.hi + mulHi a b + cry w.lo (a * b), w.lo + a * b⟩
def rst (w : W2) : W64 := w.hi <<< 13 ||| w.lo >>> 51
theorem mulHi_is (a b : W64) : (mulHi a b).toNat = a.toNat * b.toNat / 18446744073709551616 := by
  unfold mulHi
  rw [BitVec.toNat_ofNat]
  apply Nat.mod_eq_of_lt
  have h := Nat.mul_lt_mul'' a.isLt b.isLt
  omega
theorem cry_is (a b : W64) : (cry a b).toNat = (a.toNat + b.toNat) / 18446744073709551616 := by
  unfold cry
  rw [BitVec.toNat_ofNat]
  have := a.isLt
  have := b.isLt
  omega
theorem tms_v (a b : W64) : (tms a b).v = a.toNat * b.toNat := by
  unfold tms W2.v
  simp only
  rw [mulHi_is, BitVec.toNat_mul]
  omega
theorem pls_v {w : W2} {a b : W64} (h : w.v + a.toNat * b.toNat < 340282366920938463463374607431768211456) : (pls w a b).v = w.v + a.toNat * b.toNat := by
  unfold pls W2.v at *
  simp only at *
  rw [BitVec.toNat_add, BitVec.toNat_add, BitVec.toNat_add, cry_is, mulHi_is, BitVec.toNat_mul]
  generalize a.toNat * b.toNat = p at *
  have := w.lo.isLt
  have := w.hi.isLt
  omega
theorem or_add (x y : W64) {k : Nat} (hk : k ≤ 64) (hx : x.toNat < 2 ^ k) : (y <<< k ||| x).toNat = y.toNat * 2 ^ k % 2 ^ 64 + x.toNat := by
  have e : (y.toNat * 2 ^ k % 2 ^ 64) = (y.toNat % 2 ^ (64 - k)) <<< k := by
    rw [Nat.shiftLeft_eq, ← Nat.mul_mod_mul_right, ← Nat.pow_add, Nat.sub_add_cancel hk]
  rw [BitVec.toNat_or, BitVec.toNat_shiftLeft, Nat.shiftLeft_eq, e, ← Nat.shiftLeft_add_eq_or_of_lt hx]
theorem rst_is {w : W2} (h : w.v < 41538374868278621028243970633760768) : (rst w).toNat = w.v / 2251799813685248 := by
  unfold rst
  have hs := toNat_shr51 w.lo
  have l := w.lo.isLt
  rw [or_add _ _ (k := 13) (by omega) (by omega), hs]
  unfold W2.v at *
  omega
def nrw (w0 w1 w2 w3 w4 : W2) : N5 :=
  carB ⟨(w0.lo &&& 2251799813685247#64) + 19#64 * rst w4, (w1.lo &&& 2251799813685247#64) + rst w0, (w2.lo &&& 2251799813685247#64) + rst w1, (w3.lo &&& 2251799813685247#64) + rst w2, (w4.lo &&& 2251799813685247#64) + rst w3⟩
def prdB (a b : N5) : N5 :=
  let f1 := 19#64 * b.a1
  let f2 := 19#64 * b.a2
  let f3 := 19#64 * b.a3
  let f4 := 19#64 * b.a4
  nrw (pls (pls (pls (pls (tms a.a0 b.a0) a.a1 f4) a.a2 f3) a.a3 f2) a.a4 f1)
    (pls (pls (pls (pls (tms a.a0 b.a1) a.a1 b.a0) a.a2 f4) a.a3 f3) a.a4 f2)
    (pls (pls (pls (pls (tms a.a0 b.a2) a.a1 b.a1) a.a2 b.a0) a.a3 f4) a.a4 f3)
    (pls (pls (pls (pls (tms a.a0 b.a3) a.a1 b.a2) a.a2 b.a1) a.a3 b.a0) a.a4 f4)
    (pls (pls (pls (pls (tms a.a0 b.a4) a.a1 b.a3) a.a2 b.a2) a.a3 b.a1) a.a4 b.a0)
theorem prdB_good (a b : N5) : Good5 (prdB a b) := carB_good _
theorem nrw_fv {w0 w1 w2 w3 w4 : W2} (h0 : w0.v < 5192296858534827628530496329220096) (h1 : w1.v < 5192296858534827628530496329220096) (h2 : w2.v < 5192296858534827628530496329220096) (h3 : w3.v < 5192296858534827628530496329220096) (h4 : w4.v < 324518553658426726783156020576256) :
    fv5 (nrw w0 w1 w2 w3 w4) = fn w0.v + rr * (fn w1.v + rr * (fn w2.v + rr * (fn w3.v + rr * fn w4.v))) := by
  have r0 := rst_is (w := w0) (by omega)
  have r1 := rst_is (w := w1) (by omega)
  have r2 := rst_is (w := w2) (by omega)
  have r3 := rst_is (w := w3) (by omega)
  have r4 := rst_is (w := w4) (by omega)
  have lo : ∀ w : W2, w.lo.toNat % 2251799813685248 = w.v % 2251799813685248 := fun w => by
    unfold W2.v
    omega
  have m0 := (toNat_mask w0.lo).trans (lo w0)
  have m1 := (toNat_mask w1.lo).trans (lo w1)
  have m2 := (toNat_mask w2.lo).trans (lo w2)
  have m3 := (toNat_mask w3.lo).trans (lo w3)
  have m4 := (toNat_mask w4.lo).trans (lo w4)
  clear lo
  have f := toNat_mul19 (y := rst w4) (by omega)
  have e0 := toNat_add (x := w0.lo &&& 2251799813685247#64) (y := 19#64 * rst w4) (by omega)
  have e1 := toNat_add (x := w1.lo &&& 2251799813685247#64) (y := rst w0) (by omega)
  have e2 := toNat_add (x := w2.lo &&& 2251799813685247#64) (y := rst w1) (by omega)
  have e3 := toNat_add (x := w3.lo &&& 2251799813685247#64) (y := rst w2) (by omega)
  have e4 := toNat_add (x := w4.lo &&& 2251799813685247#64) (y := rst w3) (by omega)
  unfold nrw
  rw [carB_fv, ← fn_rr, ← fn_mul, ← fn_add, ← fn_mul, ← fn_add, ← fn_mul, ← fn_add, ← fn_mul, ← fn_add]
  refine fn_off (q := w4.v / 2251799813685248) ?_
  unfold val5
  simp only
  rw [e0, e1, e2, e3, e4, f, m0, m1, m2, m3, m4, r0, r1, r2, r3, r4, P_is]
  clear e0 e1 e2 e3 e4 f m0 m1 m2 m3 m4 r0 r1 r2 r3 r4
  generalize w0.v = v0 at *
  generalize w1.v = v1 at *
  generalize w2.v = v2 at *
  generalize w3.v = v3 at *
  generalize w4.v = v4 at *
  omega
theorem bdm {x y : Nat} {c d : Nat} (hx : x < c) (hy : y < d) : x * y ≤ c * d := Nat.mul_le_mul (Nat.le_of_lt hx) (Nat.le_of_lt hy)
/-- five products, one behind the other -/
theorem five {a0 a1 a2 a3 a4 b0 b1 b2 b3 b4 : W64} (h0 : a0.toNat < 2251799813947392) (h1 : a1.toNat < 2251799813947392) (h2 : a2.toNat < 2251799813947392) (h3 : a3.toNat < 2251799813947392) (h4 : a4.toNat < 2251799813947392)
    {d : Nat} (hd : d ≤ 42784196465000448) (k0 : b0.toNat < d) (k1 : b1.toNat < d) (k2 : b2.toNat < d) (k3 : b3.toNat < d) (k4 : b4.toNat < d) :
    (pls (pls (pls (pls (tms a0 b0) a1 b1) a2 b2) a3 b3) a4 b4).v = a0.toNat * b0.toNat + a1.toNat * b1.toNat + a2.toNat * b2.toNat + a3.toNat * b3.toNat + a4.toNat * b4.toNat ∧
    (pls (pls (pls (pls (tms a0 b0) a1 b1) a2 b2) a3 b3) a4 b4).v ≤ 11258999069736960 * d := by
  have p0 := bdm h0 k0
  have p1 := bdm h1 k1
  have p2 := bdm h2 k2
  have p3 := bdm h3 k3
  have p4 := bdm h4 k4
  have e0 := tms_v a0 b0
  have e1 := pls_v (w := tms a0 b0) (a := a1) (b := b1) (by rw [e0]; omega)
  rw [e0] at e1
  have e2 := pls_v (w := pls (tms a0 b0) a1 b1) (a := a2) (b := b2) (by rw [e1]; omega)
  rw [e1] at e2
  have e3 := pls_v (w := pls (pls (tms a0 b0) a1 b1) a2 b2) (a := a3) (b := b3) (by rw [e2]; omega)
  rw [e2] at e3
  have e4 := pls_v (w := pls (pls (pls (tms a0 b0) a1 b1) a2 b2) a3 b3) (a := a4) (b := b4) (by rw [e3]; omega)
  rw [e3] at e4
  refine ⟨e4, ?_⟩
  rw [e4]
  omega
theorem prdB_fv {a b : N5} (ha : Good5 a) (hb : Good5 b) : fv5 (prdB a b) = fv5 a * fv5 b := by
  obtain ⟨p0, p1, p2, p3, p4⟩ := ha
  obtain ⟨q0, q1, q2, q3, q4⟩ := hb
  have f1 := toNat_mul19 (y := b.a1) (by omega)
  have f2 := toNat_mul19 (y := b.a2) (by omega)
  have f3 := toNat_mul19 (y := b.a3) (by omega)
  have f4 := toNat_mul19 (y := b.a4) (by omega)
  have v0 := five p0 p1 p2 p3 p4 (b0 := b.a0) (b1 := 19#64 * b.a4) (b2 := 19#64 * b.a3) (b3 := 19#64 * b.a2) (b4 := 19#64 * b.a1) (d := 42784196465000448) (by omega) (by omega) (by omega) (by omega) (by omega) (by omega)
  have v1 := five p0 p1 p2 p3 p4 (b0 := b.a1) (b1 := b.a0) (b2 := 19#64 * b.a4) (b3 := 19#64 * b.a3) (b4 := 19#64 * b.a2) (d := 42784196465000448) (by omega) (by omega) (by omega) (by omega) (by omega) (by omega)
  have v2 := five p0 p1 p2 p3 p4 (b0 := b.a2) (b1 := b.a1) (b2 := b.a0) (b3 := 19#64 * b.a4) (b4 := 19#64 * b.a3) (d := 42784196465000448) (by omega) (by omega) (by omega) (by omega) (by omega) (by omega)
  have v3 := five p0 p1 p2 p3 p4 (b0 := b.a3) (b1 := b.a2) (b2 := b.a1) (b3 := b.a0) (b4 := 19#64 * b.a4) (d := 42784196465000448) (by omega) (by omega) (by omega) (by omega) (by omega) (by omega)
  have v4 := five p0 p1 p2 p3 p4 (b0 := b.a4) (b1 := b.a3) (b2 := b.a2) (b3 := b.a1) (b4 := b.a0) (d := 2251799813947392) (by omega) q4 q3 q2 q1 q0
  unfold prdB
  simp only
  rw [nrw_fv (by have := v0.2; omega) (by have := v1.2; omega) (by have := v2.2; omega) (by have := v3.2; omega) (by have := v4.2; omega), v0.1, v1.1, v2.1, v3.1, v4.1, f1, f2, f3, f4, fv5_is, fv5_is]
  simp only [fn_add, fn_mul, fn_19]
  have h := rr5
  generalize rr = r at *
  generalize fn a.a0.toNat = x0
  generalize fn a.a1.toNat = x1
  generalize fn a.a2.toNat = x2
  generalize fn a.a3.toNat = x3
  generalize fn a.a4.toNat = x4
  generalize fn b.a0.toNat = y0
  generalize fn b.a1.toNat = y1
  generalize fn b.a2.toNat = y2
  generalize fn b.a3.toNat = y3
  generalize fn b.a4.toNat = y4
  clear v0 v1 v2 v3 v4 f1 f2 f3 f4 p0 p1 p2 p3 p4 q0 q1 q2 q3 q4
  grobner
end Crv
end Go.Proofs.YtbhlcnimjoppeaaDoor

/-
  Of no statement by itself: five limbs of 51 bits modulo 2^255 - 19: powers, the inverse; no program stands here.
  Conditions: none but each lemma's own.
-/
namespace Go.Proofs.YtbhlcnimjoppeaaDoor
namespace Crv
/-! ### powers -/
def sqB (n : N5) : Nat → N5
  | 0 => n
  | k + 1 => prdB (sqB n k) (sqB n k)
theorem sqB_good {n : N5} (h : Good5 n) : ∀ k, Good5 (sqB n k)
  | 0 => h
  | _ + 1 => prdB_good _ _
structure Pow (x : F) (n : N5) (e : Nat) : Prop where
  good : Good5 n
  fv : fv5 n = pw x e
theorem Pow.mul {x : F} {a b : N5} {d e : Nat} (ha : Pow x a d) (hb : Pow x b e) : Pow x (prdB a b) (d + e) :=
  ⟨prdB_good _ _, by rw [prdB_fv ha.good hb.good, ha.fv, hb.fv, pw_add]⟩
theorem Pow.sq {x : F} {a : N5} {d : Nat} (ha : Pow x a d) : ∀ k, Pow x (sqB a k) (d * 2 ^ k)
  | 0 => by rw [Nat.pow_zero, Nat.mul_one]; exact ha
  | k + 1 => by
    have := (ha.sq k).mul (ha.sq k)
    rw [show d * 2 ^ (k + 1) = d * 2 ^ k + d * 2 ^ k by rw [Nat.pow_succ, ← Nat.mul_assoc]; omega]
    exact this
theorem Pow.to {x : F} {a : N5} {d e : Nat} (h : Pow x a d) (he : Nat.beq d e = true) : Pow x a e := Nat.eq_of_beq_eq_true he ▸ h
structure InvT where
  two : N5
  nine : N5
  eleven : N5
  o5 : N5
  o10 : N5
  o20 : N5
  o40 : N5
  o50 : N5
  o100 : N5
  o200 : N5
  o250 : N5
  all : N5
def invT (n : N5) : InvT :=
  let two := sqB n 1
  let nine := prdB (sqB two 2) n
  let eleven := prdB nine two
  let o5 := prdB (sqB eleven 1) nine
  let o10 := prdB (sqB o5 5) o5
  let o20 := prdB (sqB o10 10) o10
  let o40 := prdB (sqB o20 20) o20
  let o50 := prdB (sqB o40 10) o10
  let o100 := prdB (sqB o50 50) o50
  let o200 := prdB (sqB o100 100) o100
  let o250 := prdB (sqB o200 50) o50
  ⟨two, nine, eleven, o5, o10, o20, o40, o50, o100, o200, o250, prdB (sqB o250 5) eleven⟩
def invB (n : N5) : N5 := (invT n).all
theorem invB_pow {n : N5} (h : Good5 n) : Pow (fv5 n) (invB n) (P - 2) := by
  have h1 : Pow (fv5 n) n 1 := ⟨h, by show fv5 n = 1 * fv5 n; grobner⟩
  have two := h1.sq 1
  have nine := (two.sq 2).mul h1
  have eleven := nine.mul two
  have o5 := (eleven.sq 1).mul nine
  have o10 := (o5.sq 5).mul o5
  have o20 := (o10.sq 10).mul o10
  have o40 := (o20.sq 20).mul o20
  have o50 := (o40.sq 10).mul o10
  have o100 := (o50.sq 50).mul o50
  have o200 := (o100.sq 100).mul o100
  have o250 := (o200.sq 50).mul o50
  have all := (o250.sq 5).mul eleven
  have r := all.to (e := P - 2) (by decide +kernel)
  exact r
theorem invB_fv {n : N5} (h : Good5 n) : fv5 (invB n) = inv (fv5 n) := (invB_pow h).fv
theorem invB_good {n : N5} (h : Good5 n) : Good5 (invB n) := (invB_pow h).good
end Crv
end Go.Proofs.YtbhlcnimjoppeaaDoor

/-
  Of no statement by itself: five limbs of 51 bits modulo 2^255 - 19: numbers less than p; no program stands here.
  Conditions: none but each lemma's own.
-/
namespace Go.Proofs.YtbhlcnimjoppeaaDoor
namespace Crv
/-! ### less than p -/
def rsB (l : List W64) (c : W64) : Nat → W64
  | 0 => c
  | i + 1 => (l.getD i 0 + rsB l c i) >>> 51
def leB (l : List W64) (c : W64) : Nat → List W64
  | 0 => l
  | i + 1 => (leB l c i).set i ((l.getD i 0 + rsB l c i) &&& 2251799813685247#64)
theorem leB_len (l : List W64) (c : W64) : ∀ i, (leB l c i).length = l.length
  | 0 => rfl
  | i + 1 => by rw [leB, List.length_set, leB_len l c i]
def lstB (n : N5) : N5 :=
  let c := 19#64 * rsB n.l 19#64 5
  ⟨(n.a0 + rsB n.l c 0) &&& 2251799813685247#64, (n.a1 + rsB n.l c 1) &&& 2251799813685247#64, (n.a2 + rsB n.l c 2) &&& 2251799813685247#64, (n.a3 + rsB n.l c 3) &&& 2251799813685247#64, (n.a4 + rsB n.l c 4) &&& 2251799813685247#64⟩
theorem leB_all (n : N5) : leB n.l (19#64 * rsB n.l 19#64 5) 5 = (lstB n).l := rfl
theorem rsB_is (l : List W64) (c : W64) (i : Nat) (h : (l.getD i 0).toNat < 2251799813947392) (hc : (rsB l c i).toNat < 2251799813947392) : (rsB l c (i + 1)).toNat = ((l.getD i 0).toNat + (rsB l c i).toNat) / 2251799813685248 := by
  rw [rsB, toNat_shr51, toNat_add (by omega)]
structure Nrm (n : N5) : Prop where
  a0 : n.a0.toNat < 2251799813685248
  a1 : n.a1.toNat < 2251799813685248
  a2 : n.a2.toNat < 2251799813685248
  a3 : n.a3.toNat < 2251799813685248
  a4 : n.a4.toNat < 2251799813685248
/-- five carries -/
theorem chain5 {n0 n1 n2 n3 n4 r0 r1 r2 r3 r4 r5 : Nat} (e1 : r1 = (n0 + r0) / 2251799813685248) (e2 : r2 = (n1 + r1) / 2251799813685248) (e3 : r3 = (n2 + r2) / 2251799813685248) (e4 : r4 = (n3 + r3) / 2251799813685248) (e5 : r5 = (n4 + r4) / 2251799813685248) :
    ∃ s, s < 57896044618658097711785492504343953926634992332820282019728792003956564819968 ∧
      s = (n0 + r0) % 2251799813685248 + 2251799813685248 * ((n1 + r1) % 2251799813685248 + 2251799813685248 * ((n2 + r2) % 2251799813685248 + 2251799813685248 * ((n3 + r3) % 2251799813685248 + 2251799813685248 * ((n4 + r4) % 2251799813685248)))) ∧
      n0 + 2251799813685248 * (n1 + 2251799813685248 * (n2 + 2251799813685248 * (n3 + 2251799813685248 * n4))) + r0 = s + 57896044618658097711785492504343953926634992332820282019728792003956564819968 * r5 := by
  have d0 := Nat.div_add_mod (n0 + r0) 2251799813685248
  have d1 := Nat.div_add_mod (n1 + r1) 2251799813685248
  have d2 := Nat.div_add_mod (n2 + r2) 2251799813685248
  have d3 := Nat.div_add_mod (n3 + r3) 2251799813685248
  have d4 := Nat.div_add_mod (n4 + r4) 2251799813685248
  have b0 := Nat.mod_lt (n0 + r0) (show 2251799813685248 > 0 by decide)
  have b1 := Nat.mod_lt (n1 + r1) (show 2251799813685248 > 0 by decide)
  have b2 := Nat.mod_lt (n2 + r2) (show 2251799813685248 > 0 by decide)
  have b3 := Nat.mod_lt (n3 + r3) (show 2251799813685248 > 0 by decide)
  have b4 := Nat.mod_lt (n4 + r4) (show 2251799813685248 > 0 by decide)
  rw [← e1] at d0
  rw [← e2] at d1
  rw [← e3] at d2
  rw [← e4] at d3
  rw [← e5] at d4
  clear e1 e2 e3 e4 e5
  refine ⟨_, ?_, rfl, ?_⟩
  · clear d0 d1 d2 d3 d4
    generalize (n0 + r0) % 2251799813685248 = s0 at *
    generalize (n1 + r1) % 2251799813685248 = s1 at *
    generalize (n2 + r2) % 2251799813685248 = s2 at *
    generalize (n3 + r3) % 2251799813685248 = s3 at *
    generalize (n4 + r4) % 2251799813685248 = s4 at *
    omega
  · clear b0 b1 b2 b3 b4
    generalize (n0 + r0) % 2251799813685248 = s0 at *
    generalize (n1 + r1) % 2251799813685248 = s1 at *
    generalize (n2 + r2) % 2251799813685248 = s2 at *
    generalize (n3 + r3) % 2251799813685248 = s3 at *
    generalize (n4 + r4) % 2251799813685248 = s4 at *
    omega
theorem least_nat {v o s S r : Nat} (hv : v < 115792089237316195423570985008687907853269984665640564039457584007913129639898)
    (hs : s < 57896044618658097711785492504343953926634992332820282019728792003956564819968) (h1 : v + 19 = s + 57896044618658097711785492504343953926634992332820282019728792003956564819968 * o)
    (hS : S < 57896044618658097711785492504343953926634992332820282019728792003956564819968) (h2 : v + 19 * o = S + 57896044618658097711785492504343953926634992332820282019728792003956564819968 * r) :
    S + o * 57896044618658097711785492504343953926634992332820282019728792003956564819949 = v ∧ S < 57896044618658097711785492504343953926634992332820282019728792003956564819949 := by
  have : o = 0 ∨ o = 1 := by omega
  rcases this with rfl | rfl
  · omega
  · omega
theorem rsB_lt {l : List W64} {c : W64} (h : ∀ i, (l.getD i 0).toNat < 2251799813947392) (hc : c.toNat < 2251799813947392) : ∀ i, (rsB l c i).toNat < 2251799813947392
  | 0 => hc
  | i + 1 => by
    have h1 := h i
    have h2 := rsB_lt h hc i
    rw [rsB_is l c i h1 h2]
    omega
theorem limbs_lt {n : N5} (h : Good5 n) : ∀ i, (n.l.getD i 0).toNat < 2251799813947392
  | 0 => h.a0
  | 1 => h.a1
  | 2 => h.a2
  | 3 => h.a3
  | 4 => h.a4
  | i + 5 => by
    show (0 : W64).toNat < _
    decide
theorem lstB_is {n : N5} (h : Good5 n) : Nrm (lstB n) ∧ val5 (lstB n) = (fv5 n).val := by
  have ll := limbs_lt h
  have hr : ∀ c : W64, c.toNat < 2251799813947392 → ∀ i, (rsB n.l c (i + 1)).toNat = ((n.l.getD i 0).toNat + (rsB n.l c i).toNat) / 2251799813685248 := fun c hc i => rsB_is n.l c i (ll i) (rsB_lt ll hc i)
  have hm : ∀ (c : W64) (x : W64) (i : Nat), c.toNat < 2251799813947392 → x.toNat < 2251799813947392 → ((x + rsB n.l c i) &&& 2251799813685247#64).toNat = (x.toNat + (rsB n.l c i).toNat) % 2251799813685248 := fun c x i hc hx => by
    have h2 := rsB_lt ll hc i
    rw [toNat_mask, toNat_add (by omega)]
  obtain ⟨p0, p1, p2, p3, p4⟩ := h
  have hb : (19#64 : W64).toNat < 2251799813947392 := by decide
  obtain ⟨s, hs, _, h1⟩ := chain5 (n0 := n.a0.toNat) (n1 := n.a1.toNat) (n2 := n.a2.toNat) (n3 := n.a3.toNat) (n4 := n.a4.toNat) (hr _ hb 0) (hr _ hb 1) (hr _ hb 2) (hr _ hb 3) (hr _ hb 4)
  have t0 : (rsB n.l 19#64 0).toNat = 19 := rfl
  rw [t0] at h1
  have hv : n.a0.toNat + 2251799813685248 * (n.a1.toNat + 2251799813685248 * (n.a2.toNat + 2251799813685248 * (n.a3.toNat + 2251799813685248 * n.a4.toNat))) < 115792089237316195423570985008687907853269984665640564039457584007913129639898 := by
    clear h1 hr hm ll
    omega
  have ho : (rsB n.l 19#64 (4 + 1)).toNat ≤ 1 := by
    clear hr hm ll
    omega
  have c := toNat_mul19 (y := rsB n.l 19#64 (4 + 1)) (by omega)
  have hC : (19#64 * rsB n.l 19#64 (4 + 1)).toNat < 2251799813947392 := by omega
  obtain ⟨S, hS, eS, h2⟩ := chain5 (n0 := n.a0.toNat) (n1 := n.a1.toNat) (n2 := n.a2.toNat) (n3 := n.a3.toNat) (n4 := n.a4.toNat) (hr _ hC 0) (hr _ hC 1) (hr _ hC 2) (hr _ hC 3) (hr _ hC 4)
  have t1 : (rsB n.l (19#64 * rsB n.l 19#64 (4 + 1)) 0).toNat = 19 * (rsB n.l 19#64 (4 + 1)).toNat := c
  have hh2 := h2
  rw [t1] at hh2
  obtain ⟨f1, f2⟩ := least_nat hv hs h1 hS hh2
  have m0 := hm (19#64 * rsB n.l 19#64 (4 + 1)) n.a0 0 hC p0
  have m1 := hm (19#64 * rsB n.l 19#64 (4 + 1)) n.a1 1 hC p1
  have m2 := hm (19#64 * rsB n.l 19#64 (4 + 1)) n.a2 2 hC p2
  have m3 := hm (19#64 * rsB n.l 19#64 (4 + 1)) n.a3 3 hC p3
  have m4 := hm (19#64 * rsB n.l 19#64 (4 + 1)) n.a4 4 hC p4
  refine ⟨⟨?_, ?_, ?_, ?_, ?_⟩, ?_⟩
  · exact m0 ▸ Nat.mod_lt _ (by decide)
  · exact m1 ▸ Nat.mod_lt _ (by decide)
  · exact m2 ▸ Nat.mod_lt _ (by decide)
  · exact m3 ▸ Nat.mod_lt _ (by decide)
  · exact m4 ▸ Nat.mod_lt _ (by decide)
  · have ev : val5 (lstB n) = S := by
      rw [eS]
      unfold val5
      show ((n.a0 + rsB n.l (19#64 * rsB n.l 19#64 (4 + 1)) 0) &&& 2251799813685247#64).toNat + 2251799813685248 * (((n.a1 + rsB n.l (19#64 * rsB n.l 19#64 (4 + 1)) 1) &&& 2251799813685247#64).toNat + 2251799813685248 * (((n.a2 + rsB n.l (19#64 * rsB n.l 19#64 (4 + 1)) 2) &&& 2251799813685247#64).toNat + 2251799813685248 * (((n.a3 + rsB n.l (19#64 * rsB n.l 19#64 (4 + 1)) 3) &&& 2251799813685247#64).toNat + 2251799813685248 * ((n.a4 + rsB n.l (19#64 * rsB n.l 19#64 (4 + 1)) 4) &&& 2251799813685247#64).toNat))) = _
      rw [m0, m1, m2, m3, m4]
    have hf : fv5 n = fn S := by
      unfold fv5 val5
      exact (fn_off (q := (rsB n.l 19#64 (4 + 1)).toNat) f1).symm
    rw [ev, hf, fn_lt f2]
end Crv
end Go.Proofs.YtbhlcnimjoppeaaDoor

/-
  Of no statement by itself: five limbs of 51 bits modulo 2^255 - 19: bytes in and out; no program stands here.
  Conditions: none but each lemma's own.
-/
namespace Go.Proofs.YtbhlcnimjoppeaaDoor
namespace Crv
/-! ### as bytes -/
theorem or_add' (x y : W64) {k : Nat} (hk : k ≤ 64) (hx : x.toNat < 2 ^ k) : (x ||| y <<< k).toNat = y.toNat * 2 ^ k % 2 ^ 64 + x.toNat := by
  rw [BitVec.or_comm, or_add x y hk hx]
def wdsB (n : N5) : List W64 := [n.a0 ||| n.a1 <<< 51, n.a1 >>> 13 ||| n.a2 <<< 38, n.a2 >>> 26 ||| n.a3 <<< 25, n.a3 >>> 39 ||| n.a4 <<< 12]
def bys (w : W64) : List By := [(w >>> 0).setWidth 8, (w >>> 8).setWidth 8, (w >>> 16).setWidth 8, (w >>> 24).setWidth 8, (w >>> 32).setWidth 8, (w >>> 40).setWidth 8, (w >>> 48).setWidth 8, (w >>> 56).setWidth 8]
theorem byt (w : W64) (k : Nat) : ((w >>> k).setWidth 8).toNat = w.toNat / 2 ^ k % 256 := by
  rw [BitVec.toNat_setWidth, toNat_shr]
theorem le_bys (w : W64) : le (bys w) = w.toNat := by
  unfold bys
  simp only [le, byt]
  have := w.isLt
  omega
def kbB (w : List W64) : Nat → List By
  | 0 => List.replicate 32 0
  | i + 1 => (kbB w i).set i ((w.getD (i / 8) 0 >>> (i % 8 * 8)).setWidth 8)
theorem kbB_len (w : List W64) : ∀ i, (kbB w i).length = 32
  | 0 => rfl
  | i + 1 => by rw [kbB, List.length_set, kbB_len w i]
theorem kbB_all (a b c d : W64) : kbB [a, b, c, d] 32 = bys a ++ (bys b ++ (bys c ++ bys d)) := by kernel_rfl
theorem kbB_is {n : N5} (h : Nrm n) : kbB (wdsB n) 32 = keyB 32 (val5 n) := by
  obtain ⟨p0, p1, p2, p3, p4⟩ := h
  have e0 := or_add' n.a0 n.a1 (k := 51) (by omega) (by omega)
  have s1 := toNat_shr n.a1 13
  have s2 := toNat_shr n.a2 26
  have s3 := toNat_shr n.a3 39
  have e1 := or_add' (n.a1 >>> 13) n.a2 (k := 38) (by omega) (by omega)
  have e2 := or_add' (n.a2 >>> 26) n.a3 (k := 25) (by omega) (by omega)
  have e3 := or_add' (n.a3 >>> 39) n.a4 (k := 12) (by omega) (by omega)
  unfold wdsB
  rw [kbB_all]
  have l8 : ∀ w, (bys w).length = 8 := fun _ => rfl
  have el : le (bys (n.a0 ||| n.a1 <<< 51) ++ (bys (n.a1 >>> 13 ||| n.a2 <<< 38) ++ (bys (n.a2 >>> 26 ||| n.a3 <<< 25) ++ bys (n.a3 >>> 39 ||| n.a4 <<< 12)))) = val5 n := by
    rw [le_append, le_append, le_append, l8, l8, l8, le_bys, le_bys, le_bys, le_bys, e0, e1, e2, e3, s1, s2, s3]
    unfold val5
    omega
  rw [← el]
  have := keyB_le (bys (n.a0 ||| n.a1 <<< 51) ++ (bys (n.a1 >>> 13 ||| n.a2 <<< 38) ++ (bys (n.a2 >>> 26 ||| n.a3 <<< 25) ++ bys (n.a3 >>> 39 ||| n.a4 <<< 12))))
  exact this.symm
/-- a number's bytes -/
def kyB (n : N5) : List By := kbB (wdsB (lstB n)) 32
theorem kyB_is {n : N5} (h : Good5 n) : kyB n = keyF (fv5 n) := by
  have := lstB_is h
  rw [kyB, kbB_is this.1, this.2]; rfl
/-! ### bytes as limbs -/
def wdB (k : List By) (p : Nat) : Nat → W64
  | 0 => 0
  | i + 1 => wdB k p i ||| ((k.getD (8 * p + i) 0).setWidth 64) <<< (8 * i)
theorem wdB_is (k : List By) (p : Nat) : ∀ i, i ≤ 8 → 8 * p + i ≤ k.length → (wdB k p i).toNat = le ((k.drop (8 * p)).take i)
  | 0, _, _ => rfl
  | i + 1, hi, hl => by
    have ih := wdB_is k p i (by omega) (by omega)
    have lt := le_lt ((k.drop (8 * p)).take i)
    have ln : ((k.drop (8 * p)).take i).length = i := by rw [List.length_take, List.length_drop]; omega
    rw [ln, show 256 ^ i = 2 ^ (8 * i) by rw [Nat.pow_mul]] at lt
    have hb : (k.drop (8 * p))[i]? = some (k.getD (8 * p + i) 0) := by
      rw [List.getElem?_drop, List.getD_eq_getElem?_getD, List.getElem?_eq_getElem (by omega)]; rfl
    rw [wdB, or_add' _ _ (k := 8 * i) (by omega) (by rw [ih]; exact lt), ih, List.take_add_one, hb, le_append, ln, show 256 ^ i = 2 ^ (8 * i) by rw [Nat.pow_mul]]
    generalize k.getD (8 * p + i) 0 = x
    have hx := x.isLt
    have hs : (x.setWidth 64).toNat = x.toNat := by rw [BitVec.toNat_setWidth]; exact Nat.mod_eq_of_lt (by omega)
    have hp : 2 ^ (8 * i) ≤ 2 ^ 56 := Nat.pow_le_pow_right (by omega) (by omega)
    have hm : x.toNat * 2 ^ (8 * i) ≤ 255 * 2 ^ 56 := Nat.mul_le_mul (by omega) hp
    rw [hs, Nat.mod_eq_of_lt (by omega)]
    show _ = _ + 2 ^ (8 * i) * (x.toNat + 256 * 0)
    rw [Nat.mul_zero, Nat.add_zero, Nat.mul_comm]
    omega
def numW (w0 w1 w2 w3 : W64) : N5 := ⟨w0 &&& 2251799813685247#64, (w0 >>> 51 ||| w1 <<< 13) &&& 2251799813685247#64, (w1 >>> 38 ||| w2 <<< 26) &&& 2251799813685247#64, (w2 >>> 25 ||| w3 <<< 39) &&& 2251799813685247#64, w3 >>> 12 &&& 2251799813685247#64⟩
theorem numW_is (w0 w1 w2 w3 : W64) : Nrm (numW w0 w1 w2 w3) ∧ val5 (numW w0 w1 w2 w3) = (w0.toNat + 18446744073709551616 * (w1.toNat + 18446744073709551616 * (w2.toNat + 18446744073709551616 * w3.toNat))) % 57896044618658097711785492504343953926634992332820282019728792003956564819968 := by
  have h0 := w0.isLt
  have h1 := w1.isLt
  have h2 := w2.isLt
  have h3 := w3.isLt
  have s0 := toNat_shr w0 51
  have s1 := toNat_shr w1 38
  have s2 := toNat_shr w2 25
  have s3 := toNat_shr w3 12
  have e1 := or_add' (w0 >>> 51) w1 (k := 13) (by omega) (by omega)
  have e2 := or_add' (w1 >>> 38) w2 (k := 26) (by omega) (by omega)
  have e3 := or_add' (w2 >>> 25) w3 (k := 39) (by omega) (by omega)
  have m0 := toNat_mask w0
  have m1 := toNat_mask (w0 >>> 51 ||| w1 <<< 13)
  have m2 := toNat_mask (w1 >>> 38 ||| w2 <<< 26)
  have m3 := toNat_mask (w2 >>> 25 ||| w3 <<< 39)
  have m4 := toNat_mask (w3 >>> 12)
  rw [e1, s0] at m1
  rw [e2, s1] at m2
  rw [e3, s2] at m3
  rw [s3] at m4
  refine ⟨⟨?_, ?_, ?_, ?_, ?_⟩, ?_⟩
  · show (w0 &&& 2251799813685247#64).toNat < _; rw [m0]; omega
  · show ((w0 >>> 51 ||| w1 <<< 13) &&& 2251799813685247#64).toNat < _; rw [m1]; omega
  · show ((w1 >>> 38 ||| w2 <<< 26) &&& 2251799813685247#64).toNat < _; rw [m2]; omega
  · show ((w2 >>> 25 ||| w3 <<< 39) &&& 2251799813685247#64).toNat < _; rw [m3]; omega
  · show (w3 >>> 12 &&& 2251799813685247#64).toNat < _; rw [m4]; omega
  · unfold val5 numW
    simp only
    rw [m0, m1, m2, m3, m4]
    clear e1 e2 e3 s0 s1 s2 s3 m0 m1 m2 m3 m4
    generalize w0.toNat = x0 at *
    generalize w1.toNat = x1 at *
    generalize w2.toNat = x2 at *
    generalize w3.toNat = x3 at *
    omega
theorem Nrm.good {n : N5} (h : Nrm n) : Good5 n := by
  obtain ⟨p0, p1, p2, p3, p4⟩ := h
  exact ⟨by omega, by omega, by omega, by omega, by omega⟩
def numB (u : List By) : N5 := numW (wdB u 0 8) (wdB u 1 8) (wdB u 2 8) (wdB u 3 8)
theorem numB_good (u : List By) : Good5 (numB u) := (numW_is _ _ _ _).1.good
theorem numB_fv {u : List By} (hu : u.length = 32) : fv5 (numB u) = pt u := by
  have e := (numW_is (wdB u 0 8) (wdB u 1 8) (wdB u 2 8) (wdB u 3 8)).2
  rw [wdB_is u 0 8 (by omega) (by omega), wdB_is u 1 8 (by omega) (by omega), wdB_is u 2 8 (by omega) (by omega), wdB_is u 3 8 (by omega) (by omega)] at e
  have c : ∀ l : List By, 8 ≤ l.length → le l = le (l.take 8) + 18446744073709551616 * le (l.drop 8) := fun l hl => by
    have := le_append (l.take 8) (l.drop 8)
    rw [List.take_append_drop, List.length_take, Nat.min_eq_left hl] at this
    exact this
  have c0 := c u (by omega)
  have c1 := c (u.drop 8) (by rw [List.length_drop]; omega)
  have c2 := c (u.drop 16) (by rw [List.length_drop]; omega)
  have c3 : le (u.drop 24) = le ((u.drop 24).take 8) := by rw [List.take_of_length_le (by rw [List.length_drop]; omega)]
  rw [List.drop_drop] at c1 c2
  have hl : le u = le ((u.drop (8 * 0)).take 8) + 18446744073709551616 * (le ((u.drop (8 * 1)).take 8) + 18446744073709551616 * (le ((u.drop (8 * 2)).take 8) + 18446744073709551616 * le ((u.drop (8 * 3)).take 8))) := by
    rw [c0]
    show _ = le ((u.drop 0).take 8) + 18446744073709551616 * (le ((u.drop 8).take 8) + 18446744073709551616 * (le ((u.drop 16).take 8) + 18446744073709551616 * le ((u.drop 24).take 8)))
    rw [← c3, ← c2, ← c1]; rfl
  rw [← hl] at e
  unfold fv5 pt
  show fn _ = fn _
  congr 1
end Crv
end Go.Proofs.YtbhlcnimjoppeaaDoor

/-
  Of no statement by itself: five limbs of 51 bits modulo 2^255 - 19: the ladder over these limbs, rows that change places; no program stands here.
  Conditions: none but each lemma's own.
-/
namespace Go.Proofs.YtbhlcnimjoppeaaDoor
namespace Crv
/-! ### the ladder over limbs -/
structure L5 where
  x2 : N5
  z2 : N5
  x3 : N5
  z3 : N5
@[reducible] def L5.l (s : L5) : List W64 := s.x2.l ++ s.z2.l ++ s.x3.l ++ s.z3.l
def L5.f (s : L5) : L4 := ⟨fv5 s.x2, fv5 s.z2, fv5 s.x3, fv5 s.z3⟩
structure L5.ok (s : L5) : Prop where
  x2 : Good5 s.x2
  z2 : Good5 s.z2
  x3 : Good5 s.x3
  z3 : Good5 s.z3
def oneN : N5 := ⟨1, 0, 0, 0, 0⟩
def zeroN : N5 := ⟨0, 0, 0, 0, 0⟩
def cN : N5 := ⟨121665, 0, 0, 0, 0⟩
theorem oneN_good : Good5 oneN := ⟨by decide, by decide, by decide, by decide, by decide⟩
theorem zeroN_good : Good5 zeroN := ⟨by decide, by decide, by decide, by decide, by decide⟩
theorem cN_good : Good5 cN := ⟨by decide, by decide, by decide, by decide, by decide⟩
theorem oneN_fv : fv5 oneN = 1 := by decide +kernel
theorem zeroN_fv : fv5 zeroN = 0 := by decide +kernel
theorem cN_fv : fv5 cN = 121665 := by decide +kernel
structure StpT where
  a : N5
  b : N5
  c : N5
  d : N5
  aa : N5
  bb : N5
  da : N5
  cb : N5
  e : N5
  m : N5
  s : N5
def stpT (s : L5) : StpT :=
  let a := sumB s.x2 s.z2
  let b := difB s.x2 s.z2
  let c := sumB s.x3 s.z3
  let d := difB s.x3 s.z3
  let aa := prdB a a
  let bb := prdB b b
  let da := prdB d a
  let cb := prdB c b
  let e := difB aa bb
  ⟨a, b, c, d, aa, bb, da, cb, e, sumB da cb, difB da cb⟩
def stpR (x1 : N5) (t : StpT) : L5 := ⟨prdB t.aa t.bb, prdB t.e (sumB t.aa (prdB cN t.e)), prdB t.m t.m, prdB x1 (prdB t.s t.s)⟩
def stpB (x1 : N5) (s : L5) : L5 := stpR x1 (stpT s)
def swB (b : Bool) (s : L5) : L5 := if b then ⟨s.x3, s.z3, s.x2, s.z2⟩ else s
theorem swB_ok {s : L5} (h : s.ok) (b : Bool) : (swB b s).ok := by
  cases b
  · exact h
  · exact ⟨h.x3, h.z3, h.x2, h.z2⟩
theorem swB_f (s : L5) (b : Bool) : (swB b s).f = swap b s.f := by cases b <;> rfl
theorem stpB_ok (x1 : N5) (s : L5) : (stpB x1 s).ok := ⟨prdB_good _ _, prdB_good _ _, prdB_good _ _, prdB_good _ _⟩
theorem stpB_f {x1 : N5} {s : L5} (h1 : Good5 x1) (h : s.ok) : (stpB x1 s).f = core (fv5 x1) s.f := by
  have ga := sumB_good s.x2 s.z2
  have gb := difB_good s.x2 s.z2
  have gc := sumB_good s.x3 s.z3
  have gd := difB_good s.x3 s.z3
  unfold L5.f stpB stpR stpT core
  simp only
  rw [prdB_fv (prdB_good _ _) (prdB_good _ _), prdB_fv (difB_good _ _) (sumB_good _ _), sumB_fv (prdB_good _ _) (prdB_good _ _), prdB_fv cN_good (difB_good _ _), difB_fv (prdB_good _ _) (prdB_good _ _),
    prdB_fv (sumB_good (prdB _ _) _) (sumB_good _ _), sumB_fv (prdB_good (difB _ _) _) (prdB_good _ _), prdB_fv h1 (prdB_good _ _), prdB_fv (difB_good (prdB _ _) _) (difB_good _ _), difB_fv (prdB_good (difB _ _) _) (prdB_good _ _),
    prdB_fv gd ga, prdB_fv gc gb, prdB_fv ga ga, prdB_fv gb gb, sumB_fv h.x2 h.z2, difB_fv h.x2 h.z2, sumB_fv h.x3 h.z3, difB_fv h.x3 h.z3, cN_fv]
def ladB (x1 : N5) (k : Nat) : Nat → L5
  | 0 => ⟨oneN, zeroN, x1, oneN⟩
  | n + 1 => swB (k.testBit (254 - n)) (stpB x1 (swB (k.testBit (254 - n)) (ladB x1 k n)))
theorem ladB_ok {x1 : N5} (h : Good5 x1) (k : Nat) : ∀ n, (ladB x1 k n).ok
  | 0 => ⟨oneN_good, zeroN_good, h, oneN_good⟩
  | _ + 1 => swB_ok (stpB_ok _ _) _
theorem ladB_f {x1 : N5} (h : Good5 x1) (k : Nat) : ∀ n, n ≤ 255 → lad (fv5 x1) k (255 - n) (ladB x1 k n).f = lad (fv5 x1) k 255 (ladB x1 k 0).f
  | 0, _ => rfl
  | n + 1, hn => by
    rw [← ladB_f h k n (by omega)]
    have e : 255 - n = (255 - (n + 1)) + 1 := by omega
    have e2 : 254 - n = 255 - (n + 1) := by omega
    rw [e]
    show lad (fv5 x1) k (255 - (n + 1)) (swB (k.testBit (254 - n)) (stpB x1 (swB (k.testBit (254 - n)) (ladB x1 k n)))).f = lad (fv5 x1) k (255 - (n + 1)) (swap (k.testBit (255 - (n + 1))) (core (fv5 x1) (swap (k.testBit (255 - (n + 1))) (ladB x1 k n).f)))
    rw [swB_f, stpB_f h (swB_ok (ladB_ok h k n) _), swB_f, e2]
/-- what the code's Mult lays -/
def mltB (k u : List By) : List By := kyB (prdB (ladB (numB u) (le (clampB k)) 255).x2 (invB (ladB (numB u) (le (clampB k)) 255).z2))
theorem mltB_is (k u : List By) (hu : u.length = 32) : mltB k u = multB k u := by
  have h := numB_good u
  have g := ladB_ok h (le (clampB k)) 255
  have e : (ladB (numB u) (le (clampB k)) 255).f = lad (fv5 (numB u)) (le (clampB k)) 255 (ladB (numB u) (le (clampB k)) 0).f := ladB_f h _ 255 (by omega)
  have e0 : (ladB (numB u) (le (clampB k)) 0).f = ⟨1, 0, fv5 (numB u), 1⟩ := by
    show (⟨fv5 oneN, fv5 zeroN, fv5 (numB u), fv5 oneN⟩ : L4) = _
    rw [oneN_fv, zeroN_fv]
  rw [e0] at e
  unfold mltB
  rw [kyB_is (prdB_good _ _), prdB_fv g.x2 (invB_good g.z2), invB_fv g.z2]
  unfold multB mulF
  rw [← numB_fv hu, ← e]
  rfl
/-! ### two rows that change places -/
def mixl (c : Bool) (x y : List W64) (i : Nat) : List W64 := if c then y.take i ++ x.drop i else x
theorem mixl_len (c : Bool) {x y : List W64} (h : x.length = y.length) (i : Nat) : (mixl c x y i).length = x.length := by
  cases c
  · rfl
  · show (y.take i ++ x.drop i).length = _
    rw [List.length_append, List.length_take, List.length_drop]; omega
theorem mixl_get (c : Bool) {x y : List W64} (h : x.length = y.length) {i : Nat} (hi : i < x.length) : (mixl c x y i)[i]? = some (x.getD i 0) := by
  have e : x[i]? = some (x.getD i 0) := by rw [List.getD_eq_getElem?_getD, List.getElem?_eq_getElem hi]; rfl
  cases c
  · exact e
  · show (y.take i ++ x.drop i)[i]? = _
    rw [List.getElem?_append_right (by rw [List.length_take]; omega), List.length_take, List.getElem?_drop, ← e]
    congr 1; omega
theorem mixl_set (c : Bool) {x y : List W64} (h : x.length = y.length) {i : Nat} (hi : i < x.length) {v : W64} (hv : v = if c then y.getD i 0 else x.getD i 0) : (mixl c x y i).set i v = mixl c x y (i + 1) := by
  subst hv
  cases c
  · show x.set i (x.getD i 0) = x
    rw [List.getD_eq_getElem?_getD, List.getElem?_eq_getElem hi]
    simp
  · show (y.take i ++ x.drop i).set i (y.getD i 0) = y.take (i + 1) ++ x.drop (i + 1)
    have e : y[i]? = some (y.getD i 0) := by rw [List.getD_eq_getElem?_getD, List.getElem?_eq_getElem (by omega)]; rfl
    rw [List.set_append_right _ _ (by rw [List.length_take]; omega), List.length_take, Nat.min_eq_left (by omega), Nat.sub_self, List.drop_eq_getElem_cons hi, List.set_cons_zero, List.take_add_one, e]
    simp
def bt (c : Bool) : By := if c then 1#8 else 0#8
def mk64 (c : Bool) : W64 := if c then BitVec.allOnes 64 else 0
theorem mk64_is (c : Bool) : -((bt c).setWidth 64 : W64) = mk64 c := by cases c <;> decide
theorem bt_is (x : By) (k : Nat) (h : k < 8) : (x >>> k) &&& 1#8 = bt (x.toNat.testBit k) := by
  have h8 : ∀ k : Fin 8, ∀ x : By, (x >>> k.val) &&& 1#8 = bt (x.toNat.testBit k.val) := by decide +kernel
  exact h8 ⟨k, h⟩ x
theorem swap_l (c : Bool) (a b : W64) : a ^^^ (mk64 c &&& (a ^^^ b)) = if c then b else a := by
  cases c
  · show a ^^^ (0 &&& (a ^^^ b)) = a
    simp
  · show a ^^^ (BitVec.allOnes 64 &&& (a ^^^ b)) = b
    rw [BitVec.allOnes_and, ← BitVec.xor_assoc, BitVec.xor_self, BitVec.zero_xor]
theorem swap_r (c : Bool) (a b : W64) : b ^^^ (mk64 c &&& (a ^^^ b)) = if c then a else b := by
  rw [BitVec.xor_comm a b]
  exact swap_l c b a
end Crv
end Go.Proofs.YtbhlcnimjoppeaaDoor

/-
  Of no statement by itself: what the code's word, numberOf, carried, sum and difference give.
  Conditions: each theorem's own.
-/
namespace Go.Proofs.YtbhlcnimjoppeaaDoor
set_option maxRecDepth 10000
open Sl Crv

theorem w8s : szT Tryd.prog 76 = some 1 := by kernel_rfl
theorem w8c : scal Tryd.prog 76 = true := by kernel_rfl
theorem n5s : szT Tryd.prog 117 = some 5 := by kernel_rfl
theorem n5a : aggT Tryd.prog 117 = true := by kernel_rfl
theorem n5z : zc Tryd.prog 117 = some (zeroN.l.map U64) := by kernel_rfl
theorem W_cell (l : List W64) : (l.map U64).all Value.oneCell' = true := by simp [Value.oneCell']
theorem goes_word : Goes Tryd.prog 99 := ⟨_, Tryd.func99, rfl, by kernel_rfl⟩
theorem goes_carried : Goes Tryd.prog 119 := ⟨_, Tryd.func119, rfl, by kernel_rfl⟩
theorem goes_sum : Goes Tryd.prog 101 := ⟨_, Tryd.func101, rfl, by kernel_rfl⟩
theorem goes_difference : Goes Tryd.prog 102 := ⟨_, Tryd.func102, rfl, by kernel_rfl⟩

set_option maxHeartbeats 8000000 in
theorem carried_any (n : N5) (w : World) : Calls Tryd.prog 119 [.agg (n.l.map U64).toArray].toArray w fun e w' => e = .returned (.agg ((carB n).l.map U64).toArray) ∧ Ext w w' := by
  have c0 : (n.l.map U64)[0]? = some (U64 n.a0) := rfl
  have c1 : (n.l.map U64)[1]? = some (U64 n.a1) := rfl
  have c2 : (n.l.map U64)[2]? = some (U64 n.a2) := rfl
  have c3 : (n.l.map U64)[3]? = some (U64 n.a3) := rfl
  have c4 : (n.l.map U64)[4]? = some (U64 n.a4) := rfl
  refine enter (n := 40) Tryd.func119 rfl rfl rfl (Holds.start w []) ?_
  repeat (first | refine JC.seq ?_ | refine JC.region ?_)
  refine JL.box (r := n.l.map U64) rfl rfl rfl fun b1 _ => ?_
  refine JL.alloc n5z rfl fun b2 _ => ?_
  repeat (first | refine JL.q (by first | (apply OQ.idxA0; exact Tryd.underlying117; exact w8s; exact rfl; exact rfl; exact (by decide)) | (apply OQ.load; exact w8c; exact rfl; exact (.there .here); exact (Row.cell c0)) | (apply OQ.load; exact w8c; exact rfl; exact (.there .here); exact (Row.cell c1)) | (apply OQ.load; exact w8c; exact rfl; exact (.there .here); exact (Row.cell c2)) | (apply OQ.load; exact w8c; exact rfl; exact (.there .here); exact (Row.cell c3)) | (apply OQ.load; exact w8c; exact rfl; exact (.there .here); exact (Row.cell c4)) | (apply OQ.and64 (b := 2251799813685247#64); exact rfl; exact rfl) | (apply OQ.mul64 (a := 19#64); exact rfl; exact rfl) | (apply OQ.add64; exact rfl; exact rfl) | (apply OQ.shr64; exact rfl; exact rfl)) rfl ?_ | refine JC.seq ?_ | refine JC.region ?_ | refine JL.nil ?_ | refine JE.next ?_)
  refine JL.q (OQ.pure (v := .agg ((carB n).l.map U64).toArray) rfl rfl (by kernel_rfl)) rfl ?_
  refine JL.store_all (cs := (carB n).l.map U64) n5s rfl rfl rfl (W_cell _) .here rfl ?_
  repeat (first | refine JL.nil ?_ | refine JE.next ?_)
  refine JC.ret (JE.ret1 rfl (RV.cell_agg n5a n5s rfl .here rfl Row.all) ?_)
  exact fun w' hw => ⟨rfl, hw.chg⟩

set_option maxHeartbeats 8000000 in
theorem sum_any (a b : N5) (w : World) : Calls Tryd.prog 101 [.agg (a.l.map U64).toArray, .agg (b.l.map U64).toArray].toArray w fun e w' => e = .returned (.agg ((sumB a b).l.map U64).toArray) ∧ Ext w w' := by
  have c0 : (a.l.map U64)[0]? = some (U64 a.a0) := rfl
  have c1 : (a.l.map U64)[1]? = some (U64 a.a1) := rfl
  have c2 : (a.l.map U64)[2]? = some (U64 a.a2) := rfl
  have c3 : (a.l.map U64)[3]? = some (U64 a.a3) := rfl
  have c4 : (a.l.map U64)[4]? = some (U64 a.a4) := rfl
  have d0 : (b.l.map U64)[0]? = some (U64 b.a0) := rfl
  have d1 : (b.l.map U64)[1]? = some (U64 b.a1) := rfl
  have d2 : (b.l.map U64)[2]? = some (U64 b.a2) := rfl
  have d3 : (b.l.map U64)[3]? = some (U64 b.a3) := rfl
  have d4 : (b.l.map U64)[4]? = some (U64 b.a4) := rfl
  have cc := carried_any ⟨a.a0 + b.a0, a.a1 + b.a1, a.a2 + b.a2, a.a3 + b.a3, a.a4 + b.a4⟩
  refine enter (n := 32) Tryd.func101 rfl rfl rfl (Holds.start w []) ?_
  repeat (first | refine JC.seq ?_ | refine JC.region ?_)
  refine JL.box (r := a.l.map U64) rfl rfl rfl fun b2 _ => ?_
  refine JL.box (r := b.l.map U64) rfl rfl rfl fun b3 _ => ?_
  refine JL.alloc n5z rfl fun b4 _ => ?_
  repeat (first | refine JL.q (by first | (apply OQ.idxA0; exact Tryd.underlying117; exact w8s; exact rfl; exact rfl; exact (by decide)) | (apply OQ.load; exact w8c; exact rfl; exact (.there (.there .here)); exact (Row.cell c0)) | (apply OQ.load; exact w8c; exact rfl; exact (.there (.there .here)); exact (Row.cell c1)) | (apply OQ.load; exact w8c; exact rfl; exact (.there (.there .here)); exact (Row.cell c2)) | (apply OQ.load; exact w8c; exact rfl; exact (.there (.there .here)); exact (Row.cell c3)) | (apply OQ.load; exact w8c; exact rfl; exact (.there (.there .here)); exact (Row.cell c4)) | (apply OQ.load; exact w8c; exact rfl; exact (.there .here); exact (Row.cell d0)) | (apply OQ.load; exact w8c; exact rfl; exact (.there .here); exact (Row.cell d1)) | (apply OQ.load; exact w8c; exact rfl; exact (.there .here); exact (Row.cell d2)) | (apply OQ.load; exact w8c; exact rfl; exact (.there .here); exact (Row.cell d3)) | (apply OQ.load; exact w8c; exact rfl; exact (.there .here); exact (Row.cell d4)) | (apply OQ.add64; exact rfl; exact rfl)) rfl ?_ | refine JC.seq ?_ | refine JC.region ?_ | refine JL.nil ?_ | refine JE.next ?_)
  refine JL.q (OQ.pure (v := .agg ((⟨a.a0 + b.a0, a.a1 + b.a1, a.a2 + b.a2, a.a3 + b.a3, a.a4 + b.a4⟩ : N5).l.map U64).toArray) rfl rfl (by kernel_rfl)) rfl ?_
  refine JL.q (OQ.callx goes_carried rfl fun w' _ => cc w') rfl ?_
  refine JL.store_all (cs := (sumB a b).l.map U64) n5s rfl rfl rfl (W_cell _) .here rfl ?_
  repeat (first | refine JL.nil ?_ | refine JE.next ?_)
  refine JC.ret (JE.ret1 rfl (RV.cell_agg n5a n5s rfl .here rfl Row.all) ?_)
  exact fun w' hw => ⟨rfl, hw.chg⟩

set_option maxHeartbeats 8000000 in
theorem difference_any (a b : N5) (w : World) : Calls Tryd.prog 102 [.agg (a.l.map U64).toArray, .agg (b.l.map U64).toArray].toArray w fun e w' => e = .returned (.agg ((difB a b).l.map U64).toArray) ∧ Ext w w' := by
  have c0 : (a.l.map U64)[0]? = some (U64 a.a0) := rfl
  have c1 : (a.l.map U64)[1]? = some (U64 a.a1) := rfl
  have c2 : (a.l.map U64)[2]? = some (U64 a.a2) := rfl
  have c3 : (a.l.map U64)[3]? = some (U64 a.a3) := rfl
  have c4 : (a.l.map U64)[4]? = some (U64 a.a4) := rfl
  have d0 : (b.l.map U64)[0]? = some (U64 b.a0) := rfl
  have d1 : (b.l.map U64)[1]? = some (U64 b.a1) := rfl
  have d2 : (b.l.map U64)[2]? = some (U64 b.a2) := rfl
  have d3 : (b.l.map U64)[3]? = some (U64 b.a3) := rfl
  have d4 : (b.l.map U64)[4]? = some (U64 b.a4) := rfl
  have cc := carried_any ⟨a.a0 + 4503599627370458#64 - b.a0, a.a1 + 4503599627370494#64 - b.a1, a.a2 + 4503599627370494#64 - b.a2, a.a3 + 4503599627370494#64 - b.a3, a.a4 + 4503599627370494#64 - b.a4⟩
  refine enter (n := 37) Tryd.func102 rfl rfl rfl (Holds.start w []) ?_
  repeat (first | refine JC.seq ?_ | refine JC.region ?_)
  refine JL.box (r := a.l.map U64) rfl rfl rfl fun b2 _ => ?_
  refine JL.box (r := b.l.map U64) rfl rfl rfl fun b3 _ => ?_
  refine JL.alloc n5z rfl fun b4 _ => ?_
  repeat (first | refine JL.q (by first | (apply OQ.idxA0; exact Tryd.underlying117; exact w8s; exact rfl; exact rfl; exact (by decide)) | (apply OQ.load; exact w8c; exact rfl; exact (.there (.there .here)); exact (Row.cell c0)) | (apply OQ.load; exact w8c; exact rfl; exact (.there (.there .here)); exact (Row.cell c1)) | (apply OQ.load; exact w8c; exact rfl; exact (.there (.there .here)); exact (Row.cell c2)) | (apply OQ.load; exact w8c; exact rfl; exact (.there (.there .here)); exact (Row.cell c3)) | (apply OQ.load; exact w8c; exact rfl; exact (.there (.there .here)); exact (Row.cell c4)) | (apply OQ.load; exact w8c; exact rfl; exact (.there .here); exact (Row.cell d0)) | (apply OQ.load; exact w8c; exact rfl; exact (.there .here); exact (Row.cell d1)) | (apply OQ.load; exact w8c; exact rfl; exact (.there .here); exact (Row.cell d2)) | (apply OQ.load; exact w8c; exact rfl; exact (.there .here); exact (Row.cell d3)) | (apply OQ.load; exact w8c; exact rfl; exact (.there .here); exact (Row.cell d4)) | (apply OQ.add64 (b := 4503599627370458#64); exact rfl; exact rfl) | (apply OQ.add64 (b := 4503599627370494#64); exact rfl; exact rfl) | (apply OQ.sub64w; exact rfl; exact rfl)) rfl ?_ | refine JC.seq ?_ | refine JC.region ?_ | refine JL.nil ?_ | refine JE.next ?_)
  refine JL.q (OQ.pure (v := .agg ((⟨a.a0 + 4503599627370458#64 - b.a0, a.a1 + 4503599627370494#64 - b.a1, a.a2 + 4503599627370494#64 - b.a2, a.a3 + 4503599627370494#64 - b.a3, a.a4 + 4503599627370494#64 - b.a4⟩ : N5).l.map U64).toArray) rfl rfl (by kernel_rfl)) rfl ?_
  refine JL.q (OQ.callx goes_carried rfl fun w' _ => cc w') rfl ?_
  refine JL.store_all (cs := (difB a b).l.map U64) n5s rfl rfl rfl (W_cell _) .here rfl ?_
  repeat (first | refine JL.nil ?_ | refine JE.next ?_)
  refine JC.ret (JE.ret1 rfl (RV.cell_agg n5a n5s rfl .here rfl Row.all) ?_)
  exact fun w' hw => ⟨rfl, hw.chg⟩

set_option maxHeartbeats 8000000 in
theorem word_any (k : List By) (hk : k.length = 32) (p : Nat) (hp : p < 4) (w : World) : Calls Tryd.prog 99 [.agg (k.map U8).toArray, N p].toArray w fun e w' => e = .returned (U64 (wdB k p 8)) ∧ Ext w w' := by
  refine enter (n := 24) Tryd.func99 rfl rfl rfl (Holds.start w []) ?_
  repeat (first | refine JC.seq ?_ | refine JC.region ?_)
  refine JL.box (r := k.map U8) rfl rfl rfl fun b2 _ => ?_
  repeat (first | refine JL.q (by first | (apply OQ.move; exact rfl) | (apply OQ.assign; exact rfl)) rfl ?_ | refine JC.seq ?_ | refine JC.region ?_ | refine JC.block ?_ | refine JL.nil ?_ | refine JE.next ?_)
  refine JC.loop (fun i : Nat => [(1, N p), (2, Pt b2 0), (5, U64 (wdB k p i)), (7, N i)]) (fun _ => [⟨b2, Row 23 (k.map U8), true⟩])
    (fun i => 8 - i) (fun i => i ≤ 8) 0 (by omega) (by repeat (first | exact SubE.nil | refine SubE.cons _ _ _ rfl ?_)) (Less.refl _) ?_
  intro i hi
  repeat (first | refine JL.q (by (apply OQ.lssN; exact rfl; exact rfl)) rfl ?_ | refine JC.seq ?_ | refine JC.region ?_ | refine JL.nil ?_ | refine JE.next ?_)
  refine JC.cond rfl (fun h => ?_) (fun h => ?_)
  · have hi' : i < 8 := of_decide_eq_true h
    clear h hi
    have hc := U8_nth (l := k) (i := 8 * p + i) (by omega)
    repeat (first | refine JL.q (by first | (apply OQ.idxA0; exact Tryd.underlying23; exact y1s; exact rfl; exact rfl; exact (by (try simp only []); omega)) | (apply OQ.load; exact y1c; exact rfl; exact .here; exact (Row.cell hc)) | (apply OQ.conv8_64; exact rfl; exact rfl; exact rfl) | (apply OQ.shl64; exact rfl; exact rfl) | (apply OQ.or64; exact rfl; exact rfl) | (apply OQ.move; exact rfl) | (apply OQ.assign; exact rfl) | (apply OQ.addN; exact rfl; exact rfl; exact (by (try simp only []); omega)) | (apply OQ.mulN; exact rfl; exact rfl; exact (by (try simp only []); omega))) rfl ?_ | refine JC.seq ?_ | refine JC.region ?_ | refine JC.block ?_ | refine JC.skip ?_ | refine JL.nil ?_ | refine JE.next ?_ | refine JE.blk_normal ?_)
    exact JE.again (i := i) (i + 1) (by omega) (by omega) (by repeat (first | exact SubE.nil | refine SubE.cons _ _ _ rfl ?_)) (Less.refl _)
  · have hi' : ¬ i < 8 := of_decide_eq_false h
    obtain rfl : i = 8 := by omega
    clear h hi hi'
    generalize wdB k p 8 = X
    repeat (first | refine JL.q (by first | (apply OQ.move; exact rfl) | (apply OQ.assign; exact rfl)) rfl ?_ | refine JC.seq ?_ | refine JC.region ?_ | refine JC.exit ?_ | refine JL.nil ?_ | refine JE.next ?_ | refine JE.then_exit ?_ | refine JE.blk_hit ?_)
    refine JC.ret (JE.ret1 rfl (RV.tmp rfl) ?_)
    exact fun w' hw => ⟨rfl, hw.chg⟩

theorem goes_numberOf : Goes Tryd.prog 73 := ⟨_, Tryd.func73, rfl, by kernel_rfl⟩
set_option maxHeartbeats 8000000 in
theorem numberOf_any (u : List By) (hu : u.length = 32) (w : World) : Calls Tryd.prog 73 [.agg (u.map U8).toArray].toArray w fun e w' => e = .returned (.agg ((numB u).l.map U64).toArray) ∧ Ext w w' := by
  have hlu : (u.map U8).length = 32 := by rw [List.length_map]; exact hu
  have c0 := word_any u hu 0 (by decide)
  have c1 := word_any u hu 1 (by decide)
  have c2 := word_any u hu 2 (by decide)
  have c3 := word_any u hu 3 (by decide)
  have e : numB u = numW (wdB u 0 8) (wdB u 1 8) (wdB u 2 8) (wdB u 3 8) := rfl
  rw [e]
  generalize wdB u 0 8 = W0 at *
  generalize wdB u 1 8 = W1 at *
  generalize wdB u 2 8 = W2 at *
  generalize wdB u 3 8 = W3 at *
  clear e
  refine enter (n := 39) Tryd.func73 rfl rfl rfl (Holds.start w []) ?_
  repeat (first | refine JC.seq ?_ | refine JC.region ?_)
  refine JL.box (r := u.map U8) rfl rfl rfl fun b1 _ => ?_
  refine JL.alloc n5z rfl fun b2 _ => ?_
  repeat (first | refine JC.seq ?_ | refine JL.nil ?_ | refine JE.next ?_)
  refine JC.quiet mixC (by kernel_rfl) ?_
  repeat (first | refine JL.q (by first | (apply OQ.load_agg (cs := u.map U8); exact k32a; exact k32s; exact rfl; exact (.there .here); exact hlu; exact Row.all) | (apply OQ.callx (vs := [.agg (u.map U8).toArray, N 0]); exact goes_word; exact rfl; exact (fun w' _ => c0 w')) | (apply OQ.callx (vs := [.agg (u.map U8).toArray, N 1]); exact goes_word; exact rfl; exact (fun w' _ => c1 w')) | (apply OQ.callx (vs := [.agg (u.map U8).toArray, N 2]); exact goes_word; exact rfl; exact (fun w' _ => c2 w')) | (apply OQ.callx (vs := [.agg (u.map U8).toArray, N 3]); exact goes_word; exact rfl; exact (fun w' _ => c3 w')) | (apply OQ.and64 (b := 2251799813685247#64); exact rfl; exact rfl) | (apply OQ.shl64; exact rfl; exact rfl) | (apply OQ.or64; exact rfl; exact rfl) | (apply OQ.move; exact rfl) | (apply OQ.assign; exact rfl) | (apply OQ.shr64; exact rfl; exact rfl)) rfl ?_ | refine JQ.q (by first | (apply OQ.load_agg (cs := u.map U8); exact k32a; exact k32s; exact rfl; exact (.there .here); exact hlu; exact Row.all) | (apply OQ.callx (vs := [.agg (u.map U8).toArray, N 0]); exact goes_word; exact rfl; exact (fun w' _ => c0 w')) | (apply OQ.callx (vs := [.agg (u.map U8).toArray, N 1]); exact goes_word; exact rfl; exact (fun w' _ => c1 w')) | (apply OQ.callx (vs := [.agg (u.map U8).toArray, N 2]); exact goes_word; exact rfl; exact (fun w' _ => c2 w')) | (apply OQ.callx (vs := [.agg (u.map U8).toArray, N 3]); exact goes_word; exact rfl; exact (fun w' _ => c3 w')) | (apply OQ.and64 (b := 2251799813685247#64); exact rfl; exact rfl) | (apply OQ.shl64; exact rfl; exact rfl) | (apply OQ.or64; exact rfl; exact rfl) | (apply OQ.move; exact rfl) | (apply OQ.assign; exact rfl) | (apply OQ.shr64; exact rfl; exact rfl)) rfl ?_ | refine JC.seq ?_ | refine JC.region ?_ | refine JQ.nil ?_ | refine JE.next ?_)
  refine JL.q (OQ.pure (v := .agg ((numW W0 W1 W2 W3).l.map U64).toArray) rfl rfl (by kernel_rfl)) rfl ?_
  refine JL.store_all (cs := (numW W0 W1 W2 W3).l.map U64) n5s rfl rfl rfl (W_cell _) .here rfl ?_
  repeat (first | refine JL.nil ?_ | refine JE.next ?_)
  refine JC.ret (JE.ret1 rfl (RV.cell_agg n5a n5s rfl .here rfl Row.all) ?_)
  exact fun w' hw => ⟨rfl, hw.chg⟩
end Go.Proofs.YtbhlcnimjoppeaaDoor

/-
  Of no statement by itself: what the code's product gives: math/bits.Mul64, times, plus, rest, narrow, product.
  Conditions: each theorem's own.
-/
namespace Go.Proofs.YtbhlcnimjoppeaaDoor
set_option maxRecDepth 10000
open Sl Crv

/-- what Mul64 lays -/
def mulC (a b : W64) : W64 :=
  (a >>> 32) * (b >>> 32) + ((a >>> 32) * (b &&& 4294967295#64) + ((a &&& 4294967295#64) * (b &&& 4294967295#64)) >>> 32) >>> 32 +
    ((((a >>> 32) * (b &&& 4294967295#64) + ((a &&& 4294967295#64) * (b &&& 4294967295#64)) >>> 32) &&& 4294967295#64) + (a &&& 4294967295#64) * (b >>> 32)) >>> 32
theorem mask32 (x : W64) : (x &&& 4294967295#64).toNat = x.toNat % 4294967296 := by
  rw [BitVec.toNat_and, show (4294967295#64).toNat = 2 ^ 32 - 1 from rfl, Nat.and_two_pow_sub_one_eq_mod]
theorem mul32s {x y : W64} (hx : x.toNat < 4294967296) (hy : y.toNat < 4294967296) : (x * y).toNat = x.toNat * y.toNat ∧ x.toNat * y.toNat ≤ 18446744065119617025 := by
  have h : x.toNat * y.toNat ≤ 4294967295 * 4294967295 := Nat.mul_le_mul (by omega) (by omega)
  refine ⟨?_, by omega⟩
  rw [BitVec.toNat_mul]
  exact Nat.mod_eq_of_lt (by omega)
theorem split4 (x1 x0 y1 y0 : Nat) : (x1 * 4294967296 + x0) * (y1 * 4294967296 + y0) = x1 * y1 * 18446744073709551616 + (x1 * y0 + x0 * y1) * 4294967296 + x0 * y0 := by
  grind
theorem mulC_is (a b : W64) : mulC a b = mulHi a b := by
  apply BitVec.eq_of_toNat_eq
  rw [mulHi_is]
  have ha := a.isLt
  have hb := b.isLt
  have a1 := toNat_shr a 32
  have b1 := toNat_shr b 32
  have a0 := mask32 a
  have b0 := mask32 b
  have ea : a.toNat = a.toNat / 4294967296 * 4294967296 + a.toNat % 4294967296 := by omega
  have eb : b.toNat = b.toNat / 4294967296 * 4294967296 + b.toNat % 4294967296 := by omega
  have e := split4 (a.toNat / 4294967296) (a.toNat % 4294967296) (b.toNat / 4294967296) (b.toNat % 4294967296)
  rw [← ea, ← eb] at e
  unfold mulC
  have h1 : (a >>> 32).toNat < 4294967296 := by omega
  have h2 : (b >>> 32).toNat < 4294967296 := by omega
  have h3 : (a &&& 4294967295#64).toNat < 4294967296 := by omega
  have h4 : (b &&& 4294967295#64).toNat < 4294967296 := by omega
  have p11 := mul32s h1 h2
  have p10 := mul32s h1 h4
  have p01 := mul32s h3 h2
  have p00 := mul32s h3 h4
  rw [a1, b1] at p11
  rw [a1, b0] at p10
  rw [a0, b1] at p01
  rw [a0, b0] at p00
  clear ha hb ea eb h1 h2 h3 h4 a1 b1 a0 b0
  rw [show (2 : Nat) ^ 32 = 4294967296 from rfl] at *
  generalize (a >>> 32) * (b >>> 32) = q11 at *
  generalize (a >>> 32) * (b &&& 4294967295#64) = q10 at *
  generalize (a &&& 4294967295#64) * (b >>> 32) = q01 at *
  generalize (a &&& 4294967295#64) * (b &&& 4294967295#64) = q00 at *
  generalize a.toNat * b.toNat = pr at *
  generalize a.toNat / 4294967296 * (b.toNat / 4294967296) = n11 at *
  generalize a.toNat / 4294967296 * (b.toNat % 4294967296) = n10 at *
  generalize a.toNat % 4294967296 * (b.toNat / 4294967296) = n01 at *
  generalize a.toNat % 4294967296 * (b.toNat % 4294967296) = n00 at *
  have s1 := toNat_shr q00 32
  have t1 := toNat_add (x := q10) (y := q00 >>> 32) (by omega)
  have s2 := toNat_shr (q10 + q00 >>> 32) 32
  have m1 := mask32 (q10 + q00 >>> 32)
  have t2 := toNat_add (x := (q10 + q00 >>> 32) &&& 4294967295#64) (y := q01) (by omega)
  have s3 := toNat_shr (((q10 + q00 >>> 32) &&& 4294967295#64) + q01) 32
  have hbd : pr < 18446744073709551616 * 18446744073709551616 := by omega
  have u1 := toNat_add (x := q11) (y := (q10 + q00 >>> 32) >>> 32) (by omega)
  have u2 := toNat_add (x := q11 + (q10 + q00 >>> 32) >>> 32) (y := (((q10 + q00 >>> 32) &&& 4294967295#64) + q01) >>> 32) (by omega)
  rw [u2, u1, s3, t2, m1, s2, t1, s1]
  omega
theorem goes_mul64 : Goes Tryd.prog 121 := ⟨_, Tryd.func121, rfl, by kernel_rfl⟩
theorem is_add : IsAdd Tryd.prog 122 := ⟨_, Tryd.func122, by kernel_rfl, by kernel_rfl, by kernel_rfl, by kernel_rfl⟩
set_option maxHeartbeats 8000000 in
theorem mul64_any (a b : W64) (w : World) : Calls Tryd.prog 121 [U64 a, U64 b].toArray w fun e w' => e = .returned (.tuple #[U64 (mulHi a b), U64 (a * b)]) ∧ Ext w w' := by
  rw [← mulC_is]
  refine enter (n := 51) Tryd.func121 rfl rfl rfl (Holds.start w []) ?_
  repeat (first | refine JL.q (by first | (apply OQ.and64 (b := 4294967295#64); exact rfl; exact rfl) | (apply OQ.mul64; exact rfl; exact rfl) | (apply OQ.move; exact rfl) | (apply OQ.assign; exact rfl) | (apply OQ.add64; exact rfl; exact rfl) | (apply OQ.shr64; exact rfl; exact rfl)) rfl ?_ | refine JC.seq ?_ | refine JC.region ?_ | refine JL.nil ?_ | refine JE.next ?_)
  refine JC.ret ?_
  refine JE.ret2 rfl (RV.tmp rfl) (RV.tmp rfl) ?_
  exact fun w' hw => ⟨rfl, hw.chg⟩

theorem w2s : szT Tryd.prog 152 = some 2 := by kernel_rfl
theorem w2a : aggT Tryd.prog 152 = true := by kernel_rfl
theorem w2z : zc Tryd.prog 152 = some ((⟨0, 0⟩ : W2).l.map U64) := by kernel_rfl
theorem goes_times64 : Goes Tryd.prog 104 := ⟨_, Tryd.func104, rfl, by kernel_rfl⟩
theorem goes_plus : Goes Tryd.prog 105 := ⟨_, Tryd.func105, rfl, by kernel_rfl⟩
theorem goes_rest : Goes Tryd.prog 120 := ⟨_, Tryd.func120, rfl, by kernel_rfl⟩
theorem goes_narrow : Goes Tryd.prog 103 := ⟨_, Tryd.func103, rfl, by kernel_rfl⟩
theorem goes_product : Goes Tryd.prog 76 := ⟨_, Tryd.func76, rfl, by kernel_rfl⟩
set_option maxHeartbeats 8000000 in
theorem times64_any (a b : W64) (w : World) : Calls Tryd.prog 104 [U64 a, U64 b].toArray w fun e w' => e = .returned (.agg ((tms a b).l.map U64).toArray) ∧ Ext w w' := by
  refine enter (n := 16) Tryd.func104 rfl rfl rfl (Holds.start w []) ?_
  repeat (first | refine JC.seq ?_ | refine JC.region ?_)
  refine JL.alloc w2z rfl fun b4 _ => ?_
  repeat (first | refine JL.q (by first | (apply OQ.callx; exact goes_mul64; exact rfl; exact (fun w' _ => mul64_any a b w')) | (apply OQ.extract; exact rfl; exact rfl) | (apply OQ.move; exact rfl) | (apply OQ.assign; exact rfl)) rfl ?_ | refine JC.seq ?_ | refine JC.region ?_ | refine JL.nil ?_ | refine JE.next ?_)
  refine JL.q (OQ.pure (v := .agg ((tms a b).l.map U64).toArray) rfl rfl (by kernel_rfl)) rfl ?_
  refine JL.store_all (cs := (tms a b).l.map U64) w2s rfl rfl rfl (W_cell _) .here rfl ?_
  repeat (first | refine JL.nil ?_ | refine JE.next ?_)
  refine JC.ret (JE.ret1 rfl (RV.cell_agg w2a w2s rfl .here rfl Row.all) ?_)
  exact fun w' hw => ⟨rfl, hw.chg⟩
theorem cry_le (a b : W64) : (cry a b).toNat ≤ 1 := by
  rw [cry_is]
  have := a.isLt
  have := b.isLt
  omega
theorem add_s0 (a b : W64) : (a + b).toNat = (a.toNat + b.toNat + (0#64 : W64).toNat) % 18446744073709551616 := by
  rw [BitVec.toNat_add]; rfl
theorem add_o0 (a b : W64) : (cry a b).toNat = (a.toNat + b.toNat + (0#64 : W64).toNat) / 18446744073709551616 := cry_is a b
theorem add_s1 (a b c : W64) : (a + b + c).toNat = (a.toNat + b.toNat + c.toNat) % 18446744073709551616 := by
  rw [BitVec.toNat_add, BitVec.toNat_add]
  omega
theorem add_o1 (a b c : W64) : (BitVec.ofNat 64 ((a.toNat + b.toNat + c.toNat) / 18446744073709551616)).toNat = (a.toNat + b.toNat + c.toNat) / 18446744073709551616 := by
  rw [BitVec.toNat_ofNat]
  have := a.isLt
  have := b.isLt
  have := c.isLt
  omega
set_option maxHeartbeats 8000000 in
theorem plus_any (v : W2) (a b : W64) (w : World) : Calls Tryd.prog 105 [.agg (v.l.map U64).toArray, U64 a, U64 b].toArray w fun e w' => e = .returned (.agg ((pls v a b).l.map U64).toArray) ∧ Ext w w' := by
  have c0 : (v.l.map U64)[0]? = some (U64 v.hi) := rfl
  have c1 : (v.l.map U64)[1]? = some (U64 v.lo) := rfl
  refine enter (n := 34) Tryd.func105 rfl rfl rfl (Holds.start w []) ?_
  repeat (first | refine JC.seq ?_ | refine JC.region ?_)
  refine JL.box (r := v.l.map U64) rfl rfl rfl fun b3 _ => ?_
  refine JL.alloc w2z rfl fun b6 _ => ?_
  repeat (first | refine JL.q (by first | (apply OQ.callx; exact goes_mul64; exact rfl; exact (fun w' _ => mul64_any a b w')) | (apply OQ.extract; exact rfl; exact rfl) | (apply OQ.load; exact w8c; exact rfl; exact (.there .here); exact (Row.cell c1)) | (apply OQ.load; exact w8c; exact rfl; exact (.there .here); exact (Row.cell c0)) | (apply OQ.add64c (c := 0#64) (s := v.lo + a * b) (o := cry v.lo (a * b)); exact is_add; exact rfl; exact rfl; exact rfl; exact (by decide); exact (add_s0 _ _); exact (add_o0 _ _)) | (apply OQ.add64c (c := cry v.lo (a * b)) (s := v.hi + mulHi a b + cry v.lo (a * b)); exact is_add; exact rfl; exact rfl; exact rfl; exact (cry_le _ _); exact (add_s1 _ _ _); exact (add_o1 _ _ _)) | (apply OQ.move; exact rfl) | (apply OQ.assign; exact rfl) | (apply OQ.fld; exact rfl; exact rfl; exact rfl; exact (by decide); exact rfl)) rfl ?_ | refine JC.seq ?_ | refine JC.region ?_ | refine JL.nil ?_ | refine JE.next ?_)
  refine JL.q (OQ.pure (v := .agg ((pls v a b).l.map U64).toArray) rfl rfl (by kernel_rfl)) rfl ?_
  refine JL.store_all (cs := (pls v a b).l.map U64) w2s rfl rfl rfl (W_cell _) .here rfl ?_
  repeat (first | refine JL.nil ?_ | refine JE.next ?_)
  refine JC.ret (JE.ret1 rfl (RV.cell_agg w2a w2s rfl .here rfl Row.all) ?_)
  exact fun w' hw => ⟨rfl, hw.chg⟩
set_option maxHeartbeats 8000000 in
theorem rest_any (v : W2) (w : World) : Calls Tryd.prog 120 [.agg (v.l.map U64).toArray].toArray w fun e w' => e = .returned (U64 (rst v)) ∧ Ext w w' := by
  have c0 : (v.l.map U64)[0]? = some (U64 v.hi) := rfl
  have c1 : (v.l.map U64)[1]? = some (U64 v.lo) := rfl
  refine enter (n := 10) Tryd.func120 rfl rfl rfl (Holds.start w []) ?_
  repeat (first | refine JC.seq ?_ | refine JC.region ?_)
  refine JL.box (r := v.l.map U64) rfl rfl rfl fun b1 _ => ?_
  repeat (first | refine JL.q (by first | (apply OQ.load; exact w8c; exact rfl; exact .here; exact (Row.cell c1)) | (apply OQ.load; exact w8c; exact rfl; exact .here; exact (Row.cell c0)) | (apply OQ.shl64; exact rfl; exact rfl) | (apply OQ.or64; exact rfl; exact rfl) | (apply OQ.assign; exact rfl) | (apply OQ.shr64; exact rfl; exact rfl) | (apply OQ.fld; exact rfl; exact rfl; exact rfl; exact (by decide); exact rfl)) rfl ?_ | refine JC.seq ?_ | refine JC.region ?_ | refine JL.nil ?_ | refine JE.next ?_)
  refine JC.ret (JE.ret1 rfl (RV.tmp rfl) ?_)
  exact fun w' hw => ⟨rfl, hw.chg⟩
set_option maxHeartbeats 16000000 in
theorem narrow_any (v0 v1 v2 v3 v4 : W2) (w : World) : Calls Tryd.prog 103 [.agg (v0.l.map U64).toArray, .agg (v1.l.map U64).toArray, .agg (v2.l.map U64).toArray, .agg (v3.l.map U64).toArray, .agg (v4.l.map U64).toArray].toArray w
    fun e w' => e = .returned (.agg ((nrw v0 v1 v2 v3 v4).l.map U64).toArray) ∧ Ext w w' := by
  have c0 : (v0.l.map U64)[1]? = some (U64 v0.lo) := rfl
  have c1 : (v1.l.map U64)[1]? = some (U64 v1.lo) := rfl
  have c2 : (v2.l.map U64)[1]? = some (U64 v2.lo) := rfl
  have c3 : (v3.l.map U64)[1]? = some (U64 v3.lo) := rfl
  have c4 : (v4.l.map U64)[1]? = some (U64 v4.lo) := rfl
  have cc := carried_any ⟨(v0.lo &&& 2251799813685247#64) + 19#64 * rst v4, (v1.lo &&& 2251799813685247#64) + rst v0, (v2.lo &&& 2251799813685247#64) + rst v1, (v3.lo &&& 2251799813685247#64) + rst v2, (v4.lo &&& 2251799813685247#64) + rst v3⟩
  refine enter (n := 44) Tryd.func103 rfl rfl rfl (Holds.start w []) ?_
  repeat (first | refine JC.seq ?_ | refine JC.region ?_)
  refine JL.box (r := v0.l.map U64) rfl rfl rfl fun b5 _ => ?_
  refine JL.box (r := v1.l.map U64) rfl rfl rfl fun b6 _ => ?_
  refine JL.box (r := v2.l.map U64) rfl rfl rfl fun b7 _ => ?_
  refine JL.box (r := v3.l.map U64) rfl rfl rfl fun b8 _ => ?_
  refine JL.box (r := v4.l.map U64) rfl rfl rfl fun b9 _ => ?_
  refine JL.alloc n5z rfl fun b10 _ => ?_
  repeat (first | refine JC.seq ?_ | refine JL.nil ?_ | refine JE.next ?_)
  refine JC.tail 33 mixC (by kernel_rfl) ?_
  simp only [List.take_succ_cons, List.take_zero, List.drop_succ_cons, List.drop_zero]
  repeat (refine JQ.q (by first | (apply OQ.load; exact w8c; exact rfl; exact (by repeat (first | exact Has.here | apply Has.there)); exact (Row.cell c0)) | (apply OQ.load; exact w8c; exact rfl; exact (by repeat (first | exact Has.here | apply Has.there)); exact (Row.cell c1)) | (apply OQ.load; exact w8c; exact rfl; exact (by repeat (first | exact Has.here | apply Has.there)); exact (Row.cell c2)) | (apply OQ.load; exact w8c; exact rfl; exact (by repeat (first | exact Has.here | apply Has.there)); exact (Row.cell c3)) | (apply OQ.load; exact w8c; exact rfl; exact (by repeat (first | exact Has.here | apply Has.there)); exact (Row.cell c4)) | (apply OQ.load_agg (cs := v0.l.map U64); exact w2a; exact w2s; exact rfl; exact (by repeat (first | exact Has.here | apply Has.there)); exact rfl; exact Row.all) | (apply OQ.load_agg (cs := v1.l.map U64); exact w2a; exact w2s; exact rfl; exact (by repeat (first | exact Has.here | apply Has.there)); exact rfl; exact Row.all) | (apply OQ.load_agg (cs := v2.l.map U64); exact w2a; exact w2s; exact rfl; exact (by repeat (first | exact Has.here | apply Has.there)); exact rfl; exact Row.all) | (apply OQ.load_agg (cs := v3.l.map U64); exact w2a; exact w2s; exact rfl; exact (by repeat (first | exact Has.here | apply Has.there)); exact rfl; exact Row.all) | (apply OQ.load_agg (cs := v4.l.map U64); exact w2a; exact w2s; exact rfl; exact (by repeat (first | exact Has.here | apply Has.there)); exact rfl; exact Row.all) | (apply OQ.callx; exact goes_rest; exact rfl; exact (fun w' _ => rest_any _ w')) | (apply OQ.and64 (b := 2251799813685247#64); exact rfl; exact rfl) | (apply OQ.mul64 (a := 19#64); exact rfl; exact rfl) | (apply OQ.add64; exact rfl; exact rfl) | (apply OQ.fld; exact rfl; exact rfl; exact rfl; exact (by decide); exact rfl)) rfl ?_)
  refine JQ.q (OQ.pure (v := .agg ((⟨(v0.lo &&& 2251799813685247#64) + 19#64 * rst v4, (v1.lo &&& 2251799813685247#64) + rst v0, (v2.lo &&& 2251799813685247#64) + rst v1, (v3.lo &&& 2251799813685247#64) + rst v2, (v4.lo &&& 2251799813685247#64) + rst v3⟩ : N5).l.map U64).toArray) rfl rfl (by kernel_rfl)) rfl ?_
  refine JQ.q (OQ.callx goes_carried rfl fun w' _ => cc w') rfl ?_
  repeat (refine JQ.nil_tail ?_)
  refine JL.store_all (cs := (nrw v0 v1 v2 v3 v4).l.map U64) n5s rfl rfl rfl (W_cell _) .here rfl ?_
  repeat (first | refine JL.nil ?_ | refine JE.next ?_)
  refine JC.ret (JE.ret1 rfl (RV.cell_agg n5a n5s rfl .here rfl Row.all) ?_)
  exact fun w' hw => ⟨rfl, hw.chg⟩
end Go.Proofs.YtbhlcnimjoppeaaDoor
