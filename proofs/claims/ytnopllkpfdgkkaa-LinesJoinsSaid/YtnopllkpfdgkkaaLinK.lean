/-
  Of no statement by itself: where the first line's end stands, and what is split there; no program stands here.
  Conditions: none but each lemma's own.
-/
import Derived.Test.YtnopllkpfdgkkaaLinT
import Derived.Lib.IndexMore
namespace Go.Proofs.Ytnopllkpfdgkkaa
namespace Lin
/-- a line's end stands at i -/
def endAt (l : List By) (i : Nat) : Prop := l[i]? = some 13 ∧ l[i + 1]? = some 10
def noEnd (l : List By) : Prop := ∀ i, ¬ endAt l i
theorem sp_shift (p : List (List By)) : ∀ (l : List By) (s : List (List By) × List By), l.foldl sp (p ++ s.1, s.2) = (p ++ (l.foldl sp s).1, (l.foldl sp s).2)
  | [], _ => rfl
  | c :: l, s => by
    rw [List.foldl_cons, List.foldl_cons]
    have e : sp (p ++ s.1, s.2) c = (p ++ (sp s c).1, (sp s c).2) := by
      unfold sp
      simp only
      split
      · rw [List.append_assoc]
      · rfl
    rw [e]
    exact sp_shift p l (sp s c)
theorem sp_none : ∀ (l : List By) (L : List (List By)) (x : List By), noEnd (x ++ l) → l.foldl sp (L, x) = (L, x ++ l)
  | [], L, x, _ => by rw [List.append_nil]; rfl
  | c :: l, L, x, h => by
    rw [List.foldl_cons]
    have e : sp (L, x) c = (L, x ++ [c]) := by
      unfold sp
      simp only
      rw [if_neg]
      rintro ⟨rfl, h13⟩
      have hx : x ≠ [] := by rintro rfl; cases h13
      have hp : 0 < x.length := List.length_pos_iff.2 hx
      refine h (x.length - 1) ⟨?_, ?_⟩
      · rw [List.getElem?_append_left (by omega), ← List.getLast?_eq_getElem?]; exact h13
      · rw [show x.length - 1 + 1 = x.length by omega, List.getElem?_append_right (Nat.le_refl _)]; simp
    rw [e, sp_none l L (x ++ [c]) (by rw [List.append_assoc]; exact h), List.append_assoc]
    rfl
theorem splB_no {l : List By} (h : noEnd l) : splB l = ([], l) := by
  have := sp_none l [] [] (by simpa using h)
  simpa [splB] using this
theorem splB_at {l : List By} {i : Nat} (h : endAt l i) (hn : ∀ j, j < i → ¬ endAt l j) : splB l = (l.take i :: (splB (l.drop (i + 2))).1, (splB (l.drop (i + 2))).2) := by
  have hl : i + 1 < l.length := (List.getElem?_eq_some_iff.1 h.2).1
  have e : l = l.take i ++ ([13, 10] ++ l.drop (i + 2)) := by
    have e1 : l.drop i = 13 :: l.drop (i + 1) := by
      rw [List.drop_eq_getElem_cons (by omega)]
      congr 1
      exact (List.getElem?_eq_some_iff.1 h.1).2
    have e2 : l.drop (i + 1) = 10 :: l.drop (i + 2) := by
      rw [List.drop_eq_getElem_cons hl]
      congr 1
      exact (List.getElem?_eq_some_iff.1 h.2).2
    calc l = l.take i ++ l.drop i := (List.take_append_drop i l).symm
      _ = _ := by rw [e1, e2]; rfl
  have hno : noEnd ([] ++ (l.take i ++ [13])) := by
    intro j hj
    rw [List.nil_append] at hj
    have h2 : j + 1 < (l.take i ++ [13]).length := (List.getElem?_eq_some_iff.1 hj.2).1
    rw [List.length_append, List.length_take, List.length_singleton] at h2
    have hji : j < i := by omega
    refine hn j hji ⟨?_, ?_⟩
    · have := hj.1
      rwa [List.getElem?_append_left (by rw [List.length_take]; omega), List.getElem?_take, if_pos hji] at this
    · have h3 := hj.2
      by_cases e1 : j + 1 < i
      · rwa [List.getElem?_append_left (by rw [List.length_take]; omega), List.getElem?_take, if_pos e1] at h3
      · rw [List.getElem?_append_right (by rw [List.length_take]; omega), List.length_take] at h3
        rw [show j + 1 - min i l.length = 0 by omega] at h3
        cases h3
  have e13 := sp_none (l.take i ++ [13]) [] [] hno
  have e10 : sp ([], [] ++ (l.take i ++ [13])) 10 = ([l.take i], []) := by
    unfold sp
    rw [if_pos ⟨rfl, by simp⟩]
    simp
  have hs := sp_shift [l.take i] (l.drop (i + 2)) ([], [])
  have e0 : splB l = splB (l.take i ++ [13] ++ ([10] ++ l.drop (i + 2))) := by
    congr 1
    rw [List.append_assoc]
    exact e
  rw [e0]
  show (l.take i ++ [13] ++ ([10] ++ l.drop (i + 2))).foldl sp ([], []) = _
  rw [List.foldl_append, e13, List.foldl_append]
  show (l.drop (i + 2)).foldl sp (sp ([], [] ++ (l.take i ++ [13])) 10) = _
  rw [e10]
  exact hs
/-! ### the library's search -/
def u8L (l : List By) : List UInt8 := l.map UInt8.ofBitVec
theorem u8_get (l : List By) (i : Nat) : (u8L l)[i]? = l[i]?.map UInt8.ofBitVec := by unfold u8L; rw [List.getElem?_map]
theorem occ_iff (l : List By) (i : Nat) : Go.Lib.occAt (u8L l) (u8L [13, 10]) i = true ↔ endAt l i := by
  unfold Go.Lib.occAt
  have h : ∀ r : List UInt8, (u8L [13, 10]).isPrefixOf r = true ↔ r[0]? = some 13 ∧ r[1]? = some 10 := by
    intro r
    match r with
    | [] => simp [u8L]
    | [a] => simp [u8L]
    | a :: b :: r =>
      show ((UInt8.ofBitVec 13 == a) && ((UInt8.ofBitVec 10 == b) && true)) = true ↔ _
      rw [Bool.and_eq_true, Bool.and_true, beq_iff_eq, beq_iff_eq]
      simp only [List.getElem?_cons_zero, List.getElem?_cons_succ, Option.some.injEq]
      exact ⟨fun ⟨h1, h2⟩ => ⟨h1.symm, h2.symm⟩, fun ⟨h1, h2⟩ => ⟨h1.symm, h2.symm⟩⟩
  rw [h, List.getElem?_drop, List.getElem?_drop, u8_get, u8_get, Nat.add_zero]
  unfold endAt
  have inj : ∀ (o : Option By) (c : By), o.map UInt8.ofBitVec = some (UInt8.ofBitVec c) ↔ o = some c := by
    intro o c
    cases o with
    | none => simp
    | some a => simp
  exact and_congr (inj _ 13) (inj _ 10)
/-- where the first line's end stands: -1: nowhere -/
def cutI (l : List By) : Int := Go.Lib.index (u8L l) (u8L [13, 10])
theorem cutI_spec (l : List By) : (cutI l = -1 ∧ noEnd l) ∨ ∃ i : Nat, cutI l = i ∧ i + 2 ≤ l.length ∧ endAt l i ∧ ∀ j, j < i → ¬ endAt l j := by
  rcases Go.Lib.index_spec (u8L l) (u8L [13, 10]) with ⟨h1, h2⟩ | ⟨i, h1, h2, h3, h4⟩
  · refine .inl ⟨h1, fun i hi => ?_⟩
    have hl : i + 1 < l.length := (List.getElem?_eq_some_iff.1 hi.2).1
    have := h2 i (by unfold u8L; rw [List.length_map]; omega)
    rw [(occ_iff l i).2 hi] at this
    cases this
  · refine .inr ⟨i, h1, ?_, (occ_iff l i).1 h3, fun j hj hc => ?_⟩
    · have hl : i + 1 < l.length := (List.getElem?_eq_some_iff.1 ((occ_iff l i).1 h3).2).1
      omega
    · have := h4 j hj
      rw [(occ_iff l j).2 hc] at this
      cases this
end Lin
end Go.Proofs.Ytnopllkpfdgkkaa
