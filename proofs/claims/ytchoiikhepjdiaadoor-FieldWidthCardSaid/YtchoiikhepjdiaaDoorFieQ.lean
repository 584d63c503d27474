/-
  Of no statement by itself: a head's lines made loose (lines' ends bare, more folds): pure; no program stands here.
  Conditions: none but each lemma's own.
-/
import Derived.Test.YtchoiikhepjdiaaDoorFieT
namespace Go.Proofs.YtchoiikhepjdiaaDoor
namespace Fld
def ins (f : Nat → Bool) (i : Nat) (p c : By) : Bool := decide (1 < i) && (bl c && (!(p == 10) && (!(p == 58) && f i)))
def pcs (f : Nat → Bool) (i : Nat) (p c : By) : List By := if c = 13 ∧ i % 2 = 0 then [] else if ins f i p c then [13, 10, c] else [c]
def lo (f : Nat → Bool) : Nat → By → List By → List By
  | _, _, [] => []
  | i, p, c :: X => pcs f i p c ++ lo f (i + 1) c X
def lastB (p : By) : List By → By
  | [] => p
  | c :: X => lastB c X
theorem lo_append (f : Nat → Bool) : ∀ (A B : List By) (i : Nat) (p : By), lo f i p (A ++ B) = lo f i p A ++ lo f (i + A.length) (lastB p A) B
  | [], B, i, p => rfl
  | c :: A, B, i, p => by
    rw [List.cons_append, lo, lo, lo_append f A B (i + 1) c, List.append_assoc, List.length_cons]
    congr 3
    omega
theorem lastB_take (T : List By) : ∀ (p : By) {i : Nat}, 0 < i → i ≤ T.length → lastB p (T.take i) = T.getD (i - 1) 0 := by
  induction T with
  | nil => intro p i h1 h2; simp at h2; omega
  | cons c T ih =>
    intro p i h1 h2
    obtain ⟨j, rfl⟩ : ∃ j, i = j + 1 := ⟨i - 1, by omega⟩
    rw [List.take_succ_cons]
    show lastB c (T.take j) = _
    cases j with
    | zero => rfl
    | succ j =>
      rw [ih c (by omega) (by simpa using h2)]
      rfl
theorem lo_snoc (f : Nat → Bool) (T : List By) {i : Nat} (h : i < T.length) : lo f 0 0 (T.take (i + 1)) = lo f 0 0 (T.take i) ++ pcs f i (T.getD (i - 1) 0) (T.getD i 0) := by
  rw [take_succ_getD T h, lo_append, List.length_take, Nat.min_eq_left (by omega), Nat.zero_add]
  congr 1
  show pcs f i _ _ ++ [] = _
  rw [List.append_nil]
  by_cases h0 : 0 < i
  · rw [lastB_take T 0 h0 (by omega)]
  · obtain rfl : i = 0 := by omega
    simp [pcs, ins]
theorem pcs_len (f : Nat → Bool) (i : Nat) (p c : By) : (pcs f i p c).length ≤ 3 := by
  unfold pcs
  split
  · simp
  · split <;> simp
theorem lo_len (f : Nat → Bool) : ∀ (X : List By) (i : Nat) (p : By), (lo f i p X).length ≤ 3 * X.length
  | [], _, _ => by simp [lo]
  | c :: X, i, p => by
    have h1 := pcs_len f i p c
    have h2 := lo_len f X (i + 1) c
    rw [lo, List.length_append, List.length_cons]
    omega
theorem pcs_plain (f : Nat → Bool) (i : Nat) (p c : By) (h1 : c ≠ 13) (h2 : bl c = false) : pcs f i p c = [c] := by
  unfold pcs
  rw [if_neg (fun h => h1 h.1), ins, h2]
  simp
theorem sok_13 {c : By} (h : sok c = true) : c ≠ 13 := (sok_clean h c (by simp)).2
theorem fo_lo (f : Nat → Bool) {u L : List By} (h : Fo u L) : ∀ i p, Fo u (lo f i p L) := by
  induction h with
  | nil => intro i p; exact .nil
  | byte c v L hc _ ih =>
    intro i p
    rw [lo]
    unfold pcs
    rw [if_neg (fun h => sok_13 hc h.1)]
    split
    · next hi =>
      simp only [ins, Bool.and_eq_true] at hi
      exact .fold c [13, 10] _ _ hi.2.1 (.inr rfl) (ih _ _)
    · exact .byte c _ _ hc (ih _ _)
  | fold c e v L hc he _ ih =>
    intro i p
    have hcp : ∀ j, pcs f j 10 c = [c] := fun j => by
      unfold pcs
      rw [if_neg (fun h => sok_13 (bl_sok hc) h.1), ins]
      simp
    rcases he with rfl | rfl
    · show Fo _ (pcs f i p 10 ++ (pcs f (i + 1) 10 c ++ lo f (i + 1 + 1) c L))
      rw [pcs_plain f i p 10 (by decide) (by decide), hcp]
      exact .fold c [10] _ _ hc (.inl rfl) (ih _ _)
    · show Fo _ (pcs f i p 13 ++ (pcs f (i + 1) 13 10 ++ (pcs f (i + 1 + 1) 10 c ++ lo f (i + 1 + 1 + 1) c L)))
      rw [pcs_plain f (i + 1) 13 10 (by decide) (by decide), hcp]
      by_cases h2 : i % 2 = 0
      · rw [show pcs f i p 13 = [] by rw [pcs, if_pos ⟨rfl, h2⟩]]
        exact .fold c [10] _ _ hc (.inl rfl) (ih _ _)
      · rw [show pcs f i p 13 = [13] by rw [pcs, if_neg (fun h => h2 h.2), ins]; simp [bl]]
        exact .fold c [13, 10] _ _ hc (.inr rfl) (ih _ _)
theorem lo_name (f : Nat → Bool) : ∀ (n : List By) (i : Nat) (p : By), n.all nok = true → lo f i p n = n
  | [], _, _, _ => rfl
  | c :: n, i, p, h => by
    simp only [List.all_cons, Bool.and_eq_true] at h
    have hc : c ≠ 13 := by rintro rfl; exact absurd h.1 (by decide)
    rw [lo, pcs_plain f i p c hc (nok_bl h.1), lo_name f n _ _ h.2]; rfl
theorem lo_e (f : Nat → Bool) {e : List By} (he : isE e) (i : Nat) (p : By) : isE (lo f i p e) := by
  rcases he with rfl | rfl
  · show isE (pcs f i p 10 ++ [])
    rw [pcs_plain f i p 10 (by decide) (by decide)]
    exact .inl rfl
  · show isE (pcs f i p 13 ++ (pcs f (i + 1) 13 10 ++ []))
    rw [pcs_plain f (i + 1) 13 10 (by decide) (by decide)]
    by_cases h2 : i % 2 = 0
    · rw [show pcs f i p 13 = [] by rw [pcs, if_pos ⟨rfl, h2⟩]]
      exact .inl rfl
    · rw [show pcs f i p 13 = [13] by rw [pcs, if_neg (fun h => h2 h.2), ins]; simp [bl]]
      exact .inr rfl
theorem hd_lo (f : Nat → Bool) {fs : List (List By × List By)} {H : List By} (h : Hd fs H) : ∀ i p, Hd fs (lo f i p H) := by
  induction h with
  | nil => intro i p; exact .nil
  | cons n v L e fs H hn hv hf he _ ih =>
    intro i p
    have e1 : n ++ 58 :: L ++ e ++ H = n ++ ([58] ++ (L ++ (e ++ H))) := by simp
    rw [e1, lo_append, lo_append, lo_append, lo_append, lo_name f n _ _ (name_parts hn).1]
    have e2 : ∀ j q, lo f j q [58] = [58] := fun j q => by
      show pcs f j q 58 ++ [] = _
      rw [pcs_plain f j q 58 (by decide) (by decide)]; rfl
    rw [e2]
    have := Hd.cons n v _ _ fs _ hn hv (fo_lo f hf (i + n.length + [58].length) (lastB (lastB p n) [58])) (lo_e f he (i + n.length + [58].length + L.length) (lastB (lastB (lastB p n) [58]) L)) (ih (i + n.length + [58].length + L.length + e.length) (lastB (lastB (lastB (lastB p n) [58]) L) e))
    simpa using this
end Fld
end Go.Proofs.YtchoiikhepjdiaaDoor
