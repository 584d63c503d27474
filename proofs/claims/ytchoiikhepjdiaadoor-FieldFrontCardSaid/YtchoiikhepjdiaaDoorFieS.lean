/-
  Of no statement by itself: names and values of fields, folding, and how a head is read: pure; no program stands here.
  Conditions: none but each lemma's own.
-/
namespace Go.Proofs.YtchoiikhepjdiaaDoor
namespace Fld
abbrev By := BitVec 8
def bl (c : By) : Bool := c == 32 || c == 9
def nok (c : By) : Bool := decide (33 ≤ c.toNat) && decide (c.toNat ≤ 126) && !(c == 58)
def sok (c : By) : Bool := c == 9 || (decide (32 ≤ c.toNat) && decide (c.toNat ≤ 126))
def nameB (s : List By) : Bool := s.all nok && decide (1 ≤ s.length) && decide (s.length ≤ 64)
def valB (s : List By) : Bool := s.all sok && decide (s.length ≤ 8192) && (decide (s.length = 0) || (!bl (s.getD 0 0) && !bl (s.getD (s.length - 1) 0)))
def small (c : By) : By := if 65 ≤ c.toNat ∧ c.toNat ≤ 90 then c + 32 else c
def sameB (a b : List By) : Bool := decide (a.map small = b.map small)
/-! ### names -/
theorem small_nok : ∀ c : By, nok (small c) = nok c := by
  have h : ∀ c : Fin 256, nok (small (BitVec.ofNat 8 c.val)) = nok (BitVec.ofNat 8 c.val) := by decide +kernel
  intro c
  simpa using h ⟨c.toNat, c.isLt⟩
theorem all_small (s : List By) : (s.map small).all nok = s.all nok := by
  rw [List.all_map]
  congr 1
  funext c
  exact small_nok c
theorem same_len {a b : List By} (h : sameB a b = true) : a.length = b.length := by
  have := congrArg List.length (of_decide_eq_true h)
  simpa using this
theorem same_name {a b : List By} (h : sameB a b = true) : nameB a = nameB b := by
  unfold nameB
  rw [same_len h, ← all_small a, ← all_small b, of_decide_eq_true h]
theorem same_refl (a : List By) : sameB a a = true := decide_eq_true rfl
theorem same_symm (a b : List By) : sameB a b = sameB b a := decide_eq_decide.2 ⟨Eq.symm, Eq.symm⟩
theorem same_trans {a b c : List By} (h : sameB a b = true) (k : sameB b c = true) : sameB a c = true := decide_eq_true ((of_decide_eq_true h).trans (of_decide_eq_true k))
/-! ### folding -/
/-- a blank with none ahead -/
def tn (v : List By) (i : Nat) : Bool := decide (0 < i) && (bl (v.getD i 0) && !bl (v.getD (i - 1) 0))
/-- the next such one, from a place on, or the end -/
def scan (v : List By) (i : Nat) : Nat := if h : i < v.length then (if tn v i then i else scan v (i + 1)) else v.length
termination_by v.length - i
theorem scan_hit {v : List By} {i : Nat} (h : i < v.length) (ht : tn v i = true) : scan v i = i := by rw [scan, dif_pos h, if_pos ht]
theorem scan_go {v : List By} {i : Nat} (h : i < v.length) (ht : ¬ tn v i = true) : scan v i = scan v (i + 1) := by rw [scan, dif_pos h, if_neg ht]
theorem scan_end {v : List By} {i : Nat} (h : ¬ i < v.length) : scan v i = v.length := by rw [scan, dif_neg h]
theorem scan_le (v : List By) : ∀ i, scan v i ≤ v.length := by
  intro i
  generalize hk : v.length - i = k
  induction k generalizing i with
  | zero => rw [scan_end (by omega)]; exact Nat.le_refl _
  | succ k ih =>
    by_cases ht : tn v i = true
    · rw [scan_hit (by omega) ht]; omega
    · rw [scan_go (by omega) ht]; exact ih (i + 1) (by omega)
theorem scan_ge (v : List By) : ∀ i, i ≤ v.length → i ≤ scan v i := by
  intro i hi
  generalize hk : v.length - i = k
  induction k generalizing i with
  | zero => rw [scan_end (by omega)]; exact hi
  | succ k ih =>
    by_cases ht : tn v i = true
    · rw [scan_hit (by omega) ht]; exact Nat.le_refl _
    · rw [scan_go (by omega) ht]
      have := ih (i + 1) (by omega) (by omega)
      omega
theorem scan_tn (v : List By) : ∀ i, i ≤ v.length → scan v i < v.length → tn v (scan v i) = true := by
  intro i hi
  generalize hk : v.length - i = k
  induction k generalizing i with
  | zero => rw [scan_end (by omega)]; intro h; omega
  | succ k ih =>
    by_cases ht : tn v i = true
    · rw [scan_hit (by omega) ht]; intro _; exact ht
    · rw [scan_go (by omega) ht]; exact ih (i + 1) (by omega) (by omega)
/-- none in between -/
theorem scan_no (v : List By) : ∀ i, i ≤ v.length → ∀ j, i ≤ j → j < scan v i → ¬ tn v j = true := by
  intro i hi
  generalize hk : v.length - i = k
  induction k generalizing i with
  | zero => intro j h1 h2; rw [scan_end (by omega)] at h2; omega
  | succ k ih =>
    intro j h1 h2
    by_cases ht : tn v i = true
    · rw [scan_hit (by omega) ht] at h2; omega
    · rw [scan_go (by omega) ht] at h2
      by_cases e : j = i
      · rw [e]; exact ht
      · exact ih (i + 1) (by omega) (by omega) j (by omega) h2
/-- what is written, and how long its line is, when i bytes of the value are -/
def st (n v : List By) : Nat → List By × Nat
  | 0 => (n ++ [58, 32], n.length + 2)
  | i + 1 => if tn v i = true ∧ 76 < (st n v i).2 + scan v (i + 1) - i then ((st n v i).1 ++ [13, 10, v.getD i 0], 1) else ((st n v i).1 ++ [v.getD i 0], (st n v i).2 + 1)
def foldB (n v : List By) : List By := (st n v v.length).1 ++ [13, 10]
/-- a value with lines' ends ahead of some of its blanks -/
inductive Fo : List By → List By → Prop
  | nil : Fo [] []
  | byte (c : By) (v L : List By) : sok c = true → Fo v L → Fo (c :: v) (c :: L)
  | fold (c : By) (e v L : List By) : bl c = true → (e = [10] ∨ e = [13, 10]) → Fo v L → Fo (c :: v) (e ++ c :: L)
theorem bl_sok {c : By} (h : bl c = true) : sok c = true := by
  simp only [bl, Bool.or_eq_true, beq_iff_eq] at h
  rcases h with rfl | rfl <;> decide
theorem Fo.snoc {v L : List By} (h : Fo v L) {c : By} (hc : sok c = true) : Fo (v ++ [c]) (L ++ [c]) := by
  induction h with
  | nil => exact .byte c [] [] hc .nil
  | byte d v L hd _ ih => exact .byte d _ _ hd ih
  | fold d e v L hd he _ ih =>
    rw [List.append_assoc, List.cons_append]
    exact .fold d e _ _ hd he ih
theorem Fo.snocF {v L : List By} (h : Fo v L) {c : By} (hc : bl c = true) : Fo (v ++ [c]) (L ++ [13, 10, c]) := by
  induction h with
  | nil => exact .fold c [13, 10] [] [] hc (.inr rfl) .nil
  | byte d v L hd _ ih => exact .byte d _ _ hd ih
  | fold d e v L hd he _ ih =>
    rw [List.append_assoc, List.cons_append]
    exact .fold d e _ _ hd he ih
theorem take_succ_getD (v : List By) {i : Nat} (h : i < v.length) : v.take (i + 1) = v.take i ++ [v.getD i 0] := by
  rw [List.take_add_one, List.getD_eq_getElem?_getD, List.getElem?_eq_getElem h]; rfl
theorem tn_bl {v : List By} {i : Nat} (h : tn v i = true) : bl (v.getD i 0) = true := by
  simp only [tn, Bool.and_eq_true] at h; exact h.2.1
theorem sok_at {v : List By} (h : v.all sok = true) {i : Nat} (hi : i < v.length) : sok (v.getD i 0) = true := by
  rw [List.getD_eq_getElem?_getD, List.getElem?_eq_getElem hi]
  exact List.all_eq_true.1 h _ (List.getElem_mem hi)
theorem st_fo (n v : List By) (hv : v.all sok = true) : ∀ i, i ≤ v.length → ∃ L, (st n v i).1 = n ++ 58 :: L ∧ Fo (32 :: v.take i) L
  | 0, _ => ⟨[32], rfl, .byte 32 [] [] (by decide) .nil⟩
  | i + 1, hi => by
    obtain ⟨L, h1, h2⟩ := st_fo n v hv i (by omega)
    rw [take_succ_getD v (by omega)]
    unfold st
    split
    · next ht => exact ⟨L ++ [13, 10, v.getD i 0], by rw [h1]; simp, h2.snocF (tn_bl ht.1)⟩
    · exact ⟨L ++ [v.getD i 0], by rw [h1]; simp, h2.snoc (sok_at hv (by omega))⟩
theorem fold_fo (n v : List By) (hv : v.all sok = true) : ∃ L, foldB n v = n ++ 58 :: L ++ [13, 10] ∧ Fo (32 :: v) L := by
  obtain ⟨L, h1, h2⟩ := st_fo n v hv v.length (Nat.le_refl _)
  rw [List.take_length] at h2
  exact ⟨L, by rw [foldB, h1], h2⟩
/-! ### lines of a head -/
/-- the bytes up to the first LF -/
def pre10 (b : List By) : List By := b.takeWhile (· != 10)
def chop (l : List By) : List By := if l.getLast? = some 13 then l.dropLast else l
/-- the first line, and what is behind it -/
def cut (b : List By) : Option (List By × List By) := if (pre10 b).length < b.length then some (chop (pre10 b), b.drop ((pre10 b).length + 1)) else none
theorem pre10_le (b : List By) : (pre10 b).length ≤ b.length := by
  unfold pre10
  exact (List.takeWhile_sublist _).length_le
theorem cut_lt {b l r : List By} (h : cut b = some (l, r)) : r.length < b.length := by
  unfold cut at h
  split at h
  · cases h
    rw [List.length_drop]; omega
  · cases h
/-- the lines that go on, from here: what they hold, and what is behind -/
def conts (b : List By) : Option (List By × List By) :=
  if bl (b.getD 0 0) = true ∧ b ≠ [] then
    match h : cut b with
    | none => none
    | some (l, r) => (conts r).map fun q => (l ++ q.1, q.2)
  else some ([], b)
termination_by b.length
decreasing_by exact cut_lt h
/-- how many bytes a head has, its end too -/
def hend (b : List By) : Option Nat :=
  match h : cut b with
  | none => none
  | some (l, r) => if l = [] then some (b.length - r.length) else (hend r).map (· + (b.length - r.length))
termination_by b.length
decreasing_by exact cut_lt h
def trimL (v : List By) : List By := v.dropWhile bl
def trim (v : List By) : List By := (trimL (trimL v).reverse).reverse
/-- fields, k ahead of them; an error's number, or the fields and what is behind -/
def rd (k : Nat) (b : List By) : Except Nat (List (List By × List By) × List By) :=
  match h : cut b with
  | none => .error 3
  | some (l, r) =>
    if l = [] then .ok ([], r)
    else if (l.takeWhile (· != 58)).length = l.length ∨ ¬ nameB (l.takeWhile (· != 58)) = true then .error 3
    else if k = 200 then .error 4
    else match h2 : conts r with
      | none => .error 3
      | some (vs, r') =>
        if 8192 < (trim (l.drop ((l.takeWhile (· != 58)).length + 1) ++ vs)).length then .error 4
        else if ¬ (trim (l.drop ((l.takeWhile (· != 58)).length + 1) ++ vs)).all sok = true then .error 3
        else if hr : r'.length < b.length then (rd (k + 1) r').map fun q => ((l.takeWhile (· != 58), trim (l.drop ((l.takeWhile (· != 58)).length + 1) ++ vs)) :: q.1, q.2)
        else .error 3
termination_by b.length
def readB (b : List By) : Except Nat (List (List By × List By) × List By) :=
  if 65536 < (hend b).getD b.length then .error 4 else rd 0 b
/-! ### a line of known bytes -/
/-- bytes that no line's end has -/
def clean (p : List By) : Prop := ∀ c ∈ p, c ≠ 10 ∧ c ≠ 13
theorem clean.app {p q : List By} (h : clean p) (k : clean q) : clean (p ++ q) := fun c hc => by
  rcases List.mem_append.1 hc with h' | h'
  · exact h c h'
  · exact k c h'
theorem sok_clean {c : By} (h : sok c = true) : clean [c] := by
  intro d hd
  rw [List.mem_singleton] at hd
  subst hd
  refine ⟨?_, ?_⟩ <;> rintro rfl <;> exact absurd h (by decide)
theorem nok_clean {n : List By} (h : n.all nok = true) : clean n := by
  intro c hc
  have := List.all_eq_true.1 h c hc
  refine ⟨?_, ?_⟩ <;> rintro rfl <;> exact absurd this (by decide)
theorem pre10_app {p : List By} (h : ∀ c ∈ p, c ≠ 10) (b : List By) : pre10 (p ++ b) = p ++ pre10 b := by
  unfold pre10
  rw [List.takeWhile_append_of_pos]
  intro c hc
  exact bne_iff_ne.2 (h c hc)
def isE (e : List By) : Prop := e = [10] ∨ e = [13, 10]
theorem chop_clean {p : List By} (h : clean p) : chop p = p := by
  unfold chop
  split
  · next hl => exact absurd rfl ((h 13 (List.mem_of_getLast? hl)).2)
  · rfl
theorem chop_cr (p : List By) : chop (p ++ [13]) = p := by simp [chop]
theorem cut_line {p e b : List By} (hp : clean p) (he : isE e) : cut (p ++ e ++ b) = some (p, b) := by
  rcases he with rfl | rfl
  · have e1 : pre10 (p ++ [10] ++ b) = p := by
      rw [List.append_assoc, pre10_app (fun c hc => (hp c hc).1)]
      simp [pre10]
    unfold cut
    rw [e1, if_pos (by simp only [List.length_append, List.length_singleton]; omega), chop_clean hp]
    congr 2
    rw [List.append_assoc, List.drop_append, List.drop_of_length_le (by omega)]
    simp
  · have e1 : pre10 (p ++ [13, 10] ++ b) = p ++ [13] := by
      rw [List.append_assoc, pre10_app (fun c hc => (hp c hc).1)]
      simp [pre10]
    unfold cut
    rw [e1, if_pos (by simp only [List.length_append, List.length_cons, List.length_nil]; omega), chop_cr]
    congr 2
    rw [List.append_assoc, List.drop_append, List.length_append, List.length_singleton, List.drop_of_length_le (by omega)]
    simp [show p.length + 1 + 1 - p.length = 2 by omega]
theorem cut_none {p : List By} (h : ∀ c ∈ p, c ≠ 10) : cut p = none := by
  have : pre10 p = p := by
    have := pre10_app h []
    simpa [pre10] using this
  unfold cut
  rw [this, if_neg (by omega)]
end Fld
end Go.Proofs.YtchoiikhepjdiaaDoor
