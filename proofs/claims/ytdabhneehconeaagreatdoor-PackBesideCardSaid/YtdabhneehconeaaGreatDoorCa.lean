/-
  Of no statement by itself: the texts FieS, MimS, MimT, LetS, TokS, TokF, TokG, TokH, TokJ, TokK, FieT, ArmS, MimP, MimD, PckA, PckB, Sl, Slb, Slc, Slw, Slx, Sly, Slz, Slu, Slg, Slh, Slk, Slj, Slm in one.
  Conditions: each theorem's own.
-/
import Derived.Deep.Quiet
import Derived.StillTail
import Derived.Below
import Derived.KernelRfl
import Derived.Tactics2
import Derived.Laws.Cells
import Derived.Laws.CopyRow
import Derived.Laws.Rows
import Derived.Laws.AppendOwn
import Derived.Stop.BytesEq
import Derived.Laws.StructEq
import Derived.Laws.MakeOwn
import Derived.Lib.ConvBytes
import Derived.Great.FillDense
set_option linter.unusedSimpArgs false
set_option linter.unusedVariables false
/-
  Of no statement by itself: names and values of fields, folding, and how a head is read: pure; no program stands here.
  Conditions: none but each lemma's own.
-/
namespace Go.Proofs.YtdabhneehconeaaGreatDoor
namespace Fld
abbrev By := BitVec 8
def bl (c : By) : Bool := c == 32 || c == 9
def nok (c : By) : Bool := decide (33 ≤ c.toNat) && decide (c.toNat ≤ 126) && !(c == 58)
def sok (c : By) : Bool := c == 9 || (decide (32 ≤ c.toNat) && decide (c.toNat ≤ 126))
def nameB (s : List By) : Bool := s.all nok && decide (1 ≤ s.length) && decide (s.length ≤ 64)
def valB (s : List By) : Bool := s.all sok && decide (s.length ≤ 8192) && (decide (s.length = 0) || (!bl (s.getD 0 0) && !bl (s.getD (s.length - 1) 0)))
def small (c : By) : By := if 65 ≤ c.toNat ∧ c.toNat ≤ 90 then c + 32 else c
def sameB (a b : List By) : Bool := decide (a.map small = b.map small)
/-! ### names -/
/-! ### folding -/
/-- a blank with none ahead -/
def tn (v : List By) (i : Nat) : Bool := decide (0 < i) && (bl (v.getD i 0) && !bl (v.getD (i - 1) 0))
/-- the next such one, from a place on, or the end -/
def scan (v : List By) (i : Nat) : Nat := if h : i < v.length then (if tn v i then i else scan v (i + 1)) else v.length
termination_by v.length - i
theorem scan_hit {v : List By} {i : Nat} (h : i < v.length) (ht : tn v i = true) : scan v i = i := by rw [scan, dif_pos h, if_pos ht]
theorem scan_go {v : List By} {i : Nat} (h : i < v.length) (ht : ¬ tn v i = true) : scan v i = scan v (i + 1) := by rw [scan, dif_pos h, if_neg ht]
theorem scan_end {v : List By} {i : Nat} (h : ¬ i < v.length) : scan v i = v.length := by rw [scan, dif_neg h]
theorem scan_le (v : List By) : ∀ i, scan v i ≤ v.length := by
  intro i
  generalize hk : v.length - i = k
  induction k generalizing i with
  | zero => rw [scan_end (by omega)]; exact Nat.le_refl _
  | succ k ih =>
    by_cases ht : tn v i = true
    · rw [scan_hit (by omega) ht]; omega
    · rw [scan_go (by omega) ht]; exact ih (i + 1) (by omega)
theorem scan_ge (v : List By) : ∀ i, i ≤ v.length → i ≤ scan v i := by
  intro i hi
  generalize hk : v.length - i = k
  induction k generalizing i with
  | zero => rw [scan_end (by omega)]; exact hi
  | succ k ih =>
    by_cases ht : tn v i = true
    · rw [scan_hit (by omega) ht]; exact Nat.le_refl _
    · rw [scan_go (by omega) ht]
      have := ih (i + 1) (by omega) (by omega)
      omega
theorem scan_tn (v : List By) : ∀ i, i ≤ v.length → scan v i < v.length → tn v (scan v i) = true := by
  intro i hi
  generalize hk : v.length - i = k
  induction k generalizing i with
  | zero => rw [scan_end (by omega)]; intro h; omega
  | succ k ih =>
    by_cases ht : tn v i = true
    · rw [scan_hit (by omega) ht]; intro _; exact ht
    · rw [scan_go (by omega) ht]; exact ih (i + 1) (by omega) (by omega)
/-- none in between -/
theorem scan_no (v : List By) : ∀ i, i ≤ v.length → ∀ j, i ≤ j → j < scan v i → ¬ tn v j = true := by
  intro i hi
  generalize hk : v.length - i = k
  induction k generalizing i with
  | zero => intro j h1 h2; rw [scan_end (by omega)] at h2; omega
  | succ k ih =>
    intro j h1 h2
    by_cases ht : tn v i = true
    · rw [scan_hit (by omega) ht] at h2; omega
    · rw [scan_go (by omega) ht] at h2
      by_cases e : j = i
      · rw [e]; exact ht
      · exact ih (i + 1) (by omega) (by omega) j (by omega) h2
/-- what is written, and how long its line is, when i bytes of the value are -/
def st (n v : List By) : Nat → List By × Nat
  | 0 => (n ++ [58, 32], n.length + 2)
  | i + 1 => if tn v i = true ∧ 76 < (st n v i).2 + scan v (i + 1) - i then ((st n v i).1 ++ [13, 10, v.getD i 0], 1) else ((st n v i).1 ++ [v.getD i 0], (st n v i).2 + 1)
def foldB (n v : List By) : List By := (st n v v.length).1 ++ [13, 10]
/-- a value with lines' ends ahead of some of its blanks -/
inductive Fo : List By → List By → Prop
  | nil : Fo [] []
  | byte (c : By) (v L : List By) : sok c = true → Fo v L → Fo (c :: v) (c :: L)
  | fold (c : By) (e v L : List By) : bl c = true → (e = [10] ∨ e = [13, 10]) → Fo v L → Fo (c :: v) (e ++ c :: L)
theorem bl_sok {c : By} (h : bl c = true) : sok c = true := by
  simp only [bl, Bool.or_eq_true, beq_iff_eq] at h
  rcases h with rfl | rfl <;> decide
theorem Fo.snoc {v L : List By} (h : Fo v L) {c : By} (hc : sok c = true) : Fo (v ++ [c]) (L ++ [c]) := by
  induction h with
  | nil => exact .byte c [] [] hc .nil
  | byte d v L hd _ ih => exact .byte d _ _ hd ih
  | fold d e v L hd he _ ih =>
    rw [List.append_assoc, List.cons_append]
    exact .fold d e _ _ hd he ih
theorem Fo.snocF {v L : List By} (h : Fo v L) {c : By} (hc : bl c = true) : Fo (v ++ [c]) (L ++ [13, 10, c]) := by
  induction h with
  | nil => exact .fold c [13, 10] [] [] hc (.inr rfl) .nil
  | byte d v L hd _ ih => exact .byte d _ _ hd ih
  | fold d e v L hd he _ ih =>
    rw [List.append_assoc, List.cons_append]
    exact .fold d e _ _ hd he ih
theorem take_succ_getD (v : List By) {i : Nat} (h : i < v.length) : v.take (i + 1) = v.take i ++ [v.getD i 0] := by
  rw [List.take_add_one, List.getD_eq_getElem?_getD, List.getElem?_eq_getElem h]; rfl
theorem tn_bl {v : List By} {i : Nat} (h : tn v i = true) : bl (v.getD i 0) = true := by
  simp only [tn, Bool.and_eq_true] at h; exact h.2.1
theorem sok_at {v : List By} (h : v.all sok = true) {i : Nat} (hi : i < v.length) : sok (v.getD i 0) = true := by
  rw [List.getD_eq_getElem?_getD, List.getElem?_eq_getElem hi]
  exact List.all_eq_true.1 h _ (List.getElem_mem hi)
theorem st_fo (n v : List By) (hv : v.all sok = true) : ∀ i, i ≤ v.length → ∃ L, (st n v i).1 = n ++ 58 :: L ∧ Fo (32 :: v.take i) L
  | 0, _ => ⟨[32], rfl, .byte 32 [] [] (by decide) .nil⟩
  | i + 1, hi => by
    obtain ⟨L, h1, h2⟩ := st_fo n v hv i (by omega)
    rw [take_succ_getD v (by omega)]
    unfold st
    split
    · next ht => exact ⟨L ++ [13, 10, v.getD i 0], by rw [h1]; simp, h2.snocF (tn_bl ht.1)⟩
    · exact ⟨L ++ [v.getD i 0], by rw [h1]; simp, h2.snoc (sok_at hv (by omega))⟩
theorem fold_fo (n v : List By) (hv : v.all sok = true) : ∃ L, foldB n v = n ++ 58 :: L ++ [13, 10] ∧ Fo (32 :: v) L := by
  obtain ⟨L, h1, h2⟩ := st_fo n v hv v.length (Nat.le_refl _)
  rw [List.take_length] at h2
  exact ⟨L, by rw [foldB, h1], h2⟩
/-! ### lines of a head -/
/-- the bytes up to the first LF -/
def pre10 (b : List By) : List By := b.takeWhile (· != 10)
def chop (l : List By) : List By := if l.getLast? = some 13 then l.dropLast else l
/-- the first line, and what is behind it -/
def cut (b : List By) : Option (List By × List By) := if (pre10 b).length < b.length then some (chop (pre10 b), b.drop ((pre10 b).length + 1)) else none
theorem cut_lt {b l r : List By} (h : cut b = some (l, r)) : r.length < b.length := by
  unfold cut at h
  split at h
  · cases h
    rw [List.length_drop]; omega
  · cases h
/-- the lines that go on, from here: what they hold, and what is behind -/
def conts (b : List By) : Option (List By × List By) :=
  if bl (b.getD 0 0) = true ∧ b ≠ [] then
    match h : cut b with
    | none => none
    | some (l, r) => (conts r).map fun q => (l ++ q.1, q.2)
  else some ([], b)
termination_by b.length
decreasing_by exact cut_lt h
/-- how many bytes a head has, its end too -/
def hend (b : List By) : Option Nat :=
  match h : cut b with
  | none => none
  | some (l, r) => if l = [] then some (b.length - r.length) else (hend r).map (· + (b.length - r.length))
termination_by b.length
decreasing_by exact cut_lt h
def trimL (v : List By) : List By := v.dropWhile bl
def trim (v : List By) : List By := (trimL (trimL v).reverse).reverse
/-- fields, k ahead of them; an error's number, or the fields and what is behind -/
def rd (k : Nat) (b : List By) : Except Nat (List (List By × List By) × List By) :=
  match h : cut b with
  | none => .error 3
  | some (l, r) =>
    if l = [] then .ok ([], r)
    else if (l.takeWhile (· != 58)).length = l.length ∨ ¬ nameB (l.takeWhile (· != 58)) = true then .error 3
    else if k = 200 then .error 4
    else match h2 : conts r with
      | none => .error 3
      | some (vs, r') =>
        if 8192 < (trim (l.drop ((l.takeWhile (· != 58)).length + 1) ++ vs)).length then .error 4
        else if ¬ (trim (l.drop ((l.takeWhile (· != 58)).length + 1) ++ vs)).all sok = true then .error 3
        else if hr : r'.length < b.length then (rd (k + 1) r').map fun q => ((l.takeWhile (· != 58), trim (l.drop ((l.takeWhile (· != 58)).length + 1) ++ vs)) :: q.1, q.2)
        else .error 3
termination_by b.length
def readB (b : List By) : Except Nat (List (List By × List By) × List By) :=
  if 65536 < (hend b).getD b.length then .error 4 else rd 0 b
/-! ### a line of known bytes -/
/-- bytes that no line's end has -/
def clean (p : List By) : Prop := ∀ c ∈ p, c ≠ 10 ∧ c ≠ 13
theorem clean.app {p q : List By} (h : clean p) (k : clean q) : clean (p ++ q) := fun c hc => by
  rcases List.mem_append.1 hc with h' | h'
  · exact h c h'
  · exact k c h'
theorem sok_clean {c : By} (h : sok c = true) : clean [c] := by
  intro d hd
  rw [List.mem_singleton] at hd
  subst hd
  refine ⟨?_, ?_⟩ <;> rintro rfl <;> exact absurd h (by decide)
theorem nok_clean {n : List By} (h : n.all nok = true) : clean n := by
  intro c hc
  have := List.all_eq_true.1 h c hc
  refine ⟨?_, ?_⟩ <;> rintro rfl <;> exact absurd this (by decide)
theorem pre10_app {p : List By} (h : ∀ c ∈ p, c ≠ 10) (b : List By) : pre10 (p ++ b) = p ++ pre10 b := by
  unfold pre10
  rw [List.takeWhile_append_of_pos]
  intro c hc
  exact bne_iff_ne.2 (h c hc)
def isE (e : List By) : Prop := e = [10] ∨ e = [13, 10]
theorem chop_clean {p : List By} (h : clean p) : chop p = p := by
  unfold chop
  split
  · next hl => exact absurd rfl ((h 13 (List.mem_of_getLast? hl)).2)
  · rfl
theorem chop_cr (p : List By) : chop (p ++ [13]) = p := by simp [chop]
theorem cut_line {p e b : List By} (hp : clean p) (he : isE e) : cut (p ++ e ++ b) = some (p, b) := by
  rcases he with rfl | rfl
  · have e1 : pre10 (p ++ [10] ++ b) = p := by
      rw [List.append_assoc, pre10_app (fun c hc => (hp c hc).1)]
      simp [pre10]
    unfold cut
    rw [e1, if_pos (by simp only [List.length_append, List.length_singleton]; omega), chop_clean hp]
    congr 2
    rw [List.append_assoc, List.drop_append, List.drop_of_length_le (by omega)]
    simp
  · have e1 : pre10 (p ++ [13, 10] ++ b) = p ++ [13] := by
      rw [List.append_assoc, pre10_app (fun c hc => (hp c hc).1)]
      simp [pre10]
    unfold cut
    rw [e1, if_pos (by simp only [List.length_append, List.length_cons, List.length_nil]; omega), chop_cr]
    congr 2
    rw [List.append_assoc, List.drop_append, List.length_append, List.length_singleton, List.drop_of_length_le (by omega)]
    simp [show p.length + 1 + 1 - p.length = 2 by omega]
end Fld
end Go.Proofs.YtdabhneehconeaaGreatDoor

/-
  Of no statement by itself: boundaries, lines and what stands between a boundary's lines; pure; no program stands here.
  Conditions: none but each lemma's own.
-/
namespace Go.Proofs.YtdabhneehconeaaGreatDoor
namespace Mim
open Fld
/-! ### boundaries -/
def bsg : List By := [39, 40, 41, 43, 95, 44, 45, 46, 47, 58, 61, 63]
def bodB (c : By) : Bool := ((decide (48 ≤ c.toNat) && decide (c.toNat ≤ 57)) || (decide (65 ≤ c.toNat) && decide (c.toNat ≤ 90))) || (decide (97 ≤ c.toNat) && decide (c.toNat ≤ 122)) || bsg.any (· == c)
def boundB (s : List By) : Bool := s.all bodB && (decide (1 ≤ s.length) && decide (s.length ≤ 70))
/-! ### lines, and their ends -/
def linR : List By → List By → List (List By × List By)
  | [], x => if x = [] then [] else [(x, [])]
  | c :: r, x => if c = 10 then (if x.getLast? = some 13 then (x.dropLast, [13, 10]) else (x, [10])) :: linR r [] else linR r (x ++ [c])
def linB (b : List By) : List (List By × List By) := linR b []
/-! ### marks -/
/-- without the blanks behind -/
def cutR (s : List By) : List By := (s.reverse.dropWhile bl).reverse
def markB (bd s : List By) : Nat := if cutR s = 45 :: 45 :: bd then 1 else if cutR s = 45 :: 45 :: (bd ++ [45, 45]) then 2 else 0
/-! ### what stands between -/
/-- lines up to the next marked one, joined: what is told, what is left -/
def colR (bd : List By) : List (List By × List By) → List By → List By → List By × List (List By × List By)
  | [], _, o => (o, [])
  | (l, e) :: r, p, o => if markB bd l = 0 then colR bd r e (o ++ p ++ l) else (o, (l, e) :: r)
theorem colR_len (bd : List By) : ∀ (r : List (List By × List By)) (p o : List By), (colR bd r p o).2.length ≤ r.length
  | [], _, _ => Nat.le_refl _
  | (l, e) :: r, p, o => by
    unfold colR
    split
    · exact Nat.le_succ_of_le (colR_len bd r e _)
    · exact Nat.le_refl _
def splL (bd : List By) (r : List (List By × List By)) (out : List (List By)) : Option (List (List By)) :=
  match r with
  | [] => none
  | (l, _) :: r' => if markB bd l = 1 then splL bd (colR bd r' [] []).2 (out ++ [(colR bd r' [] []).1]) else if markB bd l = 2 then some out else none
termination_by r.length
decreasing_by exact Nat.lt_succ_of_le (colR_len bd r' [] [])
def spltB (b bd : List By) : List (List By) × Nat :=
  if boundB bd = false then ([], 1)
  else match splL bd ((linB b).dropWhile fun x => markB bd x.1 != 1) [] with
    | none => ([], 3)
    | some out => (out, 0)
theorem cut_go {s : List By} {n : Nat} (h : n + 1 ≤ s.length) (hb : bl (s.getD n 0) = true) : cutR (s.take (n + 1)) = cutR (s.take n) := by
  have e : s.take (n + 1) = s.take n ++ [s.getD n 0] := by
    rw [List.take_add_one, List.getElem?_eq_getElem (by omega), Option.toList_some, List.getD_eq_getElem?_getD, List.getElem?_eq_getElem (by omega)]
    rfl
  unfold cutR
  rw [e, List.reverse_append, List.reverse_singleton, List.singleton_append, List.dropWhile_cons, if_pos hb]
theorem cut_stop {s : List By} {n : Nat} (h : n + 1 ≤ s.length) (hb : bl (s.getD n 0) = false) : cutR (s.take (n + 1)) = s.take (n + 1) := by
  have e : s.take (n + 1) = s.take n ++ [s.getD n 0] := by
    rw [List.take_add_one, List.getElem?_eq_getElem (by omega), Option.toList_some, List.getD_eq_getElem?_getD, List.getElem?_eq_getElem (by omega)]
    rfl
  unfold cutR
  rw [e, List.reverse_append, List.reverse_singleton, List.singleton_append, List.dropWhile_cons, if_neg (by rw [hb]; decide), List.reverse_cons, List.reverse_reverse]
end Mim
end Go.Proofs.YtdabhneehconeaaGreatDoor

/-
  Of no statement by itself: rows of bytes with a boundary's lines between them come back from Split; pure; no program stands here.
  Conditions: none but each lemma's own.
-/
namespace Go.Proofs.YtdabhneehconeaaGreatDoor
namespace Mim
open Fld
def glue (L : List (List By × List By)) : List By := L.flatMap fun x => x.1 ++ x.2
/-- not begun by two - -/
def nd (l : List By) : Prop := ¬ l.take 2 = [45, 45]
theorem nd_nil : nd [] := by unfold nd; decide
theorem nd_pre {a b : List By} (h : a <+: b) (hb : nd b) : nd a := by
  obtain ⟨t, rfl⟩ := h
  intro e
  refine hb ?_
  have h2 : 2 ≤ a.length := by
    have := congrArg List.length e
    simp only [List.length_take, List.length_cons, List.length_nil] at this
    omega
  rw [List.take_append_of_le_length h2, e]
theorem cutR_pre (s : List By) : cutR s <+: s := by
  have h := List.dropWhile_suffix (l := s.reverse) bl
  have := List.reverse_prefix.2 h
  rwa [List.reverse_reverse] at this
theorem mark_nd {bd s : List By} (h : nd s) : markB bd s = 0 := by
  have hc := nd_pre (cutR_pre s) h
  unfold markB
  rw [if_neg (fun e => hc (by rw [e]; rfl)), if_neg (fun e => hc (by rw [e]; rfl))]
theorem cutR_self {s : List By} (h : ∀ c ∈ s, bl c = false) : cutR s = s := by
  unfold cutR
  cases hr : s.reverse with
  | nil => rw [List.reverse_eq_nil_iff.1 hr]; rfl
  | cons c r =>
    have hc : bl c = false := h c (by rw [← List.mem_reverse, hr]; exact List.mem_cons_self)
    rw [List.dropWhile_cons, if_neg (by rw [hc]; decide), ← hr, List.reverse_reverse]
theorem bod_ok : ∀ c : By, bodB c = true → bl c = false ∧ c ≠ 10 ∧ c ≠ 13 := by
  have h : ∀ c : Fin 256, bodB (BitVec.ofNat 8 c.val) = true → bl (BitVec.ofNat 8 c.val) = false ∧ BitVec.ofNat 8 c.val ≠ 10 ∧ BitVec.ofNat 8 c.val ≠ 13 := by decide +kernel
  intro c
  simpa using h ⟨c.toNat, c.isLt⟩
theorem bound_all {bd : List By} (hb : boundB bd = true) : ∀ c ∈ bd, bodB c = true := by
  unfold boundB at hb
  rw [Bool.and_eq_true] at hb
  exact List.all_eq_true.1 hb.1
theorem dash_ok {bd : List By} (hb : boundB bd = true) : ∀ c ∈ 45 :: 45 :: bd, bl c = false ∧ c ≠ 10 ∧ c ≠ 13 := by
  intro c hc
  simp only [List.mem_cons] at hc
  rcases hc with rfl | rfl | hc
  · decide
  · decide
  · exact bod_ok c (bound_all hb c hc)
theorem dash_ok2 {bd : List By} (hb : boundB bd = true) : ∀ c ∈ 45 :: 45 :: (bd ++ [45, 45]), bl c = false ∧ c ≠ 10 ∧ c ≠ 13 := by
  intro c hc
  simp only [List.mem_cons, List.mem_append, List.not_mem_nil, or_false] at hc
  rcases hc with rfl | rfl | hc | rfl | rfl
  · decide
  · decide
  · exact bod_ok c (bound_all hb c hc)
  · decide
  · decide
theorem mark_one {bd : List By} (hb : boundB bd = true) : markB bd (45 :: 45 :: bd) = 1 := by
  unfold markB
  rw [cutR_self (fun c hc => (dash_ok hb c hc).1), if_pos rfl]
theorem mark_two {bd : List By} (hb : boundB bd = true) : markB bd (45 :: 45 :: (bd ++ [45, 45])) = 2 := by
  unfold markB
  rw [cutR_self (fun c hc => (dash_ok2 hb c hc).1), if_neg (fun e => by have := congrArg List.length e; simp at this), if_pos rfl]
/-! ### lines of what is joined -/
theorem lin_app : ∀ (b r x : List By), linR (b ++ 10 :: r) x = linR (b ++ [10]) x ++ linR r []
  | [], r, x => by simp [linR]
  | c :: b, r, x => by
    simp only [List.cons_append, linR]
    split
    · rw [lin_app b r []]; rfl
    · rw [lin_app b r _]
theorem lin_run : ∀ (a r x : List By), (∀ c ∈ a, c ≠ 10) → linR (a ++ r) x = linR r (x ++ a)
  | [], r, x, _ => by simp
  | c :: a, r, x, h => by
    simp only [List.cons_append, linR]
    rw [if_neg (h c List.mem_cons_self), lin_run a r _ (fun c' hc => h c' (List.mem_cons_of_mem _ hc))]
    simp
theorem lin_line {a : List By} (h : ∀ c ∈ a, c ≠ 10) (r : List By) : linB (a ++ 13 :: 10 :: r) = (a, [13, 10]) :: linB r := by
  unfold linB
  rw [lin_run a _ [] h, List.nil_append]
  simp [linR]
theorem lin_part {D : List By → Prop} (h0 : D []) : ∀ (p x : List By), (∀ q ∈ linR p x, D q.1) → ∃ L l, linR (p ++ [13, 10]) x = L ++ [(l, [13, 10])] ∧ (∀ q ∈ L, D q.1) ∧ D l ∧ x ++ p = glue L ++ l
  | [], x, h => by
    refine ⟨[], x, by simp [linR], by simp, ?_, by simp [glue]⟩
    by_cases e : x = []
    · rw [e]; exact h0
    · exact h (x, []) (by simp [linR, e])
  | c :: p, x, h => by
    by_cases hc : c = 10
    · subst hc
      simp only [linR, if_true] at h
      obtain ⟨L, l, h1, h2, h3, h4⟩ := lin_part h0 p [] (fun q hq => h q (List.mem_cons_of_mem _ hq))
      have h5 := h _ List.mem_cons_self
      simp only [List.nil_append] at h4
      by_cases e : x.getLast? = some 13
      · rw [if_pos e] at h5
        refine ⟨(x.dropLast, [13, 10]) :: L, l, by rw [List.cons_append, linR, if_pos rfl, if_pos e, h1]; rfl, ?_, h3, ?_⟩
        · intro q hq
          rcases List.mem_cons.1 hq with rfl | hq
          · exact h5
          · exact h2 q hq
        · obtain ⟨hx, e2⟩ := List.getLast?_eq_some_iff.1 e
          subst e2
          simp only [glue, List.flatMap_cons, List.dropLast_concat, h4]
          simp
      · rw [if_neg e] at h5
        refine ⟨(x, [10]) :: L, l, by rw [List.cons_append, linR, if_pos rfl, if_neg e, h1]; rfl, ?_, h3, ?_⟩
        · intro q hq
          rcases List.mem_cons.1 hq with rfl | hq
          · exact h5
          · exact h2 q hq
        · simp only [glue, List.flatMap_cons, h4]
          simp
    · simp only [linR, if_neg hc] at h
      obtain ⟨L, l, h1, h2, h3, h4⟩ := lin_part h0 p (x ++ [c]) h
      exact ⟨L, l, by rw [List.cons_append, linR, if_neg hc, h1], h2, h3, by rw [← h4]; simp⟩
/-! ### what is collected -/
theorem col_run {bd : List By} : ∀ (L : List (List By × List By)) (l e p o : List By) (m : List (List By × List By)), (∀ q ∈ L, markB bd q.1 = 0) → markB bd l = 0 → (∀ q ∈ m.head?, markB bd q.1 ≠ 0) → colR bd (L ++ (l, e) :: m) p o = (o ++ p ++ glue L ++ l, m)
  | [], l, e, p, o, m, _, hl, hm => by
    rw [List.nil_append, colR, if_pos hl]
    cases m with
    | nil => simp [colR, glue]
    | cons q m =>
      rw [colR, if_neg (hm q (by simp))]
      simp [glue]
  | (a, ea) :: L, l, e, p, o, m, h, hl, hm => by
    rw [List.cons_append, colR, if_pos (h _ List.mem_cons_self), col_run L l e ea _ m (fun q hq => h q (List.mem_cons_of_mem _ hq)) hl hm]
    simp [glue]
/-- rows with a boundary's lines between -/
def jn (bd : List By) (parts : List (List By)) (behind : List By) : List By := (parts.flatMap fun p => 45 :: 45 :: bd ++ ([13, 10] ++ (p ++ [13, 10]))) ++ (45 :: 45 :: (bd ++ [45, 45]) ++ ([13, 10] ++ behind))
theorem jn_spl {bd : List By} (hb : boundB bd = true) (behind : List By) : ∀ (parts out : List (List By)), parts ≠ [] → (∀ p ∈ parts, ∀ q ∈ linB p, markB bd q.1 = 0) →
    ∃ t, linB (jn bd parts behind) = (45 :: 45 :: bd, [13, 10]) :: t ∧ splL bd (linB (jn bd parts behind)) out = some (out ++ parts)
  | [], _, h, _ => absurd rfl h
  | p :: ps, out, _, hp => by
    obtain ⟨L, l, h1, h2, h3, h4⟩ := lin_part (D := fun q => markB bd q = 0) (mark_nd nd_nil) p [] (hp p List.mem_cons_self)
    have e : linB (jn bd (p :: ps) behind) = (45 :: 45 :: bd, [13, 10]) :: (L ++ (l, [13, 10]) :: linB (jn bd ps behind)) := by
      have e0 : jn bd (p :: ps) behind = (45 :: 45 :: bd) ++ 13 :: 10 :: ((p ++ [13]) ++ 10 :: jn bd ps behind) := by simp [jn]
      rw [e0, lin_line (fun c hc => (dash_ok hb c hc).2.1)]
      unfold linB
      rw [lin_app, show p ++ [13] ++ [10] = p ++ [13, 10] by simp, h1]
      simp
    refine ⟨_, e, ?_⟩
    rw [List.nil_append] at h4
    have hlast : linB (jn bd [] behind) = (45 :: 45 :: (bd ++ [45, 45]), [13, 10]) :: linB behind := by
      have e0 : jn bd [] behind = (45 :: 45 :: (bd ++ [45, 45])) ++ 13 :: 10 :: behind := by simp [jn]
      rw [e0, lin_line (fun c hc => (dash_ok2 hb c hc).2.1)]
    have hm : ∀ q ∈ (linB (jn bd ps behind)).head?, markB bd q.1 ≠ 0 := by
      intro q hq
      cases ps with
      | nil =>
        rw [hlast] at hq
        simp only [List.head?_cons, Option.mem_some_iff] at hq
        subst hq
        rw [mark_two hb]; decide
      | cons p2 ps =>
        obtain ⟨t, ht, _⟩ := jn_spl hb behind (p2 :: ps) [] (by simp) (fun p hp' => hp p (List.mem_cons_of_mem _ hp'))
        rw [ht] at hq
        simp only [List.head?_cons, Option.mem_some_iff] at hq
        subst hq
        rw [mark_one hb]; decide
    rw [e, splL, mark_one hb, if_pos rfl, col_run L l _ [] [] _ h2 h3 hm]
    simp only [List.nil_append, ← h4]
    cases ps with
    | nil => rw [hlast, splL, mark_two hb, if_neg (by decide), if_pos rfl]
    | cons p2 ps =>
      obtain ⟨t, ht, hs⟩ := jn_spl hb behind (p2 :: ps) (out ++ [p]) (by simp) (fun p hp' => hp p (List.mem_cons_of_mem _ hp'))
      rw [hs]
      simp
theorem jn_only {bd behind : List By} {parts : List (List By)} (hb : boundB bd = true) (hne : parts ≠ []) (hP : ∀ p ∈ parts, ∀ q ∈ linB p, markB bd q.1 = 0) : spltB (jn bd parts behind) bd = (parts, 0) := by
  obtain ⟨t, ht, hs⟩ := jn_spl hb behind parts [] hne hP
  unfold spltB
  rw [if_neg (by rw [hb]; decide), ht, List.dropWhile_cons, if_neg (by rw [mark_one hb]; decide), ← ht, hs]
  rfl
end Mim
end Go.Proofs.YtdabhneehconeaaGreatDoor

/-
  Of no statement by itself: a mail's fields of a name: all values, without them, with one of them (layer 11), and what holds between them; no program.
  Conditions: none.
-/
namespace Go.Proofs.YtdabhneehconeaaGreatDoor
namespace Fld
abbrev PrB := List By × List By
def allB (n : List By) (l : List PrB) : List (List By) := (l.filter fun p => sameB p.1 n).map (·.2)
/-! ### as bytes -/
def headB (l : List PrB) : List By := l.flatMap fun p => foldB p.1 p.2
def writeK (l : List PrB) (b : List By) : Nat := if l.all (fun p => nameB p.1 && valB p.2) then (if 200 < l.length ∨ 65536 < (headB l).length + 2 ∨ 2097152 < (headB l).length + 2 + b.length then 4 else 0) else 3
def writeO (l : List PrB) (b : List By) : List By := if writeK l b = 0 then headB l ++ [13, 10] ++ b else []
theorem all_cons (n : List By) (p : PrB) (l : List PrB) : allB n (p :: l) = if sameB p.1 n then p.2 :: allB n l else allB n l := by
  unfold allB
  rw [List.filter_cons]
  split <;> rfl
end Fld
end Go.Proofs.YtdabhneehconeaaGreatDoor

/-
  Of no statement by itself: atoms, values without comments, addresses, ids, parameters: pure; no program stands here.
  Conditions: none but each lemma's own.
-/
namespace Go.Proofs.YtdabhneehconeaaGreatDoor
namespace Tok
open Fld
def inB (c : By) (s : List By) : Bool := s.any fun d => d == c
def spec : List By := [40, 41, 60, 62, 64, 44, 59, 58, 92, 34, 47, 91, 93, 63, 61, 46]
def plainB (c : By) : Bool := decide (33 ≤ c.toNat) && decide (c.toNat ≤ 126) && !inB c spec
def looseB (c : By) : Bool := plainB c || inB c [46, 47, 58, 63]
def atomB (s : List By) : Bool := s.all plainB && decide (0 < s.length)
def simpleB (s : List By) : Bool := s.all looseB && decide (0 < s.length)
/-! ### values without comments -/
/-- from a place on: how deep, inside of a quoted text or not, what is told so far -/
def bareR : List By → Nat → Bool → List By → List By × Nat
  | [], d, q, o => if 0 < d ∨ q = true then ([], 3) else (o, 0)
  | c :: r, d, q, o =>
    if c = 92 ∧ (0 < d ∨ q = true) then
      match r with
      | [] => ([], 3)
      | c2 :: r' => bareR r' d q (if q then o ++ [c, c2] else o)
    else if q then bareR r d (!(c == 34)) (o ++ [c])
    else if c = 40 then (if 9 < d + 1 then ([], 5) else bareR r (d + 1) q o)
    else if c = 41 then (if d = 0 then ([], 3) else bareR r (d - 1) q (if d - 1 = 0 then o ++ [32] else o))
    else if d = 0 then bareR r d (c == 34) (o ++ [c])
    else bareR r d q o
def bareB (s : List By) : List By × Nat := bareR s 0 false []
/-! ### addresses -/
/-- dotted atoms, behind a byte -/
def dotR : List By → By → Bool
  | [], l => !(l == 46)
  | c :: r, l => if (c = 46 ∧ l = 46) ∨ (¬ c = 46 ∧ plainB c = false) then false else dotR r c
def dotB (s : List By) : Bool := dotR s 46
/-- where a byte stands first, or the end -/
def fst (c : By) (s : List By) : Nat := (s.takeWhile fun d => !(d == c)).length
/-- what stands behind the last < -/
def ang (s : List By) : List By := (s.reverse.takeWhile fun d => !(d == 60)).reverse
def addrS (s : List By) : List By × Nat :=
  if fst 64 s = s.length ∨ dotB (s.take (fst 64 s)) = false ∨ dotB (s.drop (fst 64 s + 1)) = false then ([], 3)
  else (s.take (fst 64 s + 1) ++ (s.drop (fst 64 s + 1)).map small, 0)
def addrT (s : List By) : List By × Nat :=
  if 0 < s.length ∧ s.getD (s.length - 1) 0 = 62 then
    (if 60 ∈ s then addrS (trim (ang s.dropLast)) else ([], 3))
  else addrS s
def addrB (s : List By) : List By × Nat := if (bareB s).2 = 0 then addrT (trim (bareB s).1) else ([], (bareB s).2)
/-! ### ids -/
/-- the ids from a place on: none, or those told so far, and the one begun -/
def idsR : List By → List (List By) → Option (List By) → List (List By) × Nat
  | [], o, none => (o, 0)
  | [], _, some _ => ([], 3)
  | c :: r, o, none => if bl c then idsR r o none else if c = 60 then idsR r o (some []) else ([], 3)
  | c :: r, o, some x => if c = 62 then (if x.length = 0 then ([], 3) else idsR r (o ++ [x]) none)
    else if c.toNat < 33 ∨ 126 < c.toNat ∨ c = 60 then ([], 3) else idsR r o (some (x ++ [c]))
def idsB (s : List By) : List (List By) × Nat := if (bareB s).2 = 0 then idsR (bareB s).1 [] none else ([], (bareB s).2)
/-! ### parameters -/
def kindB (s : List By) : Bool := decide (fst 47 s < s.length) && (atomB (s.take (fst 47 s)) && atomB (s.drop (fst 47 s + 1)))
/-- a quoted text's bytes behind its first ", and what stands from its end on -/
def unqR : List By → List By → List By × List By
  | [], o => (o, [])
  | c :: r, o => if c = 34 then (o, c :: r) else if c = 92 then (match r with | [] => (o, []) | c2 :: r' => unqR r' (o ++ [c2])) else unqR r (o ++ [c])
def partB (s : List By) : Option (List By × List By) :=
  if fst 61 s = s.length then none
  else if atomB (trim (s.take (fst 61 s))) = false then none
  else if simpleB (trim (s.drop (fst 61 s + 1))) then some ((trim (s.take (fst 61 s))).map small, trim (s.drop (fst 61 s + 1)))
  else if (trim (s.drop (fst 61 s + 1))).length < 2 ∨ ¬ (trim (s.drop (fst 61 s + 1))).getD 0 0 = 34 then none
  else if (unqR (trim (s.drop (fst 61 s + 1))).tail []).2 = [34] ∧ (unqR (trim (s.drop (fst 61 s + 1))).tail []).1.all sok = true then
    some ((trim (s.take (fst 61 s))).map small, (unqR (trim (s.drop (fst 61 s + 1))).tail []).1)
  else none
/-- the parts between ; outside of quoted texts: those told so far, the one begun -/
def semR : List By → Bool → List By → List (List By)
  | [], _, x => [x]
  | c :: r, q, x =>
    if q = true ∧ c = 92 then
      match r with
      | [] => [x ++ [c]]
      | c2 :: r' => semR r' q (x ++ [c, c2])
    else if c = 34 then semR r (!q) (x ++ [c])
    else if c = 59 ∧ q = false then x :: semR r q []
    else semR r q (x ++ [c])
def semB (s : List By) : List (List By) := semR s false []
def paramsT (s : List By) : List By × List (List By × List By) × Nat :=
  if kindB (trim ((semB s).headD [])) = false then ([], [], 3)
  else match (semB s).tail.mapM partB with
    | none => ([], [], 3)
    | some l => ((trim ((semB s).headD [])).map small, l, 0)
def paramsB (s : List By) : List By × List (List By × List By) × Nat := if (bareB s).2 = 0 then paramsT (bareB s).1 else ([], [], (bareB s).2)
def rightP (k : List By) (l : List (List By × List By)) : Bool :=
  l.all (fun p => atomB p.1 && decide (p.1.map small = p.1) && p.2.all sok) && kindB k && decide (k.map small = k)
def esc (s : List By) : List By := s.flatMap fun c => if c = 34 ∨ c = 92 then [92, c] else [c]
def parW (p : List By × List By) : List By := [59, 32] ++ p.1 ++ [61] ++ (if simpleB p.2 then p.2 else [34] ++ esc p.2 ++ [34])
def writeB (k : List By) (l : List (List By × List By)) : List By := k ++ l.flatMap parW
/-! ### from byte to byte -/
theorem bare_cons (c : Fld.By) (r : List Fld.By) (d : Nat) (q : Bool) (o : List Fld.By) (h : ¬ (c = 92 ∧ (0 < d ∨ q = true))) : bareR (c :: r) d q o = if q then bareR r d (!(c == 34)) (o ++ [c])
    else if c = 40 then (if 9 < d + 1 then ([], 5) else bareR r (d + 1) q o)
    else if c = 41 then (if d = 0 then ([], 3) else bareR r (d - 1) q (if d - 1 = 0 then o ++ [32] else o))
    else if d = 0 then bareR r d (c == 34) (o ++ [c])
    else bareR r d q o := by
  conv => lhs; rw [bareR.eq_def]
  dsimp only
  rw [if_neg h]
theorem bare_q92 (c2 : Fld.By) (r : List Fld.By) (d : Nat) (o : List Fld.By) : bareR (92 :: c2 :: r) d true o = bareR r d true (o ++ [92] ++ [c2]) := by simp [bareR]
theorem bare_q92e (d : Nat) (o : List Fld.By) : bareR [92] d true o = ([], 3) := by simp [bareR]
theorem bare_q {c : Fld.By} (h : ¬ c = 92) (r : List Fld.By) (d : Nat) (o : List Fld.By) : bareR (c :: r) d true o = bareR r d (!(c == 34)) (o ++ [c]) := by rw [bare_cons _ _ _ _ _ (fun k => h k.1), if_pos rfl]
theorem bare_d92 {d : Nat} (h : 0 < d) (c2 : Fld.By) (r : List Fld.By) (o : List Fld.By) : bareR (92 :: c2 :: r) d false o = bareR r d false o := by simp [bareR, h]
theorem bare_d92e {d : Nat} (h : 0 < d) (o : List Fld.By) : bareR [92] d false o = ([], 3) := by simp [bareR, h]
theorem bare_40 (r : List Fld.By) (d : Nat) (o : List Fld.By) : bareR (40 :: r) d false o = if 9 < d + 1 then ([], 5) else bareR r (d + 1) false o := by
  rw [bare_cons _ _ _ _ _ (by rintro ⟨h, _⟩; revert h; decide), if_neg (by decide), if_pos rfl]
theorem bare_41 (r : List Fld.By) (d : Nat) (o : List Fld.By) : bareR (41 :: r) d false o = if d = 0 then ([], 3) else bareR r (d - 1) false (if d - 1 = 0 then o ++ [32] else o) := by
  rw [bare_cons _ _ _ _ _ (by rintro ⟨h, _⟩; revert h; decide), if_neg (by decide), if_neg (by decide), if_pos rfl]
theorem bare_0 {c : Fld.By} (h1 : ¬ c = 40) (h2 : ¬ c = 41) (r : List Fld.By) (o : List Fld.By) : bareR (c :: r) 0 false o = bareR r 0 (c == 34) (o ++ [c]) := by
  rw [bare_cons _ _ _ _ _ (by rintro ⟨_, h | h⟩; exact absurd h (by decide); cases h), if_neg (by decide), if_neg h1, if_neg h2, if_pos rfl]
theorem bare_s {c : Fld.By} {d : Nat} (h0 : ¬ c = 92) (h1 : ¬ c = 40) (h2 : ¬ c = 41) (hd : ¬ d = 0) (r : List Fld.By) (o : List Fld.By) : bareR (c :: r) d false o = bareR r d false o := by
  rw [bare_cons _ _ _ _ _ (fun k => h0 k.1), if_neg (by decide), if_neg h1, if_neg h2, if_neg hd]
theorem bare_end (d : Nat) (q : Bool) (o : List Fld.By) : bareR [] d q o = if (decide ((0 : Int) < (d : Int)) || q) = true then ([], 3) else (o, 0) := by
  rw [bareR]
  congr 1
  rw [Bool.or_eq_true, decide_eq_true_eq]
  exact propext (or_congr (by omega) Iff.rfl)
theorem bare_len : ∀ (n : Nat) (r : List Fld.By) (d : Nat) (q : Bool) (o : List Fld.By), r.length ≤ n → (bareR r d q o).1.length ≤ o.length + r.length := by
  intro n
  induction n with
  | zero =>
    intro r d q o h
    obtain rfl : r = [] := List.eq_nil_of_length_eq_zero (by omega)
    rw [bare_end]
    split <;> simp
  | succ n ih =>
    intro r d q o h
    match r, h with
    | [], _ => rw [bare_end]; split <;> simp
    | c :: r, h =>
      simp only [List.length_cons] at h ⊢
      by_cases h9 : c = 92 ∧ (0 < d ∨ q = true)
      · obtain ⟨rfl, hq⟩ := h9
        match r, h with
        | [], _ =>
          cases q
          · rw [bare_d92e (by simpa using hq)]; simp
          · rw [bare_q92e]; simp
        | c2 :: r, h =>
          simp only [List.length_cons] at h ⊢
          cases q
          · rw [bare_d92 (by simpa using hq)]
            have := ih r d false o (by omega)
            omega
          · rw [bare_q92]
            have := ih r d true (o ++ [92] ++ [c2]) (by omega)
            simp only [List.length_append, List.length_cons, List.length_nil] at this
            omega
      · rw [bare_cons c r d q o h9]
        have h0 := ih r d (!(c == 34)) (o ++ [c]) (by omega)
        have h1 := ih r (d + 1) q o (by omega)
        have h2 := ih r (d - 1) q (if d - 1 = 0 then o ++ [32] else o) (by omega)
        have h3 := ih r d (c == 34) (o ++ [c]) (by omega)
        have h4 := ih r d q o (by omega)
        have h5 : (if d - 1 = 0 then o ++ [32] else o).length ≤ o.length + 1 := by split <;> simp
        simp only [List.length_append, List.length_cons, List.length_nil] at h0 h3
        generalize (if d - 1 = 0 then o ++ [32] else o) = o2 at h2 h5 ⊢
        split
        · omega
        split
        · split
          · simp
          · omega
        split
        · split
          · simp
          · omega
        split
        · omega
        · omega
theorem bareB_len (s : List Fld.By) : (bareB s).1.length ≤ s.length := by
  have := bare_len s.length s 0 false [] (Nat.le_refl _)
  simp only [List.length_nil, Nat.zero_add] at this
  exact this
end Tok
end Go.Proofs.YtdabhneehconeaaGreatDoor

/-
  Of no statement by itself: a value that is told bare is told the same again; pure; no program stands here.
  Conditions: none but each lemma's own.
-/
namespace Go.Proofs.YtdabhneehconeaaGreatDoor
namespace Tok
open Fld
/-- what was told so far tells itself, up to whether a quoted text is open -/
def Inv (o : List By) (q : Bool) : Prop := ∀ r : List By, bareR (o ++ r) 0 false [] = bareR r 0 q o
theorem Inv.q {o : List By} {c : By} (h : Inv o true) (hc : ¬ c = 92) : Inv (o ++ [c]) (!(c == 34)) := fun r => by
  rw [List.append_assoc, h, List.singleton_append, bare_q hc]
theorem Inv.n {o : List By} {c : By} (h : Inv o false) (h1 : ¬ c = 40) (h2 : ¬ c = 41) : Inv (o ++ [c]) (c == 34) := fun r => by
  rw [List.append_assoc, h, List.singleton_append, bare_0 h1 h2]
end Tok
end Go.Proofs.YtdabhneehconeaaGreatDoor

/-
  Of no statement by itself: an address that is told is told again; pure; no program stands here.
  Conditions: none but each lemma's own.
-/
namespace Go.Proofs.YtdabhneehconeaaGreatDoor
namespace Tok
open Fld
theorem byte_all (p : By → Bool) (h : ∀ c : Fin 256, p (BitVec.ofNat 8 c.val) = true) (c : By) : p c = true := by simpa using h ⟨c.toNat, c.isLt⟩
theorem plain_small (c : By) : plainB (small c) = plainB c ∧ ((small c = 46) ↔ (c = 46)) ∧ small (small c) = small c := by
  have := byte_all (fun c => (plainB (small c) == plainB c) && (decide (small c = 46) == decide (c = 46)) && decide (small (small c) = small c)) (by decide +kernel) c
  simpa [Bool.and_eq_true, and_assoc] using this
def good (c : By) : Bool := c == 46 || plainB c || c == 64
theorem dot_not (c : By) (h : c = 46 ∨ plainB c = true) : good c = true ∧ ¬ c = 64 := by
  have := byte_all (fun c => !(decide (c = 46) || plainB c) || (good c && !decide (c = 64))) (by decide +kernel) c
  rw [show (decide (c = 46) || plainB c) = true by simpa using h] at this
  simpa using this
theorem dot_all : ∀ (s : List By) (l : By), dotR s l = true → ∀ c ∈ s, c = 46 ∨ plainB c = true
  | [], _, _, c, hc => by cases hc
  | d :: r, l, h, c, hc => by
    rw [dotR] at h
    split at h
    · cases h
    · next hn =>
      rcases List.mem_cons.1 hc with rfl | hc
      · by_cases h4 : c = 46
        · exact .inl h4
        · right
          cases hp : plainB c
          · exact absurd (Or.inr ⟨h4, hp⟩) hn
          · rfl
      · exact dot_all r d h c hc
theorem take_at {p r : List By} {c : By} {k : Nat} {u : List By} (hu : u = p ++ c :: r) (hk : p.length = k) : u.take (k + 1) = p ++ [c] := by
  subst hu hk
  rw [show p.length + 1 = (p ++ [c]).length by simp, show p ++ c :: r = (p ++ [c]) ++ r by simp, List.take_left]
theorem fst_spec {c : By} : ∀ (u : List By), fst c u < u.length → u = u.take (fst c u) ++ c :: u.drop (fst c u + 1)
  | [], h => by simp at h
  | d :: r, h => by
    by_cases hd : d = c
    · subst hd
      have : fst d (d :: r) = 0 := by
        unfold fst
        rw [List.takeWhile_cons, if_neg (by simp)]; rfl
      rw [this]
      rfl
    · have e : fst c (d :: r) = fst c r + 1 := by
        unfold fst
        rw [List.takeWhile_cons, if_pos (by simpa using hd)]; rfl
      rw [e] at h ⊢
      rw [List.take_succ_cons, List.drop_succ_cons, List.cons_append, ← fst_spec r (by simpa using h)]
end Tok
end Go.Proofs.YtdabhneehconeaaGreatDoor

/-
  Of no statement by itself: ids with blanks and comments between are read as they stand; pure; no program stands here.
  Conditions: none but each lemma's own.
-/
namespace Go.Proofs.YtdabhneehconeaaGreatDoor
namespace Tok
open Fld
def idok (c : By) : Bool := decide (33 ≤ c.toNat) && (decide (c.toNat ≤ 126) && (!(c == 60) && (!(c == 62) && (!(c == 40) && (!(c == 41) && (!(c == 34) && !(c == 92)))))))
end Tok
end Go.Proofs.YtdabhneehconeaaGreatDoor

/-
  Of no statement by itself: what is written of a kind and parameters holds no comment; pure; no program stands here.
  Conditions: none but each lemma's own.
-/
namespace Go.Proofs.YtdabhneehconeaaGreatDoor
namespace Tok
open Fld
end Tok
end Go.Proofs.YtdabhneehconeaaGreatDoor

/-
  Of no statement by itself: what is written of a kind and parameters is read as these, blanks ahead and behind; pure; no program stands here.
  Conditions: none but each lemma's own.
-/
namespace Go.Proofs.YtdabhneehconeaaGreatDoor
namespace Tok
open Fld
/-- a part as it is written, behind its ; -/
def parT (p : List By × List By) : List By := [32] ++ p.1 ++ [61] ++ (if simpleB p.2 then p.2 else [34] ++ esc p.2 ++ [34])
def glue (x : List By) : List (List By × List By) → List By → List (List By)
  | [], r => [x ++ r]
  | p :: l, r => x :: glue (parT p) l r
end Tok
end Go.Proofs.YtdabhneehconeaaGreatDoor

/-
  Of no statement by itself: right fields are read from their lines, however they are folded; no beginning of a head is one: pure; no program stands here.
  Conditions: none but each lemma's own.
-/
namespace Go.Proofs.YtdabhneehconeaaGreatDoor
namespace Fld
theorem conts_no {b : List By} (h : b = [] ∨ bl (b.getD 0 0) = false) : conts b = some ([], b) := by
  rw [conts, if_neg]
  rintro ⟨h1, h2⟩
  rcases h with h | h
  · exact h2 h
  · rw [h] at h1; cases h1
theorem conts_some {b l r : List By} (hb : bl (b.getD 0 0) = true ∧ b ≠ []) (h : cut b = some (l, r)) : conts b = (conts r).map fun q => (l ++ q.1, q.2) := by
  rw [conts, if_pos hb]
  split
  · next h' => rw [h] at h'; cases h'
  · next l' r' h' => rw [h] at h'; cases h'; rfl
theorem hend_end {b r : List By} (h : cut b = some ([], r)) : hend b = some (b.length - r.length) := by
  rw [hend]
  split
  · next h' => rw [h] at h'; cases h'
  · next l' r' h' => rw [h] at h'; cases h'; rw [if_pos rfl]
theorem hend_go {b l r : List By} (h : cut b = some (l, r)) (hl : l ≠ []) : hend b = (hend r).map (· + (b.length - r.length)) := by
  rw [hend]
  split
  · next h' => rw [h] at h'; cases h'
  · next l' r' h' => rw [h] at h'; cases h'; rw [if_neg hl]
theorem rd_end {k : Nat} {b r : List By} (h : cut b = some ([], r)) : rd k b = .ok ([], r) := by
  rw [rd]
  split
  · next h' => rw [h] at h'; cases h'
  · next l' r' h' => rw [h] at h'; cases h'; rw [if_pos rfl]
theorem takeWhile_name {n : List By} (h : n.all nok = true) (l : List By) : (n ++ 58 :: l).takeWhile (· != 58) = n := by
  rw [List.takeWhile_append_of_pos]
  · simp
  · intro c hc
    have := List.all_eq_true.1 h c hc
    simp only [nok, Bool.and_eq_true] at this
    simpa using this.2
theorem rd_line {k : Nat} {b n l r : List By} (h : cut b = some (n ++ 58 :: l, r)) (hn : nameB n = true) (hk : k ≠ 200) :
    rd k b = (match conts r with
      | none => .error 3
      | some (vs, r') => if 8192 < (trim (l ++ vs)).length then .error 4 else if ¬ (trim (l ++ vs)).all sok = true then .error 3 else if r'.length < b.length then (rd (k + 1) r').map fun q => ((n, trim (l ++ vs)) :: q.1, q.2) else .error 3) := by
  have hn1 : n.all nok = true := by simp only [nameB, Bool.and_eq_true] at hn; exact hn.1.1
  rw [rd]
  split
  · next h' => rw [h] at h'; cases h'
  · next l' r2 h' =>
    rw [h] at h'
    cases h'
    have e2 : (n ++ 58 :: l).drop (n.length + 1) = l := by rw [List.drop_append, List.drop_of_length_le (by omega)]; simp
    rw [if_neg (by simp), takeWhile_name hn1, if_neg (by simp [hn]), if_neg hk, e2]
    split
    · next hc => simp only [hc]
    · next vs r' hc =>
      simp only [hc]
      split
      · rfl
      · split
        · rfl
        · split
          · rfl
          · rfl
/-! ### a field's lines -/
theorem fo_lines {u L : List By} (h : Fo u L) : ∀ p e T, clean p → isE e → (T = [] ∨ bl (T.getD 0 0) = false) → ∃ l' r vs, cut (p ++ L ++ e ++ T) = some (p ++ l', r) ∧ conts r = some (vs, T) ∧ l' ++ vs = u := by
  induction h with
  | nil =>
    intro p e T hp he hT
    refine ⟨[], T, [], ?_, conts_no hT, rfl⟩
    rw [List.append_nil, cut_line hp he]
  | byte c v L hc _ ih =>
    intro p e T hp he hT
    obtain ⟨l', r, vs, h1, h2, h3⟩ := ih (p ++ [c]) e T (hp.app (sok_clean hc)) he hT
    refine ⟨c :: l', r, vs, ?_, h2, by rw [← h3]; rfl⟩
    simpa using h1
  | fold c e1 v L hc he1 _ ih =>
    intro p e T hp he hT
    obtain ⟨l', r, vs, h1, h2, h3⟩ := ih [c] e T (sok_clean (bl_sok hc)) he hT
    refine ⟨[], c :: L ++ e ++ T, c :: v, ?_, ?_, rfl⟩
    · have := cut_line (b := c :: L ++ e ++ T) hp he1
      simpa using this
    · have e2 : c :: L ++ e ++ T = [c] ++ L ++ e ++ T := by simp
      rw [e2, conts_some ⟨by simpa using hc, by simp⟩ h1, h2, ← h3]
      simp
theorem fo_hend {u L : List By} (h : Fo u L) : ∀ p e T, clean p → p ≠ [] → isE e → hend (p ++ L ++ e ++ T) = (hend T).map (· + (p ++ L ++ e).length) := by
  induction h with
  | nil =>
    intro p e T hp h0 he
    rw [List.append_nil, hend_go (cut_line hp he) h0]
    congr 1
    funext x
    simp only [List.length_append]
    omega
  | byte c v L hc _ ih =>
    intro p e T hp h0 he
    have := ih (p ++ [c]) e T (hp.app (sok_clean hc)) (by simp) he
    simpa [Nat.add_assoc, Nat.add_comm, Nat.add_left_comm] using this
  | fold c e1 v L hc he1 _ ih =>
    intro p e T hp h0 he
    have h1 := cut_line (b := [c] ++ L ++ e ++ T) hp he1
    have e2 : p ++ (e1 ++ c :: L) ++ e ++ T = p ++ e1 ++ ([c] ++ L ++ e ++ T) := by simp
    rw [e2, hend_go h1 h0, ih [c] e T (sok_clean (bl_sok hc)) (by simp) he, Option.map_map]
    congr 1
    funext x
    simp only [Function.comp, List.length_append, List.length_cons, List.length_nil]
    omega
theorem dropWhile_none {v : List By} (h : v = [] ∨ bl (v.getD 0 0) = false) : trimL v = v := by
  unfold trimL
  cases v with
  | nil => rfl
  | cons c v =>
    rcases h with h | h
    · cases h
    · simp only [List.getD_cons_zero] at h
      rw [List.dropWhile_cons, h]; rfl
theorem valB_parts {v : List By} (h : valB v = true) : v.all sok = true ∧ v.length ≤ 8192 ∧ (v = [] ∨ (bl (v.getD 0 0) = false ∧ bl (v.getD (v.length - 1) 0) = false)) := by
  simp only [valB, Bool.and_eq_true, decide_eq_true_eq, Bool.or_eq_true, Bool.not_eq_true', List.length_eq_zero_iff] at h
  exact ⟨h.1.1, h.1.2, h.2⟩
theorem trim_val {v : List By} (h : valB v = true) : trim (32 :: v) = v := by
  obtain ⟨_, _, h3⟩ := valB_parts h
  have e1 : trimL (32 :: v) = v := by
    show (32 :: v).dropWhile bl = v
    rw [List.dropWhile_cons, if_pos (by decide)]
    exact dropWhile_none (h3.imp_right (·.1))
  unfold trim
  rw [e1, dropWhile_none, List.reverse_reverse]
  rcases h3 with rfl | ⟨_, h4⟩
  · exact .inl rfl
  · refine .inr ?_
    by_cases h0 : v = []
    · subst h0; exact h4
    · have hp := List.length_pos_iff.2 h0
      rw [List.getD_eq_getElem?_getD] at h4 ⊢
      rw [List.getElem?_reverse hp]
      exact h4
theorem name_parts {n : List By} (h : nameB n = true) : n.all nok = true ∧ n ≠ [] ∧ n.length ≤ 64 := by
  simp only [nameB, Bool.and_eq_true, decide_eq_true_eq] at h
  exact ⟨h.1.1, List.length_pos_iff.1 (by omega), h.2⟩
theorem rd_field {n v L e T : List By} {k : Nat} (hn : nameB n = true) (hv : valB v = true) (hf : Fo (32 :: v) L) (he : isE e) (hT : T = [] ∨ bl (T.getD 0 0) = false) (hk : k < 200) :
    rd k (n ++ 58 :: L ++ e ++ T) = (rd (k + 1) T).map fun q => ((n, v) :: q.1, q.2) := by
  obtain ⟨h1, h2, h3⟩ := valB_parts hv
  have hp : clean (n ++ [58]) := (nok_clean (name_parts hn).1).app (by intro c hc; rw [List.mem_singleton] at hc; subst hc; decide)
  obtain ⟨l', r, vs, c1, c2, c3⟩ := fo_lines hf (n ++ [58]) e T hp he hT
  have e1 : n ++ 58 :: L ++ e ++ T = n ++ [58] ++ L ++ e ++ T := by simp
  rw [e1, rd_line (l := l') (r := r) (by rw [c1]; simp) hn (by omega), c2]
  simp only [c3, trim_val hv]
  rw [if_neg (by omega), if_neg (by simp [h1]), if_pos (by simp only [List.length_append, List.length_cons]; omega)]
/-- fields as lines -/
inductive Hd : List (List By × List By) → List By → Prop
  | nil : Hd [] []
  | cons (n v L e : List By) (fs : List (List By × List By)) (H : List By) : nameB n = true → valB v = true → Fo (32 :: v) L → isE e → Hd fs H → Hd ((n, v) :: fs) (n ++ 58 :: L ++ e ++ H)
theorem nok_bl {c : By} (h : nok c = true) : bl c = false := by
  cases hb : bl c with
  | false => rfl
  | true =>
    simp only [bl, Bool.or_eq_true, beq_iff_eq] at hb
    rcases hb with rfl | rfl <;> exact absurd h (by decide)
theorem name_head {n : List By} (h : nameB n = true) (X : List By) : bl ((n ++ X).getD 0 0) = false := by
  obtain ⟨h1, h2, _⟩ := name_parts h
  cases n with
  | nil => exact absurd rfl h2
  | cons c n =>
    simp only [List.cons_append, List.getD_cons_zero]
    exact nok_bl (List.all_eq_true.1 h1 c (by simp))
theorem isE_head {e : List By} (h : isE e) (X : List By) : bl ((e ++ X).getD 0 0) = false := by
  rcases h with rfl | rfl <;> rfl
theorem hd_head {fs : List (List By × List By)} {H e : List By} (h : Hd fs H) (he : isE e) (R : List By) : bl ((H ++ e ++ R).getD 0 0) = false := by
  cases h with
  | nil => simpa using isE_head he R
  | cons n v L e1 fs H hn hv hf he1 hh =>
    have := name_head hn (58 :: L ++ e1 ++ H ++ e ++ R)
    simpa using this
theorem rd_head {fs : List (List By × List By)} {H e : List By} (h : Hd fs H) (he : isE e) (R : List By) : ∀ k, k + fs.length ≤ 200 → rd k (H ++ e ++ R) = .ok (fs, R) := by
  induction h with
  | nil =>
    intro k _
    have := cut_line (p := []) (b := R) (fun _ h => by cases h) he
    exact rd_end (by simpa using this)
  | cons n v L e1 fs H hn hv hf he1 hh ih =>
    intro k hk
    simp only [List.length_cons] at hk
    have := rd_field (T := H ++ e ++ R) (k := k) hn hv hf he1 (.inr (hd_head hh he R)) (by omega)
    rw [show n ++ 58 :: L ++ e1 ++ H ++ e ++ R = n ++ 58 :: L ++ e1 ++ (H ++ e ++ R) by simp, this, ih (k + 1) (by omega)]
    rfl
theorem hend_head {fs : List (List By × List By)} {H e : List By} (h : Hd fs H) (he : isE e) (R : List By) : hend (H ++ e ++ R) = some (H.length + e.length) := by
  induction h with
  | nil =>
    have := cut_line (p := []) (b := R) (fun _ h => by cases h) he
    rw [hend_end (r := R) (by simpa using this)]
    simp
  | cons n v L e1 fs H hn hv hf he1 hh ih =>
    have hp : clean (n ++ [58]) := (nok_clean (name_parts hn).1).app (by intro c hc; rw [List.mem_singleton] at hc; subst hc; decide)
    have := fo_hend hf (n ++ [58]) e1 (H ++ e ++ R) hp (by simp) he1
    rw [show n ++ 58 :: L ++ e1 ++ H ++ e ++ R = n ++ [58] ++ L ++ e1 ++ (H ++ e ++ R) by simp, this, ih]
    simp only [Option.map_some, List.length_append, List.length_cons, List.length_nil]
    congr 1
    omega
theorem read_head {fs : List (List By × List By)} {H e : List By} (h : Hd fs H) (he : isE e) (R : List By) (h1 : fs.length ≤ 200) (h2 : H.length + e.length ≤ 65536) : readB (H ++ e ++ R) = .ok (fs, R) := by
  unfold readB
  rw [hend_head h he R, Option.getD_some, if_neg (by omega), rd_head h he R 0 (by omega)]
/-! ### beginnings -/
end Fld
end Go.Proofs.YtdabhneehconeaaGreatDoor

/-
  Of no statement by itself: bytes as signs (base64) by groups of three, and bit by bit; bytes back from signs; lines of signs; blanks struck out; no program stands here.
  Conditions: none but each lemma's own.
-/
namespace Go.Proofs.YtdabhneehconeaaGreatDoor
namespace Arm
abbrev By := BitVec 8
def sgL : List By := [65, 66, 67, 68, 69, 70, 71, 72, 73, 74, 75, 76, 77, 78, 79, 80, 81, 82, 83, 84, 85, 86, 87, 88, 89, 90, 97, 98, 99, 100, 101, 102, 103, 104, 105, 106, 107, 108, 109, 110, 111, 112, 113, 114, 115, 116, 117, 118, 119, 120, 121, 122, 48, 49, 50, 51, 52, 53, 54, 55, 56, 57, 43, 47]
def sg (n : Nat) : By := sgL.getD n 0
/-- bytes as signs, three by three -/
def encB : List By → List By
  | [] => []
  | [a] => [sg (a.toNat / 4), sg (a.toNat % 4 * 16), 61, 61]
  | [a, b] => [sg (a.toNat / 4), sg (a.toNat % 4 * 16 + b.toNat / 16), sg (b.toNat % 16 * 4), 61]
  | a :: b :: c :: r => sg (a.toNat / 4) :: sg (a.toNat % 4 * 16 + b.toNat / 16) :: sg (b.toNat % 16 * 4 + c.toNat / 64) :: sg (c.toNat % 64) :: encB r
theorem encB3 (a b c : By) (r : List By) : encB (a :: b :: c :: r) = sg (a.toNat / 4) :: sg (a.toNat % 4 * 16 + b.toNat / 16) :: sg (b.toNat % 16 * 4 + c.toNat / 64) :: sg (c.toNat % 64) :: encB r := by rw [encB]
/-- a row by threes -/
theorem by3 {p : List By → Prop} (h0 : p []) (h1 : ∀ a, p [a]) (h2 : ∀ a b, p [a, b]) (h3 : ∀ a b c r, p r → p (a :: b :: c :: r)) : ∀ l, p l
  | [] => h0
  | [a] => h1 a
  | [a, b] => h2 a b
  | a :: b :: c :: r => h3 a b c r (by3 h0 h1 h2 h3 r)
theorem encB_len (l : List By) : (encB l).length = (l.length + 2) / 3 * 4 := by
  refine by3 (p := fun l => (encB l).length = (l.length + 2) / 3 * 4) (by simp [encB]) (fun _ => by simp [encB]) (fun _ _ => by simp [encB]) (fun a b c r h => ?_) l
  rw [encB3]
  show (encB r).length + 4 = (r.length + 3 + 2) / 3 * 4
  omega
/-! ### bits -/
def b8 (x : Nat) : List Nat := [x / 128 % 2, x / 64 % 2, x / 32 % 2, x / 16 % 2, x / 8 % 2, x / 4 % 2, x / 2 % 2, x % 2]
def b6 (x : Nat) : List Nat := [x / 32 % 2, x / 16 % 2, x / 8 % 2, x / 4 % 2, x / 2 % 2, x % 2]
def val : List Nat → Nat := List.foldl (fun n b => 2 * n + b) 0
/-- groups of six as signs -/
def sx : List Nat → List By
  | a :: b :: c :: d :: e :: f :: r => sg (val [a, b, c, d, e, f]) :: sx r
  | _ => []
/-- groups of eight as bytes -/
def oc : List Nat → List By
  | a :: b :: c :: d :: e :: f :: g :: h :: r => BitVec.ofNat 8 (val [a, b, c, d, e, f, g, h]) :: oc r
  | _ => []
theorem oc8 (a b c d e f g h : Nat) (r : List Nat) : oc (a :: b :: c :: d :: e :: f :: g :: h :: r) = BitVec.ofNat 8 (val [a, b, c, d, e, f, g, h]) :: oc r := by rw [oc]
/-! ### back -/
/-- the bits of a sign: none of what is no sign -/
def dx (c : By) (n : Nat) : List Nat := (List.range n).flatMap fun m => if sg m = c then b6 m else []
def d6 (s : List By) : List Nat := s.flatMap fun c => dx c 64
theorem dx_sg : ∀ m : Fin 64, dx (sg m.val) 64 = b6 m.val := by decide +kernel
theorem dx_eq : dx 61 64 = [] := by decide +kernel
theorem d6_cons (c : By) (s : List By) : d6 (c :: s) = dx c 64 ++ d6 s := rfl
theorem d6_sg {m : Nat} (h : m < 64) (s : List By) : d6 (sg m :: s) = b6 m ++ d6 s := by
  rw [d6_cons, dx_sg ⟨m, h⟩]
theorem d6_61 (s : List By) : d6 (61 :: s) = d6 s := by rw [d6_cons, dx_eq]; rfl
theorem v1 {p x : Nat} (hp : p < 64) (hx : x < 64) : val [p / 32 % 2, p / 16 % 2, p / 8 % 2, p / 4 % 2, p / 2 % 2, p % 2, x / 32 % 2, x / 16 % 2] = p * 4 + x / 16 := by
  simp only [val, List.foldl]; omega
theorem v2 {x y : Nat} (_hx : x < 64) (hy : y < 64) : val [x / 8 % 2, x / 4 % 2, x / 2 % 2, x % 2, y / 32 % 2, y / 16 % 2, y / 8 % 2, y / 4 % 2] = x % 16 * 16 + y / 4 := by
  simp only [val, List.foldl]; omega
theorem v3 {y z : Nat} (_hy : y < 64) (hz : z < 64) : val [y / 2 % 2, y % 2, z / 32 % 2, z / 16 % 2, z / 8 % 2, z / 4 % 2, z / 2 % 2, z % 2] = y % 4 * 64 + z := by
  simp only [val, List.foldl]; omega
theorem of8 {n : Nat} {a : By} (h : n = a.toNat) : BitVec.ofNat 8 n = a := by rw [h, BitVec.ofNat_toNat, BitVec.setWidth_eq]
theorem oc_enc (l : List By) : oc (d6 (encB l)) = l := by
  refine by3 (p := fun l => oc (d6 (encB l)) = l) (by simp [encB, d6, oc]) (fun a => ?_) (fun a b => ?_) (fun a b c r h => ?_) l
  · have ha := a.isLt
    rw [encB, d6_sg (by omega), d6_sg (by omega), d6_61, d6_61]
    generalize hp : a.toNat / 4 = p
    generalize hx : a.toNat % 4 * 16 = x
    show oc [p / 32 % 2, p / 16 % 2, p / 8 % 2, p / 4 % 2, p / 2 % 2, p % 2, x / 32 % 2, x / 16 % 2, x / 8 % 2, x / 4 % 2, x / 2 % 2, x % 2] = _
    rw [oc8, show ∀ x y z w : Nat, oc [x, y, z, w] = [] from fun _ _ _ _ => by simp [oc], v1 (by omega) (by omega), of8 (a := a) (by omega)]
  · have ha := a.isLt
    have hb := b.isLt
    rw [encB, d6_sg (by omega), d6_sg (by omega), d6_sg (by omega), d6_61]
    generalize hp : a.toNat / 4 = p
    generalize hx : a.toNat % 4 * 16 + b.toNat / 16 = x
    generalize hy : b.toNat % 16 * 4 = y
    show oc [p / 32 % 2, p / 16 % 2, p / 8 % 2, p / 4 % 2, p / 2 % 2, p % 2, x / 32 % 2, x / 16 % 2, x / 8 % 2, x / 4 % 2, x / 2 % 2, x % 2, y / 32 % 2, y / 16 % 2, y / 8 % 2, y / 4 % 2, y / 2 % 2, y % 2] = _
    rw [oc8, oc8, show ∀ x y : Nat, oc [x, y] = [] from fun _ _ => by simp [oc], v1 (by omega) (by omega), v2 (by omega) (by omega), of8 (a := a) (by omega), of8 (a := b) (by omega)]
  · have ha := a.isLt
    have hb := b.isLt
    have hc := c.isLt
    rw [encB3, d6_sg (by omega), d6_sg (by omega), d6_sg (by omega), d6_sg (by omega)]
    generalize hp : a.toNat / 4 = p
    generalize hx : a.toNat % 4 * 16 + b.toNat / 16 = x
    generalize hy : b.toNat % 16 * 4 + c.toNat / 64 = y
    generalize hz : c.toNat % 64 = z
    simp only [b6, List.cons_append, List.nil_append]
    rw [oc8, oc8, oc8, v1 (by omega) (by omega), v2 (by omega) (by omega), v3 (by omega) (by omega), of8 (a := a) (by omega), of8 (a := b) (by omega), of8 (a := c) (by omega), h]
/-- the bytes whose signs these are -/
def decB (s : List By) : Option (List By) := if encB (oc (d6 s)) = s then some (oc (d6 s)) else none
theorem decB_enc (l : List By) : decB (encB l) = some l := by
  unfold decB
  rw [oc_enc, if_pos rfl]
theorem decB_some {s l : List By} (h : decB s = some l) : encB l = s := by
  unfold decB at h
  split at h
  · next e => cases h; exact e
  · cases h
theorem decB_iff {s l : List By} : decB s = some l ↔ encB l = s := ⟨decB_some, fun h => h ▸ decB_enc l⟩
theorem decB_none {s : List By} (h : ∀ l, encB l ≠ s) : decB s = none := by
  cases e : decB s with
  | none => rfl
  | some l => exact absurd (decB_some e) (h l)
/-! ### lines -/
def lnB (s : List By) : Nat → List By
  | 0 => []
  | i + 1 => lnB s i ++ s.getD i 0 :: (if i % 76 = 75 ∨ i + 1 = s.length then [13, 10] else [])
def linesB (l : List By) : List By := lnB (encB l) (encB l).length
def blank (c : By) : Bool := c == 32 || c == 9 || c == 13 || c == 10
def bare (l : List By) : List By := l.filter fun c => !blank c
/-- how far the line has come -/
def far (n : Nat) (c : By) : Nat := if c = 10 then 0 else n + 1
theorem lnB_len (s : List By) : ∀ i, (lnB s i).length ≤ 3 * i
  | 0 => Nat.le_refl _
  | i + 1 => by
    have := lnB_len s i
    rw [lnB, List.length_append]
    split <;> simp only [List.length_cons, List.length_nil] <;> omega
end Arm
end Go.Proofs.YtdabhneehconeaaGreatDoor

/-
  Of no statement by itself: parts in one another: what a head and a body tell, the mail of a part, and that what is written is read as the part; pure; no program stands here. Layer 7's two functions are variables (Qd reads, Qe writes).
  Conditions: none but each lemma's own.
-/
namespace Go.Proofs.YtdabhneehconeaaGreatDoor
namespace Mim
open Fld Tok
inductive Part where
  | mk (kind : List By) (ps : List PrB) (code : Int) (body : List By) (parts : List Part)
instance : Inhabited Part := ⟨.mk [] [] 0 [] []⟩
def Part.kind : Part → List By | .mk k _ _ _ _ => k
def Part.ps : Part → List PrB | .mk _ l _ _ _ => l
def Part.code : Part → Int | .mk _ _ c _ _ => c
def Part.body : Part → List By | .mk _ _ _ b _ => b
def Part.parts : Part → List Part | .mk _ _ _ _ l => l
/-- the value of the first parameter of a name -/
def parB (l : List PrB) (n : List By) : List By := ((l.find? fun p => decide (p.1 = n)).map (·.2)).getD []
def multiN : List By := [109, 117, 108, 116, 105, 112, 97, 114, 116, 47]
def multiB (k : List By) : Bool := decide (k.take 10 = multiN)
/-- boundary -/
def bdN : List By := [98, 111, 117, 110, 100, 97, 114, 121]
/-- content-type, content-transfer-encoding, in small letters, and as they are written -/
def ctN : List By := [99, 111, 110, 116, 101, 110, 116, 45, 116, 121, 112, 101]
def ceN : List By := [99, 111, 110, 116, 101, 110, 116, 45, 116, 114, 97, 110, 115, 102, 101, 114, 45, 101, 110, 99, 111, 100, 105, 110, 103]
def ctW : List By := [67, 111, 110, 116, 101, 110, 116, 45, 84, 121, 112, 101]
def ceW : List By := [67, 111, 110, 116, 101, 110, 116, 45, 84, 114, 97, 110, 115, 102, 101, 114, 45, 69, 110, 99, 111, 100, 105, 110, 103]
/-- text/plain -/
def tpN : List By := [116, 101, 120, 116, 47, 112, 108, 97, 105, 110]
def b7 : List By := [55, 98, 105, 116]
def b8 : List By := [56, 98, 105, 116]
def bin : List By := [98, 105, 110, 97, 114, 121]
def b64 : List By := [98, 97, 115, 101, 54, 52]
def qpN : List By := [113, 117, 111, 116, 101, 100, 45, 112, 114, 105, 110, 116, 97, 98, 108, 101]
/-- an encoding's code -/
def codB (c : List By) : Option Int := if c = b64 then some 1 else if c = qpN then some 2 else if c = [] ∨ c = b7 ∨ c = b8 ∨ c = bin then some 0 else none
def ceB (f : List PrB) : List By := match allB ceN f with
  | [] => []
  | v :: _ => (trim v).map small
def typB (f : List PrB) : List By × List PrB × Nat := match allB ctN f with
  | [] => (tpN, [], 0)
  | v :: _ => paramsB v
/-- layer 6's Read -/
def armR (b : List By) : Except Nat (List By) := match Arm.decB (Arm.bare b) with
  | some l => .ok l
  | none => .error 3
def mapE {α β : Type} (f : α → Except Nat β) : List α → Except Nat (List β)
  | [] => .ok []
  | x :: l => match f x with
    | .error e => .error e
    | .ok y => match mapE f l with
      | .error e => .error e
      | .ok ys => .ok (y :: ys)
/-- layer 11's Read -/
def readL (m : List By) : Except Nat (List PrB × List By) := if 2097152 < m.length then .error 4 else readB m
section
variable (Qd : List By → Except Nat (List By)) (Qe : List By → List By)
def bodyR (c : Int) (b : List By) : Except Nat (List By) := if c = 1 then armR b else if c = 2 then Qd b else .ok b
/-- a part, its parts by sub; none: it stands in as many multiparts as may be -/
def nodeR (sub : Option (List By → Except Nat Part)) (f : List PrB) (b : List By) : Except Nat Part :=
  if (typB f).2.2 ≠ 0 then .error (typB f).2.2
  else if multiB (typB f).1 then
    if boundB (parB (typB f).2.1 bdN) = false then .error 3
    else match sub with
      | none => .error 5
      | some g =>
        if (spltB b (parB (typB f).2.1 bdN)).2 ≠ 0 then .error (spltB b (parB (typB f).2.1 bdN)).2
        else match mapE g (spltB b (parB (typB f).2.1 bdN)).1 with
          | .error e => .error e
          | .ok l => .ok (.mk (typB f).1 (typB f).2.1 0 [] l)
  else match codB (ceB f) with
    | none => .error 3
    | some c => match bodyR Qd c b with
      | .error e => .error e
      | .ok x => .ok (.mk (typB f).1 (typB f).2.1 c x [])
def subR (r : List PrB → List By → Except Nat Part) (m : List By) : Except Nat Part := match readL m with
  | .error e => .error e
  | .ok x => r x.1 x.2
/-- a part that may stand in k multiparts more -/
def readP : Nat → List PrB → List By → Except Nat Part
  | 0 => nodeR Qd none
  | k + 1 => nodeR Qd (some (subR (readP k)))
def ceV (c : Int) : List By := if c = 1 then b64 else if c = 2 then qpN else b8
def bodyW (c : Int) (b : List By) : List By := if c = 1 then Arm.linesB b else if c = 2 then Qe b else b
def finW (f : List PrB) (b : List By) : Except Nat (List PrB × List By) := if writeK f b = 0 then .ok (f, b) else .error (writeK f b)
def nodeA (sub : Option (Part → Except Nat (List PrB × List By))) (kind : List By) (ps : List PrB) (code : Int) (body : List By) (parts : List Part) : Except Nat (List PrB × List By) :=
  if rightP kind ps = false then .error 3
  else if multiB kind then
    if parts = [] ∨ boundB (parB ps bdN) = false ∨ code ≠ 0 ∨ body ≠ [] then .error 3
    else match sub with
      | none => .error 5
      | some g => match mapE g parts with
        | .error e => .error e
        | .ok xs =>
          if spltB (jn (parB ps bdN) (xs.map fun x => writeO x.1 x.2) []) (parB ps bdN) = (xs.map (fun x => writeO x.1 x.2), 0) then finW [(ctW, writeB kind ps)] (jn (parB ps bdN) (xs.map fun x => writeO x.1 x.2) [])
          else .error 3
  else if code < 0 ∨ 2 < code ∨ parts ≠ [] then .error 3
  else finW [(ctW, writeB kind ps), (ceW, ceV code)] (bodyW Qe code body)
def nodeW (sub : Option (Part → Except Nat (List PrB × List By))) (p : Part) : Except Nat (List PrB × List By) := nodeA Qe sub p.kind p.ps p.code p.body p.parts
def writeP : Nat → Part → Except Nat (List PrB × List By)
  | 0 => nodeW Qe none
  | k + 1 => nodeW Qe (some (writeP k))
end
/-! ### the way back -/
theorem hd_headB : ∀ (l : List PrB), (∀ p ∈ l, nameB p.1 = true ∧ valB p.2 = true) → Hd l (headB l)
  | [], _ => .nil
  | (n, v) :: l, h => by
    obtain ⟨h1, h2⟩ := h (n, v) (by simp)
    obtain ⟨L, e, hf⟩ := fold_fo n v (valB_parts h2).1
    have := Hd.cons n v L [13, 10] l _ h1 h2 hf (.inr rfl) (hd_headB l fun p hp => h p (by simp [hp]))
    show Hd _ (foldB n v ++ headB l)
    rw [e]
    exact this
theorem written_read {f : List PrB} {b : List By} (h : writeK f b = 0) : readL (writeO f b) = .ok (f, b) := by
  have ho : writeO f b = headB f ++ [13, 10] ++ b := by unfold writeO; rw [if_pos h]
  unfold writeK at h
  split at h
  · next ha =>
    split at h
    · cases h
    · next hn =>
      have h1 : f.length ≤ 200 := by omega
      have h2 : (headB f).length + 2 ≤ 65536 := by omega
      have h3 : (headB f).length + 2 + b.length ≤ 2097152 := by omega
      have hl : (writeO f b).length = (headB f).length + 2 + b.length := by rw [ho]; simp; omega
      have hh : ∀ p ∈ f, nameB p.1 = true ∧ valB p.2 = true := fun p hp => by
        have := List.all_eq_true.1 ha p hp
        rwa [Bool.and_eq_true] at this
      unfold readL
      rw [if_neg (by rw [hl]; omega), ho]
      exact read_head (hd_headB f hh) (.inr rfl) b h1 h2
  · cases h
theorem fin_ok {f g : List PrB} {b c : List By} (h : finW f b = .ok (g, c)) : f = g ∧ b = c ∧ writeK g c = 0 := by
  unfold finW at h
  split at h
  · next hk => cases h; exact ⟨rfl, rfl, hk⟩
  · cases h
/-- no part is printed as layer 7 has it -/
def noQ : Nat → Part → Prop
  | 0, p => p.code ≠ 2
  | k + 1, p => p.code ≠ 2 ∧ ∀ q ∈ p.parts, noQ k q
end Mim
end Go.Proofs.YtdabhneehconeaaGreatDoor

/-
  Of no statement by itself: a part of bytes in n multiparts: its mail, as long as n is at most 8; one more is an error; pure; no program stands here.
  Conditions: none but each lemma's own.
-/
namespace Go.Proofs.YtdabhneehconeaaGreatDoor
namespace Mim
open Fld Tok
def bdI (i : Nat) : List By := [98, BitVec.ofNat 8 (48 + i)]
def mmN : List By := [109, 117, 108, 116, 105, 112, 97, 114, 116, 47, 109, 105, 120, 101, 100]
def abN : List By := [97, 47, 98]
def nestF : Nat → List PrB
  | 0 => [(ctW, writeB abN []), (ceW, b64)]
  | n + 1 => [(ctW, writeB mmN [(bdN, bdI n)])]
/-- its lines are none of the boundaries from n on -/
def far (n : Nat) (m : List By) : Prop := ∀ q ∈ linB m, ∀ i, n ≤ i → i < 10 → markB (bdI i) q.1 = 0
theorem lin_no45 : ∀ (l x : List By), (∀ c ∈ l, c ≠ 45) → (∀ c ∈ x, c ≠ 45) → ∀ q ∈ linR l x, ∀ c ∈ q.1, c ≠ 45
  | [], x, _, hx => by
    intro q hq
    unfold linR at hq
    split at hq
    · cases hq
    · rw [List.mem_singleton.1 hq]; exact hx
  | d :: l, x, hl, hx => by
    intro q hq
    unfold linR at hq
    split at hq
    · rcases List.mem_cons.1 hq with rfl | hq
      · split
        · exact fun c hc => hx c ((List.dropLast_prefix x).subset hc)
        · exact hx
      · exact lin_no45 l [] (fun c hc => hl c (List.mem_cons_of_mem _ hc)) (by simp) q hq
    · refine lin_no45 l (x ++ [d]) (fun c hc => hl c (List.mem_cons_of_mem _ hc)) (fun c hc => ?_) q hq
      rcases List.mem_append.1 hc with hc | hc
      · exact hx c hc
      · rw [List.mem_singleton.1 hc]; exact hl d List.mem_cons_self
theorem no45_nd {l : List By} (h : ∀ c ∈ l, c ≠ 45) : nd l := by
  intro e
  cases l with
  | nil => cases e
  | cons c l =>
    have : c = 45 := by
      cases l with
      | nil => simp at e
      | cons d l => simp only [List.take_succ_cons, List.take_zero, List.cons.injEq] at e; exact e.1
    exact h c List.mem_cons_self this
theorem sg45 : ∀ m : Fin 64, Arm.sg m.val ≠ 45 := by decide +kernel
theorem enc45 : ∀ (l : List By), ∀ c ∈ Arm.encB l, c ≠ 45 := by
  have hs : ∀ n, n < 64 → Arm.sg n ≠ 45 := fun n hn => sg45 ⟨n, hn⟩
  intro l
  induction l using Arm.by3 with
  | h0 => simp [Arm.encB]
  | h1 a =>
    intro c hc
    have := a.isLt
    simp only [Arm.encB, List.mem_cons, List.not_mem_nil, or_false] at hc
    rcases hc with rfl | rfl | rfl | rfl
    · exact hs _ (by omega)
    · exact hs _ (by omega)
    · decide
    · decide
  | h2 a b =>
    intro c hc
    have := a.isLt
    have := b.isLt
    simp only [Arm.encB, List.mem_cons, List.not_mem_nil, or_false] at hc
    rcases hc with rfl | rfl | rfl | rfl
    · exact hs _ (by omega)
    · exact hs _ (by omega)
    · exact hs _ (by omega)
    · decide
  | h3 a b c r ih =>
    intro x hx
    have := a.isLt
    have := b.isLt
    have := c.isLt
    rw [Arm.encB3] at hx
    simp only [List.mem_cons] at hx
    rcases hx with rfl | rfl | rfl | rfl | hx
    · exact hs _ (by omega)
    · exact hs _ (by omega)
    · exact hs _ (by omega)
    · exact hs _ (by omega)
    · exact ih x hx
theorem ln45 {s : List By} (hs : ∀ c ∈ s, c ≠ 45) : ∀ i, ∀ c ∈ Arm.lnB s i, c ≠ 45
  | 0 => by simp [Arm.lnB]
  | i + 1 => by
    have ih := ln45 hs i
    intro c hc
    unfold Arm.lnB at hc
    have h1 : s.getD i 0 ≠ 45 := by
      by_cases hi : i < s.length
      · rw [List.getD_eq_getElem?_getD, List.getElem?_eq_getElem hi]
        exact hs _ (List.getElem_mem hi)
      · rw [List.getD_eq_getElem?_getD, List.getElem?_eq_none (by omega)]
        decide
    rcases List.mem_append.1 hc with hc | hc
    · exact ih c hc
    rcases List.mem_cons.1 hc with hc | hc
    · rw [hc]; exact h1
    split at hc
    · simp only [List.mem_cons, List.not_mem_nil, or_false] at hc
      rcases hc with rfl | rfl <;> decide
    · cases hc
/-! ### heads -/
theorem lin_cat {a : List By} (r : List By) (h : a.getLast? = some 10) : linB (a ++ r) = linB a ++ linB r := by
  obtain ⟨x, rfl⟩ := List.getLast?_eq_some_iff.1 h
  unfold linB
  rw [List.append_assoc, List.singleton_append, lin_app]
def headN (n : Nat) : List By := headB (nestF n) ++ [13, 10]
def farB (n : Nat) (m : List By) : Bool := (linB m).all fun q => (List.range 10).all fun i => decide (i < n) || decide (markB (bdI i) q.1 = 0)
theorem far_of {n : Nat} {m : List By} (h : farB n m = true) : far n m := fun q hq i hi hi' => by
  have h1 := List.all_eq_true.1 h q hq
  have h2 := List.all_eq_true.1 h1 i (List.mem_range.2 hi')
  simp only [Bool.or_eq_true, decide_eq_true_eq] at h2
  omega
def headGood (n : Nat) : Bool := farB 0 (headN n) && (decide ((headN n).getLast? = some 10) && (decide ((headN n).length ≤ 100) && (decide ((nestF n).length ≤ 2) && (nestF n).all fun p => nameB p.1 && valB p.2)))
theorem head_good : ∀ n : Fin 10, headGood n.val = true := by decide +kernel
theorem head_is {n : Nat} (h : n < 10) : far 0 (headN n) ∧ (headN n).getLast? = some 10 ∧ (headN n).length ≤ 100 ∧ (nestF n).length ≤ 2 ∧ (nestF n).all (fun p => nameB p.1 && valB p.2) = true := by
  have := head_good ⟨n, h⟩
  unfold headGood at this
  simp only [Bool.and_eq_true, decide_eq_true_eq] at this
  exact ⟨far_of this.1, this.2.1, this.2.2.1, this.2.2.2.1, this.2.2.2.2⟩
/-! ### multiparts -/
end Mim
end Go.Proofs.YtdabhneehconeaaGreatDoor

/-
  Of no statement by itself: envelopes as mails (layer 13): what is written of one, what a mail's fields and body tell of one, and that what is written is read as the envelope; pure; no program stands here.
  Conditions: none but each lemma's own.
-/
namespace Go.Proofs.YtdabhneehconeaaGreatDoor
namespace Pck
open Fld Tok Mim
structure Evp where
  fr : List By
  to : List By
  id : List By
  th : List By
  pl : Bool
  bu : List By
  ci : List By
def idB (s : List By) : Bool := s.all idok && (decide (1 ≤ s.length) && decide (s.length ≤ 200))
def adB (s : List By) : Bool := decide ((addrB s).2 = 0) && decide ((addrB s).1 = s)
def rightE (e : Evp) : Bool := adB e.fr && (adB e.to && (idB e.id && idB e.th))
/-- From, To, Message-ID, X-Thread, X-Keys, as they are written, and in small letters -/
def frW : List By := [70, 114, 111, 109]
def toW : List By := [84, 111]
def idW : List By := [77, 101, 115, 115, 97, 103, 101, 45, 73, 68]
def thW : List By := [88, 45, 84, 104, 114, 101, 97, 100]
def keW : List By := [88, 45, 75, 101, 121, 115]
def frN : List By := [102, 114, 111, 109]
def toN : List By := [116, 111]
def idN : List By := [109, 101, 115, 115, 97, 103, 101, 45, 105, 100]
def thN : List By := [120, 45, 116, 104, 114, 101, 97, 100]
def keN : List By := [120, 45, 107, 101, 121, 115]
/-- multipart/encrypted, application/x-despatch, application/octet-stream -/
def encK : List By := [109, 117, 108, 116, 105, 112, 97, 114, 116, 47, 101, 110, 99, 114, 121, 112, 116, 101, 100]
def verK : List By := [97, 112, 112, 108, 105, 99, 97, 116, 105, 111, 110, 47, 120, 45, 100, 101, 115, 112, 97, 116, 99, 104]
def octK : List By := [97, 112, 112, 108, 105, 99, 97, 116, 105, 111, 110, 47, 111, 99, 116, 101, 116, 45, 115, 116, 114, 101, 97, 109]
/-- despatch-part, protocol, Version: 1 -/
def bdV : List By := [100, 101, 115, 112, 97, 116, 99, 104, 45, 112, 97, 114, 116]
def prN : List By := [112, 114, 111, 116, 111, 99, 111, 108]
def veB : List By := [86, 101, 114, 115, 105, 111, 110, 58, 32, 49]
def fieldsE (e : Evp) : List PrB := [(frW, e.fr), (toW, e.to), (idW, 60 :: e.id ++ [62]), (thW, 60 :: e.th ++ [62])] ++ (if e.bu = [] then [] else [(keW, Arm.encB e.bu)])
def parsE : List PrB := [(bdN, bdV), (prN, verK)]
def partE (e : Evp) : Part := if e.pl then .mk tpN [] 1 e.ci [] else .mk encK parsE 0 [] [.mk verK [] 0 veB [], .mk octK [] 1 e.ci []]
def wrE (Qe : List By → List By) (e : Evp) : Except Nat (List PrB × List By) :=
  if 1049600 < e.ci.length ∨ 3000 < e.bu.length then .error 4
  else if rightE e = false then .error 3
  else match writeP Qe 8 (partE e) with
    | .error k => .error k
    | .ok x => .ok (fieldsE e ++ x.1, x.2)
/-! ### what is read -/
def firB (n : List By) (f : List PrB) : List By := (allB n f).headD []
def oneB (v : List By) : List By × Bool := if (idsB v).2 = 0 ∧ (idsB v).1.length = 1 then ((idsB v).1.headD [], idB ((idsB v).1.headD [])) else ([], false)
def keyB (v : List By) : Option (List By) := match armR v with
  | .error _ => none
  | .ok b => if b.length ≤ 3000 then some b else none
/-- what the fields tell of an envelope -/
def hdE (f : List PrB) : Option Evp :=
  if (addrB (firB frN f)).2 = 0 ∧ (addrB (firB toN f)).2 = 0 ∧ (oneB (firB idN f)).2 = true ∧ (oneB (firB thN f)).2 = true then
    match keyB (firB keN f) with
    | none => none
    | some b => some ⟨(addrB (firB frN f)).1, (addrB (firB toN f)).1, (oneB (firB idN f)).1, (oneB (firB thN f)).1, false, b, []⟩
  else none
def sealedB (p : Part) : Option (List By) :=
  if parB p.ps prN = verK ∧ p.parts.length = 2 ∧ (p.parts.getD 0 default).kind = verK ∧ (p.parts.getD 1 default).kind = octK ∧ (p.parts.getD 0 default).body.take 10 = veB then some (p.parts.getD 1 default).body else none
def cipB (p : Part) : Option (List By) := if p.kind = tpN then some p.body else if p.kind = encK then sealedB p else none
def rdE (Qd : List By → Except Nat (List By)) (f : List PrB) (b : List By) : Except Nat Evp := match hdE f with
  | none => .error 3
  | some e => match readP Qd 8 f b with
    | .error k => .error k
    | .ok p => match cipB p with
      | none => .error 3
      | some c => if 1049600 < c.length then .error 4 else .ok { e with pl := decide (p.kind = tpN), ci := c }
def besB (e : Evp) : List By := e.fr ++ [10] ++ (e.to ++ [10]) ++ (e.id ++ [10]) ++ (e.th ++ [10])
/-! ### ids, addresses, keys -/
theorem id_all {s : List By} (h : idB s = true) : (∀ c ∈ s, idok c = true) ∧ 1 ≤ s.length ∧ s.length ≤ 200 := by
  unfold idB at h
  simp only [Bool.and_eq_true, decide_eq_true_eq, List.all_eq_true] at h
  exact h
theorem ad_is {s : List By} (h : adB s = true) : (addrB s).2 = 0 ∧ (addrB s).1 = s := by
  unfold adB at h
  simpa only [Bool.and_eq_true, decide_eq_true_eq] using h
theorem addr_goods {s : List By} (h : (addrB s).2 = 0) : ∀ c ∈ (addrB s).1, good c = true := by
  have key : ∀ u : List By, (addrS u).2 = 0 → ∀ c ∈ (addrS u).1, good c = true := by
    intro u hu
    unfold addrS at hu ⊢
    split at hu
    · cases hu
    · next hn =>
      rw [if_neg hn]
      have h1 : ¬ fst 64 u = u.length := fun k => hn (.inl k)
      have h2 : dotB (u.take (fst 64 u)) = true := by
        cases e : dotB (u.take (fst 64 u))
        · exact absurd (.inr (.inl e)) hn
        · rfl
      have h3 : dotB (u.drop (fst 64 u + 1)) = true := by
        cases e : dotB (u.drop (fst 64 u + 1))
        · exact absurd (.inr (.inr e)) hn
        · rfl
      have hlt : fst 64 u < u.length := by
        have : fst 64 u ≤ u.length := (List.takeWhile_sublist _).length_le
        omega
      have hs := fst_spec u hlt
      have e : u.take (fst 64 u + 1) = u.take (fst 64 u) ++ [64] := take_at hs (by rw [List.length_take]; exact Nat.min_eq_left (Nat.le_of_lt hlt))
      rw [e, List.append_assoc]
      intro c hc
      rcases List.mem_append.1 hc with hc | hc
      · exact (dot_not c (dot_all _ _ h2 c hc)).1
      rcases List.mem_append.1 hc with hc | hc
      · rw [List.mem_singleton.1 hc]; decide
      · obtain ⟨d, hd, rfl⟩ := List.mem_map.1 hc
        have hp := plain_small d
        rcases dot_all _ _ h3 d hd with k | k
        · exact (dot_not _ (.inl (hp.2.1.2 k))).1
        · exact (dot_not _ (.inr (by rw [hp.1]; exact k))).1
  have key2 : ∀ t : List By, (addrT t).2 = 0 → ∀ c ∈ (addrT t).1, good c = true := by
    intro t ht
    unfold addrT at ht ⊢
    split at ht
    · next hh =>
      rw [if_pos hh]
      split at ht
      · next hm => rw [if_pos hm]; exact key _ ht
      · cases ht
    · next hh => rw [if_neg hh]; exact key _ ht
  unfold addrB at h ⊢
  split at h
  · next hh => rw [if_pos hh]; exact key2 _ h
  · next hh => exact absurd h hh
theorem good_val (c : By) (h : good c = true) : sok c = true ∧ bl c = false ∧ ¬ c = 10 := by
  have := byte_all (fun c => !good c || (sok c && (!bl c && !(c == 10)))) (by decide +kernel) c
  rw [h] at this
  simpa using this
theorem idok_val (c : By) (h : idok c = true) : sok c = true ∧ bl c = false ∧ ¬ c = 10 := by
  have := byte_all (fun c => !idok c || (sok c && (!bl c && !(c == 10)))) (by decide +kernel) c
  rw [h] at this
  simpa using this
theorem enc_val : ∀ (l : List By), ∀ c ∈ Arm.encB l, sok c = true ∧ bl c = false := by
  have hs0 : ∀ m : Fin 64, sok (Arm.sg m.val) = true ∧ bl (Arm.sg m.val) = false := by decide +kernel
  have hs : ∀ n, n < 64 → sok (Arm.sg n) = true ∧ bl (Arm.sg n) = false := fun n hn => hs0 ⟨n, hn⟩
  have h61 : sok (61 : By) = true ∧ bl (61 : By) = false := by decide
  intro l
  induction l using Arm.by3 with
  | h0 => simp [Arm.encB]
  | h1 a =>
    intro c hc
    have := a.isLt
    simp only [Arm.encB, List.mem_cons, List.not_mem_nil, or_false] at hc
    rcases hc with rfl | rfl | rfl | rfl
    · exact hs _ (by omega)
    · exact hs _ (by omega)
    · exact h61
    · exact h61
  | h2 a b =>
    intro c hc
    have := a.isLt
    have := b.isLt
    simp only [Arm.encB, List.mem_cons, List.not_mem_nil, or_false] at hc
    rcases hc with rfl | rfl | rfl | rfl
    · exact hs _ (by omega)
    · exact hs _ (by omega)
    · exact hs _ (by omega)
    · exact h61
  | h3 a b c r ih =>
    intro x hx
    have := a.isLt
    have := b.isLt
    have := c.isLt
    rw [Arm.encB3] at hx
    simp only [List.mem_cons] at hx
    rcases hx with rfl | rfl | rfl | rfl | hx
    · exact hs _ (by omega)
    · exact hs _ (by omega)
    · exact hs _ (by omega)
    · exact hs _ (by omega)
    · exact ih x hx
/-! ### what is written is read -/
theorem right_parts {e : Evp} (h : rightE e = true) : adB e.fr = true ∧ adB e.to = true ∧ idB e.id = true ∧ idB e.th = true := by
  unfold rightE at h
  simpa only [Bool.and_eq_true] using h
/-- a part with no parts in it, as it is written -/
def leafF (k : List By) (c : Int) : List PrB := [(ctW, writeB k []), (ceW, ceV c)]
def leafGood (k : List By) (c : Int) : Bool := rightP k [] && (!multiB k && (decide (0 ≤ c) && (decide (c ≤ 2) && ((leafF k c).all (fun p => nameB p.1 && valB p.2) && (decide ((headB (leafF k c)).length ≤ 1000) && ((linB (headB (leafF k c) ++ [13, 10])).all (fun q => decide (markB bdV q.1 = 0)) && decide ((headB (leafF k c) ++ [13, 10]).getLast? = some 10)))))))
theorem leaf_tp : leafGood tpN 1 = true := by decide +kernel
theorem leaf_ver : leafGood verK 0 = true := by decide +kernel
theorem leaf_oct : leafGood octK 1 = true := by decide +kernel
structure LeafIs (k : List By) (c : Int) : Prop where
  right : rightP k [] = true
  multi : multiB k = false
  lo : 0 ≤ c
  hi : c ≤ 2
  all : (leafF k c).all (fun p => nameB p.1 && valB p.2) = true
  len : (headB (leafF k c)).length ≤ 1000
  far : ∀ q ∈ linB (headB (leafF k c) ++ [13, 10]), markB bdV q.1 = 0
  last : (headB (leafF k c) ++ [13, 10]).getLast? = some 10
theorem leaf_is {k : List By} {c : Int} (h : leafGood k c = true) : LeafIs k c := by
  unfold leafGood at h
  simp only [Bool.and_eq_true, decide_eq_true_eq, Bool.not_eq_true', List.all_eq_true] at h
  obtain ⟨h1, h2, h3, h4, h5, h6, h7, h8⟩ := h
  exact ⟨h1, h2, h3, h4, List.all_eq_true.2 fun p hp => by rw [Bool.and_eq_true]; exact h5 p hp, h6, h7, h8⟩
theorem leaf_fin {k : List By} {c : Int} (h : LeafIs k c) {b : List By} (hb : b.length ≤ 100000) : writeK (leafF k c) b = 0 ∧ writeO (leafF k c) b = headB (leafF k c) ++ [13, 10] ++ b := by
  have h1 := h.len
  have hk : writeK (leafF k c) b = 0 := by
    unfold writeK
    rw [if_pos h.all, if_neg]
    rintro (h | h | h)
    · have h : 200 < 2 := h
      omega
    · omega
    · omega
  refine ⟨hk, ?_⟩
  unfold writeO
  rw [if_pos hk]
theorem leaf_write (Qe : List By → List By) {k : List By} {c : Int} (h : LeafIs k c) {b : List By} (hb : (bodyW Qe c b).length ≤ 100000) (d : Nat) : writeP Qe d (.mk k [] c b []) = .ok (leafF k c, bodyW Qe c b) := by
  have key : ∀ sub, nodeW Qe sub (.mk k [] c b []) = .ok (leafF k c, bodyW Qe c b) := by
    intro sub
    show nodeA Qe sub k [] c b [] = _
    have := h.lo
    have := h.hi
    unfold nodeA
    rw [if_neg (by rw [h.right]; decide), if_neg (by rw [h.multi]; decide), if_neg (by rintro (k | k | k); omega; omega; exact k rfl)]
    show finW (leafF k c) _ = _
    unfold finW
    rw [if_pos (leaf_fin h hb).1]
  cases d with
  | zero => exact key _
  | succ d => exact key _
theorem lines_len (b : List By) : (Arm.linesB b).length ≤ 4 * b.length + 12 := by
  have h1 := Arm.lnB_len (Arm.encB b) (Arm.encB b).length
  have h2 := Arm.encB_len b
  unfold Arm.linesB
  omega
/-! ### the whole -/
def headS : List PrB := [(ctW, writeB encK parsE)]
def sealGood : Bool := rightP encK parsE && (multiB encK && (boundB bdV && (decide (parB parsE bdN = bdV) && (headS.all (fun p => nameB p.1 && valB p.2) && (decide ((headB headS).length ≤ 1000) && (linB (headB (leafF verK 0) ++ [13, 10] ++ veB)).all (fun q => decide (markB bdV q.1 = 0)))))))
theorem seal_good : sealGood = true := by decide +kernel
def mail1 : List By := headB (leafF verK 0) ++ [13, 10] ++ veB
def mail2 (c : List By) : List By := headB (leafF octK 1) ++ [13, 10] ++ Arm.linesB c
def bodyE (e : Evp) : List By := if e.pl then Arm.linesB e.ci else jn bdV [mail1, mail2 e.ci] []
def headE (e : Evp) : List PrB := if e.pl then leafF tpN 1 else headS
theorem mail1_len : mail1.length ≤ 1100 := by decide +kernel
theorem mail2_len (c : List By) : (mail2 c).length ≤ 4 * c.length + 1014 := by
  have h1 := lines_len c
  have h2 := (leaf_is leaf_oct).len
  unfold mail2
  simp only [List.length_append, List.length_cons, List.length_nil]
  omega
theorem bodyE_len (e : Evp) : (bodyE e).length ≤ 4 * e.ci.length + 2300 := by
  unfold bodyE
  split
  · have := lines_len e.ci
    omega
  · have h1 := mail1_len
    have h2 := mail2_len e.ci
    simp only [jn, List.flatMap_cons, List.flatMap_nil, List.length_append, List.length_cons, List.length_nil, bdV]
    omega
theorem marks1 : ∀ q ∈ linB mail1, markB bdV q.1 = 0 := by
  have h := seal_good
  unfold sealGood at h
  simp only [Bool.and_eq_true, decide_eq_true_eq, List.all_eq_true] at h
  exact h.2.2.2.2.2.2
theorem marks2 (c : List By) : ∀ q ∈ linB (mail2 c), markB bdV q.1 = 0 := by
  have hl := leaf_is leaf_oct
  intro q hq
  unfold mail2 at hq
  rw [lin_cat _ hl.last] at hq
  rcases List.mem_append.1 hq with hq | hq
  · exact hl.far q hq
  · exact mark_nd (no45_nd (lin_no45 _ [] (ln45 (enc45 c) _) (by simp) q hq))
theorem part_write (Qe : List By → List By) (e : Evp) (hc : e.ci.length ≤ 10000) : writeP Qe 8 (partE e) = .ok (headE e, bodyE e) := by
  have hl := lines_len e.ci
  have b1 : ∀ b : List By, bodyW Qe 1 b = Arm.linesB b := fun b => rfl
  unfold partE headE bodyE
  cases e.pl with
  | true =>
    have := leaf_write Qe (leaf_is leaf_tp) (b := e.ci) (by rw [b1]; omega) 8
    rw [b1] at this
    exact this
  | false =>
    have h := seal_good
    unfold sealGood at h
    simp only [Bool.and_eq_true, decide_eq_true_eq] at h
    obtain ⟨h1, h2, h3, h4, h5, h6, _⟩ := h
    have w1 := leaf_write Qe (leaf_is leaf_ver) (b := veB) (by show veB.length ≤ _; decide) 7
    have w2 := leaf_write Qe (leaf_is leaf_oct) (b := e.ci) (by rw [b1]; omega) 7
    have o1 : writeO (leafF verK 0) veB = mail1 := (leaf_fin (leaf_is leaf_ver) (by decide)).2
    have o2 : writeO (leafF octK 1) (Arm.linesB e.ci) = mail2 e.ci := (leaf_fin (leaf_is leaf_oct) (by omega)).2
    have e1 : mapE (writeP Qe 7) [.mk verK [] 0 veB [], .mk octK [] 1 e.ci []] = .ok [(leafF verK 0, veB), (leafF octK 1, Arm.linesB e.ci)] := by
      rw [mapE, w1]
      dsimp only
      rw [mapE, w2]
      rfl
    have hN : writeP Qe 8 (.mk encK parsE 0 [] [.mk verK [] 0 veB [], .mk octK [] 1 e.ci []]) = nodeA Qe (some (writeP Qe 7)) encK parsE 0 [] [.mk verK [] 0 veB [], .mk octK [] 1 e.ci []] := by rw [writeP]; rfl
    rw [if_neg (by decide), if_neg (by decide), if_neg (by decide), hN]
    unfold nodeA
    rw [h4, if_neg (by rw [h1]; decide), if_pos h2, if_neg (by rw [h3]; simp)]
    dsimp only
    rw [e1]
    dsimp only
    rw [List.map_cons, List.map_cons, List.map_nil]
    dsimp only
    rw [o1, o2, if_pos (jn_only h3 (by simp) fun p hp => by
      simp only [List.mem_cons, List.not_mem_nil, or_false] at hp
      rcases hp with rfl | rfl
      · exact marks1
      · exact marks2 _)]
    show finW headS _ = _
    unfold finW
    have hlen : (jn bdV [mail1, mail2 e.ci] []).length ≤ 4 * e.ci.length + 2300 := by
      have := bodyE_len { e with pl := false }
      exact this
    rw [if_pos (by
      unfold writeK
      rw [if_pos h5, if_neg]
      rintro (h | h | h)
      · have h : 200 < 1 := h
        omega
      · omega
      · omega)]
theorem part_noQ (e : Evp) : noQ 9 (partE e) := by
  unfold partE
  cases e.pl with
  | true => exact ⟨by show (1 : Int) ≠ 2; decide, by intro q hq; cases hq⟩
  | false =>
    refine ⟨by show (0 : Int) ≠ 2; decide, fun q hq => ?_⟩
    have hq : q ∈ ([.mk verK [] 0 veB [], .mk octK [] 1 e.ci []] : List Part) := hq
    simp only [List.mem_cons, List.not_mem_nil, or_false] at hq
    rcases hq with rfl | rfl
    · exact ⟨by show (0 : Int) ≠ 2; decide, by intro q hq; cases hq⟩
    · exact ⟨by show (1 : Int) ≠ 2; decide, by intro q hq; cases hq⟩
theorem wr_is (Qe : List By → List By) {e : Evp} (hr : rightE e = true) (hc : e.ci.length ≤ 10000) (hb : e.bu.length ≤ 3000) : wrE Qe e = .ok (fieldsE e ++ headE e, bodyE e) := by
  unfold wrE
  rw [if_neg (by omega), if_neg (by rw [hr]; decide), part_write Qe e hc]
theorem head_all (e : Evp) : (headE e).all (fun p => nameB p.1 && valB p.2) = true ∧ (headB (headE e)).length ≤ 1000 ∧ (headE e).length ≤ 2 ∧ allB keN (headE e) = [] := by
  unfold headE
  cases e.pl with
  | true => exact ⟨(leaf_is leaf_tp).all, (leaf_is leaf_tp).len, by show 2 ≤ 2; omega, rfl⟩
  | false =>
    have h := seal_good
    unfold sealGood at h
    simp only [Bool.and_eq_true, decide_eq_true_eq] at h
    obtain ⟨h1, h2, h3, h4, h5, h6, _⟩ := h
    exact ⟨h5, h6, by show 1 ≤ 2; omega, rfl⟩
theorem st_lenE (n v : List Fld.By) : ∀ i, (st n v i).1.length ≤ n.length + 2 + 3 * i
  | 0 => by simp [st]
  | i + 1 => by
    have h1 := st_lenE n v i
    unfold st
    split
    · simp only [List.length_append, List.length_cons, List.length_nil]; omega
    · simp only [List.length_append, List.length_cons, List.length_nil]; omega
theorem fold_lenE (n v : List By) : (foldB n v).length ≤ n.length + 4 + 3 * v.length := by
  have := st_lenE n v v.length
  unfold foldB
  rw [List.length_append]
  simp only [List.length_cons, List.length_nil]
  omega
theorem fields_len {e : Evp} (hr : rightE e = true) (hb : e.bu.length ≤ 3000) (h1 : e.fr.length ≤ 300) (h2 : e.to.length ≤ 300) : (headB (fieldsE e)).length ≤ 16000 ∧ (fieldsE e).length ≤ 5 := by
  obtain ⟨_, _, r3, r4⟩ := right_parts hr
  have i3 := (id_all r3).2.2
  have i4 := (id_all r4).2.2
  have k1 := fold_lenE frW e.fr
  have k2 := fold_lenE toW e.to
  have k3 := fold_lenE idW (60 :: e.id ++ [62])
  have k4 := fold_lenE thW (60 :: e.th ++ [62])
  have k5 := fold_lenE keW (Arm.encB e.bu)
  rw [Arm.encB_len] at k5
  simp only [frW, toW, idW, thW, keW, List.length_append, List.length_cons, List.length_nil] at k1 k2 k3 k4 k5
  by_cases hbu : e.bu = []
  · have ef : fieldsE e = [(frW, e.fr), (toW, e.to), (idW, 60 :: e.id ++ [62]), (thW, 60 :: e.th ++ [62])] := by unfold fieldsE; rw [if_pos hbu]; rfl
    rw [ef]
    refine ⟨?_, by show 4 ≤ 5; omega⟩
    simp only [headB, List.flatMap_cons, List.flatMap_nil, List.length_append, List.length_nil, frW, toW, idW, thW]
    simp only [List.cons_append] at k3 k4 ⊢
    omega
  · have ef : fieldsE e = [(frW, e.fr), (toW, e.to), (idW, 60 :: e.id ++ [62]), (thW, 60 :: e.th ++ [62]), (keW, Arm.encB e.bu)] := by unfold fieldsE; rw [if_neg hbu]; rfl
    rw [ef]
    refine ⟨?_, by show 5 ≤ 5; omega⟩
    simp only [headB, List.flatMap_cons, List.flatMap_nil, List.length_append, List.length_nil, frW, toW, idW, thW, keW]
    simp only [List.cons_append] at k3 k4 ⊢
    omega
structure WrIs (e : Evp) : Prop where
  k : writeK (fieldsE e ++ headE e) (bodyE e) = 0
  len : (writeO (fieldsE e ++ headE e) (bodyE e)).length ≤ 40000
  pos : writeO (fieldsE e ++ headE e) (bodyE e) ≠ []
  body : (bodyE e).length ≤ 15000
  flen : (fieldsE e ++ headE e).length ≤ 7
  vals : ∀ p ∈ fieldsE e ++ headE e, p.1.length ≤ 64 ∧ p.2.length ≤ 8192
  read : ∀ Qd, rdE Qd (fieldsE e ++ headE e) (bodyE e) = .ok e
end Pck
end Go.Proofs.YtdabhneehconeaaGreatDoor

/-
  Of no statement by itself: what goes beside an envelope's cipher tells who it is from and to, its id and its thread; pure; no program stands here.
  Conditions: none but each lemma's own.
-/
namespace Go.Proofs.YtdabhneehconeaaGreatDoor
namespace Pck
open Fld Tok Mim
theorem cut10 : ∀ {u v x y : List By}, (∀ c ∈ u, ¬ c = 10) → (∀ c ∈ v, ¬ c = 10) → u ++ 10 :: x = v ++ 10 :: y → u = v ∧ x = y
  | [], [], _, _, _, _, h => by
    simp only [List.nil_append, List.cons.injEq, true_and] at h
    exact ⟨rfl, h⟩
  | [], d :: v, _, _, _, hv, h => by
    simp only [List.nil_append, List.cons_append, List.cons.injEq] at h
    exact absurd h.1.symm (hv d (by simp))
  | c :: u, [], _, _, hu, _, h => by
    simp only [List.nil_append, List.cons_append, List.cons.injEq] at h
    exact absurd h.1 (hu c (by simp))
  | c :: u, d :: v, x, y, hu, hv, h => by
    simp only [List.cons_append, List.cons.injEq] at h
    obtain ⟨e1, e2⟩ := cut10 (fun c hc => hu c (by simp [hc])) (fun c hc => hv c (by simp [hc])) h.2
    exact ⟨by rw [h.1, e1], e2⟩
theorem no10_ad {s : List By} (h : adB s = true) : ∀ c ∈ s, ¬ c = 10 := fun c hc => by
  obtain ⟨h1, h2⟩ := ad_is h
  rw [← h2] at hc
  exact (good_val c (addr_goods h1 c hc)).2.2
theorem no10_id {s : List By} (h : idB s = true) : ∀ c ∈ s, ¬ c = 10 := fun c hc => (idok_val c ((id_all h).1 c hc)).2.2
theorem bes_is (e : Evp) : besB e = e.fr ++ 10 :: (e.to ++ 10 :: (e.id ++ 10 :: (e.th ++ 10 :: []))) := by
  unfold besB
  simp only [List.append_assoc, List.cons_append, List.nil_append]
theorem bes_one {a b : Evp} (ha : rightE a = true) (hb : rightE b = true) : besB a = besB b ↔ (a.fr = b.fr ∧ a.to = b.to ∧ a.id = b.id ∧ a.th = b.th) := by
  obtain ⟨a1, a2, a3, a4⟩ := right_parts ha
  obtain ⟨b1, b2, b3, b4⟩ := right_parts hb
  rw [bes_is, bes_is]
  constructor
  · intro h
    obtain ⟨e1, h⟩ := cut10 (no10_ad a1) (no10_ad b1) h
    obtain ⟨e2, h⟩ := cut10 (no10_ad a2) (no10_ad b2) h
    obtain ⟨e3, h⟩ := cut10 (no10_id a3) (no10_id b3) h
    obtain ⟨e4, h⟩ := cut10 (no10_id a4) (no10_id b4) h
    exact ⟨e1, e2, e3, e4⟩
  · rintro ⟨e1, e2, e3, e4⟩
    rw [e1, e2, e3, e4]
end Pck
end Go.Proofs.YtdabhneehconeaaGreatDoor

/-
  Of no statement by itself: rules by which a function's text is walked with partial knowledge of its frame (a list of slots) and of memory (a list of blocks with what is known of each), for any program P.
  Conditions: each rule's own hypotheses.
-/
namespace Go.Proofs.YtdabhneehconeaaGreatDoor
namespace Sl

abbrev Env := List (Nat × Value)
def lk : Env → Nat → Option Value
  | [], _ => none
  | (d, v) :: E, t => cond (Nat.beq d t) (some v) (lk E t)

structure Knows (n : Nat) (E : Env) (a : Act) : Prop where
  size : a.tmps.size = n
  defers : a.defers = []
  all : ∀ t v, lk E t = some v → a.tmps.getD t undef = v

theorem Knows.put {n : Nat} {E : Env} {a : Act} (h : Knows n E a) (d : Nat) (v : Value) (hd : Nat.blt d n = true) : Knows n ((d, v) :: E) (a.put (some d) v) := by
  have hd' : d < n := by simpa using hd
  refine ⟨by simp [Act.put, h.size], h.defers, fun t u hu => ?_⟩
  simp only [lk] at hu
  by_cases e : d = t
  · subst e
    simp at hu
    subst hu
    simp [Act.put, h.size, hd']
  · have : Nat.beq d t = false := Bool.eq_false_iff.2 fun h => e (Nat.eq_of_beq_eq_true h)
    rw [this] at hu
    have := h.all t u hu
    simpa [Act.put, Array.getElem?_setIfInBounds, e] using this

theorem Knows.put_none {n : Nat} {E : Env} {a : Act} (h : Knows n E a) (v : Value) : Knows n E (a.put none v) := h

inductive SubE (E : Env) : Env → Prop where
  | nil : SubE E []
  | cons (d : Nat) (v : Value) (E' : Env) : lk E d = some v → SubE E E' → SubE E ((d, v) :: E')
theorem SubE.all {E E' : Env} (h : SubE E E') : ∀ p ∈ E', lk E p.1 = some p.2 := by
  induction h with
  | nil => simp
  | cons d v E' h _ ih =>
    intro p hp
    simp only [List.mem_cons] at hp
    rcases hp with rfl | hp
    · exact h
    · exact ih p hp
theorem Knows.sub {n : Nat} {E E' : Env} {a : Act} (h : Knows n E a) (hs' : SubE E E') : Knows n E' a := by
  have hs := hs'.all
  clear hs'
  refine ⟨h.size, h.defers, fun t u hu => h.all t u ?_⟩
  induction E' with
  | nil => simp [lk] at hu
  | cons p E' ih =>
    simp only [lk] at hu
    by_cases e : p.1 = t
    · subst e
      simp at hu
      subst hu
      exact hs p (by simp)
    · have : Nat.beq p.1 t = false := Bool.eq_false_iff.2 fun h => e (Nat.eq_of_beq_eq_true h)
      rw [this] at hu
      exact ih (fun q hq => hs q (by simp [hq])) hu

def ev (E : Env) : Operand → Option Value
  | .tmp t => lk E t
  | .const v => some v
  | .global g => some (.pointer (some ⟨g, 0, none⟩))
  | .func f => some (.func (.func f) #[] #[])

theorem Knows.eval {n : Nat} {E : Env} {a : Act} (h : Knows n E a) {x : Operand} {v : Value} (hx : ev E x = some v) : a.eval x = v := by
  cases x with
  | tmp t => exact h.all t v hx
  | const u => exact Option.some.inj hx
  | global g => exact Option.some.inj hx
  | func f => exact Option.some.inj hx

/-! ### memory -/
structure Chg (S : List Nat) (w w' : World) : Prop where
  os : w'.os = w.os
  tape : w'.tape = w.tape
  output : w'.output = w.output
  size : w.heap.size ≤ w'.heap.size
  block : ∀ k, k < w.heap.size → k ∉ S → w'.heap[k]? = w.heap[k]?

theorem Chg.refl (S : List Nat) (w : World) : Chg S w w := ⟨rfl, rfl, rfl, Nat.le_refl _, fun _ _ _ => rfl⟩
theorem Chg.trans {S : List Nat} {a b c : World} (h : Chg S a b) (k : Chg S b c) : Chg S a c :=
  ⟨k.os.trans h.os, k.tape.trans h.tape, k.output.trans h.output, Nat.le_trans h.size k.size,
   fun i hi hS => (k.block i (Nat.lt_of_lt_of_le hi h.size) hS).trans (h.block i hi hS)⟩
theorem Chg.mono {S S' : List Nat} {a b : World} (h : Chg S a b) (hs : ∀ k ∈ S, k ∈ S') : Chg S' a b :=
  ⟨h.os, h.tape, h.output, h.size, fun i hi hS => h.block i hi fun hk => hS (hs i hk)⟩
abbrev Ext := Chg []
theorem Chg.below {w w' : World} (h : Ext w w') : RowKit.Below w.heap.size w w' := ⟨h.os, h.tape, h.output, h.size, fun k hk => h.block k hk (by simp)⟩

structure Ent where
  b : Nat
  A : Obj → Prop
  wr : Bool

structure Holds (w0 : World) (S : List Nat) (M : List Ent) (w : World) : Prop where
  chg : Chg S w0 w
  nodup : (M.map Ent.b).Nodup
  all : ∀ e ∈ M, (∃ o, w.heap[e.b]? = some o ∧ e.A o) ∧ (e.wr = true → e.b ∈ S ∨ w0.heap.size ≤ e.b)

inductive Has : List Ent → Nat → (Obj → Prop) → Bool → Prop where
  | here {b A wr M} : Has (⟨b, A, wr⟩ :: M) b A wr
  | there {e M b A wr} : Has M b A wr → Has (e :: M) b A wr

theorem Has.mem {M : List Ent} {b : Nat} {A : Obj → Prop} {wr : Bool} (h : Has M b A wr) : ⟨b, A, wr⟩ ∈ M := by
  induction h with
  | here => simp
  | there _ ih => simp [ih]

/-- M' is M with another word on block b. -/
inductive Upd : List Ent → Nat → (Obj → Prop) → (Obj → Prop) → List Ent → Prop where
  | here {b A A' M} : Upd (⟨b, A, true⟩ :: M) b A A' (⟨b, A', true⟩ :: M)
  | there {e M b A A' M'} : Upd M b A A' M' → Upd (e :: M) b A A' (e :: M')

theorem Upd.has {M M' : List Ent} {b : Nat} {A A' : Obj → Prop} (h : Upd M b A A' M') : Has M b A true := by
  induction h with
  | here => exact .here
  | there _ ih => exact .there ih
theorem Upd.keys {M M' : List Ent} {b : Nat} {A A' : Obj → Prop} (h : Upd M b A A' M') : M'.map Ent.b = M.map Ent.b := by
  induction h with
  | here => rfl
  | there _ ih => simp [ih]
theorem Upd.old {M M' : List Ent} {b : Nat} {A A' : Obj → Prop} (h : Upd M b A A' M') (hn : (M.map Ent.b).Nodup) :
    ∀ e ∈ M', e = ⟨b, A', true⟩ ∨ (e ∈ M ∧ e.b ≠ b) := by
  induction h with
  | @here b A A' M =>
    intro e he
    simp only [List.mem_cons] at he
    simp only [List.map_cons, List.nodup_cons] at hn
    rcases he with rfl | he
    · exact .inl rfl
    · exact .inr ⟨by simp [he], fun h => hn.1 (h ▸ List.mem_map_of_mem he)⟩
  | @there x M b A A' M' hu ih =>
    intro e he
    simp only [List.map_cons, List.nodup_cons] at hn
    simp only [List.mem_cons] at he
    rcases he with rfl | he
    · refine .inr ⟨by simp, fun h => hn.1 ?_⟩
      rw [h]
      exact List.mem_map_of_mem hu.has.mem (f := Ent.b)
    · rcases ih hn.2 e he with h | ⟨h1, h2⟩
      · exact .inl h
      · exact .inr ⟨by simp [h1], h2⟩

section
variable {w0 : World} {S : List Nat} {M M' : List Ent} {w w' : World}

theorem Holds.lt (h : Holds w0 S M w) {e : Ent} (he : e ∈ M) : e.b < w.heap.size := by
  obtain ⟨⟨o, ho, _⟩, _⟩ := h.all e he
  by_cases hl : e.b < w.heap.size
  · exact hl
  · simp [Array.getElem?_eq_none (by omega : w.heap.size ≤ e.b)] at ho

theorem Holds.get (h : Holds w0 S M w) {b : Nat} {A : Obj → Prop} {wr : Bool} (hf : Has M b A wr) : ∃ o, w.heap[b]? = some o ∧ A o := (h.all _ hf.mem).1

theorem Holds.start (w0 : World) (S : List Nat) : Holds w0 S [] w0 := ⟨Chg.refl _ _, by simp, by simp⟩

theorem Holds.ext (h : Holds w0 S M w) (k : Ext w w') : Holds w0 S M w' := by
  refine ⟨h.chg.trans (k.mono (by simp)), h.nodup, fun e he => ⟨?_, (h.all e he).2⟩⟩
  obtain ⟨o, ho, hA⟩ := (h.all e he).1
  exact ⟨o, (k.block e.b (h.lt he) (by simp)).trans ho, hA⟩

theorem Holds.drawn (h : Holds w0 S M w) (n : Nat) : Holds w0 S M { w with drawn := n } :=
  h.ext ⟨rfl, rfl, rfl, Nat.le_refl _, fun _ _ _ => rfl⟩

theorem Holds.old (h : Holds w0 S M w) {k : Nat} (hk : k < w0.heap.size) (hS : k ∉ S) : w.heap[k]? = w0.heap[k]? := h.chg.block k hk hS

/-- M' says no more than M. -/
theorem Holds.sub (h : Holds w0 S M w) (hn : (M'.map Ent.b).Nodup) (hs : ∀ e ∈ M', e ∈ M) : Holds w0 S M' w := ⟨h.chg, hn, fun e he => h.all e (hs e he)⟩

inductive Less : List Ent → List Ent → Prop where
  | nil (N : List Ent) : Less [] N
  | keep (b : Nat) (A A' : Obj → Prop) (wr : Bool) (N N' : List Ent) : (∀ o, A o → A' o) → Less N' N → Less (⟨b, A', wr⟩ :: N') (⟨b, A, wr⟩ :: N)
  | drop (e : Ent) (N N' : List Ent) : Less N' N → Less N' (e :: N)
theorem Less.refl : ∀ N, Less N N
  | [] => .nil _
  | ⟨_, _, _⟩ :: N => .keep _ _ _ _ _ _ (fun _ h => h) (Less.refl N)
theorem Less.keys (h : Less M' M) : (M'.map Ent.b).Sublist (M.map Ent.b) := by
  induction h with
  | nil => exact List.nil_sublist _
  | keep _ _ _ _ _ _ _ _ ih => exact ih.cons_cons _
  | drop _ _ _ _ ih => exact ih.cons _
theorem Less.old (h : Less M' M) : ∀ e ∈ M', ∃ e' ∈ M, e'.b = e.b ∧ e'.wr = e.wr ∧ ∀ o, e'.A o → e.A o := by
  induction h with
  | nil => simp
  | keep b A A' wr M M' hA _ ih =>
    intro e he
    simp only [List.mem_cons] at he
    rcases he with rfl | he
    · exact ⟨⟨b, A, wr⟩, by simp, rfl, rfl, hA⟩
    · obtain ⟨e', h1, h2⟩ := ih e he
      exact ⟨e', by simp [h1], h2⟩
  | drop _ _ _ _ ih =>
    intro e he
    obtain ⟨e', h1, h2⟩ := ih e he
    exact ⟨e', by simp [h1], h2⟩
theorem Holds.weak (h : Holds w0 S M w) (hs : Less M' M) : Holds w0 S M' w := by
  refine ⟨h.chg, h.nodup.sublist hs.keys, fun e he => ?_⟩
  obtain ⟨e', h1, h2, h3, h4⟩ := hs.old e he
  obtain ⟨⟨o, ho, hA⟩, h5⟩ := h.all e' h1
  exact ⟨⟨o, h2 ▸ ho, h4 o hA⟩, fun hw => h2 ▸ h5 (h3.trans hw)⟩

/-- A new block. -/
theorem Holds.push (h : Holds w0 S M w) (o : Obj) {A : Obj → Prop} (hA : A o) (hw : w'.heap = w.heap.push o) (h1 : w'.os = w.os) (h2 : w'.tape = w.tape) (h3 : w'.output = w.output) :
    Holds w0 S (⟨w.heap.size, A, true⟩ :: M) w' := by
  have hx : Ext w w' := ⟨h1, h2, h3, by rw [hw]; simp, fun k hk _ => by rw [hw, Array.getElem?_push, if_neg (Nat.ne_of_lt hk)]⟩
  have h' := h.ext hx
  refine ⟨h'.chg, ?_, fun e he => ?_⟩
  · simp only [List.map_cons, List.nodup_cons, h.nodup, and_true]
    intro hm
    obtain ⟨e, he, hb⟩ := List.mem_map.1 hm
    have := h.lt he
    omega
  · simp only [List.mem_cons] at he
    rcases he with rfl | he
    · exact ⟨⟨o, by simp [hw], hA⟩, fun _ => .inr h.chg.size⟩
    · exact h'.all e he

/-- A block is written. -/
theorem Holds.write (h : Holds w0 S M w) {b : Nat} {A A' : Obj → Prop} (hu : Upd M b A A' M') {o' : Obj} (hA : A' o')
    (hb : w'.heap[b]? = some o') (hz : w'.heap.size = w.heap.size) (hk : ∀ k, k ≠ b → w'.heap[k]? = w.heap[k]?) (h1 : w'.os = w.os) (h2 : w'.tape = w.tape) (h3 : w'.output = w.output) :
    Holds w0 S M' w' := by
  have hin := (h.all _ hu.has.mem).2 rfl
  refine ⟨⟨h1.trans h.chg.os, h2.trans h.chg.tape, h3.trans h.chg.output, by rw [hz]; exact h.chg.size, fun k hk' hS => ?_⟩, by rw [hu.keys]; exact h.nodup, fun e he => ?_⟩
  · refine (hk k fun e => ?_).trans (h.chg.block k hk' hS)
    subst e
    rcases hin with h4 | h4
    · exact hS h4
    · simp only [] at h4; omega
  · rcases hu.old h.nodup e he with rfl | ⟨h4, h5⟩
    · exact ⟨⟨o', hb, hA⟩, fun _ => hin⟩
    · obtain ⟨⟨o, ho, hA'⟩, h6⟩ := h.all e h4
      exact ⟨⟨o, (hk _ h5).trans ho, hA'⟩, h6⟩
end

/-! ### single operations -/
def pur {α : Type} (P : Program) : Sem α → Option α
  | .pure a => some a
  | .program k => pur P (k P)
  | .mark _ k => pur P k
  | _ => none
theorem pur_run {α : Type} {P : Program} {a : α} : ∀ {s : Sem α} {w : World}, pur P s = some a → s.run P w = .ok a w
  | .pure _, w, h => by simp only [pur, Option.some.injEq] at h; subst h; rfl
  | .program k, w, h => by simp only [pur] at h; exact pur_run (s := k P) h
  | .mark _ k, w, h => by simp only [pur] at h; exact pur_run (s := k) h
  | .load .., _, h | .store .., _, h | .new .., _, h | .shape .., _, h | .freeze .., _, h | .frozen .., _, h | .getObj .., _, h | .setObj .., _, h | .choose .., _, h | .sys .., _, h | .halt .., _, h => by simp [pur] at h

/-- In every world of the class C, from every frame that E is known of, operation o yields v and leaves the world in the class. -/
structure OQ (P : Program) (n : Nat) (E : Env) (C : World → Prop) (o : Oper) (v : Value) : Prop where
  go : ∀ a, Knows n E a → ∀ w, C w → o.quietAt P a C w v

section
variable {P : Program} {n : Nat} {E : Env} {C : World → Prop} {dst : Option Tmp} {ty : TypeId} {pos : String} {aft : Array Edge} {g : Option (Nat × Bool)} {v : Value}

def evd (E : Env) (x : Operand) : Value := (ev E x).getD undef
def known (E : Env) (op : Op) : Bool := op.operands.toList.all fun x => (ev E x).isSome
def noSel : Op → Bool
  | .select .. => false
  | _ => true

theorem OQ.pure {op : Op} (hs : noSel op = true) (hk : known E op = true) (h : pur P (execOp (evd E) ⟨dst, op, ty, pos, aft, g⟩) = some (.value v)) : OQ P n E C ⟨dst, op, ty, pos, aft, g⟩ v := by
  refine ⟨fun a ha w hw => ?_⟩
  have e : execOp a.eval ⟨dst, op, ty, pos, aft, g⟩ = execOp (evd E) ⟨dst, op, ty, pos, aft, g⟩ := by
    refine execOp_congr _ (fun cs b hh => ?_) fun x hx => ?_
    · simp only [] at hh; subst hh; simp [noSel] at hs
    · simp only [known, List.all_eq_true] at hk
      have := hk x (by simpa using hx)
      obtain ⟨u, hu⟩ := Option.isSome_iff_exists.1 this
      rw [ha.eval hu, evd, hu]; rfl
  unfold Oper.quietAt
  rw [e, pur_run h]
  exact ⟨rfl, rfl⟩

theorem OQ.move {x : Operand} (hx : ev E x = some v) : OQ P n E C ⟨dst, .move x, ty, pos, aft, g⟩ v := by
  refine ⟨fun a ha w hw => ?_⟩
  have := ha.eval hx
  exact ⟨rfl, this⟩
theorem OQ.assign {x : Operand} (hx : ev E x = some v) : OQ P n E C ⟨dst, .assign x, ty, pos, aft, g⟩ v := by
  refine ⟨fun a ha w hw => ?_⟩
  have := ha.eval hx
  exact ⟨rfl, this⟩

/-- The value of one operation by hand: it yields v in every world of the class, which is left as it is. -/
theorem OQ.run {op : Op} (h : ∀ a, Knows n E a → ∀ w, C w → (execOp a.eval ⟨dst, op, ty, pos, aft, g⟩).run P w = .ok (.value v) w) : OQ P n E C ⟨dst, op, ty, pos, aft, g⟩ v := by
  refine ⟨fun a ha w hw => ?_⟩
  unfold Oper.quietAt
  rw [h a ha w hw]
  exact ⟨rfl, rfl⟩
end
end Sl
end Go.Proofs.YtdabhneehconeaaGreatDoor

/-
  Of no statement by itself: rules for code, regions (also those whose order Go leaves open), loops, calls and returns, over X's partial knowledge of frame and memory, for any program P.
  Conditions: each rule's own hypotheses.
-/
namespace Go.Proofs.YtdabhneehconeaaGreatDoor
namespace Sl

/-! ### a region whose order is open: quiet operations first, then a chain -/
section
variable {P : Program} {md : Region.Mode} {ops : Array Oper} {C : World → Prop} {n : Nat}
def anyT (P : Program) (md : Region.Mode) (ops : Array Oper) (C : World → Prop) (n : Nat) (L : Array Bool → Act → Prop) : Nat → Array Bool → Act → Prop
  | 0, done, a => L done a
  | f + 1, done, a => Region.ready md ops done ≠ [] ∧ ∀ i ∈ Region.ready md ops done, i < n ∧ qOp P ops C i (anyT P md ops C n L f (done.setIfInBounds i true)) a

theorem any_of_anyT {g : Nat} {L : Array Bool → Act → Prop} {Q : Exit → Act → World → Prop} (hL : ∀ done a w, C w → L done a → wpAny P md ops Q g done a w) :
    ∀ (f : Nat) (done : Array Bool) (a : Act) (w : World), C w → anyT P md ops C n L f done a → wpAny P md ops Q (f + g) done a w
  | 0, done, a, w, hw, h => by rw [Nat.zero_add]; exact hL _ _ _ hw h
  | f + 1, done, a, w, hw, h => by
    rw [show f + 1 + g = (f + g) + 1 by omega]
    exact ⟨fun h0 => absurd h0 h.1, fun i hi => wpOp_of_qOp hw (fun a' w' hw' h' => any_of_anyT hL f _ a' w' hw' h') (h.2 i hi).2⟩

theorem anyT_first {i : Nat} {oi : Oper} {v : Value} {L : Array Bool → Act → Prop} (hi : ops[i]? = some oi) (hsel : ∀ (j : Nat) (o : Oper) cs b, ops[j]? = some o → o.op ≠ .select cs b)
    (hs : Region.sinkB md ops n = true) (hc : Region.chainB md ops n = true) (hn : n < ops.size) (hin : i < n)
    (hend : ∀ done a, L done a → ∀ j ∈ Region.ready md ops done, n ≤ j) :
    ∀ (f : Nat) (done : Array Bool) (a : Act), HeadInv md ops n done →
      (∀ j oj, ops[j]? = some oj → j ≠ i → done.getD j true = false → (∀ e ∈ oj.after, Region.binds md e = true → e.on ≠ i) → oi.apart ops oj = true) →
      i ∈ Region.ready md ops done → YieldsIn P ops C oi v a →
      anyT P md ops C n L f (done.setIfInBounds i true) (a.put oi.dst v) → anyT P md ops C n L (f + 1) done a := by
  intro f
  induction f with
  | zero =>
    intro done a inv _ hr hy H
    have hun := (mem_ready.1 hr).1
    refine ⟨fun h => (by rw [h] at hr; cases hr), fun j hj => ?_⟩
    have hjn : j < n := Nat.lt_of_not_le fun h => tail_waits hs hc hn inv _ i rfl hin hun j h hj
    refine ⟨hjn, ?_⟩
    by_cases hji : j = i
    · subst hji; exact hy.qOp hi H
    · exact absurd (hend _ _ H j (ready_mono hj hji)) (by omega)
  | succ f ih =>
    intro done a inv hfree hr hy H
    have hun := (mem_ready.1 hr).1
    refine ⟨fun h => (by rw [h] at hr; cases hr), fun j hj => ?_⟩
    have hjn : j < n := Nat.lt_of_not_le fun h => tail_waits hs hc hn inv _ i rfl hin hun j h hj
    refine ⟨hjn, ?_⟩
    by_cases hji : j = i
    · subst hji; exact hy.qOp hi H
    · obtain ⟨hjun, oj, hoj, hall⟩ := mem_ready.1 hj
      have hnot : ∀ e ∈ oj.after, Region.binds md e = true → e.on ≠ i := fun e he hb heq => by
        have h1 := hall e he hb
        rw [heq, getD_both hun] at h1
        cases h1
      have h2 := qOp_put hoj (hfree j oj hoj hji hjun hnot) (fun cs b => hsel i oi cs b hi) (fun cs b => hsel j oj cs b hoj) hy (H.2 j (ready_mono hj hji)).2
      refine qOp_mono (fun a' h3 => ih (done.setIfInBounds j true) a' (inv.set hj hjn) (fun k ok hk hki hkun hno => hfree k ok hk hki ?_ hno) (ready_mono hr (Ne.symm hji)) h3.1 ?_) h2
      · by_cases hjk : j = k
        · subst hjk; exact hjun
        · rwa [getD_set_ne true hjk] at hkun
      · rw [Array.setIfInBounds_comm _ _ hji]
        exact h3.2

theorem anyT_lex {g : Nat} {Φ : Act → Prop} (hsel : Region.noSelect ops = true) (hs : Region.sinkB md ops n = true) (hc : Region.chainB md ops n = true) (hn : n < ops.size) :
    ∀ (l : List Oper) (k : Nat) (done : Array Bool) (a : Act), (∀ j, j < l.length → l[j]? = ops[k + j]?) → k + l.length = n → HeadInv md ops n done →
    Region.lexHead md ops g l.length k done = true → wpQuiet P ops C Φ l a →
    anyT P md ops C n (fun done' a' => Region.seqB md ops g n done' = true ∧ Φ a') l.length done a
  | [], k, done, a, _, hk, _, hB, h => by
    have : k = n := by simpa using hk
    subst this
    exact ⟨by simpa [Region.lexHead] using hB, h⟩
  | o :: l, k, done, a, hl, hk, inv, hB, h => by
    have h0 : ops[k]? = some o := by simpa using (hl 0 (by simp)).symm
    simp only [List.length_cons, Region.lexHead, Bool.and_eq_true] at hB
    obtain ⟨⟨hr, hf⟩, hB'⟩ := hB
    have hkn : k < n := by simp only [List.length_cons] at hk; omega
    have hr' : k ∈ Region.ready md ops done := by simpa using hr
    have hst : qOp P ops C k (wpQuiet P ops C Φ l) a := by unfold qOp; simp only [h0]; exact h
    obtain ⟨v, hy, hK⟩ := yieldsIn_of_qOp h0 hst
    exact anyT_first h0 (Region.noSelect_spec hsel) hs hc hn hkn (fun done' a' hL => seqB_ready hL.1) l.length done a inv (Region.free_spec h0 hf) hr' hy
      (anyT_lex hsel hs hc hn l (k + 1) _ _ (fun j hj => by have := hl (j + 1) (by simp; omega); simpa [Nat.add_assoc, Nat.add_comm 1 j] using this) (by simp only [List.length_cons] at hk; omega) (inv.set hr' hkn) hB' hK)

theorem wp_region_quiet_tail {id : Nat} {Q : Exit → Act → World → Prop} {a : Act} {w : World} {l : List Oper} (n : Nat) (hm : P.follows .mixedOrders = true) (hB : Region.lexTailB .any l.toArray n = true)
    (hC : C { w with drawn := w.drawn + 1 })
    (h : wpQuiet P l.toArray C (fun a' => ∀ w', C w' → wpList P l.toArray Q (l.drop n) a' w') (l.take n) a) : (Code.region id l.toArray true).wp P Q a w := by
  simp only [Region.lexTailB, Bool.and_eq_true, decide_eq_true_eq] at hB
  obtain ⟨⟨⟨⟨hsel, hn⟩, hs⟩, hc⟩, hlex⟩ := hB
  have hn' : n < l.length := by simpa using hn
  have htl : (l.take n).length = n := by simp; omega
  have hdl : (l.drop n).length = l.toArray.size - n := by simp
  have inv0 : HeadInv .any l.toArray n (Array.replicate l.toArray.size false) :=
    ⟨by simp, fun j oj _ hl => (by rw [getD_replicate_false] at hl; cases hl), fun t _ ht => getD_in (by simpa using ht) (getD_replicate_false _ _)⟩
  have H := anyT_lex (P := P) (C := C) (md := .any) (g := l.toArray.size - n) hsel hs hc hn (l.take n) 0 _ a (fun j hj => by
    have hj' : j < n := by rw [htl] at hj; exact hj
    simp [hj']) (by simpa using htl) inv0 (by rw [htl]; exact hlex) h
  refine wp_region_any hm ?_
  have := any_of_anyT (Q := Q) (g := l.toArray.size - n) (fun done a' w' hw' hL => by
    have := wpAny_of_seq (md := .any) (Q' := Q) (l.drop n) n done a' w' (fun j => by simp [List.getElem?_drop]) (by rw [hdl]; exact hL.1) (hL.2 w' hw')
    rwa [hdl] at this) _ _ _ _ hC H
  rw [htl, show n + (l.toArray.size - n) = l.toArray.size by omega] at this
  exact this
end

/-! ### the judgements -/
section
variable {P : Program} {n : Nat} {w0 : World} {S : List Nat} {ops : Array Oper} {Q Q' : Exit → Act → World → Prop} {l : List Oper} {E E' : Env} {M M' : List Ent}

structure JL (P : Program) (n : Nat) (w0 : World) (S : List Nat) (ops : Array Oper) (Q : Exit → Act → World → Prop) (l : List Oper) (E : Env) (M : List Ent) : Prop where
  go : ∀ a w, Knows n E a → Holds w0 S M w → wpList P ops Q l a w
structure JE (n : Nat) (w0 : World) (S : List Nat) (Q : Exit → Act → World → Prop) (e : Exit) (E : Env) (M : List Ent) : Prop where
  go : ∀ a w, Knows n E a → Holds w0 S M w → Q e a w
structure JC (P : Program) (n : Nat) (w0 : World) (S : List Nat) (Q : Exit → Act → World → Prop) (c : Code) (E : Env) (M : List Ent) : Prop where
  go : ∀ a w, Knows n E a → Holds w0 S M w → c.wp P Q a w
structure JQ (P : Program) (n : Nat) (w0 : World) (S : List Nat) (ops : Array Oper) (M : List Ent) (Φ : Act → Prop) (l : List Oper) (E : Env) : Prop where
  go : ∀ a, Knows n E a → wpQuiet P ops (Holds w0 S M) Φ l a

theorem JC.seq {x y : Code} (h : JC P n w0 S (Exit.then (y.wp P Q) Q) x E M) : JC P n w0 S Q (.seq x y) E M := ⟨fun a w ha hw => wp_seq (h.go a w ha hw)⟩
theorem JC.skip (h : JE n w0 S Q .normal E M) : JC P n w0 S Q .skip E M := ⟨fun a w ha hw => wp_skip (h.go a w ha hw)⟩
theorem JC.label {k : Nat} (h : JE n w0 S Q .normal E M) : JC P n w0 S Q (.label k) E M := ⟨fun a w ha hw => wp_label (h.go a w ha hw)⟩
theorem JC.exit {id : Nat} (h : JE n w0 S Q (.exit id) E M) : JC P n w0 S Q (.exit id) E M := ⟨fun a w ha hw => wp_exit (h.go a w ha hw)⟩
theorem JC.ret (h : JE n w0 S Q .ret E M) : JC P n w0 S Q .ret E M := ⟨fun a w ha hw => wp_ret (h.go a w ha hw)⟩
theorem JC.block {id : Nat} {c : Code} (h : JC P n w0 S (Exit.inBlock id Q) c E M) : JC P n w0 S Q (.block id c) E M := ⟨fun a w ha hw => wp_block (h.go a w ha hw)⟩
theorem JC.cond {c : Operand} {x y : Code} {t : Bool} (hc : ev E c = some (.bool t)) (ht : t = true → JC P n w0 S Q x E M) (hf : t = false → JC P n w0 S Q y E M) : JC P n w0 S Q (.cond c x y) E M :=
  ⟨fun a w ha hw => wp_cond_split (ha.eval hc) (fun h => (ht h).go a w ha hw) (fun h => (hf h).go a w ha hw)⟩
theorem JC.cond_true {c : Operand} {x y : Code} {t : Bool} (hc : ev E c = some (.bool t)) (h : t = true) (ht : JC P n w0 S Q x E M) : JC P n w0 S Q (.cond c x y) E M :=
  JC.cond hc (fun _ => ht) (fun h' => by rw [h] at h'; cases h')
theorem JC.cond_false {c : Operand} {x y : Code} {t : Bool} (hc : ev E c = some (.bool t)) (h : t = false) (hf : JC P n w0 S Q y E M) : JC P n w0 S Q (.cond c x y) E M :=
  JC.cond hc (fun h' => by rw [h] at h'; cases h') (fun _ => hf)
theorem JC.region {id : Nat} {l : List Oper} (h : JL P n w0 S l.toArray Q l E M) : JC P n w0 S Q (.region id l.toArray false) E M := ⟨fun a w ha hw => wp_region_lit (h.go a w ha hw)⟩
theorem JC.quiet {id : Nat} {l : List Oper} (hm : P.follows .mixedOrders = true) (hB : Region.lexB .any l.toArray = true)
    (h : JQ P n w0 S l.toArray M (fun a' => ∀ w', Holds w0 S M w' → Q .normal a' w') l E) : JC P n w0 S Q (.region id l.toArray true) E M :=
  ⟨fun a _ ha hw => wp_region_quiet hm hB (hw.drawn _) (by simpa using h.go a ha)⟩
theorem JC.tail {id : Nat} {l : List Oper} (m : Nat) (hm : P.follows .mixedOrders = true) (hB : Region.lexTailB .any l.toArray m = true)
    (h : JQ P n w0 S l.toArray M (fun a' => ∀ w', Holds w0 S M w' → wpList P l.toArray Q (l.drop m) a' w') (l.take m) E) : JC P n w0 S Q (.region id l.toArray true) E M :=
  ⟨fun a _ ha hw => wp_region_quiet_tail m hm hB (hw.drawn _) (h.go a ha)⟩
theorem JC.weak {c : Code} (h : JC P n w0 S Q c E' M') (hE : SubE E E') (hM : Less M' M) : JC P n w0 S Q c E M :=
  ⟨fun a w ha hw => h.go a w (ha.sub hE) (hw.weak hM)⟩
theorem JE.weak {e : Exit} (h : JE n w0 S Q e E' M') (hE : SubE E E') (hM : Less M' M) : JE n w0 S Q e E M :=
  ⟨fun a w ha hw => h.go a w (ha.sub hE) (hw.weak hM)⟩

/-- A loop, its rounds counted down by a measure; i ranges over what the heads of rounds know. -/
theorem JC.loop {ι : Type} (Ei : ι → Env) (Mi : ι → List Ent) (μ : ι → Nat) (I : ι → Prop) {c : Code} (i : ι) (hi : I i) (hE : SubE E (Ei i)) (hM : Less (Mi i) M)
    (h : ∀ i, I i → JC P n w0 S (Exit.then (fun a' w' => ∃ j, I j ∧ μ j < μ i ∧ Knows n (Ei j) a' ∧ Holds w0 S (Mi j) w') Q) c (Ei i) (Mi i)) : JC P n w0 S Q (.loop c) E M := by
  refine ⟨fun a w ha hw => ?_⟩
  have ha' := ha.sub hE
  have hw' := hw.weak hM
  clear ha hw hE hM
  have key : ∀ m i, μ i = m → I i → ∀ a w, Knows n (Ei i) a → Holds w0 S (Mi i) w → ∀ (b : Frame) (k : List Item) (cs : List Frame),
      ∃ e a' w', Q e a' w' ∧ Arrives P (lone (b.at a (.code c :: .inLoop c :: k)) cs w) b k cs e a' w' := by
    intro m
    induction m using Nat.strongRecOn with
    | _ m ih =>
      intro i hm hI a w ha hw b k cs
      obtain ⟨e, a₁, w₁, hq, harr⟩ := (h i hI).go a w ha hw b (.inLoop c :: k) cs
      cases e with
      | normal =>
        obtain ⟨j, hj, hlt, ha₁, hw₁⟩ := hq
        obtain ⟨e₂, a₂, w₂, hq₂, harr₂⟩ := ih (μ j) (hm ▸ hlt) j rfl hj a₁ w₁ ha₁ hw₁ b k cs
        exact ⟨e₂, a₂, w₂, hq₂, .of_steps (Steps.trans harr (.one step_inLoop)) harr₂⟩
      | exit id => exact ⟨_, a₁, w₁, hq, .pass (x := .inLoop c) rfl (fun _ _ => .inl (by simp)) harr⟩
      | goto l => exact ⟨_, a₁, w₁, hq, .pass (x := .inLoop c) rfl (fun _ _ => .inl (by simp)) harr⟩
      | ret => exact ⟨_, a₁, w₁, hq, .pass (x := .inLoop c) rfl (fun _ _ => .inl (by simp)) harr⟩
      | panic ch => exact ⟨_, a₁, w₁, hq, .pass (x := .inLoop c) rfl (fun _ _ => .inl (by simp)) harr⟩
      | outgrown => exact ⟨_, a₁, w₁, hq, .pass (x := .inLoop c) rfl (fun _ _ => .inl (by simp)) harr⟩
  intro b k cs
  obtain ⟨e, a', w', hq, harr⟩ := key _ i rfl hi a w ha' hw' b k cs
  exact ⟨e, a', w', hq, .of_steps (.one step_loop) harr⟩

theorem JE.next {y : Code} (h : JC P n w0 S Q' y E M) : JE n w0 S (Exit.then (y.wp P Q') Q) .normal E M := ⟨h.go⟩
theorem JE.again {ι : Type} {Ei : ι → Env} {Mi : ι → List Ent} {μ : ι → Nat} {I : ι → Prop} {i : ι} (j : ι) (hj : I j) (hμ : μ j < μ i) (hE : SubE E (Ei j)) (hM : Less (Mi j) M) :
    JE n w0 S (Exit.then (fun a' w' => ∃ j, I j ∧ μ j < μ i ∧ Knows n (Ei j) a' ∧ Holds w0 S (Mi j) w') Q) .normal E M :=
  ⟨fun _ _ ha hw => ⟨j, hj, hμ, ha.sub hE, hw.weak hM⟩⟩
theorem JE.then_exit {K : Act → World → Prop} {id : Nat} (h : JE n w0 S Q (.exit id) E M) : JE n w0 S (Exit.then K Q) (.exit id) E M := ⟨h.go⟩
theorem JE.then_ret {K : Act → World → Prop} (h : JE n w0 S Q .ret E M) : JE n w0 S (Exit.then K Q) .ret E M := ⟨h.go⟩
theorem JE.blk_normal {id : Nat} (h : JE n w0 S Q .normal E M) : JE n w0 S (Exit.inBlock id Q) .normal E M := ⟨h.go⟩
theorem JE.blk_ret {id : Nat} (h : JE n w0 S Q .ret E M) : JE n w0 S (Exit.inBlock id Q) .ret E M := ⟨h.go⟩
theorem JE.blk_hit {id : Nat} (h : JE n w0 S Q .normal E M) : JE n w0 S (Exit.inBlock id Q) (.exit id) E M := ⟨fun a w ha hw => by
  show (if id = id then Q .normal a w else _)
  rw [if_pos rfl]; exact h.go a w ha hw⟩
theorem JE.blk_miss {id id' : Nat} (hne : (id == id') = false) (h : JE n w0 S Q (.exit id) E M) : JE n w0 S (Exit.inBlock id' Q) (.exit id) E M := ⟨fun a w ha hw => by
  show (if id = id' then _ else Q (.exit id) a w)
  rw [if_neg (by simpa using hne)]; exact h.go a w ha hw⟩

theorem JL.nil (h : JE n w0 S Q .normal E M) : JL P n w0 S ops Q [] E M := ⟨h.go⟩
theorem JQ.nil (h : JE n w0 S Q .normal E M) : JQ P n w0 S ops M (fun a' => ∀ w', Holds w0 S M w' → Q .normal a' w') [] E := ⟨fun a ha w hw => h.go a w ha hw⟩
theorem JQ.nil_tail {l' : List Oper} (h : JL P n w0 S ops Q l' E M) : JQ P n w0 S ops M (fun a' => ∀ w', Holds w0 S M w' → wpList P ops Q l' a' w') [] E := ⟨fun a ha w hw => h.go a w ha hw⟩

variable {d : Nat} {op : Op} {ty : TypeId} {pos : String} {aft : Array Edge} {v : Value}
theorem JL.q (h : OQ P n E (Holds w0 S M) ⟨some d, op, ty, pos, aft, none⟩ v) (hd : Nat.blt d n = true) (k : JL P n w0 S ops Q l ((d, v) :: E) M) : JL P n w0 S ops Q (⟨some d, op, ty, pos, aft, none⟩ :: l) E M :=
  ⟨fun a _ ha hw => wpList_plain rfl fun _ hK => Oper.wp_of_quiet (C := Holds w0 S M) (K := fun a' => a' = a.put (some d) v) hw (fun _ _ hw' e => hK _ _ (e ▸ k.go _ _ (ha.put d v hd) hw')) ⟨v, h.go a ha, rfl⟩⟩
theorem JQ.q {Φ : Act → Prop} (h : OQ P n E (Holds w0 S M) ⟨some d, op, ty, pos, aft, none⟩ v) (hd : Nat.blt d n = true) (k : JQ P n w0 S ops M Φ l ((d, v) :: E)) : JQ P n w0 S ops M Φ (⟨some d, op, ty, pos, aft, none⟩ :: l) E :=
  ⟨fun a ha => wpQuiet_step fun _ hK => by
    simp only [Region.wanted, if_true]
    exact ⟨v, h.go a ha, hK _ (k.go _ (ha.put d v hd))⟩⟩

/-! ### guards -/
def guardIs (ops : Array Oper) (E : Env) (j : Nat) : Option Bool :=
  match (ops[j]?).bind (·.dst) with
  | some s => match lk E s with
    | some (.bool b) => some b
    | _ => none
  | none => none
theorem guard_spec {j : Nat} {b : Bool} (h : guardIs ops E j = some b) {a : Act} (ha : Knows n E a) (hn : ∀ s, (ops[j]?).bind (·.dst) = some s → Nat.blt s n = true) : yielded ops a.tmps j = some b := by
  unfold guardIs at h
  unfold yielded
  cases hs : (ops[j]?).bind (·.dst) with
  | none => simp [hs] at h
  | some s =>
    simp only [hs] at h
    have hlt : s < n := by simpa using hn s hs
    cases hv : lk E s with
    | none => simp [hv] at h
    | some u =>
      have h1 := ha.all s u hv
      have h2 : a.tmps[s]? = some u := by
        have : s < a.tmps.size := by rw [ha.size]; exact hlt
        rw [Array.getElem?_eq_getElem this]
        simpa [Array.getD, this] using h1
      simp only [hv] at h
      cases u <;> simp at h
      subst h
      simp [h2]
def guardFits (ops : Array Oper) (n j : Nat) : Bool := match (ops[j]?).bind (·.dst) with | some s => Nat.blt s n | none => false
theorem guardFits_spec {j : Nat} (h : guardFits ops n j = true) : ∀ s, (ops[j]?).bind (·.dst) = some s → Nat.blt s n = true := by
  intro s hs
  simpa [guardFits, hs] using h
variable {j : Nat} {want b : Bool}
theorem wanted_of (h : guardIs ops E j = some b) (hf : guardFits ops n j = true) {a : Act} (ha : Knows n E a) : Region.wanted ⟨some d, op, ty, pos, aft, some (j, want)⟩ (yielded ops a.tmps) = (b == want) := by
  simp only [Region.wanted, guard_spec h ha (guardFits_spec hf)]
  cases b <;> cases want <;> rfl
theorem JL.gskip (hg : guardIs ops E j = some b) (hf : guardFits ops n j = true) (hne : (b == want) = false) (hd : Nat.blt d n = true)
    (k : JL P n w0 S ops Q l ((d, undef) :: E) M) : JL P n w0 S ops Q (⟨some d, op, ty, pos, aft, some (j, want)⟩ :: l) E M :=
  ⟨fun a w ha hw => wpList_skip (by rw [wanted_of hg hf ha]; exact hne) (k.go _ _ (ha.put d undef hd) hw)⟩
end
end Sl
end Go.Proofs.YtdabhneehconeaaGreatDoor

/-
  Of no statement by itself: rules for calls, loads, stores, new blocks, a function's entry and its return, over X's partial knowledge of frame and memory, for any program P.
  Conditions: each rule's own hypotheses.
-/
namespace Go.Proofs.YtdabhneehconeaaGreatDoor
namespace Sl

/-! ### what is known of a block -/
def cellAt : Obj → Nat → Option Value
  | .cells c _ _, j => c[j]?
  | _, _ => none
/-- exactly these cells, none of them frozen -/
def Row (e : TypeId) (l : List Value) : Obj → Prop := fun o => o = .cells l.toArray e (0, 0)
/-- these cells first, whatever lies behind them; none frozen -/
def Buf (e : TypeId) (l : List Value) : Obj → Prop := fun o => ∃ sp : List Value, o = .cells (l ++ sp).toArray e (0, 0)
/-- cells from j on -/
def hasCells (o : Obj) (j : Nat) (cs : List Value) : Prop := ∃ c e fr, o = .cells c e fr ∧ ∀ i, i < cs.length → c[j + i]? = cs[i]?

theorem Row.cell {e : TypeId} {l : List Value} {j : Nat} {v : Value} (h : l[j]? = some v) : ∀ o, Row e l o → cellAt o j = some v := by
  rintro o rfl
  simpa [cellAt] using h
theorem Buf.cell {e : TypeId} {l : List Value} {j : Nat} {v : Value} (h : l[j]? = some v) : ∀ o, Buf e l o → cellAt o j = some v := by
  rintro o ⟨sp, rfl⟩
  have hj : j < l.length := (List.getElem?_eq_some_iff.1 h).1
  simpa [cellAt, List.getElem?_append_left hj] using h
theorem Row.cells {e : TypeId} {l cs : List Value} {j : Nat} (h : (l.drop j).take cs.length = cs) : ∀ o, Row e l o → hasCells o j cs := by
  rintro o rfl
  refine ⟨_, _, _, rfl, fun i hi => ?_⟩
  rw [← h]
  simp [hi]
theorem Row.all {e : TypeId} {l : List Value} : ∀ o, Row e l o → hasCells o 0 l := Row.cells (by simp)

/-! ### types -/
def aggT (P : Program) (t : TypeId) : Bool :=
  match P.underlying t with
  | some (.struct _) | some (.array _ _) => true
  | _ => false
def scal (P : Program) (t : TypeId) : Bool :=
  match P.underlying t with
  | some (.struct _) | some (.array _ _) | none => false
  | _ => true
def szT (P : Program) (t : TypeId) : Option Nat := (P.info? t).map (·.size)

section
variable {P : Program} {t : TypeId} {w w' : World} {b j : Nat} {v : Value} {cs : List Value}

theorem isAgg_scal (h : scal P t = true) (w : World) : (isAgg t).run P w = .ok false w := by
  unfold scal at h
  cases hu : P.underlying t with
  | none => simp [hu] at h
  | some d =>
    unfold isAgg
    rw [Sem.run_bind, run_underlying hu w]
    cases d <;> simp_all
theorem isAgg_agg (h : aggT P t = true) (w : World) : (isAgg t).run P w = .ok true w := by
  unfold aggT at h
  cases hu : P.underlying t with
  | none => simp [hu] at h
  | some d =>
    unfold isAgg
    rw [Sem.run_bind, run_underlying hu w]
    cases d <;> simp_all
theorem sizeOf_run {k : Nat} (h : szT P t = some k) (w : World) : (sizeOf t).run P w = .ok k w := by
  unfold szT at h
  cases hq : P.info? t with
  | none => simp [hq] at h
  | some i =>
    have hs : i.size = k := by simpa [hq] using h
    simp [sizeOf, typeInfo, hq, hs]

theorem add_off (b j i : Nat) : (⟨b, j, none⟩ : Addr).add i = ⟨b, j + i, none⟩ := by
  unfold Addr.add
  split <;> simp_all

theorem loadVar_scal (hs : scal P t = true) (hc : w.cell? ⟨b, j, none⟩ = some v) : (loadVar t ⟨b, j, none⟩).run P w = .ok v w := by
  simp [loadVar, Sem.run_bind, isAgg_scal hs, load, Sem.run, hc]
theorem loadVar_agg (ha : aggT P t = true) (hz : szT P t = some cs.length) (hc : ∀ i u, cs[i]? = some u → w.cell? ⟨b, j + i, none⟩ = some u) : (loadVar t ⟨b, j, none⟩).run P w = .ok (.agg cs.toArray) w := by
  have hl : (loadCells ⟨b, j, none⟩ cs.length).run P w = .ok cs.toArray w := run_loadCells_list (P := P) w ⟨b, j, none⟩ cs (fun i u hu => by rw [add_off]; exact hc i u hu)
  simp [loadVar, Sem.run_bind, isAgg_agg ha, sizeOf_run hz, hl]

theorem cell_of {o : Obj} (ho : w.heap[b]? = some o) (h : cellAt o j = some v) : w.cell? ⟨b, j, none⟩ = some v := by
  unfold World.cell?
  simp only [ho]
  cases o <;> simp_all [cellAt]
theorem cells_of {o : Obj} (ho : w.heap[b]? = some o) (h : hasCells o j cs) : ∀ i u, cs[i]? = some u → w.cell? ⟨b, j + i, none⟩ = some u := by
  intro i u hu
  obtain ⟨c, e, fr, rfl, hc⟩ := h
  have hi : i < cs.length := (List.getElem?_eq_some_iff.1 hu).1
  exact cell_of ho (by simp [cellAt, hc i hi, hu])
end

section
variable {P : Program} {n : Nat} {w0 : World} {S : List Nat} {ops : Array Oper} {Q : Exit → Act → World → Prop} {l : List Oper} {E : Env} {M M' : List Ent} {C : World → Prop}
variable {dst : Option Tmp} {d b j : Nat} {op : Op} {t ty : TypeId} {pos : String} {aft : Array Edge} {g : Option (Nat × Bool)} {v : Value} {x y : Operand} {A A' : Obj → Prop} {wr : Bool} {cs : List Value}

/-! ### loads -/
theorem OQ.load_at (ha : ∀ w, C w → (loadVar t ⟨b, j, none⟩).run P w = .ok v w) (hx : ev E x = some (.pointer (some ⟨b, j, none⟩))) : OQ P n E C ⟨dst, .load t x, ty, pos, aft, g⟩ v :=
  OQ.run fun a hk w hw => by
    have := hk.eval hx
    simp [execOp, this, Instr.loadAt, Instr.sureAddr, ha w hw]
theorem OQ.load (hs : scal P t = true) (hx : ev E x = some (.pointer (some ⟨b, j, none⟩))) (hM : Has M b A wr) (hA : ∀ o, A o → cellAt o j = some v) : OQ P n E (Holds w0 S M) ⟨dst, .load t x, ty, pos, aft, g⟩ v :=
  OQ.load_at (fun _ hw => let ⟨_, ho, hAo⟩ := hw.get hM; loadVar_scal hs (cell_of ho (hA _ hAo))) hx
theorem OQ.load_old (hs : scal P t = true) (hx : ev E x = some (.pointer (some ⟨b, j, none⟩))) (hb : b < w0.heap.size) (hS : b ∉ S) (hc : w0.cell? ⟨b, j, none⟩ = some v) : OQ P n E (Holds w0 S M) ⟨dst, .load t x, ty, pos, aft, g⟩ v :=
  OQ.load_at (fun w hw => loadVar_scal hs (by simpa [World.cell?, hw.old hb hS] using hc)) hx
theorem OQ.load_agg {k : Nat} (ha : aggT P t = true) (hz' : szT P t = some k) (hx : ev E x = some (.pointer (some ⟨b, j, none⟩))) (hM : Has M b A wr) (hl : cs.length = k) (hA : ∀ o, A o → hasCells o j cs) : OQ P n E (Holds w0 S M) ⟨dst, .load t x, ty, pos, aft, g⟩ (.agg cs.toArray) :=
  OQ.load_at (fun _ hw => let ⟨_, ho, hAo⟩ := hw.get hM; loadVar_agg ha (hl ▸ hz') (cells_of ho (hA _ hAo))) hx
theorem OQ.load_agg_old (ha : aggT P t = true) (hx : ev E x = some (.pointer (some ⟨b, j, none⟩))) (hz : szT P t = some cs.length) (hb : b < w0.heap.size) (hS : b ∉ S) (hc : ∀ i u, cs[i]? = some u → w0.cell? ⟨b, j + i, none⟩ = some u) : OQ P n E (Holds w0 S M) ⟨dst, .load t x, ty, pos, aft, g⟩ (.agg cs.toArray) :=
  OQ.load_at (fun w hw => loadVar_agg ha hz (fun i u hu => by simpa [World.cell?, hw.old hb hS] using hc i u hu)) hx

/-! ### calls of functions with a body -/
def Goes (P : Program) (f : FuncId) : Prop := ∃ fn, P.funcs[f]? = some fn ∧ fn.body.isNone = false ∧ (fn.name == "runtime.NumGoroutine") = false
def evs (E : Env) : List Operand → Option (List Value)
  | [] => some []
  | x :: xs => match ev E x, evs E xs with
    | some v, some vs => some (v :: vs)
    | _, _ => none
theorem evs_map {a : Act} (hk : Knows n E a) : ∀ {xs : List Operand} {vs : List Value}, evs E xs = some vs → xs.map a.eval = vs
  | [], vs, h => by simpa [evs] using h
  | x :: xs, vs, h => by
    simp only [evs] at h
    cases h1 : ev E x with
    | none => simp [h1] at h
    | some v =>
      cases h2 : evs E xs with
      | none => simp [h1, h2] at h
      | some us =>
        simp only [h1, h2, Option.some.injEq] at h
        subst h
        simp [hk.eval h1, evs_map hk h2]
theorem exec_call {f : FuncId} {xs : List Operand} {ats : Array TypeId} {vs : List Value} {a : Act} (hg : Goes P f) (hk : Knows n E a) (hx : evs E xs = some vs) (w : World) :
    (execOp a.eval ⟨dst, .call ⟨.value (.func f), xs.toArray, ats⟩, ty, pos, aft, g⟩).run P w = .ok (.enter f vs.toArray) w := by
  obtain ⟨fn, h1, h2, h3⟩ := hg
  have hm : xs.toArray.map a.eval = vs.toArray := by simp [evs_map hk hx]
  have h2' : ¬ fn.body = none := fun h => by rw [h] at h2; cases h2
  have h3' : ¬ fn.name = "runtime.NumGoroutine" := by simpa using h3
  simp [execOp, resolve, Sem.run_bind, hm, Act.eval, Deferred.ofValue, invoke, callFunc, program, Sem.run, h1, h2', h3']
theorem OQ.call {f : FuncId} {xs : List Operand} {ats : Array TypeId} {vs : List Value} (hg : Goes P f) (hx : evs E xs = some vs) (hc : ∀ w, C w → Calls P f vs.toArray w fun e w' => e = .returned v ∧ C w') : OQ P n E C ⟨dst, .call ⟨.value (.func f), xs.toArray, ats⟩, ty, pos, aft, g⟩ v := by
  refine ⟨fun a hk w hw => ?_⟩
  unfold Oper.quietAt
  rw [exec_call hg hk hx w]
  exact ⟨rfl, hc w hw⟩
/-- .. of a function that keeps all blocks that are there. -/
theorem OQ.callx {f : FuncId} {xs : List Operand} {ats : Array TypeId} {vs : List Value} (hg : Goes P f) (hx : evs E xs = some vs) (hc : ∀ w, Holds w0 S M w → Calls P f vs.toArray w fun e w' => e = .returned v ∧ Ext w w') :
    OQ P n E (Holds w0 S M) ⟨dst, .call ⟨.value (.func f), xs.toArray, ats⟩, ty, pos, aft, g⟩ v :=
  OQ.call hg hx fun w hw => (hc w hw).mono fun _ _ ⟨h1, h2⟩ => ⟨h1, hw.ext h2⟩

theorem JL.call {ι : Type} (vf : ι → Value) (Mf : ι → List Ent) {f : FuncId} {xs : List Operand} {ats : Array TypeId} {vs : List Value} (hg : Goes P f) (hx : evs E xs = some vs) (hd : Nat.blt d n = true)
    (hc : ∀ w, Holds w0 S M w → Calls P f vs.toArray w fun e w' => ∃ i, e = .returned (vf i) ∧ Holds w0 S (Mf i) w')
    (k : ∀ i, JL P n w0 S ops Q l ((d, vf i) :: E) (Mf i)) : JL P n w0 S ops Q (⟨some d, .call ⟨.value (.func f), xs.toArray, ats⟩, ty, pos, aft, none⟩ :: l) E M :=
  ⟨fun a w ha hw => wpList_plain rfl fun K hK => by
    unfold Oper.wp
    rw [exec_call hg ha hx w]
    exact (hc w hw).mono fun e w' ⟨i, h1, h2⟩ => by subst h1; exact hK _ _ ((k i).go _ _ (ha.put d _ hd) h2)⟩

/-! ### new blocks -/
def pnew {α : Type} (P : Program) : Sem α → Option (Obj × (Nat → Sem α))
  | .new o k => some (o, k)
  | .program k => pnew P (k P)
  | .mark _ k => pnew P k
  | _ => none
theorem pnew_run {α : Type} {vf : Nat → α} {ob : Obj} {kk : Nat → Sem α} : ∀ {s : Sem α} {w : World}, pnew P s = some (ob, kk) → (∀ r, pur P (kk r) = some (vf r)) → s.run P w = .ok (vf w.heap.size) { w with heap := w.heap.push ob }
  | .new o k, w, h, h2 => by
    simp only [pnew, Option.some.injEq, Prod.mk.injEq] at h
    obtain ⟨rfl, rfl⟩ := h
    exact pur_run (h2 _)
  | .program k, w, h, h2 => by simp only [pnew] at h; exact pnew_run (s := k P) h h2
  | .mark _ k, w, h, h2 => by simp only [pnew] at h; exact pnew_run (s := k) h h2
  | .load .., _, h, _ | .store .., _, h, _ | .pure .., _, h, _ | .shape .., _, h, _ | .freeze .., _, h, _ | .frozen .., _, h, _ | .getObj .., _, h, _ | .setObj .., _, h, _ | .choose .., _, h, _ | .sys .., _, h, _ | .halt .., _, h, _ => by simp [pnew] at h
theorem exec_evd {o : Oper} {a : Act} (hs : noSel o.op = true) (hk : known E o.op = true) (ha : Knows n E a) : execOp a.eval o = execOp (evd E) o := by
  refine execOp_congr _ (fun cs b hh => ?_) fun x hx => ?_
  · rw [hh] at hs; simp [noSel] at hs
  · simp only [known, List.all_eq_true] at hk
    obtain ⟨u, hu⟩ := Option.isSome_iff_exists.1 (hk x (by simpa using hx))
    rw [ha.eval hu, evd, hu]; rfl
theorem JL.new (A : Obj → Prop) (vf : Nat → Value) {ob : Obj} {kk : Nat → Sem Next} (hs : noSel op = true) (hk : known E op = true) (h1 : pnew P (execOp (evd E) ⟨some d, op, ty, pos, aft, none⟩) = some (ob, kk))
    (h2 : ∀ r, pur P (kk r) = some (.value (vf r))) (hA : A ob) (hd : Nat.blt d n = true)
    (k : ∀ b, w0.heap.size ≤ b → JL P n w0 S ops Q l ((d, vf b) :: E) (⟨b, A, true⟩ :: M)) : JL P n w0 S ops Q (⟨some d, op, ty, pos, aft, none⟩ :: l) E M :=
  ⟨fun a w ha hw => wpList_plain rfl fun K hK => by
    unfold Oper.wp
    rw [exec_evd hs hk ha, pnew_run (vf := fun r => Next.value (vf r)) h1 h2]
    exact hK _ _ ((k w.heap.size hw.chg.size).go _ _ (ha.put d _ hd) (hw.push ob hA rfl rfl rfl rfl))⟩

@[reducible] def Pt (b j : Nat) : Value := .pointer (some ⟨b, j, none⟩)
def zc (P : Program) (t : TypeId) : Option (List Value) := ((P.info? t).bind (·.zero)).map (·.cells.toList)
theorem JL.alloc {r : List Value} (hz : zc P t = some r) (hd : Nat.blt d n = true)
    (k : ∀ b, w0.heap.size ≤ b → JL P n w0 S ops Q l ((d, Pt b 0) :: E) (⟨b, Row t r, true⟩ :: M)) : JL P n w0 S ops Q (⟨some d, .alloc t, ty, pos, aft, none⟩ :: l) E M :=
  ⟨fun a w ha hw => wpList_plain rfl fun K hK => by
    have hr : (Instr.alloc t true (.tuple #[])).run P w = .ok (Pt w.heap.size 0) { w with heap := w.heap.push (.cells r.toArray t (0, 0)) } := by
      unfold zc at hz
      cases hq : P.info? t with
      | none => simp [hq] at hz
      | some i =>
        cases hi : i.zero with
        | none => simp [hq, hi] at hz
        | some z =>
          simp only [hq, hi, Option.bind_some, Option.map_some, Option.some.injEq] at hz
          have h1 : z.cells = r.toArray := by rw [← hz]
          simp [Instr.alloc, zeroValue, typeInfo, Sem.run_bind, hq, hi, newVar, newRow, newObj, h1, Sem.run]
    unfold Oper.wp
    simp only [execOp, Sem.run_bind, hr, Result.andThen_ok]
    exact hK _ _ ((k w.heap.size hw.chg.size).go _ _ (ha.put d _ hd) (hw.push (.cells r.toArray t (0, 0)) rfl rfl rfl rfl rfl))⟩
theorem JL.box {r : List Value} (hx : ev E x = some v) (hr : v.cells = r.toArray) (hd : Nat.blt d n = true)
    (k : ∀ b, w0.heap.size ≤ b → JL P n w0 S ops Q l ((d, Pt b 0) :: E) (⟨b, Row t r, true⟩ :: M)) : JL P n w0 S ops Q (⟨some d, .box t x, ty, pos, aft, none⟩ :: l) E M :=
  ⟨fun a w ha hw => wpList_plain rfl fun K hK => by
    have h1 : (Instr.box t v).run P w = .ok (Pt w.heap.size 0) { w with heap := w.heap.push (.cells r.toArray t (0, 0)) } := by
      simp [Instr.box, newVar, newRow, newObj, hr, Sem.run]
    unfold Oper.wp
    simp only [execOp, ha.eval hx, Sem.run_bind, h1, Result.andThen_ok]
    exact hK _ _ ((k w.heap.size hw.chg.size).go _ _ (ha.put d _ hd) (hw.push (.cells r.toArray t (0, 0)) rfl rfl rfl rfl rfl))⟩
theorem map_at {α : Type} (f : α → Value) (d : α) {r : List α} {j : Nat} (h : j < r.length) : (r.map f)[j]? = some (f (r.getD j d)) := by
  simp [h]

/-! ### stores -/
theorem setCell_heap {w : World} {c : Array Value} {e : TypeId} {fr : Nat × Nat} (ho : w.heap[b]? = some (.cells c e fr)) :
    (w.setCell ⟨b, j, none⟩ v).heap[b]? = some (.cells (c.setIfInBounds j v) e fr) := by
  simp [World.setCell, Array.getElem?_modify, ho]
theorem setCell_other {w : World} {k : Nat} (h : k ≠ b) : (w.setCell ⟨b, j, none⟩ v).heap[k]? = w.heap[k]? := by
  simp [World.setCell, Array.getElem?_modify, Ne.symm h]
theorem setCell_size {w : World} : (w.setCell ⟨b, j, none⟩ v).heap.size = w.heap.size := by simp [World.setCell]

theorem store_run {w : World} {c : Array Value} {e : TypeId} (hv : v.oneCell' = true) (ho : w.heap[b]? = some (.cells c e (0, 0))) (hj : j < c.size) :
    (Go.store ⟨b, j, none⟩ v).run P w = .ok () (w.setCell ⟨b, j, none⟩ v) := by
  have hc : w.cell? ⟨b, j, none⟩ = some c[j] := by simp [World.cell?, ho, hj]
  have hf : w.frozen? ⟨b, j, none⟩ = false := by simp [World.frozen?, ho]
  cases v <;> simp_all [Go.store, Sem.run, Value.oneCell']

theorem storeCells_run {e : TypeId} : ∀ (vs : List Value) (i : Nat) (w : World) (c : List Value), (∀ v ∈ vs, v.oneCell' = true) → w.heap[b]? = some (.cells c.toArray e (0, 0)) → j + i + vs.length ≤ c.length →
    ∃ w', (storeCells ⟨b, j, none⟩ vs i).run P w = .ok () w' ∧ w'.heap[b]? = some (.cells (c.take (j + i) ++ vs ++ c.drop (j + i + vs.length)).toArray e (0, 0)) ∧ w'.heap.size = w.heap.size ∧
      (∀ k, k ≠ b → w'.heap[k]? = w.heap[k]?) ∧ w'.os = w.os ∧ w'.tape = w.tape ∧ w'.output = w.output
  | [], i, w, c, _, ho, _ => ⟨w, rfl, by simpa using ho, rfl, fun _ _ => rfl, rfl, rfl, rfl⟩
  | v :: vs, i, w, c, h1, ho, hl => by
    simp only [List.length_cons] at hl
    obtain ⟨w', r1, r2, r3, r4, r5, r6, r7⟩ := storeCells_run (e := e) vs (i + 1) (w.setCell ⟨b, j + i, none⟩ v) (c.set (j + i) v) (fun u hu => h1 u (by simp [hu])) (by
      rw [setCell_heap ho]; simp) (by simp; omega)
    refine ⟨w', ?_, ?_, r3.trans setCell_size, fun k hk => (r4 k hk).trans (setCell_other hk), r5, r6, r7⟩
    · simp only [storeCells, Sem.run_bind, add_off]
      rw [store_run (h1 v (by simp)) ho (by simp; omega)]
      exact r1
    · rw [r2]
      congr 3
      rw [List.take_set, List.drop_set, if_pos (by omega)]
      rw [show j + (i + 1) = j + i + 1 by omega, List.take_add_one]
      simp only [List.getElem?_eq_getElem (show j + i < c.length by omega), Option.toList_some, List.length_cons]
      rw [List.set_append_right _ _ (by rw [List.length_take]; omega)]
      simp [List.length_take, Nat.min_eq_left (show j + i ≤ c.length by omega), Nat.add_assoc, Nat.add_comm, Nat.add_left_comm]

theorem JL.eff {hb : Option Tmp} (h : ∀ a w, Knows n E a → Holds w0 S M w → ∃ w', (execOp a.eval ⟨hb, op, ty, pos, aft, none⟩).run P w = .ok .skip w' ∧ wpList P ops Q l (a.put hb undef) w') : JL P n w0 S ops Q (⟨hb, op, ty, pos, aft, none⟩ :: l) E M :=
  ⟨fun a w ha hw => wpList_plain rfl fun K hK => by
    obtain ⟨w', h1, h2⟩ := h a w ha hw
    unfold Oper.wp
    rw [h1]
    exact hK _ _ h2⟩

theorem JL.store (hx : ev E x = some (.pointer (some ⟨b, j, none⟩))) (hy : ev E y = some v) (hz : szT P t = some 1) (hv : v.oneCell' = true) (hcl : v.cells = #[v]) (hu : Upd M b A A' M')
    (hA : ∀ o, A o → ∃ c e, o = .cells c e (0, 0) ∧ j < c.size ∧ A' (.cells (c.setIfInBounds j v) e (0, 0)))
    (k : JL P n w0 S ops Q l E M') : JL P n w0 S ops Q (⟨none, .store t x y, ty, pos, aft, none⟩ :: l) E M :=
  JL.eff fun a w ha hw => by
    obtain ⟨o, ho, hAo⟩ := hw.get hu.has
    obtain ⟨c, e, rfl, hj, hA'⟩ := hA o hAo
    refine ⟨w.setCell ⟨b, j, none⟩ v, ?_, k.go _ _ (ha.put_none _) (hw.write hu hA' (setCell_heap ho) setCell_size (fun _ h => setCell_other h) rfl rfl rfl)⟩
    have hs : (storeCells ⟨b, j, none⟩ [v] 0).run P w = .ok () (w.setCell ⟨b, j, none⟩ v) := by
      simp only [storeCells, Sem.run_bind, add_off, Nat.add_zero]
      rw [store_run hv ho hj]; rfl
    simp [execOp, ha.eval hx, ha.eval hy, Instr.storeAt, Instr.sureAddr, Sem.run_bind, storeVar, sizeOf_run hz, hcl, hs]
theorem JL.store_eq {r r' : List Value} {e : TypeId} (hz : szT P t = some 1) (hx : ev E x = some (.pointer (some ⟨b, j, none⟩))) (hy : ev E y = some v) (hv : v.oneCell' = true) (hcl : v.cells = #[v]) (hu : Upd M b (Row e r) (Row e r') M') (hj : j < r.length) (he : r.set j v = r')
    (k : JL P n w0 S ops Q l E M') : JL P n w0 S ops Q (⟨none, .store t x y, ty, pos, aft, none⟩ :: l) E M :=
  JL.store hx hy hz hv hcl hu (fun o ho => ⟨_, _, ho, by simpa using hj, by simp [Row, he]⟩) k
theorem JL.store_agg {k : Nat} (hz' : szT P t = some k) (hx : ev E x = some (.pointer (some ⟨b, j, none⟩))) (hy : ev E y = some (.agg cs.toArray)) (hl : cs.length = k) (hv : cs.all Value.oneCell' = true) (hu : Upd M b A A' M')
    (hA : ∀ o, A o → ∃ r e, o = .cells (List.toArray r) e (0, 0) ∧ j + cs.length ≤ r.length ∧ A' (.cells (r.take j ++ cs ++ r.drop (j + cs.length)).toArray e (0, 0)))
    (k : JL P n w0 S ops Q l E M') : JL P n w0 S ops Q (⟨none, .store t x y, ty, pos, aft, none⟩ :: l) E M :=
  JL.eff fun a w ha hw => by
    have hz : szT P t = some cs.length := hl ▸ hz'
    obtain ⟨o, ho, hAo⟩ := hw.get hu.has
    obtain ⟨r, e, rfl, hj, hA'⟩ := hA o hAo
    obtain ⟨w', r1, r2, r3, r4, r5, r6, r7⟩ := storeCells_run (P := P) (j := j) cs 0 w r (fun v hv' => List.all_eq_true.1 hv v hv') ho (by omega)
    refine ⟨w', ?_, k.go _ _ (ha.put_none _) (hw.write hu hA' (by simpa using r2) r3 r4 r5 r6 r7)⟩
    simp [execOp, ha.eval hx, ha.eval hy, Instr.storeAt, Instr.sureAddr, Sem.run_bind, storeVar, sizeOf_run hz, Value.cells, r1]
/-- .. over the whole row -/
theorem JL.store_all {r : List Value} {e : TypeId} {m : Nat} (hz : szT P t = some m) (hx : ev E x = some (.pointer (some ⟨b, 0, none⟩))) (hy : ev E y = some (.agg cs.toArray)) (hc : cs.length = m) (hv : cs.all Value.oneCell' = true) (hu : Upd M b (Row e r) (Row e cs) M')
    (hr : r.length = m) (k : JL P n w0 S ops Q l E M') : JL P n w0 S ops Q (⟨none, .store t x y, ty, pos, aft, none⟩ :: l) E M :=
  JL.store_agg hz hx hy hc hv hu (fun o ho => ⟨r, e, ho, by omega, by simp [Row, hc, ← hr]⟩) k

/-! ### entry and return -/
def enum : Nat → List Value → Env
  | _, [] => []
  | i, v :: vs => (i, v) :: enum (i + 1) vs
theorem lk_enum : ∀ (vs : List Value) (i t : Nat) (v : Value), lk (enum i vs) t = some v → i ≤ t ∧ vs[t - i]? = some v
  | [], _, _, _, h => by simp [enum, lk] at h
  | u :: vs, i, t, v, h => by
    simp only [enum, lk] at h
    by_cases e : i = t
    · subst e
      simp at h
      simp [h]
    · have : Nat.beq i t = false := Bool.eq_false_iff.2 fun h => e (Nat.eq_of_beq_eq_true h)
      rw [this] at h
      obtain ⟨h1, h2⟩ := lk_enum vs (i + 1) t v h
      refine ⟨by omega, ?_⟩
      rw [show t - i = (t - (i + 1)) + 1 by omega]
      simpa using h2
theorem Knows.enter (vs : List Value) (hl : vs.length ≤ n) : Knows n (enum 0 vs) ⟨vs.toArray ++ Array.replicate (n - vs.toArray.size) undef, []⟩ := by
  refine ⟨by simp; omega, rfl, fun t v h => ?_⟩
  obtain ⟨_, h2⟩ := lk_enum vs 0 t v h
  have ht : t < vs.length := (List.getElem?_eq_some_iff.1 h2).1
  simp only [Nat.sub_zero] at h2
  have h3 := (List.getElem?_eq_some_iff.1 h2).2
  simp [Array.getD_eq_getD_getElem?, Array.getElem?_append, ht, h3]
theorem enter {f : FuncId} {fn : Func} {c : Code} {vs : List Value} {w : World} {R : Ending → World → Prop} (hf : P.funcs[f]? = some fn) (hb : fn.body = some c) (hn : fn.ntmps = n) (hl : Nat.ble vs.length n = true)
    (hM : Holds w S M w) (h : JC P n w S (bodyPost P fn R) c (enum 0 vs) M) : Calls P f vs.toArray w R := by
  refine calls_of_wp hf hb (h.go _ _ ?_ hM)
  rw [hn]
  exact Knows.enter vs (by simpa using hl)

def rvRun (tmps : Array Value) : ResultVar → Sem Value
  | .tmp t => pure (tmps.getD t undef)
  | .cell p ty => do loadVar ty (← asAddr (tmps.getD p undef))
theorem results_eq (fn : Func) (tmps : Array Value) : results fn tmps = (do let vs ← fn.results.mapM (rvRun tmps); pure (if h : vs.size = 1 then vs[0] else .tuple vs)) := by
  unfold results
  congr 2
def RV (P : Program) (n : Nat) (w0 : World) (S : List Nat) (E : Env) (M : List Ent) (r : ResultVar) (v : Value) : Prop :=
  ∀ a w, Knows n E a → Holds w0 S M w → (rvRun a.tmps r).run P w = .ok v w
theorem RV.tmp {t : Tmp} (h : lk E t = some v) : RV P n w0 S E M (.tmp t) v := fun a w ha _ => by
  simp only [rvRun, ha.all t v h]; rfl
theorem RV.cell_agg {p : Tmp} {k : Nat} (ha : aggT P t = true) (hz : szT P t = some k) (h : lk E p = some (.pointer (some ⟨b, 0, none⟩))) (hM : Has M b A wr) (hl : cs.length = k) (hA : ∀ o, A o → hasCells o 0 cs) : RV P n w0 S E M (.cell p t) (.agg cs.toArray) := fun a w hk hw => by
  obtain ⟨o, ho, hAo⟩ := hw.get hM
  have := loadVar_agg (P := P) ha (hl ▸ hz) (cells_of ho (hA o hAo))
  simp [rvRun, hk.all p _ h, asAddr, this]
theorem RV.cell {p : Tmp} (h : lk E p = some (.pointer (some ⟨b, 0, none⟩))) (ha : scal P t = true) (hM : Has M b A wr) (hA : ∀ o, A o → cellAt o 0 = some v) : RV P n w0 S E M (.cell p t) v := fun a w hk hw => by
  obtain ⟨o, ho, hAo⟩ := hw.get hM
  have := loadVar_scal (P := P) ha (cell_of ho (hA o hAo))
  simp [rvRun, hk.all p _ h, asAddr, this]

variable {fn : Func} {R : Ending → World → Prop} {r1 r2 r3 : ResultVar} {v1 v2 v3 : Value}
theorem JE.ret1 (hr : fn.results = #[r1]) (h1 : RV P n w0 S E M r1 v1) (hR : ∀ w, Holds w0 S M w → R (.returned v1) w) : JE n w0 S (bodyPost P fn R) .ret E M := by
  refine ⟨fun a w ha hw => ?_⟩
  refine ⟨ha.defers, v1, ?_, hR w hw⟩
  have e1 := h1 a w ha hw
  rw [results_eq, hr]
  simp [e1]
theorem JE.ret2 (hr : fn.results = #[r1, r2]) (h1 : RV P n w0 S E M r1 v1) (h2 : RV P n w0 S E M r2 v2) (hR : ∀ w, Holds w0 S M w → R (.returned (.tuple #[v1, v2])) w) : JE n w0 S (bodyPost P fn R) .ret E M := by
  refine ⟨fun a w ha hw => ?_⟩
  refine ⟨ha.defers, .tuple #[v1, v2], ?_, hR w hw⟩
  have e1 := h1 a w ha hw
  have e2 := h2 a w ha hw
  rw [results_eq, hr]
  simp [Sem.run_bind, e1, e2]
end
end Sl
end Go.Proofs.YtdabhneehconeaaGreatDoor

/-
  Of no statement by itself: rules for single operations on numbers (words of 8, 32 and 64 bits as bit vectors, int as a natural number), addresses and slices, over X's partial knowledge of frame and memory, for any program P.
  Conditions: each rule's own hypotheses.
-/
namespace Go.Proofs.YtdabhneehconeaaGreatDoor
namespace Sl

@[reducible] def N (a : Nat) : Value := .int .i64 a
@[reducible] def U8 (a : BitVec 8) : Value := .int .u8 a.toNat
@[reducible] def U32 (a : BitVec 32) : Value := .int .u32 a.toNat
section
variable {P : Program} {n : Nat} {E : Env} {C : World → Prop} {dst : Option Tmp} {ty t t' : TypeId} {pos : String} {aft : Array Edge} {g : Option (Nat × Bool)} {x y : Operand} {u v r : Value} {o : BinOp}

def notEq : BinOp → Bool
  | .eql | .neq => false
  | _ => true
theorem OQ.bin (hx : ev E x = some u) (hy : ev E y = some v) (ho : notEq o = true) (h : ∀ w, (binOp o t u v).run P w = .ok r w) : OQ P n E C ⟨dst, .binOp o t x y t', ty, pos, aft, g⟩ r :=
  OQ.run fun a ha w _ => by
    have h1 := ha.eval hx
    have h2 := ha.eval hy
    have hg : ∀ w, (eqGuard o t x y u v).run P w = .ok () w := fun w => by
      cases o <;> first | rfl | cases ho
    simp [execOp, h1, h2, Sem.run_bind, hg, h w]
/-- equality of two numbers of one kind -/
theorem OQ.eqi {k : IntKind} {a b : Int} (hx : ev E x = some (.int k a)) (hy : ev E y = some (.int k b)) : OQ P n E C ⟨dst, .binOp .eql t x y t', ty, pos, aft, g⟩ (.bool (decide (a = b))) :=
  OQ.run fun c ha w _ => by
    have h1 := ha.eval hx
    have h2 := ha.eval hy
    simp [execOp, h1, h2, eqGuard, binOp, Op.intCmp]
    rfl
theorem OQ.nei {k : IntKind} {a b : Int} (hx : ev E x = some (.int k a)) (hy : ev E y = some (.int k b)) : OQ P n E C ⟨dst, .binOp .neq t x y t', ty, pos, aft, g⟩ (.bool (!decide (a = b))) :=
  OQ.run fun c ha w _ => by
    have h1 := ha.eval hx
    have h2 := ha.eval hy
    simp [execOp, h1, h2, eqGuard, binOp, Op.intCmp]
    rfl

/-! #### int as a natural number -/
theorem okInt {w : World} {k : IntKind} {i j : Int} (e : i = j) : (Result.ok (Value.int k i) w : Result Value) = .ok (.int k j) w := by rw [e]
theorem okBool {w : World} {i j : Bool} (e : i = j) : (Result.ok (Value.bool i) w : Result Value) = .ok (.bool j) w := by rw [e]
theorem wrapN {a : Int} (h0 : -9223372036854775808 ≤ a) (h : a < 9223372036854775808) : IntKind.i64.wrap a = a := by
  simp [IntKind.wrap, IntKind.bits, IntKind.signed]; omega
theorem OQ.addN {a b : Nat} (hx : ev E x = some (N a)) (hy : ev E y = some (N b)) (h : a + b < 9223372036854775808) : OQ P n E C ⟨dst, .binOp .add t x y t', ty, pos, aft, g⟩ (N (a + b)) :=
  OQ.bin hx hy rfl fun _ => okInt (k := .i64) (show IntKind.i64.wrap ((a : Int) + b) = ((a + b : Nat) : Int) from (wrapN (by omega) (by omega)).trans (by simp))
theorem OQ.subN {a b : Nat} (hx : ev E x = some (N a)) (hy : ev E y = some (N b)) (h : b ≤ a) (h2 : a < 9223372036854775808) : OQ P n E C ⟨dst, .binOp .sub t x y t', ty, pos, aft, g⟩ (N (a - b)) :=
  OQ.bin hx hy rfl fun _ => okInt (k := .i64) (show IntKind.i64.wrap ((a : Int) - b) = ((a - b : Nat) : Int) from (wrapN (by omega) (by omega)).trans (by omega))
theorem OQ.mulN {a b : Nat} (hx : ev E x = some (N a)) (hy : ev E y = some (N b)) (h : a * b < 9223372036854775808) : OQ P n E C ⟨dst, .binOp .mul t x y t', ty, pos, aft, g⟩ (N (a * b)) :=
  OQ.bin hx hy rfl fun _ => okInt (k := .i64) (show IntKind.i64.wrap ((a : Int) * b) = ((a * b : Nat) : Int) from by
    rw [← Int.natCast_mul]
    generalize a * b = c at h
    exact wrapN (by omega) (by omega))
theorem OQ.quoN {a b : Nat} (hx : ev E x = some (N a)) (hy : ev E y = some (N b)) (h : 0 < b) (h2 : a < 9223372036854775808) : OQ P n E C ⟨dst, .binOp .quo t x y t', ty, pos, aft, g⟩ (N (a / b)) :=
  OQ.bin hx hy rfl fun w => by
    have h3 : a / b ≤ a := Nat.div_le_self _ _
    have h4 : ((a : Int).tdiv b) = ((a / b : Nat) : Int) := by rw [Int.tdiv_eq_ediv_of_nonneg (by omega)]; exact_mod_cast rfl
    have h5 : ¬ (b : Int) = 0 := by omega
    have h6 : IntKind.i64.wrap ((a : Int).tdiv b) = ((a / b : Nat) : Int) := by rw [h4]; generalize a / b = c at h3; exact wrapN (by omega) (by omega)
    have h7 : Op.intDiv .quo .i64 (a : Int) b = (Pure.pure (.int .i64 (IntKind.i64.wrap ((a : Int).tdiv b))) : Sem Value) := by simp only [Op.intDiv, if_neg h5]
    show Sem.run P (Op.intDiv .quo .i64 (a : Int) b) w = _
    rw [h7, h6]; rfl
theorem OQ.lssN {a b : Nat} (hx : ev E x = some (N a)) (hy : ev E y = some (N b)) : OQ P n E C ⟨dst, .binOp .lss t x y t', ty, pos, aft, g⟩ (.bool (decide (a < b))) :=
  OQ.bin hx hy rfl fun _ => okBool (decide_eq_decide.2 Int.ofNat_lt)
theorem OQ.gtrN {a b : Nat} (hx : ev E x = some (N a)) (hy : ev E y = some (N b)) : OQ P n E C ⟨dst, .binOp .gtr t x y t', ty, pos, aft, g⟩ (.bool (decide (b < a))) :=
  OQ.bin hx hy rfl fun _ => okBool (decide_eq_decide.2 Int.ofNat_lt)
theorem OQ.geqN {a b : Nat} (hx : ev E x = some (N a)) (hy : ev E y = some (N b)) : OQ P n E C ⟨dst, .binOp .geq t x y t', ty, pos, aft, g⟩ (.bool (decide (b ≤ a))) :=
  OQ.bin hx hy rfl fun _ => okBool (decide_eq_decide.2 Int.ofNat_le)
theorem OQ.neN {a b : Nat} (hx : ev E x = some (N a)) (hy : ev E y = some (N b)) : OQ P n E C ⟨dst, .binOp .neq t x y t', ty, pos, aft, g⟩ (.bool (!decide (a = b))) :=
  (decide_eq_decide.2 Int.ofNat_inj : decide ((a : Int) = b) = decide (a = b)) ▸ OQ.nei hx hy

/-! #### words -/
theorem ofIntNat {k : Nat} (a : BitVec k) : BitVec.ofInt k (a.toNat : Int) = a := by simp
theorem wrap32 (a : Nat) : IntKind.u32.wrap (a : Int) = ((a % 2 ^ 32 : Nat) : Int) := by simp [IntKind.wrap, IntKind.bits, IntKind.signed]
theorem wrap8 (a : Nat) : IntKind.u8.wrap (a : Int) = ((a % 2 ^ 8 : Nat) : Int) := by simp [IntKind.wrap, IntKind.bits, IntKind.signed]
theorem wrapb32 (a : BitVec 32) : IntKind.u32.wrap (a.toNat : Int) = a.toNat := by rw [wrap32, Nat.mod_eq_of_lt a.isLt]
theorem OQ.and32 {a b : BitVec 32} (hx : ev E x = some (U32 a)) (hy : ev E y = some (U32 b)) : OQ P n E C ⟨dst, .binOp .and t x y t', ty, pos, aft, g⟩ (U32 (a &&& b)) :=
  OQ.bin hx hy rfl fun _ => okInt (k := .u32) (show IntKind.u32.wrap ((BitVec.ofInt 32 (a.toNat : Int) &&& BitVec.ofInt 32 (b.toNat : Int)).toNat : Int) = _ by rw [ofIntNat, ofIntNat, wrapb32])
theorem OQ.or32 {a b : BitVec 32} (hx : ev E x = some (U32 a)) (hy : ev E y = some (U32 b)) : OQ P n E C ⟨dst, .binOp .or t x y t', ty, pos, aft, g⟩ (U32 (a ||| b)) :=
  OQ.bin hx hy rfl fun _ => okInt (k := .u32) (show IntKind.u32.wrap ((BitVec.ofInt 32 (a.toNat : Int) ||| BitVec.ofInt 32 (b.toNat : Int)).toNat : Int) = _ by rw [ofIntNat, ofIntNat, wrapb32])
theorem OQ.shl32 {a : BitVec 32} {yk : IntKind} {k : Nat} (hx : ev E x = some (U32 a)) (hy : ev E y = some (.int yk k)) : OQ P n E C ⟨dst, .binOp .shl t x y t', ty, pos, aft, g⟩ (U32 (a <<< k)) :=
  OQ.bin hx hy rfl fun w => by
    have h1 : IntKind.u32.wrap ((a.toNat : Int) * 2 ^ (min k 32)) = ((a <<< k).toNat : Int) := by
      rw [show ((a.toNat : Int) * 2 ^ (min k 32)) = ((a.toNat * 2 ^ (min k 32) : Nat) : Int) by simp, wrap32, BitVec.toNat_shiftLeft, Nat.shiftLeft_eq]
      by_cases hk : k ≤ 32
      · rw [Nat.min_eq_left hk]
      · rw [Nat.min_eq_right (by omega)]
        congr 1
        rw [show k = 32 + (k - 32) by omega, Nat.pow_add, Nat.mul_mod_left, Nat.mul_left_comm, Nat.mul_mod_right]
    have h7 : Op.shift .shl .u32 (a.toNat : Int) yk (k : Int) = (Pure.pure (.int .u32 (IntKind.u32.wrap ((a.toNat : Int) * 2 ^ (min k 32)))) : Sem Value) := by
      unfold Op.shift
      rw [if_neg (by omega)]; rfl
    show Sem.run P (Op.shift .shl .u32 (a.toNat : Int) yk (k : Int)) w = _
    rw [h7, h1]; rfl
theorem OQ.shr32 {a : BitVec 32} {yk : IntKind} {k : Nat} (hx : ev E x = some (U32 a)) (hy : ev E y = some (.int yk k)) : OQ P n E C ⟨dst, .binOp .shr t x y t', ty, pos, aft, g⟩ (U32 (a >>> k)) :=
  OQ.bin hx hy rfl fun w => by
    have h1 : (a.toNat : Int).fdiv (2 ^ (min k 32)) = ((a >>> k).toNat : Int) := by
      rw [Int.fdiv_eq_ediv_of_nonneg _ (by exact Int.le_of_lt (Int.pow_pos (by decide))), BitVec.toNat_ushiftRight, Nat.shiftRight_eq_div_pow]
      by_cases hk : k ≤ 32
      · rw [Nat.min_eq_left hk]; simp
      · rw [Nat.min_eq_right (by omega)]
        have := a.isLt
        rw [Nat.div_eq_of_lt (Nat.lt_of_lt_of_le this (Nat.pow_le_pow_right (by omega) (by omega)))]
        exact Int.ediv_eq_zero_of_lt (by omega) (by exact_mod_cast this)
    have h7 : Op.shift .shr .u32 (a.toNat : Int) yk (k : Int) = (Pure.pure (.int .u32 ((a.toNat : Int).fdiv (2 ^ (min k 32)))) : Sem Value) := by
      unfold Op.shift
      rw [if_neg (by omega)]; rfl
    show Sem.run P (Op.shift .shr .u32 (a.toNat : Int) yk (k : Int)) w = _
    rw [h7, h1]; rfl
end
end Sl
end Go.Proofs.YtdabhneehconeaaGreatDoor

/-
  Of no statement by itself: rules for conversions between numbers, for addresses and for cuts of arrays and slices, over X's partial knowledge of frame and memory, for any program P.
  Conditions: each rule's own hypotheses.
-/
namespace Go.Proofs.YtdabhneehconeaaGreatDoor
namespace Sl

section
variable {P : Program} {n : Nat} {E : Env} {C : World → Prop} {dst : Option Tmp} {ty t t' e : TypeId} {pos : String} {aft : Array Edge} {g : Option (Nat × Bool)} {x y : Operand} {u v r : Value}

/-! #### conversions -/
theorem OQ.conv {k k' : IntKind} {d : TypeDesc} {i : Int} (hs : P.underlying t = some d) (hd : P.underlying t' = some (.int k)) (hx : ev E x = some (.int k' i)) (hv : v = .int k (k.wrap i)) : OQ P n E C ⟨dst, .convert t t' x, ty, pos, aft, g⟩ v := by
  subst hv
  refine OQ.run fun a ha w _ => ?_
  have h1 := ha.eval hx
  have h2 : (underlying t).run P w = .ok d w := run_underlying hs w
  have h3 : (underlying t').run P w = .ok (.int k) w := run_underlying hd w
  cases d <;> simp [execOp, h1, convert, Sem.run_bind, h2, h3, Conv.intToInt]
theorem OQ.conv8_32 {d : TypeDesc} {a : BitVec 8} (hs : P.underlying t = some d) (hd : P.underlying t' = some (.int .u32)) (hx : ev E x = some (U8 a)) : OQ P n E C ⟨dst, .convert t t' x, ty, pos, aft, g⟩ (U32 (a.setWidth 32)) :=
  OQ.conv hs hd hx (by rw [wrap32]; simp [U32])
theorem OQ.conv32_8 {d : TypeDesc} {a : BitVec 32} (hs : P.underlying t = some d) (hd : P.underlying t' = some (.int .u8)) (hx : ev E x = some (U32 a)) : OQ P n E C ⟨dst, .convert t t' x, ty, pos, aft, g⟩ (U8 (a.setWidth 8)) :=
  OQ.conv hs hd hx (by rw [wrap8]; simp [U8])
/-! #### places -/
theorem OQ.idxA {len b j i sz : Nat} (hu : P.underlying t = some (.array len e)) (hz : szT P e = some sz) (hx : ev E x = some (.pointer (some ⟨b, j, none⟩))) (hy : ev E y = some (N i)) (hi : i < len) :
    OQ P n E C ⟨dst, .indexAddr t x y, ty, pos, aft, g⟩ (.pointer (some ⟨b, j + i * sz, none⟩)) :=
  OQ.run fun a ha w _ => by
    have h1 := ha.eval hx
    have h2 := ha.eval hy
    have h3 : (underlying t).run P w = .ok (.array len e) w := run_underlying hu w
    have h4 : (0 : Int) ≤ (i : Int) ∧ (i : Int) < (len : Int) := by omega
    simp [execOp, h1, h2, Instr.indexAt, asIntOf, Sem.run_bind, h3, Instr.sureAddr, hi, sizeOf_run hz, add_off]
theorem OQ.idxS {len cap b j i sz : Nat} (hu : P.underlying t = some (.slice e)) (hz : szT P e = some sz) (hx : ev E x = some (.slice (some ⟨b, j, none⟩) len cap)) (hy : ev E y = some (N i)) (hi : i < len) :
    OQ P n E C ⟨dst, .indexAddr t x y, ty, pos, aft, g⟩ (.pointer (some ⟨b, j + i * sz, none⟩)) :=
  OQ.run fun a ha w _ => by
    have h1 := ha.eval hx
    have h2 := ha.eval hy
    have h3 : (underlying t).run P w = .ok (.slice e) w := run_underlying hu w
    simp [execOp, h1, h2, Instr.indexAt, asIntOf, Sem.run_bind, h3, hi, sizeOf_run hz, add_off]
theorem OQ.idxA0 {len b i : Nat} (hu : P.underlying t = some (.array len e)) (hz : szT P e = some 1) (hx : ev E x = some (.pointer (some ⟨b, 0, none⟩))) (hy : ev E y = some (N i)) (hi : i < len) :
    OQ P n E C ⟨dst, .indexAddr t x y, ty, pos, aft, g⟩ (.pointer (some ⟨b, i, none⟩)) := by
  have := OQ.idxA (P := P) (n := n) (C := C) (dst := dst) (ty := ty) (pos := pos) (aft := aft) (g := g) hu hz hx hy hi
  rwa [Nat.mul_one, Nat.zero_add] at this
theorem OQ.idxS0 {len cap b i : Nat} (hu : P.underlying t = some (.slice e)) (hz : szT P e = some 1) (hx : ev E x = some (.slice (some ⟨b, 0, none⟩) len cap)) (hy : ev E y = some (N i)) (hi : i < len) :
    OQ P n E C ⟨dst, .indexAddr t x y, ty, pos, aft, g⟩ (.pointer (some ⟨b, i, none⟩)) := by
  have := OQ.idxS (P := P) (n := n) (C := C) (dst := dst) (ty := ty) (pos := pos) (aft := aft) (g := g) hu hz hx hy hi
  rwa [Nat.mul_one, Nat.zero_add] at this
theorem OQ.idxS1 {len cap b j i : Nat} (hu : P.underlying t = some (.slice e)) (hz : szT P e = some 1) (hx : ev E x = some (.slice (some ⟨b, j, none⟩) len cap)) (hy : ev E y = some (N i)) (hi : i < len) :
    OQ P n E C ⟨dst, .indexAddr t x y, ty, pos, aft, g⟩ (.pointer (some ⟨b, j + i, none⟩)) := by
  have := OQ.idxS (P := P) (n := n) (C := C) (dst := dst) (ty := ty) (pos := pos) (aft := aft) (g := g) hu hz hx hy hi
  rwa [Nat.mul_one] at this
theorem OQ.index {len i : Nat} {cs : List Value} (hu : P.underlying t = some (.array len e)) (hz : szT P e = some 1) (hs : scal P e = true) (hx : ev E x = some (.agg cs.toArray)) (hy : ev E y = some (N i)) (hi : i < len) (hv : cs[i]? = some v) :
    OQ P n E C ⟨dst, .index t x y, ty, pos, aft, g⟩ v :=
  OQ.run fun a ha w _ => by
    have h1 := ha.eval hx
    have h2 := ha.eval hy
    have h3 : (underlying t).run P w = .ok (.array len e) w := run_underlying hu w
    simp [execOp, h1, h2, Instr.index, asIntOf, Sem.run_bind, h3, hi, sizeOf_run hz, part, isAgg_scal hs, hv]
theorem OQ.fld {s f : Nat} {fs : Array Field} {fd : Field} {b j sz : Nat} (hu : P.underlying s = some (.struct fs)) (hf : fs[f]? = some fd) (hz : szT P fd.type = some sz) (h0 : sz ≠ 0) (hx : ev E x = some (.pointer (some ⟨b, j, none⟩))) :
    OQ P n E C ⟨dst, .fieldAddr s x f, ty, pos, aft, g⟩ (.pointer (some ⟨b, j + fd.offset, none⟩)) :=
  OQ.run fun a ha w _ => by
    have h1 := ha.eval hx
    have h3 : (underlying s).run P w = .ok (.struct fs) w := run_underlying hu w
    simp [execOp, h1, Instr.fieldAt, Sem.run_bind, h3, hf, Instr.sureAddr, fieldPlace, sizeOf_run hz, h0, add_off]
/-- 'x[:]' of an array behind its address -/
theorem OQ.slA {len b j sz : Nat} (hu : P.underlying t = some (.array len e)) (hz : szT P e = some sz) (hx : ev E x = some (.pointer (some ⟨b, j, none⟩))) :
    OQ P n E C ⟨dst, .slice t x none none none, ty, pos, aft, g⟩ (.slice (some ⟨b, j, none⟩) len len) :=
  OQ.run fun a ha w _ => by
    have h1 := ha.eval hx
    have h3 : (underlying t).run P w = .ok (.array len e) w := run_underlying hu w
    have h6 : (⟨b, j, none⟩ : Addr).add 0 = ⟨b, j, none⟩ := by rw [add_off]; rfl
    simp [execOp, h1, Instr.sliceAt, Sem.run_bind, h3, Instr.sureAddr, Instr.sliceBounds, sizeOf_run hz, h6]
/-- 'x[lo:]' of a slice: its cells from lo on (where nothing is left the old address is kept) -/
theorem OQ.slS_lo {len cap lo sz : Nat} {ad : Option Addr} (hu : P.underlying t = some (.slice e)) (hz : szT P e = some sz) (hx : ev E x = some (.slice ad len cap)) (hl : ev E y = some (N lo)) (h : lo ≤ len) :
    OQ P n E C ⟨dst, .slice t x (some y) none none, ty, pos, aft, g⟩ (.slice (if cap = lo then ad else ad.map (·.add (lo * sz))) (len - lo) (cap - lo)) :=
  OQ.run fun a ha w _ => by
    have h1 := ha.eval hx
    have h2 := ha.eval hl
    have h3 : (underlying t).run P w = .ok (.slice e) w := run_underlying hu w
    simp [execOp, h1, h2, Instr.sliceAt, Sem.run_bind, h3, Instr.slice, Instr.sliceBounds, Instr.sliceBound, asIntOf, h, sizeOf_run hz]
/-- 'x[:hi]' of a slice -/
theorem OQ.slS_hi {len cap hi sz : Nat} {ad : Option Addr} (hu : P.underlying t = some (.slice e)) (hz : szT P e = some sz) (hx : ev E x = some (.slice ad len cap)) (hh : ev E y = some (N hi)) (h : hi ≤ cap) :
    OQ P n E C ⟨dst, .slice t x none (some y) none, ty, pos, aft, g⟩ (.slice (if cap = 0 then ad else ad.map (·.add 0)) hi cap) :=
  OQ.run fun a ha w _ => by
    have h1 := ha.eval hx
    have h2 := ha.eval hh
    have h3 : (underlying t).run P w = .ok (.slice e) w := run_underlying hu w
    simp [execOp, h1, h2, Instr.sliceAt, Sem.run_bind, h3, Instr.slice, Instr.sliceBounds, Instr.sliceBound, asIntOf, h, sizeOf_run hz]
end
end Sl
end Go.Proofs.YtdabhneehconeaaGreatDoor

/-
  Of no statement by itself: rules for what slices read, len, copy and append, and for code whose ways meet again, over X's partial knowledge of frame and memory, for any program P.
  Conditions: each rule's own hypotheses.
-/
namespace Go.Proofs.YtdabhneehconeaaGreatDoor
namespace Sl

/-- the cells behind an address (none: there are none) -/
def Reads (w : World) (ad : Option Addr) (cs : List Value) : Prop := ∀ i v, cs[i]? = some v → ∃ b j, ad = some ⟨b, j, none⟩ ∧ w.cell? ⟨b, j + i, none⟩ = some v
theorem Reads.nil (w : World) (ad : Option Addr) : Reads w ad [] := by intro i v h; simp at h
theorem Reads.at {w : World} {ad : Option Addr} {cs : List Value} (h : Reads w ad cs) (h0 : 0 < cs.length) : ∃ b j, ad = some ⟨b, j, none⟩ ∧ ∀ i v, cs[i]? = some v → w.cell? ⟨b, j + i, none⟩ = some v := by
  obtain ⟨b, j, h1, _⟩ := h 0 cs[0] (by simp [h0])
  refine ⟨b, j, h1, fun i v hv => ?_⟩
  obtain ⟨b', j', h2, h3⟩ := h i v hv
  rw [h1] at h2
  cases h2
  exact h3
theorem Reads.of {w : World} {b j : Nat} {cs : List Value} (h : ∀ i v, cs[i]? = some v → w.cell? ⟨b, j + i, none⟩ = some v) : Reads w (some ⟨b, j, none⟩) cs := fun i v hv => ⟨b, j, rfl, h i v hv⟩
theorem Reads.block {w : World} {b j : Nat} {cs : List Value} {o : Obj} (ho : w.heap[b]? = some o) (h : hasCells o j cs) : Reads w (some ⟨b, j, none⟩) cs := .of (cells_of ho h)
theorem Reads.take {w : World} {ad : Option Addr} {cs : List Value} (h : Reads w ad cs) (k : Nat) : Reads w ad (cs.take k) := fun i v hv => h i v (by
  rw [List.getElem?_take] at hv
  split at hv
  · exact hv
  · cases hv)
/-- what is left of a slice behind a cut -/
theorem Reads.drop {w : World} {ad : Option Addr} {cs : List Value} {len cap lo : Nat} (h : Reads w ad cs) (hl : cs.length = len) (hc : len ≤ cap) (hlo : lo ≤ len) : Reads w (if cap = lo then ad else ad.map (·.add (lo * 1))) (cs.drop lo) := by
  by_cases e : cap = lo
  · rw [if_pos e, List.drop_of_length_le (by omega)]
    exact .nil _ _
  · rw [if_neg e]
    intro i v hv
    rw [List.getElem?_drop] at hv
    obtain ⟨b, j, h1, h2⟩ := h _ v hv
    refine ⟨b, j + lo, by simp [h1, add_off], by rw [Nat.add_assoc]; exact h2⟩

section
variable {P : Program} {w : World} {cs : List Value} {ad : Option Addr} {m c sz : Nat}
theorem firstCells_run (hl : cs.length = m * sz) (h : Reads w ad cs) (len : Nat) : (Builtin.firstCells sz m (.slice ad len c)).run P w = .ok cs.toArray w := by
  by_cases h0 : cs = []
  · subst h0
    have hm : m * sz = 0 := by simpa using hl.symm
    cases ad with
    | none => rfl
    | some a => simp [Builtin.firstCells, hm, loadCells, loadCellsFrom]
  · obtain ⟨b, j, rfl, h2⟩ := h.at (List.length_pos_iff.2 h0)
    exact run_firstCells_some (P := P) w sz m ⟨b, j, none⟩ len c cs hl (fun i v hv => by rw [add_off]; exact h2 i v hv)
end

/-- type e: its zero value, its cells, its bytes -/
def EI (P : Program) (e : TypeId) (z : Value) (sz bytes : Nat) : Prop := (P.info? e).map (fun i => (i.zero, i.size, i.bytes)) = some (some z, sz, bytes)
theorem EI.get {P : Program} {e : TypeId} {z : Value} {sz bytes : Nat} (h : EI P e z sz bytes) : ∃ i, P.info? e = some i ∧ i.zero = some z ∧ i.size = sz ∧ i.bytes = bytes := by
  unfold EI at h
  cases hq : P.info? e with
  | none => simp [hq] at h
  | some i => simp only [hq, Option.map_some, Option.some.injEq, Prod.mk.injEq] at h; exact ⟨i, rfl, h⟩
theorem EI.sz {P : Program} {e : TypeId} {z : Value} {sz bytes : Nat} (h : EI P e z sz bytes) : szT P e = some sz := by
  obtain ⟨i, h1, _, h2, _⟩ := h.get
  simp [szT, h1, h2]

/-- a slice's own cells, first in their block; cap elements of sz cells each have room -/
def Own (e : TypeId) (sz n cap : Nat) (xs : List Value) : Obj → Prop := fun o => ∃ sp : List Value, o = .cells (xs ++ sp).toArray e (0, 0) ∧ (xs ++ sp).length = cap * sz ∧ xs.length = n * sz ∧ n ≤ cap
theorem Sl.Own.cells {e : TypeId} {sz n cap : Nat} {xs : List Value} : ∀ o, Sl.Own e sz n cap xs o → hasCells o 0 xs := by
  rintro o ⟨sp, rfl, _⟩
  exact ⟨_, _, _, rfl, fun i hi => by simp [List.getElem?_append_left hi]⟩
theorem Sl.Own.cell {e : TypeId} {sz n cap j : Nat} {v : Value} {xs : List Value} (h : xs[j]? = some v) : ∀ o, Sl.Own e sz n cap xs o → cellAt o j = some v := by
  rintro o ⟨sp, rfl, _⟩
  have hj : j < xs.length := (List.getElem?_eq_some_iff.1 h).1
  simpa [cellAt, List.getElem?_append_left hj] using h

/-- M' is M with one entry turned, its block too. -/
inductive Repl : List Ent → Nat → (Obj → Prop) → Nat → (Obj → Prop) → List Ent → Prop where
  | here {b A b' A' M} : Repl (⟨b, A, true⟩ :: M) b A b' A' (⟨b', A', true⟩ :: M)
  | there {e M b A b' A' M'} : Repl M b A b' A' M' → Repl (e :: M) b A b' A' (e :: M')

section
variable {w0 : World} {S : List Nat} {M M' : List Ent} {w w' : World} {b b' : Nat} {A A' : Obj → Prop}
theorem Repl.has (h : Repl M b A b' A' M') : Has M b A true := by
  induction h with
  | here => exact .here
  | there _ ih => exact .there ih
theorem Repl.upd (h : Repl M b A b A' M') : Upd M b A A' M' := by
  generalize hb : b = b1 at h
  have : b = b1 := hb
  clear hb
  suffices ∀ {M M' : List Ent} {b b1 : Nat} {A A' : Obj → Prop}, Repl M b A b1 A' M' → b = b1 → Upd M b A A' M' by exact this (by rw [← ‹b = b1›] at h ⊢; exact h) rfl
  intro M M' b b1 A A' h e
  induction h with
  | here => subst e; exact .here
  | there _ ih => exact .there (ih e)
theorem Repl.mem (h : Repl M b A b' A' M') : ∀ e ∈ M', e = ⟨b', A', true⟩ ∨ e ∈ M := by
  induction h with
  | here =>
    intro e he
    simp only [List.mem_cons] at he
    rcases he with rfl | he
    · exact .inl rfl
    · exact .inr (by simp [he])
  | there _ ih =>
    intro e he
    simp only [List.mem_cons] at he
    rcases he with rfl | he
    · exact .inr (by simp)
    · rcases ih e he with h | h
      · exact .inl h
      · exact .inr (by simp [h])
theorem Repl.nodup (h : Repl M b A b' A' M') (hn : (M.map Ent.b).Nodup) (hb : b' ∉ M.map Ent.b) : (M'.map Ent.b).Nodup := by
  induction h with
  | here =>
    simp only [List.map_cons, List.nodup_cons, List.mem_cons, not_or] at hn hb ⊢
    exact ⟨hb.2, hn.2⟩
  | @there e M b A b' A' M' hr ih =>
    simp only [List.map_cons, List.nodup_cons, List.mem_cons, not_or] at hn hb ⊢
    refine ⟨fun hm => ?_, ih hn.2 hb.2⟩
    obtain ⟨x, hx, hxe⟩ := List.mem_map.1 hm
    rcases hr.mem x hx with rfl | hx
    · exact hb.1 hxe
    · exact hn.1 (hxe ▸ List.mem_map_of_mem hx)
/-- A new block takes an entry's place. -/
theorem Holds.renew (h : Holds w0 S M w) (o : Obj) (hr : Repl M b A w.heap.size A' M') (hA : A' o) (hw : w'.heap = w.heap.push o) (h1 : w'.os = w.os) (h2 : w'.tape = w.tape) (h3 : w'.output = w.output) : Holds w0 S M' w' := by
  have hp := h.push o hA hw h1 h2 h3
  refine ⟨hp.chg, hr.nodup h.nodup ?_, fun e he => ?_⟩
  · intro hm
    obtain ⟨e, he, hb⟩ := List.mem_map.1 hm
    have := h.lt he
    omega
  · rcases hr.mem e he with rfl | he
    · exact hp.all _ (by simp)
    · exact hp.all e (by simp [he])
theorem Holds.one {o : Obj} (ho : w.heap[b]? = some o) (hA : A o) : Holds w [b] [⟨b, A, true⟩] w := ⟨Chg.refl _ _, by simp, by simp [ho, hA]⟩
theorem Holds.reads (h : Holds w0 S M w) {ad : Option Addr} {cs : List Value} (hr : Reads w0 ad cs) (hS : cs ≠ [] → ∀ a, ad = some a → a.block ∉ S) : Reads w ad cs := by
  intro i v hv
  have hcs : cs ≠ [] := by rintro rfl; simp at hv
  obtain ⟨b, j, h1, h2⟩ := hr i v hv
  have hb : b < w0.heap.size := block_lt_of_cell h2
  exact ⟨b, j, h1, by simpa [World.cell?, h.old hb (hS hcs _ h1)] using h2⟩
end

section
variable {P : Program} {n : Nat} {w0 : World} {S : List Nat} {ops : Array Oper} {Q : Exit → Act → World → Prop} {l : List Oper} {E : Env} {M : List Ent} {C : World → Prop}
variable {dst : Option Tmp} {d b j : Nat} {t ty e : TypeId} {pos : String} {aft : Array Edge} {g : Option (Nat × Bool)} {v : Value} {x y : Operand} {A A' : Obj → Prop} {cs : List Value}

theorem OQ.nilc {a : Addr} (hx : ev E x = some (.pointer (some a))) : OQ P n E C ⟨dst, .nilCheck x, ty, pos, aft, g⟩ (.pointer (some a)) :=
  OQ.run fun c hk w _ => by
    have h1 := hk.eval hx
    simp [execOp, h1]
theorem OQ.len {ad : Option Addr} {k cap : Nat} (hu : P.underlying t = some (.slice e)) (hx : ev E x = some (.slice ad k cap)) : OQ P n E C ⟨dst, .call ⟨.builtin .len, #[x], #[t]⟩, ty, pos, aft, g⟩ (N k) :=
  OQ.run fun a hk w _ => by
    have h1 := hk.eval hx
    have h3 : (underlying t).run P w = .ok (.slice e) w := run_underlying hu w
    simp [execOp, h1, resolve, invoke, builtin, Builtin.len_, Sem.run_bind, h3, goInt]

theorem copy_run {t' : TypeId} {w : World} {ad : Option Addr} {dl dc sl sc : Nat} {r : List Value} (hu : P.underlying t = some (.slice e)) (hz : szT P e = some 1) (ho : w.heap[b]? = some (.cells r.toArray ty (0, 0)))
    (hl : cs.length = sl) (hr : Reads w ad cs) (h1 : ∀ v ∈ cs, v.oneCell' = true) (hj : j + min sl dl ≤ r.length) :
    ∃ w', (Builtin.copy_ #[t, t'] 0 #[.slice (some ⟨b, j, none⟩) dl dc, .slice ad sl sc]).run P w = .ok (N (min sl dl)) w' ∧ w'.heap[b]? = some (.cells (r.take j ++ cs.take (min sl dl) ++ r.drop (j + min sl dl)).toArray ty (0, 0)) ∧ w'.heap.size = w.heap.size ∧
      (∀ k, k ≠ b → w'.heap[k]? = w.heap[k]?) ∧ w'.os = w.os ∧ w'.tape = w.tape ∧ w'.output = w.output := by
  have hlen : (cs.take (min sl dl)).length = min sl dl := by simp; omega
  obtain ⟨w', r1, r2, r3, r4, r5, r6, r7⟩ := storeCells_run (P := P) (b := b) (j := j) (e := ty) (cs.take (min sl dl)) 0 w r (fun v hv => h1 v (List.mem_of_mem_take hv)) ho (by omega)
  refine ⟨w', ?_, by rw [hlen] at r2; simpa using r2, r3, r4, r5, r6, r7⟩
  have h3 : (underlying t).run P w = .ok (.slice e) w := run_underlying hu w
  have h4 := firstCells_run (P := P) (m := min sl dl) (sz := 1) (c := sc) (by rw [hlen, Nat.mul_one]) (hr.take (min sl dl)) sl
  simp only [Builtin.copy_, Sem.run_bind, Sem.run_pure, h3, Result.andThen_ok, Builtin.lenOf, sizeOf_run hz, List.getElem?_toArray, List.getElem?_cons_zero, List.getElem?_cons_succ]
  have h5 : Nat.min sl dl = min sl dl := rfl
  rw [h5, h4]
  simp only [Result.andThen_ok, r1]
  rfl
theorem JL.copy {t' : TypeId} {ad : Option Addr} {dl dc sl sc : Nat} {r r' : List Value} {M' : List Ent} {te : TypeId} (hu : P.underlying t = some (.slice e)) (hz : szT P e = some 1) (hx : ev E x = some (.slice (some ⟨b, j, none⟩) dl dc)) (hy : ev E y = some (.slice ad sl sc))
    (hup : Upd M b (Row te r) (Row te r') M') (hl : cs.length = sl) (hr : ∀ w, Holds w0 S M w → Reads w ad cs) (h1 : ∀ v ∈ cs, v.oneCell' = true) (hj : j + min sl dl ≤ r.length) (he : r.take j ++ cs.take (min sl dl) ++ r.drop (j + min sl dl) = r') (hd : Nat.blt d n = true)
    (k : JL P n w0 S ops Q l ((d, N (min sl dl)) :: E) M') : JL P n w0 S ops Q (⟨some d, .call ⟨.builtin .copy, #[x, y], #[t, t']⟩, ty, pos, aft, none⟩ :: l) E M :=
  ⟨fun a w ha hw => wpList_plain rfl fun K hK => by
    obtain ⟨o, ho, hAo⟩ := hw.get hup.has
    subst hAo
    obtain ⟨w', r1, r2, r3, r4, r5, r6, r7⟩ := copy_run (P := P) (t' := t') (dc := dc) (sc := sc) (ty := te) hu hz ho hl (hr w hw) h1 hj
    have r1' : (Builtin.copy_ #[t, t'] ty #[.slice (some ⟨b, j, none⟩) dl dc, .slice ad sl sc]).run P w = .ok (N (min sl dl)) w' := r1
    unfold Oper.wp
    simp only [execOp, resolve, invoke, builtin, Sem.run_bind, Sem.run_pure, Result.andThen_ok, List.map_toArray, List.map_cons, List.map_nil, ha.eval hx, ha.eval hy, r1']
    exact hK _ _ (k.go _ _ (ha.put d _ hd) (hw.write hup (he ▸ rfl) r2 r3 r4 r5 r6 r7))⟩

theorem append_none {_t' : TypeId} {w : World} {base ad : Option Addr} {nl cap sc : Nat} {i : TypeInfo} (hu : P.underlying t = some (.slice e)) (hi : P.info? e = some i) (hc : nl ≤ cap) :
    (Builtin.append_ #[t, t] ty #[.slice base nl cap, .slice ad 0 sc]).run P w = .ok (.slice base nl cap) w := by
  have h3 : (underlying t).run P w = .ok (.slice e) w := run_underlying hu w
  cases base <;> cases ad <;> simp [Builtin.append_, run_underlying hu, sizeOf, typeInfo, hi, Builtin.lenOf, Builtin.firstCells, loadCells, loadCellsFrom, hc, storeCells]

/-- append onto a slice of the function's own -/
theorem JL.append {z : Value} {ad : Option Addr} {sz by' k m cap sc : Nat} {xs : List Value} (M' : Nat → Nat → List Ent) (hu : P.underlying t = some (.slice e)) (hi : EI P e z sz by') (hx : ev E x = some (.slice (some ⟨b, 0, none⟩) k cap)) (hy : ev E y = some (.slice ad m sc))
    (hup : ∀ b' cap', Repl M b (Sl.Own e sz k cap xs) b' (Sl.Own e sz (k + m) cap' (xs ++ cs)) (M' b' cap')) (hl : cs.length = m * sz) (hr : ∀ w, Holds w0 S M w → Reads w ad cs) (h1 : ∀ v ∈ cs, v.oneCell' = true)
    (hzz : z.cells.size = sz) (h0 : 0 < sz) (hsm : (k + m) * by' ≤ 140737488355328) (hsm2 : k + m < 9223372036854775808) (hd : Nat.blt d n = true)
    (kk : ∀ b' cap', JL P n w0 S ops Q l ((d, .slice (some ⟨b', 0, none⟩) (k + m) cap') :: E) (M' b' cap')) : JL P n w0 S ops Q (⟨some d, .call ⟨.builtin .append, #[x, y], #[t, t]⟩, ty, pos, aft, none⟩ :: l) E M :=
  ⟨fun a w ha hw => wpList_plain rfl fun K hK => by
    obtain ⟨i, hi1, hi2, hi3, hi4⟩ := hi.get
    obtain ⟨o, ho, sp, rfl, hc1, hc2, hc3⟩ := hw.get (hup 0 0).has
    have hru := hr w hw
    unfold Oper.wp
    simp only [execOp, resolve, invoke, builtin, Sem.run_bind, Sem.run_pure, Result.andThen_ok, List.map_toArray, List.map_cons, List.map_nil, ha.eval hx, ha.eval hy]
    by_cases hm : m = 0
    · subst hm
      have hcs : cs = [] := List.eq_nil_of_length_eq_zero (by simpa using hl)
      subst hcs
      rw [append_none (_t' := t) hu hi1 hc3]
      refine hK _ _ ((kk b cap).go _ _ (ha.put d _ hd) (hw.write (hup b cap).upd (o' := .cells (xs ++ sp).toArray e (0, 0)) ?_ ho rfl (fun _ _ => rfl) rfl rfl rfl))
      exact ⟨sp, by simp, by simpa using hc1, by simpa using hc2, by omega⟩
    · have hpos : 0 < cs.length := by rw [hl]; exact Nat.mul_pos (Nat.pos_of_ne_zero hm) h0
      obtain ⟨b2, j2, rfl, hcell⟩ := hru.at hpos
      by_cases hroom : k + m ≤ cap
      · have hfit : k * i.size + cs.length ≤ (xs ++ sp).toArray.size := by
          rw [hl, hi3, List.size_toArray, hc1, ← Nat.add_mul]; exact Nat.mul_le_mul_right _ hroom
        rw [run_append_room (P := P) w t ty e i hu hi1 b k cap (xs ++ sp).toArray ho ⟨b2, j2, none⟩ m sc cs (by rw [hl, hi3]) (fun u v hv => by rw [add_off]; exact hcell u v hv) h1 hroom hfit]
        refine hK _ _ ((kk b cap).go _ _ (ha.put d _ hd) (hw.write (hup b cap).upd (o' := .cells ((xs ++ sp).take (k * i.size) ++ cs ++ (xs ++ sp).drop (k * i.size + cs.length)).toArray e (0, 0)) ?_ (setRow_heap w b _ _ e _ ho) (by simp) (fun q hq => setRow_other w b q _ hq) rfl rfl rfl))
        rw [hi3, ← hc2, List.take_left]
        refine ⟨(xs ++ sp).drop (xs.length + cs.length), rfl, ?_, by rw [List.length_append, hc2, hl, Nat.add_mul], hroom⟩
        have h7 : xs.length + cs.length ≤ (xs ++ sp).length := by rw [hc1, hc2, hl, ← Nat.add_mul]; exact Nat.mul_le_mul_right _ hroom
        simp only [List.length_append, List.length_drop] at h7 hc1 ⊢
        omega
      · have hold : ∀ u v, xs[u]? = some v → w.cell? ((⟨b, 0, none⟩ : Addr).add u) = some v := fun u v hv => by
          rw [add_off]
          have hu' : u < xs.length := (List.getElem?_eq_some_iff.1 hv).1
          exact cell_of ho (by simpa [cellAt, List.getElem?_append_left hu'] using hv)
        have hfit := growslice_fits (need := k + m) (old := cap) (by omega) hsm
        rw [run_append_grow (P := P) w t ty e i z hu hi1 hi2 ⟨b, 0, none⟩ k cap xs (by rw [hc2, hi3]) hold ⟨b2, j2, none⟩ m sc cs (by rw [hl, hi3]) (fun u v hv => by rw [add_off]; exact hcell u v hv) (by omega) (by omega) (by rw [hi4]; exact hfit)]
        have hge := grownCap_ge w (k + m) cap e
        generalize grownCap w (k + m) cap e = nc at hge
        refine hK _ _ ((kk w.heap.size nc).go _ _ (ha.put d _ hd) (hw.renew (.cells (xs.toArray ++ cs.toArray ++ Builtin.zeroCells z.cells (nc - (k + m))) e) (hup _ _) ?_ rfl rfl rfl rfl))
        refine ⟨(Builtin.zeroCells z.cells (nc - (k + m))).toList, by simp, ?_, by rw [List.length_append, hc2, hl, Nat.add_mul], hge⟩
        have h8 : (Builtin.zeroCells z.cells (nc - (k + m))).size = (nc - (k + m)) * sz := by simp [Builtin.zeroCells, hzz]
        simp only [List.length_append, Array.length_toList, h8, hc2, hl, ← Nat.add_mul]
        congr 1
        omega⟩

/-- append onto nil -/
theorem JL.append_nil {z : Value} {ad : Option Addr} {sz by' m sc : Nat} (hu : P.underlying t = some (.slice e)) (hi : EI P e z sz by') (hx : ev E x = some (.slice none 0 0)) (hy : ev E y = some (.slice ad m sc))
    (hl : cs.length = m * sz) (hr : ∀ w, Holds w0 S M w → Reads w ad cs) (hm : 0 < m)
    (hzz : z.cells.size = sz) (h0 : 0 < sz) (hsm : m * by' ≤ 140737488355328) (hsm2 : m < 9223372036854775808) (hd : Nat.blt d n = true)
    (kk : ∀ b' cap', w0.heap.size ≤ b' → JL P n w0 S ops Q l ((d, .slice (some ⟨b', 0, none⟩) m cap') :: E) (⟨b', Sl.Own e sz m cap' cs, true⟩ :: M)) : JL P n w0 S ops Q (⟨some d, .call ⟨.builtin .append, #[x, y], #[t, t]⟩, ty, pos, aft, none⟩ :: l) E M :=
  ⟨fun a w ha hw => wpList_plain rfl fun K hK => by
    obtain ⟨i, hi1, hi2, hi3, hi4⟩ := hi.get
    have hru := hr w hw
    unfold Oper.wp
    simp only [execOp, resolve, invoke, builtin, Sem.run_bind, Sem.run_pure, Result.andThen_ok, List.map_toArray, List.map_cons, List.map_nil, ha.eval hx, ha.eval hy]
    have hpos : 0 < cs.length := by rw [hl]; exact Nat.mul_pos hm h0
    obtain ⟨b2, j2, rfl, hcell⟩ := hru.at hpos
    rw [run_append_nil (P := P) w t ty e i z hu hi1 hi2 ⟨b2, j2, none⟩ m sc cs (by rw [hl, hi3]) (fun u v hv => by rw [add_off]; exact hcell u v hv) hm (by omega) (by rw [hi4]; omega)]
    have hge := grownCap_ge w m 0 e
    generalize grownCap w m 0 e = nc at hge
    refine hK _ _ ((kk w.heap.size nc hw.chg.size).go _ _ (ha.put d _ hd) (hw.push (.cells (cs.toArray ++ Builtin.zeroCells z.cells (nc - m)) e) ?_ rfl rfl rfl rfl))
    refine ⟨(Builtin.zeroCells z.cells (nc - m)).toList, by simp, ?_, hl, hge⟩
    have h8 : (Builtin.zeroCells z.cells (nc - m)).size = (nc - m) * sz := by simp [Builtin.zeroCells, hzz]
    simp only [List.length_append, Array.length_toList, h8, hl, ← Nat.add_mul]
    congr 1
    omega⟩

/-! ### a region whose order is open, order by order -/
structure JA (P : Program) (n : Nat) (w0 : World) (S : List Nat) (ops : Array Oper) (Q : Exit → Act → World → Prop) (f : Nat) (done : Array Bool) (E : Env) (M : List Ent) : Prop where
  go : ∀ a w, Knows n E a → Holds w0 S M w → wpAny P .any ops Q f done a w
theorem wpOp_of_list {Q : Exit → Act → World → Prop} {K : Act → World → Prop} {i : Nat} {o : Oper} {a : Act} {w : World} (ho : ops[i]? = some o) (h : wpList P ops (Exit.then K Q) [o] a w) : wpOp P ops Q i K a w := by
  unfold wpOp
  simp only [ho]
  unfold wpList at h
  split
  · rename_i hw
    rw [if_pos hw] at h
    rcases h with h | h
    · left
      unfold Oper.wp Oper.upon at h ⊢
      generalize (execOp a.eval o).run P w = r at h ⊢
      cases r with
      | ok nx w' => cases nx <;> first | exact h | (refine Calls.mono h ?_; rintro (v | c | _) w'' hh <;> exact hh)
      | halt x w' => cases x <;> exact h
    · exact .inr h
  · rename_i hw
    rw [if_neg hw] at h
    exact h
theorem JC.any {id : Nat} {l : List Oper} (hm : P.follows .mixedOrders = true) (h : JA P n w0 S l.toArray Q l.toArray.size (Array.replicate l.toArray.size false) E M) : JC P n w0 S Q (.region id l.toArray true) E M :=
  ⟨fun a _ ha hw => wp_region_any hm (h.go a _ ha (hw.drawn _))⟩
theorem JA.step {f : Nat} {done : Array Bool} {L : List Nat} (hr : Region.ready .any ops done = L) (hne : L.isEmpty = false) (h : ∀ i ∈ L, ∃ o, ops[i]? = some o ∧ JL P n w0 S ops (Exit.then (fun a' w' => wpAny P .any ops Q f (done.setIfInBounds i true) a' w') Q) [o] E M) :
    JA P n w0 S ops Q (f + 1) done E M :=
  ⟨fun a w ha hw => ⟨fun h0 => (by rw [hr] at h0; subst h0; cases hne), fun i hi => by
    obtain ⟨o, ho, hj⟩ := h i (hr ▸ hi)
    exact wpOp_of_list ho (hj.go a w ha hw)⟩⟩
theorem JA.done {done : Array Bool} (hr : Region.ready .any ops done = []) (h : JE n w0 S Q .normal E M) : JA P n w0 S ops Q 0 done E M := ⟨fun a w ha hw => ⟨hr, h.go a w ha hw⟩⟩
theorem JE.any {f : Nat} {done : Array Bool} (h : JA P n w0 S ops Q f done E M) : JE n w0 S (Exit.then (fun a' w' => wpAny P .any ops Q f done a' w') Q) .normal E M := ⟨h.go⟩
/-! ### where ways meet again -/
theorem JC.mid {ι : Type} (Ei : ι → Env) (Mi : ι → List Ent) (I : ι → Prop) {p q : Code} (h : JC P n w0 S (Exit.then (fun a' w' => ∃ i, I i ∧ Knows n (Ei i) a' ∧ Holds w0 S (Mi i) w') Q) p E M)
    (k : ∀ i, I i → JC P n w0 S Q q (Ei i) (Mi i)) : JC P n w0 S Q (.seq p q) E M :=
  ⟨fun a w ha hw => wp_seq (wp_mono (h.go a w ha hw) fun e a' w' he => by
    cases e with
    | normal => obtain ⟨i, hi, h1, h2⟩ := he; exact (k i hi).go a' w' h1 h2
    | exit _ => exact he
    | goto _ => exact he
    | ret => exact he
    | panic _ => exact he
    | outgrown => exact he)⟩
theorem JC.join {ι : Type} (Ei : ι → Env) (Mi : ι → List Ent) (I : ι → Prop) {p q : Code} {Q' : Exit → Act → World → Prop} (h : JC P n w0 S (Exit.then (fun a' w' => ∃ i, I i ∧ Knows n (Ei i) a' ∧ Holds w0 S (Mi i) w') Q) p E M)
    (k : ∀ i, I i → JC P n w0 S Q' q (Ei i) (Mi i)) : JC P n w0 S (Exit.then (q.wp P Q') Q) p E M :=
  ⟨fun a w ha hw => wp_mono (h.go a w ha hw) fun e a' w' he => by
    cases e with
    | normal => obtain ⟨i, hi, h1, h2⟩ := he; exact (k i hi).go a' w' h1 h2
    | exit _ => exact he
    | goto _ => exact he
    | ret => exact he
    | panic _ => exact he
    | outgrown => exact he⟩
theorem JE.mid {ι : Type} {Ei : ι → Env} {Mi : ι → List Ent} {I : ι → Prop} (i : ι) (hi : I i) (hE : SubE E (Ei i)) (hM : Less (Mi i) M) :
    JE n w0 S (Exit.then (fun a' w' => ∃ i, I i ∧ Knows n (Ei i) a' ∧ Holds w0 S (Mi i) w') Q) .normal E M :=
  ⟨fun _ _ ha hw => ⟨i, hi, ha.sub hE, hw.weak hM⟩⟩
end
end Sl
end Go.Proofs.YtdabhneehconeaaGreatDoor

/-
  Of no statement by itself: rules for calls that make a block or write one, over X's partial knowledge of frame and memory, for any program P.
  Conditions: each rule's own hypotheses.
-/
namespace Go.Proofs.YtdabhneehconeaaGreatDoor
namespace Sl
section
variable {P : Program} {n : Nat} {w0 : World} {S : List Nat} {ops : Array Oper} {Q : Exit → Act → World → Prop} {l : List Oper} {E : Env} {M M' : List Ent}
variable {d b : Nat} {ty : TypeId} {pos : String} {aft : Array Edge} {v : Value} {A A' : Obj → Prop} {f : FuncId} {xs : List Operand} {ats : Array TypeId} {vs : List Value}
/-! ### literals of slices -/
variable {t e : TypeId} {x : Operand} {z : Value} {by' : Nat}
theorem range0 : Array.range 0 = #[] := by decide
theorem range1 : Array.range 1 = #[0] := by decide
theorem range3 : Array.range 3 = #[0, 1, 2] := by decide
theorem build0_run {w : World} (hu : P.underlying t = some (.slice e)) (hi : EI P e z 1 by') : (Instr.buildSlice t 0 #[]).run P w = .ok (.slice (some ⟨w.heap.size, 0, none⟩) 0 0) { w with heap := w.heap.push (.cells ([] : List Value).toArray e (0, 0)) } := by
  have h3 : (underlying t).run P w = .ok (.slice e) w := run_underlying hu w
  simp [Instr.buildSlice, Sem.run_bind, h3, sizeOf_run hi.sz, Instr.fill, newRow, newObj, Sem.run, range0]
theorem build1_run {w : World} (hu : P.underlying t = some (.slice e)) (hi : EI P e z 1 by') (_hz : z.cells.size = 1) (hv : v.cells = #[v]) : (Instr.buildSlice t 1 #[(0, v)]).run P w = .ok (.slice (some ⟨w.heap.size, 0, none⟩) 1 1) { w with heap := w.heap.push (.cells [v].toArray e (0, 0)) } := by
  have h3 : (underlying t).run P w = .ok (.slice e) w := run_underlying hu w
  obtain ⟨i, h4, h5, _⟩ := hi.get
  simp [Instr.buildSlice, Sem.run_bind, h3, sizeOf_run hi.sz, zeroValue, typeInfo, h4, h5, Instr.fill, hv, newRow, newObj, Sem.run, range1]
theorem JL.lit0 (hu : P.underlying t = some (.slice e)) (hi : EI P e z 1 by') (hd : Nat.blt d n = true)
    (k : ∀ b, w0.heap.size ≤ b → JL P n w0 S ops Q l ((d, .slice (some ⟨b, 0, none⟩) 0 0) :: E) (⟨b, Row e [], true⟩ :: M)) : JL P n w0 S ops Q (⟨some d, .buildSlice t 0 #[], ty, pos, aft, none⟩ :: l) E M :=
  ⟨fun a w ha hw => wpList_plain rfl fun K hK => by
    unfold Oper.wp
    have hm : (#[] : Array (Nat × Operand)).map (fun (i, x) => (i, a.eval x)) = #[] := by simp
    simp only [execOp, hm, Sem.run_bind, build0_run hu hi, Result.andThen_ok]
    exact hK _ _ ((k w.heap.size hw.chg.size).go _ _ (ha.put d _ hd) (hw.push _ rfl rfl rfl rfl rfl))⟩
theorem JL.lit1 (hu : P.underlying t = some (.slice e)) (hi : EI P e z 1 by') (hz : z.cells.size = 1) (hx : ev E x = some v) (hv : v.cells = #[v]) (hd : Nat.blt d n = true)
    (k : ∀ b, w0.heap.size ≤ b → JL P n w0 S ops Q l ((d, .slice (some ⟨b, 0, none⟩) 1 1) :: E) (⟨b, Row e [v], true⟩ :: M)) : JL P n w0 S ops Q (⟨some d, .buildSlice t 1 #[(0, x)], ty, pos, aft, none⟩ :: l) E M :=
  ⟨fun a w ha hw => wpList_plain rfl fun K hK => by
    unfold Oper.wp
    have hm : (#[(0, x)] : Array (Nat × Operand)).map (fun (i, x) => (i, a.eval x)) = #[(0, v)] := by simp [ha.eval hx]
    simp only [execOp, hm, Sem.run_bind, build1_run hu hi hz hv, Result.andThen_ok]
    exact hK _ _ ((k w.heap.size hw.chg.size).go _ _ (ha.put d _ hd) (hw.push _ rfl rfl rfl rfl rfl))⟩
theorem JL.weak {E' : Env} (h : JL P n w0 S ops Q l E' M') (hE : SubE E E') (hM : Less M' M) : JL P n w0 S ops Q l E M := ⟨fun a w ha hw => h.go a w (ha.sub hE) (hw.weak hM)⟩

/-! ### int with its sign -/
variable {C : World → Prop} {dst : Option Tmp} {g : Option (Nat × Bool)} {y : Operand} {t' : TypeId}
theorem OQ.lssI {a b : Int} (hx : ev E x = some (.int .i64 a)) (hy : ev E y = some (.int .i64 b)) : OQ P n E C ⟨dst, .binOp .lss t x y t', ty, pos, aft, g⟩ (.bool (decide (a < b))) :=
  OQ.bin hx hy rfl fun _ => okBool rfl
theorem OQ.subI {a b : Int} (hx : ev E x = some (.int .i64 a)) (hy : ev E y = some (.int .i64 b)) (h1 : -9223372036854775808 ≤ a - b) (h2 : a - b < 9223372036854775808) : OQ P n E C ⟨dst, .binOp .sub t x y t', ty, pos, aft, g⟩ (.int .i64 (a - b)) :=
  OQ.bin hx hy rfl fun _ => okInt (k := .i64) (show IntKind.i64.wrap (a - b) = a - b from wrapN h1 h2)
end
end Sl
end Go.Proofs.YtdabhneehconeaaGreatDoor

/-
  Of no statement by itself: rules for guarded operations, tests that are decided, equality of arrays of bytes, over X's partial knowledge of frame and memory, for any program P.
  Conditions: each rule's own hypotheses.
-/
namespace Go.Proofs.YtdabhneehconeaaGreatDoor
namespace Sl
open Extern.Stop (cell)
section
variable {P : Program} {n : Nat} {w0 : World} {S : List Nat} {ops : Array Oper} {Q : Exit → Act → World → Prop} {l : List Oper} {E : Env} {M M' : List Ent} {C : World → Prop}
variable {dst : Option Tmp} {d b j : Nat} {op : Op} {t t' ty e : TypeId} {pos : String} {aft : Array Edge} {g : Option (Nat × Bool)} {v u : Value} {x y z : Operand} {want : Bool}

theorem wanted_any {o : Oper} {j : Nat} {want b : Bool} (ho : o.guard = some (j, want)) (h : guardIs ops E j = some b) (hf : guardFits ops n j = true) {a : Act} (ha : Knows n E a) : Region.wanted o (yielded ops a.tmps) = (b == want) := by
  simp only [Region.wanted, ho, guard_spec h ha (guardFits_spec hf)]
  cases b <;> cases want <;> rfl
/-- a guard that says yes is no guard -/
theorem JL.gon {dst : Option Nat} (hg : guardIs ops E j = some want) (hf : guardFits ops n j = true) (h : JL P n w0 S ops Q (⟨dst, op, ty, pos, aft, none⟩ :: l) E M) : JL P n w0 S ops Q (⟨dst, op, ty, pos, aft, some (j, want)⟩ :: l) E M :=
  ⟨fun a w ha hw => by
    have h1 := h.go a w ha hw
    unfold wpList at h1 ⊢
    rw [wanted_any rfl hg hf ha]
    simp only [beq_self_eq_true, if_true]
    rw [show Region.wanted ⟨dst, op, ty, pos, aft, none⟩ (yielded ops a.tmps) = true from rfl, if_pos rfl] at h1
    exact h1⟩
theorem OQ.pick_t (hc : ev E z = some (.bool true)) (hx : ev E x = some v) : OQ P n E C ⟨dst, .pick z x y, ty, pos, aft, g⟩ v :=
  OQ.run fun a ha w _ => by
    have h1 := ha.eval hc
    have h2 := ha.eval hx
    simp [execOp, h1, h2, asBool]
theorem OQ.pick_f (hc : ev E z = some (.bool false)) (hy : ev E y = some v) : OQ P n E C ⟨dst, .pick z x y, ty, pos, aft, g⟩ v :=
  OQ.run fun a ha w _ => by
    have h1 := ha.eval hc
    have h2 := ha.eval hy
    simp [execOp, h1, h2, asBool]
theorem OQ.not {c : Bool} (hx : ev E x = some (.bool c)) : OQ P n E C ⟨dst, .unOp .not t x, ty, pos, aft, g⟩ (.bool (!c)) :=
  OQ.run fun a ha w _ => by
    have h1 := ha.eval hx
    simp [execOp, h1, Op.unary]
theorem OQ.eqb {a c : Bool} (hu : P.underlying t = some .bool) (hx : ev E x = some (.bool a)) (hy : ev E y = some (.bool c)) : OQ P n E C ⟨dst, .binOp .eql t x y t', ty, pos, aft, g⟩ (.bool (a == c)) :=
  OQ.run fun ac ha w _ => by
    have h1 := ha.eval hx
    have h2 := ha.eval hy
    have h3 := run_equalIn_bool (P := P) w 9999 t a c hu
    simp [execOp, h1, h2, eqGuard, binOp, Op.equal, Op.maxDepth, h3]

theorem eq_list (r q : List (BitVec 8)) : (r.map UInt8.ofBitVec == q.map UInt8.ofBitVec) = decide (r = q) := by
  rw [Bool.eq_iff_iff]
  simp only [beq_iff_eq, decide_eq_true_eq]
  constructor
  · intro h
    have := congrArg (List.map UInt8.toBitVec) h
    rw [List.map_map, List.map_map] at this
    have hid : (UInt8.toBitVec ∘ UInt8.ofBitVec) = (id : BitVec 8 → BitVec 8) := rfl
    rwa [hid, List.map_id, List.map_id] at this
  · rintro rfl; rfl
/-! ### a conversion between types of slices of bytes: its block is marked -/
def Frz (e : TypeId) (r : List Value) : Obj → Prop := fun o => ∃ fr, o = .cells r.toArray e fr
theorem Frz.all {r : List Value} : ∀ o, Frz e r o → hasCells o 0 r := by
  rintro o ⟨fr, rfl⟩
  exact ⟨_, _, _, rfl, fun i _ => by simp⟩
theorem JL.mark {r : List Value} {te : TypeId} {len cap : Nat} (hu : P.underlying t = some (.slice e)) (he : P.underlying e = some (.int .u8)) (hx : ev E x = some (.slice (some ⟨b, 0, none⟩) len cap)) (hup : Upd M b (Row te r) (Frz te r) M') (hd : Nat.blt d n = true)
    (k : JL P n w0 S ops Q l ((d, .slice (some ⟨b, 0, none⟩) len cap) :: E) M') : JL P n w0 S ops Q (⟨some d, .convert t t x, ty, pos, aft, none⟩ :: l) E M :=
  ⟨fun a w ha hw => wpList_plain rfl fun K hK => by
    obtain ⟨o, ho, hA⟩ := hw.get hup.has
    subst hA
    have h1 := ha.eval hx
    have h3 : ∀ w, (underlying t).run P w = .ok (.slice e) w := run_underlying hu
    have h4 : ∀ w, (underlying e).run P w = .ok (.int .u8) w := run_underlying he
    have hsh : w.shape? b = some (te, r.length) := by simp [World.shape?, ho]
    have hrun : (convert t t (.slice (some ⟨b, 0, none⟩) len cap)).run P w = .ok (.slice (some ⟨b, 0, none⟩) len cap) (w.freeze { block := b, off := r.length } 1) := by
      simp [convert, Sem.run_bind, h3, h4, markStringish, shape, freeze, Sem.run, hsh]
    unfold Oper.wp
    simp only [execOp, h1, Sem.run_bind, hrun, Result.andThen_ok]
    refine hK _ _ (k.go _ _ (ha.put d _ hd) (hw.write hup (o' := .cells r.toArray te (r.length, r.length + 1)) ⟨_, rfl⟩ ?_ (by simp [World.freeze]) (fun q hq => ?_) rfl rfl rfl))
    · simp [World.freeze, Array.getElem?_modify, ho]
    · simp [World.freeze, Array.getElem?_modify, Ne.symm hq]⟩
end
end Sl
end Go.Proofs.YtdabhneehconeaaGreatDoor

/-
  Of no statement by itself: a rule for a region whose order Go leaves open and whose operations make memory: each operation is told once, whatever else was done before it.
  Conditions: the rule's own hypotheses.
-/
namespace Go.Proofs.YtdabhneehconeaaGreatDoor
namespace Sl

abbrev X := Nat × Nat
theorem lk_known {f : Nat → Value} {E : Env} (h : ∀ p ∈ E, f p.1 = p.2) {p : Nat × Value} (hp : p ∈ E) : lk E p.1 = some p.2 := by
  induction E with
  | nil => cases hp
  | cons q E ih =>
    simp only [lk]
    by_cases e : q.1 = p.1
    · have h1 := h q (by simp)
      have h2 := h p hp
      rw [e] at h1
      simp [e, ← h1, ← h2]
    · have : Nat.beq q.1 p.1 = false := Bool.eq_false_iff.2 fun h => e (Nat.eq_of_beq_eq_true h)
      rw [this]
      refine ih (fun q hq => h q (by simp [hq])) ?_
      simp only [List.mem_cons] at hp
      rcases hp with rfl | hp
      · exact absurd rfl e
      · exact hp
theorem mem_lk {E : Env} {t : Nat} {v : Value} (h : lk E t = some v) : (t, v) ∈ E := by
  induction E with
  | nil => simp [lk] at h
  | cons q E ih =>
    simp only [lk] at h
    by_cases e : q.1 = t
    · subst e
      simp at h
      subst h
      simp
    · have : Nat.beq q.1 t = false := Bool.eq_false_iff.2 fun h => e (Nat.eq_of_beq_eq_true h)
      rw [this] at h
      simp [ih h]
theorem Knows.of {n : Nat} {E : Env} {a : Act} (h1 : a.tmps.size = n) (h2 : a.defers = []) (h : ∀ p ∈ E, a.tmps.getD p.1 undef = p.2) : Knows n E a := ⟨h1, h2, fun _ _ hl => h _ (mem_lk hl)⟩
theorem Knows.mem {n : Nat} {E : Env} {a : Act} {f : Nat → Value} (h : Knows n E a) (hf : ∀ p ∈ E, f p.1 = p.2) {p : Nat × Value} (hp : p ∈ E) : a.tmps.getD p.1 undef = p.2 := h.all _ _ (lk_known hf hp)

/-- memory by index -/
structure HoldsI (w0 : World) (S : List Nat) (L : Nat → Prop) (f : Nat → List Ent) (w : World) : Prop where
  chg : Chg S w0 w
  all : ∀ j, L j → ∀ e ∈ f j, (∃ o, w.heap[e.b]? = some o ∧ e.A o) ∧ (e.wr = true → e.b ∈ S ∨ w0.heap.size ≤ e.b)
  nodup : ∀ j, L j → ((f j).map Ent.b).Nodup
  apart : ∀ j k, j ≠ k → L j → L k → ∀ e ∈ f j, ∀ e' ∈ f k, e.b ≠ e'.b

section
variable {w0 w : World} {S : List Nat} {L : Nat → Prop} {f : Nat → List Ent}
theorem HoldsI.to (h : HoldsI w0 S L f w) (Js : List Nat) (hn : Js.Nodup) (hL : ∀ j ∈ Js, L j) : Holds w0 S (Js.flatMap f) w := by
  refine ⟨h.chg, ?_, fun e he => ?_⟩
  · induction Js with
    | nil => simp
    | cons j Js ih =>
      rw [List.flatMap_cons, List.map_append, List.nodup_append]
      refine ⟨h.nodup j (hL j (by simp)), ih (List.nodup_cons.1 hn).2 (fun k hk => hL k (by simp [hk])), fun b hb b' hb' => ?_⟩
      simp only [List.mem_map, List.mem_flatMap] at hb hb'
      obtain ⟨e, he, rfl⟩ := hb
      obtain ⟨e', ⟨k, hk, he'⟩, rfl⟩ := hb'
      have hjk : j ≠ k := fun e => (List.nodup_cons.1 hn).1 (e ▸ hk)
      exact h.apart j k hjk (hL j (by simp)) (hL k (by simp [hk])) e he e' he'
  · obtain ⟨j, hj, he⟩ := List.mem_flatMap.1 he
    exact h.all j (hL j hj) e he
theorem flat_apart {Js : List Nat} (h : ((Js.flatMap f).map Ent.b).Nodup) : (∀ j ∈ Js, ((f j).map Ent.b).Nodup) ∧ ∀ j k, j ≠ k → j ∈ Js → k ∈ Js → ∀ e ∈ f j, ∀ e' ∈ f k, e.b ≠ e'.b := by
  induction Js with
  | nil => simp
  | cons i Js ih =>
    rw [List.flatMap_cons, List.map_append, List.nodup_append] at h
    obtain ⟨h1, h2, h3⟩ := h
    obtain ⟨i1, i2⟩ := ih h2
    have h4 : ∀ k ∈ Js, ∀ e ∈ f i, ∀ e' ∈ f k, e.b ≠ e'.b := fun k hk e he e' he' =>
      h3 e.b (List.mem_map.2 ⟨e, he, rfl⟩) e'.b (List.mem_map.2 ⟨e', List.mem_flatMap.2 ⟨k, hk, he'⟩, rfl⟩)
    refine ⟨fun j hj => ?_, fun j k hjk hj hk e he e' he' => ?_⟩
    · simp only [List.mem_cons] at hj
      rcases hj with rfl | hj
      · exact h1
      · exact i1 j hj
    · simp only [List.mem_cons] at hj hk
      rcases hj with rfl | hj
      · rcases hk with rfl | hk
        · exact absurd rfl hjk
        · exact h4 k hk e he e' he'
      · rcases hk with rfl | hk
        · exact (h4 j hj e' he' e he).symm
        · exact i2 j k hjk hj hk e he e' he'
theorem HoldsI.of {Js : List Nat} (h : Holds w0 S (Js.flatMap f) w) (hL : ∀ j, L j → j ∈ Js) : HoldsI w0 S L f w := by
  obtain ⟨h1, h2⟩ := flat_apart h.nodup
  exact ⟨h.chg, fun j hj e he => h.all e (List.mem_flatMap.2 ⟨j, hL j hj, he⟩), fun j hj => h1 j (hL j hj), fun j k hjk hj hk => h2 j k hjk (hL j hj) (hL k hk)⟩
end
theorem countP_same {l : List Nat} {p q : Nat → Bool} (h : ∀ j ∈ l, q j = p j) : l.countP q = l.countP p := by
  induction l with
  | nil => rfl
  | cons a l ih => simp only [List.countP_cons, h a (by simp), ih fun j hj => h j (by simp [hj])]
theorem count_drop {l : List Nat} {p q : Nat → Bool} {i : Nat} (hn : l.Nodup) (hi : i ∈ l) (h1 : p i = true) (h2 : q i = false) (h3 : ∀ j, j ≠ i → q j = p j) : l.countP q + 1 = l.countP p := by
  induction l with
  | nil => cases hi
  | cons a l ih =>
    simp only [List.countP_cons]
    by_cases e : a = i
    · subst e
      have := countP_same (l := l) (p := p) (q := q) fun j hj => h3 j fun e => (List.nodup_cons.1 hn).1 (e ▸ hj)
      simp [h1, h2, this]
    · have hi' : i ∈ l := by
        simp only [List.mem_cons] at hi
        rcases hi with rfl | hi
        · exact absurd rfl e
        · exact hi
      have := ih (List.nodup_cons.1 hn).2 hi'
      rw [h3 a e]
      omega

variable {Y : Type}
structure GrowO (Y : Type) where
  E0 : Env
  N : Nat
  v : Nat → Y → Value
  M : Nat → Y → List Ent
  need : Nat → List (Nat × Nat)
  inp : Nat → List Nat
  eat : Nat → List Nat
  src : Nat → Option Nat
  E1 : Nat → Env
def behind (o : Oper) (j : Nat) : Bool := o.after.toList.any fun e => e.on == j && Region.binds .any e
def dstOf (l : List Oper) (j : Nat) : Option Nat := match l[j]? with | some q => q.dst | none => none
def behindOf (l : List Oper) (j i : Nat) : Bool := match l[j]? with | some q => behind q i | none => false
def noDup : List Nat → Bool
  | [] => true
  | a :: l => !l.contains a && noDup l
theorem noDup_spec {l : List Nat} (h : noDup l = true) : l.Nodup := by
  induction l with
  | nil => simp
  | cons a l ih =>
    simp only [noDup, Bool.and_eq_true, Bool.not_eq_true', List.contains_eq_mem, decide_eq_false_iff_not] at h
    exact List.nodup_cons.2 ⟨h.1, ih h.2⟩
def apartD (l : List Oper) (E0 : Env) (i : Nat) : Option Nat → Bool
  | some d => (List.range l.length).all (fun k => k == i || dstOf l k != some d) && E0.all fun p => p.1 != d
  | none => true
def srcOk (o : Oper) : Option Nat → Bool
  | some k => behind o k
  | none => true
/-- what is known at first of a slot that a later operation writes -/
def GrowO.okE1 (g : GrowO Y) (l : List Oper) (i : Nat) : Bool :=
  (g.E1 i).all fun p => (List.range l.length).all fun k => dstOf l k != some p.1 || (k != i && behindOf l k i)
def GrowO.okOp (g : GrowO Y) (l : List Oper) (i : Nat) (o : Oper) : Bool :=
  (((g.need i).all (fun p => behind o p.1 && dstOf l p.1 == some p.2) && srcOk o (g.src i)) && g.okE1 l i) &&
  ((g.inp i).all (fun j => decide (j < g.N) && (decide (l.length ≤ j) || behind o j)) &&
  ((g.eat i).all (fun j => (g.inp i).contains j) &&
  ((List.range l.length).all (fun k => k == i || (g.eat k).all fun j => !(g.inp i).contains j || behindOf l k i) &&
  (noDup (g.inp i) && (o.after.toList.all (fun e => !Region.binds .any e || decide (e.on < i)) && apartD l g.E0 i o.dst)))))
def GrowO.okFrom (g : GrowO Y) (l : List Oper) : Nat → List Oper → Bool
  | _, [] => true
  | i, o :: r => g.okOp l i o && g.okFrom l (i + 1) r
theorem GrowO.okFrom_at {g : GrowO Y} {l : List Oper} : ∀ {r : List Oper} {i : Nat}, g.okFrom l i r = true → ∀ {j o}, r[j]? = some o → g.okOp l (i + j) o = true
  | [], _, _, j, o, h => by simp at h
  | q :: r, i, hk, j, o, h => by
    simp only [GrowO.okFrom, Bool.and_eq_true] at hk
    cases j with
    | zero =>
      simp only [List.getElem?_cons_zero, Option.some.injEq] at h
      subst h
      exact hk.1
    | succ j =>
      have := GrowO.okFrom_at hk.2 (j := j) (o := o) (by simpa using h)
      rwa [show i + 1 + j = i + (j + 1) by omega] at this
def slot (d : Option Nat) (v : Value) : Env := match d with | some d => [(d, v)] | none => []
def GrowO.Job (g : GrowO Y) (P : Program) (n : Nat) (w0 : World) (S : List Nat) (l : List Oper) (i : Nat) (o : Oper) : Prop :=
  ∀ (x : Nat → Y) (EF : Env) (MF : List Ent) (Q : Exit → Act → World → Prop),
    (∀ xi : Y, (∀ k, g.src i = some k → xi = x k) → JE n w0 S Q .normal (slot o.dst (g.v i xi) ++ ((g.need i).map (fun p => (p.2, g.v p.1 (x p.1))) ++ (g.E0 ++ (g.E1 i ++ EF)))) (g.M i xi ++ (((g.inp i).filter fun j => !(g.eat i).contains j).flatMap (fun j => g.M j (x j)) ++ MF))) →
    JL P n w0 S l.toArray Q [o] ((g.need i).map (fun p => (p.2, g.v p.1 (x p.1))) ++ (g.E0 ++ (g.E1 i ++ EF))) ((g.inp i).flatMap (fun j => g.M j (x j)) ++ MF)
def GrowO.Jobs (g : GrowO Y) (P : Program) (n : Nat) (w0 : World) (S : List Nat) (l : List Oper) : Nat → List Oper → Prop
  | _, [] => True
  | i, o :: r => g.Job P n w0 S l i o ∧ g.Jobs P n w0 S l (i + 1) r
theorem GrowO.Jobs_at {g : GrowO Y} {P : Program} {n : Nat} {w0 : World} {S : List Nat} {l : List Oper} : ∀ {r : List Oper} {i : Nat}, g.Jobs P n w0 S l i r → ∀ {j o}, r[j]? = some o → g.Job P n w0 S l (i + j) o
  | [], _, _, j, o, h => by simp at h
  | q :: r, i, hk, j, o, h => by
    cases j with
    | zero =>
      simp only [List.getElem?_cons_zero, Option.some.injEq] at h
      subst h
      exact hk.1
    | succ j =>
      have := GrowO.Jobs_at hk.2 (j := j) (o := o) (by simpa using h)
      rwa [show i + 1 + j = i + (j + 1) by omega] at this

/-- which makings stand -/
def GrowO.live (g : GrowO Y) (m : Nat) (done : Array Bool) (j : Nat) : Prop := j < g.N ∧ (m ≤ j ∨ done.getD j false = true) ∧ ∀ k, done.getD k false = true → j ∉ g.eat k
structure GrowO.Inv (g : GrowO Y) (n : Nat) (w0 : World) (S : List Nat) (l : List Oper) (done : Array Bool) (x : Nat → Y) (a : Act) (w : World) : Prop where
  size : a.tmps.size = n
  defers : a.defers = []
  dsize : done.size = l.length
  base : ∀ p ∈ g.E0, a.tmps.getD p.1 undef = p.2
  first : ∀ j, j < l.length → done.getD j false = false → ∀ p ∈ g.E1 j, a.tmps.getD p.1 undef = p.2
  vals : ∀ j d, done.getD j false = true → dstOf l j = some d → a.tmps.getD d undef = g.v j (x j)
  rel : ∀ j k, done.getD j false = true → g.src j = some k → x j = x k
  down : ∀ j i, done.getD j false = true → behindOf l j i = true → done.getD i false = true
  mem : HoldsI w0 S (g.live l.length done) (fun j => g.M j (x j)) w

section
variable {P : Program} {n : Nat} {w0 : World} {S : List Nat} {Q : Exit → Act → World → Prop} {E : Env} {M : List Ent} {g : GrowO Y} {l : List Oper}
theorem getD_set {done : Array Bool} {i j : Nat} (hi : i < done.size) : (done.setIfInBounds i true).getD j false = (decide (j = i) || done.getD j false) := by
  by_cases e : j = i
  · subst e
    simp [hi]
  · simp [e, Ne.symm e]

theorem GrowO.run (hok : g.okFrom l 0 l = true) (hj : g.Jobs P n w0 S l 0 l)
    (hend : ∀ done x a w, g.Inv n w0 S l done x a w → (∀ j, j < l.length → done.getD j false = true) → Q .normal a w) :
    ∀ (f : Nat) (done : Array Bool) (x : Nat → Y) (a : Act) (w : World), f = (List.range l.length).countP (fun j => !done.getD j false) → g.Inv n w0 S l done x a w → wpAny P .any l.toArray Q f done a w := by
  have hrdy : ∀ done : Array Bool, done.size = l.length → Region.ready .any l.toArray done = [] → ∀ j, j < l.length → done.getD j false = true := by
    intro done hds hr j
    induction j using Nat.strongRecOn with
    | _ j ih =>
      intro hjl
      cases hd : done.getD j false with
      | true => rfl
      | false =>
        obtain ⟨o, ho⟩ : ∃ o, l[j]? = some o := ⟨_, List.getElem?_eq_getElem hjl⟩
        have hk := GrowO.okFrom_at hok ho
        simp only [GrowO.okOp, Bool.and_eq_true, Nat.zero_add] at hk
        have hkk := hk.2.2.2.2.2.1
        have : j ∈ Region.ready .any l.toArray done := by
          rw [mem_ready]
          refine ⟨?_, o, by simpa using ho, fun e he hb => ?_⟩
          · rw [Array.getD_eq_getD_getElem?, Array.getElem?_eq_getElem (by omega)] at hd ⊢
            simpa using hd
          · have := List.all_eq_true.1 hkk e (by simpa using he)
            simp only [hb, Bool.not_true, Bool.false_or, decide_eq_true_eq] at this
            exact ih e.on this (by omega)
        rw [hr] at this
        cases this
  intro f
  induction f with
  | zero =>
    intro done x a w hf hI
    have hall : ∀ j, j < l.length → done.getD j false = true := fun j hjl => by
      have := List.countP_eq_zero.1 hf.symm j (List.mem_range.2 hjl)
      simpa using this
    refine ⟨?_, hend done x a w hI hall⟩
    refine List.eq_nil_iff_forall_not_mem.2 fun i hi => ?_
    obtain ⟨hu, o, ho, _⟩ := mem_ready.1 hi
    have hil : i < l.length := by
      have := (Array.getElem?_eq_some_iff.1 ho).1
      simpa using this
    have := hall i hil
    rw [Array.getD_eq_getD_getElem?, Array.getElem?_eq_getElem (by have := hI.dsize; omega)] at hu this
    simp only [Option.getD_some] at hu this
    rw [hu] at this
    cases this
  | succ f ih =>
    intro done x a w hf hI
    have hds := hI.dsize
    refine ⟨fun h0 => hend done x a w hI (hrdy done hds h0), fun i hi => ?_⟩
    obtain ⟨hu, o, ho, hbe⟩ := mem_ready.1 hi
    have hil : i < l.length := by
      have := (Array.getElem?_eq_some_iff.1 ho).1
      simpa using this
    have ho' : l[i]? = some o := by simpa using ho
    have hu' : done.getD i false = false := by
      rw [Array.getD_eq_getD_getElem?, Array.getElem?_eq_getElem (by omega)] at hu ⊢
      simpa using hu
    have hk := GrowO.okFrom_at hok ho'
    simp only [GrowO.okOp, Bool.and_eq_true, Nat.zero_add] at hk
    obtain ⟨⟨⟨k1, k8⟩, k9⟩, k2, k3, k4, k5, _, k7⟩ := hk
    have hbeh : ∀ j, behind o j = true → done.getD j false = true := fun j hj => by
      simp only [behind, List.any_eq_true, Bool.and_eq_true, beq_iff_eq] at hj
      obtain ⟨e, he, rfl, hb⟩ := hj
      exact hbe e (by simpa using he) hb
    have hbi : ∀ k, behindOf l k i = true → done.getD k false = false := fun k hk => by
      cases h : done.getD k false with
      | false => rfl
      | true => have := hI.down k i h hk; rw [hu'] at this; cases this
    have hinp : ∀ j ∈ g.inp i, g.live l.length done j := by
      intro j hj
      have h2 := List.all_eq_true.1 k2 j hj
      simp only [Bool.and_eq_true, Bool.or_eq_true, decide_eq_true_eq] at h2
      refine ⟨h2.1, h2.2.imp id (hbeh j), fun k hkd hjk => ?_⟩
      have hkl : k < l.length := by
        by_cases h : k < l.length
        · exact h
        · rw [Array.getD_eq_getD_getElem?, Array.getElem?_eq_none (by omega)] at hkd
          cases hkd
      have h4 := List.all_eq_true.1 k4 k (List.mem_range.2 hkl)
      have hki : k ≠ i := fun e => by rw [e, hu'] at hkd; cases hkd
      simp only [Bool.or_eq_true, beq_iff_eq, hki, false_or] at h4
      have h5 := List.all_eq_true.1 h4 j hjk
      simp only [Bool.or_eq_true, Bool.not_eq_true', List.contains_eq_mem, decide_eq_false_iff_not, hj, not_true, false_or] at h5
      rw [hbi k h5] at hkd
      cases hkd
    have hdone_ne : ∀ j, done.getD j false = true → j ≠ i := fun j hj e => by rw [e, hu'] at hj; cases hj
    have hlen : ∀ k, done.getD k false = true → k < l.length := fun k hkd => by
      by_cases h : k < l.length
      · exact h
      · rw [Array.getD_eq_getD_getElem?, Array.getElem?_eq_none (by omega)] at hkd
        cases hkd
    have hdi : dstOf l i = o.dst := by simp [dstOf, ho']
    have hne : ∀ j d, done.getD j false = true → dstOf l j = some d → o.dst ≠ some d := by
      intro j d hjd hd he
      rw [he] at k7
      simp only [apartD, Bool.and_eq_true] at k7
      have := List.all_eq_true.1 k7.1 j (List.mem_range.2 (hlen j hjd))
      simp [hdone_ne j hjd, hd] at this
    have hne0 : ∀ p ∈ g.E0, o.dst ≠ some p.1 := by
      intro p hp he
      rw [he] at k7
      simp only [apartD, Bool.and_eq_true] at k7
      have := List.all_eq_true.1 k7.2 p hp
      simp at this
    let rest : List Nat := (List.range g.N).filter fun j => @decide (g.live l.length done j) (Classical.propDecidable _) && !(g.inp i).contains j
    have hrest : ∀ j, j ∈ rest ↔ g.live l.length done j ∧ j ∉ g.inp i := by
      intro j
      simp only [rest, List.mem_filter, List.mem_range, Bool.and_eq_true, Bool.not_eq_true', List.contains_eq_mem, decide_eq_false_iff_not]
      refine ⟨fun ⟨_, h2, h3⟩ => ⟨@of_decide_eq_true _ (Classical.propDecidable _) h2, h3⟩, fun ⟨h2, h3⟩ => ⟨h2.1, @decide_eq_true _ (Classical.propDecidable _) h2, h3⟩⟩
    have hnd : (g.inp i ++ rest).Nodup := by
      rw [List.nodup_append]
      refine ⟨noDup_spec k5, List.nodup_range.filter _, fun a ha b hb e => ?_⟩
      exact ((hrest b).1 hb).2 (e ▸ ha)
    have H1 := hI.mem.to (g.inp i ++ rest) hnd (fun j hj => by
      rcases List.mem_append.1 hj with h | h
      · exact hinp j h
      · exact ((hrest j).1 h).1)
    rw [List.flatMap_append] at H1
    let EF0 : Env := (List.range l.length).filterMap fun j => if done.getD j false = true then (dstOf l j).map (fun d => (d, g.v j (x j))) else none
    let EF1 : Env := (List.range l.length).flatMap fun j => if done.getD j false = true then [] else g.E1 j
    let EF : Env := EF0 ++ EF1
    have hEF : ∀ p, p ∈ EF0 ↔ ∃ j d, done.getD j false = true ∧ dstOf l j = some d ∧ p = (d, g.v j (x j)) := by
      intro p
      simp only [EF0, List.mem_filterMap, List.mem_range]
      constructor
      · rintro ⟨j, _, hp⟩
        split at hp
        · rename_i hjd
          obtain ⟨d, hd, rfl⟩ := Option.map_eq_some_iff.1 hp
          exact ⟨j, d, hjd, hd, rfl⟩
        · cases hp
      · rintro ⟨j, d, hjd, hd, rfl⟩
        exact ⟨j, hlen j hjd, by rw [if_pos hjd, hd]; rfl⟩
    have hEF1 : ∀ j, j < l.length → done.getD j false = false → ∀ p ∈ g.E1 j, p ∈ EF1 := by
      intro j hjl hjd p hp
      simp only [EF1, List.mem_flatMap, List.mem_range]
      exact ⟨j, hjl, by rw [if_neg (by rw [hjd]; decide)]; exact hp⟩
    have hne1 : ∀ j, j < l.length → done.getD j false = false → ∀ p ∈ g.E1 j, o.dst ≠ some p.1 := by
      intro j hjl hjd p hp he
      have hjo : l[j]? = some (l[j]'hjl) := List.getElem?_eq_getElem hjl
      have hkj := GrowO.okFrom_at hok hjo
      simp only [GrowO.okOp, Bool.and_eq_true, Nat.zero_add] at hkj
      have h9 := List.all_eq_true.1 hkj.1.2 p hp
      have h10 := List.all_eq_true.1 h9 i (List.mem_range.2 hil)
      simp only [hdi, he, bne_self_eq_false, Bool.false_or, Bool.and_eq_true] at h10
      have h11 : behind o j = true := by simpa [behindOf, ho'] using h10.2
      rw [hbeh j h11] at hjd
      cases hjd
    have hneed : ∀ p ∈ g.need i, done.getD p.1 false = true ∧ dstOf l p.1 = some p.2 := by
      intro p hp
      have h1 := List.all_eq_true.1 k1 p hp
      simp only [Bool.and_eq_true, beq_iff_eq] at h1
      exact ⟨hbeh _ h1.1, h1.2⟩
    have hK : ∀ p ∈ ((g.need i).map (fun p => (p.2, g.v p.1 (x p.1))) ++ (g.E0 ++ (g.E1 i ++ EF))), a.tmps.getD p.1 undef = p.2 ∧ o.dst ≠ some p.1 := by
      intro p hp
      rcases List.mem_append.1 hp with h | h
      · obtain ⟨q, hq, rfl⟩ := List.mem_map.1 h
        obtain ⟨h1, h2⟩ := hneed q hq
        exact ⟨hI.vals _ _ h1 h2, hne _ _ h1 h2⟩
      · rcases List.mem_append.1 h with h | h
        · exact ⟨hI.base p h, hne0 p h⟩
        · rcases List.mem_append.1 h with h | h
          · exact ⟨hI.first i hil hu' p h, hne1 i hil hu' p h⟩
          · rcases List.mem_append.1 h with h | h
            · obtain ⟨j, d, h1, h2, rfl⟩ := (hEF p).1 h
              exact ⟨hI.vals _ _ h1 h2, hne _ _ h1 h2⟩
            · simp only [EF1, List.mem_flatMap, List.mem_range] at h
              obtain ⟨j, hjl, h⟩ := h
              cases hjd : done.getD j false with
              | true => rw [hjd] at h; simp at h
              | false =>
                rw [hjd] at h
                simp only [Bool.false_eq_true, if_false] at h
                exact ⟨hI.first j hjl hjd p h, hne1 j hjl hjd p h⟩
    have job := GrowO.Jobs_at hj ho'
    rw [Nat.zero_add] at job
    refine wpOp_of_list ho ((job x EF (rest.flatMap fun j => g.M j (x j)) _ fun xi hxi => ⟨fun a' w' hK' hH' => ?_⟩).go a w (Knows.of hI.size hI.defers fun p hp => (hK p hp).1) H1)
    have hd' : ∀ j, (done.setIfInBounds i true).getD j false = (decide (j = i) || done.getD j false) := fun j => getD_set (by omega)
    refine ih _ (fun j => if j = i then xi else x j) a' w' ?_ ?_
    · have := count_drop (l := List.range l.length) (p := fun j => !done.getD j false) (q := fun j => !(done.setIfInBounds i true).getD j false) (i := i) List.nodup_range (List.mem_range.2 hil) (by simp only [hu']; rfl) (by simp only [hd']; simp) (fun j hj => by simp only [hd']; simp [hj])
      omega
    · have hmem : ∀ p ∈ (slot o.dst (g.v i xi) ++ ((g.need i).map (fun p => (p.2, g.v p.1 (x p.1))) ++ (g.E0 ++ (g.E1 i ++ EF)))), a'.tmps.getD p.1 undef = p.2 := by
        intro p hp
        refine hK'.mem (f := fun t => if o.dst = some t then g.v i xi else a.tmps.getD t undef) (fun q hq => ?_) hp
        rcases List.mem_append.1 hq with h | h
        · cases hod : o.dst with
          | none => rw [hod] at h; cases h
          | some d =>
            rw [hod] at h
            simp only [slot, List.mem_singleton] at h
            subst h
            simp
        · have := hK q h
          simp only [this.2, if_false]
          exact this.1
      refine ⟨hK'.size, hK'.defers, by simp [hds], fun p hp => hmem p (by simp [hp]), fun j hjl hjd p hp => ?_, ?_, ?_, ?_, ?_⟩
      · rw [hd'] at hjd
        simp only [Bool.or_eq_false_iff] at hjd
        exact hmem p (List.mem_append_right _ (List.mem_append_right _ (List.mem_append_right _ (List.mem_append_right _ (List.mem_append_right _ (hEF1 j hjl hjd.2 p hp))))))
      · intro j d hjd hd
        by_cases e : j = i
        · subst e
          rw [hdi] at hd
          have := hmem (d, g.v j xi) (by simp [hd, slot])
          simpa using this
        · rw [hd'] at hjd
          simp only [e, decide_false, Bool.false_or] at hjd
          have := hmem (d, g.v j (x j)) (List.mem_append_right _ (List.mem_append_right _ (List.mem_append_right _ (List.mem_append_right _ (List.mem_append_left _ ((hEF _).2 ⟨j, d, hjd, hd, rfl⟩))))))
          simpa [e] using this
      · intro j k hjd hs
        rw [hd'] at hjd
        by_cases e : j = i
        · subst e
          rw [hs] at k8
          simp only [if_true, hdone_ne k (hbeh k k8), if_false]
          exact hxi k hs
        · simp only [e, decide_false, Bool.false_or] at hjd
          have hjo : l[j]? = some (l[j]'(hlen j hjd)) := List.getElem?_eq_getElem (hlen j hjd)
          have hkj := GrowO.okFrom_at hok hjo
          simp only [GrowO.okOp, Bool.and_eq_true, Nat.zero_add] at hkj
          have h8 := hkj.1.1.2
          rw [hs] at h8
          have hkd := hI.down j k hjd (by simpa [behindOf, hjo, srcOk] using h8)
          simp only [e, hdone_ne k hkd, if_false]
          exact hI.rel j k hjd hs
      · intro j i' hjd hb
        rw [hd'] at hjd ⊢
        by_cases e : j = i
        · subst e
          have : behind o i' = true := by simpa [behindOf, ho'] using hb
          simp [hbeh i' this]
        · simp only [e, decide_false, Bool.false_or] at hjd
          simp [hI.down j i' hjd hb]
      · have hnl : ¬ g.live l.length done i := fun h => by
          rcases h.2.1 with h | h
          · omega
          · rw [hu'] at h; cases h
        have hcg : ∀ L : List Nat, (∀ j ∈ L, g.live l.length done j) → L.flatMap (fun j => g.M j (if j = i then xi else x j)) = L.flatMap fun j => g.M j (x j) := by
          intro L
          induction L with
          | nil => simp
          | cons j L ih =>
            intro h
            have hji : j ≠ i := fun e => hnl (e ▸ h j (by simp))
            simp only [List.flatMap_cons, hji, if_false, ih fun k hk => h k (by simp [hk])]
        refine HoldsI.of (Js := i :: (((g.inp i).filter fun j => !(g.eat i).contains j) ++ rest)) ?_ ?_
        · rw [List.flatMap_cons, List.flatMap_append, hcg _ (fun j hj => hinp j (List.mem_filter.1 hj).1), hcg rest (fun j hj => ((hrest j).1 hj).1)]
          simpa using hH'
        · intro j hj
          by_cases e : j = i
          · simp [e]
          · have hl : g.live l.length done j := by
              refine ⟨hj.1, hj.2.1.imp id (fun h => ?_), fun k hk => hj.2.2 k (by rw [hd']; simp [hk])⟩
              rw [hd'] at h
              simpa [e] using h
            have hne : j ∉ g.eat i := hj.2.2 i (by rw [hd']; simp)
            by_cases hji : j ∈ g.inp i
            · simp [e, hji, hne]
            · have := (hrest j).2 ⟨hl, hji⟩
              simp [e, this]
/-- a region whose order is open, each operation told once; g.E1: what is known of slots until the region writes them -/
theorem JC.growO [Inhabited Y] (g : GrowO Y) (outs : List (Nat × Nat)) (ends : List Nat) {id : Nat} (hm : P.follows .mixedOrders = true) (hE : SubE E g.E0) (hE1 : ∀ i, i < l.length → SubE E (g.E1 i)) (hM : Less (((List.range g.N).filter fun j => decide (l.length ≤ j)).flatMap fun j => g.M j default) M)
    (hok : g.okFrom l 0 l = true) (ho : (outs.all fun p => decide (p.1 < l.length) && dstOf l p.1 == some p.2) = true)
    (he : (noDup ends && ends.all fun j => decide (j < g.N) && (List.range l.length).all fun k => !(g.eat k).contains j) = true)
    (hj : g.Jobs P n w0 S l 0 l)
    (k : ∀ x : Nat → Y, (∀ j k, j < l.length → g.src j = some k → x j = x k) → JE n w0 S Q .normal (outs.map (fun p => (p.2, g.v p.1 (x p.1))) ++ g.E0) (ends.flatMap fun j => g.M j (x j))) : JC P n w0 S Q (.region id l.toArray true) E M :=
  ⟨fun a w ha hw => by
    refine wp_region_any hm ?_
    have hw' := (hw.drawn (w.drawn + 1)).weak hM
    simp only [Bool.and_eq_true] at he
    refine GrowO.run hok hj (fun done x a w hI hall => ?_) _ _ (fun _ => default) a _ ?_ ?_
    · refine (k x fun j k hj hs => hI.rel j k (hall j hj) hs).go a w (Knows.of hI.size hI.defers fun p hp => ?_) (hI.mem.to ends (noDup_spec he.1) fun j hj => ?_)
      · rcases List.mem_append.1 hp with h | h
        · obtain ⟨q, hq, rfl⟩ := List.mem_map.1 h
          have := List.all_eq_true.1 ho q hq
          simp only [Bool.and_eq_true, decide_eq_true_eq, beq_iff_eq] at this
          exact hI.vals _ _ (hall _ this.1) this.2
        · exact hI.base p h
      · have := List.all_eq_true.1 he.2 j hj
        simp only [Bool.and_eq_true, decide_eq_true_eq] at this
        refine ⟨this.1, ?_, fun k hk hjk => ?_⟩
        · by_cases h : l.length ≤ j
          · exact .inl h
          · exact .inr (hall j (by omega))
        · have hkl : k < l.length := by
            by_cases h : k < l.length
            · exact h
            · have := hI.dsize
              rw [Array.getD_eq_getD_getElem?, Array.getElem?_eq_none (by omega)] at hk
              cases hk
          have := List.all_eq_true.1 this.2 k (List.mem_range.2 hkl)
          simp [hjk] at this
    · have : ∀ j, (Array.replicate l.toArray.size false).getD j false = false := fun j => by
        simp only [Array.getD_eq_getD_getElem?, Array.getElem?_replicate]
        split <;> rfl
      rw [List.countP_eq_length.2 (fun j _ => by simp only [this]; rfl)]
      simp
    · have hf : ∀ j, (Array.replicate l.toArray.size false).getD j false = false := fun j => by
        simp only [Array.getD_eq_getD_getElem?, Array.getElem?_replicate]
        split <;> rfl
      refine ⟨ha.size, ha.defers, by simp, fun p hp => ha.all _ _ (hE.all p hp), fun j hj _ p hp => ha.all _ _ ((hE1 j hj).all p hp), fun j d h => ?_, fun j k h => ?_, fun j i h => ?_, ?_⟩
      · rw [hf] at h; cases h
      · rw [hf] at h; cases h
      · rw [hf] at h; cases h
      · refine HoldsI.of hw' fun j hj => ?_
        rw [List.mem_filter]
        refine ⟨List.mem_range.2 hj.1, ?_⟩
        rcases hj.2.1 with h | h
        · simpa using h
        · rw [hf] at h; cases h⟩

structure Grow (Y : Type) where
  E0 : Env
  N : Nat
  v : Nat → Y → Value
  M : Nat → Y → List Ent
  need : Nat → List (Nat × Nat)
  inp : Nat → List Nat
  eat : Nat → List Nat
  src : Nat → Option Nat
def Grow.o (g : Grow Y) : GrowO Y := ⟨g.E0, g.N, g.v, g.M, g.need, g.inp, g.eat, g.src, fun _ => []⟩
end
end Sl
end Go.Proofs.YtdabhneehconeaaGreatDoor

/-
  Of no statement by itself: append of made noughts onto a byte slice of the function's own.
  Conditions: the rule's own hypotheses.
-/
namespace Go.Proofs.YtdabhneehconeaaGreatDoor
namespace Sl
section
variable {P : Program} {t tx e : TypeId}
variable {n : Nat} {w0 : World} {S : List Nat} {ops : Array Oper} {Q : Exit → Act → World → Prop} {l : List Oper} {E : Env} {M : List Ent} {d b : Nat} {ty : TypeId} {pos : String} {aft : Array Edge} {x y : Operand}
end
end Sl
end Go.Proofs.YtdabhneehconeaaGreatDoor

/-
  Of no statement by itself: rules for parts of an answer with several results, for made slices, and for slices with three bounds.
  Conditions: each rule's own hypotheses.
-/
namespace Go.Proofs.YtdabhneehconeaaGreatDoor
namespace Sl
section
variable {P : Program} {n : Nat} {w0 : World} {S : List Nat} {ops : Array Oper} {Q : Exit → Act → World → Prop} {l : List Oper} {E : Env} {M : List Ent} {C : World → Prop}
variable {dst : Option Tmp} {d b : Nat} {t e ty : TypeId} {pos : String} {aft : Array Edge} {g : Option (Nat × Bool)} {v : Value} {x y z : Operand}
theorem OQ.extract {vs : Array Value} {i : Nat} (hx : ev E x = some (.tuple vs)) (hi : vs[i]? = some v) : OQ P n E C ⟨dst, .extract x i, ty, pos, aft, g⟩ v :=
  OQ.run fun a ha w _ => by
    have h1 := ha.eval hx
    simp [execOp, h1, Instr.extract, hi]
theorem made_u8 {k : Nat} (zc : Array Value) (h : zc = (List.replicate k (Value.int .u8 0)).toArray) (h0 : 0 < k) (m : Nat) : madeCells zc m = (List.replicate m (Value.int .u8 0)).toArray := by
  subst h
  apply Array.ext'
  simp only [madeCells, List.size_toArray, List.length_replicate, Array.toList_map, Array.toList_range]
  apply List.ext_getElem?
  intro i
  by_cases h : i < m
  · simp [h, Nat.mod_lt _ h0]
  · simp [h]
/-- make([]T, c): a new row of noughts -/
theorem JL.make {zv : Value} {sz by' c : Nat} (hu : P.underlying t = some (.slice e)) (hi : EI P e zv sz by') (hz : zv.cells = (List.replicate sz (Value.int .u8 0)).toArray) (h0 : 0 < sz) (hx : ev E x = some (N c)) (hy : ev E y = some (N c)) (hb : by' * c ≤ 281474976710656) (hc : c < 9223372036854775808) (hd : Nat.blt d n = true)
    (k : ∀ b, w0.heap.size ≤ b → JL P n w0 S ops Q l ((d, .slice (some ⟨b, 0, none⟩) c c) :: E) (⟨b, Row e (List.replicate (c * sz) (.int .u8 0)), true⟩ :: M)) : JL P n w0 S ops Q (⟨some d, .makeSlice t x y, ty, pos, aft, none⟩ :: l) E M :=
  ⟨fun a w ha hw => wpList_plain rfl fun K hK => by
    obtain ⟨i, hi1, hi2, hi3, hi4⟩ := hi.get
    have hbb : (i.bytes : Int) * (c : Int) ≤ 281474976710656 := by
      rw [hi4, ← Int.natCast_mul]
      exact Int.ofNat_le.2 hb
    have hrun := run_make (P := P) w t e i zv hu hi1 hi2 .i64 .i64 c c (by omega) (Int.le_refl _) hbb (by omega)
    simp only [Int.toNat_natCast, hi3] at hrun
    rw [made_u8 _ hz h0] at hrun
    unfold Oper.wp
    simp only [execOp, ha.eval hx, ha.eval hy, Sem.run_bind, hrun, Result.andThen_ok]
    exact hK _ _ ((k w.heap.size hw.chg.size).go _ _ (ha.put d _ hd) (hw.push (.cells (List.replicate (c * sz) (Value.int .u8 0)).toArray e (0, 0)) rfl rfl rfl rfl rfl))⟩
end
end Sl
end Go.Proofs.YtdabhneehconeaaGreatDoor

/-
  Of no statement by itself: rules for literals of slices whose elements have many cells.
  Conditions: each rule's own hypotheses.
-/
namespace Go.Proofs.YtdabhneehconeaaGreatDoor
namespace Sl
section
variable {P : Program} {n : Nat} {w0 : World} {S : List Nat} {ops : Array Oper} {Q : Exit → Act → World → Prop} {l : List Oper} {E : Env} {M : List Ent}
variable {d : Nat} {t e ty : TypeId} {pos : String} {aft : Array Edge} {v z : Value} {x : Operand} {sz by' : Nat} {cs : List Value}
theorem buildA_run {w : World} (hu : P.underlying t = some (.slice e)) (hi : EI P e z sz by') (_hz : z.cells.size = sz) (h0 : 0 < sz) (hsm : sz ≤ 16777216) (hl : cs.length = sz) :
    (Instr.buildSlice t 1 #[(0, .agg cs.toArray)]).run P w = .ok (.slice (some ⟨w.heap.size, 0, none⟩) 1 1) { w with heap := w.heap.push (.cells cs.toArray e (0, 0)) } := by
  have h3 : (underlying t).run P w = .ok (.slice e) w := run_underlying hu w
  obtain ⟨i, h4, h5, _⟩ := hi.get
  obtain ⟨r, h6, h7, h8⟩ := Great.fill_dense h0 [.agg cs.toArray] 0 ((Array.range (1 * sz)).map (z.cells[· % z.cells.size]!)) (by simp [Value.cells, hl]) (by simp)
  have hr : r = cs.toArray := by
    apply Array.ext_getElem?
    intro k
    rw [h8 k]
    by_cases hk : k < sz
    · rw [if_pos (by simp; omega)]
      simp [Nat.div_eq_of_lt hk, Nat.mod_eq_of_lt hk, Value.cells]
    · rw [if_neg (by simp; omega), Array.getElem?_eq_none (by simp; omega), Array.getElem?_eq_none (by simp; omega)]
  subst hr
  have h9 : ¬ (16777216 < 1 * sz) := by omega
  have h10 : ¬ (1 * sz = 0) := by omega
  simp only [List.zipIdx_cons, List.zipIdx_nil, List.map_cons, List.map_nil] at h6
  have h11 : (zeroValue e).run P w = .ok z w := by simp [zeroValue, typeInfo, h4, h5]
  have h12 : ¬ (16777216 < sz) := by omega
  have h13 : ¬ (sz = 0) := by omega
  rw [Nat.one_mul] at h6
  simp [Instr.buildSlice, Sem.run_bind, h3, sizeOf_run hi.sz, h11, h12, h13, h6, newRow, newObj, Sem.run]
theorem JL.litA (hu : P.underlying t = some (.slice e)) (hi : EI P e z sz by') (hz : z.cells.size = sz) (h0 : 0 < sz) (hsm : sz ≤ 16777216) (hx : ev E x = some (.agg cs.toArray)) (hl : cs.length = sz) (hd : Nat.blt d n = true)
    (k : ∀ b, w0.heap.size ≤ b → JL P n w0 S ops Q l ((d, .slice (some ⟨b, 0, none⟩) 1 1) :: E) (⟨b, Row e cs, true⟩ :: M)) : JL P n w0 S ops Q (⟨some d, .buildSlice t 1 #[(0, x)], ty, pos, aft, none⟩ :: l) E M :=
  ⟨fun a w ha hw => wpList_plain rfl fun K hK => by
    unfold Oper.wp
    have hm : (#[(0, x)] : Array (Nat × Operand)).map (fun (i, x) => (i, a.eval x)) = #[(0, .agg cs.toArray)] := by simp [ha.eval hx]
    simp only [execOp, hm, Sem.run_bind, buildA_run hu hi hz h0 hsm hl, Result.andThen_ok]
    exact hK _ _ ((k w.heap.size hw.chg.size).go _ _ (ha.put d _ hd) (hw.push _ rfl rfl rfl rfl rfl))⟩
end
end Sl
end Go.Proofs.YtdabhneehconeaaGreatDoor

/-
  Of no statement by itself: rules for literals of slices of any length, for cuts with two bounds, for the smaller of two ints, for parts of arrays of arrays, and for equality of arrays of words.
  Conditions: each rule's own hypotheses.
-/
namespace Go.Proofs.YtdabhneehconeaaGreatDoor
namespace Sl
section
variable {P : Program} {n : Nat} {w0 : World} {S : List Nat} {ops : Array Oper} {Q : Exit → Act → World → Prop} {l : List Oper} {E : Env} {M : List Ent} {C : World → Prop}
variable {dst : Option Tmp} {d b : Nat} {t t' e ty : TypeId} {pos : String} {aft : Array Edge} {g : Option (Nat × Bool)} {v zv : Value} {x y z : Operand} {by' : Nat}
/-- 'x[lo:hi]' of a slice -/
theorem OQ.slS_lohi {len cap lo hi sz : Nat} {ad : Option Addr} (hu : P.underlying t = some (.slice e)) (hz : szT P e = some sz) (hx : ev E x = some (.slice ad len cap)) (hl : ev E y = some (N lo)) (hh : ev E z = some (N hi)) (h : lo ≤ hi) (h' : hi ≤ cap) :
    OQ P n E C ⟨dst, .slice t x (some y) (some z) none, ty, pos, aft, g⟩ (.slice (if cap = lo then ad else ad.map (·.add (lo * sz))) (hi - lo) (cap - lo)) :=
  OQ.run fun a ha w _ => by
    have h1 := ha.eval hx
    have h2 := ha.eval hl
    have h4 := ha.eval hh
    have h3 : (underlying t).run P w = .ok (.slice e) w := run_underlying hu w
    simp [execOp, h1, h2, h4, Instr.sliceAt, Sem.run_bind, h3, Instr.slice, Instr.sliceBounds, Instr.sliceBound, asIntOf, h, h', sizeOf_run hz]
theorem OQ.minN {a c : Nat} (hx : ev E x = some (N a)) (hy : ev E y = some (N c)) : OQ P n E C ⟨dst, .call ⟨.builtin .min, #[x, y], #[t, t']⟩, ty, pos, aft, g⟩ (N (min a c)) :=
  OQ.run fun ac ha w _ => by
    have h1 := ha.eval hx
    have h2 := ha.eval hy
    have h3 : (if c < a then (c : Int) else (a : Int)) = ((min a c : Nat) : Int) := by split <;> omega
    simp [execOp, h1, h2, resolve, invoke, builtin, Builtin.min_, Builtin.min2, Sem.run_bind, N, h3]
theorem OQ.convN_32 {td : TypeDesc} {a : Nat} (hs : P.underlying t = some td) (hd : P.underlying t' = some (.int .u32)) (hx : ev E x = some (N a)) : OQ P n E C ⟨dst, .convert t t' x, ty, pos, aft, g⟩ (U32 (BitVec.ofNat 32 a)) :=
  OQ.conv hs hd hx (by rw [wrap32]; simp [U32])

/-! ### a guard whose own operation was skipped -/
theorem yielded_undef {j s : Nat} (h : (ops[j]?).bind (·.dst) = some s) (hl : lk E s = some undef) (hs : Nat.blt s n = true) {a : Act} (ha : Knows n E a) : yielded ops a.tmps j = none := by
  have hlt : s < n := by simpa using hs
  have h1 := ha.all s undef hl
  have h2 : a.tmps[s]? = some undef := by
    have : s < a.tmps.size := by rw [ha.size]; exact hlt
    rw [Array.getElem?_eq_getElem this]
    simpa [Array.getD, this] using h1
  simp [yielded, h, h2, undef]
theorem JL.gskipU {j s : Nat} {want : Bool} {op : Op} (h : (ops[j]?).bind (·.dst) = some s) (hl : lk E s = some undef) (hs : Nat.blt s n = true) (hd : Nat.blt d n = true) (k : JL P n w0 S ops Q l ((d, undef) :: E) M) :
    JL P n w0 S ops Q (⟨some d, op, ty, pos, aft, some (j, want)⟩ :: l) E M :=
  ⟨fun a w ha hw => wpList_skip (by simp [Region.wanted, yielded_undef h hl hs ha]) (k.go _ _ (ha.put d undef hd) hw)⟩
/-! ### literals of slices of one-cell elements -/
def pairs : Nat → List Operand → List (Nat × Operand)
  | _, [] => []
  | i, x :: xs => (i, x) :: pairs (i + 1) xs
theorem pairs_map {a : Act} (hk : Knows n E a) : ∀ {xs : List Operand} {vs : List Value} (i : Nat), evs E xs = some vs → (pairs i xs).map (fun p => (p.1, a.eval p.2)) = (vs.zipIdx i).map fun x => (x.2, x.1)
  | [], vs, i, h => by
    simp only [evs, Option.some.injEq] at h
    subst h
    rfl
  | x :: xs, vs, i, h => by
    simp only [evs] at h
    cases h1 : ev E x with
    | none => simp [h1] at h
    | some v =>
      cases h2 : evs E xs with
      | none => simp [h1, h2] at h
      | some us =>
        simp only [h1, h2, Option.some.injEq] at h
        subst h
        simp [pairs, hk.eval h1, pairs_map hk (i + 1) h2]
theorem buildL_run {w : World} {vs : List Value} {m : Nat} (hu : P.underlying t = some (.slice e)) (hi : EI P e zv 1 by') (hz : zv.cells.size = 1) (h1 : ∀ v ∈ vs, v.cells = #[v]) (hm : vs.length = m) (h0 : 0 < m) (hsm : m ≤ 16777216) :
    (Instr.buildSlice t m ((vs.zipIdx 0).map fun x => (x.2, x.1)).toArray).run P w = .ok (.slice (some ⟨w.heap.size, 0, none⟩) m m) { w with heap := w.heap.push (.cells vs.toArray e (0, 0)) } := by
  have h3 : (underlying t).run P w = .ok (.slice e) w := run_underlying hu w
  obtain ⟨i, h4, h5, _⟩ := hi.get
  have h6 := Great.fill_flat vs ((Array.range (m * 1)).map (zv.cells[· % zv.cells.size]!)) h1 (by simp [hm])
  have h9 : ¬ (16777216 < m) := by omega
  have h10 : ¬ (m = 0) := by omega
  have h11 : (zeroValue e).run P w = .ok zv w := by simp [zeroValue, typeInfo, h4, h5]
  simp only [Nat.mul_one] at h6
  simp [Instr.buildSlice, Sem.run_bind, h3, sizeOf_run hi.sz, h9, h10, h11, h6, newRow, newObj, Sem.run]
theorem JL.litL {xs : List Operand} {ps : Array (Nat × Operand)} {vs : List Value} {m : Nat} (hu : P.underlying t = some (.slice e)) (hi : EI P e zv 1 by') (hz : zv.cells.size = 1) (hps : ps = (pairs 0 xs).toArray) (hx : evs E xs = some vs) (h1 : vs.all (fun v => v.oneCell') = true) (h2 : ∀ v ∈ vs, v.cells = #[v]) (hm : vs.length = m) (h0 : 0 < m) (hsm : m ≤ 16777216) (hd : Nat.blt d n = true)
    (k : ∀ b, w0.heap.size ≤ b → JL P n w0 S ops Q l ((d, .slice (some ⟨b, 0, none⟩) m m) :: E) (⟨b, Row e vs, true⟩ :: M)) : JL P n w0 S ops Q (⟨some d, .buildSlice t m ps, ty, pos, aft, none⟩ :: l) E M :=
  ⟨fun a w ha hw => wpList_plain rfl fun K hK => by
    unfold Oper.wp
    have hm' : ps.map (fun (i, x) => (i, a.eval x)) = ((vs.zipIdx 0).map fun x => (x.2, x.1)).toArray := by
      rw [hps, List.map_toArray, ← pairs_map ha 0 hx]
    simp only [execOp, hm', Sem.run_bind, buildL_run hu hi hz h2 hm h0 hsm, Result.andThen_ok]
    exact hK _ _ ((k w.heap.size hw.chg.size).go _ _ (ha.put d _ hd) (hw.push _ rfl rfl rfl rfl rfl))⟩

/-! ### equality of arrays of words -/
end
end Sl
end Go.Proofs.YtdabhneehconeaaGreatDoor
