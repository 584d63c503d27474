/-
  Of no statement by itself: mails as they go over a line, and back; places; no program stands here.
  Conditions: none but each lemma's own.
-/
import Derived.Test.YtnopllkpfdgkkaaLinS
namespace Go.Proofs.Ytnopllkpfdgkkaa
namespace Lin
/-- a mail as lines, with an end behind -/
def laidB (b : List By) : List By := if whB b = [] ∨ ((whB b).getLast? = some 10 ∧ (whB b).dropLast.getLast? = some 13) then whB b else whB b ++ [13, 10]
def stuffL (l : List By) : List By := if l.head? = some 46 then 46 :: l else l
def unL (l : List By) : List By := if l.head? = some 46 then l.tail else l
def stB (b : List By) : List By := joinB ((splB (laidB b)).1.map stuffL) ++ [46, 13, 10]
def un1 : List (List By) → Option (List (List By) × List (List By))
  | [] => none
  | l :: r => if l = [46] then some ([], r) else (un1 r).map fun p => (unL l :: p.1, p.2)
def unB (b : List By) : Option (List By × List By) := (un1 (splB b).1).map fun p => (joinB p.1, joinB p.2 ++ (splB b).2)
theorem cln_end : ∀ (l : List By) (p : By), cln p l → cln p (l ++ [13, 10])
  | [], p, _ => ⟨fun e => absurd e (by decide), fun _ => rfl, fun _ => rfl, fun e => absurd e (by decide), trivial⟩
  | c :: r, p, h => by
    obtain ⟨h1, h2, h3⟩ := h
    refine ⟨h1, fun e => ?_, cln_end r c h3⟩
    have := h2 e
    cases r with
    | nil => cases this
    | cons x r => exact this
theorem laidB_cln (b : List By) : cln 0 (laidB b) := by
  unfold laidB
  split
  · exact whB_cln b
  · exact cln_end _ _ (whB_cln b)
theorem ends_split {w : List By} (h1 : w.getLast? = some 10) (h2 : w.dropLast.getLast? = some 13) : w = w.dropLast.dropLast ++ [13, 10] := by
  have n1 : w ≠ [] := fun e => by rw [e] at h1; cases h1
  have n2 : w.dropLast ≠ [] := fun e => by rw [e] at h2; cases h2
  have e1 := List.dropLast_concat_getLast n1
  have e2 := List.dropLast_concat_getLast n2
  rw [List.getLast?_eq_some_getLast n1] at h1
  rw [List.getLast?_eq_some_getLast n2] at h2
  rw [Option.some.inj h1] at e1
  rw [Option.some.inj h2] at e2
  rw [← e2] at e1
  rw [← e1]
  simp
theorem spl_end (x : List By) : (splB (x ++ [13, 10])).2 = [] := by
  unfold splB
  rw [List.foldl_append]
  show (sp (sp (x.foldl sp ([], [])) 13) 10).2 = []
  have e1 : sp (x.foldl sp ([], [])) 13 = ((x.foldl sp ([], [])).1, (x.foldl sp ([], [])).2 ++ [13]) := by
    unfold sp
    rw [if_neg (fun e => absurd e.1 (by decide))]
  rw [e1]
  unfold sp
  rw [if_pos ⟨rfl, by simp⟩]
theorem laidB_rest (b : List By) : (splB (laidB b)).2 = [] := by
  unfold laidB
  split
  · next h =>
    rcases h with h | ⟨h1, h2⟩
    · rw [h]; rfl
    · rw [ends_split h1 h2]; exact spl_end _
  · exact spl_end _
theorem laidB_join (b : List By) : joinB (splB (laidB b)).1 = laidB b := by
  have := splB_join (laidB b)
  rw [laidB_rest, List.append_nil] at this
  exact this
theorem laidB_lines (b : List By) : ∀ l ∈ (splB (laidB b)).1.map stuffL, ∀ c ∈ l, c ≠ 10 := by
  intro l hl c hc
  obtain ⟨x, hx, rfl⟩ := List.mem_map.1 hl
  have h := (splB_cln (laidB_cln b)).1 x hx
  unfold stuffL at hc
  split at hc
  · rcases List.mem_cons.1 hc with rfl | hc
    · decide
    · exact (h c hc).1
  · exact (h c hc).1
theorem stuffL_ne (l : List By) : stuffL l ≠ [46] := by
  unfold stuffL
  split
  · next h => intro e; cases l with
    | nil => cases h
    | cons x r => simp at e
  · next h => intro e; rw [e] at h; exact h rfl
theorem unL_stuffL (l : List By) : unL (stuffL l) = l := by
  unfold stuffL
  split
  · rfl
  · next h => unfold unL; rw [if_neg h]
theorem un1_stuff : ∀ (ls r : List (List By)), un1 (ls.map stuffL ++ [46] :: r) = some (ls, r)
  | [], r => by
    show (if ([46] : List By) = [46] then _ else _) = _
    rw [if_pos rfl]
  | l :: ls, r => by
    show (if stuffL l = [46] then _ else (un1 (ls.map stuffL ++ [46] :: r)).map fun p => (unL (stuffL l) :: p.1, p.2)) = _
    rw [if_neg (stuffL_ne l), un1_stuff ls r, unL_stuffL]; rfl
theorem un1_none : ∀ (ls : List (List By)), (∀ l ∈ ls, l ≠ [46]) → un1 ls = none
  | [], _ => rfl
  | l :: ls, h => by
    show (if l = [46] then _ else (un1 ls).map fun p => (unL l :: p.1, p.2)) = _
    rw [if_neg (h l (List.mem_cons_self ..)), un1_none ls fun x hx => h x (List.mem_cons_of_mem _ hx)]; rfl
theorem stB_is (b : List By) : stB b = joinB ((splB (laidB b)).1.map stuffL ++ [[46]]) := by
  rw [joinB_append]; rfl
theorem st_lines (b : List By) : ∀ l ∈ (splB (laidB b)).1.map stuffL ++ [[46]], ∀ c ∈ l, c ≠ 10 := by
  intro l hl c hc
  rcases List.mem_append.1 hl with hl | hl
  · exact laidB_lines b l hl c hc
  · obtain rfl : l = [46] := by simpa using hl
    obtain rfl : c = 46 := by simpa using hc
    decide
/-- what went over a line comes back, and what is behind is left -/
theorem un_back (b t : List By) : unB (stB b ++ t) = some (laidB b, t) := by
  unfold unB
  rw [stB_is, splB_lines _ t (st_lines b)]
  simp only
  rw [List.append_assoc]
  show (un1 ((splB (laidB b)).1.map stuffL ++ [46] :: (splB t).1)).map _ = _
  rw [un1_stuff]
  show some (joinB (splB (laidB b)).1, joinB (splB t).1 ++ (splB t).2) = _
  rw [laidB_join, splB_join]
/-- no beginning of it is a whole mail -/
theorem un_cut (b : List By) {k : Nat} (h : k < (stB b).length) : unB ((stB b).take k) = none := by
  have hS : (stB b).foldl sp ([], []) = ((splB (laidB b)).1.map stuffL ++ [[46]], []) := by
    have := foldl_lines _ [] (st_lines b)
    rw [← stB_is] at this
    simpa using this
  have e : (stB b).take k ++ (stB b).drop k = stB b := List.take_append_drop ..
  rw [← e, List.foldl_append] at hS
  obtain ⟨t, ht⟩ := foldl_front ((stB b).drop k) (((stB b).take k).foldl sp ([], []))
  have hj := foldl_join ((stB b).drop k) (((stB b).take k).foldl sp ([], []))
  rw [hS] at ht hj
  have hd : (stB b).drop k ≠ [] := fun e => by
    have := congrArg List.length e
    rw [List.length_drop] at this
    simp only [List.length_nil] at this
    omega
  have key : ∀ l ∈ (((stB b).take k).foldl sp ([], [])).1, l ≠ [46] := by
    generalize ((stB b).take k).foldl sp ([], []) = s1 at ht hj
    simp only at ht hj
    rcases List.eq_nil_or_concat t with rfl | ⟨t', x, rfl⟩
    · rw [List.append_nil] at ht
      rw [ht, List.append_nil] at hj
      have := congrArg List.length hj
      simp only [List.length_append] at this
      have hl := List.length_pos_iff.2 hd
      omega
    · rw [List.concat_eq_append, ← List.append_assoc] at ht
      have h1 := (List.append_inj' ht rfl).1
      intro l hl
      have hm : l ∈ (splB (laidB b)).1.map stuffL := by rw [h1]; exact List.mem_append_left _ hl
      obtain ⟨x, _, rfl⟩ := List.mem_map.1 hm
      exact stuffL_ne x
  show (un1 (((stB b).take k).foldl sp ([], [])).1).map _ = none
  rw [un1_none _ key]; rfl
theorem stB_len (b : List By) : 3 ≤ (stB b).length := by
  unfold stB
  rw [List.length_append]
  simp only [List.length_cons, List.length_nil]
  omega
/-! ### places -/
def pl (s : Nat × Nat) (c : By) : Nat × Nat := if c = 10 then (s.1 + 1, 0) else (s.1, s.2 + 1)
def plB (b : List By) (k : Nat) : Nat × Nat := (b.take k).foldl pl (0, 0)
theorem pl_le : ∀ (l : List By) (s : Nat × Nat), (l.foldl pl s).1 ≤ s.1 + l.length ∧ (l.foldl pl s).2 ≤ s.2 + l.length
  | [], _ => ⟨Nat.le_refl _, Nat.le_refl _⟩
  | c :: l, s => by
    have := pl_le l (pl s c)
    rw [List.foldl_cons, List.length_cons]
    unfold pl at *
    split at this <;> simp only at this <;> split <;> simp_all <;> omega
end Lin
end Go.Proofs.Ytnopllkpfdgkkaa
