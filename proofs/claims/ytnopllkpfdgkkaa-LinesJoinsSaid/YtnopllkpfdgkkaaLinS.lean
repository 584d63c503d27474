/-
  Of no statement by itself: lines' ends made whole, lines, points stuffed and taken out; no program stands here.
  Conditions: none but each lemma's own.
-/
namespace Go.Proofs.Ytnopllkpfdgkkaa
namespace Lin
abbrev By := BitVec 8
/-! ### whole lines' ends -/
def wh : By → List By → List By
  | _, [] => []
  | p, c :: r => (if (c = 10 ∧ p ≠ 13) ∨ (c = 13 ∧ r.head? ≠ some 10) then [13, 10] else [c]) ++ wh c r
def whB (l : List By) : List By := wh 0 l
/-- no end of a line that isn't whole, behind p -/
def cln : By → List By → Prop
  | _, [] => True
  | p, c :: r => (c = 10 → p = 13) ∧ (c = 13 → r.head? = some 10) ∧ cln c r
theorem n10 (X : Prop) : ¬ (((10 : By) = 10 ∧ (13 : By) ≠ 13) ∨ ((10 : By) = 13 ∧ X)) := fun h => h.elim (fun h => h.2 rfl) (fun h => absurd h.1 (by decide))
theorem wh_head (r : List By) (h : r.head? = some 10) : (wh 13 r).head? = some 10 := by
  cases r with
  | nil => cases h
  | cons c r =>
    obtain rfl : c = 10 := Option.some.inj h
    show ((if ((10 : By) = 10 ∧ (13 : By) ≠ 13) ∨ ((10 : By) = 13 ∧ r.head? ≠ some 10) then [13, 10] else [10]) ++ wh 10 r).head? = some 10
    rw [if_neg (n10 _)]; rfl
theorem wh_cln : ∀ (l : List By) (p q : By), (p = 13 → l.head? = some 10 → q = 13) → cln q (wh p l)
  | [], _, _, _ => trivial
  | c :: r, p, q, h => by
    rw [wh]
    by_cases h10 : c = 10
    · subst h10
      have ih := wh_cln r 10 10 (fun e => absurd e (by decide))
      by_cases hp : p = 13
      · rw [if_neg (by rw [hp]; exact n10 _)]
        exact ⟨fun _ => h hp rfl, fun e => absurd e (by decide), ih⟩
      · rw [if_pos (Or.inl ⟨rfl, hp⟩)]
        exact ⟨fun e => absurd e (by decide), fun _ => rfl, fun _ => rfl, fun e => absurd e (by decide), ih⟩
    · by_cases h13 : c = 13
      · subst h13
        by_cases hn : r.head? = some 10
        · rw [if_neg (by
            intro e
            rcases e with ⟨e, _⟩ | ⟨_, e⟩
            · exact absurd e (by decide)
            · exact e hn)]
          exact ⟨fun e => absurd e (by decide), fun _ => wh_head r hn, wh_cln r 13 13 (fun _ _ => rfl)⟩
        · rw [if_pos (Or.inr ⟨rfl, hn⟩)]
          exact ⟨fun e => absurd e (by decide), fun _ => rfl, fun _ => rfl, fun e => absurd e (by decide), wh_cln r 13 10 (fun _ e => absurd e hn)⟩
      · rw [if_neg (by
          intro e
          rcases e with ⟨e, _⟩ | ⟨e, _⟩
          · exact h10 e
          · exact h13 e)]
        exact ⟨fun e => absurd e h10, fun e => absurd e h13, wh_cln r c c (fun e => absurd e h13)⟩
theorem cln_wh : ∀ (l : List By) (p q : By), (q = 13 → p = 13) → cln q l → wh p l = l
  | [], _, _, _, _ => rfl
  | c :: r, p, q, h, hc => by
    obtain ⟨h1, h2, h3⟩ := hc
    rw [wh, if_neg (by
      intro e
      rcases e with ⟨e1, e2⟩ | ⟨e1, e2⟩
      · exact e2 (h (h1 e1))
      · exact e2 (h2 e1)), cln_wh r c c id h3]
    rfl
theorem whB_cln (l : List By) : cln 0 (whB l) := wh_cln l 0 0 (fun e => absurd e (by decide))
theorem whB_twice (l : List By) : whB (whB l) = whB l := cln_wh _ 0 0 id (whB_cln l)
theorem wh_len : ∀ (l : List By) (p : By), l.length ≤ (wh p l).length ∧ (wh p l).length ≤ 2 * l.length
  | [], _ => ⟨Nat.le_refl _, Nat.le_refl _⟩
  | c :: r, p => by
    have := wh_len r c
    rw [wh, List.length_append]
    split <;> simp only [List.length_cons, List.length_nil] <;> omega
/-- told by places -/
theorem cln_at : ∀ (l : List By) (p : By), cln p l → ∀ (i : Nat) (c : By), l[i]? = some c → (c = 10 → (if i = 0 then some p else l[i - 1]?) = some 13) ∧ (c = 13 → l[i + 1]? = some 10)
  | [], _, _, i, c, h => by simp at h
  | d :: r, p, hc, i, c, h => by
    obtain ⟨h1, h2, h3⟩ := hc
    cases i with
    | zero =>
      obtain rfl : d = c := by simpa using h
      refine ⟨fun e => by rw [if_pos rfl, h1 e], fun e => ?_⟩
      have := h2 e
      cases r with
      | nil => cases this
      | cons x r => simpa using this
    | succ i =>
      have hr : r[i]? = some c := by simpa using h
      obtain ⟨k1, k2⟩ := cln_at r d h3 i c hr
      refine ⟨fun e => ?_, fun e => by simpa using k2 e⟩
      have := k1 e
      rw [if_neg (by omega)]
      cases i with
      | zero => simpa using this
      | succ i => simpa using this
/-- Whole, place by place -/
def whI (l : List By) (i : Nat) : List By := if (l.getD i 0 = 10 ∧ (i = 0 ∨ l.getD (i - 1) 0 ≠ 13)) ∨ (l.getD i 0 = 13 ∧ (i + 1 = l.length ∨ l.getD (i + 1) 0 ≠ 10)) then [13, 10] else [l.getD i 0]
theorem wh_from : ∀ (r a : List By), wh (a.getLast?.getD 0) r = (List.range r.length).flatMap fun j => whI (a ++ r) (a.length + j)
  | [], _ => rfl
  | c :: r, a => by
    have ih := wh_from r (a ++ [c])
    have e0 : (a ++ [c]).getLast?.getD 0 = c := by simp
    have e1 : a ++ [c] ++ r = a ++ c :: r := by simp
    rw [e0, e1] at ih
    have g0 : (a ++ c :: r).getD (a.length + 0) 0 = c := by simp [List.getD_eq_getElem?_getD]
    have g1 : (a ++ c :: r).getD (a.length + 0 + 1) 0 = r.head?.getD 0 := by
      rw [List.getD_eq_getElem?_getD, List.getElem?_append_right (by omega), show a.length + 0 + 1 - a.length = 0 + 1 by omega]
      cases r <;> rfl
    have gl : (a ++ c :: r).length = a.length + r.length + 1 := by simp [Nat.add_assoc]
    have gp : a.length + 0 = 0 ∨ (a ++ c :: r).getD (a.length + 0 - 1) 0 = a.getLast?.getD 0 := by
      by_cases h : a = []
      · subst h; exact Or.inl rfl
      · right
        have hl : 0 < a.length := List.length_pos_iff.2 h
        rw [List.getD_eq_getElem?_getD, List.getElem?_append_left (by omega), List.getLast?_eq_getElem?]
        rfl
    have key : whI (a ++ c :: r) (a.length + 0) = (if (c = 10 ∧ a.getLast?.getD 0 ≠ 13) ∨ (c = 13 ∧ r.head? ≠ some 10) then [13, 10] else [c]) := by
      unfold whI
      rw [g0, g1, gl]
      have i1 : (a.length + 0 = 0 ∨ (a ++ c :: r).getD (a.length + 0 - 1) 0 ≠ 13) ↔ a.getLast?.getD 0 ≠ 13 := by
        by_cases h : a = []
        · subst h
          exact ⟨fun _ => by decide, fun _ => Or.inl rfl⟩
        · have hl : 0 < a.length := List.length_pos_iff.2 h
          rcases gp with gp | gp
          · omega
          · rw [gp]
            exact ⟨fun h => h.elim (fun h => by omega) id, Or.inr⟩
      have i2 : (a.length + 0 + 1 = a.length + r.length + 1 ∨ r.head?.getD 0 ≠ 10) ↔ r.head? ≠ some 10 := by
        cases r with
        | nil => exact ⟨fun _ => by simp, fun _ => Or.inl rfl⟩
        | cons x r =>
          simp only [List.head?_cons, Option.getD_some, List.length_cons]
          exact ⟨fun h => h.elim (fun h => by omega) (fun h e => h (Option.some.inj e)), fun h => Or.inr fun e => h (by rw [e])⟩
      simp only [i1, i2]
    rw [wh, ih, List.length_cons, List.range_succ_eq_map, List.flatMap_cons, key, List.flatMap_map]
    congr 1
    apply congrArg (fun f => List.flatMap f (List.range r.length))
    funext j
    rw [List.length_append]
    show whI _ (a.length + 1 + j) = whI _ (a.length + (j + 1))
    rw [show a.length + 1 + j = a.length + (j + 1) by omega]
theorem whB_is (l : List By) : whB l = (List.range l.length).flatMap (whI l) := by
  have := wh_from l []
  show wh 0 l = _
  simpa using this
/-! ### lines -/
/-- one byte more -/
def sp (s : List (List By) × List By) (c : By) : List (List By) × List By := if c = 10 ∧ s.2.getLast? = some 13 then (s.1 ++ [s.2.dropLast], []) else (s.1, s.2 ++ [c])
def splB (l : List By) : List (List By) × List By := l.foldl sp ([], [])
def joinB (ls : List (List By)) : List By := ls.flatMap fun l => l ++ [13, 10]
theorem joinB_append (a b : List (List By)) : joinB (a ++ b) = joinB a ++ joinB b := List.flatMap_append ..
theorem sp_join (s : List (List By) × List By) (c : By) : joinB (sp s c).1 ++ (sp s c).2 = joinB s.1 ++ s.2 ++ [c] := by
  unfold sp
  split
  · next h =>
    obtain ⟨h1, h2⟩ := h
    subst h1
    have e : s.2 = s.2.dropLast ++ [13] := by
      have hne : s.2 ≠ [] := fun e => by rw [e] at h2; cases h2
      have h3 := List.getLast?_eq_some_getLast hne
      rw [h2] at h3
      have h4 := List.dropLast_concat_getLast hne
      rw [← Option.some.inj h3] at h4
      exact h4.symm
    rw [joinB_append]
    show joinB s.1 ++ ((s.2.dropLast ++ [13, 10]) ++ []) ++ [] = joinB s.1 ++ s.2 ++ [10]
    rw [e]
    simp
  · simp
theorem foldl_join : ∀ (l : List By) (s : List (List By) × List By), joinB (l.foldl sp s).1 ++ (l.foldl sp s).2 = joinB s.1 ++ s.2 ++ l
  | [], s => by simp
  | c :: l, s => by
    rw [List.foldl_cons, foldl_join l, sp_join]
    simp
theorem splB_join (l : List By) : joinB (splB l).1 ++ (splB l).2 = l := by
  have := foldl_join l ([], [])
  simpa [splB, joinB] using this
/-- what is told already stays -/
theorem sp_front (s : List (List By) × List By) (c : By) : ∃ t, (sp s c).1 = s.1 ++ t := by
  unfold sp
  split
  · exact ⟨[s.2.dropLast], rfl⟩
  · exact ⟨[], by simp⟩
theorem foldl_front : ∀ (l : List By) (s : List (List By) × List By), ∃ t, (l.foldl sp s).1 = s.1 ++ t
  | [], s => ⟨[], by simp⟩
  | c :: l, s => by
    obtain ⟨t, ht⟩ := foldl_front l (sp s c)
    obtain ⟨u, hu⟩ := sp_front s c
    exact ⟨u ++ t, by rw [List.foldl_cons, ht, hu, List.append_assoc]⟩
/-- bytes without LF -/
theorem foldl_plain : ∀ (l : List By) (s : List (List By) × List By), (∀ c ∈ l, c ≠ 10) → l.foldl sp s = (s.1, s.2 ++ l)
  | [], s, _ => by simp
  | c :: l, s, h => by
    have h1 := h c (List.mem_cons_self ..)
    have : sp s c = (s.1, s.2 ++ [c]) := by unfold sp; rw [if_neg (fun e => h1 e.1)]
    rw [List.foldl_cons, this, foldl_plain l _ fun x hx => h x (List.mem_cons_of_mem _ hx)]
    simp
theorem foldl_line (l : List By) (ls : List (List By)) (h : ∀ c ∈ l, c ≠ 10) : (l ++ [13, 10]).foldl sp (ls, []) = (ls ++ [l], []) := by
  rw [List.foldl_append, foldl_plain l _ h]
  show sp (sp (ls, [] ++ l) 13) 10 = _
  have e1 : sp (ls, [] ++ l) 13 = (ls, l ++ [13]) := by unfold sp; rw [if_neg (fun e => absurd e.1 (by decide))]; simp
  rw [e1]
  unfold sp
  rw [if_pos ⟨rfl, by simp⟩]
  simp
theorem foldl_lines : ∀ (ls : List (List By)) (s : List (List By)), (∀ l ∈ ls, ∀ c ∈ l, c ≠ 10) → (joinB ls).foldl sp (s, []) = (s ++ ls, [])
  | [], s, _ => by simp [joinB]
  | l :: ls, s, h => by
    show ((l ++ [13, 10]) ++ joinB ls).foldl sp (s, []) = _
    rw [List.foldl_append, foldl_line l s (h l (List.mem_cons_self ..)), foldl_lines ls _ fun x hx => h x (List.mem_cons_of_mem _ hx)]
    simp
theorem splB_lines (ls : List (List By)) (t : List By) (h : ∀ l ∈ ls, ∀ c ∈ l, c ≠ 10) : splB (joinB ls ++ t) = (ls ++ (splB t).1, (splB t).2) := by
  have key : ∀ (t : List By) (s : List (List By) × List By) (p : List (List By)), t.foldl sp (p ++ s.1, s.2) = (p ++ (t.foldl sp s).1, (t.foldl sp s).2) := by
    intro t
    induction t with
    | nil => intro s p; rfl
    | cons c t ih =>
      intro s p
      rw [List.foldl_cons, List.foldl_cons]
      have : sp (p ++ s.1, s.2) c = (p ++ (sp s c).1, (sp s c).2) := by
        unfold sp
        split <;> simp
      rw [this, ih]
  unfold splB
  rw [List.foldl_append, foldl_lines ls [] h]
  have := key t ([], []) ls
  simpa using this
/-- of what has whole lines' ends no line has a LF or a CR -/
theorem cln_lines : ∀ (l : List By) (s : List (List By) × List By), cln (s.2.getLast?.getD 0) l → (∀ x ∈ s.1, ∀ c ∈ x, c ≠ 10 ∧ c ≠ 13) → (∀ c ∈ s.2.dropLast, c ≠ 10 ∧ c ≠ 13) → (s.2.getLast?.getD 0 ≠ 10) → (s.2.getLast?.getD 0 = 13 → l.head? = some 10) →
    (∀ x ∈ (l.foldl sp s).1, ∀ c ∈ x, c ≠ 10 ∧ c ≠ 13) ∧ (∀ c ∈ (l.foldl sp s).2, c ≠ 10 ∧ c ≠ 13)
  | [], s, _, h1, h2, h3, h4 => by
    refine ⟨h1, fun c hc => ?_⟩
    have h13 : s.2.getLast?.getD 0 ≠ 13 := fun e => by cases h4 e
    cases hs : s.2 with
    | nil =>
      have hc' : c ∈ s.2 := hc
      rw [hs] at hc'
      cases hc'
    | cons x r =>
      have hc' : c ∈ s.2 := hc
      have hne : s.2 ≠ [] := by rw [hs]; simp
      have e := List.dropLast_concat_getLast hne
      have hl : s.2.getLast? = some (s.2.getLast hne) := List.getLast?_eq_some_getLast hne
      rw [hl] at h3 h13
      rw [← e, List.mem_append] at hc'
      rcases hc' with hc' | hc'
      · exact h2 c hc'
      · obtain rfl : c = s.2.getLast hne := by simpa using hc'
        exact ⟨h3, h13⟩
  | c :: l, s, hc, h1, h2, h3, h4 => by
    obtain ⟨k1, k2, k3⟩ := hc
    rw [List.foldl_cons]
    by_cases h10 : c = 10
    · have h13 := k1 h10
      have hl : s.2.getLast? = some 13 := by
        cases hq : s.2.getLast? with
        | none => rw [hq] at h13; exact absurd h13 (by decide)
        | some x => rw [hq] at h13; exact congrArg some h13
      have e : sp s c = (s.1 ++ [s.2.dropLast], []) := by unfold sp; rw [if_pos ⟨h10, hl⟩]
      rw [e]
      refine cln_lines l _ ?_ ?_ (by simp) (by simp) (fun e => absurd (show (0 : By) = 13 from e) (by decide))
      · subst h10
        cases l with
        | nil => trivial
        | cons d l => 
          obtain ⟨m1, m2, m3⟩ := k3
          exact ⟨fun e => absurd (m1 e) (by decide), m2, m3⟩
      · intro x hx
        rcases List.mem_append.1 hx with hx | hx
        · exact h1 x hx
        · obtain rfl : x = s.2.dropLast := by simpa using hx
          exact h2
    · have e : sp s c = (s.1, s.2 ++ [c]) := by unfold sp; rw [if_neg (fun e => h10 e.1)]
      rw [e]
      have el : (s.2 ++ [c]).getLast?.getD 0 = c := by simp
      have ed : (s.2 ++ [c]).dropLast = s.2 := by simp
      refine cln_lines l _ (by rw [el]; exact k3) h1 ?_ (by rw [el]; exact h10) (by rw [el]; exact k2)
      show ∀ d ∈ (s.2 ++ [c]).dropLast, _
      rw [ed]
      have h13 : s.2.getLast?.getD 0 ≠ 13 := fun e => by
        have := h4 e
        simp only [List.head?_cons, Option.some.injEq] at this
        exact h10 this
      intro d hd
      have hne : s.2 ≠ [] := fun e => by rw [e] at hd; cases hd
      have e := List.dropLast_concat_getLast hne
      have hl : s.2.getLast? = some (s.2.getLast hne) := List.getLast?_eq_some_getLast hne
      rw [hl] at h3 h13
      rw [← e, List.mem_append] at hd
      rcases hd with hd | hd
      · exact h2 d hd
      · obtain rfl : d = s.2.getLast hne := by simpa using hd
        exact ⟨h3, h13⟩
theorem splB_cln {l : List By} (h : cln 0 l) : (∀ x ∈ (splB l).1, ∀ c ∈ x, c ≠ 10 ∧ c ≠ 13) ∧ (∀ c ∈ (splB l).2, c ≠ 10 ∧ c ≠ 13) :=
  cln_lines l ([], []) h (by simp) (by simp) (by decide) (fun e => absurd e (by decide))
end Lin
end Go.Proofs.Ytnopllkpfdgkkaa
