/-
  Of no statement by itself: how wide the lines of a folded field are: pure; no program stands here.
  Conditions: none but each lemma's own.
-/
import Derived.Test.YtchoiikhepjdiaaDoorFieT
namespace Go.Proofs.YtchoiikhepjdiaaDoor
namespace Fld
/-- what is told of a line's first bytes: how many, whether the last one is no blank, how many places to fold at, whether one is no blank -/
structure Tw where
  k : Nat
  pv : Bool
  t : Nat
  wd : Bool
def turnAt (n : List By) (first : Bool) (s : Tw) (x : By) : Bool := bl x && (s.wd && (decide (0 < s.k) && (s.pv && (!first || decide (n.length + 1 < s.k)))))
def twS (n : List By) (first : Bool) (s : Tw) (x : By) : Tw := ⟨s.k + 1, !bl x, if turnAt n first s x then s.t + 1 else s.t, s.wd || !bl x⟩
def tw (n : List By) (first : Bool) (l : List By) : Tw := l.foldl (twS n first) ⟨0, false, 0, false⟩
theorem twS_t (n : List By) (first : Bool) (s : Tw) (x : By) : (twS n first s x).t = if turnAt n first s x then s.t + 1 else s.t := rfl
theorem tw_snoc (n : List By) (first : Bool) (l : List By) (x : By) : tw n first (l ++ [x]) = twS n first (tw n first l) x := by simp [tw]
theorem tw_k (n : List By) (first : Bool) (l : List By) : (tw n first l).k = l.length := by
  generalize hl : l.reverse = r
  induction r generalizing l with
  | nil => obtain rfl : l = [] := by simpa using hl
           rfl
  | cons x r ih =>
    obtain rfl : l = r.reverse ++ [x] := by rw [← List.reverse_reverse l, hl]; simp
    rw [tw_snoc]
    show (tw n first r.reverse).k + 1 = _
    rw [ih r.reverse (by simp)]
    simp
theorem tw_t (n : List By) (first : Bool) (l : List By) : (tw n first l).t ≤ l.length := by
  generalize hl : l.reverse = r
  induction r generalizing l with
  | nil => obtain rfl : l = [] := by simpa using hl
           exact Nat.le_refl _
  | cons x r ih =>
    obtain rfl : l = r.reverse ++ [x] := by rw [← List.reverse_reverse l, hl]; simp
    have := ih r.reverse (by simp)
    rw [tw_snoc, twS_t, List.length_append, List.length_singleton]
    split <;> omega
theorem tw_pv (n : List By) (first : Bool) (l : List By) (x : By) : (tw n first (l ++ [x])).pv = !bl x := by rw [tw_snoc]; rfl
theorem tw_wd (n : List By) (first : Bool) (l : List By) (x : By) (h : bl x = false) : (tw n first (l ++ [x])).wd = true := by rw [tw_snoc]; simp [twS, h]
theorem tw_pw (n : List By) (first : Bool) (l : List By) : (tw n first l).pv = true → (tw n first l).wd = true := by
  generalize hl : l.reverse = r
  intro h
  cases r with
  | nil => obtain rfl : l = [] := by simpa using hl
           cases h
  | cons x r =>
    obtain rfl : l = r.reverse ++ [x] := by rw [← List.reverse_reverse l, hl]; simp
    rw [tw_pv] at h
    exact tw_wd n first _ x (by simpa using h)
/-- a line as it may be -/
def okLine (n : List By) (first : Bool) (l : List By) : Prop := ¬ (76 < l.length ∧ 0 < (tw n first l).t) ∧ (first = false → (tw n first l).wd = true ∧ bl (l.getD 0 0) = true)
inductive Lns (n : List By) : Bool → List By → Prop
  | nil : Lns n false []
  | cons (first : Bool) (l X : List By) : clean l → okLine n first l → Lns n false X → Lns n first (l ++ [13, 10] ++ X)
/-- lines that are whole, and the one under way -/
inductive Done (n : List By) : Bool → List By → Bool → Prop
  | nil (b : Bool) : Done n b [] b
  | snoc (b f : Bool) (D l : List By) : Done n b D f → clean l → okLine n f l → Done n b (D ++ l ++ [13, 10]) false
theorem done_lns {n : List By} {b f : Bool} {D : List By} (h : Done n b D f) : ∀ X, Lns n f X → Lns n b (D ++ X) := by
  induction h with
  | nil => intro X hX; exact hX
  | snoc f D l _ hc ho ih =>
    intro X hX
    have := ih (l ++ [13, 10] ++ X) (.cons f l X hc ho hX)
    simpa using this
theorem st_lines {n v : List By} (hn : nameB n = true) (hv : valB v = true) : ∀ i, i ≤ v.length → ∃ D cur f, (st n v i).1 = D ++ cur ∧ cur.length = (st n v i).2 ∧ Done n true D f ∧ clean cur ∧ (f = false → bl (cur.getD 0 0) = true) ∧
    (0 < (tw n f cur).t → cur.length + scan v i - i ≤ 76) ∧ (0 < i → ∃ c0, cur = c0 ++ [v.getD (i - 1) 0]) ∧ (i = 0 → (tw n f cur).pv = false) ∧ cur ≠ [] ∧ (f = true → cur.length = n.length + 2 + i)
  | 0, _ => by
    refine ⟨[], n ++ [58, 32], true, rfl, by simp [st], .nil true, ?_, (fun h => by cases h), ?_, (fun h => absurd h (by omega)), fun _ => ?_, by simp, fun _ => by simp⟩
    · refine (nok_clean (name_parts hn).1).app ?_
      intro c hc
      simp only [List.mem_cons, List.not_mem_nil, or_false] at hc
      rcases hc with rfl | rfl <;> decide
    · intro h
      exfalso
      have hz : ∀ (m : List By), m.all nok = true → (tw n true m).t = 0 := by
        intro m hm
        generalize hl : m.reverse = r
        induction r generalizing m with
        | nil => obtain rfl : m = [] := by simpa using hl
                 rfl
        | cons x r ih =>
          obtain rfl : m = r.reverse ++ [x] := by rw [← List.reverse_reverse m, hl]; simp
          rw [List.all_append, Bool.and_eq_true] at hm
          have hx : nok x = true := by simpa using hm.2
          rw [tw_snoc]
          rw [twS_t, turnAt, nok_bl hx, Bool.false_and, if_neg (by simp)]
          exact ih r.reverse hm.1 (by simp)
      rw [show n ++ [58, 32] = n ++ [58] ++ [32] by simp, tw_snoc, tw_snoc] at h
      have h1 : (twS n true (tw n true n) 58).t = 0 := by
        rw [twS_t, turnAt, show bl 58 = false by decide, Bool.false_and, if_neg (by simp)]
        exact hz n (name_parts hn).1
      have h2 : (twS n true (tw n true n) 58).k = n.length + 1 := by
        show (tw n true n).k + 1 = _
        rw [tw_k]
      have h3 : (twS n true (twS n true (tw n true n) 58) 32).t = 0 := by
        rw [twS_t, turnAt, h2, if_neg]
        · exact h1
        · simp
      omega
    · rw [show n ++ [58, 32] = n ++ [58] ++ [32] by simp, tw_pv]; rfl
  | i + 1, hi => by
    obtain ⟨D, cur, f, h1, h2, h3, h4, h5, h6, h7, h8, h9, h10⟩ := st_lines hn hv i (by omega)
    have hsk := sok_at (valB_parts hv).1 (show i < v.length by omega)
    have hpv : (tw n f cur).pv = true ↔ (0 < i ∧ bl (v.getD (i - 1) 0) = false) := by
      by_cases h0 : 0 < i
      · obtain ⟨c0, hc0⟩ := h7 h0
        rw [hc0, tw_pv]
        simp [h0]
      · have : i = 0 := by omega
        rw [h8 this]
        simp [this]
    have hge := scan_ge v (i + 1) (by omega)
    unfold st
    by_cases hb : tn v i = true ∧ 76 < (st n v i).2 + scan v (i + 1) - i
    · rw [if_pos hb]
      have htn := hb.1
      have hpr : 0 < i ∧ bl (v.getD (i - 1) 0) = false := by
        simp only [tn, Bool.and_eq_true, decide_eq_true_eq, Bool.not_eq_true'] at htn
        exact ⟨htn.1, htn.2.2⟩
      refine ⟨D ++ cur ++ [13, 10], [v.getD i 0], false, by rw [h1]; simp, rfl, .snoc true f D cur h3 h4 ⟨?_, fun hf => ⟨tw_pw n f cur (hpv.2 hpr), h5 hf⟩⟩, sok_clean hsk, fun _ => (show bl (v.getD i 0) = true from tn_bl htn), ?_, fun _ => ⟨[], by simp⟩, fun h => by omega, by simp, fun h => by cases h⟩
      · rintro ⟨k1, k2⟩
        have := h6 k2
        rw [scan_hit (by omega) htn] at this
        omega
      · intro h
        exfalso
        have e : tw n false [v.getD i 0] = twS n false ⟨0, false, 0, false⟩ (v.getD i 0) := rfl
        rw [e] at h
        simp [twS, turnAt] at h
    · rw [if_neg hb]
      refine ⟨D, cur ++ [v.getD i 0], f, by rw [h1]; simp, by rw [List.length_append, h2]; rfl, h3, h4.app (sok_clean hsk), fun hf => ?_, fun h => ?_, fun _ => ⟨cur, by simp⟩, fun h => by omega, by simp, fun hf => by rw [List.length_append, h10 hf]; simp; omega⟩
      · cases cur with
        | nil => exact absurd rfl h9
        | cons x cur => exact h5 hf
      · rw [List.length_append, List.length_singleton]
        by_cases ht : tn v i = true
        · have : ¬ 76 < (st n v i).2 + scan v (i + 1) - i := fun h' => hb ⟨ht, h'⟩
          rw [← h2] at this
          omega
        · rw [tw_snoc] at h
          have hturn : turnAt n f (tw n f cur) (v.getD i 0) = false := by
            cases hq : turnAt n f (tw n f cur) (v.getD i 0) with
            | false => rfl
            | true =>
              simp only [turnAt, Bool.and_eq_true] at hq
              obtain ⟨q1, _, _, q4, _⟩ := hq
              obtain ⟨k1, k2⟩ := hpv.1 q4
              exfalso
              apply ht
              simp only [tn, Bool.and_eq_true, decide_eq_true_eq, Bool.not_eq_true']
              exact ⟨k1, q1, k2⟩
          have h' : 0 < (tw n f cur).t := by
            have e : (twS n f (tw n f cur) (v.getD i 0)).t = if turnAt n f (tw n f cur) (v.getD i 0) then (tw n f cur).t + 1 else (tw n f cur).t := rfl
            rw [e, hturn, if_neg (by simp)] at h
            exact h
          have := h6 h'
          rw [scan_go (by omega) ht] at this
          omega
theorem fold_lns {n v : List By} (hn : nameB n = true) (hv : valB v = true) : Lns n true (foldB n v) := by
  obtain ⟨D, cur, f, h1, h2, h3, h4, h5, h6, h7, h8, h9, h10⟩ := st_lines hn hv v.length (Nat.le_refl _)
  have hl : okLine n f cur := by
    refine ⟨?_, fun hf => ⟨?_, h5 hf⟩⟩
    · rintro ⟨k1, k2⟩
      have := h6 k2
      rw [scan_end (by omega)] at this
      omega
    · by_cases h0 : 0 < v.length
      · obtain ⟨c0, hc0⟩ := h7 h0
        rw [hc0]
        refine tw_wd n f c0 _ ?_
        rcases (valB_parts hv).2.2 with h | h
        · rw [h] at h0; simp at h0
        · exact h.2
      · exfalso
        have hv0 : v.length = 0 := by omega
        have e0 : st n v v.length = (n ++ [58, 32], n.length + 2) := by rw [hv0]; rfl
        rw [e0] at h1 h2
        subst hf
        cases h3 with
        | snoc f' D l _ _ _ =>
          have hc := congrArg (fun l => 13 ∈ l) h1
          simp only [List.mem_append, List.mem_cons, List.not_mem_nil, or_false, true_or, or_true, eq_iff_iff, iff_true] at hc
          rcases hc with hc | hc | hc
          · exact ((nok_clean (name_parts hn).1) 13 hc).2 rfl
          · exact absurd hc (by decide)
          · exact absurd hc (by decide)
  have := done_lns h3 (cur ++ [13, 10] ++ []) (.cons f cur [] h4 hl .nil)
  rw [foldB, h1]
  simpa using this
end Fld
end Go.Proofs.YtchoiikhepjdiaaDoor
