/-
  Of no statement by itself: right fields are read from their lines, however they are folded; no beginning of a head is one: pure; no program stands here.
  Conditions: none but each lemma's own.
-/
import Derived.Test.YtchoiikhepjdiaaDoorFieS
namespace Go.Proofs.YtchoiikhepjdiaaDoor
namespace Fld
theorem conts_no {b : List By} (h : b = [] ∨ bl (b.getD 0 0) = false) : conts b = some ([], b) := by
  rw [conts, if_neg]
  rintro ⟨h1, h2⟩
  rcases h with h | h
  · exact h2 h
  · rw [h] at h1; cases h1
theorem conts_some {b l r : List By} (hb : bl (b.getD 0 0) = true ∧ b ≠ []) (h : cut b = some (l, r)) : conts b = (conts r).map fun q => (l ++ q.1, q.2) := by
  rw [conts, if_pos hb]
  split
  · next h' => rw [h] at h'; cases h'
  · next l' r' h' => rw [h] at h'; cases h'; rfl
theorem conts_none {b : List By} (hb : bl (b.getD 0 0) = true ∧ b ≠ []) (h : cut b = none) : conts b = none := by
  rw [conts, if_pos hb]
  split
  · rfl
  · next l' r' h' => rw [h] at h'; cases h'
theorem hend_none {b : List By} (h : cut b = none) : hend b = none := by
  rw [hend]
  split
  · rfl
  · next l' r' h' => rw [h] at h'; cases h'
theorem hend_end {b r : List By} (h : cut b = some ([], r)) : hend b = some (b.length - r.length) := by
  rw [hend]
  split
  · next h' => rw [h] at h'; cases h'
  · next l' r' h' => rw [h] at h'; cases h'; rw [if_pos rfl]
theorem hend_go {b l r : List By} (h : cut b = some (l, r)) (hl : l ≠ []) : hend b = (hend r).map (· + (b.length - r.length)) := by
  rw [hend]
  split
  · next h' => rw [h] at h'; cases h'
  · next l' r' h' => rw [h] at h'; cases h'; rw [if_neg hl]
theorem rd_none {k : Nat} {b : List By} (h : cut b = none) : rd k b = .error 3 := by
  rw [rd]
  split
  · rfl
  · next l' r' h' => rw [h] at h'; cases h'
theorem rd_end {k : Nat} {b r : List By} (h : cut b = some ([], r)) : rd k b = .ok ([], r) := by
  rw [rd]
  split
  · next h' => rw [h] at h'; cases h'
  · next l' r' h' => rw [h] at h'; cases h'; rw [if_pos rfl]
theorem takeWhile_name {n : List By} (h : n.all nok = true) (l : List By) : (n ++ 58 :: l).takeWhile (· != 58) = n := by
  rw [List.takeWhile_append_of_pos]
  · simp
  · intro c hc
    have := List.all_eq_true.1 h c hc
    simp only [nok, Bool.and_eq_true] at this
    simpa using this.2
theorem rd_line {k : Nat} {b n l r : List By} (h : cut b = some (n ++ 58 :: l, r)) (hn : nameB n = true) (hk : k ≠ 200) :
    rd k b = (match conts r with
      | none => .error 3
      | some (vs, r') => if 8192 < (trim (l ++ vs)).length then .error 4 else if ¬ (trim (l ++ vs)).all sok = true then .error 3 else if r'.length < b.length then (rd (k + 1) r').map fun q => ((n, trim (l ++ vs)) :: q.1, q.2) else .error 3) := by
  have hn1 : n.all nok = true := by simp only [nameB, Bool.and_eq_true] at hn; exact hn.1.1
  rw [rd]
  split
  · next h' => rw [h] at h'; cases h'
  · next l' r2 h' =>
    rw [h] at h'
    cases h'
    have e2 : (n ++ 58 :: l).drop (n.length + 1) = l := by rw [List.drop_append, List.drop_of_length_le (by omega)]; simp
    rw [if_neg (by simp), takeWhile_name hn1, if_neg (by simp [hn]), if_neg hk, e2]
    split
    · next hc => simp only [hc]
    · next vs r' hc =>
      simp only [hc]
      split
      · rfl
      · split
        · rfl
        · split
          · rfl
          · rfl
/-! ### a field's lines -/
theorem isE_pos {e : List By} (h : isE e) : e ≠ [] := by rcases h with rfl | rfl <;> simp
theorem fo_lines {u L : List By} (h : Fo u L) : ∀ p e T, clean p → isE e → (T = [] ∨ bl (T.getD 0 0) = false) → ∃ l' r vs, cut (p ++ L ++ e ++ T) = some (p ++ l', r) ∧ conts r = some (vs, T) ∧ l' ++ vs = u := by
  induction h with
  | nil =>
    intro p e T hp he hT
    refine ⟨[], T, [], ?_, conts_no hT, rfl⟩
    rw [List.append_nil, cut_line hp he]
  | byte c v L hc _ ih =>
    intro p e T hp he hT
    obtain ⟨l', r, vs, h1, h2, h3⟩ := ih (p ++ [c]) e T (hp.app (sok_clean hc)) he hT
    refine ⟨c :: l', r, vs, ?_, h2, by rw [← h3]; rfl⟩
    simpa using h1
  | fold c e1 v L hc he1 _ ih =>
    intro p e T hp he hT
    obtain ⟨l', r, vs, h1, h2, h3⟩ := ih [c] e T (sok_clean (bl_sok hc)) he hT
    refine ⟨[], c :: L ++ e ++ T, c :: v, ?_, ?_, rfl⟩
    · have := cut_line (b := c :: L ++ e ++ T) hp he1
      simpa using this
    · have e2 : c :: L ++ e ++ T = [c] ++ L ++ e ++ T := by simp
      rw [e2, conts_some ⟨by simpa using hc, by simp⟩ h1, h2, ← h3]
      simp
theorem fo_hend {u L : List By} (h : Fo u L) : ∀ p e T, clean p → p ≠ [] → isE e → hend (p ++ L ++ e ++ T) = (hend T).map (· + (p ++ L ++ e).length) := by
  induction h with
  | nil =>
    intro p e T hp h0 he
    rw [List.append_nil, hend_go (cut_line hp he) h0]
    congr 1
    funext x
    simp only [List.length_append]
    omega
  | byte c v L hc _ ih =>
    intro p e T hp h0 he
    have := ih (p ++ [c]) e T (hp.app (sok_clean hc)) (by simp) he
    simpa [Nat.add_assoc, Nat.add_comm, Nat.add_left_comm] using this
  | fold c e1 v L hc he1 _ ih =>
    intro p e T hp h0 he
    have h1 := cut_line (b := [c] ++ L ++ e ++ T) hp he1
    have e2 : p ++ (e1 ++ c :: L) ++ e ++ T = p ++ e1 ++ ([c] ++ L ++ e ++ T) := by simp
    rw [e2, hend_go h1 h0, ih [c] e T (sok_clean (bl_sok hc)) (by simp) he, Option.map_map]
    congr 1
    funext x
    simp only [Function.comp, List.length_append, List.length_cons, List.length_nil]
    omega
theorem dropWhile_none {v : List By} (h : v = [] ∨ bl (v.getD 0 0) = false) : trimL v = v := by
  unfold trimL
  cases v with
  | nil => rfl
  | cons c v =>
    rcases h with h | h
    · cases h
    · simp only [List.getD_cons_zero] at h
      rw [List.dropWhile_cons, h]; rfl
theorem valB_parts {v : List By} (h : valB v = true) : v.all sok = true ∧ v.length ≤ 8192 ∧ (v = [] ∨ (bl (v.getD 0 0) = false ∧ bl (v.getD (v.length - 1) 0) = false)) := by
  simp only [valB, Bool.and_eq_true, decide_eq_true_eq, Bool.or_eq_true, Bool.not_eq_true', List.length_eq_zero_iff] at h
  exact ⟨h.1.1, h.1.2, h.2⟩
theorem trim_val {v : List By} (h : valB v = true) : trim (32 :: v) = v := by
  obtain ⟨_, _, h3⟩ := valB_parts h
  have e1 : trimL (32 :: v) = v := by
    show (32 :: v).dropWhile bl = v
    rw [List.dropWhile_cons, if_pos (by decide)]
    exact dropWhile_none (h3.imp_right (·.1))
  unfold trim
  rw [e1, dropWhile_none, List.reverse_reverse]
  rcases h3 with rfl | ⟨_, h4⟩
  · exact .inl rfl
  · refine .inr ?_
    by_cases h0 : v = []
    · subst h0; exact h4
    · have hp := List.length_pos_iff.2 h0
      rw [List.getD_eq_getElem?_getD] at h4 ⊢
      rw [List.getElem?_reverse hp]
      exact h4
theorem name_parts {n : List By} (h : nameB n = true) : n.all nok = true ∧ n ≠ [] ∧ n.length ≤ 64 := by
  simp only [nameB, Bool.and_eq_true, decide_eq_true_eq] at h
  exact ⟨h.1.1, List.length_pos_iff.1 (by omega), h.2⟩
theorem rd_field {n v L e T : List By} {k : Nat} (hn : nameB n = true) (hv : valB v = true) (hf : Fo (32 :: v) L) (he : isE e) (hT : T = [] ∨ bl (T.getD 0 0) = false) (hk : k < 200) :
    rd k (n ++ 58 :: L ++ e ++ T) = (rd (k + 1) T).map fun q => ((n, v) :: q.1, q.2) := by
  obtain ⟨h1, h2, h3⟩ := valB_parts hv
  have hp : clean (n ++ [58]) := (nok_clean (name_parts hn).1).app (by intro c hc; rw [List.mem_singleton] at hc; subst hc; decide)
  obtain ⟨l', r, vs, c1, c2, c3⟩ := fo_lines hf (n ++ [58]) e T hp he hT
  have e1 : n ++ 58 :: L ++ e ++ T = n ++ [58] ++ L ++ e ++ T := by simp
  rw [e1, rd_line (l := l') (r := r) (by rw [c1]; simp) hn (by omega), c2]
  simp only [c3, trim_val hv]
  rw [if_neg (by omega), if_neg (by simp [h1]), if_pos (by simp only [List.length_append, List.length_cons]; omega)]
/-- fields as lines -/
inductive Hd : List (List By × List By) → List By → Prop
  | nil : Hd [] []
  | cons (n v L e : List By) (fs : List (List By × List By)) (H : List By) : nameB n = true → valB v = true → Fo (32 :: v) L → isE e → Hd fs H → Hd ((n, v) :: fs) (n ++ 58 :: L ++ e ++ H)
theorem nok_bl {c : By} (h : nok c = true) : bl c = false := by
  cases hb : bl c with
  | false => rfl
  | true =>
    simp only [bl, Bool.or_eq_true, beq_iff_eq] at hb
    rcases hb with rfl | rfl <;> exact absurd h (by decide)
theorem name_head {n : List By} (h : nameB n = true) (X : List By) : bl ((n ++ X).getD 0 0) = false := by
  obtain ⟨h1, h2, _⟩ := name_parts h
  cases n with
  | nil => exact absurd rfl h2
  | cons c n =>
    simp only [List.cons_append, List.getD_cons_zero]
    exact nok_bl (List.all_eq_true.1 h1 c (by simp))
theorem isE_head {e : List By} (h : isE e) (X : List By) : bl ((e ++ X).getD 0 0) = false := by
  rcases h with rfl | rfl <;> rfl
theorem hd_head {fs : List (List By × List By)} {H e : List By} (h : Hd fs H) (he : isE e) (R : List By) : bl ((H ++ e ++ R).getD 0 0) = false := by
  cases h with
  | nil => simpa using isE_head he R
  | cons n v L e1 fs H hn hv hf he1 hh =>
    have := name_head hn (58 :: L ++ e1 ++ H ++ e ++ R)
    simpa using this
theorem rd_head {fs : List (List By × List By)} {H e : List By} (h : Hd fs H) (he : isE e) (R : List By) : ∀ k, k + fs.length ≤ 200 → rd k (H ++ e ++ R) = .ok (fs, R) := by
  induction h with
  | nil =>
    intro k _
    have := cut_line (p := []) (b := R) (fun _ h => by cases h) he
    exact rd_end (by simpa using this)
  | cons n v L e1 fs H hn hv hf he1 hh ih =>
    intro k hk
    simp only [List.length_cons] at hk
    have := rd_field (T := H ++ e ++ R) (k := k) hn hv hf he1 (.inr (hd_head hh he R)) (by omega)
    rw [show n ++ 58 :: L ++ e1 ++ H ++ e ++ R = n ++ 58 :: L ++ e1 ++ (H ++ e ++ R) by simp, this, ih (k + 1) (by omega)]
    rfl
theorem hend_head {fs : List (List By × List By)} {H e : List By} (h : Hd fs H) (he : isE e) (R : List By) : hend (H ++ e ++ R) = some (H.length + e.length) := by
  induction h with
  | nil =>
    have := cut_line (p := []) (b := R) (fun _ h => by cases h) he
    rw [hend_end (r := R) (by simpa using this)]
    simp
  | cons n v L e1 fs H hn hv hf he1 hh ih =>
    have hp : clean (n ++ [58]) := (nok_clean (name_parts hn).1).app (by intro c hc; rw [List.mem_singleton] at hc; subst hc; decide)
    have := fo_hend hf (n ++ [58]) e1 (H ++ e ++ R) hp (by simp) he1
    rw [show n ++ 58 :: L ++ e1 ++ H ++ e ++ R = n ++ [58] ++ L ++ e1 ++ (H ++ e ++ R) by simp, this, ih]
    simp only [Option.map_some, List.length_append, List.length_cons, List.length_nil]
    congr 1
    omega
theorem read_head {fs : List (List By × List By)} {H e : List By} (h : Hd fs H) (he : isE e) (R : List By) (h1 : fs.length ≤ 200) (h2 : H.length + e.length ≤ 65536) : readB (H ++ e ++ R) = .ok (fs, R) := by
  unfold readB
  rw [hend_head h he R, Option.getD_some, if_neg (by omega), rd_head h he R 0 (by omega)]
/-! ### beginnings -/
theorem pre_cons {c x : By} {X q s : List By} (h : c :: X = q ++ x :: s) : q = [] ∨ ∃ q', q = c :: q' ∧ X = q' ++ x :: s := by
  cases q with
  | nil => exact .inl rfl
  | cons d q' =>
    simp only [List.cons_append, List.cons.injEq] at h
    exact .inr ⟨q', by rw [h.1], h.2⟩
/-- a beginning of two rows, one behind the other -/
theorem pre_app : ∀ {A X q s : List By} {x : By}, A ++ X = q ++ x :: s → (∃ y t, A = q ++ y :: t) ∨ ∃ q', q = A ++ q' ∧ X = q' ++ x :: s
  | [], X, q, s, x, h => .inr ⟨q, rfl, h⟩
  | a :: A, X, q, s, x, h => by
    rcases pre_cons (show a :: (A ++ X) = q ++ x :: s from h) with rfl | ⟨q', rfl, h'⟩
    · exact .inl ⟨a, A, rfl⟩
    · rcases pre_app h' with ⟨y, t, h2⟩ | ⟨q2, h2, h3⟩
      · exact .inl ⟨y, t, by rw [h2]; rfl⟩
      · exact .inr ⟨q2, by rw [h2]; rfl, h3⟩
theorem isE_pre {e q s : List By} {x : By} (he : isE e) (h : e = q ++ x :: s) : ∀ c ∈ q, c ≠ 10 := by
  rcases he with rfl | rfl
  · rcases pre_cons h with rfl | ⟨q', rfl, h'⟩
    · intro c hc; cases hc
    · simp at h'
  · rcases pre_cons h with rfl | ⟨q', rfl, h'⟩
    · intro c hc; cases hc
    · rcases pre_cons h' with rfl | ⟨q2, rfl, h2⟩
      · intro c hc; rw [List.mem_singleton] at hc; subst hc; decide
      · simp at h2
theorem no10 {p q : List By} (hp : clean p) (hq : ∀ c ∈ q, c ≠ 10) : ∀ c ∈ p ++ q, c ≠ 10 := fun c hc => by
  rcases List.mem_append.1 hc with h | h
  · exact (hp c h).1
  · exact hq c h
theorem fo_pre {u L : List By} (h : Fo u L) : ∀ p e q x s, clean p → isE e → L ++ e = q ++ x :: s →
    cut (p ++ q) = none ∨ ∃ l' r, cut (p ++ q) = some (p ++ l', r) ∧ (conts r = none ∨ ∃ vs w, conts r = some (vs, []) ∧ u = l' ++ vs ++ w) := by
  induction h with
  | nil =>
    intro p e q x s hp he hq
    exact .inl (cut_none (no10 hp (isE_pre he (by simpa using hq))))
  | byte c v L hc _ ih =>
    intro p e q x s hp he hq
    rcases pre_cons (show c :: (L ++ e) = q ++ x :: s from hq) with rfl | ⟨q', rfl, h'⟩
    · exact .inl (cut_none (no10 hp (by intro c hc; cases hc)))
    · have e1 : p ++ c :: q' = p ++ [c] ++ q' := by simp
      rcases ih (p ++ [c]) e q' x s (hp.app (sok_clean hc)) he h' with h1 | ⟨l', r, h1, h2⟩
      · exact .inl (by rw [e1]; exact h1)
      · refine .inr ⟨c :: l', r, by rw [e1, h1]; simp, h2.imp_right ?_⟩
        rintro ⟨vs, w, h3, h4⟩
        exact ⟨vs, w, h3, by rw [h4]; rfl⟩
  | fold c e1 v L hc he1 _ ih =>
    intro p e q x s hp he hq
    rw [List.append_assoc] at hq
    rcases pre_app hq with ⟨y, t, h1⟩ | ⟨q1, rfl, h1⟩
    · exact .inl (cut_none (no10 hp (isE_pre he1 h1)))
    · have c1 : cut (p ++ (e1 ++ q1)) = some (p, q1) := by rw [← List.append_assoc]; exact cut_line hp he1
      refine .inr ⟨[], q1, by rw [c1, List.append_nil], ?_⟩
      rcases pre_cons h1 with rfl | ⟨q', rfl, h'⟩
      · exact .inr ⟨[], c :: v, conts_no (.inl rfl), rfl⟩
      · have hb : bl ((c :: q').getD 0 0) = true ∧ c :: q' ≠ [] := ⟨hc, by simp⟩
        rcases ih [c] e q' x s (sok_clean (bl_sok hc)) he h' with h1 | ⟨l', r, h1, h2 | ⟨vs, w, h2, h3⟩⟩
        · exact .inl (conts_none hb h1)
        · exact .inl (by rw [conts_some hb h1, h2]; rfl)
        · exact .inr ⟨c :: l' ++ vs, w, by rw [conts_some hb h1, h2]; rfl, by rw [h3]; simp⟩
theorem fo_hend_pre {u L : List By} (h : Fo u L) : ∀ p e q x s, clean p → p ≠ [] → isE e → L ++ e = q ++ x :: s → hend (p ++ q) = none := by
  induction h with
  | nil =>
    intro p e q x s hp _ he hq
    exact hend_none (cut_none (no10 hp (isE_pre he (by simpa using hq))))
  | byte c v L hc _ ih =>
    intro p e q x s hp h0 he hq
    rcases pre_cons (show c :: (L ++ e) = q ++ x :: s from hq) with rfl | ⟨q', rfl, h'⟩
    · exact hend_none (cut_none (no10 hp (by intro c hc; cases hc)))
    · rw [show p ++ c :: q' = p ++ [c] ++ q' by simp]
      exact ih (p ++ [c]) e q' x s (hp.app (sok_clean hc)) (by simp) he h'
  | fold c e1 v L hc he1 _ ih =>
    intro p e q x s hp h0 he hq
    rw [List.append_assoc] at hq
    rcases pre_app hq with ⟨y, t, h1⟩ | ⟨q1, rfl, h1⟩
    · exact hend_none (cut_none (no10 hp (isE_pre he1 h1)))
    · have c1 : cut (p ++ (e1 ++ q1)) = some (p, q1) := by rw [← List.append_assoc]; exact cut_line hp he1
      rw [hend_go c1 h0]
      rcases pre_cons h1 with rfl | ⟨q', rfl, h'⟩
      · rw [hend_none (cut_none (by intro c hc; cases hc))]; rfl
      · rw [show c :: q' = [c] ++ q' from rfl, ih [c] e q' x s (sok_clean (bl_sok hc)) (by simp) he h']; rfl
theorem trim_pre {v w w2 : List By} (hv : valB v = true) (h : 32 :: v = w ++ w2) : (trim w).length ≤ 8192 ∧ (trim w).all sok = true := by
  obtain ⟨h1, h2, _⟩ := valB_parts hv
  have hs : ∀ {l : List By}, (trimL l).Sublist l := fun {l} => List.dropWhile_sublist _
  have hsub : (trim w).Sublist w := by
    unfold trim
    have := (hs (l := (trimL w).reverse)).reverse
    rw [List.reverse_reverse] at this
    exact this.trans hs
  have hw : ∀ c ∈ w, sok c = true := fun c hc => by
    have : c ∈ 32 :: v := by rw [h]; exact List.mem_append_left _ hc
    rcases List.mem_cons.1 this with rfl | h'
    · decide
    · exact List.all_eq_true.1 h1 c h'
  refine ⟨?_, List.all_eq_true.2 fun c hc => hw c (hsub.subset hc)⟩
  cases w with
  | nil => exact Nat.le_trans hsub.length_le (by simp)
  | cons c w =>
    simp only [List.cons_append, List.cons.injEq] at h
    obtain ⟨rfl, h⟩ := h
    have h3 : w.length ≤ v.length := by rw [h, List.length_append]; omega
    have e1 : trimL (32 :: w) = trimL w := by
      unfold trimL
      rw [List.dropWhile_cons, if_pos (by decide)]
    have : (trim (32 :: w)).length ≤ w.length := by
      unfold trim
      rw [e1, List.length_reverse]
      have a1 := (hs (l := (trimL w).reverse)).length_le
      have a2 := (hs (l := w)).length_le
      rw [List.length_reverse] at a1
      omega
    omega
theorem rd_pre {fs : List (List By × List By)} {H e : List By} (h : Hd fs H) (he : isE e) : ∀ k q x s, k + fs.length ≤ 200 → H ++ e = q ++ x :: s → rd k q = .error 3 ∧ hend q = none := by
  induction h with
  | nil =>
    intro k q x s _ hq
    have := cut_none (isE_pre he (by simpa using hq))
    exact ⟨rd_none this, hend_none this⟩
  | cons n v L e1 fs H hn hv hf he1 hh ih =>
    intro k q x s hk hq
    simp only [List.length_cons] at hk
    have hp : clean (n ++ [58]) := (nok_clean (name_parts hn).1).app (by intro c hc; rw [List.mem_singleton] at hc; subst hc; decide)
    rw [show n ++ 58 :: L ++ e1 ++ H ++ e = (n ++ [58]) ++ ((L ++ e1) ++ (H ++ e)) by simp] at hq
    rcases pre_app hq with ⟨y, t, h1⟩ | ⟨q1, rfl, h1⟩
    · have h10 : ∀ c ∈ q, c ≠ 10 := fun c hc => (hp c (by rw [h1]; exact List.mem_append_left _ hc)).1
      exact ⟨rd_none (cut_none h10), hend_none (cut_none h10)⟩
    · rcases pre_app h1 with ⟨y, t, h2⟩ | ⟨q2, rfl, h2⟩
      · refine ⟨?_, fo_hend_pre hf _ _ _ _ _ hp (by simp) he1 h2⟩
        rcases fo_pre hf _ _ _ _ _ hp he1 h2 with h3 | ⟨l', r, h3, h4⟩
        · exact rd_none h3
        · rw [rd_line (l := l') (r := r) (by rw [h3]; simp) hn (by omega)]
          rcases h4 with h4 | ⟨vs, w, h4, h5⟩
          · rw [h4]
          · obtain ⟨t1, t2⟩ := trim_pre hv h5
            rw [h4]
            simp only
            rw [if_neg (by omega), if_neg (by simp [t2]), rd_none (k := k + 1) (cut_none (p := []) (by intro c hc; cases hc))]
            split <;> rfl
      · obtain ⟨i1, i2⟩ := ih (k + 1) q2 x s (by omega) h2
        have hT : q2 = [] ∨ bl (q2.getD 0 0) = false := by
          cases q2 with
          | nil => exact .inl rfl
          | cons c q2 =>
            have := hd_head hh he []
            rw [List.append_nil, h2] at this
            exact .inr this
        refine ⟨?_, ?_⟩
        · have := rd_field (T := q2) (k := k) hn hv hf he1 hT (by omega)
          rw [show n ++ [58] ++ (L ++ e1 ++ q2) = n ++ 58 :: L ++ e1 ++ q2 by simp, this, i1]; rfl
        · have := fo_hend hf (n ++ [58]) e1 q2 hp (by simp) he1
          rw [show n ++ [58] ++ (L ++ e1 ++ q2) = n ++ [58] ++ L ++ e1 ++ q2 by simp, this, i2]; rfl
theorem read_pre {fs : List (List By × List By)} {H e q s : List By} {x : By} (h : Hd fs H) (he : isE e) (h1 : fs.length ≤ 200) (h2 : q.length ≤ 65536) (hq : H ++ e = q ++ x :: s) : readB q = .error 3 := by
  obtain ⟨i1, i2⟩ := rd_pre h he 0 q x s (by omega) hq
  unfold readB
  rw [i2, Option.getD_none, if_neg (by omega), i1]
end Fld
end Go.Proofs.YtchoiikhepjdiaaDoor
