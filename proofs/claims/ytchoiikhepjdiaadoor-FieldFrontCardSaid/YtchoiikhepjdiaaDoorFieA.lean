/-
  Of no statement by itself: how the landed field folds and reads (pieces, heads that are too long): pure; no program stands here.
  Conditions: none but each lemma's own.
-/
import Derived.Test.YtchoiikhepjdiaaDoorFieT
namespace Go.Proofs.YtchoiikhepjdiaaDoor
namespace Fld
/-! ### the ends of a value -/
theorem trimL_self {v : List By} : trimL v = v ↔ (v = [] ∨ bl (v.getD 0 0) = false) := by
  constructor
  · intro h
    cases v with
    | nil => exact .inl rfl
    | cons c r =>
      refine .inr ?_
      cases hc : bl c with
      | false => exact hc
      | true =>
        exfalso
        have h1 : trimL (c :: r) = trimL r := by simp [trimL, hc]
        rw [h1] at h
        have h2 := congrArg List.length h
        have h3 : (trimL r).length ≤ r.length := (List.dropWhile_sublist _).length_le
        rw [List.length_cons] at h2
        omega
  · exact dropWhile_none
theorem trim_self {v : List By} : trim v = v ↔ (v = [] ∨ (bl (v.getD 0 0) = false ∧ bl (v.getD (v.length - 1) 0) = false)) := by
  have e0 : ∀ u : List By, u ≠ [] → u.reverse.getD 0 0 = u.getD (u.length - 1) 0 := by
    intro u hu
    have hl : 0 < u.length := List.length_pos_iff.2 hu
    rw [List.getD_eq_getElem?_getD, List.getD_eq_getElem?_getD, List.getElem?_reverse (by omega)]
    simp
  constructor
  · intro h
    have h1 : (trim v).length = v.length := congrArg List.length h
    have h2 : (trimL (trimL v).reverse).length ≤ (trimL v).reverse.length := (List.dropWhile_sublist _).length_le
    have h3 : (trimL v).length ≤ v.length := (List.dropWhile_sublist _).length_le
    unfold trim at h1
    rw [List.length_reverse] at h1 h2
    have h4 : trimL v = v := List.IsSuffix.eq_of_length (l₁ := trimL v) (List.dropWhile_suffix bl) (by omega)
    unfold trim at h
    rw [h4] at h
    have h5 : trimL v.reverse = v.reverse := by
      have := congrArg List.reverse h
      rwa [List.reverse_reverse] at this
    cases v with
    | nil => exact .inl rfl
    | cons c r =>
      refine .inr ⟨(trimL_self.1 h4).resolve_left (by simp), ?_⟩
      have := (trimL_self.1 h5).resolve_left (by simp)
      rwa [e0 _ (by simp)] at this
  · rintro (rfl | ⟨h1, h2⟩)
    · rfl
    · unfold trim
      by_cases hv : v = []
      · subst hv; rfl
      · rw [dropWhile_none (.inr h1), dropWhile_none (v := v.reverse) (.inr (by rw [e0 _ hv]; exact h2)), List.reverse_reverse]
theorem trim_trim (v : List By) : trim (trim v) = trim v := by
  have key : ∀ u : List By, trimL (trimL u) = trimL u := fun u => by
    rw [trimL_self]
    unfold trimL
    induction u with
    | nil => exact .inl rfl
    | cons c r ih =>
      cases hc : bl c with
      | true => simpa [List.dropWhile_cons, hc] using ih
      | false => exact .inr (by simp [List.dropWhile_cons, hc])
  rw [trim_self]
  by_cases he : trim v = []
  · exact .inl he
  refine .inr ?_
  have e0 : ∀ u : List By, u ≠ [] → u.reverse.getD 0 0 = u.getD (u.length - 1) 0 := by
    intro u hu
    have hl : 0 < u.length := List.length_pos_iff.2 hu
    rw [List.getD_eq_getElem?_getD, List.getD_eq_getElem?_getD, List.getElem?_reverse (by omega)]
    simp
  have hx : trimL (trimL v).reverse ≠ [] := fun h => he (by unfold trim; rw [h]; rfl)
  have hb : bl ((trimL (trimL v).reverse).getD 0 0) = false := (trimL_self.1 (key _)).resolve_left hx
  have hv : trimL v ≠ [] := fun h => hx (by rw [h]; rfl)
  have ha : bl ((trimL v).getD 0 0) = false := (trimL_self.1 (key _)).resolve_left hv
  obtain ⟨p, hp⟩ := List.dropWhile_suffix bl (l := (trimL v).reverse)
  have hp : p ++ trimL (trimL v).reverse = (trimL v).reverse := hp
  constructor
  · have h1 : trimL v = trim v ++ p.reverse := by
      have := congrArg List.reverse hp
      rw [List.reverse_append, List.reverse_reverse] at this
      exact this.symm
    rw [h1] at ha
    have : 0 < (trim v).length := List.length_pos_iff.2 he
    rwa [List.getD_eq_getElem?_getD, List.getElem?_append_left this, ← List.getD_eq_getElem?_getD] at ha
  · rw [← e0 _ he]
    have : (trim v).reverse = trimL (trimL v).reverse := by unfold trim; rw [List.reverse_reverse]
    rw [this]
    exact hb
theorem valB_is (v : List By) : valB v = (decide (v.length ≤ 8192) && (decide (v = trim v) && v.all sok)) := by
  unfold valB
  have h : (decide (v.length = 0) || (!bl (v.getD 0 0) && !bl (v.getD (v.length - 1) 0))) = decide (v = trim v) := by
    rw [Bool.eq_iff_iff, Bool.or_eq_true, Bool.and_eq_true, decide_eq_true_eq, decide_eq_true_eq, eq_comm (a := v), trim_self, List.length_eq_zero_iff, Bool.not_eq_true', Bool.not_eq_true']
  rw [h]
  cases v.all sok <;> cases decide (v.length ≤ 8192) <;> cases decide (v = trim v) <;> rfl
theorem valB_trim (v : List By) (h : (trim v).length ≤ 8192) : valB (trim v) = (trim v).all sok := by
  rw [valB_is, trim_trim, decide_eq_true h, decide_eq_true rfl, Bool.true_and, Bool.true_and]
/-! ### pieces -/
/-- how many bytes ahead of the first blank -/
def fb (w : List By) : Nat := (w.takeWhile fun c => !bl c).length
theorem fb_le (w : List By) : fb w ≤ w.length := (List.takeWhile_sublist _).length_le
theorem fb_in : ∀ (w : List By) {k : Nat}, k < fb w → bl (w.getD k 0) = false
  | [], k, h => by simp [fb] at h
  | c :: r, k, h => by
    cases hc : bl c with
    | true => simp [fb, hc] at h
    | false =>
      have e : fb (c :: r) = fb r + 1 := by simp [fb, hc]
      cases k with
      | zero => exact hc
      | succ k => exact fb_in r (by omega)
theorem fb_at : ∀ (w : List By), fb w < w.length → bl (w.getD (fb w) 0) = true
  | [], h => by simp [fb] at h
  | c :: r, h => by
    cases hc : bl c with
    | true =>
      have e : fb (c :: r) = 0 := by simp [fb, hc]
      rw [e]; exact hc
    | false =>
      have e : fb (c :: r) = fb r + 1 := by simp [fb, hc]
      rw [e] at h ⊢
      exact fb_at r (by simpa using h)
theorem trimL_split : ∀ (u : List By), ∃ p, u = p ++ trimL u ∧ ∀ c ∈ p, bl c = true
  | [] => ⟨[], rfl, by simp⟩
  | c :: r => by
    cases hc : bl c with
    | true =>
      obtain ⟨p, h1, h2⟩ := trimL_split r
      refine ⟨c :: p, ?_, ?_⟩
      · have : trimL (c :: r) = trimL r := by simp [trimL, hc]
        rw [this, List.cons_append, ← h1]
      · intro d hd
        rcases List.mem_cons.1 hd with rfl | hd
        · exact hc
        · exact h2 d hd
    | false => exact ⟨[], by simp [trimL, hc], by simp⟩
theorem trimL_len (u : List By) : (trimL u).length ≤ u.length := (List.dropWhile_sublist _).length_le
def pieceB (s : List By) : Nat := s.length - (trimL s).length + fb (trimL s)
theorem scan_eq {v : List By} {i e : Nat} (h1 : i ≤ e) (h2 : e ≤ v.length) (hn : ∀ j, i ≤ j → j < e → ¬ tn v j = true) (he : e < v.length → tn v e = true) : scan v i = e := by
  have hi : i ≤ v.length := by omega
  have a1 := scan_le v i
  have a2 := scan_ge v i hi
  by_cases hlt : scan v i < e
  · exact absurd (scan_tn v i hi (by omega)) (hn _ a2 hlt)
  · by_cases hgt : e < scan v i
    · exact absurd (he (by omega)) (scan_no v i hi e h1 hgt)
    · omega
theorem piece_scan {v : List By} {i : Nat} (hi : i < v.length) : i + pieceB (v.drop i) = scan v (i + 1) := by
  obtain ⟨p, h1, h2⟩ := trimL_split (v.drop i)
  have hw0 : trimL (v.drop i) = [] ∨ bl ((trimL (v.drop i)).getD 0 0) = false := by
    have key : ∀ u : List By, trimL (trimL u) = trimL u := fun u => by
      rw [trimL_self]
      unfold trimL
      induction u with
      | nil => exact .inl rfl
      | cons c r ih =>
        cases hc : bl c with
        | true => simpa [List.dropWhile_cons, hc] using ih
        | false => exact .inr (by simp [List.dropWhile_cons, hc])
    exact trimL_self.1 (key _)
  have hlen : (v.drop i).length = v.length - i := List.length_drop
  have e0 : pieceB (v.drop i) = p.length + fb (trimL (v.drop i)) := by
    have := congrArg List.length h1
    rw [List.length_append] at this
    unfold pieceB
    omega
  rw [e0]
  generalize hw : trimL (v.drop i) = w at h1 hw0 e0 ⊢
  have hl : p.length + w.length = v.length - i := by
    have := congrArg List.length h1
    rw [List.length_append, hlen] at this
    omega
  have at1 : ∀ k, v.getD (i + k) 0 = (p ++ w).getD k 0 := fun k => by
    rw [← h1, List.getD_eq_getElem?_getD, List.getD_eq_getElem?_getD, List.getElem?_drop]
  have atp : ∀ k, k < p.length → bl (v.getD (i + k) 0) = true := fun k hk => by
    rw [at1, List.getD_eq_getElem?_getD, List.getElem?_append_left hk, List.getElem?_eq_getElem hk]
    exact h2 _ (List.getElem_mem hk)
  have atw : ∀ k, v.getD (i + p.length + k) 0 = w.getD k 0 := fun k => by
    rw [Nat.add_assoc, at1, List.getD_eq_getElem?_getD, List.getD_eq_getElem?_getD, List.getElem?_append_right (by omega)]
    congr 2
    omega
  have hfl := fb_le w
  have hf0 : w ≠ [] → 0 < fb w := by
    intro hne
    have hb := hw0.resolve_left hne
    cases w with
    | nil => exact absurd rfl hne
    | cons c r =>
      have hb : bl c = false := hb
      simp [fb, hb]
  have hwl : w ≠ [] ↔ 0 < w.length := List.length_pos_iff.symm
  symm
  refine scan_eq (by
    by_cases hp : p.length = 0
    · have := hf0 (hwl.2 (by omega)); omega
    · omega) (by omega) ?_ ?_
  · intro j hj1 hj2 ht
    have hb := tn_bl ht
    simp only [tn, Bool.and_eq_true, Bool.not_eq_true'] at ht
    by_cases hj : j ≤ i + p.length
    · have := atp (j - 1 - i) (by omega)
      rw [show i + (j - 1 - i) = j - 1 by omega] at this
      rw [this] at ht
      exact absurd ht.2.2 (by decide)
    · have := fb_in w (k := j - i - p.length) (by omega)
      rw [← atw, show i + p.length + (j - i - p.length) = j by omega] at this
      rw [this] at hb
      cases hb
  · intro hlt
    have hfw : fb w < w.length := by omega
    have h0 : 0 < fb w := hf0 (hwl.2 (by omega))
    have a := fb_at w hfw
    have b := fb_in w (k := fb w - 1) (by omega)
    rw [← atw] at a b
    simp only [tn, Bool.and_eq_true, Bool.not_eq_true', decide_eq_true_eq]
    refine ⟨by omega, ?_, ?_⟩
    · rw [show i + (p.length + fb w) = i + p.length + fb w by omega]; exact a
    · rw [show i + (p.length + fb w) - 1 = i + p.length + (fb w - 1) by omega]; exact b
theorem st_run (n v : List By) (i : Nat) : ∀ k, i + 1 + k ≤ v.length → (∀ j, i + 1 ≤ j → j < i + 1 + k → ¬ tn v j = true) →
    st n v (i + 1 + k) = ((st n v (i + 1)).1 ++ (v.take (i + 1 + k)).drop (i + 1), (st n v (i + 1)).2 + k)
  | 0, h, _ => by
    rw [List.drop_of_length_le (by rw [List.length_take]; omega)]
    simp
  | k + 1, h, hn => by
    have ih := st_run n v i k (by omega) (fun j h1 h2 => hn j h1 (by omega))
    have ht := hn (i + 1 + k) (by omega) (by omega)
    have e : i + 1 + (k + 1) = (i + 1 + k) + 1 := by omega
    rw [e, st, if_neg (fun hh => ht hh.1), ih, take_succ_getD v (by omega)]
    rw [List.drop_append_of_le_length (by rw [List.length_take]; omega)]
    simp only [List.append_assoc]
    rfl
/-- is a line's end put ahead of the piece at i? -/
def brkA (n v : List By) (i : Nat) : Bool := tn v i && decide (76 < (st n v i).2 + (scan v (i + 1) - i))
theorem st_piece (n v : List By) {i : Nat} (hi : i < v.length) : st n v (scan v (i + 1)) =
    (((st n v i).1 ++ (if brkA n v i then [13, 10] else [])) ++ (v.take (scan v (i + 1))).drop i, (if brkA n v i then 0 else (st n v i).2) + (scan v (i + 1) - i)) := by
  have a1 := scan_le v (i + 1)
  have a2 := scan_ge v (i + 1) hi
  have a3 := scan_no v (i + 1) hi
  generalize he : scan v (i + 1) = e at a1 a2 a3 ⊢
  have h1 := st_run n v i (e - (i + 1)) (by omega) (fun j h1 h2 => a3 j h1 (by omega))
  rw [show i + 1 + (e - (i + 1)) = e by omega] at h1
  have e2 : (v.take e).drop i = v.getD i 0 :: (v.take e).drop (i + 1) := by
    rw [List.drop_eq_getElem_cons (by rw [List.length_take]; omega), List.getElem_take, List.getD_eq_getElem?_getD, List.getElem?_eq_getElem hi]
    rfl
  rw [h1, e2]
  have hb : brkA n v i = true ↔ (tn v i = true ∧ 76 < (st n v i).2 + scan v (i + 1) - i) := by
    unfold brkA
    rw [he, Bool.and_eq_true, decide_eq_true_eq]
    constructor
    · rintro ⟨p, q⟩; exact ⟨p, by omega⟩
    · rintro ⟨p, q⟩; exact ⟨p, by omega⟩
  conv => lhs; rw [st]
  by_cases h : tn v i = true ∧ 76 < (st n v i).2 + scan v (i + 1) - i
  · rw [if_pos h, if_pos (hb.2 h), if_pos (hb.2 h)]
    simp only [List.append_assoc, List.cons_append, List.nil_append, Prod.mk.injEq, true_and]
    omega
  · rw [if_neg h, if_neg (fun k => h (hb.1 k)), if_neg (fun k => h (hb.1 k))]
    simp only [List.append_assoc, List.cons_append, List.nil_append, List.append_nil, Prod.mk.injEq, true_and]
    omega
theorem st_low (n v : List By) : ∀ i, n.length + 2 + i ≤ (st n v i).1.length
  | 0 => by simp [st]
  | i + 1 => by
    have := st_low n v i
    unfold st
    split
    · simp only [List.length_append, List.length_cons, List.length_nil]; omega
    · simp only [List.length_append, List.length_cons, List.length_nil]; omega
/-! ### heads that are too long -/
theorem cut_some {b l r : List By} (h : cut b = some (l, r)) : (pre10 b).length < b.length ∧ l = chop (pre10 b) ∧ r = b.drop ((pre10 b).length + 1) := by
  unfold cut at h
  split at h
  · cases h; exact ⟨by assumption, rfl, rfl⟩
  · cases h
theorem pre10_at : ∀ (b : List By), (pre10 b).length < b.length → b = pre10 b ++ 10 :: b.drop ((pre10 b).length + 1)
  | [], h => by simp [pre10] at h
  | c :: r, h => by
    by_cases hc : c = 10
    · subst hc
      have : pre10 (10 :: r) = [] := by simp [pre10]
      rw [this]; rfl
    · have e : pre10 (c :: r) = c :: pre10 r := by
        unfold pre10
        rw [List.takeWhile_cons, if_pos (bne_iff_ne.2 hc)]
      rw [e] at h ⊢
      simp only [List.length_cons, List.drop_succ_cons, List.cons_append, List.cons.injEq, true_and] at h ⊢
      exact pre10_at r (by omega)
theorem pre10_no (b : List By) : ∀ c ∈ pre10 b, c ≠ 10 := by
  intro c hc
  have := (List.all_eq_true.1 (List.all_takeWhile (l := b) (p := (· != 10)))) c hc
  simpa using this
theorem pre10_take {b : List By} {m : Nat} (h : (pre10 b).length < m) (hb : (pre10 b).length < b.length) : pre10 (b.take m) = pre10 b := by
  have e := pre10_at b hb
  have h2 : b.take m = pre10 b ++ (10 :: b.drop ((pre10 b).length + 1)).take (m - (pre10 b).length) := by
    conv => lhs; rw [e]
    rw [List.take_append, List.take_of_length_le (by omega)]
  rw [h2, pre10_app (pre10_no b)]
  have h3 : m - (pre10 b).length = (m - (pre10 b).length - 1) + 1 := by omega
  rw [h3, List.take_succ_cons]
  simp [pre10]
theorem pre10_take2 {b : List By} {m : Nat} (h : (pre10 (b.take m)).length < (b.take m).length) : pre10 (b.take m) = pre10 b := by
  have e := pre10_at _ h
  have h2 : b = pre10 (b.take m) ++ (10 :: (b.take m).drop ((pre10 (b.take m)).length + 1) ++ b.drop m) := by
    have := List.take_append_drop m b
    conv => lhs; rw [← this]
    conv => lhs; rw [e]
    rw [List.append_assoc]
  conv => rhs; rw [h2]
  rw [pre10_app (pre10_no _)]
  simp [pre10]
/-- a head's end within the first m bytes -/
theorem hend_take (m : Nat) : ∀ (n : Nat) (b : List By), b.length ≤ n → ∀ k, (hend (b.take m) = some k ↔ (hend b = some k ∧ k ≤ m)) := by
  intro n
  induction n generalizing m with
  | zero =>
    intro b hb k
    obtain rfl : b = [] := List.eq_nil_of_length_eq_zero (by omega)
    have : hend [] = none := hend_none (by simp [cut, pre10])
    rw [List.take_nil, this]
    simp
  | succ n ih =>
    intro b hb k
    by_cases hc : (pre10 b).length < b.length
    · by_cases hm : (pre10 b).length < m
      · have e1 := pre10_take hm hc
        have c1 : cut b = some (chop (pre10 b), b.drop ((pre10 b).length + 1)) := by unfold cut; rw [if_pos hc]
        have c2 : cut (b.take m) = some (chop (pre10 b), (b.drop ((pre10 b).length + 1)).take (m - ((pre10 b).length + 1))) := by
          unfold cut
          rw [e1, if_pos (by rw [List.length_take]; omega), List.drop_take]
        have l1 : b.length - (b.drop ((pre10 b).length + 1)).length = (pre10 b).length + 1 := by rw [List.length_drop]; omega
        have l2 : (b.take m).length - ((b.drop ((pre10 b).length + 1)).take (m - ((pre10 b).length + 1))).length = (pre10 b).length + 1 := by
          rw [List.length_take, List.length_take, List.length_drop]; omega
        generalize hp : chop (pre10 b) = p at c1 c2
        by_cases hp0 : p = []
        · subst hp0
          rw [hend_end c1, hend_end c2, l1, l2]
          constructor
          · intro h; cases h; exact ⟨rfl, hm⟩
          · rintro ⟨h, _⟩; exact h
        · rw [hend_go c1 hp0, hend_go c2 hp0, l1, l2]
          have := ih (m - ((pre10 b).length + 1)) (b.drop ((pre10 b).length + 1)) (by rw [List.length_drop]; omega)
          constructor
          · intro h
            obtain ⟨a, h1, h2⟩ := Option.map_eq_some_iff.1 h
            obtain ⟨h3, h4⟩ := (this a).1 h1
            rw [h3]
            subst h2
            exact ⟨rfl, by omega⟩
          · rintro ⟨h, h4⟩
            obtain ⟨a, h1, h2⟩ := Option.map_eq_some_iff.1 h
            subst h2
            rw [(this a).2 ⟨h1, by omega⟩]
            rfl
      · -- the first line's end is behind
        have n2 : cut (b.take m) = none := by
          unfold cut
          rw [if_neg]
          intro h
          have := pre10_take2 h
          rw [this, List.length_take] at h
          omega
        rw [hend_none n2]
        constructor
        · intro h; cases h
        · rintro ⟨h, h4⟩
          exfalso
          have c1 : cut b = some (chop (pre10 b), b.drop ((pre10 b).length + 1)) := by unfold cut; rw [if_pos hc]
          have l1 : b.length - (b.drop ((pre10 b).length + 1)).length = (pre10 b).length + 1 := by rw [List.length_drop]; omega
          generalize chop (pre10 b) = p at c1
          by_cases hp0 : p = []
          · subst hp0
            rw [hend_end c1, l1] at h
            cases h; omega
          · rw [hend_go c1 hp0, l1] at h
            obtain ⟨a, _, h2⟩ := Option.map_eq_some_iff.1 h
            omega
    · have n1 : cut b = none := by unfold cut; rw [if_neg hc]
      have n2 : cut (b.take m) = none := by
        unfold cut
        rw [if_neg]
        intro h
        have := pre10_take2 h
        rw [this, List.length_take] at h
        omega
      rw [hend_none n1, hend_none n2]
      simp
def longB (b : List By) : Bool := decide (65536 < b.length) && (hend (b.take 65536)).isNone
theorem hend_le : ∀ (n : Nat) (b : List By), b.length ≤ n → ∀ k, hend b = some k → k ≤ b.length := by
  intro n b _ k h
  have := (hend_take b.length n b (by assumption) k).1 (by rw [List.take_length]; exact h)
  exact this.2
theorem long_is (b : List By) : (65536 < (hend b).getD b.length) ↔ longB b = true := by
  unfold longB
  rw [Bool.and_eq_true, decide_eq_true_eq]
  have ht := hend_take 65536 b.length b (Nat.le_refl _)
  cases h : hend b with
  | none =>
    have : hend (b.take 65536) = none := by
      cases h2 : hend (b.take 65536) with
      | none => rfl
      | some k => rw [((ht k).1 h2).1] at h; cases h
    rw [this]
    simp
  | some k =>
    have hk := hend_le b.length b (Nat.le_refl _) k h
    simp only [Option.getD_some]
    constructor
    · intro hlt
      refine ⟨by omega, ?_⟩
      cases h2 : hend (b.take 65536) with
      | none => rfl
      | some k' =>
        obtain ⟨h3, h4⟩ := (ht k').1 h2
        rw [h] at h3
        cases h3; omega
    · rintro ⟨_, hn⟩
      by_cases hlt : 65536 < k
      · exact hlt
      · rw [(ht k).2 ⟨h, by omega⟩] at hn
        cases hn
end Fld
end Go.Proofs.YtchoiikhepjdiaaDoor
