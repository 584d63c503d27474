/-
  Of no statement by itself: what the landed lines.Whole gives.
  Conditions: each theorem's own.
-/
import Derived.Test.YtnopllkpfdgkkaaLinB
import Derived.Test.YtnopllkpfdgkkaaLinW
import Derived.Test.YtnopllkpfdgkkaaLinA
namespace Go.Proofs.Ytnopllkpfdgkkaa
open Sl Lin
theorem goes_awhole : Goes Try.prog 12 := ⟨_, Try.func12, rfl, by kernel_rfl⟩
def w1 (l : List Lin.By) (i : Nat) : List Lin.By := if ((l.getD i 0).toNat : Int) = 10 ∧ sufB (l.take i) [13] = false then [13] else []
def w2 (l : List Lin.By) (i : Nat) : List Lin.By := if ((l.getD i 0).toNat : Int) = 13 ∧ preB (l.drop (i + 1)) [10] = false then [10] else []
theorem suf13 (l : List Lin.By) : ∀ i, i ≤ l.length → (sufB (l.take i) [13] = true ↔ ¬ i = 0 ∧ l.getD (i - 1) 0 = 13)
  | 0, _ => by
    unfold sufB
    simp
  | i + 1, h => by
    have e : l.take (i + 1) = l.take i ++ [l.getD i 0] := by
      rw [List.take_add_one, List.getD_eq_getElem?_getD, List.getElem?_eq_getElem (by omega)]
      rfl
    have hl : (l.take i).length = i := by rw [List.length_take]; omega
    unfold sufB
    rw [e, List.length_append, hl, Bool.and_eq_true, decide_eq_true_eq, decide_eq_true_eq]
    simp only [List.length_cons, List.length_nil, Nat.zero_add, Nat.add_sub_cancel]
    rw [List.drop_append_of_le_length (by omega), List.drop_eq_nil_of_le (by omega)]
    simp
    omega
theorem pre10 (l : List Lin.By) (i : Nat) (h : i < l.length) : preB (l.drop (i + 1)) [10] = true ↔ ¬ i + 1 = l.length ∧ l.getD (i + 1) 0 = 10 := by
  unfold preB
  by_cases hi : i + 1 = l.length
  · rw [List.drop_eq_nil_of_le (by omega)]
    simp [hi]
  · have hl : i + 1 < l.length := by omega
    rw [List.drop_eq_getElem_cons hl, List.getD_eq_getElem?_getD, List.getElem?_eq_getElem hl, Bool.and_eq_true, decide_eq_true_eq, decide_eq_true_eq]
    constructor
    · rintro ⟨_, h2⟩
      exact ⟨hi, List.head_eq_of_cons_eq h2⟩
    · rintro ⟨_, h2⟩
      have h2 : l[i + 1] = 10 := h2
      rw [h2]
      refine ⟨?_, rfl⟩
      simp only [List.length_cons, List.length_nil]
      omega
theorem b_eq (c : Lin.By) (k : Nat) (hk : k < 256) : (c.toNat : Int) = (k : Int) ↔ c = BitVec.ofNat 8 k := by
  constructor
  · intro h
    apply BitVec.eq_of_toNat_eq
    rw [BitVec.toNat_ofNat]
    omega
  · rintro rfl
    rw [BitVec.toNat_ofNat]
    omega
theorem whI_parts (l : List Lin.By) (i : Nat) (h : i < l.length) : whI l i = w1 l i ++ [l.getD i 0] ++ w2 l i := by
  have h1 := suf13 l i (by omega)
  have h2 := pre10 l i h
  have k10 := b_eq (l.getD i 0) 10 (by decide)
  have k13 := b_eq (l.getD i 0) 13 (by decide)
  unfold whI w1 w2
  generalize sufB (l.take i) [13] = a at h1
  generalize preB (l.drop (i + 1)) [10] = b at h2
  generalize l.getD (i - 1) 0 = p at h1 ⊢
  generalize l.getD (i + 1) 0 = q at h2 ⊢
  generalize l.getD i 0 = c at k10 k13 ⊢
  have k10 : (c.toNat : Int) = 10 ↔ c = 10 := k10
  have k13 : (c.toNat : Int) = 13 ↔ c = 13 := k13
  simp only [k10, k13]
  by_cases c10 : c = 10
  · subst c10
    have e : ¬ ((10 : Lin.By) = 13) := by decide
    cases a
    · have := mt h1.2 (by decide)
      rw [if_pos (Or.inl ⟨rfl, (Decidable.em (i = 0)).elim .inl fun h => .inr fun hp => this ⟨h, hp⟩⟩), if_pos ⟨rfl, rfl⟩, if_neg (fun h => e h.1)]
      rfl
    · have := h1.1 rfl
      rw [if_neg (fun h => h.elim (fun h => h.2.elim this.1 fun h => h this.2) fun h => e h.1), if_neg (fun h => by cases h.2), if_neg (fun h => e h.1)]
      rfl
  · by_cases c13 : c = 13
    · subst c13
      cases b
      · have := mt h2.2 (by decide)
        rw [if_pos (Or.inr ⟨rfl, (Decidable.em (i + 1 = l.length)).elim .inl fun h => .inr fun hp => this ⟨h, hp⟩⟩), if_neg (fun h => c10 h.1), if_pos ⟨rfl, rfl⟩]
        rfl
      · have := h2.1 rfl
        rw [if_neg (fun h => h.elim (fun h => c10 h.1) fun h => h.2.elim this.1 fun h => h this.2), if_neg (fun h => c10 h.1), if_neg (fun h => by cases h.2)]
        rfl
    · rw [if_neg (fun h => h.elim (fun h => c10 h.1) fun h => c13 h.1), if_neg (fun h => c10 h.1), if_neg (fun h => c13 h.1)]
      rfl
theorem w1_len (l : List Lin.By) (i : Nat) : (w1 l i).length ≤ 1 := by unfold w1; split <;> simp
theorem w2_len (l : List Lin.By) (i : Nat) : (w2 l i).length ≤ 1 := by unfold w2; split <;> simp
set_option maxHeartbeats 32000000 in
theorem awhole_own (s : Sl8) (w : World) (hs : s.ok w) (hl : s.l.length ≤ 1000000) : Calls Try.prog 12 [s.v].toArray w
    fun e w' => ∃ q : Nat × Nat, e = .returned (.slice (some ⟨q.1, 0, none⟩) (whB s.l).length q.2) ∧ Holds w [] [⟨q.1, Own 5 1 (whB s.l).length q.2 ((whB s.l).map U8), true⟩] w' := by
  rw [whB_is]
  have hcap := hs.len
  refine enter (n := 50) Try.func12 rfl rfl rfl (Holds.start w []) ?_
  repeat (first | refine JL.q (by first | (apply OQ.move; exact rfl) | (apply OQ.assign; exact rfl) | (apply OQ.len; exact rfl; exact rfl) | (apply OQ.addN; exact rfl; exact rfl; exact (by (try simp only []); omega)) | (apply OQ.lssN; exact rfl; exact rfl)) rfl ?_ | refine JC.seq ?_ | refine JC.region ?_ | refine JC.block ?_ | refine JC.skip ?_ | refine JC.exit ?_ | refine JL.nil ?_ | refine JE.next ?_ | refine JE.blk_normal ?_ | refine JE.then_exit ?_ | refine JE.blk_hit ?_ | refine JE.blk_miss rfl ?_ | refine JE.then_ret ?_ | refine JE.blk_ret ?_ | refine JC.label ?_ | refine JL.gon rfl rfl ?_ | refine JL.gskip rfl rfl rfl rfl ?_ | refine JL.gskipU rfl rfl rfl rfl ?_)
  refine JL.make0 (c := s.l.length + 2) Try.underlying22 u8e rfl rfl (by omega) rfl fun b0 _ => ?_
  repeat (first | refine JL.q (by first | (apply OQ.move; exact rfl) | (apply OQ.assign; exact rfl) | (apply OQ.len; exact rfl; exact rfl) | (apply OQ.addN; exact rfl; exact rfl; exact (by (try simp only []); omega)) | (apply OQ.lssN; exact rfl; exact rfl)) rfl ?_ | refine JC.seq ?_ | refine JC.region ?_ | refine JC.block ?_ | refine JC.skip ?_ | refine JC.exit ?_ | refine JL.nil ?_ | refine JE.next ?_ | refine JE.blk_normal ?_ | refine JE.then_exit ?_ | refine JE.blk_hit ?_ | refine JE.blk_miss rfl ?_ | refine JE.then_ret ?_ | refine JE.blk_ret ?_ | refine JC.label ?_ | refine JL.gon rfl rfl ?_ | refine JL.gskip rfl rfl rfl rfl ?_ | refine JL.gskipU rfl rfl rfl rfl ?_)
  refine JC.loop (fun q : Nat × Nat × Nat => [(0, s.v), (3, .slice (some ⟨q.2.1, 0, none⟩) ((List.range q.1).flatMap (whI s.l)).length q.2.2), (10, s.v), (11, N s.l.length), (12, N q.1)])
    (fun q => [⟨q.2.1, Own 5 1 ((List.range q.1).flatMap (whI s.l)).length q.2.2 (((List.range q.1).flatMap (whI s.l)).map U8), true⟩])
    (fun q => s.l.length - q.1) (fun q => q.1 ≤ s.l.length) (0, b0, s.l.length + 2) (by show 0 ≤ s.l.length; omega) (by repeat (first | exact SubE.nil | refine SubE.cons _ _ _ rfl ?_)) (Less.refl _) ?_
  rintro ⟨i, b, cap⟩ hi
  simp only at hi
  repeat (first | refine JL.q (by first | (apply OQ.move; exact rfl) | (apply OQ.assign; exact rfl) | (apply OQ.len; exact rfl; exact rfl) | (apply OQ.addN; exact rfl; exact rfl; exact (by (try simp only []); omega)) | (apply OQ.lssN; exact rfl; exact rfl)) rfl ?_ | refine JC.seq ?_ | refine JC.region ?_ | refine JC.block ?_ | refine JC.skip ?_ | refine JC.exit ?_ | refine JL.nil ?_ | refine JE.next ?_ | refine JE.blk_normal ?_ | refine JE.then_exit ?_ | refine JE.blk_hit ?_ | refine JE.blk_miss rfl ?_ | refine JE.then_ret ?_ | refine JE.blk_ret ?_ | refine JC.label ?_ | refine JL.gon rfl rfl ?_ | refine JL.gskip rfl rfl rfl rfl ?_ | refine JL.gskipU rfl rfl rfl rfl ?_)
  refine JC.cond rfl (fun h => ?_) (fun h => ?_)
  · have hi' : i < s.l.length := of_decide_eq_true h
    clear h
    have eT := wh_range s.l i
    have hTl := wh_rlen s.l i
    have hl1 := w1_len s.l i
    have hl2 := w2_len s.l i
    rw [whI_parts s.l i hi'] at eT
    obtain ⟨ba, ja, hae, hca⟩ := hs.reads.at (by simp; omega)
    have hc := hca i _ (map_at U8 0 hi')
    have hav : s.v = .slice (some ⟨ba, ja, none⟩) s.l.length s.cap := by rw [← hae]; rfl
    have ew1 : w1 s.l i = if ((s.l.getD i 0).toNat : Int) = 10 ∧ sufB (s.l.take i) [13] = false then [13] else [] := rfl
    have ew2 : w2 s.l i = if ((s.l.getD i 0).toNat : Int) = 13 ∧ preB (s.l.drop (i + 1)) [10] = false then [10] else [] := rfl
    generalize w1 s.l i = A1 at eT hl1 ew1
    generalize w2 s.l i = A2 at eT hl2 ew2
    generalize (List.range i).flatMap (whI s.l) = T at eT hTl ⊢
    generalize s.l.getD i 0 = c at hc eT ew1 ew2
    refine JC.skip (JE.next (JC.seq (JC.block (JC.seq (JC.region ?_)))))
    repeat (refine JL.q (by first | (apply OQ.idxS1; exact Try.underlying22; exact u8s; exact (congrArg some hav); exact rfl; exact hi') | (apply OQ.load_old; exact u8c; exact rfl; exact (block_lt_of_cell hc); exact (by simp); exact hc) | (apply OQ.move; exact rfl) | (apply OQ.assign; exact rfl) | (apply OQ.len; exact rfl; exact rfl) | (apply OQ.addN; exact rfl; exact rfl; exact (by (try simp only []); omega)) | (apply OQ.lssN; exact rfl; exact rfl)) rfl ?_)
    refine JL.nil (JE.next ?_)
    refine JC.mid (ι := Nat × Nat) (fun q => [(0, s.v), (3, .slice (some ⟨q.1, 0, none⟩) (T ++ A1).length q.2), (10, s.v), (11, N s.l.length), (12, N i), (4, N i), (5, U8 c)]) (fun q => [⟨q.1, Own 5 1 (T ++ A1).length q.2 ((T ++ A1).map U8), true⟩]) (fun _ => True) ?_ ?_
    · cases h10 : decide ((c.toNat : Int) = 10)
      · rw [if_neg (fun h => absurd h.1 (of_decide_eq_false h10))] at ew1
        subst ew1
        repeat (first | refine JL.q (by first | (apply OQ.eqB; exact rfl; exact rfl; exact h10) | (apply OQ.pick_f; exact rfl; exact rfl) | (apply OQ.move; exact rfl) | (apply OQ.assign; exact rfl) | (apply OQ.len; exact rfl; exact rfl) | (apply OQ.addN; exact rfl; exact rfl; exact (by (try simp only []); omega)) | (apply OQ.lssN; exact rfl; exact rfl)) rfl ?_ | refine JC.seq ?_ | refine JC.region ?_ | refine JC.block ?_ | refine JC.skip ?_ | refine JC.exit ?_ | refine JL.nil ?_ | refine JE.next ?_ | refine JE.blk_normal ?_ | refine JE.then_exit ?_ | refine JE.blk_hit ?_ | refine JE.blk_miss rfl ?_ | refine JE.then_ret ?_ | refine JE.blk_ret ?_ | refine JC.label ?_ | refine JL.gon rfl rfl ?_ | refine JL.gskip rfl rfl rfl rfl ?_ | refine JL.gskipU rfl rfl rfl rfl ?_)
        refine JC.cond_false rfl rfl ?_
        rw [List.append_nil]
        repeat (first | refine JL.q (by first | (apply OQ.move; exact rfl) | (apply OQ.assign; exact rfl) | (apply OQ.len; exact rfl; exact rfl) | (apply OQ.addN; exact rfl; exact rfl; exact (by (try simp only []); omega)) | (apply OQ.lssN; exact rfl; exact rfl)) rfl ?_ | refine JC.seq ?_ | refine JC.region ?_ | refine JC.block ?_ | refine JC.skip ?_ | refine JC.exit ?_ | refine JL.nil ?_ | refine JE.next ?_ | refine JE.blk_normal ?_ | refine JE.then_exit ?_ | refine JE.blk_hit ?_ | refine JE.blk_miss rfl ?_ | refine JE.then_ret ?_ | refine JE.blk_ret ?_ | refine JC.label ?_ | refine JL.gon rfl rfl ?_ | refine JL.gskip rfl rfl rfl rfl ?_ | refine JL.gskipU rfl rfl rfl rfl ?_)
        exact JE.mid (b, cap) trivial (by repeat (first | exact SubE.nil | refine SubE.cons _ _ _ rfl ?_)) (Less.refl _)
      · have h10' := of_decide_eq_true h10
        cases hsf : sufB (s.l.take i) [13]
        · rw [if_pos ⟨h10', hsf⟩] at ew1
          subst ew1
          repeat (first | refine JL.q (by first | (apply OQ.eqB; exact rfl; exact rfl; exact h10) | (apply OQ.fst (s := s); exact Try.underlying22; exact u8s; exact rfl; exact rfl; exact hi; exact hcap) | (apply OQ.move; exact rfl) | (apply OQ.assign; exact rfl) | (apply OQ.len; exact rfl; exact rfl) | (apply OQ.addN; exact rfl; exact rfl; exact (by (try simp only []); omega)) | (apply OQ.lssN; exact rfl; exact rfl)) rfl ?_ | refine JC.seq ?_ | refine JC.region ?_ | refine JC.block ?_ | refine JC.skip ?_ | refine JC.exit ?_ | refine JL.nil ?_ | refine JE.next ?_ | refine JE.blk_normal ?_ | refine JE.then_exit ?_ | refine JE.blk_hit ?_ | refine JE.blk_miss rfl ?_ | refine JE.then_ret ?_ | refine JE.blk_ret ?_ | refine JC.label ?_ | refine JL.gon rfl rfl ?_ | refine JL.gskip rfl rfl rfl rfl ?_ | refine JL.gskipU rfl rfl rfl rfl ?_)
          refine JL.lit1 (v := U8 13) Try.underlying22 u8e rfl rfl rfl rfl fun bl _ => ?_
          repeat (first | refine JL.q (by first | (apply OQ.callx (vs := [(s.fst i).v, Sl8.v ⟨some ⟨bl, 0, none⟩, 1, [13]⟩]); exact goes_suf; exact rfl; exact (fun w' hw' => hsf ▸ suf_any (s.fst i) ⟨some ⟨bl, 0, none⟩, 1, [13]⟩ w' ((hs.holds hw' rfl).fst _) (row_ok (l := [13]) hw' .here rfl (Nat.le_refl _)) (by show (s.l.take i).length ≤ _; rw [List.length_take]; omega))) | (apply OQ.not; exact rfl) | (apply OQ.pick_t; exact rfl; exact rfl) | (apply OQ.move; exact rfl) | (apply OQ.assign; exact rfl) | (apply OQ.len; exact rfl; exact rfl) | (apply OQ.addN; exact rfl; exact rfl; exact (by (try simp only []); omega)) | (apply OQ.lssN; exact rfl; exact rfl)) rfl ?_ | refine JC.seq ?_ | refine JC.region ?_ | refine JC.block ?_ | refine JC.skip ?_ | refine JC.exit ?_ | refine JL.nil ?_ | refine JE.next ?_ | refine JE.blk_normal ?_ | refine JE.then_exit ?_ | refine JE.blk_hit ?_ | refine JE.blk_miss rfl ?_ | refine JE.then_ret ?_ | refine JE.blk_ret ?_ | refine JC.label ?_ | refine JL.gon rfl rfl ?_ | refine JL.gskip rfl rfl rfl rfl ?_ | refine JL.gskipU rfl rfl rfl rfl ?_)
          refine JC.cond_true rfl rfl ?_
          repeat (first | refine JL.q (by first | (apply OQ.move; exact rfl) | (apply OQ.assign; exact rfl) | (apply OQ.len; exact rfl; exact rfl) | (apply OQ.addN; exact rfl; exact rfl; exact (by (try simp only []); omega)) | (apply OQ.lssN; exact rfl; exact rfl)) rfl ?_ | refine JC.seq ?_ | refine JC.region ?_ | refine JC.block ?_ | refine JC.skip ?_ | refine JC.exit ?_ | refine JL.nil ?_ | refine JE.next ?_ | refine JE.blk_normal ?_ | refine JE.then_exit ?_ | refine JE.blk_hit ?_ | refine JE.blk_miss rfl ?_ | refine JE.then_ret ?_ | refine JE.blk_ret ?_ | refine JC.label ?_ | refine JL.gon rfl rfl ?_ | refine JL.gskip rfl rfl rfl rfl ?_ | refine JL.gskipU rfl rfl rfl rfl ?_)
          refine JL.push1 (v := U8 13) (xs := T.map U8) (k := T.length) (fun b' cap' => [⟨bl, Row 5 [U8 13], true⟩, ⟨b', Own 5 1 (T.length + 1) cap' (T.map U8 ++ [U8 13]), true⟩]) Try.underlying22 u8e rfl rfl rfl rfl (fun _ => rfl) (by intro _ _; repeat (first | exact Repl.here | apply Repl.there)) (by omega) (by omega) rfl rfl fun bl b1 cap1 => ?_
          repeat (first | refine JL.q (by first | (apply OQ.move; exact rfl) | (apply OQ.assign; exact rfl) | (apply OQ.len; exact rfl; exact rfl) | (apply OQ.addN; exact rfl; exact rfl; exact (by (try simp only []); omega)) | (apply OQ.lssN; exact rfl; exact rfl)) rfl ?_ | refine JC.seq ?_ | refine JC.region ?_ | refine JC.block ?_ | refine JC.skip ?_ | refine JC.exit ?_ | refine JL.nil ?_ | refine JE.next ?_ | refine JE.blk_normal ?_ | refine JE.then_exit ?_ | refine JE.blk_hit ?_ | refine JE.blk_miss rfl ?_ | refine JE.then_ret ?_ | refine JE.blk_ret ?_ | refine JC.label ?_ | refine JL.gon rfl rfl ?_ | refine JL.gskip rfl rfl rfl rfl ?_ | refine JL.gskipU rfl rfl rfl rfl ?_)
          refine JE.mid (b1, cap1) trivial ?_ (.drop _ _ _ (.keep _ _ _ _ _ _ (fun o h => ?_) (.nil _)))
          · rw [List.length_append]
            exact (by repeat (first | exact SubE.nil | refine SubE.cons _ _ _ rfl ?_))
          · dsimp only
            rw [List.length_append, List.map_append]
            exact h
        · rw [if_neg (fun h => by rw [hsf] at h; cases h.2)] at ew1
          subst ew1
          repeat (first | refine JL.q (by first | (apply OQ.eqB; exact rfl; exact rfl; exact h10) | (apply OQ.fst (s := s); exact Try.underlying22; exact u8s; exact rfl; exact rfl; exact hi; exact hcap) | (apply OQ.move; exact rfl) | (apply OQ.assign; exact rfl) | (apply OQ.len; exact rfl; exact rfl) | (apply OQ.addN; exact rfl; exact rfl; exact (by (try simp only []); omega)) | (apply OQ.lssN; exact rfl; exact rfl)) rfl ?_ | refine JC.seq ?_ | refine JC.region ?_ | refine JC.block ?_ | refine JC.skip ?_ | refine JC.exit ?_ | refine JL.nil ?_ | refine JE.next ?_ | refine JE.blk_normal ?_ | refine JE.then_exit ?_ | refine JE.blk_hit ?_ | refine JE.blk_miss rfl ?_ | refine JE.then_ret ?_ | refine JE.blk_ret ?_ | refine JC.label ?_ | refine JL.gon rfl rfl ?_ | refine JL.gskip rfl rfl rfl rfl ?_ | refine JL.gskipU rfl rfl rfl rfl ?_)
          refine JL.lit1 (v := U8 13) Try.underlying22 u8e rfl rfl rfl rfl fun bl _ => ?_
          repeat (first | refine JL.q (by first | (apply OQ.callx (vs := [(s.fst i).v, Sl8.v ⟨some ⟨bl, 0, none⟩, 1, [13]⟩]); exact goes_suf; exact rfl; exact (fun w' hw' => hsf ▸ suf_any (s.fst i) ⟨some ⟨bl, 0, none⟩, 1, [13]⟩ w' ((hs.holds hw' rfl).fst _) (row_ok (l := [13]) hw' .here rfl (Nat.le_refl _)) (by show (s.l.take i).length ≤ _; rw [List.length_take]; omega))) | (apply OQ.not; exact rfl) | (apply OQ.pick_t; exact rfl; exact rfl) | (apply OQ.move; exact rfl) | (apply OQ.assign; exact rfl) | (apply OQ.len; exact rfl; exact rfl) | (apply OQ.addN; exact rfl; exact rfl; exact (by (try simp only []); omega)) | (apply OQ.lssN; exact rfl; exact rfl)) rfl ?_ | refine JC.seq ?_ | refine JC.region ?_ | refine JC.block ?_ | refine JC.skip ?_ | refine JC.exit ?_ | refine JL.nil ?_ | refine JE.next ?_ | refine JE.blk_normal ?_ | refine JE.then_exit ?_ | refine JE.blk_hit ?_ | refine JE.blk_miss rfl ?_ | refine JE.then_ret ?_ | refine JE.blk_ret ?_ | refine JC.label ?_ | refine JL.gon rfl rfl ?_ | refine JL.gskip rfl rfl rfl rfl ?_ | refine JL.gskipU rfl rfl rfl rfl ?_)
          refine JC.cond_false rfl rfl ?_
          rw [List.append_nil]
          repeat (first | refine JL.q (by first | (apply OQ.move; exact rfl) | (apply OQ.assign; exact rfl) | (apply OQ.len; exact rfl; exact rfl) | (apply OQ.addN; exact rfl; exact rfl; exact (by (try simp only []); omega)) | (apply OQ.lssN; exact rfl; exact rfl)) rfl ?_ | refine JC.seq ?_ | refine JC.region ?_ | refine JC.block ?_ | refine JC.skip ?_ | refine JC.exit ?_ | refine JL.nil ?_ | refine JE.next ?_ | refine JE.blk_normal ?_ | refine JE.then_exit ?_ | refine JE.blk_hit ?_ | refine JE.blk_miss rfl ?_ | refine JE.then_ret ?_ | refine JE.blk_ret ?_ | refine JC.label ?_ | refine JL.gon rfl rfl ?_ | refine JL.gskip rfl rfl rfl rfl ?_ | refine JL.gskipU rfl rfl rfl rfl ?_)
          exact JE.mid (b, cap) trivial (by repeat (first | exact SubE.nil | refine SubE.cons _ _ _ rfl ?_)) (.drop _ _ _ (Less.refl _))
    rintro ⟨b1, cap1⟩ _
    dsimp only
    have hA : (T ++ A1).length ≤ 2 * i + 1 := by rw [List.length_append]; omega
    rw [← List.append_assoc, ← List.append_assoc] at eT
    generalize T ++ A1 = T1 at eT hA ⊢
    repeat (first | refine JL.q (by first | (apply OQ.move; exact rfl) | (apply OQ.assign; exact rfl) | (apply OQ.len; exact rfl; exact rfl) | (apply OQ.addN; exact rfl; exact rfl; exact (by (try simp only []); omega)) | (apply OQ.lssN; exact rfl; exact rfl)) rfl ?_ | refine JC.seq ?_ | refine JC.region ?_ | refine JC.block ?_ | refine JC.skip ?_ | refine JC.exit ?_ | refine JL.nil ?_ | refine JE.next ?_ | refine JE.blk_normal ?_ | refine JE.then_exit ?_ | refine JE.blk_hit ?_ | refine JE.blk_miss rfl ?_ | refine JE.then_ret ?_ | refine JE.blk_ret ?_ | refine JC.label ?_ | refine JL.gon rfl rfl ?_ | refine JL.gskip rfl rfl rfl rfl ?_ | refine JL.gskipU rfl rfl rfl rfl ?_)
    refine JL.push1 (v := U8 c) (xs := T1.map U8) (fun b' cap' => [⟨b', Own 5 1 (T1.length + 1) cap' (T1.map U8 ++ [U8 c]), true⟩]) Try.underlying22 u8e rfl rfl rfl rfl (fun _ => rfl) (by intro _ _; repeat (first | exact Repl.here | apply Repl.there)) (by omega) (by omega) rfl rfl fun bl b2 cap2 => ?_
    have hi1 : i + 1 ≤ s.l.length := hi'
    cases h13 : decide ((c.toNat : Int) = 13)
    · rw [if_neg (fun h => absurd h.1 (of_decide_eq_false h13))] at ew2
      subst ew2
      repeat (first | refine JL.q (by first | (apply OQ.eqB; exact rfl; exact rfl; exact h13) | (apply OQ.pick_f; exact rfl; exact rfl) | (apply OQ.move; exact rfl) | (apply OQ.assign; exact rfl) | (apply OQ.len; exact rfl; exact rfl) | (apply OQ.addN; exact rfl; exact rfl; exact (by (try simp only []); omega)) | (apply OQ.lssN; exact rfl; exact rfl)) rfl ?_ | refine JC.seq ?_ | refine JC.region ?_ | refine JC.block ?_ | refine JC.skip ?_ | refine JC.exit ?_ | refine JL.nil ?_ | refine JE.next ?_ | refine JE.blk_normal ?_ | refine JE.then_exit ?_ | refine JE.blk_hit ?_ | refine JE.blk_miss rfl ?_ | refine JE.then_ret ?_ | refine JE.blk_ret ?_ | refine JC.label ?_ | refine JL.gon rfl rfl ?_ | refine JL.gskip rfl rfl rfl rfl ?_ | refine JL.gskipU rfl rfl rfl rfl ?_)
      refine JC.cond_false rfl rfl ?_
      repeat (first | refine JL.q (by first | (apply OQ.move; exact rfl) | (apply OQ.assign; exact rfl) | (apply OQ.len; exact rfl; exact rfl) | (apply OQ.addN; exact rfl; exact rfl; exact (by (try simp only []); omega)) | (apply OQ.lssN; exact rfl; exact rfl)) rfl ?_ | refine JC.seq ?_ | refine JC.region ?_ | refine JC.block ?_ | refine JC.skip ?_ | refine JC.exit ?_ | refine JL.nil ?_ | refine JE.next ?_ | refine JE.blk_normal ?_ | refine JE.then_exit ?_ | refine JE.blk_hit ?_ | refine JE.blk_miss rfl ?_ | refine JE.then_ret ?_ | refine JE.blk_ret ?_ | refine JC.label ?_ | refine JL.gon rfl rfl ?_ | refine JL.gskip rfl rfl rfl rfl ?_ | refine JL.gskipU rfl rfl rfl rfl ?_)
      refine JE.again (i := (i, b, cap)) (i + 1, b2, cap2) hi1 (by show s.l.length - (i + 1) < s.l.length - i; omega) ?_ (.keep _ _ _ _ _ _ (fun o h => ?_) (.nil _))
      · dsimp only
        rw [eT, List.append_nil, List.length_append]
        exact (by repeat (first | exact SubE.nil | refine SubE.cons _ _ _ rfl ?_))
      · dsimp only
        rw [eT, List.append_nil, List.length_append, List.map_append]
        exact h
    · have h13' := of_decide_eq_true h13
      cases hpf : preB (s.l.drop (i + 1)) [10]
      · rw [if_pos ⟨h13', hpf⟩] at ew2
        subst ew2
        repeat (first | refine JL.q (by first | (apply OQ.eqB; exact rfl; exact rfl; exact h13) | (apply OQ.snd (s := s); exact Try.underlying22; exact u8s; exact rfl; exact rfl; exact hi1) | (apply OQ.move; exact rfl) | (apply OQ.assign; exact rfl) | (apply OQ.len; exact rfl; exact rfl) | (apply OQ.addN; exact rfl; exact rfl; exact (by (try simp only []); omega)) | (apply OQ.lssN; exact rfl; exact rfl)) rfl ?_ | refine JC.seq ?_ | refine JC.region ?_ | refine JC.block ?_ | refine JC.skip ?_ | refine JC.exit ?_ | refine JL.nil ?_ | refine JE.next ?_ | refine JE.blk_normal ?_ | refine JE.then_exit ?_ | refine JE.blk_hit ?_ | refine JE.blk_miss rfl ?_ | refine JE.then_ret ?_ | refine JE.blk_ret ?_ | refine JC.label ?_ | refine JL.gon rfl rfl ?_ | refine JL.gskip rfl rfl rfl rfl ?_ | refine JL.gskipU rfl rfl rfl rfl ?_)
        refine JL.lit1 (v := U8 10) Try.underlying22 u8e rfl rfl rfl rfl fun bl _ => ?_
        repeat (first | refine JL.q (by first | (apply OQ.callx (vs := [(s.snd (i + 1)).v, Sl8.v ⟨some ⟨bl, 0, none⟩, 1, [10]⟩]); exact goes_pre; exact rfl; exact (fun w' hw' => hpf ▸ pre_any (s.snd (i + 1)) ⟨some ⟨bl, 0, none⟩, 1, [10]⟩ w' ((hs.holds hw' rfl).snd _ hi1) (row_ok (l := [10]) hw' .here rfl (Nat.le_refl _)))) | (apply OQ.not; exact rfl) | (apply OQ.pick_t; exact rfl; exact rfl) | (apply OQ.move; exact rfl) | (apply OQ.assign; exact rfl) | (apply OQ.len; exact rfl; exact rfl) | (apply OQ.addN; exact rfl; exact rfl; exact (by (try simp only []); omega)) | (apply OQ.lssN; exact rfl; exact rfl)) rfl ?_ | refine JC.seq ?_ | refine JC.region ?_ | refine JC.block ?_ | refine JC.skip ?_ | refine JC.exit ?_ | refine JL.nil ?_ | refine JE.next ?_ | refine JE.blk_normal ?_ | refine JE.then_exit ?_ | refine JE.blk_hit ?_ | refine JE.blk_miss rfl ?_ | refine JE.then_ret ?_ | refine JE.blk_ret ?_ | refine JC.label ?_ | refine JL.gon rfl rfl ?_ | refine JL.gskip rfl rfl rfl rfl ?_ | refine JL.gskipU rfl rfl rfl rfl ?_)
        refine JC.cond_true rfl rfl ?_
        repeat (first | refine JL.q (by first | (apply OQ.move; exact rfl) | (apply OQ.assign; exact rfl) | (apply OQ.len; exact rfl; exact rfl) | (apply OQ.addN; exact rfl; exact rfl; exact (by (try simp only []); omega)) | (apply OQ.lssN; exact rfl; exact rfl)) rfl ?_ | refine JC.seq ?_ | refine JC.region ?_ | refine JC.block ?_ | refine JC.skip ?_ | refine JC.exit ?_ | refine JL.nil ?_ | refine JE.next ?_ | refine JE.blk_normal ?_ | refine JE.then_exit ?_ | refine JE.blk_hit ?_ | refine JE.blk_miss rfl ?_ | refine JE.then_ret ?_ | refine JE.blk_ret ?_ | refine JC.label ?_ | refine JL.gon rfl rfl ?_ | refine JL.gskip rfl rfl rfl rfl ?_ | refine JL.gskipU rfl rfl rfl rfl ?_)
        refine JL.push1 (v := U8 10) (xs := T1.map U8 ++ [U8 c]) (k := T1.length + 1) (fun b' cap' => [⟨bl, Row 5 [U8 10], true⟩, ⟨b', Own 5 1 (T1.length + 1 + 1) cap' ((T1.map U8 ++ [U8 c]) ++ [U8 10]), true⟩]) Try.underlying22 u8e rfl rfl rfl rfl (fun _ => rfl) (by intro _ _; repeat (first | exact Repl.here | apply Repl.there)) (by omega) (by omega) rfl rfl fun bl b3 cap3 => ?_
        repeat (first | refine JL.q (by first | (apply OQ.move; exact rfl) | (apply OQ.assign; exact rfl) | (apply OQ.len; exact rfl; exact rfl) | (apply OQ.addN; exact rfl; exact rfl; exact (by (try simp only []); omega)) | (apply OQ.lssN; exact rfl; exact rfl)) rfl ?_ | refine JC.seq ?_ | refine JC.region ?_ | refine JC.block ?_ | refine JC.skip ?_ | refine JC.exit ?_ | refine JL.nil ?_ | refine JE.next ?_ | refine JE.blk_normal ?_ | refine JE.then_exit ?_ | refine JE.blk_hit ?_ | refine JE.blk_miss rfl ?_ | refine JE.then_ret ?_ | refine JE.blk_ret ?_ | refine JC.label ?_ | refine JL.gon rfl rfl ?_ | refine JL.gskip rfl rfl rfl rfl ?_ | refine JL.gskipU rfl rfl rfl rfl ?_)
        refine JE.again (i := (i, b, cap)) (i + 1, b3, cap3) hi1 (by show s.l.length - (i + 1) < s.l.length - i; omega) ?_ (.drop _ _ _ (.keep _ _ _ _ _ _ (fun o h => ?_) (.nil _)))
        · dsimp only
          rw [eT, List.length_append, List.length_append]
          exact (by repeat (first | exact SubE.nil | refine SubE.cons _ _ _ rfl ?_))
        · dsimp only
          rw [eT, List.length_append, List.length_append, List.map_append, List.map_append]
          exact h
      · rw [if_neg (fun h => by rw [hpf] at h; cases h.2)] at ew2
        subst ew2
        repeat (first | refine JL.q (by first | (apply OQ.eqB; exact rfl; exact rfl; exact h13) | (apply OQ.snd (s := s); exact Try.underlying22; exact u8s; exact rfl; exact rfl; exact hi1) | (apply OQ.move; exact rfl) | (apply OQ.assign; exact rfl) | (apply OQ.len; exact rfl; exact rfl) | (apply OQ.addN; exact rfl; exact rfl; exact (by (try simp only []); omega)) | (apply OQ.lssN; exact rfl; exact rfl)) rfl ?_ | refine JC.seq ?_ | refine JC.region ?_ | refine JC.block ?_ | refine JC.skip ?_ | refine JC.exit ?_ | refine JL.nil ?_ | refine JE.next ?_ | refine JE.blk_normal ?_ | refine JE.then_exit ?_ | refine JE.blk_hit ?_ | refine JE.blk_miss rfl ?_ | refine JE.then_ret ?_ | refine JE.blk_ret ?_ | refine JC.label ?_ | refine JL.gon rfl rfl ?_ | refine JL.gskip rfl rfl rfl rfl ?_ | refine JL.gskipU rfl rfl rfl rfl ?_)
        refine JL.lit1 (v := U8 10) Try.underlying22 u8e rfl rfl rfl rfl fun bl _ => ?_
        repeat (first | refine JL.q (by first | (apply OQ.callx (vs := [(s.snd (i + 1)).v, Sl8.v ⟨some ⟨bl, 0, none⟩, 1, [10]⟩]); exact goes_pre; exact rfl; exact (fun w' hw' => hpf ▸ pre_any (s.snd (i + 1)) ⟨some ⟨bl, 0, none⟩, 1, [10]⟩ w' ((hs.holds hw' rfl).snd _ hi1) (row_ok (l := [10]) hw' .here rfl (Nat.le_refl _)))) | (apply OQ.not; exact rfl) | (apply OQ.pick_t; exact rfl; exact rfl) | (apply OQ.move; exact rfl) | (apply OQ.assign; exact rfl) | (apply OQ.len; exact rfl; exact rfl) | (apply OQ.addN; exact rfl; exact rfl; exact (by (try simp only []); omega)) | (apply OQ.lssN; exact rfl; exact rfl)) rfl ?_ | refine JC.seq ?_ | refine JC.region ?_ | refine JC.block ?_ | refine JC.skip ?_ | refine JC.exit ?_ | refine JL.nil ?_ | refine JE.next ?_ | refine JE.blk_normal ?_ | refine JE.then_exit ?_ | refine JE.blk_hit ?_ | refine JE.blk_miss rfl ?_ | refine JE.then_ret ?_ | refine JE.blk_ret ?_ | refine JC.label ?_ | refine JL.gon rfl rfl ?_ | refine JL.gskip rfl rfl rfl rfl ?_ | refine JL.gskipU rfl rfl rfl rfl ?_)
        refine JC.cond_false rfl rfl ?_
        repeat (first | refine JL.q (by first | (apply OQ.move; exact rfl) | (apply OQ.assign; exact rfl) | (apply OQ.len; exact rfl; exact rfl) | (apply OQ.addN; exact rfl; exact rfl; exact (by (try simp only []); omega)) | (apply OQ.lssN; exact rfl; exact rfl)) rfl ?_ | refine JC.seq ?_ | refine JC.region ?_ | refine JC.block ?_ | refine JC.skip ?_ | refine JC.exit ?_ | refine JL.nil ?_ | refine JE.next ?_ | refine JE.blk_normal ?_ | refine JE.then_exit ?_ | refine JE.blk_hit ?_ | refine JE.blk_miss rfl ?_ | refine JE.then_ret ?_ | refine JE.blk_ret ?_ | refine JC.label ?_ | refine JL.gon rfl rfl ?_ | refine JL.gskip rfl rfl rfl rfl ?_ | refine JL.gskipU rfl rfl rfl rfl ?_)
        refine JE.again (i := (i, b, cap)) (i + 1, b2, cap2) hi1 (by show s.l.length - (i + 1) < s.l.length - i; omega) ?_ (.drop _ _ _ (.keep _ _ _ _ _ _ (fun o h => ?_) (.nil _)))
        · dsimp only
          rw [eT, List.append_nil, List.length_append]
          exact (by repeat (first | exact SubE.nil | refine SubE.cons _ _ _ rfl ?_))
        · dsimp only
          rw [eT, List.append_nil, List.length_append, List.map_append]
          exact h
  · have hi' : ¬ i < s.l.length := of_decide_eq_false h
    obtain rfl : i = s.l.length := by omega
    clear h
    repeat (first | refine JL.q (by first | (apply OQ.move; exact rfl) | (apply OQ.assign; exact rfl) | (apply OQ.len; exact rfl; exact rfl) | (apply OQ.addN; exact rfl; exact rfl; exact (by (try simp only []); omega)) | (apply OQ.lssN; exact rfl; exact rfl)) rfl ?_ | refine JC.seq ?_ | refine JC.region ?_ | refine JC.block ?_ | refine JC.skip ?_ | refine JC.exit ?_ | refine JL.nil ?_ | refine JE.next ?_ | refine JE.blk_normal ?_ | refine JE.then_exit ?_ | refine JE.blk_hit ?_ | refine JE.blk_miss rfl ?_ | refine JE.then_ret ?_ | refine JE.blk_ret ?_ | refine JC.label ?_ | refine JL.gon rfl rfl ?_ | refine JL.gskip rfl rfl rfl rfl ?_ | refine JL.gskipU rfl rfl rfl rfl ?_)
    refine JC.ret (JE.ret1 rfl (RV.tmp rfl) ?_)
    exact fun w' hw => ⟨(b, cap), rfl, hw⟩
theorem awhole_any (s : Sl8) (w : World) (hs : s.ok w) (hl : s.l.length ≤ 1000000) : Calls Try.prog 12 [s.v].toArray w (Gives (whB s.l) w) :=
  (awhole_own s w hs hl).mono fun e w' ⟨q, h1, h2⟩ => ⟨⟨some ⟨q.1, 0, none⟩, q.2, whB s.l⟩, h1, h2.chg, rfl, ownb_ok h2 .here⟩
end Go.Proofs.Ytnopllkpfdgkkaa
