/-
  Of no statement by itself: what the reference's Laid (layer 8) gives.
  Conditions: each theorem's own.
-/
import Derived.Test.YtnopllkpfdgkkaaLinW
namespace Go.Proofs.Ytnopllkpfdgkkaa
open Sl Lin
theorem goes_rlaid : Goes Try.prog 20 := ⟨_, Try.func20, rfl, by kernel_rfl⟩
def shut (w : List Lin.By) : Prop := w = [] ∨ (2 ≤ w.length ∧ w.getD (w.length - 1) 0 = 10 ∧ w.getD (w.length - 2) 0 = 13)
instance (w : List Lin.By) : Decidable (shut w) := by unfold shut; infer_instance
theorem last_is (w : List Lin.By) (c : Lin.By) : w.getLast? = some c ↔ 1 ≤ w.length ∧ w.getD (w.length - 1) 0 = c := by
  rw [List.getLast?_eq_getElem?, List.getD_eq_getElem?_getD]
  by_cases h : 1 ≤ w.length
  · rw [List.getElem?_eq_getElem (by omega : w.length - 1 < w.length)]
    simp [h]
  · rw [List.getElem?_eq_none (by omega)]
    simp [h]
theorem last2_is (w : List Lin.By) (c : Lin.By) : w.dropLast.getLast? = some c ↔ 2 ≤ w.length ∧ w.getD (w.length - 2) 0 = c := by
  rw [last_is, List.length_dropLast]
  rw [List.getD_eq_getElem?_getD, List.getD_eq_getElem?_getD, List.getElem?_dropLast]
  by_cases h2 : 2 ≤ w.length
  · rw [if_pos (by omega), show w.length - 1 - 1 = w.length - 2 from rfl]
    simp [h2]
    omega
  · exact ⟨fun h => absurd h.1 (by omega), fun h => absurd h.1 h2⟩
theorem laidB_is (b : List Lin.By) : laidB b = if shut (whB b) then whB b else whB b ++ [13, 10] := by
  unfold laidB shut
  simp only [last2_is]
  simp only [last_is]
  congr 1
  apply propext
  constructor
  · rintro (h | ⟨⟨h1, h2⟩, h3, h4⟩)
    · exact .inl h
    · exact .inr ⟨h3, h2, h4⟩
  · rintro (h | ⟨h1, h2, h3⟩)
    · exact .inl h
    · exact .inr ⟨⟨by omega, h2⟩, h1, h3⟩
theorem laidB_len (b : List Lin.By) : (laidB b).length ≤ 2 * b.length + 2 := by
  have := (wh_len b 0).2
  have e : (whB b).length = (wh 0 b).length := rfl
  rw [laidB_is]
  split
  · omega
  · rw [List.length_append]; simp only [List.length_cons, List.length_nil]; omega
set_option maxHeartbeats 32000000 in
theorem rlaid_any (s : Sl8) (w : World) (hs : s.ok w) (hl : s.l.length ≤ 1000000) : Calls Try.prog 20 [s.v].toArray w
    fun e w' => ∃ q : Nat × Nat, e = .returned (.slice (some ⟨q.1, 0, none⟩) (laidB s.l).length q.2) ∧ Holds w [] [⟨q.1, Own 5 1 (laidB s.l).length q.2 ((laidB s.l).map U8), true⟩] w' := by
  have hWl : (whB s.l).length ≤ 2 * s.l.length := (wh_len s.l 0).2
  have eL0 := laidB_is s.l
  refine enter (n := 36) Try.func20 rfl rfl rfl (Holds.start w []) ?_
  repeat (first | refine JL.q (by first | (apply OQ.move; exact rfl) | (apply OQ.assign; exact rfl) | (apply OQ.len; exact rfl; exact rfl) | (apply OQ.addN; exact rfl; exact rfl; exact (by (try simp only []); omega)) | (apply OQ.subN; exact rfl; exact rfl; exact (by (try simp only []); omega); exact (by (try simp only []); omega))) rfl ?_ | refine JC.seq ?_ | refine JC.region ?_ | refine JC.block ?_ | refine JC.skip ?_ | refine JC.exit ?_ | refine JL.nil ?_ | refine JE.next ?_ | refine JE.blk_normal ?_ | refine JE.then_exit ?_ | refine JE.blk_hit ?_ | refine JE.blk_miss rfl ?_ | refine JE.then_ret ?_ | refine JE.blk_ret ?_ | refine JC.label ?_ | refine JL.gon rfl rfl ?_ | refine JL.gskip rfl rfl rfl rfl ?_ | refine JL.gskipU rfl rfl rfl rfl ?_)
  refine JL.callg (ι := Nat × Nat) (fun q => .slice (some ⟨q.1, 0, none⟩) (whB s.l).length q.2) (fun q => [⟨q.1, Own 5 1 (whB s.l).length q.2 ((whB s.l).map U8), true⟩]) goes_rwhole rfl rfl (fun q e he => by rw [List.mem_singleton.1 he]) (fun w' hw' => (rwhole_any s w' (hs.holds hw' rfl) hl).mono fun e w2 ⟨q, h1, h2⟩ => ⟨q, h1, h2⟩) ?_
  rintro ⟨b, cap⟩
  generalize whB s.l = W at hWl eL0 ⊢
  dsimp only
  by_cases h0 : 0 < W.length
  · have h1 : W.length - 1 < W.length := by omega
    have c1 : (W.map U8)[0 + (W.length - 1)]? = some (U8 (W.getD (W.length - 1) 0)) := by rw [Nat.zero_add]; exact map_at U8 0 h1
    by_cases e1 : W.getD (W.length - 1) 0 = 10
    · by_cases hl2 : W.length < 2
      · have eL : laidB s.l = W ++ [13, 10] := by rw [eL0, if_neg (fun e => e.elim (fun e => by rw [e] at h0; cases h0) (fun e => by omega))]
        rw [e1] at c1
        repeat (first | refine JL.q (by first | (apply OQ.gtrN_t; exact rfl; exact rfl; exact h0) | (apply OQ.idxS1; exact Try.underlying22; exact u8s; exact rfl; exact rfl; exact h1) | (apply OQ.load; exact u8c; exact rfl; exact .here; exact (Own.cell c1)) | (apply OQ.nei_f; exact rfl; exact rfl; exact rfl) | (apply OQ.lssN_t; exact rfl; exact rfl; exact hl2) | (apply OQ.pick_t; exact rfl; exact rfl) | (apply OQ.pick_f; exact rfl; exact rfl) | (apply OQ.move; exact rfl) | (apply OQ.assign; exact rfl) | (apply OQ.len; exact rfl; exact rfl) | (apply OQ.addN; exact rfl; exact rfl; exact (by (try simp only []); omega)) | (apply OQ.subN; exact rfl; exact rfl; exact (by (try simp only []); omega); exact (by (try simp only []); omega))) rfl ?_ | refine JC.seq ?_ | refine JC.region ?_ | refine JC.block ?_ | refine JC.skip ?_ | refine JC.exit ?_ | refine JL.nil ?_ | refine JE.next ?_ | refine JE.blk_normal ?_ | refine JE.then_exit ?_ | refine JE.blk_hit ?_ | refine JE.blk_miss rfl ?_ | refine JE.then_ret ?_ | refine JE.blk_ret ?_ | refine JC.label ?_ | refine JL.gon rfl rfl ?_ | refine JL.gskip rfl rfl rfl rfl ?_ | refine JL.gskipU rfl rfl rfl rfl ?_)
        refine JC.cond_true rfl rfl ?_
        repeat (first | refine JL.q (by first | (apply OQ.move; exact rfl) | (apply OQ.assign; exact rfl) | (apply OQ.len; exact rfl; exact rfl) | (apply OQ.addN; exact rfl; exact rfl; exact (by (try simp only []); omega)) | (apply OQ.subN; exact rfl; exact rfl; exact (by (try simp only []); omega); exact (by (try simp only []); omega))) rfl ?_ | refine JC.seq ?_ | refine JC.region ?_ | refine JC.block ?_ | refine JC.skip ?_ | refine JC.exit ?_ | refine JL.nil ?_ | refine JE.next ?_ | refine JE.blk_normal ?_ | refine JE.then_exit ?_ | refine JE.blk_hit ?_ | refine JE.blk_miss rfl ?_ | refine JE.then_ret ?_ | refine JE.blk_ret ?_ | refine JC.label ?_ | refine JL.gon rfl rfl ?_ | refine JL.gskip rfl rfl rfl rfl ?_ | refine JL.gskipU rfl rfl rfl rfl ?_)
        refine JL.push2 (v1 := U8 13) (v2 := U8 10) (xs := W.map U8) (fun b' cap' => [⟨b', Own 5 1 (W.length + 2) cap' (W.map U8 ++ [U8 13, U8 10]), true⟩]) Try.underlying22 u8e rfl rfl rfl rfl rfl rfl rfl (fun _ => rfl) (by intro _ _; repeat (first | exact Repl.here | apply Repl.there)) (by omega) (by omega) rfl rfl fun bl b1 cap1 => ?_
        repeat (first | refine JL.q (by first | (apply OQ.move; exact rfl) | (apply OQ.assign; exact rfl) | (apply OQ.len; exact rfl; exact rfl) | (apply OQ.addN; exact rfl; exact rfl; exact (by (try simp only []); omega)) | (apply OQ.subN; exact rfl; exact rfl; exact (by (try simp only []); omega); exact (by (try simp only []); omega))) rfl ?_ | refine JC.seq ?_ | refine JC.region ?_ | refine JC.block ?_ | refine JC.skip ?_ | refine JC.exit ?_ | refine JL.nil ?_ | refine JE.next ?_ | refine JE.blk_normal ?_ | refine JE.then_exit ?_ | refine JE.blk_hit ?_ | refine JE.blk_miss rfl ?_ | refine JE.then_ret ?_ | refine JE.blk_ret ?_ | refine JC.label ?_ | refine JL.gon rfl rfl ?_ | refine JL.gskip rfl rfl rfl rfl ?_ | refine JL.gskipU rfl rfl rfl rfl ?_)
        refine JC.ret (JE.ret1 rfl (RV.tmp rfl) ?_)
        rw [eL, List.map_append, List.length_append]
        exact fun w' hw => ⟨(b1, cap1), rfl, hw⟩
      have h2 : W.length - 2 < W.length := by omega
      have c2 : (W.map U8)[0 + (W.length - 2)]? = some (U8 (W.getD (W.length - 2) 0)) := by rw [Nat.zero_add]; exact map_at U8 0 h2
      by_cases e2 : W.getD (W.length - 2) 0 = 13
      · have eL : laidB s.l = W := by rw [eL0, if_pos (show shut W from Or.inr ⟨by omega, e1, e2⟩)]
        rw [e1] at c1
        rw [e2] at c2
        repeat (first | refine JL.q (by first | (apply OQ.gtrN_t; exact rfl; exact rfl; exact h0) | (apply OQ.idxS1; exact Try.underlying22; exact u8s; exact rfl; exact rfl; exact h1) | (apply OQ.load; exact u8c; exact rfl; exact .here; exact (Own.cell c1)) | (apply OQ.nei_f; exact rfl; exact rfl; exact rfl) | (apply OQ.lssN_f; exact rfl; exact rfl; exact hl2) | (apply OQ.idxS1; exact Try.underlying22; exact u8s; exact rfl; exact rfl; exact h2) | (apply OQ.load; exact u8c; exact rfl; exact .here; exact (Own.cell c2)) | (apply OQ.pick_t; exact rfl; exact rfl) | (apply OQ.pick_f; exact rfl; exact rfl) | (apply OQ.move; exact rfl) | (apply OQ.assign; exact rfl) | (apply OQ.len; exact rfl; exact rfl) | (apply OQ.addN; exact rfl; exact rfl; exact (by (try simp only []); omega)) | (apply OQ.subN; exact rfl; exact rfl; exact (by (try simp only []); omega); exact (by (try simp only []); omega))) rfl ?_ | refine JC.seq ?_ | refine JC.region ?_ | refine JC.block ?_ | refine JC.skip ?_ | refine JC.exit ?_ | refine JL.nil ?_ | refine JE.next ?_ | refine JE.blk_normal ?_ | refine JE.then_exit ?_ | refine JE.blk_hit ?_ | refine JE.blk_miss rfl ?_ | refine JE.then_ret ?_ | refine JE.blk_ret ?_ | refine JC.label ?_ | refine JL.gon rfl rfl ?_ | refine JL.gskip rfl rfl rfl rfl ?_ | refine JL.gskipU rfl rfl rfl rfl ?_)
        refine JC.cond_false rfl rfl ?_
        repeat (first | refine JL.q (by first | (apply OQ.move; exact rfl) | (apply OQ.assign; exact rfl) | (apply OQ.len; exact rfl; exact rfl) | (apply OQ.addN; exact rfl; exact rfl; exact (by (try simp only []); omega)) | (apply OQ.subN; exact rfl; exact rfl; exact (by (try simp only []); omega); exact (by (try simp only []); omega))) rfl ?_ | refine JC.seq ?_ | refine JC.region ?_ | refine JC.block ?_ | refine JC.skip ?_ | refine JC.exit ?_ | refine JL.nil ?_ | refine JE.next ?_ | refine JE.blk_normal ?_ | refine JE.then_exit ?_ | refine JE.blk_hit ?_ | refine JE.blk_miss rfl ?_ | refine JE.then_ret ?_ | refine JE.blk_ret ?_ | refine JC.label ?_ | refine JL.gon rfl rfl ?_ | refine JL.gskip rfl rfl rfl rfl ?_ | refine JL.gskipU rfl rfl rfl rfl ?_)
        refine JC.ret (JE.ret1 rfl (RV.tmp rfl) ?_)
        rw [eL]
        exact fun w' hw => ⟨(b, cap), rfl, hw⟩
      · have eL : laidB s.l = W ++ [13, 10] := by rw [eL0, if_neg (fun e => e.elim (fun e => by rw [e] at h0; cases h0) (fun e => e2 e.2.2))]
        rw [e1] at c1
        repeat (first | refine JL.q (by first | (apply OQ.gtrN_t; exact rfl; exact rfl; exact h0) | (apply OQ.idxS1; exact Try.underlying22; exact u8s; exact rfl; exact rfl; exact h1) | (apply OQ.load; exact u8c; exact rfl; exact .here; exact (Own.cell c1)) | (apply OQ.nei_f; exact rfl; exact rfl; exact rfl) | (apply OQ.lssN_f; exact rfl; exact rfl; exact hl2) | (apply OQ.idxS1; exact Try.underlying22; exact u8s; exact rfl; exact rfl; exact h2) | (apply OQ.load; exact u8c; exact rfl; exact .here; exact (Own.cell c2)) | (apply OQ.neI_t; exact rfl; exact rfl; exact (by_ne e2)) | (apply OQ.pick_t; exact rfl; exact rfl) | (apply OQ.pick_f; exact rfl; exact rfl) | (apply OQ.move; exact rfl) | (apply OQ.assign; exact rfl) | (apply OQ.len; exact rfl; exact rfl) | (apply OQ.addN; exact rfl; exact rfl; exact (by (try simp only []); omega)) | (apply OQ.subN; exact rfl; exact rfl; exact (by (try simp only []); omega); exact (by (try simp only []); omega))) rfl ?_ | refine JC.seq ?_ | refine JC.region ?_ | refine JC.block ?_ | refine JC.skip ?_ | refine JC.exit ?_ | refine JL.nil ?_ | refine JE.next ?_ | refine JE.blk_normal ?_ | refine JE.then_exit ?_ | refine JE.blk_hit ?_ | refine JE.blk_miss rfl ?_ | refine JE.then_ret ?_ | refine JE.blk_ret ?_ | refine JC.label ?_ | refine JL.gon rfl rfl ?_ | refine JL.gskip rfl rfl rfl rfl ?_ | refine JL.gskipU rfl rfl rfl rfl ?_)
        refine JC.cond_true rfl rfl ?_
        repeat (first | refine JL.q (by first | (apply OQ.move; exact rfl) | (apply OQ.assign; exact rfl) | (apply OQ.len; exact rfl; exact rfl) | (apply OQ.addN; exact rfl; exact rfl; exact (by (try simp only []); omega)) | (apply OQ.subN; exact rfl; exact rfl; exact (by (try simp only []); omega); exact (by (try simp only []); omega))) rfl ?_ | refine JC.seq ?_ | refine JC.region ?_ | refine JC.block ?_ | refine JC.skip ?_ | refine JC.exit ?_ | refine JL.nil ?_ | refine JE.next ?_ | refine JE.blk_normal ?_ | refine JE.then_exit ?_ | refine JE.blk_hit ?_ | refine JE.blk_miss rfl ?_ | refine JE.then_ret ?_ | refine JE.blk_ret ?_ | refine JC.label ?_ | refine JL.gon rfl rfl ?_ | refine JL.gskip rfl rfl rfl rfl ?_ | refine JL.gskipU rfl rfl rfl rfl ?_)
        refine JL.push2 (v1 := U8 13) (v2 := U8 10) (xs := W.map U8) (fun b' cap' => [⟨b', Own 5 1 (W.length + 2) cap' (W.map U8 ++ [U8 13, U8 10]), true⟩]) Try.underlying22 u8e rfl rfl rfl rfl rfl rfl rfl (fun _ => rfl) (by intro _ _; repeat (first | exact Repl.here | apply Repl.there)) (by omega) (by omega) rfl rfl fun bl b1 cap1 => ?_
        repeat (first | refine JL.q (by first | (apply OQ.move; exact rfl) | (apply OQ.assign; exact rfl) | (apply OQ.len; exact rfl; exact rfl) | (apply OQ.addN; exact rfl; exact rfl; exact (by (try simp only []); omega)) | (apply OQ.subN; exact rfl; exact rfl; exact (by (try simp only []); omega); exact (by (try simp only []); omega))) rfl ?_ | refine JC.seq ?_ | refine JC.region ?_ | refine JC.block ?_ | refine JC.skip ?_ | refine JC.exit ?_ | refine JL.nil ?_ | refine JE.next ?_ | refine JE.blk_normal ?_ | refine JE.then_exit ?_ | refine JE.blk_hit ?_ | refine JE.blk_miss rfl ?_ | refine JE.then_ret ?_ | refine JE.blk_ret ?_ | refine JC.label ?_ | refine JL.gon rfl rfl ?_ | refine JL.gskip rfl rfl rfl rfl ?_ | refine JL.gskipU rfl rfl rfl rfl ?_)
        refine JC.ret (JE.ret1 rfl (RV.tmp rfl) ?_)
        rw [eL, List.map_append, List.length_append]
        exact fun w' hw => ⟨(b1, cap1), rfl, hw⟩
    · have eL : laidB s.l = W ++ [13, 10] := by rw [eL0, if_neg (fun e => e.elim (fun e => by rw [e] at h0; cases h0) (fun e => e1 e.2.1))]
      repeat (first | refine JL.q (by first | (apply OQ.gtrN_t; exact rfl; exact rfl; exact h0) | (apply OQ.idxS1; exact Try.underlying22; exact u8s; exact rfl; exact rfl; exact h1) | (apply OQ.load; exact u8c; exact rfl; exact .here; exact (Own.cell c1)) | (apply OQ.neI_t; exact rfl; exact rfl; exact (by_ne e1)) | (apply OQ.pick_t; exact rfl; exact rfl) | (apply OQ.pick_f; exact rfl; exact rfl) | (apply OQ.move; exact rfl) | (apply OQ.assign; exact rfl) | (apply OQ.len; exact rfl; exact rfl) | (apply OQ.addN; exact rfl; exact rfl; exact (by (try simp only []); omega)) | (apply OQ.subN; exact rfl; exact rfl; exact (by (try simp only []); omega); exact (by (try simp only []); omega))) rfl ?_ | refine JC.seq ?_ | refine JC.region ?_ | refine JC.block ?_ | refine JC.skip ?_ | refine JC.exit ?_ | refine JL.nil ?_ | refine JE.next ?_ | refine JE.blk_normal ?_ | refine JE.then_exit ?_ | refine JE.blk_hit ?_ | refine JE.blk_miss rfl ?_ | refine JE.then_ret ?_ | refine JE.blk_ret ?_ | refine JC.label ?_ | refine JL.gon rfl rfl ?_ | refine JL.gskip rfl rfl rfl rfl ?_ | refine JL.gskipU rfl rfl rfl rfl ?_)
      refine JC.cond_true rfl rfl ?_
      repeat (first | refine JL.q (by first | (apply OQ.move; exact rfl) | (apply OQ.assign; exact rfl) | (apply OQ.len; exact rfl; exact rfl) | (apply OQ.addN; exact rfl; exact rfl; exact (by (try simp only []); omega)) | (apply OQ.subN; exact rfl; exact rfl; exact (by (try simp only []); omega); exact (by (try simp only []); omega))) rfl ?_ | refine JC.seq ?_ | refine JC.region ?_ | refine JC.block ?_ | refine JC.skip ?_ | refine JC.exit ?_ | refine JL.nil ?_ | refine JE.next ?_ | refine JE.blk_normal ?_ | refine JE.then_exit ?_ | refine JE.blk_hit ?_ | refine JE.blk_miss rfl ?_ | refine JE.then_ret ?_ | refine JE.blk_ret ?_ | refine JC.label ?_ | refine JL.gon rfl rfl ?_ | refine JL.gskip rfl rfl rfl rfl ?_ | refine JL.gskipU rfl rfl rfl rfl ?_)
      refine JL.push2 (v1 := U8 13) (v2 := U8 10) (xs := W.map U8) (fun b' cap' => [⟨b', Own 5 1 (W.length + 2) cap' (W.map U8 ++ [U8 13, U8 10]), true⟩]) Try.underlying22 u8e rfl rfl rfl rfl rfl rfl rfl (fun _ => rfl) (by intro _ _; repeat (first | exact Repl.here | apply Repl.there)) (by omega) (by omega) rfl rfl fun bl b1 cap1 => ?_
      repeat (first | refine JL.q (by first | (apply OQ.move; exact rfl) | (apply OQ.assign; exact rfl) | (apply OQ.len; exact rfl; exact rfl) | (apply OQ.addN; exact rfl; exact rfl; exact (by (try simp only []); omega)) | (apply OQ.subN; exact rfl; exact rfl; exact (by (try simp only []); omega); exact (by (try simp only []); omega))) rfl ?_ | refine JC.seq ?_ | refine JC.region ?_ | refine JC.block ?_ | refine JC.skip ?_ | refine JC.exit ?_ | refine JL.nil ?_ | refine JE.next ?_ | refine JE.blk_normal ?_ | refine JE.then_exit ?_ | refine JE.blk_hit ?_ | refine JE.blk_miss rfl ?_ | refine JE.then_ret ?_ | refine JE.blk_ret ?_ | refine JC.label ?_ | refine JL.gon rfl rfl ?_ | refine JL.gskip rfl rfl rfl rfl ?_ | refine JL.gskipU rfl rfl rfl rfl ?_)
      refine JC.ret (JE.ret1 rfl (RV.tmp rfl) ?_)
      rw [eL, List.map_append, List.length_append]
      exact fun w' hw => ⟨(b1, cap1), rfl, hw⟩
  · obtain rfl : W = [] := List.eq_nil_of_length_eq_zero (by omega)
    have eL : laidB s.l = [] := by rw [eL0, if_pos (show shut [] from Or.inl rfl)]
    repeat (first | refine JL.q (by first | (apply OQ.gtrN_f; exact rfl; exact rfl; exact h0) | (apply OQ.pick_t; exact rfl; exact rfl) | (apply OQ.pick_f; exact rfl; exact rfl) | (apply OQ.move; exact rfl) | (apply OQ.assign; exact rfl) | (apply OQ.len; exact rfl; exact rfl) | (apply OQ.addN; exact rfl; exact rfl; exact (by (try simp only []); omega)) | (apply OQ.subN; exact rfl; exact rfl; exact (by (try simp only []); omega); exact (by (try simp only []); omega))) rfl ?_ | refine JC.seq ?_ | refine JC.region ?_ | refine JC.block ?_ | refine JC.skip ?_ | refine JC.exit ?_ | refine JL.nil ?_ | refine JE.next ?_ | refine JE.blk_normal ?_ | refine JE.then_exit ?_ | refine JE.blk_hit ?_ | refine JE.blk_miss rfl ?_ | refine JE.then_ret ?_ | refine JE.blk_ret ?_ | refine JC.label ?_ | refine JL.gon rfl rfl ?_ | refine JL.gskip rfl rfl rfl rfl ?_ | refine JL.gskipU rfl rfl rfl rfl ?_)
    refine JC.cond_false rfl rfl ?_
    repeat (first | refine JL.q (by first | (apply OQ.move; exact rfl) | (apply OQ.assign; exact rfl) | (apply OQ.len; exact rfl; exact rfl) | (apply OQ.addN; exact rfl; exact rfl; exact (by (try simp only []); omega)) | (apply OQ.subN; exact rfl; exact rfl; exact (by (try simp only []); omega); exact (by (try simp only []); omega))) rfl ?_ | refine JC.seq ?_ | refine JC.region ?_ | refine JC.block ?_ | refine JC.skip ?_ | refine JC.exit ?_ | refine JL.nil ?_ | refine JE.next ?_ | refine JE.blk_normal ?_ | refine JE.then_exit ?_ | refine JE.blk_hit ?_ | refine JE.blk_miss rfl ?_ | refine JE.then_ret ?_ | refine JE.blk_ret ?_ | refine JC.label ?_ | refine JL.gon rfl rfl ?_ | refine JL.gskip rfl rfl rfl rfl ?_ | refine JL.gskipU rfl rfl rfl rfl ?_)
    refine JC.ret (JE.ret1 rfl (RV.tmp rfl) ?_)
    rw [eL]
    exact fun w' hw => ⟨(b, cap), rfl, hw⟩
end Go.Proofs.Ytnopllkpfdgkkaa
