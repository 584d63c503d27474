/-
  Of no statement by itself: what the landed field's Fold gives.
  Conditions: each theorem's own.
-/
import Derived.Test.YtchoiikhepjdiaaDoorFibA
import Derived.Test.YtchoiikhepjdiaaDoorFieL
namespace Go.Proofs.YtchoiikhepjdiaaDoor
set_option maxRecDepth 10000
open Sl Fld
theorem nil_ans {w0 w : World} {M : List Ent} {S : List Nat} (h : Holds w0 S M w) : Holds w0 S nilS.ents w := h.weak (.nil _)
theorem sok_low {c : Fld.By} (h : sok c = true) : c.toNat < 128 := by
  rw [sokA_is] at h
  simp only [Bool.or_eq_true, Bool.and_eq_true, decide_eq_true_eq] at h
  rcases h with ⟨_, h⟩ | h
  · omega
  · subst h; decide
set_option maxHeartbeats 16000000 in
theorem ffold_any (n v : List Fld.By) (w : World) (hn : n.length < 9223372036854775808) (hv : v.length < 9223372036854775808) : Calls Tryd.prog 14 [.agg (pc (n, v)).toArray].toArray w fun e w' =>
    ∃ x : { x : Sl8 // Ans x (foldR n v) }, e = .returned (.tuple #[x.1.v, N (codeF n v)]) ∧ Holds w [] x.1.ents w' := by
  refine enter (n := 59) Tryd.func14 rfl rfl rfl (Holds.start w []) ?_
  refine JC.seq (JC.region (JL.box (r := pc (n, v)) rfl rfl rfl fun b1 _ => ?_))
  have cN := fun w' => fname_any n w' hn
  have cV := fun w' => fvalue_any v w'
  cases h1 : nameB n <;> cases h2 : valB v
  all_goals (repeat (first | refine JL.q (by first | (apply OQ.load; exact strC; exact rfl; exact .here; exact (Row.cell (v := Z v) rfl)) | (apply OQ.load; exact strC; exact rfl; exact .here; exact (Row.cell (v := Z n) rfl)) | (apply OQ.callb (vs := [Z n]); exact goes_fname; exact rfl; exact cN; exact h1) | (apply OQ.callb (vs := [Z v]); exact goes_fvalue; exact rfl; exact cV; exact h2) | (apply OQ.not; exact rfl) | (apply OQ.pick_t; exact rfl; exact rfl) | (apply OQ.pick_f; exact rfl; exact rfl) | (apply OQ.move; exact rfl) | (apply OQ.assign; exact rfl) | (apply OQ.len; exact rfl; exact rfl) | (apply OQ.addN; exact rfl; exact rfl; exact (by (try simp only []); omega)) | (apply OQ.subN; exact rfl; exact rfl; exact (by (try simp only []); omega); exact (by (try simp only []); omega)) | (apply OQ.lssN; exact rfl; exact rfl) | (apply OQ.fld; exact rfl; exact rfl; exact rfl; exact (by decide); exact rfl)) rfl ?_ | refine JC.seq ?_ | refine JC.region ?_ | refine JC.block ?_ | refine JC.skip ?_ | refine JC.exit ?_ | refine JL.nil ?_ | refine JE.next ?_ | refine JE.blk_normal ?_ | refine JE.then_exit ?_ | refine JE.blk_hit ?_ | refine JE.blk_miss rfl ?_ | refine JE.then_ret ?_ | refine JE.blk_ret ?_ | refine JC.label ?_ | refine JL.gon rfl rfl ?_ | refine JL.gskip rfl rfl rfl rfl ?_ | refine JL.gskipU rfl rfl rfl rfl ?_))
  all_goals refine JC.cond rfl (fun h => ?_) (fun h => ?_)
  all_goals first | (exfalso; revert h; decide) | skip
  all_goals clear h
  all_goals first
    | (have hg : goodF n v = false := by rw [goodF, h1, h2]; rfl
       have hx : Ans nilS (foldR n v) := ⟨by rw [foldR, hg]; rfl, fun _ => rfl⟩
       have hc : codeF n v = 3 := by rw [codeF, hg]; rfl
       (repeat (first | refine JL.q (by first | (apply OQ.move; exact rfl) | (apply OQ.assign; exact rfl) | (apply OQ.len; exact rfl; exact rfl) | (apply OQ.addN; exact rfl; exact rfl; exact (by (try simp only []); omega)) | (apply OQ.subN; exact rfl; exact rfl; exact (by (try simp only []); omega); exact (by (try simp only []); omega)) | (apply OQ.lssN; exact rfl; exact rfl) | (apply OQ.fld; exact rfl; exact rfl; exact rfl; exact (by decide); exact rfl)) rfl ?_ | refine JC.seq ?_ | refine JC.region ?_ | refine JC.block ?_ | refine JC.skip ?_ | refine JC.exit ?_ | refine JL.nil ?_ | refine JE.next ?_ | refine JE.blk_normal ?_ | refine JE.then_exit ?_ | refine JE.blk_hit ?_ | refine JE.blk_miss rfl ?_ | refine JE.then_ret ?_ | refine JE.blk_ret ?_ | refine JC.label ?_ | refine JL.gon rfl rfl ?_ | refine JL.gskip rfl rfl rfl rfl ?_ | refine JL.gskipU rfl rfl rfl rfl ?_))
       refine JC.ret ?_
       (repeat (first | refine JL.q (by first | (apply OQ.move; exact rfl) | (apply OQ.assign; exact rfl) | (apply OQ.len; exact rfl; exact rfl) | (apply OQ.addN; exact rfl; exact rfl; exact (by (try simp only []); omega)) | (apply OQ.subN; exact rfl; exact rfl; exact (by (try simp only []); omega); exact (by (try simp only []); omega)) | (apply OQ.lssN; exact rfl; exact rfl) | (apply OQ.fld; exact rfl; exact rfl; exact rfl; exact (by decide); exact rfl)) rfl ?_ | refine JC.seq ?_ | refine JC.region ?_ | refine JC.block ?_ | refine JC.skip ?_ | refine JC.exit ?_ | refine JL.nil ?_ | refine JE.next ?_ | refine JE.blk_normal ?_ | refine JE.then_exit ?_ | refine JE.blk_hit ?_ | refine JE.blk_miss rfl ?_ | refine JE.then_ret ?_ | refine JE.blk_ret ?_ | refine JC.label ?_ | refine JL.gon rfl rfl ?_ | refine JL.gskip rfl rfl rfl rfl ?_ | refine JL.gskipU rfl rfl rfl rfl ?_))
       refine JE.ret2 rfl (RV.tmp rfl) (RV.tmp rfl) fun w' hw => ⟨⟨nilS, hx⟩, ?_, nil_ans hw⟩
       rw [hc]
       rfl)
    | skip
  have hg : goodF n v = true := by rw [goodF, h1, h2]; rfl
  have hc : codeF n v = 0 := by rw [codeF, hg]; rfl
  have hR : foldR n v = foldB n v := by rw [foldR, hg]; rfl
  have l1 := nameB_len h1
  have l2 := valB_len h2
  have hsok : v.all sok = true := (valB_parts h2).1
  rw [hc, hR]
  clear cN cV hg hc hR
  repeat (first | refine JL.q (by first | (apply OQ.load; exact strC; exact rfl; exact .here; exact (Row.cell (v := Z v) rfl)) | (apply OQ.load; exact strC; exact rfl; exact .here; exact (Row.cell (v := Z n) rfl)) | (apply OQ.addS (l := n) (r := [58]); exact rfl; exact rfl; exact (by simp only [List.length_cons, List.length_nil]; omega)) | (apply OQ.addS (l := n ++ [58]) (r := [32]); exact rfl; exact rfl; exact (by simp only [List.length_append, List.length_cons, List.length_nil]; omega)) | (apply OQ.move; exact rfl) | (apply OQ.assign; exact rfl) | (apply OQ.len; exact rfl; exact rfl) | (apply OQ.addN; exact rfl; exact rfl; exact (by (try simp only []); omega)) | (apply OQ.subN; exact rfl; exact rfl; exact (by (try simp only []); omega); exact (by (try simp only []); omega)) | (apply OQ.lssN; exact rfl; exact rfl) | (apply OQ.fld; exact rfl; exact rfl; exact rfl; exact (by decide); exact rfl)) rfl ?_ | refine JC.seq ?_ | refine JC.region ?_ | refine JC.block ?_ | refine JC.skip ?_ | refine JC.exit ?_ | refine JL.nil ?_ | refine JE.next ?_ | refine JE.blk_normal ?_ | refine JE.then_exit ?_ | refine JE.blk_hit ?_ | refine JE.blk_miss rfl ?_ | refine JE.then_ret ?_ | refine JE.blk_ret ?_ | refine JC.label ?_ | refine JL.gon rfl rfl ?_ | refine JL.gskip rfl rfl rfl rfl ?_ | refine JL.gskipU rfl rfl rfl rfl ?_)
  refine JL.s2o (r := n ++ [58] ++ [32]) Tryd.underlying9 rfl Tryd.underlying25 Tryd.underlying5 rfl rfl fun b cap _ => ?_
  repeat (first | refine JL.q (by first | (apply OQ.load; exact strC; exact rfl; exact (.there .here); exact (Row.cell (v := Z v) rfl)) | (apply OQ.move; exact rfl) | (apply OQ.assign; exact rfl) | (apply OQ.len; exact rfl; exact rfl) | (apply OQ.addN; exact rfl; exact rfl; exact (by (try simp only []); omega)) | (apply OQ.subN; exact rfl; exact rfl; exact (by (try simp only []); omega); exact (by (try simp only []); omega)) | (apply OQ.lssN; exact rfl; exact rfl) | (apply OQ.fld; exact rfl; exact rfl; exact rfl; exact (by decide); exact rfl)) rfl ?_ | refine JC.seq ?_ | refine JC.region ?_ | refine JC.block ?_ | refine JC.skip ?_ | refine JC.exit ?_ | refine JL.nil ?_ | refine JE.next ?_ | refine JE.blk_normal ?_ | refine JE.then_exit ?_ | refine JE.blk_hit ?_ | refine JE.blk_miss rfl ?_ | refine JE.then_ret ?_ | refine JE.blk_ret ?_ | refine JC.label ?_ | refine JL.gon rfl rfl ?_ | refine JL.gskip rfl rfl rfl rfl ?_ | refine JL.gskipU rfl rfl rfl rfl ?_)
  have hB0 : (n ++ [58] ++ [32]).length = n.length + 2 := by simp
  have e0 : (st n v 0).1 = n ++ [58] ++ [32] := by simp [st]
  have hsl := st_len n v
  refine JC.loop (fun q : Nat × Nat × Nat => [(4, Z (n ++ [58] ++ [32])), (5, .slice (some ⟨q.2.1, 0, none⟩) (st n v q.1).1.length q.2.2), (6, N (st n v q.1).2), (7, Z (v.drop q.1))])
    (fun q => [⟨q.2.1, OwnF 5 (st n v q.1).1.length q.2.2 ((st n v q.1).1.map U8), true⟩]) (fun q => v.length - q.1) (fun q => q.1 ≤ v.length ∧ (q.1 = 0 ∨ q.1 = v.length ∨ tn v q.1 = true)) (0, b, cap) ⟨Nat.zero_le _, .inl rfl⟩ ?_ (.keep _ _ _ _ _ _ ?_ (.nil _)) ?_
  · show SubE _ [(4, Z (n ++ [58] ++ [32])), (5, .slice (some ⟨b, 0, none⟩) (st n v 0).1.length cap), (6, N (n.length + 2)), (7, Z v)]
    rw [e0, ← hB0]
    exact (by repeat (first | exact SubE.nil | refine SubE.cons _ _ _ rfl ?_))
  · intro o h
    show OwnF _ (st n v 0).1.length _ ((st n v 0).1.map U8) o
    rw [e0]
    exact h
  clear hB0 e0
  rintro ⟨i, b, cap⟩ ⟨hi, hat⟩
  simp only at hi hat
  dsimp only
  obtain ⟨hl1, hl2⟩ := hsl i
  have hlow := st_low n v i
  by_cases hend : i = v.length
  · have hd : decide (v.drop i = []) = true := decide_eq_true (by rw [hend]; simp)
    repeat (first | refine JL.q (by first | (apply OQ.neSB (r := []); exact rfl; exact rfl; exact hd) | (apply OQ.move; exact rfl) | (apply OQ.assign; exact rfl) | (apply OQ.len; exact rfl; exact rfl) | (apply OQ.addN; exact rfl; exact rfl; exact (by (try simp only []); omega)) | (apply OQ.subN; exact rfl; exact rfl; exact (by (try simp only []); omega); exact (by (try simp only []); omega)) | (apply OQ.lssN; exact rfl; exact rfl) | (apply OQ.fld; exact rfl; exact rfl; exact rfl; exact (by decide); exact rfl)) rfl ?_ | refine JC.seq ?_ | refine JC.region ?_ | refine JC.block ?_ | refine JC.skip ?_ | refine JC.exit ?_ | refine JL.nil ?_ | refine JE.next ?_ | refine JE.blk_normal ?_ | refine JE.then_exit ?_ | refine JE.blk_hit ?_ | refine JE.blk_miss rfl ?_ | refine JE.then_ret ?_ | refine JE.blk_ret ?_ | refine JC.label ?_ | refine JL.gon rfl rfl ?_ | refine JL.gskip rfl rfl rfl rfl ?_ | refine JL.gskipU rfl rfl rfl rfl ?_)
    refine JC.cond rfl (fun h => by cases h) (fun _ => ?_)
    subst hend
    clear hd hat hi
    repeat (first | refine JL.q (by first | (apply OQ.move; exact rfl) | (apply OQ.assign; exact rfl) | (apply OQ.len; exact rfl; exact rfl) | (apply OQ.addN; exact rfl; exact rfl; exact (by (try simp only []); omega)) | (apply OQ.subN; exact rfl; exact rfl; exact (by (try simp only []); omega); exact (by (try simp only []); omega)) | (apply OQ.lssN; exact rfl; exact rfl) | (apply OQ.fld; exact rfl; exact rfl; exact rfl; exact (by decide); exact rfl)) rfl ?_ | refine JC.seq ?_ | refine JC.region ?_ | refine JC.block ?_ | refine JC.skip ?_ | refine JC.exit ?_ | refine JL.nil ?_ | refine JE.next ?_ | refine JE.blk_normal ?_ | refine JE.then_exit ?_ | refine JE.blk_hit ?_ | refine JE.blk_miss rfl ?_ | refine JE.then_ret ?_ | refine JE.blk_ret ?_ | refine JC.label ?_ | refine JL.gon rfl rfl ?_ | refine JL.gskip rfl rfl rfl rfl ?_ | refine JL.gskipU rfl rfl rfl rfl ?_)
    refine JL.appendX (v := Z [13, 10]) (m := 2) (xs := (st n v v.length).1.map U8) (news := ([13, 10] : List Bt).map U8) (fun b' cap' => [⟨b', OwnF 5 ((st n v v.length).1.length + 2) cap' ((st n v v.length).1.map U8 ++ ([13, 10] : List Bt).map U8), true⟩]) Tryd.underlying25 u8e rfl rfl (fun _ _ => src_str Tryd.underlying9) (by intro _ _; repeat (first | exact Repl.here | apply Repl.there)) (by omega) rfl fun b' cap' => ?_
    repeat (first | refine JL.q (by first | (apply OQ.move; exact rfl) | (apply OQ.assign; exact rfl) | (apply OQ.len; exact rfl; exact rfl) | (apply OQ.addN; exact rfl; exact rfl; exact (by (try simp only []); omega)) | (apply OQ.subN; exact rfl; exact rfl; exact (by (try simp only []); omega); exact (by (try simp only []); omega)) | (apply OQ.lssN; exact rfl; exact rfl) | (apply OQ.fld; exact rfl; exact rfl; exact rfl; exact (by decide); exact rfl)) rfl ?_ | refine JC.seq ?_ | refine JC.region ?_ | refine JC.block ?_ | refine JC.skip ?_ | refine JC.exit ?_ | refine JL.nil ?_ | refine JE.next ?_ | refine JE.blk_normal ?_ | refine JE.then_exit ?_ | refine JE.blk_hit ?_ | refine JE.blk_miss rfl ?_ | refine JE.then_ret ?_ | refine JE.blk_ret ?_ | refine JC.label ?_ | refine JL.gon rfl rfl ?_ | refine JL.gskip rfl rfl rfl rfl ?_ | refine JL.gskipU rfl rfl rfl rfl ?_)
    refine JC.ret ?_
    repeat (first | refine JL.q (by first | (apply OQ.move; exact rfl) | (apply OQ.assign; exact rfl) | (apply OQ.len; exact rfl; exact rfl) | (apply OQ.addN; exact rfl; exact rfl; exact (by (try simp only []); omega)) | (apply OQ.subN; exact rfl; exact rfl; exact (by (try simp only []); omega); exact (by (try simp only []); omega)) | (apply OQ.lssN; exact rfl; exact rfl) | (apply OQ.fld; exact rfl; exact rfl; exact rfl; exact (by decide); exact rfl)) rfl ?_ | refine JC.seq ?_ | refine JC.region ?_ | refine JC.block ?_ | refine JC.skip ?_ | refine JC.exit ?_ | refine JL.nil ?_ | refine JE.next ?_ | refine JE.blk_normal ?_ | refine JE.then_exit ?_ | refine JE.blk_hit ?_ | refine JE.blk_miss rfl ?_ | refine JE.then_ret ?_ | refine JE.blk_ret ?_ | refine JC.label ?_ | refine JL.gon rfl rfl ?_ | refine JL.gskip rfl rfl rfl rfl ?_ | refine JL.gskipU rfl rfl rfl rfl ?_)
    refine JE.ret2 rfl (RV.tmp rfl) (RV.tmp rfl) ?_
    intro w' hw
    refine ⟨⟨⟨some ⟨b', 0, none⟩, cap', foldB n v⟩, ⟨rfl, by simp⟩⟩, ?_, hw.weak ?_⟩
    · show _ = Ending.returned (.tuple #[Value.slice _ (foldB n v).length _, N 0])
      rw [foldB, List.length_append]; rfl
    · have hl : (foldB n v).length = (st n v v.length).1.length + 2 := by rw [foldB, List.length_append]; rfl
      have := ownF_ents (e := 5) (b := b') (cap := cap') hl
      rw [foldB, List.map_append] at this
      exact this
  have hi' : i < v.length := by omega
  have hat' : i = 0 ∨ tn v i = true := by
    rcases hat with h | h | h
    · exact .inl h
    · exact absurd h hend
    · exact .inr h
  clear hat hi
  have hd : decide (v.drop i = []) = false := decide_eq_false (by
    intro h
    have := congrArg List.length h
    rw [List.length_drop, List.length_nil] at this
    omega)
  have hps := piece_scan hi'
  have hse := scan_ge v (i + 1) hi'
  have hsl2 := scan_le v (i + 1)
  have hpc := st_piece n v hi'
  have htn : scan v (i + 1) = v.length ∨ tn v (scan v (i + 1)) = true := by
    by_cases h : scan v (i + 1) = v.length
    · exact .inl h
    · exact .inr (scan_tn v (i + 1) hi' (by omega))
  have cP := fun w' => fpiece_any (v.drop i) w' (by rw [List.length_drop]; omega) (fun c hc => sok_low (List.all_eq_true.1 hsok c (List.mem_of_mem_drop hc)))
  have hdl : (v.drop i).length = v.length - i := List.length_drop
  generalize hsz : pieceB (v.drop i) = sz at hps cP
  have hszl : sz ≤ (v.drop i).length := by omega
  rw [← hps] at hse hsl2 hpc htn
  have hpart : (v.take (i + sz)).drop i = (v.drop i).take sz := by
    rw [List.drop_take, Nat.add_sub_cancel_left]
  rw [hpart, Nat.add_sub_cancel_left] at hpc
  have hbA : brkA n v i = (decide ((76 : Int) < (((st n v i).2 + sz : Nat) : Int)) && decide (((n ++ [58] ++ [32]).length : Int) < ((st n v i).1.length : Int))) := by
    unfold brkA
    rw [show scan v (i + 1) - i = sz by rw [← hps]; omega, Bool.and_comm]
    congr 1
    · exact decide_eq_decide.2 (by omega)
    · rw [Bool.eq_iff_iff, decide_eq_true_eq]
      have hB0 : (n ++ [58] ++ [32]).length = n.length + 2 := by simp
      rw [hB0]
      constructor
      · intro h
        have : 0 < i := by
          rw [tn, Bool.and_eq_true, decide_eq_true_eq] at h
          exact h.1
        omega
      · intro h
        rcases hat' with h0 | h0
        · subst h0
          simp only [st, List.length_append, List.length_cons, List.length_nil] at h
          omega
        · exact h0
  clear hat'
  generalize brkA n v i = B at hpc hbA
  have hdrop : (v.drop i).drop sz = v.drop (i + sz) := by rw [List.drop_drop]
  generalize hO : (st n v i).1 = O at hl1 hlow hpc hbA ⊢
  generalize hL : (st n v i).2 = L at hl2 hpc hbA ⊢
  generalize hD : v.drop i = D at hd hdrop hpc cP hdl hszl ⊢
  have hB0 : (n ++ [58] ++ [32]).length = n.length + 2 := by simp
  generalize n ++ [58] ++ [32] = begins at hbA hB0 ⊢
  repeat (first | refine JL.q (by first | (apply OQ.neSB (r := []); exact rfl; exact rfl; exact hd) | (apply OQ.move; exact rfl) | (apply OQ.assign; exact rfl) | (apply OQ.len; exact rfl; exact rfl) | (apply OQ.addN; exact rfl; exact rfl; exact (by (try simp only []); omega)) | (apply OQ.subN; exact rfl; exact rfl; exact (by (try simp only []); omega); exact (by (try simp only []); omega)) | (apply OQ.lssN; exact rfl; exact rfl) | (apply OQ.fld; exact rfl; exact rfl; exact rfl; exact (by decide); exact rfl)) rfl ?_ | refine JC.seq ?_ | refine JC.region ?_ | refine JC.block ?_ | refine JC.skip ?_ | refine JC.exit ?_ | refine JL.nil ?_ | refine JE.next ?_ | refine JE.blk_normal ?_ | refine JE.then_exit ?_ | refine JE.blk_hit ?_ | refine JE.blk_miss rfl ?_ | refine JE.then_ret ?_ | refine JE.blk_ret ?_ | refine JC.label ?_ | refine JL.gon rfl rfl ?_ | refine JL.gskip rfl rfl rfl rfl ?_ | refine JL.gskipU rfl rfl rfl rfl ?_)
  refine JC.cond rfl (fun _ => ?_) (fun h => by cases h)
  cases g1 : decide ((76 : Int) < ((L + sz : Nat) : Int)) <;> cases g2 : decide ((begins.length : Int) < (O.length : Int))
  all_goals rw [g1, g2] at hbA
  all_goals (repeat (first | refine JL.q (by first | (apply OQ.callx (vs := [Z D]); exact goes_fpiece; exact rfl; exact (fun w' _ => cP w')) | (apply OQ.gtrB (b := 76); exact rfl; exact rfl; exact g1) | (apply OQ.lenS; exact Tryd.underlying9; exact rfl) | (apply OQ.len; exact Tryd.underlying25; exact rfl) | (apply OQ.gtrB; exact rfl; exact rfl; exact g2) | (apply OQ.pick_t; exact rfl; exact rfl) | (apply OQ.pick_f; exact rfl; exact rfl) | (apply OQ.move; exact rfl) | (apply OQ.assign; exact rfl) | (apply OQ.len; exact rfl; exact rfl) | (apply OQ.addN; exact rfl; exact rfl; exact (by (try simp only []); omega)) | (apply OQ.subN; exact rfl; exact rfl; exact (by (try simp only []); omega); exact (by (try simp only []); omega)) | (apply OQ.lssN; exact rfl; exact rfl) | (apply OQ.fld; exact rfl; exact rfl; exact rfl; exact (by decide); exact rfl)) rfl ?_ | refine JC.seq ?_ | refine JC.region ?_ | refine JC.block ?_ | refine JC.skip ?_ | refine JC.exit ?_ | refine JL.nil ?_ | refine JE.next ?_ | refine JE.blk_normal ?_ | refine JE.then_exit ?_ | refine JE.blk_hit ?_ | refine JE.blk_miss rfl ?_ | refine JE.then_ret ?_ | refine JE.blk_ret ?_ | refine JC.label ?_ | refine JL.gon rfl rfl ?_ | refine JL.gskip rfl rfl rfl rfl ?_ | refine JL.gskipU rfl rfl rfl rfl ?_))
  all_goals (
    refine JC.join (ι := Nat × Nat) (fun q => [(4, Z begins), (5, .slice (some ⟨q.1, 0, none⟩) (O ++ if B then [13, 10] else []).length q.2), (6, N (if B then 0 else L)), (7, Z D), (8, N sz)]) (fun q => [⟨q.1, OwnF 5 (O ++ if B then [13, 10] else []).length q.2 ((O ++ if B then [13, 10] else []).map U8), true⟩]) (fun _ => True) ?_ ?_
    · refine JC.cond rfl (fun h => ?_) (fun h => ?_)
      all_goals first | (exfalso; revert h; decide) | skip
      all_goals clear h
      all_goals first
        | (have hB : B = false := hbA
           subst hB
           (repeat (first | refine JL.q (by first | (apply OQ.move; exact rfl) | (apply OQ.assign; exact rfl) | (apply OQ.len; exact rfl; exact rfl) | (apply OQ.addN; exact rfl; exact rfl; exact (by (try simp only []); omega)) | (apply OQ.subN; exact rfl; exact rfl; exact (by (try simp only []); omega); exact (by (try simp only []); omega)) | (apply OQ.lssN; exact rfl; exact rfl) | (apply OQ.fld; exact rfl; exact rfl; exact rfl; exact (by decide); exact rfl)) rfl ?_ | refine JC.seq ?_ | refine JC.region ?_ | refine JC.block ?_ | refine JC.skip ?_ | refine JC.exit ?_ | refine JL.nil ?_ | refine JE.next ?_ | refine JE.blk_normal ?_ | refine JE.then_exit ?_ | refine JE.blk_hit ?_ | refine JE.blk_miss rfl ?_ | refine JE.then_ret ?_ | refine JE.blk_ret ?_ | refine JC.label ?_ | refine JL.gon rfl rfl ?_ | refine JL.gskip rfl rfl rfl rfl ?_ | refine JL.gskipU rfl rfl rfl rfl ?_))
           refine JE.mid (b, cap) trivial ?_ ?_
           · simp only [Bool.false_eq_true, if_false, List.append_nil]
             exact (by repeat (first | exact SubE.nil | refine SubE.cons _ _ _ rfl ?_))
           · simp only [Bool.false_eq_true, if_false, List.append_nil]
             exact Less.refl _)
        | (have hB : B = true := hbA
           subst hB
           (repeat (first | refine JL.q (by first | (apply OQ.move; exact rfl) | (apply OQ.assign; exact rfl) | (apply OQ.len; exact rfl; exact rfl) | (apply OQ.addN; exact rfl; exact rfl; exact (by (try simp only []); omega)) | (apply OQ.subN; exact rfl; exact rfl; exact (by (try simp only []); omega); exact (by (try simp only []); omega)) | (apply OQ.lssN; exact rfl; exact rfl) | (apply OQ.fld; exact rfl; exact rfl; exact rfl; exact (by decide); exact rfl)) rfl ?_ | refine JC.seq ?_ | refine JC.region ?_ | refine JC.block ?_ | refine JC.skip ?_ | refine JC.exit ?_ | refine JL.nil ?_ | refine JE.next ?_ | refine JE.blk_normal ?_ | refine JE.then_exit ?_ | refine JE.blk_hit ?_ | refine JE.blk_miss rfl ?_ | refine JE.then_ret ?_ | refine JE.blk_ret ?_ | refine JC.label ?_ | refine JL.gon rfl rfl ?_ | refine JL.gskip rfl rfl rfl rfl ?_ | refine JL.gskipU rfl rfl rfl rfl ?_))
           refine JL.appendX (v := Z [13, 10]) (m := 2) (xs := O.map U8) (news := ([13, 10] : List Bt).map U8) (fun b' cap' => [⟨b', OwnF 5 (O.length + 2) cap' (O.map U8 ++ ([13, 10] : List Bt).map U8), true⟩]) Tryd.underlying25 u8e rfl rfl (fun _ _ => src_str Tryd.underlying9) (by intro _ _; repeat (first | exact Repl.here | apply Repl.there)) (by omega) rfl fun b' cap' => ?_
           (repeat (first | refine JL.q (by first | (apply OQ.move; exact rfl) | (apply OQ.assign; exact rfl) | (apply OQ.len; exact rfl; exact rfl) | (apply OQ.addN; exact rfl; exact rfl; exact (by (try simp only []); omega)) | (apply OQ.subN; exact rfl; exact rfl; exact (by (try simp only []); omega); exact (by (try simp only []); omega)) | (apply OQ.lssN; exact rfl; exact rfl) | (apply OQ.fld; exact rfl; exact rfl; exact rfl; exact (by decide); exact rfl)) rfl ?_ | refine JC.seq ?_ | refine JC.region ?_ | refine JC.block ?_ | refine JC.skip ?_ | refine JC.exit ?_ | refine JL.nil ?_ | refine JE.next ?_ | refine JE.blk_normal ?_ | refine JE.then_exit ?_ | refine JE.blk_hit ?_ | refine JE.blk_miss rfl ?_ | refine JE.then_ret ?_ | refine JE.blk_ret ?_ | refine JC.label ?_ | refine JL.gon rfl rfl ?_ | refine JL.gskip rfl rfl rfl rfl ?_ | refine JL.gskipU rfl rfl rfl rfl ?_))
           refine JE.mid (b', cap') trivial ?_ ?_
           · simp only [if_true, List.length_append]
             exact (by repeat (first | exact SubE.nil | refine SubE.cons _ _ _ rfl ?_))
           · simp only [if_true, List.length_append, List.map_append]
             exact Less.refl _)
    · rintro ⟨b2, cap2⟩ _
      dsimp only
      have hX : (O ++ if B then [13, 10] else []).length ≤ n.length + 4 + 3 * i := by
        rw [List.length_append]
        have : (if B then ([13, 10] : List Fld.By) else []).length ≤ 2 := by cases B <;> simp
        omega
      have hW : (if B then 0 else L) ≤ L := by cases B <;> simp
      generalize (O ++ if B then [13, 10] else []) = X at hX hpc ⊢
      generalize (if B then 0 else L) = W at hW hpc ⊢
      (repeat (first | refine JL.q (by first | (apply OQ.subS_hi; exact Tryd.underlying9; exact rfl; exact rfl; exact hszl) | (apply OQ.move; exact rfl) | (apply OQ.assign; exact rfl) | (apply OQ.len; exact rfl; exact rfl) | (apply OQ.addN; exact rfl; exact rfl; exact (by (try simp only []); omega)) | (apply OQ.subN; exact rfl; exact rfl; exact (by (try simp only []); omega); exact (by (try simp only []); omega)) | (apply OQ.lssN; exact rfl; exact rfl) | (apply OQ.fld; exact rfl; exact rfl; exact rfl; exact (by decide); exact rfl)) rfl ?_ | refine JC.seq ?_ | refine JC.region ?_ | refine JC.block ?_ | refine JC.skip ?_ | refine JC.exit ?_ | refine JL.nil ?_ | refine JE.next ?_ | refine JE.blk_normal ?_ | refine JE.then_exit ?_ | refine JE.blk_hit ?_ | refine JE.blk_miss rfl ?_ | refine JE.then_ret ?_ | refine JE.blk_ret ?_ | refine JC.label ?_ | refine JL.gon rfl rfl ?_ | refine JL.gskip rfl rfl rfl rfl ?_ | refine JL.gskipU rfl rfl rfl rfl ?_))
      have hDl : (D.take sz).length = sz := by rw [List.length_take]; omega
      refine JL.appendX (v := Z (D.take sz)) (m := (D.take sz).length) (xs := X.map U8) (news := (D.take sz).map U8) (fun b' cap' => [⟨b', OwnF 5 (X.length + (D.take sz).length) cap' (X.map U8 ++ (D.take sz).map U8), true⟩]) Tryd.underlying25 u8e rfl rfl (fun _ _ => src_str Tryd.underlying9) (by intro _ _; repeat (first | exact Repl.here | apply Repl.there)) (by omega) rfl fun b' cap' => ?_
      (repeat (first | refine JL.q (by first | (apply OQ.subS_lo; exact Tryd.underlying9; exact rfl; exact rfl; exact hszl) | (apply OQ.move; exact rfl) | (apply OQ.assign; exact rfl) | (apply OQ.len; exact rfl; exact rfl) | (apply OQ.addN; exact rfl; exact rfl; exact (by (try simp only []); omega)) | (apply OQ.subN; exact rfl; exact rfl; exact (by (try simp only []); omega); exact (by (try simp only []); omega)) | (apply OQ.lssN; exact rfl; exact rfl) | (apply OQ.fld; exact rfl; exact rfl; exact rfl; exact (by decide); exact rfl)) rfl ?_ | refine JC.seq ?_ | refine JC.region ?_ | refine JC.block ?_ | refine JC.skip ?_ | refine JC.exit ?_ | refine JL.nil ?_ | refine JE.next ?_ | refine JE.blk_normal ?_ | refine JE.then_exit ?_ | refine JE.blk_hit ?_ | refine JE.blk_miss rfl ?_ | refine JE.then_ret ?_ | refine JE.blk_ret ?_ | refine JC.label ?_ | refine JL.gon rfl rfl ?_ | refine JL.gskip rfl rfl rfl rfl ?_ | refine JL.gskipU rfl rfl rfl rfl ?_))
      refine JE.again (i := (i, b, cap)) (i + sz, b', cap') ⟨hsl2, ?_⟩ (by show v.length - (i + sz) < v.length - i; omega) ?_ ?_
      · exact .inr htn
      · dsimp only
        rw [hpc]
        dsimp only
        rw [List.length_append, ← hdrop]
        exact (by repeat (first | exact SubE.nil | refine SubE.cons _ _ _ rfl ?_))
      · dsimp only
        rw [hpc]
        dsimp only
        rw [List.length_append, List.map_append]
        exact Less.refl _)
end Go.Proofs.YtchoiikhepjdiaaDoor
