/-
  Of no statement by itself: what the reference's Fold (layer 9) gives.
  Conditions: each theorem's own.
-/
import Derived.Test.YtchoiikhepjdiaaDoorFieR
import Derived.Test.YtchoiikhepjdiaaDoorSle
namespace Go.Proofs.YtchoiikhepjdiaaDoor
set_option maxRecDepth 10000
open Sl Fld
theorem goes_rfold : Goes Tryd.prog 22 := ⟨_, Tryd.func22, rfl, by kernel_rfl⟩
theorem st_len (n v : List Fld.By) : ∀ i, (st n v i).1.length ≤ n.length + 2 + 3 * i ∧ (st n v i).2 ≤ n.length + 2 + i
  | 0 => by simp [st]
  | i + 1 => by
    obtain ⟨h1, h2⟩ := st_len n v i
    unfold st
    split
    · simp only [List.length_append, List.length_cons, List.length_nil]; omega
    · simp only [List.length_append, List.length_cons, List.length_nil]; omega
def brk (n v : List Fld.By) (i : Nat) : Bool := tn v i && decide (76 < (st n v i).2 + scan v (i + 1) - i)
theorem st_brk (n v : List Fld.By) (i : Nat) (h : brk n v i = true) : st n v (i + 1) = ((st n v i).1 ++ [13, 10] ++ [v.getD i 0], 1) := by
  simp only [brk, Bool.and_eq_true, decide_eq_true_eq] at h
  rw [st, if_pos h]; simp
theorem st_go (n v : List Fld.By) (i : Nat) (h : brk n v i = false) : st n v (i + 1) = ((st n v i).1 ++ [v.getD i 0], (st n v i).2 + 1) := by
  rw [st, if_neg]
  rintro ⟨h1, h2⟩
  rw [brk, h1, decide_eq_true h2] at h
  cases h
set_option maxHeartbeats 16000000 in
theorem rfold_any (n v : List Fld.By) (w : World) (hn : n.length < 1000000) (hv : v.length < 1000000) : Calls Tryd.prog 22 [.agg #[Z n, Z v]].toArray w fun e w' => ∃ x : Sl8, e = .returned x.v ∧ Ans x (foldB n v) ∧ Holds w [] x.ents w' := by
  refine enter (n := 82) Tryd.func22 rfl rfl rfl (Holds.start w []) ?_
  repeat (first | refine JL.q (by first | (apply OQ.move; exact rfl) | (apply OQ.assign; exact rfl) | (apply OQ.len; exact rfl; exact rfl) | (apply OQ.addN; exact rfl; exact rfl; exact (by (try simp only []); omega)) | (apply OQ.subN; exact rfl; exact rfl; exact (by (try simp only []); omega); exact (by (try simp only []); omega)) | (apply OQ.lssN; exact rfl; exact rfl) | (apply OQ.fld; exact rfl; exact rfl; exact rfl; exact (by decide); exact rfl)) rfl ?_ | refine JC.seq ?_ | refine JC.region ?_ | refine JC.block ?_ | refine JC.skip ?_ | refine JC.exit ?_ | refine JL.nil ?_ | refine JE.next ?_ | refine JE.blk_normal ?_ | refine JE.then_exit ?_ | refine JE.blk_hit ?_ | refine JE.blk_miss rfl ?_ | refine JE.then_ret ?_ | refine JE.blk_ret ?_ | refine JC.label ?_ | refine JL.gon rfl rfl ?_ | refine JL.gskip rfl rfl rfl rfl ?_ | refine JL.gskipU rfl rfl rfl rfl ?_)
  refine JL.box (r := [Z n, Z v]) rfl rfl rfl fun b1 _ => ?_
  repeat (first | refine JL.q (by first | (apply OQ.load; exact strC; exact rfl; exact .here; exact (Row.cell (v := Z v) rfl)) | (apply OQ.load; exact strC; exact rfl; exact .here; exact (Row.cell (v := Z n) rfl)) | (apply OQ.move; exact rfl) | (apply OQ.assign; exact rfl) | (apply OQ.len; exact rfl; exact rfl) | (apply OQ.addN; exact rfl; exact rfl; exact (by (try simp only []); omega)) | (apply OQ.subN; exact rfl; exact rfl; exact (by (try simp only []); omega); exact (by (try simp only []); omega)) | (apply OQ.lssN; exact rfl; exact rfl) | (apply OQ.fld; exact rfl; exact rfl; exact rfl; exact (by decide); exact rfl)) rfl ?_ | refine JC.seq ?_ | refine JC.region ?_ | refine JC.block ?_ | refine JC.skip ?_ | refine JC.exit ?_ | refine JL.nil ?_ | refine JE.next ?_ | refine JE.blk_normal ?_ | refine JE.then_exit ?_ | refine JE.blk_hit ?_ | refine JE.blk_miss rfl ?_ | refine JE.then_ret ?_ | refine JE.blk_ret ?_ | refine JC.label ?_ | refine JL.gon rfl rfl ?_ | refine JL.gskip rfl rfl rfl rfl ?_ | refine JL.gskipU rfl rfl rfl rfl ?_)
  refine JL.s2o (r := n) Tryd.underlying9 rfl Tryd.underlying25 Tryd.underlying5 rfl rfl fun b cap _ => ?_
  repeat (first | refine JL.q (by first | (apply OQ.move; exact rfl) | (apply OQ.assign; exact rfl) | (apply OQ.len; exact rfl; exact rfl) | (apply OQ.addN; exact rfl; exact rfl; exact (by (try simp only []); omega)) | (apply OQ.subN; exact rfl; exact rfl; exact (by (try simp only []); omega); exact (by (try simp only []); omega)) | (apply OQ.lssN; exact rfl; exact rfl) | (apply OQ.fld; exact rfl; exact rfl; exact rfl; exact (by decide); exact rfl)) rfl ?_ | refine JC.seq ?_ | refine JC.region ?_ | refine JC.block ?_ | refine JC.skip ?_ | refine JC.exit ?_ | refine JL.nil ?_ | refine JE.next ?_ | refine JE.blk_normal ?_ | refine JE.then_exit ?_ | refine JE.blk_hit ?_ | refine JE.blk_miss rfl ?_ | refine JE.then_ret ?_ | refine JE.blk_ret ?_ | refine JC.label ?_ | refine JL.gon rfl rfl ?_ | refine JL.gskip rfl rfl rfl rfl ?_ | refine JL.gskipU rfl rfl rfl rfl ?_)
  refine JL.appendX (v := Z [58, 32]) (m := 2) (xs := n.map U8) (news := ([58, 32] : List Bt).map U8) (fun b' cap' => [⟨b', OwnF 5 (n.length + 2) cap' (n.map U8 ++ ([58, 32] : List Bt).map U8), true⟩, ⟨b1, Row 23 [Z n, Z v], true⟩]) Tryd.underlying25 u8e rfl rfl (fun _ _ => src_str Tryd.underlying9) (by intro _ _; repeat (first | exact Repl.here | apply Repl.there)) (by omega) rfl fun b cap => ?_
  repeat (first | refine JL.q (by first | (apply OQ.move; exact rfl) | (apply OQ.assign; exact rfl) | (apply OQ.len; exact rfl; exact rfl) | (apply OQ.addN; exact rfl; exact rfl; exact (by (try simp only []); omega)) | (apply OQ.subN; exact rfl; exact rfl; exact (by (try simp only []); omega); exact (by (try simp only []); omega)) | (apply OQ.lssN; exact rfl; exact rfl) | (apply OQ.fld; exact rfl; exact rfl; exact rfl; exact (by decide); exact rfl)) rfl ?_ | refine JC.seq ?_ | refine JC.region ?_ | refine JC.block ?_ | refine JC.skip ?_ | refine JC.exit ?_ | refine JL.nil ?_ | refine JE.next ?_ | refine JE.blk_normal ?_ | refine JE.then_exit ?_ | refine JE.blk_hit ?_ | refine JE.blk_miss rfl ?_ | refine JE.then_ret ?_ | refine JE.blk_ret ?_ | refine JC.label ?_ | refine JL.gon rfl rfl ?_ | refine JL.gskip rfl rfl rfl rfl ?_ | refine JL.gskipU rfl rfl rfl rfl ?_)
  have hsl := st_len n v
  refine JC.loop (fun q : Nat × Nat × Nat => [(3, Z v), (4, .slice (some ⟨q.2.1, 0, none⟩) (st n v q.1).1.length q.2.2), (5, N (st n v q.1).2), (6, N q.1)])
    (fun q => [⟨q.2.1, OwnF 5 (st n v q.1).1.length q.2.2 ((st n v q.1).1.map U8), true⟩]) (fun q => v.length - q.1) (fun q => q.1 ≤ v.length) (0, b, cap) (Nat.zero_le _) ?_ (.keep _ _ _ _ _ _ ?_ (.nil _)) ?_
  · show SubE _ [(3, Z v), (4, .slice (some ⟨b, 0, none⟩) (n ++ [58, 32]).length cap), (5, N (n.length + 2)), (6, N 0)]
    rw [List.length_append]
    exact (by repeat (first | exact SubE.nil | refine SubE.cons _ _ _ rfl ?_))
  · intro o h
    show OwnF _ (n ++ [58, 32]).length _ ((n ++ [58, 32]).map U8) o
    rw [List.length_append, List.map_append]
    exact h
  rintro ⟨i, b, cap⟩ hi
  simp only at hi
  dsimp only
  obtain ⟨hl1, hl2⟩ := hsl i
  repeat (first | refine JL.q (by first | (apply OQ.lenS; exact Tryd.underlying9; exact rfl) | (apply OQ.move; exact rfl) | (apply OQ.assign; exact rfl) | (apply OQ.len; exact rfl; exact rfl) | (apply OQ.addN; exact rfl; exact rfl; exact (by (try simp only []); omega)) | (apply OQ.subN; exact rfl; exact rfl; exact (by (try simp only []); omega); exact (by (try simp only []); omega)) | (apply OQ.lssN; exact rfl; exact rfl) | (apply OQ.fld; exact rfl; exact rfl; exact rfl; exact (by decide); exact rfl)) rfl ?_ | refine JC.seq ?_ | refine JC.region ?_ | refine JC.block ?_ | refine JC.skip ?_ | refine JC.exit ?_ | refine JL.nil ?_ | refine JE.next ?_ | refine JE.blk_normal ?_ | refine JE.then_exit ?_ | refine JE.blk_hit ?_ | refine JE.blk_miss rfl ?_ | refine JE.then_ret ?_ | refine JE.blk_ret ?_ | refine JC.label ?_ | refine JL.gon rfl rfl ?_ | refine JL.gskip rfl rfl rfl rfl ?_ | refine JL.gskipU rfl rfl rfl rfl ?_)
  refine JC.cond rfl (fun h => ?_) (fun h => ?_)
  · have hi' : i < v.length := of_decide_eq_true h
    clear h hi
    have i0 := fun {n : Nat} {E : Env} {C : World → Prop} {dst : Option Tmp} {ty : TypeId} {pos : String} {aft : Array Edge} {g : Option (Nat × Bool)} {x y : Operand} => idxAt hi' (n := n) (E := E) (C := C) (dst := dst) (ty := ty) (pos := pos) (aft := aft) (g := g) (x := x) (y := y)
    have i1 := fun {n : Nat} {E : Env} {C : World → Prop} {dst : Option Tmp} {ty : TypeId} {pos : String} {aft : Array Edge} {g : Option (Nat × Bool)} {x y : Operand} => idxAt (s := v) (i := i - 1) (by omega) (n := n) (E := E) (C := C) (dst := dst) (ty := ty) (pos := pos) (aft := aft) (g := g) (x := x) (y := y)
    have b0 := fun w' => rblank9_any (v.getD i 0) w'
    have b1 := fun w' => rblank9_any (v.getD (i - 1) 0) w'
    have htn : tn v i = (decide ((0 : Int) < (i : Int)) && (bl (v.getD i 0) && !bl (v.getD (i - 1) 0))) := by
      unfold tn
      congr 1
      exact decide_eq_decide.2 (by omega)
    have hst1 := st_brk n v i
    have hst2 := st_go n v i
    have hbr : brk n v i = (tn v i && decide (76 < (st n v i).2 + scan v (i + 1) - i)) := rfl
    have hnoF : tn v i = false → brk n v i = false := fun h => by rw [hbr, h]; rfl
    have hpos : tn v i = true → 0 < i := fun h => by
      rw [htn] at h
      simp only [Bool.and_eq_true, decide_eq_true_eq] at h
      omega
    generalize hB : brk n v i = B at hst1 hst2 hbr hnoF
    generalize hO : (st n v i).1 = O at hl1 hst1 hst2 ⊢
    generalize hL : (st n v i).2 = L at hl2 hst2 hbr ⊢
    cases h1 : decide ((0 : Int) < (i : Int)) <;> cases h2 : bl (v.getD i 0) <;> cases h3 : bl (v.getD (i - 1) 0)
    all_goals (rw [h1, h2, h3] at htn)
    all_goals (try have hip : 0 < i := by (have := of_decide_eq_true h1; omega))
    all_goals (repeat (first | refine JL.q (by first | (apply OQ.gtrB (b := 0); exact rfl; exact rfl; exact h1) | (apply i0; exact rfl; exact rfl) | (apply i1; exact rfl; exact rfl) | (apply OQ.callb (vs := [U8 (v.getD i 0)]); exact goes_rblank9; exact rfl; exact b0; exact h2) | (apply OQ.callb (vs := [U8 (v.getD (i - 1) 0)]); exact goes_rblank9; exact rfl; exact b1; exact h3) | (apply OQ.not; exact rfl) | (apply OQ.pick_t; exact rfl; exact rfl) | (apply OQ.pick_f; exact rfl; exact rfl) | (apply OQ.move; exact rfl) | (apply OQ.assign; exact rfl) | (apply OQ.len; exact rfl; exact rfl) | (apply OQ.addN; exact rfl; exact rfl; exact (by (try simp only []); omega)) | (apply OQ.subN; exact rfl; exact rfl; exact (by (try simp only []); omega); exact (by (try simp only []); omega)) | (apply OQ.lssN; exact rfl; exact rfl) | (apply OQ.fld; exact rfl; exact rfl; exact rfl; exact (by decide); exact rfl)) rfl ?_ | refine JC.seq ?_ | refine JC.region ?_ | refine JC.block ?_ | refine JC.skip ?_ | refine JC.exit ?_ | refine JL.nil ?_ | refine JE.next ?_ | refine JE.blk_normal ?_ | refine JE.then_exit ?_ | refine JE.blk_hit ?_ | refine JE.blk_miss rfl ?_ | refine JE.then_ret ?_ | refine JE.blk_ret ?_ | refine JC.label ?_ | refine JL.gon rfl rfl ?_ | refine JL.gskip rfl rfl rfl rfl ?_ | refine JL.gskipU rfl rfl rfl rfl ?_))
    all_goals (
      refine JC.join (ι := Nat × Nat) (fun q => [(3, Z v), (4, .slice (some ⟨q.1, 0, none⟩) (if B then O ++ [13, 10] else O).length q.2), (5, N (if B then 0 else L)), (6, N i)]) (fun q => [⟨q.1, OwnF 5 (if B then O ++ [13, 10] else O).length q.2 ((if B then O ++ [13, 10] else O).map U8), true⟩]) (fun _ => True) ?_ ?_
      · refine JC.cond rfl (fun h => ?_) (fun h => ?_)
        all_goals first | (exfalso; revert h; decide) | skip
        all_goals clear h
        all_goals first
          | (have hB0 : B = false := hnoF (by rw [htn]; rfl)
             subst hB0
             (repeat (first | refine JL.q (by first | (apply OQ.move; exact rfl) | (apply OQ.assign; exact rfl) | (apply OQ.len; exact rfl; exact rfl) | (apply OQ.addN; exact rfl; exact rfl; exact (by (try simp only []); omega)) | (apply OQ.subN; exact rfl; exact rfl; exact (by (try simp only []); omega); exact (by (try simp only []); omega)) | (apply OQ.lssN; exact rfl; exact rfl) | (apply OQ.fld; exact rfl; exact rfl; exact rfl; exact (by decide); exact rfl)) rfl ?_ | refine JC.seq ?_ | refine JC.region ?_ | refine JC.block ?_ | refine JC.skip ?_ | refine JC.exit ?_ | refine JL.nil ?_ | refine JE.next ?_ | refine JE.blk_normal ?_ | refine JE.then_exit ?_ | refine JE.blk_hit ?_ | refine JE.blk_miss rfl ?_ | refine JE.then_ret ?_ | refine JE.blk_ret ?_ | refine JC.label ?_ | refine JL.gon rfl rfl ?_ | refine JL.gskip rfl rfl rfl rfl ?_ | refine JL.gskipU rfl rfl rfl rfl ?_))
             exact JE.mid (b, cap) trivial (by repeat (first | exact SubE.nil | refine SubE.cons _ _ _ rfl ?_)) (Less.refl _))
          | (have ht : tn v i = true := by rw [htn]; rfl
             have hp := hpos ht
             rw [ht, Bool.true_and] at hbr
             (repeat (first | refine JL.q (by first | (apply OQ.move; exact rfl) | (apply OQ.assign; exact rfl) | (apply OQ.len; exact rfl; exact rfl) | (apply OQ.addN; exact rfl; exact rfl; exact (by (try simp only []); omega)) | (apply OQ.subN; exact rfl; exact rfl; exact (by (try simp only []); omega); exact (by (try simp only []); omega)) | (apply OQ.lssN; exact rfl; exact rfl) | (apply OQ.fld; exact rfl; exact rfl; exact rfl; exact (by decide); exact rfl)) rfl ?_ | refine JC.seq ?_ | refine JC.region ?_ | refine JC.block ?_ | refine JC.skip ?_ | refine JC.exit ?_ | refine JL.nil ?_ | refine JE.next ?_ | refine JE.blk_normal ?_ | refine JE.then_exit ?_ | refine JE.blk_hit ?_ | refine JE.blk_miss rfl ?_ | refine JE.then_ret ?_ | refine JE.blk_ret ?_ | refine JC.label ?_ | refine JL.gon rfl rfl ?_ | refine JL.gskip rfl rfl rfl rfl ?_ | refine JL.gskipU rfl rfl rfl rfl ?_))
             refine JC.loop (fun to : Nat => [(3, Z v), (4, .slice (some ⟨b, 0, none⟩) O.length cap), (5, N L), (6, N i), (7, N to)]) (fun _ => [⟨b, OwnF 5 O.length cap (O.map U8), true⟩]) (fun to => v.length - to) (fun to => i + 1 ≤ to ∧ to ≤ v.length ∧ scan v to = scan v (i + 1)) (i + 1) ⟨Nat.le_refl _, hi', rfl⟩ (by repeat (first | exact SubE.nil | refine SubE.cons _ _ _ rfl ?_)) (Less.refl _) ?_
             rintro to ⟨k1, k2, k3⟩
             cases g1 : decide ((to : Int) < (v.length : Int))
             · have hto : scan v (i + 1) = to := by
                 have := of_decide_eq_false g1
                 rw [← k3, scan_end (by omega)]; omega
               rw [hto] at hbr
               have k4 : i ≤ L + to := by omega
               (repeat (first | refine JL.q (by first | (apply OQ.lenS; exact Tryd.underlying9; exact rfl) | (apply OQ.lssB; exact rfl; exact rfl; exact g1) | (apply OQ.pick_f; exact rfl; exact rfl) | (apply OQ.move; exact rfl) | (apply OQ.assign; exact rfl) | (apply OQ.len; exact rfl; exact rfl) | (apply OQ.addN; exact rfl; exact rfl; exact (by (try simp only []); omega)) | (apply OQ.subN; exact rfl; exact rfl; exact (by (try simp only []); omega); exact (by (try simp only []); omega)) | (apply OQ.lssN; exact rfl; exact rfl) | (apply OQ.fld; exact rfl; exact rfl; exact rfl; exact (by decide); exact rfl)) rfl ?_ | refine JC.seq ?_ | refine JC.region ?_ | refine JC.block ?_ | refine JC.skip ?_ | refine JC.exit ?_ | refine JL.nil ?_ | refine JE.next ?_ | refine JE.blk_normal ?_ | refine JE.then_exit ?_ | refine JE.blk_hit ?_ | refine JE.blk_miss rfl ?_ | refine JE.then_ret ?_ | refine JE.blk_ret ?_ | refine JC.label ?_ | refine JL.gon rfl rfl ?_ | refine JL.gskip rfl rfl rfl rfl ?_ | refine JL.gskipU rfl rfl rfl rfl ?_))
               refine JC.cond rfl (fun h => by cases h) (fun _ => ?_)
               (repeat (first | refine JL.q (by first | (apply OQ.gtrN; exact rfl; exact rfl) | (apply OQ.move; exact rfl) | (apply OQ.assign; exact rfl) | (apply OQ.len; exact rfl; exact rfl) | (apply OQ.addN; exact rfl; exact rfl; exact (by (try simp only []); omega)) | (apply OQ.subN; exact rfl; exact rfl; exact (by (try simp only []); omega); exact (by (try simp only []); omega)) | (apply OQ.lssN; exact rfl; exact rfl) | (apply OQ.fld; exact rfl; exact rfl; exact rfl; exact (by decide); exact rfl)) rfl ?_ | refine JC.seq ?_ | refine JC.region ?_ | refine JC.block ?_ | refine JC.skip ?_ | refine JC.exit ?_ | refine JL.nil ?_ | refine JE.next ?_ | refine JE.blk_normal ?_ | refine JE.then_exit ?_ | refine JE.blk_hit ?_ | refine JE.blk_miss rfl ?_ | refine JE.then_ret ?_ | refine JE.blk_ret ?_ | refine JC.label ?_ | refine JL.gon rfl rfl ?_ | refine JL.gskip rfl rfl rfl rfl ?_ | refine JL.gskipU rfl rfl rfl rfl ?_))
               refine JC.cond rfl (fun h => ?_) (fun h => ?_)
               · have hB1 : B = true := by rw [hbr]; exact h
                 subst hB1
                 (repeat (first | refine JL.q (by first | (apply OQ.move; exact rfl) | (apply OQ.assign; exact rfl) | (apply OQ.len; exact rfl; exact rfl) | (apply OQ.addN; exact rfl; exact rfl; exact (by (try simp only []); omega)) | (apply OQ.subN; exact rfl; exact rfl; exact (by (try simp only []); omega); exact (by (try simp only []); omega)) | (apply OQ.lssN; exact rfl; exact rfl) | (apply OQ.fld; exact rfl; exact rfl; exact rfl; exact (by decide); exact rfl)) rfl ?_ | refine JC.seq ?_ | refine JC.region ?_ | refine JC.block ?_ | refine JC.skip ?_ | refine JC.exit ?_ | refine JL.nil ?_ | refine JE.next ?_ | refine JE.blk_normal ?_ | refine JE.then_exit ?_ | refine JE.blk_hit ?_ | refine JE.blk_miss rfl ?_ | refine JE.then_ret ?_ | refine JE.blk_ret ?_ | refine JC.label ?_ | refine JL.gon rfl rfl ?_ | refine JL.gskip rfl rfl rfl rfl ?_ | refine JL.gskipU rfl rfl rfl rfl ?_))
                 refine JL.pushF2 (v1 := U8 13) (v2 := U8 10) (xs := O.map U8) (fun b' cap' => [⟨b', OwnF 5 (O.length + 2) cap' (O.map U8 ++ [U8 13, U8 10]), true⟩]) Tryd.underlying25 u8e rfl rfl rfl rfl rfl rfl (fun _ => rfl) (by intro _ _; repeat (first | exact Repl.here | apply Repl.there)) (by omega) rfl rfl fun bl b' cap' => ?_
                 (repeat (first | refine JL.q (by first | (apply OQ.move; exact rfl) | (apply OQ.assign; exact rfl) | (apply OQ.len; exact rfl; exact rfl) | (apply OQ.addN; exact rfl; exact rfl; exact (by (try simp only []); omega)) | (apply OQ.subN; exact rfl; exact rfl; exact (by (try simp only []); omega); exact (by (try simp only []); omega)) | (apply OQ.lssN; exact rfl; exact rfl) | (apply OQ.fld; exact rfl; exact rfl; exact rfl; exact (by decide); exact rfl)) rfl ?_ | refine JC.seq ?_ | refine JC.region ?_ | refine JC.block ?_ | refine JC.skip ?_ | refine JC.exit ?_ | refine JL.nil ?_ | refine JE.next ?_ | refine JE.blk_normal ?_ | refine JE.then_exit ?_ | refine JE.blk_hit ?_ | refine JE.blk_miss rfl ?_ | refine JE.then_ret ?_ | refine JE.blk_ret ?_ | refine JC.label ?_ | refine JL.gon rfl rfl ?_ | refine JL.gskip rfl rfl rfl rfl ?_ | refine JL.gskipU rfl rfl rfl rfl ?_))
                 refine JE.mid (b', cap') trivial ?_ ?_
                 · dsimp only
                   rw [if_pos rfl, if_pos rfl, List.length_append]
                   exact (by repeat (first | exact SubE.nil | refine SubE.cons _ _ _ rfl ?_))
                 · dsimp only
                   rw [if_pos rfl, List.length_append, List.map_append]
                   exact Less.refl _
               · have hB1 : B = false := by rw [hbr]; exact h
                 subst hB1
                 (repeat (first | refine JL.q (by first | (apply OQ.move; exact rfl) | (apply OQ.assign; exact rfl) | (apply OQ.len; exact rfl; exact rfl) | (apply OQ.addN; exact rfl; exact rfl; exact (by (try simp only []); omega)) | (apply OQ.subN; exact rfl; exact rfl; exact (by (try simp only []); omega); exact (by (try simp only []); omega)) | (apply OQ.lssN; exact rfl; exact rfl) | (apply OQ.fld; exact rfl; exact rfl; exact rfl; exact (by decide); exact rfl)) rfl ?_ | refine JC.seq ?_ | refine JC.region ?_ | refine JC.block ?_ | refine JC.skip ?_ | refine JC.exit ?_ | refine JL.nil ?_ | refine JE.next ?_ | refine JE.blk_normal ?_ | refine JE.then_exit ?_ | refine JE.blk_hit ?_ | refine JE.blk_miss rfl ?_ | refine JE.then_ret ?_ | refine JE.blk_ret ?_ | refine JC.label ?_ | refine JL.gon rfl rfl ?_ | refine JL.gskip rfl rfl rfl rfl ?_ | refine JL.gskipU rfl rfl rfl rfl ?_))
                 exact JE.mid (b, cap) trivial (by repeat (first | exact SubE.nil | refine SubE.cons _ _ _ rfl ?_)) (Less.refl _)
             · have hto' : to < v.length := by have := of_decide_eq_true g1; omega
               have j0 := fun {n : Nat} {E : Env} {C : World → Prop} {dst : Option Tmp} {ty : TypeId} {pos : String} {aft : Array Edge} {g : Option (Nat × Bool)} {x y : Operand} => idxAt hto' (n := n) (E := E) (C := C) (dst := dst) (ty := ty) (pos := pos) (aft := aft) (g := g) (x := x) (y := y)
               have j1 := fun {n : Nat} {E : Env} {C : World → Prop} {dst : Option Tmp} {ty : TypeId} {pos : String} {aft : Array Edge} {g : Option (Nat × Bool)} {x y : Operand} => idxAt (s := v) (i := to - 1) (by omega) (n := n) (E := E) (C := C) (dst := dst) (ty := ty) (pos := pos) (aft := aft) (g := g) (x := x) (y := y)
               have c0 := fun w' => rblank9_any (v.getD to 0) w'
               have c1 := fun w' => rblank9_any (v.getD (to - 1) 0) w'
               have k0 : 0 < to := by omega
               have htn2 : tn v to = (bl (v.getD to 0) && !bl (v.getD (to - 1) 0)) := by
                 unfold tn
                 rw [decide_eq_true k0, Bool.true_and]
               have k4 : i ≤ L + to := by omega
               cases g2 : bl (v.getD to 0) <;> cases g3 : bl (v.getD (to - 1) 0)
               all_goals rw [g2, g3] at htn2
               all_goals (repeat (first | refine JL.q (by first | (apply OQ.lenS; exact Tryd.underlying9; exact rfl) | (apply OQ.lssB; exact rfl; exact rfl; exact g1) | (apply j0; exact rfl; exact rfl) | (apply j1; exact rfl; exact rfl) | (apply OQ.callb (vs := [U8 (v.getD to 0)]); exact goes_rblank9; exact rfl; exact c0; exact g2) | (apply OQ.callb (vs := [U8 (v.getD (to - 1) 0)]); exact goes_rblank9; exact rfl; exact c1; exact g3) | (apply OQ.not; exact rfl) | (apply OQ.pick_t; exact rfl; exact rfl) | (apply OQ.pick_f; exact rfl; exact rfl) | (apply OQ.move; exact rfl) | (apply OQ.assign; exact rfl) | (apply OQ.len; exact rfl; exact rfl) | (apply OQ.addN; exact rfl; exact rfl; exact (by (try simp only []); omega)) | (apply OQ.subN; exact rfl; exact rfl; exact (by (try simp only []); omega); exact (by (try simp only []); omega)) | (apply OQ.lssN; exact rfl; exact rfl) | (apply OQ.fld; exact rfl; exact rfl; exact rfl; exact (by decide); exact rfl)) rfl ?_ | refine JC.seq ?_ | refine JC.region ?_ | refine JC.block ?_ | refine JC.skip ?_ | refine JC.exit ?_ | refine JL.nil ?_ | refine JE.next ?_ | refine JE.blk_normal ?_ | refine JE.then_exit ?_ | refine JE.blk_hit ?_ | refine JE.blk_miss rfl ?_ | refine JE.then_ret ?_ | refine JE.blk_ret ?_ | refine JC.label ?_ | refine JL.gon rfl rfl ?_ | refine JL.gskip rfl rfl rfl rfl ?_ | refine JL.gskipU rfl rfl rfl rfl ?_))
               all_goals refine JC.cond rfl (fun h => ?_) (fun h => ?_)
               all_goals first | (exfalso; revert h; decide) | skip
               all_goals clear h
               all_goals first
                 | (have hnt : ¬ tn v to = true := by rw [htn2]; decide
                    (repeat (first | refine JL.q (by first | (apply OQ.move; exact rfl) | (apply OQ.assign; exact rfl) | (apply OQ.len; exact rfl; exact rfl) | (apply OQ.addN; exact rfl; exact rfl; exact (by (try simp only []); omega)) | (apply OQ.subN; exact rfl; exact rfl; exact (by (try simp only []); omega); exact (by (try simp only []); omega)) | (apply OQ.lssN; exact rfl; exact rfl) | (apply OQ.fld; exact rfl; exact rfl; exact rfl; exact (by decide); exact rfl)) rfl ?_ | refine JC.seq ?_ | refine JC.region ?_ | refine JC.block ?_ | refine JC.skip ?_ | refine JC.exit ?_ | refine JL.nil ?_ | refine JE.next ?_ | refine JE.blk_normal ?_ | refine JE.then_exit ?_ | refine JE.blk_hit ?_ | refine JE.blk_miss rfl ?_ | refine JE.then_ret ?_ | refine JE.blk_ret ?_ | refine JC.label ?_ | refine JL.gon rfl rfl ?_ | refine JL.gskip rfl rfl rfl rfl ?_ | refine JL.gskipU rfl rfl rfl rfl ?_))
                    exact JE.again (i := to) (to + 1) ⟨by omega, by omega, by rw [← k3, scan_go hto' hnt]⟩ (by omega) (by repeat (first | exact SubE.nil | refine SubE.cons _ _ _ rfl ?_)) (Less.refl _))
                 | (have hto : scan v (i + 1) = to := by rw [← k3, scan_hit hto' (by rw [htn2]; rfl)]
                    rw [hto] at hbr
                    (repeat (first | refine JL.q (by first | (apply OQ.gtrN; exact rfl; exact rfl) | (apply OQ.move; exact rfl) | (apply OQ.assign; exact rfl) | (apply OQ.len; exact rfl; exact rfl) | (apply OQ.addN; exact rfl; exact rfl; exact (by (try simp only []); omega)) | (apply OQ.subN; exact rfl; exact rfl; exact (by (try simp only []); omega); exact (by (try simp only []); omega)) | (apply OQ.lssN; exact rfl; exact rfl) | (apply OQ.fld; exact rfl; exact rfl; exact rfl; exact (by decide); exact rfl)) rfl ?_ | refine JC.seq ?_ | refine JC.region ?_ | refine JC.block ?_ | refine JC.skip ?_ | refine JC.exit ?_ | refine JL.nil ?_ | refine JE.next ?_ | refine JE.blk_normal ?_ | refine JE.then_exit ?_ | refine JE.blk_hit ?_ | refine JE.blk_miss rfl ?_ | refine JE.then_ret ?_ | refine JE.blk_ret ?_ | refine JC.label ?_ | refine JL.gon rfl rfl ?_ | refine JL.gskip rfl rfl rfl rfl ?_ | refine JL.gskipU rfl rfl rfl rfl ?_))
                    refine JC.cond rfl (fun h => ?_) (fun h => ?_)
                    · have hB1 : B = true := by rw [hbr]; exact h
                      subst hB1
                      (repeat (first | refine JL.q (by first | (apply OQ.move; exact rfl) | (apply OQ.assign; exact rfl) | (apply OQ.len; exact rfl; exact rfl) | (apply OQ.addN; exact rfl; exact rfl; exact (by (try simp only []); omega)) | (apply OQ.subN; exact rfl; exact rfl; exact (by (try simp only []); omega); exact (by (try simp only []); omega)) | (apply OQ.lssN; exact rfl; exact rfl) | (apply OQ.fld; exact rfl; exact rfl; exact rfl; exact (by decide); exact rfl)) rfl ?_ | refine JC.seq ?_ | refine JC.region ?_ | refine JC.block ?_ | refine JC.skip ?_ | refine JC.exit ?_ | refine JL.nil ?_ | refine JE.next ?_ | refine JE.blk_normal ?_ | refine JE.then_exit ?_ | refine JE.blk_hit ?_ | refine JE.blk_miss rfl ?_ | refine JE.then_ret ?_ | refine JE.blk_ret ?_ | refine JC.label ?_ | refine JL.gon rfl rfl ?_ | refine JL.gskip rfl rfl rfl rfl ?_ | refine JL.gskipU rfl rfl rfl rfl ?_))
                      refine JL.pushF2 (v1 := U8 13) (v2 := U8 10) (xs := O.map U8) (fun b' cap' => [⟨b', OwnF 5 (O.length + 2) cap' (O.map U8 ++ [U8 13, U8 10]), true⟩]) Tryd.underlying25 u8e rfl rfl rfl rfl rfl rfl (fun _ => rfl) (by intro _ _; repeat (first | exact Repl.here | apply Repl.there)) (by omega) rfl rfl fun bl b' cap' => ?_
                      (repeat (first | refine JL.q (by first | (apply OQ.move; exact rfl) | (apply OQ.assign; exact rfl) | (apply OQ.len; exact rfl; exact rfl) | (apply OQ.addN; exact rfl; exact rfl; exact (by (try simp only []); omega)) | (apply OQ.subN; exact rfl; exact rfl; exact (by (try simp only []); omega); exact (by (try simp only []); omega)) | (apply OQ.lssN; exact rfl; exact rfl) | (apply OQ.fld; exact rfl; exact rfl; exact rfl; exact (by decide); exact rfl)) rfl ?_ | refine JC.seq ?_ | refine JC.region ?_ | refine JC.block ?_ | refine JC.skip ?_ | refine JC.exit ?_ | refine JL.nil ?_ | refine JE.next ?_ | refine JE.blk_normal ?_ | refine JE.then_exit ?_ | refine JE.blk_hit ?_ | refine JE.blk_miss rfl ?_ | refine JE.then_ret ?_ | refine JE.blk_ret ?_ | refine JC.label ?_ | refine JL.gon rfl rfl ?_ | refine JL.gskip rfl rfl rfl rfl ?_ | refine JL.gskipU rfl rfl rfl rfl ?_))
                      refine JE.mid (b', cap') trivial ?_ ?_
                      · dsimp only
                        rw [if_pos rfl, if_pos rfl, List.length_append]
                        exact (by repeat (first | exact SubE.nil | refine SubE.cons _ _ _ rfl ?_))
                      · dsimp only
                        rw [if_pos rfl, List.length_append, List.map_append]
                        exact Less.refl _
                    · have hB1 : B = false := by rw [hbr]; exact h
                      subst hB1
                      (repeat (first | refine JL.q (by first | (apply OQ.move; exact rfl) | (apply OQ.assign; exact rfl) | (apply OQ.len; exact rfl; exact rfl) | (apply OQ.addN; exact rfl; exact rfl; exact (by (try simp only []); omega)) | (apply OQ.subN; exact rfl; exact rfl; exact (by (try simp only []); omega); exact (by (try simp only []); omega)) | (apply OQ.lssN; exact rfl; exact rfl) | (apply OQ.fld; exact rfl; exact rfl; exact rfl; exact (by decide); exact rfl)) rfl ?_ | refine JC.seq ?_ | refine JC.region ?_ | refine JC.block ?_ | refine JC.skip ?_ | refine JC.exit ?_ | refine JL.nil ?_ | refine JE.next ?_ | refine JE.blk_normal ?_ | refine JE.then_exit ?_ | refine JE.blk_hit ?_ | refine JE.blk_miss rfl ?_ | refine JE.then_ret ?_ | refine JE.blk_ret ?_ | refine JC.label ?_ | refine JL.gon rfl rfl ?_ | refine JL.gskip rfl rfl rfl rfl ?_ | refine JL.gskipU rfl rfl rfl rfl ?_))
                      exact JE.mid (b, cap) trivial (by repeat (first | exact SubE.nil | refine SubE.cons _ _ _ rfl ?_)) (Less.refl _)))
      · rintro ⟨b', cap'⟩ _
        dsimp only
        cases B
        · have e := hst2 rfl
          simp only [Bool.false_eq_true, if_false]
          (repeat (first | refine JL.q (by first | (apply i0; exact rfl; exact rfl) | (apply OQ.move; exact rfl) | (apply OQ.assign; exact rfl) | (apply OQ.len; exact rfl; exact rfl) | (apply OQ.addN; exact rfl; exact rfl; exact (by (try simp only []); omega)) | (apply OQ.subN; exact rfl; exact rfl; exact (by (try simp only []); omega); exact (by (try simp only []); omega)) | (apply OQ.lssN; exact rfl; exact rfl) | (apply OQ.fld; exact rfl; exact rfl; exact rfl; exact (by decide); exact rfl)) rfl ?_ | refine JC.seq ?_ | refine JC.region ?_ | refine JC.block ?_ | refine JC.skip ?_ | refine JC.exit ?_ | refine JL.nil ?_ | refine JE.next ?_ | refine JE.blk_normal ?_ | refine JE.then_exit ?_ | refine JE.blk_hit ?_ | refine JE.blk_miss rfl ?_ | refine JE.then_ret ?_ | refine JE.blk_ret ?_ | refine JC.label ?_ | refine JL.gon rfl rfl ?_ | refine JL.gskip rfl rfl rfl rfl ?_ | refine JL.gskipU rfl rfl rfl rfl ?_))
          refine JL.pushF (v := U8 (v.getD i 0)) (xs := O.map U8) (fun b' cap' => [⟨b', OwnF 5 (O.length + 1) cap' (O.map U8 ++ [U8 (v.getD i 0)]), true⟩]) Tryd.underlying25 u8e rfl rfl rfl (fun _ => rfl) (by intro _ _; repeat (first | exact Repl.here | apply Repl.there)) (by omega) rfl rfl fun bl b'' cap'' => ?_
          (repeat (first | refine JL.q (by first | (apply OQ.move; exact rfl) | (apply OQ.assign; exact rfl) | (apply OQ.len; exact rfl; exact rfl) | (apply OQ.addN; exact rfl; exact rfl; exact (by (try simp only []); omega)) | (apply OQ.subN; exact rfl; exact rfl; exact (by (try simp only []); omega); exact (by (try simp only []); omega)) | (apply OQ.lssN; exact rfl; exact rfl) | (apply OQ.fld; exact rfl; exact rfl; exact rfl; exact (by decide); exact rfl)) rfl ?_ | refine JC.seq ?_ | refine JC.region ?_ | refine JC.block ?_ | refine JC.skip ?_ | refine JC.exit ?_ | refine JL.nil ?_ | refine JE.next ?_ | refine JE.blk_normal ?_ | refine JE.then_exit ?_ | refine JE.blk_hit ?_ | refine JE.blk_miss rfl ?_ | refine JE.then_ret ?_ | refine JE.blk_ret ?_ | refine JC.label ?_ | refine JL.gon rfl rfl ?_ | refine JL.gskip rfl rfl rfl rfl ?_ | refine JL.gskipU rfl rfl rfl rfl ?_))
          refine JE.again (i := (i, b, cap)) (i + 1, b'', cap'') hi' (by show v.length - (i + 1) < v.length - i; omega) ?_ ?_
          · dsimp only
            rw [e]
            dsimp only
            rw [List.length_append]
            exact (by repeat (first | exact SubE.nil | refine SubE.cons _ _ _ rfl ?_))
          · dsimp only
            rw [e]
            dsimp only
            rw [List.length_append, List.map_append]
            exact Less.refl _
        · have e := hst1 rfl
          simp only [if_true]
          have hl3 : (O ++ [13, 10]).length ≤ n.length + 4 + 3 * i := by simp only [List.length_append, List.length_cons, List.length_nil]; omega
          generalize O ++ [13, 10] = O2 at e hl3 ⊢
          (repeat (first | refine JL.q (by first | (apply i0; exact rfl; exact rfl) | (apply OQ.move; exact rfl) | (apply OQ.assign; exact rfl) | (apply OQ.len; exact rfl; exact rfl) | (apply OQ.addN; exact rfl; exact rfl; exact (by (try simp only []); omega)) | (apply OQ.subN; exact rfl; exact rfl; exact (by (try simp only []); omega); exact (by (try simp only []); omega)) | (apply OQ.lssN; exact rfl; exact rfl) | (apply OQ.fld; exact rfl; exact rfl; exact rfl; exact (by decide); exact rfl)) rfl ?_ | refine JC.seq ?_ | refine JC.region ?_ | refine JC.block ?_ | refine JC.skip ?_ | refine JC.exit ?_ | refine JL.nil ?_ | refine JE.next ?_ | refine JE.blk_normal ?_ | refine JE.then_exit ?_ | refine JE.blk_hit ?_ | refine JE.blk_miss rfl ?_ | refine JE.then_ret ?_ | refine JE.blk_ret ?_ | refine JC.label ?_ | refine JL.gon rfl rfl ?_ | refine JL.gskip rfl rfl rfl rfl ?_ | refine JL.gskipU rfl rfl rfl rfl ?_))
          refine JL.pushF (v := U8 (v.getD i 0)) (xs := O2.map U8) (fun b' cap' => [⟨b', OwnF 5 (O2.length + 1) cap' (O2.map U8 ++ [U8 (v.getD i 0)]), true⟩]) Tryd.underlying25 u8e rfl rfl rfl (fun _ => rfl) (by intro _ _; repeat (first | exact Repl.here | apply Repl.there)) (by omega) rfl rfl fun bl b'' cap'' => ?_
          (repeat (first | refine JL.q (by first | (apply OQ.move; exact rfl) | (apply OQ.assign; exact rfl) | (apply OQ.len; exact rfl; exact rfl) | (apply OQ.addN; exact rfl; exact rfl; exact (by (try simp only []); omega)) | (apply OQ.subN; exact rfl; exact rfl; exact (by (try simp only []); omega); exact (by (try simp only []); omega)) | (apply OQ.lssN; exact rfl; exact rfl) | (apply OQ.fld; exact rfl; exact rfl; exact rfl; exact (by decide); exact rfl)) rfl ?_ | refine JC.seq ?_ | refine JC.region ?_ | refine JC.block ?_ | refine JC.skip ?_ | refine JC.exit ?_ | refine JL.nil ?_ | refine JE.next ?_ | refine JE.blk_normal ?_ | refine JE.then_exit ?_ | refine JE.blk_hit ?_ | refine JE.blk_miss rfl ?_ | refine JE.then_ret ?_ | refine JE.blk_ret ?_ | refine JC.label ?_ | refine JL.gon rfl rfl ?_ | refine JL.gskip rfl rfl rfl rfl ?_ | refine JL.gskipU rfl rfl rfl rfl ?_))
          refine JE.again (i := (i, b, cap)) (i + 1, b'', cap'') hi' (by show v.length - (i + 1) < v.length - i; omega) ?_ ?_
          · dsimp only
            rw [e]
            dsimp only
            rw [List.length_append]
            exact (by repeat (first | exact SubE.nil | refine SubE.cons _ _ _ rfl ?_))
          · dsimp only
            rw [e]
            dsimp only
            rw [List.length_append, List.map_append]
            exact Less.refl _)
  · have hi' : ¬ i < v.length := of_decide_eq_false h
    obtain rfl : i = v.length := by omega
    clear h hi hi'
    repeat (first | refine JL.q (by first | (apply OQ.move; exact rfl) | (apply OQ.assign; exact rfl) | (apply OQ.len; exact rfl; exact rfl) | (apply OQ.addN; exact rfl; exact rfl; exact (by (try simp only []); omega)) | (apply OQ.subN; exact rfl; exact rfl; exact (by (try simp only []); omega); exact (by (try simp only []); omega)) | (apply OQ.lssN; exact rfl; exact rfl) | (apply OQ.fld; exact rfl; exact rfl; exact rfl; exact (by decide); exact rfl)) rfl ?_ | refine JC.seq ?_ | refine JC.region ?_ | refine JC.block ?_ | refine JC.skip ?_ | refine JC.exit ?_ | refine JL.nil ?_ | refine JE.next ?_ | refine JE.blk_normal ?_ | refine JE.then_exit ?_ | refine JE.blk_hit ?_ | refine JE.blk_miss rfl ?_ | refine JE.then_ret ?_ | refine JE.blk_ret ?_ | refine JC.label ?_ | refine JL.gon rfl rfl ?_ | refine JL.gskip rfl rfl rfl rfl ?_ | refine JL.gskipU rfl rfl rfl rfl ?_)
    refine JL.pushF2 (v1 := U8 13) (v2 := U8 10) (xs := (st n v v.length).1.map U8) (fun b' cap' => [⟨b', OwnF 5 ((st n v v.length).1.length + 2) cap' ((st n v v.length).1.map U8 ++ [U8 13, U8 10]), true⟩]) Tryd.underlying25 u8e rfl rfl rfl rfl rfl rfl (fun _ => rfl) (by intro _ _; repeat (first | exact Repl.here | apply Repl.there)) (by omega) rfl rfl fun bl b' cap' => ?_
    repeat (first | refine JL.q (by first | (apply OQ.move; exact rfl) | (apply OQ.assign; exact rfl) | (apply OQ.len; exact rfl; exact rfl) | (apply OQ.addN; exact rfl; exact rfl; exact (by (try simp only []); omega)) | (apply OQ.subN; exact rfl; exact rfl; exact (by (try simp only []); omega); exact (by (try simp only []); omega)) | (apply OQ.lssN; exact rfl; exact rfl) | (apply OQ.fld; exact rfl; exact rfl; exact rfl; exact (by decide); exact rfl)) rfl ?_ | refine JC.seq ?_ | refine JC.region ?_ | refine JC.block ?_ | refine JC.skip ?_ | refine JC.exit ?_ | refine JL.nil ?_ | refine JE.next ?_ | refine JE.blk_normal ?_ | refine JE.then_exit ?_ | refine JE.blk_hit ?_ | refine JE.blk_miss rfl ?_ | refine JE.then_ret ?_ | refine JE.blk_ret ?_ | refine JC.label ?_ | refine JL.gon rfl rfl ?_ | refine JL.gskip rfl rfl rfl rfl ?_ | refine JL.gskipU rfl rfl rfl rfl ?_)
    refine JC.ret (JE.ret1 rfl (RV.tmp rfl) ?_)
    intro w' hw
    refine ⟨⟨some ⟨b', 0, none⟩, cap', foldB n v⟩, ?_, ⟨rfl, by simp⟩, hw.weak ?_⟩
    · show _ = Ending.returned (Value.slice _ (foldB n v).length _)
      rw [foldB, List.length_append]; rfl
    · have hl : (foldB n v).length = (st n v v.length).1.length + 2 := by rw [foldB, List.length_append]; rfl
      have := ownF_ents (e := 5) (b := b') (cap := cap') hl
      rw [foldB, List.map_append] at this
      exact this
end Go.Proofs.YtchoiikhepjdiaaDoor
