/-
  Of no statement by itself: what kdf.Step and the reference's Step give.
  Conditions: each theorem's own.
-/
import Derived.Test.YtkegjpohielajaaDoorKdfA
namespace Go.Proofs.YtkegjpohielajaaDoor
open Sl Sha

def needC : Nat → List (Nat × Nat)
  | 2 => [(1, 5)]
  | 3 => [(0, 4), (2, 6)]
  | 6 => [(5, 9)]
  | 7 => [(4, 8), (6, 10)]
  | 8 => [(3, 7)]
  | 9 => [(7, 11)]
  | _ => []
def inpC : Nat → List Nat
  | 2 => [1]
  | 3 => [2, 12]
  | 6 => [5]
  | 7 => [6, 12]
  | 8 => [11]
  | 9 => [10]
  | _ => []
def eatC : Nat → List Nat
  | 2 => [1]
  | 6 => [5]
  | 8 => [11]
  | 9 => [10]
  | _ => []
def key0 : List Value := (List.replicate 32 (0 : B)).map U8
theorem two_ok {c : List B} (hc : c.length = 32) {w' : World} {b b6 b5 : Nat} {u : B} (h1 : ∃ o, w'.heap[b]? = some o ∧ Row 25 (c.map U8) o) (h2 : ∃ o, w'.heap[b6]? = some o ∧ Row 22 [.slice (some ⟨b5, 0, none⟩) 1 1] o) (h3 : ∃ o, w'.heap[b5]? = some o ∧ Row 5 [U8 u] o) (hG : GOk w') :
    Calls Tryd.prog 14 [.slice (some ⟨b, 0, none⟩) 32 32, .slice (some ⟨b6, 0, none⟩) 1 1].toArray w' fun e w'' => e = .returned (.agg ((hmac c [u]).map U8).toArray) ∧ Ext w' w'' := by
  obtain ⟨o1, ho1, hA1⟩ := h1
  obtain ⟨o2, ho2, hA2⟩ := h2
  obtain ⟨o3, ho3, hA3⟩ := h3
  have h4 : Sl8.ok w' ⟨some ⟨b5, 0, none⟩, 1, [u]⟩ := ⟨by simp, Reads.block ho3 (Row.all _ hA3)⟩
  have := hmac_any ⟨some ⟨b, 0, none⟩, 32, c⟩ (some ⟨b6, 0, none⟩) 1 [⟨some ⟨b5, 0, none⟩, 1, [u]⟩] w' hG ⟨Nat.le_of_eq hc, Reads.block ho1 (Row.all _ hA1)⟩ (Reads.block ho2 (Row.all _ hA2)) (by simpa using h4) (show c.length < 4611686018427387904 by omega) (by simp) (by simp [total])
  simpa [Sl8.v, hc] using this

set_option maxHeartbeats 8000000 in
theorem kstep_any (c : List B) (hc : c.length = 32) (w : World) (hG : GOk w) :
    Calls Tryd.prog 28 [.agg (c.map U8).toArray].toArray w fun e w' => e = .returned (.tuple #[.agg ((hmac c [2]).map U8).toArray, .agg ((hmac c [1]).map U8).toArray]) ∧ Ext w w' := by
  refine enter (n := 12) Tryd.func28 rfl rfl rfl (Holds.start w []) ?_
  repeat (first | refine JL.q (by first | (apply OQ.move; exact rfl) | (apply OQ.assign; exact rfl)) rfl ?_ | refine JC.seq ?_ | refine JC.region ?_ | refine JC.block ?_ | refine JC.skip ?_ | refine JC.exit ?_ | refine JL.nil ?_ | refine JE.next ?_ | refine JE.blk_normal ?_ | refine JE.then_exit ?_ | refine JE.blk_hit ?_ | refine JE.blk_miss rfl ?_ | refine JE.then_ret ?_ | refine JE.blk_ret ?_ | refine JC.label ?_ | refine JL.gon rfl rfl ?_ | refine JL.gskip rfl rfl rfl rfl ?_)
  refine JL.box (r := c.map U8) rfl rfl rfl fun b1 _ => ?_
  refine JL.alloc zc25 rfl fun b2 _ => ?_
  refine JL.alloc zc25 rfl fun b3 _ => ?_
  repeat (first | refine JL.q (by first | (apply OQ.move; exact rfl) | (apply OQ.assign; exact rfl)) rfl ?_ | refine JC.seq ?_ | refine JC.region ?_ | refine JC.block ?_ | refine JC.skip ?_ | refine JC.exit ?_ | refine JL.nil ?_ | refine JE.next ?_ | refine JE.blk_normal ?_ | refine JE.then_exit ?_ | refine JE.blk_hit ?_ | refine JE.blk_miss rfl ?_ | refine JE.then_ret ?_ | refine JE.blk_ret ?_ | refine JC.label ?_ | refine JL.gon rfl rfl ?_ | refine JL.gskip rfl rfl rfl rfl ?_)
  let vs : Nat → X → Value := fun i x => match i with
    | 0 => .slice (some ⟨b1, 0, none⟩) 32 32
    | 1 => .slice (some ⟨x.1, 0, none⟩) 1 1
    | 2 => .slice (some ⟨x.1, 0, none⟩) 1 1
    | 3 => .agg ((hmac c [2]).map U8).toArray
    | 4 => .slice (some ⟨b1, 0, none⟩) 32 32
    | 5 => .slice (some ⟨x.1, 0, none⟩) 1 1
    | 6 => .slice (some ⟨x.1, 0, none⟩) 1 1
    | _ => .agg ((hmac c [1]).map U8).toArray
  let Ms : Nat → X → List Ent := fun i x => match i with
    | 1 => [⟨x.1, Row 5 [U8 2], true⟩]
    | 2 => [⟨x.1, Row 22 [.slice (some ⟨x.2, 0, none⟩) 1 1], true⟩, ⟨x.2, Row 5 [U8 2], true⟩]
    | 5 => [⟨x.1, Row 5 [U8 1], true⟩]
    | 6 => [⟨x.1, Row 22 [.slice (some ⟨x.2, 0, none⟩) 1 1], true⟩, ⟨x.2, Row 5 [U8 1], true⟩]
    | 8 => [⟨b2, Row 25 ((hmac c [2]).map U8), true⟩]
    | 9 => [⟨b3, Row 25 ((hmac c [1]).map U8), true⟩]
    | 12 => [⟨b1, Row 25 (c.map U8), true⟩]
    | 11 => [⟨b2, Row 25 ((List.replicate 32 (0 : B)).map U8), true⟩]
    | 10 => [⟨b3, Row 25 ((List.replicate 32 (0 : B)).map U8), true⟩]
    | _ => []
  refine JC.grow (g := ⟨[(1, Pt b1 0), (2, Pt b2 0), (3, Pt b3 0)], 13, vs, Ms, needC, inpC, eatC, fun _ => none⟩) [] [8, 9] mixed (by repeat (first | exact SubE.nil | refine SubE.cons _ _ _ rfl ?_)) ?_ ?_ ?_ ?_ ?_ ?_
  · exact Less.refl _
  · rfl
  · rfl
  · rfl
  · refine ⟨?_, ?_, ?_, ?_, ?_, ?_, ?_, ?_, ?_, ?_, trivial⟩
    · intro x EF MF Q kk
      exact JL.q (OQ.slA Tryd.underlying25 s5 rfl) rfl (JL.nil (kk (0, 0) nofun))
    · intro x EF MF Q kk
      exact JL.lit1 Tryd.underlying22 e5 rfl rfl rfl rfl fun b _ => JL.nil (kk (b, 0) nofun)
    · intro x EF MF Q kk
      exact JL.lit1 Tryd.underlying30 e22 rfl rfl rfl rfl fun b _ => JL.nil (kk (b, (x 1).1) nofun)
    · intro x EF MF Q kk
      refine JL.q (OQ.callx (vs := [.slice (some ⟨b1, 0, none⟩) 32 32, .slice (some ⟨(x 2).1, 0, none⟩) 1 1]) goes_hmac rfl fun w' hw' => two_ok hc (hw'.get (.there (.there .here))) (hw'.get .here) (hw'.get (.there .here)) (hG.chg hw'.chg (by simp))) rfl (JL.nil (kk (0, 0) nofun))
    · intro x EF MF Q kk
      exact JL.q (OQ.slA Tryd.underlying25 s5 rfl) rfl (JL.nil (kk (0, 0) nofun))
    · intro x EF MF Q kk
      exact JL.lit1 Tryd.underlying22 e5 rfl rfl rfl rfl fun b _ => JL.nil (kk (b, 0) nofun)
    · intro x EF MF Q kk
      exact JL.lit1 Tryd.underlying30 e22 rfl rfl rfl rfl fun b _ => JL.nil (kk (b, (x 5).1) nofun)
    · intro x EF MF Q kk
      refine JL.q (OQ.callx (vs := [.slice (some ⟨b1, 0, none⟩) 32 32, .slice (some ⟨(x 6).1, 0, none⟩) 1 1]) goes_hmac rfl fun w' hw' => two_ok hc (hw'.get (.there (.there .here))) (hw'.get .here) (hw'.get (.there .here)) (hG.chg hw'.chg (by simp))) rfl (JL.nil (kk (0, 0) nofun))
    · intro x EF MF Q kk
      exact JL.store_all s25 rfl rfl (shal _) (all8 _) .here (by simp) (JL.nil (kk (0, 0) nofun))
    · intro x EF MF Q kk
      exact JL.store_all s25 rfl rfl (shal _) (all8 _) .here (by simp) (JL.nil (kk (0, 0) nofun))
  · intro x _
    repeat (first | refine JL.q (by first | (apply OQ.move; exact rfl) | (apply OQ.assign; exact rfl)) rfl ?_ | refine JC.seq ?_ | refine JC.region ?_ | refine JC.block ?_ | refine JC.skip ?_ | refine JC.exit ?_ | refine JL.nil ?_ | refine JE.next ?_ | refine JE.blk_normal ?_ | refine JE.then_exit ?_ | refine JE.blk_hit ?_ | refine JE.blk_miss rfl ?_ | refine JE.then_ret ?_ | refine JE.blk_ret ?_ | refine JC.label ?_ | refine JL.gon rfl rfl ?_ | refine JL.gskip rfl rfl rfl rfl ?_)
    refine JC.ret ?_
    repeat (first | refine JL.q (by first | (apply OQ.move; exact rfl) | (apply OQ.assign; exact rfl)) rfl ?_ | refine JC.seq ?_ | refine JC.region ?_ | refine JC.block ?_ | refine JC.skip ?_ | refine JC.exit ?_ | refine JL.nil ?_ | refine JE.next ?_ | refine JE.blk_normal ?_ | refine JE.then_exit ?_ | refine JE.blk_hit ?_ | refine JE.blk_miss rfl ?_ | refine JE.then_ret ?_ | refine JE.blk_ret ?_ | refine JC.label ?_ | refine JL.gon rfl rfl ?_ | refine JL.gskip rfl rfl rfl rfl ?_)
    refine JE.ret2 rfl (RV.cell_agg a25 s25 rfl .here (shal _) Row.all) (RV.cell_agg a25 s25 rfl (.there .here) (shal _) Row.all) fun w' hw => ⟨rfl, hw.chg⟩

def needD : Nat → List (Nat × Nat)
  | 2 => [(0, 4), (1, 5)]
  | 5 => [(3, 7), (4, 8)]
  | 6 => [(2, 6)]
  | 7 => [(5, 9)]
  | _ => []
def inpD : Nat → List Nat
  | 2 => [1, 10]
  | 5 => [4, 10]
  | 6 => [9]
  | 7 => [8]
  | _ => []
def eatD : Nat → List Nat
  | 6 => [9]
  | 7 => [8]
  | _ => []
theorem rtwo_ok {c : List B} (hc : c.length = 32) {w' : World} {b b5 : Nat} {u : B} (h1 : ∃ o, w'.heap[b]? = some o ∧ Row 25 (c.map U8) o) (h3 : ∃ o, w'.heap[b5]? = some o ∧ Row 5 [U8 u] o) :
    Calls Tryd.prog 15 [.slice (some ⟨b, 0, none⟩) 32 32, .slice (some ⟨b5, 0, none⟩) 1 1].toArray w' fun e w'' => e = .returned (.agg ((hmac c [u]).map U8).toArray) ∧ Ext w' w'' := by
  obtain ⟨o1, ho1, hA1⟩ := h1
  obtain ⟨o3, ho3, hA3⟩ := h3
  have := rhmac_any ⟨some ⟨b, 0, none⟩, 32, c⟩ ⟨some ⟨b5, 0, none⟩, 1, [u]⟩ w' ⟨Nat.le_of_eq hc, Reads.block ho1 (Row.all _ hA1)⟩ ⟨by simp, Reads.block ho3 (Row.all _ hA3)⟩ (show c.length < 35184372088000 by omega) (by simp)
  simpa [Sl8.v, hc] using this

set_option maxHeartbeats 8000000 in
theorem rkstep_any (c : List B) (hc : c.length = 32) (w : World) :
    Calls Tryd.prog 29 [.agg (c.map U8).toArray].toArray w fun e w' => e = .returned (.tuple #[.agg ((hmac c [2]).map U8).toArray, .agg ((hmac c [1]).map U8).toArray]) ∧ Ext w w' := by
  refine enter (n := 10) Tryd.func29 rfl rfl rfl (Holds.start w []) ?_
  repeat (first | refine JL.q (by first | (apply OQ.move; exact rfl) | (apply OQ.assign; exact rfl)) rfl ?_ | refine JC.seq ?_ | refine JC.region ?_ | refine JC.block ?_ | refine JC.skip ?_ | refine JC.exit ?_ | refine JL.nil ?_ | refine JE.next ?_ | refine JE.blk_normal ?_ | refine JE.then_exit ?_ | refine JE.blk_hit ?_ | refine JE.blk_miss rfl ?_ | refine JE.then_ret ?_ | refine JE.blk_ret ?_ | refine JC.label ?_ | refine JL.gon rfl rfl ?_ | refine JL.gskip rfl rfl rfl rfl ?_)
  refine JL.box (r := c.map U8) rfl rfl rfl fun b1 _ => ?_
  refine JL.alloc zc25 rfl fun b2 _ => ?_
  refine JL.alloc zc25 rfl fun b3 _ => ?_
  repeat (first | refine JL.q (by first | (apply OQ.move; exact rfl) | (apply OQ.assign; exact rfl)) rfl ?_ | refine JC.seq ?_ | refine JC.region ?_ | refine JC.block ?_ | refine JC.skip ?_ | refine JC.exit ?_ | refine JL.nil ?_ | refine JE.next ?_ | refine JE.blk_normal ?_ | refine JE.then_exit ?_ | refine JE.blk_hit ?_ | refine JE.blk_miss rfl ?_ | refine JE.then_ret ?_ | refine JE.blk_ret ?_ | refine JC.label ?_ | refine JL.gon rfl rfl ?_ | refine JL.gskip rfl rfl rfl rfl ?_)
  let vs : Nat → X → Value := fun i x => match i with
    | 0 => .slice (some ⟨b1, 0, none⟩) 32 32
    | 1 => .slice (some ⟨x.1, 0, none⟩) 1 1
    | 2 => .agg ((hmac c [2]).map U8).toArray
    | 3 => .slice (some ⟨b1, 0, none⟩) 32 32
    | 4 => .slice (some ⟨x.1, 0, none⟩) 1 1
    | _ => .agg ((hmac c [1]).map U8).toArray
  let Ms : Nat → X → List Ent := fun i x => match i with
    | 1 => [⟨x.1, Row 5 [U8 2], true⟩]
    | 4 => [⟨x.1, Row 5 [U8 1], true⟩]
    | 6 => [⟨b2, Row 25 ((hmac c [2]).map U8), true⟩]
    | 7 => [⟨b3, Row 25 ((hmac c [1]).map U8), true⟩]
    | 8 => [⟨b3, Row 25 ((List.replicate 32 (0 : B)).map U8), true⟩]
    | 9 => [⟨b2, Row 25 ((List.replicate 32 (0 : B)).map U8), true⟩]
    | 10 => [⟨b1, Row 25 (c.map U8), true⟩]
    | _ => []
  refine JC.grow (g := ⟨[(1, Pt b1 0), (2, Pt b2 0), (3, Pt b3 0)], 11, vs, Ms, needD, inpD, eatD, fun _ => none⟩) [] [6, 7] mixed (by repeat (first | exact SubE.nil | refine SubE.cons _ _ _ rfl ?_)) ?_ ?_ ?_ ?_ ?_ ?_
  · exact Less.refl _
  · rfl
  · rfl
  · rfl
  · refine ⟨?_, ?_, ?_, ?_, ?_, ?_, ?_, ?_, trivial⟩
    · intro x EF MF Q kk
      exact JL.q (OQ.slA Tryd.underlying25 s5 rfl) rfl (JL.nil (kk (0, 0) nofun))
    · intro x EF MF Q kk
      exact JL.lit1 Tryd.underlying22 e5 rfl rfl rfl rfl fun b _ => JL.nil (kk (b, 0) nofun)
    · intro x EF MF Q kk
      exact JL.q (OQ.callx (vs := [.slice (some ⟨b1, 0, none⟩) 32 32, .slice (some ⟨(x 1).1, 0, none⟩) 1 1]) goes_rhmac rfl fun w' hw' => rtwo_ok hc (hw'.get (.there .here)) (hw'.get .here)) rfl (JL.nil (kk (0, 0) nofun))
    · intro x EF MF Q kk
      exact JL.q (OQ.slA Tryd.underlying25 s5 rfl) rfl (JL.nil (kk (0, 0) nofun))
    · intro x EF MF Q kk
      exact JL.lit1 Tryd.underlying22 e5 rfl rfl rfl rfl fun b _ => JL.nil (kk (b, 0) nofun)
    · intro x EF MF Q kk
      exact JL.q (OQ.callx (vs := [.slice (some ⟨b1, 0, none⟩) 32 32, .slice (some ⟨(x 4).1, 0, none⟩) 1 1]) goes_rhmac rfl fun w' hw' => rtwo_ok hc (hw'.get (.there .here)) (hw'.get .here)) rfl (JL.nil (kk (0, 0) nofun))
    · intro x EF MF Q kk
      exact JL.store_all s25 rfl rfl (shal _) (all8 _) .here (by simp) (JL.nil (kk (0, 0) nofun))
    · intro x EF MF Q kk
      exact JL.store_all s25 rfl rfl (shal _) (all8 _) .here (by simp) (JL.nil (kk (0, 0) nofun))
  · intro x _
    repeat (first | refine JL.q (by first | (apply OQ.move; exact rfl) | (apply OQ.assign; exact rfl)) rfl ?_ | refine JC.seq ?_ | refine JC.region ?_ | refine JC.block ?_ | refine JC.skip ?_ | refine JC.exit ?_ | refine JL.nil ?_ | refine JE.next ?_ | refine JE.blk_normal ?_ | refine JE.then_exit ?_ | refine JE.blk_hit ?_ | refine JE.blk_miss rfl ?_ | refine JE.then_ret ?_ | refine JE.blk_ret ?_ | refine JC.label ?_ | refine JL.gon rfl rfl ?_ | refine JL.gskip rfl rfl rfl rfl ?_)
    refine JC.ret ?_
    repeat (first | refine JL.q (by first | (apply OQ.move; exact rfl) | (apply OQ.assign; exact rfl)) rfl ?_ | refine JC.seq ?_ | refine JC.region ?_ | refine JC.block ?_ | refine JC.skip ?_ | refine JC.exit ?_ | refine JL.nil ?_ | refine JE.next ?_ | refine JE.blk_normal ?_ | refine JE.then_exit ?_ | refine JE.blk_hit ?_ | refine JE.blk_miss rfl ?_ | refine JE.then_ret ?_ | refine JE.blk_ret ?_ | refine JC.label ?_ | refine JL.gon rfl rfl ?_ | refine JL.gskip rfl rfl rfl rfl ?_)
    refine JE.ret2 rfl (RV.cell_agg a25 s25 rfl .here (shal _) Row.all) (RV.cell_agg a25 s25 rfl (.there .here) (shal _) Row.all) fun w' hw => ⟨rfl, hw.chg⟩
end Go.Proofs.YtkegjpohielajaaDoor
