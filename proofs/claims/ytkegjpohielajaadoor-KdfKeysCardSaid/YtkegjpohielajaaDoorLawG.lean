/-
  Of no statement by itself: what despatchlaw02.KdfSteps answers.
  Conditions: the theorem's own.
-/
import Derived.Test.YtkegjpohielajaaDoorKdfF
namespace Go.Proofs.YtkegjpohielajaaDoor
open Sl Sha

def ck (c : List B) : Nat → List B
  | 0 => c
  | i + 1 => hmac (ck c i) [2]
theorem ck_length (c : List B) (hc : c.length = 32) : ∀ i, (ck c i).length = 32
  | 0 => hc
  | _ + 1 => rfl
theorem and31_le (a : Int) : (BitVec.ofInt 64 a &&& BitVec.ofNat 64 31).toNat ≤ 31 := by
  rw [BitVec.toNat_and]
  exact Nat.le_trans Nat.and_le_right (by decide)
def needE : Nat → List (Nat × Nat)
  | 4 => [(2, 5), (0, 16)]
  | 5 => [(3, 6), (1, 17)]
  | _ => []
def inpE : Nat → List Nat
  | 0 => [6]
  | 1 => [6]
  | 4 => [2]
  | 5 => [3]
  | _ => []
def eatE : Nat → List Nat
  | 4 => [2]
  | 5 => [3]
  | _ => []
def srcE : Nat → Option Nat
  | 4 => some 2
  | 5 => some 3
  | _ => none
def needF : Nat → List (Nat × Nat)
  | 2 => [(0, 55)]
  | 3 => [(1, 56)]
  | _ => []
def inpF : Nat → List Nat
  | 0 => [4]
  | 1 => [4]
  | 2 => [5]
  | 3 => [6]
  | _ => []
def eatF : Nat → List Nat
  | 2 => [5]
  | 3 => [6]
  | _ => []

set_option maxHeartbeats 16000000 in
theorem law_kdfSteps (c : List B) (nn : Int) (w : World) (hG : GOk w) (hc : c.length = 32) (_ : -9223372036854775808 ≤ nn ∧ nn ≤ 9223372036854775807) :
    Calls Tryd.prog 10 [.agg (c.map U8).toArray, .int .i64 nn].toArray w fun e w' => e = .returned (.bool true) ∧ Ext w w' := by
  refine enter (n := 60) Tryd.func10 rfl rfl rfl (Holds.start w []) ?_
  repeat (first | refine JL.q (by first | (apply OQ.move; exact rfl) | (apply OQ.assign; exact rfl) | (apply OQ.addN; exact rfl; exact rfl; exact (by (try simp only []); omega)) | (apply OQ.lssN; exact rfl; exact rfl)) rfl ?_ | refine JC.seq ?_ | refine JC.region ?_ | refine JC.block ?_ | refine JC.skip ?_ | refine JC.exit ?_ | refine JL.nil ?_ | refine JE.next ?_ | refine JE.blk_normal ?_ | refine JE.then_exit ?_ | refine JE.blk_hit ?_ | refine JE.blk_miss rfl ?_ | refine JE.then_ret ?_ | refine JE.blk_ret ?_ | refine JC.label ?_ | refine JL.gon rfl rfl ?_ | refine JL.gskip rfl rfl rfl rfl ?_)
  refine JL.box (r := c.map U8) rfl rfl rfl fun b2 _ => ?_
  repeat (first | refine JL.q (by first | (apply OQ.callx; exact goes_speaks2; exact rfl; exact (fun w' hw' => speaks2_any w' (hG.chg hw'.chg (by simp)))) | (apply OQ.not; exact rfl) | (apply OQ.move; exact rfl) | (apply OQ.assign; exact rfl) | (apply OQ.addN; exact rfl; exact rfl; exact (by (try simp only []); omega)) | (apply OQ.lssN; exact rfl; exact rfl)) rfl ?_ | refine JC.seq ?_ | refine JC.region ?_ | refine JC.block ?_ | refine JC.skip ?_ | refine JC.exit ?_ | refine JL.nil ?_ | refine JE.next ?_ | refine JE.blk_normal ?_ | refine JE.then_exit ?_ | refine JE.blk_hit ?_ | refine JE.blk_miss rfl ?_ | refine JE.then_ret ?_ | refine JE.blk_ret ?_ | refine JC.label ?_ | refine JL.gon rfl rfl ?_ | refine JL.gskip rfl rfl rfl rfl ?_)
  refine JC.cond_false rfl rfl ?_
  repeat (first | refine JL.q (by first | (apply OQ.move; exact rfl) | (apply OQ.assign; exact rfl) | (apply OQ.addN; exact rfl; exact rfl; exact (by (try simp only []); omega)) | (apply OQ.lssN; exact rfl; exact rfl)) rfl ?_ | refine JC.seq ?_ | refine JC.region ?_ | refine JC.block ?_ | refine JC.skip ?_ | refine JC.exit ?_ | refine JL.nil ?_ | refine JE.next ?_ | refine JE.blk_normal ?_ | refine JE.then_exit ?_ | refine JE.blk_hit ?_ | refine JE.blk_miss rfl ?_ | refine JE.then_ret ?_ | refine JE.blk_ret ?_ | refine JC.label ?_ | refine JL.gon rfl rfl ?_ | refine JL.gskip rfl rfl rfl rfl ?_)
  let vs : Nat → X → Value := fun i x => match i with
    | 2 => Pt x.1 0
    | 3 => Pt x.1 0
    | _ => .agg (c.map U8).toArray
  let Ms : Nat → X → List Ent := fun i x => match i with
    | 2 => [⟨x.1, Row 25 ((List.replicate 32 (0 : B)).map U8), true⟩]
    | 3 => [⟨x.1, Row 25 ((List.replicate 32 (0 : B)).map U8), true⟩]
    | 4 => [⟨x.1, Row 25 (c.map U8), true⟩]
    | 5 => [⟨x.1, Row 25 (c.map U8), true⟩]
    | 6 => [⟨b2, Row 25 (c.map U8), true⟩]
    | _ => []
  refine JC.grow (g := ⟨[(1, .int .i64 nn), (2, Pt b2 0)], 7, vs, Ms, needE, inpE, eatE, srcE⟩) [(2, 5), (3, 6)] [4, 5] mixed (by repeat (first | exact SubE.nil | refine SubE.cons _ _ _ rfl ?_)) ?_ ?_ ?_ ?_ ?_ ?_
  · exact Less.refl _
  · rfl
  · rfl
  · rfl
  · refine ⟨?_, ?_, ?_, ?_, ?_, ?_, trivial⟩
    · intro x EF MF Q kk
      exact JL.q (OQ.load_agg (cs := c.map U8) a25 s25 rfl .here (by simpa using hc) Row.all) rfl (JL.nil (kk (0, 0) nofun))
    · intro x EF MF Q kk
      exact JL.q (OQ.load_agg (cs := c.map U8) a25 s25 rfl .here (by simpa using hc) Row.all) rfl (JL.nil (kk (0, 0) nofun))
    · intro x EF MF Q kk
      exact JL.alloc zc25 rfl fun b _ => JL.nil (kk (b, 0) nofun)
    · intro x EF MF Q kk
      exact JL.alloc zc25 rfl fun b _ => JL.nil (kk (b, 0) nofun)
    · intro x EF MF Q kk
      exact JL.store_all s25 rfl rfl (by simpa using hc) (all8 _) .here (by simp) (JL.nil (kk (x 2) (fun k h => by cases h; rfl)))
    · intro x EF MF Q kk
      exact JL.store_all s25 rfl rfl (by simpa using hc) (all8 _) .here (by simp) (JL.nil (kk (x 3) (fun k h => by cases h; rfl)))
  · intro x hx
    have h4 := hx 4 2 (by decide) rfl
    have h5 := hx 5 3 (by decide) rfl
    show JE _ _ _ _ _ [(5, Pt (x 2).1 0), (6, Pt (x 3).1 0), (1, .int .i64 nn), (2, Pt b2 0)] [⟨(x 4).1, Row 25 (c.map U8), true⟩, ⟨(x 5).1, Row 25 (c.map U8), true⟩]
    rw [h4, h5]
    generalize (x 2).1 = b5
    generalize (x 3).1 = b6
    clear hx h4 h5 x vs Ms
    repeat (first | refine JL.q (by first | (apply OQ.move; exact rfl) | (apply OQ.assign; exact rfl) | (apply OQ.addN; exact rfl; exact rfl; exact (by (try simp only []); omega)) | (apply OQ.lssN; exact rfl; exact rfl)) rfl ?_ | refine JC.seq ?_ | refine JC.region ?_ | refine JC.block ?_ | refine JC.skip ?_ | refine JC.exit ?_ | refine JL.nil ?_ | refine JE.next ?_ | refine JE.blk_normal ?_ | refine JE.then_exit ?_ | refine JE.blk_hit ?_ | refine JE.blk_miss rfl ?_ | refine JE.then_ret ?_ | refine JE.blk_ret ?_ | refine JC.label ?_ | refine JL.gon rfl rfl ?_ | refine JL.gskip rfl rfl rfl rfl ?_)
    have hlow := and31_le nn
    refine JC.loop (fun i : Nat => [(1, .int .i64 nn), (5, Pt b5 0), (6, Pt b6 0), (7, N i)]) (fun i => [⟨b5, Row 25 ((ck c i).map U8), true⟩, ⟨b6, Row 25 ((ck c i).map U8), true⟩]) (fun i => 31 - i) (fun i => i ≤ 31) 0 (by omega) (by repeat (first | exact SubE.nil | refine SubE.cons _ _ _ rfl ?_)) (Less.refl _) ?_
    intro i hi
    have hci := ck_length c hc i
    have hcs : hmac (ck c i) [2] = ck c (i + 1) := rfl
    have hci2 := ck_length c hc (i + 1)
    generalize hJ : (BitVec.ofInt 64 nn &&& BitVec.ofNat 64 31).toNat = nl at hlow
    repeat (first | refine JL.q (by first | (apply OQ.lowI; exact rfl; exact rfl; exact (by decide)) | (apply OQ.move; exact rfl) | (apply OQ.assign; exact rfl) | (apply OQ.addN; exact rfl; exact rfl; exact (by (try simp only []); omega)) | (apply OQ.lssN; exact rfl; exact rfl)) rfl ?_ | refine JC.seq ?_ | refine JC.region ?_ | refine JC.block ?_ | refine JC.skip ?_ | refine JC.exit ?_ | refine JL.nil ?_ | refine JE.next ?_ | refine JE.blk_normal ?_ | refine JE.then_exit ?_ | refine JE.blk_hit ?_ | refine JE.blk_miss rfl ?_ | refine JE.then_ret ?_ | refine JE.blk_ret ?_ | refine JC.label ?_ | refine JL.gon rfl rfl ?_ | refine JL.gskip rfl rfl rfl rfl ?_)
    refine JC.cond rfl (fun h => ?_) (fun h => ?_)
    · have hi' : i < nl := by
        have := of_decide_eq_true h
        rwa [hJ] at this
      clear h hi
      have hk := kstep_any (ck c i) hci
      have hr := rkstep_any (ck c i) hci
      rw [hcs] at hk hr
      generalize ha1 : ck c i = a at hci hk hr ⊢
      generalize ha2 : ck c (i + 1) = a2 at hci2 hk hr
      repeat (first | refine JL.q (by first | (apply OQ.load_agg (cs := a.map U8); exact a25; exact s25; exact rfl; exact (by repeat (first | exact Has.here | apply Has.there)); exact (by simpa using hci); exact Row.all) | (apply OQ.callx; exact goes_kstep; exact rfl; exact (fun w' hw' => hk w' (hG.chg hw'.chg (by simp)))) | (apply OQ.extract; exact rfl; exact rfl) | (apply OQ.move; exact rfl) | (apply OQ.assign; exact rfl) | (apply OQ.addN; exact rfl; exact rfl; exact (by (try simp only []); omega)) | (apply OQ.lssN; exact rfl; exact rfl)) rfl ?_ | refine JC.seq ?_ | refine JC.region ?_ | refine JC.block ?_ | refine JC.skip ?_ | refine JC.exit ?_ | refine JL.nil ?_ | refine JE.next ?_ | refine JE.blk_normal ?_ | refine JE.then_exit ?_ | refine JE.blk_hit ?_ | refine JE.blk_miss rfl ?_ | refine JE.then_ret ?_ | refine JE.blk_ret ?_ | refine JC.label ?_ | refine JL.gon rfl rfl ?_ | refine JL.gskip rfl rfl rfl rfl ?_)
      refine JL.alloc zc25 rfl fun b8 _ => ?_
      refine JL.alloc zc25 rfl fun b9 _ => ?_
      repeat (first | refine JL.q (by first | (apply OQ.move; exact rfl) | (apply OQ.assign; exact rfl) | (apply OQ.addN; exact rfl; exact rfl; exact (by (try simp only []); omega)) | (apply OQ.lssN; exact rfl; exact rfl)) rfl ?_ | refine JC.seq ?_ | refine JC.region ?_ | refine JC.block ?_ | refine JC.skip ?_ | refine JC.exit ?_ | refine JL.nil ?_ | refine JE.next ?_ | refine JE.blk_normal ?_ | refine JE.then_exit ?_ | refine JE.blk_hit ?_ | refine JE.blk_miss rfl ?_ | refine JE.then_ret ?_ | refine JE.blk_ret ?_ | refine JC.label ?_ | refine JL.gon rfl rfl ?_ | refine JL.gskip rfl rfl rfl rfl ?_)
      refine JL.store_all s25 rfl rfl (by simpa using hci2) (all8 _) (.there .here) (by simp) ?_
      repeat (first | refine JL.q (by first | (apply OQ.move; exact rfl) | (apply OQ.assign; exact rfl) | (apply OQ.addN; exact rfl; exact rfl; exact (by (try simp only []); omega)) | (apply OQ.lssN; exact rfl; exact rfl)) rfl ?_ | refine JC.seq ?_ | refine JC.region ?_ | refine JC.block ?_ | refine JC.skip ?_ | refine JC.exit ?_ | refine JL.nil ?_ | refine JE.next ?_ | refine JE.blk_normal ?_ | refine JE.then_exit ?_ | refine JE.blk_hit ?_ | refine JE.blk_miss rfl ?_ | refine JE.then_ret ?_ | refine JE.blk_ret ?_ | refine JC.label ?_ | refine JL.gon rfl rfl ?_ | refine JL.gskip rfl rfl rfl rfl ?_)
      refine JL.store_all s25 rfl rfl (shal _) (all8 _) .here (by simp) ?_
      repeat (first | refine JL.q (by first | (apply OQ.load_agg (cs := a.map U8); exact a25; exact s25; exact rfl; exact (by repeat (first | exact Has.here | apply Has.there)); exact (by simpa using hci); exact Row.all) | (apply OQ.load_agg (cs := a2.map U8); exact a25; exact s25; exact rfl; exact (by repeat (first | exact Has.here | apply Has.there)); exact (by simpa using hci2); exact Row.all) | (apply OQ.load_agg (cs := (hmac a [1]).map U8); exact a25; exact s25; exact rfl; exact (by repeat (first | exact Has.here | apply Has.there)); exact (shal _); exact Row.all) | (apply OQ.callx; exact goes_rkstep; exact rfl; exact (fun w' hw' => hr w')) | (apply OQ.extract; exact rfl; exact rfl) | (apply OQ.move; exact rfl) | (apply OQ.assign; exact rfl) | (apply OQ.addN; exact rfl; exact rfl; exact (by (try simp only []); omega)) | (apply OQ.lssN; exact rfl; exact rfl)) rfl ?_ | refine JC.seq ?_ | refine JC.region ?_ | refine JC.block ?_ | refine JC.skip ?_ | refine JC.exit ?_ | refine JL.nil ?_ | refine JE.next ?_ | refine JE.blk_normal ?_ | refine JE.then_exit ?_ | refine JE.blk_hit ?_ | refine JE.blk_miss rfl ?_ | refine JE.then_ret ?_ | refine JE.blk_ret ?_ | refine JC.label ?_ | refine JL.gon rfl rfl ?_ | refine JL.gskip rfl rfl rfl rfl ?_)
      refine JL.alloc zc25 rfl fun b10 _ => ?_
      refine JL.alloc zc25 rfl fun b11 _ => ?_
      repeat (first | refine JL.q (by first | (apply OQ.move; exact rfl) | (apply OQ.assign; exact rfl) | (apply OQ.addN; exact rfl; exact rfl; exact (by (try simp only []); omega)) | (apply OQ.lssN; exact rfl; exact rfl)) rfl ?_ | refine JC.seq ?_ | refine JC.region ?_ | refine JC.block ?_ | refine JC.skip ?_ | refine JC.exit ?_ | refine JL.nil ?_ | refine JE.next ?_ | refine JE.blk_normal ?_ | refine JE.then_exit ?_ | refine JE.blk_hit ?_ | refine JE.blk_miss rfl ?_ | refine JE.then_ret ?_ | refine JE.blk_ret ?_ | refine JC.label ?_ | refine JL.gon rfl rfl ?_ | refine JL.gskip rfl rfl rfl rfl ?_)
      refine JL.store_all s25 rfl rfl (by simpa using hci2) (all8 _) (.there .here) (by simp) ?_
      repeat (first | refine JL.q (by first | (apply OQ.move; exact rfl) | (apply OQ.assign; exact rfl) | (apply OQ.addN; exact rfl; exact rfl; exact (by (try simp only []); omega)) | (apply OQ.lssN; exact rfl; exact rfl)) rfl ?_ | refine JC.seq ?_ | refine JC.region ?_ | refine JC.block ?_ | refine JC.skip ?_ | refine JC.exit ?_ | refine JL.nil ?_ | refine JE.next ?_ | refine JE.blk_normal ?_ | refine JE.then_exit ?_ | refine JE.blk_hit ?_ | refine JE.blk_miss rfl ?_ | refine JE.then_ret ?_ | refine JE.blk_ret ?_ | refine JC.label ?_ | refine JL.gon rfl rfl ?_ | refine JL.gskip rfl rfl rfl rfl ?_)
      refine JL.store_all s25 rfl rfl (shal _) (all8 _) .here (by simp) ?_
      repeat (first | refine JL.q (by first | (apply OQ.load_agg (cs := a.map U8); exact a25; exact s25; exact rfl; exact (by repeat (first | exact Has.here | apply Has.there)); exact (by simpa using hci); exact Row.all) | (apply OQ.load_agg (cs := a2.map U8); exact a25; exact s25; exact rfl; exact (by repeat (first | exact Has.here | apply Has.there)); exact (by simpa using hci2); exact Row.all) | (apply OQ.load_agg (cs := (hmac a [1]).map U8); exact a25; exact s25; exact rfl; exact (by repeat (first | exact Has.here | apply Has.there)); exact (shal _); exact Row.all) | (apply OQ.neA_f; exact Tryd.underlying25; exact Tryd.underlying5; exact s5; exact gd25; exact rfl; exact rfl; exact hci2; exact hci2; exact rfl) | (apply OQ.neA_f; exact Tryd.underlying25; exact Tryd.underlying5; exact s5; exact gd25; exact rfl; exact rfl; exact rfl; exact rfl; exact rfl) | (apply OQ.pick_f; exact rfl; exact rfl) | (apply OQ.move; exact rfl) | (apply OQ.assign; exact rfl) | (apply OQ.addN; exact rfl; exact rfl; exact (by (try simp only []); omega)) | (apply OQ.lssN; exact rfl; exact rfl)) rfl ?_ | refine JC.seq ?_ | refine JC.region ?_ | refine JC.block ?_ | refine JC.skip ?_ | refine JC.exit ?_ | refine JL.nil ?_ | refine JE.next ?_ | refine JE.blk_normal ?_ | refine JE.then_exit ?_ | refine JE.blk_hit ?_ | refine JE.blk_miss rfl ?_ | refine JE.then_ret ?_ | refine JE.blk_ret ?_ | refine JC.label ?_ | refine JL.gon rfl rfl ?_ | refine JL.gskip rfl rfl rfl rfl ?_)
      refine JC.cond_false rfl rfl ?_
      repeat (first | refine JL.q (by first | (apply OQ.load_agg (cs := a.map U8); exact a25; exact s25; exact rfl; exact (by repeat (first | exact Has.here | apply Has.there)); exact (by simpa using hci); exact Row.all) | (apply OQ.load_agg (cs := a2.map U8); exact a25; exact s25; exact rfl; exact (by repeat (first | exact Has.here | apply Has.there)); exact (by simpa using hci2); exact Row.all) | (apply OQ.load_agg (cs := (hmac a [1]).map U8); exact a25; exact s25; exact rfl; exact (by repeat (first | exact Has.here | apply Has.there)); exact (shal _); exact Row.all) | (apply OQ.callx; exact goes_kstep; exact rfl; exact (fun w' hw' => hk w' (hG.chg hw'.chg (by simp)))) | (apply OQ.extract; exact rfl; exact rfl) | (apply OQ.move; exact rfl) | (apply OQ.assign; exact rfl) | (apply OQ.addN; exact rfl; exact rfl; exact (by (try simp only []); omega)) | (apply OQ.lssN; exact rfl; exact rfl)) rfl ?_ | refine JC.seq ?_ | refine JC.region ?_ | refine JC.block ?_ | refine JC.skip ?_ | refine JC.exit ?_ | refine JL.nil ?_ | refine JE.next ?_ | refine JE.blk_normal ?_ | refine JE.then_exit ?_ | refine JE.blk_hit ?_ | refine JE.blk_miss rfl ?_ | refine JE.then_ret ?_ | refine JE.blk_ret ?_ | refine JC.label ?_ | refine JL.gon rfl rfl ?_ | refine JL.gskip rfl rfl rfl rfl ?_)
      refine JL.alloc zc25 rfl fun b12 _ => ?_
      refine JL.alloc zc25 rfl fun b13 _ => ?_
      repeat (first | refine JL.q (by first | (apply OQ.move; exact rfl) | (apply OQ.assign; exact rfl) | (apply OQ.addN; exact rfl; exact rfl; exact (by (try simp only []); omega)) | (apply OQ.lssN; exact rfl; exact rfl)) rfl ?_ | refine JC.seq ?_ | refine JC.region ?_ | refine JC.block ?_ | refine JC.skip ?_ | refine JC.exit ?_ | refine JL.nil ?_ | refine JE.next ?_ | refine JE.blk_normal ?_ | refine JE.then_exit ?_ | refine JE.blk_hit ?_ | refine JE.blk_miss rfl ?_ | refine JE.then_ret ?_ | refine JE.blk_ret ?_ | refine JC.label ?_ | refine JL.gon rfl rfl ?_ | refine JL.gskip rfl rfl rfl rfl ?_)
      refine JL.store_all s25 rfl rfl (by simpa using hci2) (all8 _) (.there .here) (by simp) ?_
      repeat (first | refine JL.q (by first | (apply OQ.move; exact rfl) | (apply OQ.assign; exact rfl) | (apply OQ.addN; exact rfl; exact rfl; exact (by (try simp only []); omega)) | (apply OQ.lssN; exact rfl; exact rfl)) rfl ?_ | refine JC.seq ?_ | refine JC.region ?_ | refine JC.block ?_ | refine JC.skip ?_ | refine JC.exit ?_ | refine JL.nil ?_ | refine JE.next ?_ | refine JE.blk_normal ?_ | refine JE.then_exit ?_ | refine JE.blk_hit ?_ | refine JE.blk_miss rfl ?_ | refine JE.then_ret ?_ | refine JE.blk_ret ?_ | refine JC.label ?_ | refine JL.gon rfl rfl ?_ | refine JL.gskip rfl rfl rfl rfl ?_)
      refine JL.store_all s25 rfl rfl (shal _) (all8 _) .here (by simp) ?_
      repeat (first | refine JL.q (by first | (apply OQ.load_agg (cs := a.map U8); exact a25; exact s25; exact rfl; exact (by repeat (first | exact Has.here | apply Has.there)); exact (by simpa using hci); exact Row.all) | (apply OQ.load_agg (cs := a2.map U8); exact a25; exact s25; exact rfl; exact (by repeat (first | exact Has.here | apply Has.there)); exact (by simpa using hci2); exact Row.all) | (apply OQ.load_agg (cs := (hmac a [1]).map U8); exact a25; exact s25; exact rfl; exact (by repeat (first | exact Has.here | apply Has.there)); exact (shal _); exact Row.all) | (apply OQ.neA_f; exact Tryd.underlying25; exact Tryd.underlying5; exact s5; exact gd25; exact rfl; exact rfl; exact hci2; exact hci2; exact rfl) | (apply OQ.neA_f; exact Tryd.underlying25; exact Tryd.underlying5; exact s5; exact gd25; exact rfl; exact rfl; exact rfl; exact rfl; exact rfl) | (apply OQ.pick_f; exact rfl; exact rfl) | (apply OQ.move; exact rfl) | (apply OQ.assign; exact rfl) | (apply OQ.addN; exact rfl; exact rfl; exact (by (try simp only []); omega)) | (apply OQ.lssN; exact rfl; exact rfl)) rfl ?_ | refine JC.seq ?_ | refine JC.region ?_ | refine JC.block ?_ | refine JC.skip ?_ | refine JC.exit ?_ | refine JL.nil ?_ | refine JE.next ?_ | refine JE.blk_normal ?_ | refine JE.then_exit ?_ | refine JE.blk_hit ?_ | refine JE.blk_miss rfl ?_ | refine JE.then_ret ?_ | refine JE.blk_ret ?_ | refine JC.label ?_ | refine JL.gon rfl rfl ?_ | refine JL.gskip rfl rfl rfl rfl ?_)
      refine JC.cond_false rfl rfl ?_
      repeat (first | refine JL.q (by first | (apply OQ.move; exact rfl) | (apply OQ.assign; exact rfl) | (apply OQ.addN; exact rfl; exact rfl; exact (by (try simp only []); omega)) | (apply OQ.lssN; exact rfl; exact rfl)) rfl ?_ | refine JC.seq ?_ | refine JC.region ?_ | refine JC.block ?_ | refine JC.skip ?_ | refine JC.exit ?_ | refine JL.nil ?_ | refine JE.next ?_ | refine JE.blk_normal ?_ | refine JE.then_exit ?_ | refine JE.blk_hit ?_ | refine JE.blk_miss rfl ?_ | refine JE.then_ret ?_ | refine JE.blk_ret ?_ | refine JC.label ?_ | refine JL.gon rfl rfl ?_ | refine JL.gskip rfl rfl rfl rfl ?_)
      let vs : Nat → X → Value := fun _ _ => .agg (a2.map U8).toArray
      let Ms : Nat → X → List Ent := fun i _ => match i with
        | 2 => [⟨b5, Row 25 (a2.map U8), true⟩]
        | 3 => [⟨b6, Row 25 (a2.map U8), true⟩]
        | 4 => [⟨b10, Row 25 (a2.map U8), true⟩, ⟨b8, Row 25 (a2.map U8), true⟩]
        | 5 => [⟨b5, Row 25 (a.map U8), true⟩]
        | 6 => [⟨b6, Row 25 (a.map U8), true⟩]
        | _ => []
      refine JC.grow (g := ⟨[(1, .int .i64 nn), (5, Pt b5 0), (6, Pt b6 0), (7, N i), (8, Pt b8 0), (10, Pt b10 0)], 7, vs, Ms, needF, inpF, eatF, fun _ => none⟩) [] [2, 3] mixed (by repeat (first | exact SubE.nil | refine SubE.cons _ _ _ rfl ?_)) ?_ ?_ ?_ ?_ ?_ ?_
      · exact .drop _ _ _ (.drop _ _ _ (.drop _ _ _ (.keep _ _ _ _ _ _ (fun _ h => h) (.drop _ _ _ (.keep _ _ _ _ _ _ (fun _ h => h) (Less.refl _))))))
      · rfl
      · rfl
      · rfl
      · refine ⟨?_, ?_, ?_, ?_, trivial⟩
        · intro x EF MF Q kk
          exact JL.q (OQ.load_agg (cs := a2.map U8) a25 s25 rfl (.there .here) (by simpa using hci2) Row.all) rfl (JL.nil (kk (0, 0) nofun))
        · intro x EF MF Q kk
          exact JL.q (OQ.load_agg (cs := a2.map U8) a25 s25 rfl .here (by simpa using hci2) Row.all) rfl (JL.nil (kk (0, 0) nofun))
        · intro x EF MF Q kk
          exact JL.store_all s25 rfl rfl (by simpa using hci2) (all8 _) .here (by simpa using hci) (JL.nil (kk (0, 0) nofun))
        · intro x EF MF Q kk
          exact JL.store_all s25 rfl rfl (by simpa using hci2) (all8 _) .here (by simpa using hci) (JL.nil (kk (0, 0) nofun))
      · intro x _
        subst ha1
        subst ha2
        repeat (first | refine JL.q (by first | (apply OQ.move; exact rfl) | (apply OQ.assign; exact rfl) | (apply OQ.addN; exact rfl; exact rfl; exact (by (try simp only []); omega)) | (apply OQ.lssN; exact rfl; exact rfl)) rfl ?_ | refine JC.seq ?_ | refine JC.region ?_ | refine JC.block ?_ | refine JC.skip ?_ | refine JC.exit ?_ | refine JL.nil ?_ | refine JE.next ?_ | refine JE.blk_normal ?_ | refine JE.then_exit ?_ | refine JE.blk_hit ?_ | refine JE.blk_miss rfl ?_ | refine JE.then_ret ?_ | refine JE.blk_ret ?_ | refine JC.label ?_ | refine JL.gon rfl rfl ?_ | refine JL.gskip rfl rfl rfl rfl ?_)
        exact JE.again (i := i) (i + 1) (by omega) (by omega) (by repeat (first | exact SubE.nil | refine SubE.cons _ _ _ rfl ?_)) (Less.refl _)
    · repeat (first | refine JL.q (by first | (apply OQ.load_agg (cs := (ck c i).map U8); exact a25; exact s25; exact rfl; exact (by repeat (first | exact Has.here | apply Has.there)); exact (by simpa using hci); exact Row.all) | (apply OQ.eqA_t; exact Tryd.underlying25; exact Tryd.underlying5; exact s5; exact gd25; exact rfl; exact rfl; exact hci; exact hci; exact rfl) | (apply OQ.move; exact rfl) | (apply OQ.assign; exact rfl) | (apply OQ.addN; exact rfl; exact rfl; exact (by (try simp only []); omega)) | (apply OQ.lssN; exact rfl; exact rfl)) rfl ?_ | refine JC.seq ?_ | refine JC.region ?_ | refine JC.block ?_ | refine JC.skip ?_ | refine JC.exit ?_ | refine JL.nil ?_ | refine JE.next ?_ | refine JE.blk_normal ?_ | refine JE.then_exit ?_ | refine JE.blk_hit ?_ | refine JE.blk_miss rfl ?_ | refine JE.then_ret ?_ | refine JE.blk_ret ?_ | refine JC.label ?_ | refine JL.gon rfl rfl ?_ | refine JL.gskip rfl rfl rfl rfl ?_)
      refine JC.ret ?_
      repeat (first | refine JL.q (by first | (apply OQ.move; exact rfl) | (apply OQ.assign; exact rfl) | (apply OQ.addN; exact rfl; exact rfl; exact (by (try simp only []); omega)) | (apply OQ.lssN; exact rfl; exact rfl)) rfl ?_ | refine JC.seq ?_ | refine JC.region ?_ | refine JC.block ?_ | refine JC.skip ?_ | refine JC.exit ?_ | refine JL.nil ?_ | refine JE.next ?_ | refine JE.blk_normal ?_ | refine JE.then_exit ?_ | refine JE.blk_hit ?_ | refine JE.blk_miss rfl ?_ | refine JE.then_ret ?_ | refine JE.blk_ret ?_ | refine JC.label ?_ | refine JL.gon rfl rfl ?_ | refine JL.gskip rfl rfl rfl rfl ?_)
      exact JE.ret1 rfl (RV.tmp rfl) fun w' hw => ⟨rfl, hw.chg⟩
end Go.Proofs.YtkegjpohielajaaDoor
