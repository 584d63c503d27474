/-
  Of no statement by itself: the texts LawO, LawP, LawR in one.
  Conditions: each theorem's own.
-/
import Derived.Test.YtakgpocehoeakaaDoorSc
set_option linter.unusedSimpArgs false
set_option linter.unusedVariables false
/-
  Of no statement by itself: what despatchlaw04.SealKeys answers.
  Conditions: the theorem's own.
-/
namespace Go.Proofs.YtakgpocehoeakaaDoor
set_option maxRecDepth 10000
open Sl Sha Str

def needY : Nat → List (Nat × Nat)
  | 4 => [(0, 35), (1, 36), (2, 37), (3, 38)]
  | 9 => [(5, 40), (6, 41), (7, 42), (8, 43)]
  | 10 => [(4, 39)]
  | 11 => [(9, 44)]
  | _ => []
def inpY : Nat → List Nat
  | 0 => [13]
  | 1 => [12]
  | 5 => [13]
  | 6 => [12]
  | _ => []
def srcY : Nat → Option Nat
  | 10 => some 4
  | 11 => some 9
  | _ => none

set_option maxHeartbeats 4000000 in
set_option maxRecDepth 4000 in
theorem law_sealKeys (key nonce : List B) (s a b0 : Sl8) (w : World) (hG : GOk w) (hQ : GQ w) (hk : key.length = 32) (hn : nonce.length = 12) (hs : s.ok w) (ha : a.ok w) (hb0 : b0.ok w) :
    Calls Tryd.prog 6 [.agg (key.map U8).toArray, .agg (nonce.map U8).toArray, s.v, a.v, b0.v].toArray w fun e w' => e = .returned (.bool true) ∧ Ext w w' := by
  refine enter (n := 96) Tryd.func6 rfl rfl rfl (Holds.start w []) ?_
  repeat (first | refine JC.seq ?_ | refine JC.region ?_)
  refine JL.box (r := key.map U8) rfl rfl rfl fun b5 _ => ?_
  refine JL.box (r := nonce.map U8) rfl rfl rfl fun b6 _ => ?_
  repeat (first | refine JL.q (by first | (apply OQ.callx; exact goes_speaks4; exact rfl; exact (fun w' hw' => speaks4_any w' (hG.chg hw'.chg (by simp)) (hQ.chg hw'.chg (by simp)))) | (apply OQ.not; exact rfl) | (apply OQ.assign; exact rfl)) rfl ?_ | refine JC.seq ?_ | refine JC.region ?_ | refine JL.nil ?_ | refine JE.next ?_)
  refine JC.cond_false rfl rfl ?_
  by_cases g0 : 1000 < a.l.length
  · repeat (first | refine JL.q (by first | (apply OQ.gtrN_t; exact rfl; exact rfl; exact g0) | (apply OQ.pick_t; exact rfl; exact rfl) | (apply OQ.move; exact rfl) | (apply OQ.len; exact rfl; exact rfl)) rfl ?_ | refine JC.seq ?_ | refine JC.region ?_ | refine JC.skip ?_ | refine JL.nil ?_ | refine JE.next ?_ | refine JL.gskip rfl rfl rfl rfl ?_)
    refine JC.cond_true rfl rfl ?_
    repeat (first | refine JL.q (by (apply OQ.assign; exact rfl)) rfl ?_ | refine JC.seq ?_ | refine JC.region ?_ | refine JL.nil ?_ | refine JE.next ?_)
    refine JC.ret ?_
    repeat (refine JE.then_ret ?_)
    exact JE.ret1 rfl (RV.tmp rfl) fun w' hw => ⟨rfl, hw.chg⟩
  by_cases g1 : b0.l.length < a.l.length
  · repeat (first | refine JL.q (by first | (apply OQ.gtrN_f; exact rfl; exact rfl; exact g0) | (apply OQ.lssN_t; exact rfl; exact rfl; exact g1) | (apply OQ.pick_t; exact rfl; exact rfl) | (apply OQ.pick_f; exact rfl; exact rfl) | (apply OQ.move; exact rfl) | (apply OQ.len; exact rfl; exact rfl)) rfl ?_ | refine JC.seq ?_ | refine JC.region ?_ | refine JC.skip ?_ | refine JL.nil ?_ | refine JE.next ?_ | refine JL.gon rfl rfl ?_ | refine JL.gskip rfl rfl rfl rfl ?_)
    refine JC.cond_true rfl rfl ?_
    repeat (first | refine JL.q (by (apply OQ.assign; exact rfl)) rfl ?_ | refine JC.seq ?_ | refine JC.region ?_ | refine JL.nil ?_ | refine JE.next ?_)
    refine JC.ret ?_
    repeat (refine JE.then_ret ?_)
    exact JE.ret1 rfl (RV.tmp rfl) fun w' hw => ⟨rfl, hw.chg⟩
  by_cases g2 : 300 < s.l.length
  · repeat (first | refine JL.q (by first | (apply OQ.gtrN_f; exact rfl; exact rfl; exact g0) | (apply OQ.lssN_f; exact rfl; exact rfl; exact g1) | (apply OQ.gtrN_t; exact rfl; exact rfl; exact g2) | (apply OQ.pick_f; exact rfl; exact rfl) | (apply OQ.move; exact rfl) | (apply OQ.len; exact rfl; exact rfl)) rfl ?_ | refine JC.seq ?_ | refine JC.region ?_ | refine JC.skip ?_ | refine JL.nil ?_ | refine JE.next ?_ | refine JL.gon rfl rfl ?_)
    refine JC.cond_true rfl rfl ?_
    repeat (first | refine JL.q (by (apply OQ.assign; exact rfl)) rfl ?_ | refine JC.seq ?_ | refine JC.region ?_ | refine JL.nil ?_ | refine JE.next ?_)
    refine JC.ret ?_
    repeat (refine JE.then_ret ?_)
    exact JE.ret1 rfl (RV.tmp rfl) fun w' hw => ⟨rfl, hw.chg⟩
  repeat (first | refine JL.q (by first | (apply OQ.gtrN_f; exact rfl; exact rfl; exact g0) | (apply OQ.lssN_f; exact rfl; exact rfl; exact g1) | (apply OQ.gtrN_f; exact rfl; exact rfl; exact g2) | (apply OQ.pick_f; exact rfl; exact rfl) | (apply OQ.move; exact rfl) | (apply OQ.len; exact rfl; exact rfl)) rfl ?_ | refine JC.seq ?_ | refine JC.region ?_ | refine JC.skip ?_ | refine JL.nil ?_ | refine JE.next ?_ | refine JL.gon rfl rfl ?_)
  refine JC.cond_false rfl rfl ?_
  have hle : a.l.length ≤ b0.l.length := by omega
  have hb := hb0.fst a.l.length
  have hbl : (b0.fst a.l.length).l.length = a.l.length := by show (b0.l.take a.l.length).length = _; rw [List.length_take]; omega
  repeat (first | refine JL.q (by first | (apply OQ.fst (s := b0); exact Tryd.underlying26; exact s5; exact rfl; exact rfl; exact hle; exact hb0.len) | (apply OQ.move; exact rfl) | (apply OQ.assign; exact rfl) | (apply OQ.len; exact rfl; exact rfl)) rfl ?_ | refine JC.seq ?_ | refine JC.region ?_ | refine JC.skip ?_ | refine JL.nil ?_ | refine JE.next ?_)
  generalize b0.fst a.l.length = b at hb hbl
  obtain ⟨X', hX'⟩ : ∃ o, sealK (k1 key) (k2 key) nonce s.l a.l = o := ⟨_, rfl⟩
  obtain ⟨Y', hY'⟩ : ∃ o, sealK (k1 key) (k2 key) nonce s.l b.l = o := ⟨_, rfl⟩
  have hXl : X'.length = a.l.length + 32 := by rw [← hX', sealK_length]
  have hYl : Y'.length = a.l.length + 32 := by rw [← hY', sealK_length, hbl]
  have hxy : ∀ i, i < a.l.length → X'.getD i 0 ^^^ Y'.getD i 0 = a.l.getD i 0 ^^^ b.l.getD i 0 := fun i hi => by
    rw [← hX', ← hY', sealK_get _ _ _ _ _ i hi, sealK_get _ _ _ _ _ i (by omega), BitVec.xor_comm (b.l.getD i 0), BitVec.xor_assoc, ← BitVec.xor_assoc (sb _ _ _ _), BitVec.xor_self, BitVec.zero_xor]
  have hsame : decide (X' = Y') = decide (a.l = b.l) := by rw [← hX', ← hY']; exact sealK_inj _ _ _ _ hbl.symm
  let vs : Nat → X → Value := fun j z => match j with
    | 0 => .agg (key.map U8).toArray
    | 1 => .agg (nonce.map U8).toArray
    | 2 => s.v
    | 3 => a.v
    | 5 => .agg (key.map U8).toArray
    | 6 => .agg (nonce.map U8).toArray
    | 7 => s.v
    | 8 => b.v
    | _ => .slice (some ⟨z.1, 0, none⟩) (a.l.length + 32) z.2
  let Ms : Nat → X → List Ent := fun j z => match j with
    | 4 => [⟨z.1, Sl.Own 5 1 (a.l.length + 32) z.2 (X'.map U8), true⟩]
    | 9 => [⟨z.1, Sl.Own 5 1 (a.l.length + 32) z.2 (Y'.map U8), true⟩]
    | 12 => [⟨b6, Row 25 (nonce.map U8), true⟩]
    | 13 => [⟨b5, Row 23 (key.map U8), true⟩]
    | _ => []
  refine JC.grow (g := ⟨[(2, s.v), (3, a.v), (4, b.v), (5, Pt b5 0), (6, Pt b6 0)], 14, vs, Ms, needY, inpY, fun _ => [], srcY⟩) [(10, 11), (11, 12)] [4, 9] mixed (by repeat (first | exact SubE.nil | refine SubE.cons _ _ _ rfl ?_)) (Less.refl _) (by kernel_rfl) (by kernel_rfl) (by kernel_rfl) ?_ ?_
  · refine ⟨?_, ?_, ?_, ?_, ?_, ?_, ?_, ?_, ?_, ?_, ?_, ?_, trivial⟩
    iterate 4 (focus (intro x EF MF Q kk; (try refine JL.gon rfl rfl ?_); exact JL.q (by first | (apply OQ.load_agg (cs := key.map U8); exact a25; exact s25; exact rfl; exact .here; exact (by simpa using hk); exact Row.all) | (apply OQ.load_agg (cs := nonce.map U8); exact noa; exact nos; exact rfl; exact .here; exact (by simpa using hn); exact Row.all) | (apply OQ.move; exact rfl)) rfl (JL.nil (kk default nofun))))
    · intro z EF MF Q kk
      exact JL.callg (ι := Nat × Nat) (fun x => .slice (some ⟨x.1, 0, none⟩) (a.l.length + 32) x.2) (fun x => [⟨x.1, Sl.Own 5 1 (a.l.length + 32) x.2 (X'.map U8), true⟩]) goes_seal rfl rfl (fun i => by simp) (fun w' hw' => sealO_any rfl rfl hX' rfl hk hn (hG.chg hw'.chg (by simp)) (hQ.chg hw'.chg (by simp)) (hs.holds hw' rfl) (ha.holds hw' rfl) (by omega) (by omega)) fun i => JL.nil (kk i nofun)
    iterate 4 (focus (intro x EF MF Q kk; (try refine JL.gon rfl rfl ?_); exact JL.q (by first | (apply OQ.load_agg (cs := key.map U8); exact a25; exact s25; exact rfl; exact .here; exact (by simpa using hk); exact Row.all) | (apply OQ.load_agg (cs := nonce.map U8); exact noa; exact nos; exact rfl; exact .here; exact (by simpa using hn); exact Row.all) | (apply OQ.move; exact rfl)) rfl (JL.nil (kk default nofun))))
    · intro z EF MF Q kk
      exact JL.callg (ι := Nat × Nat) (fun x => .slice (some ⟨x.1, 0, none⟩) (a.l.length + 32) x.2) (fun x => [⟨x.1, Sl.Own 5 1 (a.l.length + 32) x.2 (Y'.map U8), true⟩]) goes_seal rfl rfl (fun i => by simp) (fun w' hw' => sealO_any rfl rfl hY' hbl hk hn (hG.chg hw'.chg (by simp)) (hQ.chg hw'.chg (by simp)) (hs.holds hw' rfl) (hb.holds hw' rfl) (by omega) (by omega)) fun i => JL.nil (kk i nofun)
    · intro z EF MF Q kk
      exact JL.q (OQ.assign rfl) rfl (JL.nil (kk (z 4) (fun k h => by cases h; rfl)))
    · intro z EF MF Q kk
      exact JL.q (OQ.assign rfl) rfl (JL.nil (kk (z 9) (fun k h => by cases h; rfl)))
  · intro z hz
    have h10 := hz 10 4 (by decide) rfl
    have h11 := hz 11 9 (by decide) rfl
    show JE _ _ _ _ _ [(11, .slice (some ⟨(z 10).1, 0, none⟩) (a.l.length + 32) (z 10).2), (12, .slice (some ⟨(z 11).1, 0, none⟩) (a.l.length + 32) (z 11).2), (2, s.v), (3, a.v), (4, b.v), (5, Pt b5 0), (6, Pt b6 0)]
      [⟨(z 4).1, Sl.Own 5 1 (a.l.length + 32) (z 4).2 (X'.map U8), true⟩, ⟨(z 9).1, Sl.Own 5 1 (a.l.length + 32) (z 9).2 (Y'.map U8), true⟩]
    rw [h10, h11]
    obtain ⟨b11, c11⟩ := z 4
    obtain ⟨b12, c12⟩ := z 9
    clear hz h10 h11 z vs Ms
    dsimp only
    repeat (first | refine JL.q (by first | (apply OQ.nei_f; exact rfl; exact rfl; exact rfl) | (apply OQ.pick_f; exact rfl; exact rfl) | (apply OQ.move; exact rfl) | (apply OQ.len; exact rfl; exact rfl) | (apply OQ.addN; exact rfl; exact rfl; exact (by (try simp only []); omega))) rfl ?_ | refine JC.seq ?_ | refine JC.region ?_ | refine JL.nil ?_ | refine JE.next ?_ | refine JL.gon rfl rfl ?_)
    refine JC.cond_false rfl rfl ?_
    repeat (first | refine JL.q (by first | (apply OQ.move; exact rfl) | (apply OQ.len; exact rfl; exact rfl)) rfl ?_ | refine JC.seq ?_ | refine JC.region ?_ | refine JC.block ?_ | refine JC.skip ?_ | refine JL.nil ?_ | refine JE.next ?_)
    refine JC.loop (fun i : Nat => [(3, a.v), (4, b.v), (11, .slice (some ⟨b11, 0, none⟩) (a.l.length + 32) c11), (12, .slice (some ⟨b12, 0, none⟩) (a.l.length + 32) c12), (59, N a.l.length), (60, N i)])
      (fun _ => [⟨b11, Sl.Own 5 1 (a.l.length + 32) c11 (X'.map U8), true⟩, ⟨b12, Sl.Own 5 1 (a.l.length + 32) c12 (Y'.map U8), true⟩]) (fun i => a.l.length - i) (fun i => i ≤ a.l.length) 0 (by omega) (by repeat (first | exact SubE.nil | refine SubE.cons _ _ _ rfl ?_)) (Less.refl _) ?_
    intro i hi
    repeat (first | refine JL.q (by (apply OQ.lssN; exact rfl; exact rfl)) rfl ?_ | refine JC.seq ?_ | refine JC.region ?_ | refine JL.nil ?_ | refine JE.next ?_)
    refine JC.cond rfl (fun h => ?_) (fun h => ?_)
    · have hi' : i < a.l.length := of_decide_eq_true h
      clear h hi
      obtain ⟨ba, ja, hae, hca⟩ := ha.reads.at (by simp; omega)
      obtain ⟨bb, jb, hbe, hcb⟩ := hb.reads.at (by simp; omega)
      have hca := hca i _ (map_at U8 0 hi')
      have hcb := hcb i _ (map_at U8 0 (show i < b.l.length by omega))
      have hav : a.v = .slice (some ⟨ba, ja, none⟩) a.l.length a.cap := by rw [← hae]; rfl
      have hbv : b.v = .slice (some ⟨bb, jb, none⟩) b.l.length b.cap := by rw [← hbe]; rfl
      rw [hav, hbv]
      repeat (first | refine JL.q (by first | (apply OQ.move; exact rfl) | (apply OQ.assign; exact rfl)) rfl ?_ | refine JC.seq ?_ | refine JC.region ?_ | refine JC.block ?_ | refine JC.skip ?_ | refine JL.nil ?_ | refine JE.next ?_)
      refine JC.quiet mixed (by kernel_rfl) ?_
      repeat (first | refine JQ.q (by first | (apply OQ.idxS1 (b := ba); exact Tryd.underlying26; exact s5; exact rfl; exact rfl; exact hi') | (apply OQ.idxS1 (b := bb); exact Tryd.underlying26; exact s5; exact rfl; exact rfl; exact (show i < b.l.length by omega)) | (apply OQ.idxS0 (b := b11); exact Tryd.underlying26; exact s5; exact rfl; exact rfl; exact (show i < a.l.length + 32 by omega)) | (apply OQ.idxS0 (b := b12); exact Tryd.underlying26; exact s5; exact rfl; exact rfl; exact (show i < a.l.length + 32 by omega)) | (apply OQ.load_old; exact c5; exact rfl; exact (block_lt_of_cell hca); exact (by simp); exact hca) | (apply OQ.load_old; exact c5; exact rfl; exact (block_lt_of_cell hcb); exact (by simp); exact hcb) | (apply OQ.load (b := b11); exact c5; exact rfl; exact .here; exact (Sl.Own.cell (map_at U8 0 (by omega)))) | (apply OQ.load (b := b12); exact c5; exact rfl; exact (.there .here); exact (Sl.Own.cell (map_at U8 0 (by omega)))) | (apply OQ.ne8_f; exact rfl; exact rfl; exact (hxy i hi')) | (apply OQ.move; exact rfl) | (apply OQ.xor8; exact rfl; exact rfl)) rfl ?_ | refine JQ.nil ?_ | refine JE.next ?_)
      refine JC.cond_false rfl rfl ?_
      rw [← hav, ← hbv]
      repeat (first | refine JL.q (by first | (apply OQ.move; exact rfl) | (apply OQ.addN; exact rfl; exact rfl; exact (by (try simp only []); omega))) rfl ?_ | refine JC.region ?_ | refine JC.skip ?_ | refine JL.nil ?_ | refine JE.next ?_ | refine JE.blk_normal ?_)
      exact JE.again (i := i) (i + 1) (by omega) (by omega) (by repeat (first | exact SubE.nil | refine SubE.cons _ _ _ rfl ?_)) (Less.refl _)
    · clear h
      repeat (first | refine JL.q (by first | (apply OQ.callx (vs := [.slice (some ⟨b11, 0, none⟩) (a.l.length + 32) c11, .slice (some ⟨b12, 0, none⟩) (a.l.length + 32) c12]); exact goes_same; exact rfl; exact (fun w' hw' => same_b (a := ⟨some ⟨b11, 0, none⟩, c11, X'⟩) (b := ⟨some ⟨b12, 0, none⟩, c12, Y'⟩) (c := decide (a.l = b.l)) (by simp [Sl8.v, hXl]) (by simp [Sl8.v, hYl]) (ownb_ok hw' .here) (ownb_ok hw' (.there .here)) (show X'.length < 4611686018427387904 by omega) hsame)) | (apply OQ.callx (vs := [a.v, b.v]); exact goes_same; exact rfl; exact (fun w' hw' => same_b (a := a) (b := b) (c := decide (a.l = b.l)) rfl rfl (ha.holds hw' rfl) (hb.holds hw' rfl) (by omega) rfl)) | (apply OQ.eqb_t; exact Tryd.underlying4; exact rfl; exact rfl; exact rfl) | (apply OQ.pick_t; exact rfl; exact rfl) | (apply OQ.move; exact rfl) | (apply OQ.assign; exact rfl)) rfl ?_ | refine JC.seq ?_ | refine JC.region ?_ | refine JC.exit ?_ | refine JL.nil ?_ | refine JE.next ?_ | refine JE.then_exit ?_ | refine JE.blk_hit ?_ | refine JL.gskip rfl rfl rfl rfl ?_)
      refine JC.ret ?_
      skip
      exact JE.ret1 rfl (RV.tmp rfl) fun w' hw => ⟨rfl, hw.chg⟩
end Go.Proofs.YtakgpocehoeakaaDoor

/-
  Of no statement by itself: what despatchlaw04.SealBytes answers.
  Conditions: the theorem's own.
-/
namespace Go.Proofs.YtakgpocehoeakaaDoor
set_option maxRecDepth 10000
open Sl Sha Str

def needZ : Nat → List (Nat × Nat)
  | 2 => [(0, 72), (1, 73)]
  | 3 => [(2, 74)]
  | 4 => [(3, 75)]
  | 5 => [(3, 75)]
  | 6 => [(4, 76), (5, 77), (3, 75)]
  | 7 => [(3, 75), (6, 78)]
  | 8 => [(7, 79)]
  | 9 => [(8, 80)]
  | 10 => [(8, 80)]
  | 11 => [(8, 80)]
  | 12 => [(9, 81), (10, 82), (11, 83), (8, 80)]
  | 13 => [(8, 80)]
  | 14 => [(8, 80)]
  | 15 => [(8, 80)]
  | 16 => [(13, 85), (14, 86), (15, 87), (8, 80)]
  | 17 => [(12, 84), (16, 88), (8, 80)]
  | 18 => [(8, 80), (17, 89)]
  | 19 => [(18, 90)]
  | _ => []
def inpZ : Nat → List Nat
  | 2 => [21]
  | 6 => [20]
  | 9 => [22]
  | 13 => [22]
  | 17 => [12, 16]
  | _ => []

set_option maxHeartbeats 4000000 in
set_option maxRecDepth 4000 in
theorem law_sealBytes (key nonce : List B) (s p : Sl8) (w : World) (hG : GOk w) (hQ : GQ w) (hk : key.length = 32) (hn : nonce.length = 12) (hs : s.ok w) (hp : p.ok w) :
    Calls Tryd.prog 3 [.agg (key.map U8).toArray, .agg (nonce.map U8).toArray, s.v, p.v].toArray w fun e w' => e = .returned (.bool true) ∧ Ext w w' := by
  refine enter (n := 91) Tryd.func3 rfl rfl rfl (Holds.start w []) ?_
  repeat (first | refine JC.seq ?_ | refine JC.region ?_)
  refine JL.box (r := key.map U8) rfl rfl rfl fun b4 _ => ?_
  refine JL.box (r := nonce.map U8) rfl rfl rfl fun b5 _ => ?_
  repeat (first | refine JL.q (by first | (apply OQ.callx; exact goes_speaks4; exact rfl; exact (fun w' hw' => speaks4_any w' (hG.chg hw'.chg (by simp)) (hQ.chg hw'.chg (by simp)))) | (apply OQ.not; exact rfl) | (apply OQ.assign; exact rfl)) rfl ?_ | refine JC.seq ?_ | refine JC.region ?_ | refine JL.nil ?_ | refine JE.next ?_)
  refine JC.cond_false rfl rfl ?_
  by_cases g0 : 500 < s.l.length
  · repeat (first | refine JL.q (by first | (apply OQ.gtrN_t; exact rfl; exact rfl; exact g0) | (apply OQ.pick_t; exact rfl; exact rfl) | (apply OQ.move; exact rfl) | (apply OQ.len; exact rfl; exact rfl)) rfl ?_ | refine JC.seq ?_ | refine JC.region ?_ | refine JC.skip ?_ | refine JL.nil ?_ | refine JE.next ?_ | refine JL.gskip rfl rfl rfl rfl ?_)
    refine JC.cond_true rfl rfl ?_
    repeat (first | refine JL.q (by (apply OQ.assign; exact rfl)) rfl ?_ | refine JC.seq ?_ | refine JC.region ?_ | refine JL.nil ?_ | refine JE.next ?_)
    refine JC.ret ?_
    repeat (refine JE.then_ret ?_)
    exact JE.ret1 rfl (RV.tmp rfl) fun w' hw => ⟨rfl, hw.chg⟩
  by_cases g1 : 2000 < p.l.length
  · repeat (first | refine JL.q (by first | (apply OQ.gtrN_f; exact rfl; exact rfl; exact g0) | (apply OQ.gtrN_t; exact rfl; exact rfl; exact g1) | (apply OQ.pick_f; exact rfl; exact rfl) | (apply OQ.move; exact rfl) | (apply OQ.len; exact rfl; exact rfl)) rfl ?_ | refine JC.seq ?_ | refine JC.region ?_ | refine JC.skip ?_ | refine JL.nil ?_ | refine JE.next ?_ | refine JL.gon rfl rfl ?_)
    refine JC.cond_true rfl rfl ?_
    repeat (first | refine JL.q (by (apply OQ.assign; exact rfl)) rfl ?_ | refine JC.seq ?_ | refine JC.region ?_ | refine JL.nil ?_ | refine JE.next ?_)
    refine JC.ret ?_
    repeat (refine JE.then_ret ?_)
    exact JE.ret1 rfl (RV.tmp rfl) fun w' hw => ⟨rfl, hw.chg⟩
  repeat (first | refine JL.q (by first | (apply OQ.gtrN_f; exact rfl; exact rfl; exact g0) | (apply OQ.gtrN_f; exact rfl; exact rfl; exact g1) | (apply OQ.pick_f; exact rfl; exact rfl) | (apply OQ.move; exact rfl) | (apply OQ.len; exact rfl; exact rfl)) rfl ?_ | refine JC.seq ?_ | refine JC.region ?_ | refine JC.skip ?_ | refine JL.nil ?_ | refine JE.next ?_ | refine JL.gon rfl rfl ?_)
  refine JC.cond_false rfl rfl ?_
  obtain ⟨X', hX'⟩ : ∃ o, sealK (k1 key) (k2 key) nonce s.l p.l = o := ⟨_, rfl⟩
  obtain ⟨o, ho⟩ : ∃ o, openK (k1 key) (k2 key) nonce s.l p.l = o := ⟨_, rfl⟩
  have hXl : X'.length = p.l.length + 32 := by rw [← hX', sealK_length]
  have hol : o.1.length ≤ p.l.length := by
    by_cases h : p.l.length < 32
    · rw [← ho, openK_short _ _ _ _ _ h]; simp
    · rcases openK_or (k1 key) (k2 key) nonce s.l p.l h with ⟨T, h1, h2⟩ | h1
      · rw [← ho, h1]; show T.length ≤ _; omega
      · rw [← ho, h1]; simp
  repeat (first | refine JC.seq ?_ | refine JC.region ?_ | refine JC.skip ?_ | refine JE.next ?_)
  refine JL.litZ Tryd.underlying26 e5 rfl fun b26 _ => ?_
  repeat (refine JL.q (by (apply OQ.move; exact rfl)) rfl ?_)
  refine JL.append (cs := p.l.map U8) (fun b' cap' => [⟨b', Sl.Own 5 1 (0 + p.l.length) cap' ([] ++ p.l.map U8), true⟩, ⟨b5, Row 25 (nonce.map U8), true⟩, ⟨b4, Row 23 (key.map U8), true⟩]) Tryd.underlying26 e5 rfl rfl (by intro _ _; repeat (first | exact Repl.here | apply Repl.there)) (by simp) (fun w' hw' => (hp.holds hw' rfl).reads) (of_u8 _) rfl (by decide) (by omega) (by omega) rfl fun bO cO => ?_
  rw [List.nil_append, Nat.zero_add]
  refine JL.litZ Tryd.underlying26 e5 rfl fun b29 _ => ?_
  repeat (refine JL.q (by (apply OQ.move; exact rfl)) rfl ?_)
  refine JL.append (cs := s.l.map U8) (fun b' cap' => [⟨b', Sl.Own 5 1 (0 + s.l.length) cap' ([] ++ s.l.map U8), true⟩, ⟨bO, Sl.Own 5 1 p.l.length cO (p.l.map U8), true⟩, ⟨b5, Row 25 (nonce.map U8), true⟩, ⟨b4, Row 23 (key.map U8), true⟩]) Tryd.underlying26 e5 rfl rfl (by intro _ _; repeat (first | exact Repl.here | apply Repl.there)) (by simp) (fun w' hw' => (hs.holds hw' rfl).reads) (of_u8 _) rfl (by decide) (by omega) (by omega) rfl fun bS cS => ?_
  rw [List.nil_append, Nat.zero_add]
  repeat (first | refine JL.q (by first | (apply OQ.load_agg (cs := key.map U8); exact a25; exact s25; exact rfl; exact (.there (.there (.there .here))); exact (by simpa using hk); exact Row.all) | (apply OQ.load_agg (cs := nonce.map U8); exact noa; exact nos; exact rfl; exact (.there (.there .here)); exact (by simpa using hn); exact Row.all) | (apply OQ.move; exact rfl) | (apply OQ.assign; exact rfl)) rfl ?_ | refine JC.seq ?_ | refine JC.region ?_ | refine JL.nil ?_ | refine JE.next ?_)
  refine JL.callg (ι := Nat × Nat) (fun x => .slice (some ⟨x.1, 0, none⟩) (p.l.length + 32) x.2) (fun x => [⟨x.1, Sl.Own 5 1 (p.l.length + 32) x.2 (X'.map U8), true⟩]) goes_seal rfl rfl (fun i => by simp) (fun w' hw' => sealO_any (s := ⟨some ⟨bS, 0, none⟩, cS, s.l⟩) (p := ⟨some ⟨bO, 0, none⟩, cO, p.l⟩) rfl rfl hX' rfl hk hn (hG.chg hw'.chg (by simp)) (hQ.chg hw'.chg (by simp)) (ownb_ok hw' .here) (ownb_ok hw' (.there .here)) (show s.l.length < 100000000 by omega) (show p.l.length < 100000000 by omega)) ?_
  rintro ⟨bX, cX⟩
  try dsimp only
  repeat (first | refine JL.q (by first | (apply OQ.load_agg (cs := key.map U8); exact a25; exact s25; exact rfl; exact (.there (.there (.there (.there .here)))); exact (by simpa using hk); exact Row.all) | (apply OQ.load_agg (cs := nonce.map U8); exact noa; exact nos; exact rfl; exact (.there (.there (.there .here))); exact (by simpa using hn); exact Row.all) | (apply OQ.move; exact rfl) | (apply OQ.assign; exact rfl)) rfl ?_ | refine JC.seq ?_ | refine JC.region ?_ | refine JL.nil ?_ | refine JE.next ?_)
  refine JL.callg (ι := { s' : Sl8 // Gave s' o.1 s'.cap }) (fun i => .tuple #[i.1.v, N o.2]) (fun i => i.1.ents) goes_open rfl rfl (fun i => Sl8.ents_wr _) (fun w' hw' => openO_any (s := ⟨some ⟨bS, 0, none⟩, cS, s.l⟩) (z := ⟨some ⟨bO, 0, none⟩, cO, p.l⟩) rfl rfl ho hk hn (hG.chg hw'.chg (by simp)) (hQ.chg hw'.chg (by simp)) (ownb_ok hw' (.there .here)) (ownb_ok hw' (.there (.there .here))) (show s.l.length < 100000000 by omega) (show p.l.length < 100000000 by omega)) ?_
  rintro ⟨x1, h1⟩
  try dsimp only
  refine JL.perm List.perm_append_comm ?_
  repeat (first | refine JL.q (by first | (apply OQ.extract; exact rfl; exact rfl) | (apply OQ.load_agg (cs := key.map U8); exact a25; exact s25; exact rfl; exact (.there (.there (.there (.there .here)))); exact (by simpa using hk); exact Row.all) | (apply OQ.load_agg (cs := nonce.map U8); exact noa; exact nos; exact rfl; exact (.there (.there (.there .here))); exact (by simpa using hn); exact Row.all) | (apply OQ.move; exact rfl) | (apply OQ.assign; exact rfl)) rfl ?_ | refine JC.seq ?_ | refine JC.region ?_ | refine JL.nil ?_ | refine JE.next ?_)
  refine JL.callg (ι := { s' : Sl8 // Gave s' o.1 s'.cap }) (fun i => .tuple #[i.1.v, N o.2]) (fun i => i.1.ents) goes_ropen rfl rfl (fun i => Sl8.ents_wr _) (fun w' hw' => ropenO_any rfl rfl ho hk hn (hs.holds hw' rfl) (hp.holds hw' rfl) (by omega) (by omega)) ?_
  rintro ⟨x2, h2⟩
  try dsimp only
  refine JL.perm List.perm_append_comm ?_
  repeat (first | refine JL.q (by first | (apply OQ.extract; exact rfl; exact rfl) | (apply OQ.load_agg (cs := key.map U8); exact a25; exact s25; exact rfl; exact (.there (.there (.there (.there .here)))); exact (by simpa using hk); exact Row.all) | (apply OQ.load_agg (cs := nonce.map U8); exact noa; exact nos; exact rfl; exact (.there (.there (.there .here))); exact (by simpa using hn); exact Row.all) | (apply OQ.move; exact rfl) | (apply OQ.assign; exact rfl)) rfl ?_ | refine JC.seq ?_ | refine JC.region ?_ | refine JL.nil ?_ | refine JE.next ?_)
  refine JL.callg (ι := Nat × Nat) (fun x => .slice (some ⟨x.1, 0, none⟩) (p.l.length + 32) x.2) (fun x => [⟨x.1, Sl.Own 5 1 (p.l.length + 32) x.2 (X'.map U8), true⟩]) goes_rseal rfl rfl (fun i => by simp) (fun w' hw' => rsealO_any hX' hk hn (hs.holds hw' rfl) (hp.holds hw' rfl) (by omega) (by omega)) ?_
  rintro ⟨bR, cR⟩
  try dsimp only
  have hx1 : x1.l = o.1 := h1.val
  have hx2 : x2.l = o.1 := h2.val
  have e1 : ∀ b c, Sl8.v ⟨some ⟨b, 0, none⟩, c, X'⟩ = .slice (some ⟨b, 0, none⟩) (p.l.length + 32) c := fun b c => by simp [Sl8.v, hXl]
  repeat (first | refine JL.q (by first | (apply OQ.callx (vs := [.slice (some ⟨bX, 0, none⟩) (p.l.length + 32) cX, .slice (some ⟨bR, 0, none⟩) (p.l.length + 32) cR]); exact goes_same; exact rfl; exact (fun w' hw' => same_b (a := ⟨some ⟨bX, 0, none⟩, cX, X'⟩) (b := ⟨some ⟨bR, 0, none⟩, cR, X'⟩) (c := true) (e1 _ _) (e1 _ _) (ownb_ok hw' (.there .here)) (ownb_ok hw' .here) (show X'.length < 4611686018427387904 by omega) (decide_eq_true rfl))) | (apply OQ.callx (vs := [x1.v, x2.v]); exact goes_same; exact rfl; exact (fun w' hw' => same_b (a := x1) (b := x2) (c := true) rfl rfl (ents_mem hw' (fun e he => by simp [he]) h1.none) (ents_mem hw' (fun e he => by simp [he]) h2.none) (by rw [hx1]; omega) (decide_eq_true (hx1.trans hx2.symm)))) | (apply OQ.not; exact rfl) | (apply OQ.nei_f; exact rfl; exact rfl; exact rfl) | (apply OQ.pick_f; exact rfl; exact rfl) | (apply OQ.move; exact rfl)) rfl ?_ | refine JL.nil ?_ | refine JE.next ?_ | refine JL.gon rfl rfl ?_)
  refine JC.cond_false rfl rfl ?_
  have hml := msg_length nonce s.l p.l
  have hM1 := fun w' (h1 : s.ok w') (h2 : p.ok w') => message_any nonce s p hn w' h1 h2 (by omega) (by omega)
  have hM2 := fun w' (h1 : s.ok w') (h2 : p.ok w') => rmessage_any nonce s p hn w' h1 h2 (by omega) (by omega)
  rw [hn] at hml
  generalize msg nonce s.l p.l = m at hml hM1 hM2
  repeat (first | refine JC.seq ?_ | refine JC.skip ?_ | refine JE.next ?_)
  refine JC.weak (E' := [(2, s.v), (3, p.v), (5, Pt b5 0), (9, .slice (some ⟨bO, 0, none⟩) p.l.length cO), (10, .slice (some ⟨bS, 0, none⟩) s.l.length cS)]) (M' := [⟨bS, Sl.Own 5 1 s.l.length cS (s.l.map U8), true⟩, ⟨bO, Sl.Own 5 1 p.l.length cO (p.l.map U8), true⟩, ⟨b5, Row 25 (nonce.map U8), true⟩]) ?_ (by repeat (first | exact SubE.nil | refine SubE.cons _ _ _ rfl ?_)) (.drop _ _ _ (.drop _ _ _ (.keep _ _ _ _ _ _ (fun _ h => h) (.keep _ _ _ _ _ _ (fun _ h => h) (.keep _ _ _ _ _ _ (fun _ h => h) (Less.nil _))))))
  let vs : Nat → X → Value := fun j z => match j with
    | 0 => .slice (some ⟨bO, 0, none⟩) p.l.length cO
    | 1 => p.v
    | 4 => .slice (some ⟨bS, 0, none⟩) s.l.length cS
    | 5 => s.v
    | 9 => .agg (nonce.map U8).toArray
    | 10 => s.v
    | 11 => p.v
    | 12 => .slice (some ⟨z.1, 0, none⟩) m.length z.2
    | 13 => .agg (nonce.map U8).toArray
    | 14 => s.v
    | 15 => p.v
    | 16 => .slice (some ⟨z.1, 0, none⟩) m.length z.2
    | _ => .bool true
  let Ms : Nat → X → List Ent := fun j z => match j with
    | 12 => [⟨z.1, Sl.Own 5 1 m.length z.2 (m.map U8), true⟩]
    | 16 => [⟨z.1, Sl.Own 5 1 m.length z.2 (m.map U8), true⟩]
    | 20 => [⟨bS, Sl.Own 5 1 s.l.length cS (s.l.map U8), true⟩]
    | 21 => [⟨bO, Sl.Own 5 1 p.l.length cO (p.l.map U8), true⟩]
    | 22 => [⟨b5, Row 25 (nonce.map U8), true⟩]
    | _ => []
  refine JC.grow (g := ⟨[(2, s.v), (3, p.v), (5, Pt b5 0), (9, .slice (some ⟨bO, 0, none⟩) p.l.length cO), (10, .slice (some ⟨bS, 0, none⟩) s.l.length cS)], 23, vs, Ms, needZ, inpZ, fun _ => [], fun _ => none⟩) [(19, 8)] [] mixed (by repeat (first | exact SubE.nil | refine SubE.cons _ _ _ rfl ?_)) (Less.refl _) (by kernel_rfl) (by kernel_rfl) (by kernel_rfl) ?_ ?_
  · refine ⟨?_, ?_, ?_, ?_, ?_, ?_, ?_, ?_, ?_, ?_, ?_, ?_, ?_, ?_, ?_, ?_, ?_, ?_, ?_, ?_, trivial⟩
    iterate 12 (focus (intro x EF MF Q kk; (try refine JL.gon rfl rfl ?_); exact JL.q (by first | (apply OQ.load_agg (cs := nonce.map U8); exact noa; exact nos; exact rfl; exact .here; exact (by simpa using hn); exact Row.all) | (apply OQ.callx (vs := [.slice (some ⟨bO, 0, none⟩) p.l.length cO, p.v]); exact goes_same; exact rfl; exact (fun w' hw' => same_b (a := ⟨some ⟨bO, 0, none⟩, cO, p.l⟩) (b := p) (c := true) rfl rfl (ownb_ok hw' .here) (hp.holds hw' rfl) (show p.l.length < 4611686018427387904 by omega) (decide_eq_true rfl))) | (apply OQ.callx (vs := [.slice (some ⟨bS, 0, none⟩) s.l.length cS, s.v]); exact goes_same; exact rfl; exact (fun w' hw' => same_b (a := ⟨some ⟨bS, 0, none⟩, cS, s.l⟩) (b := s) (c := true) rfl rfl (ownb_ok hw' .here) (hs.holds hw' rfl) (show s.l.length < 4611686018427387904 by omega) (decide_eq_true rfl))) | (apply OQ.pick_t; exact rfl; exact rfl) | (apply OQ.move; exact rfl)) rfl (JL.nil (kk default nofun))))
    · intro z EF MF Q kk
      refine JL.gon rfl rfl ?_
      exact JL.callg (ι := Nat × Nat) (fun x => .slice (some ⟨x.1, 0, none⟩) m.length x.2) (fun x => [⟨x.1, Sl.Own 5 1 m.length x.2 (m.map U8), true⟩]) goes_message rfl rfl (fun i => by simp) (fun w' hw' => hM1 w' (hs.holds hw' rfl) (hp.holds hw' rfl)) fun i => JL.nil (kk i nofun)
    iterate 3 (focus (intro x EF MF Q kk; (try refine JL.gon rfl rfl ?_); exact JL.q (by first | (apply OQ.load_agg (cs := nonce.map U8); exact noa; exact nos; exact rfl; exact .here; exact (by simpa using hn); exact Row.all) | (apply OQ.move; exact rfl)) rfl (JL.nil (kk default nofun))))
    · intro z EF MF Q kk
      refine JL.gon rfl rfl ?_
      exact JL.callg (ι := Nat × Nat) (fun x => .slice (some ⟨x.1, 0, none⟩) m.length x.2) (fun x => [⟨x.1, Sl.Own 5 1 m.length x.2 (m.map U8), true⟩]) goes_rmessage rfl rfl (fun i => by simp) (fun w' hw' => hM2 w' (hs.holds hw' rfl) (hp.holds hw' rfl)) fun i => JL.nil (kk i nofun)
    · intro z EF MF Q kk
      refine JL.gon rfl rfl ?_
      exact JL.q (OQ.callx (vs := [.slice (some ⟨(z 12).1, 0, none⟩) m.length (z 12).2, .slice (some ⟨(z 16).1, 0, none⟩) m.length (z 16).2]) goes_same rfl fun w' hw' => same_b (a := ⟨some ⟨(z 12).1, 0, none⟩, (z 12).2, m⟩) (b := ⟨some ⟨(z 16).1, 0, none⟩, (z 16).2, m⟩) (c := true) rfl rfl (ownb_ok hw' .here) (ownb_ok hw' (.there .here)) (show m.length < 4611686018427387904 by omega) (decide_eq_true rfl)) rfl (JL.nil (kk default nofun))
    iterate 2 (focus (intro x EF MF Q kk; (try refine JL.gon rfl rfl ?_); exact JL.q (by first | (apply OQ.pick_t; exact rfl; exact rfl) | (apply OQ.assign; exact rfl)) rfl (JL.nil (kk default nofun))))
  · intro z _
    repeat (refine JE.next ?_)
    refine JC.ret ?_
    skip
    exact JE.ret1 rfl (RV.tmp rfl) fun w' hw => ⟨rfl, hw.chg⟩
end Go.Proofs.YtakgpocehoeakaaDoor

/-
  Of no statement by itself: what despatchlaw04.SealBack answers.
  Conditions: the theorem's own.
-/
namespace Go.Proofs.YtakgpocehoeakaaDoor
set_option maxRecDepth 10000
open Sl Sha Str

section
variable {P : Program} {n : Nat} {E : Env} {C : World → Prop} {dst : Option Tmp} {t t' ty : TypeId} {pos : String} {aft : Array Edge} {g : Option (Nat × Bool)} {x y : Operand}
theorem OQ.geqN_t {a b : Nat} (hx : ev E x = some (N a)) (hy : ev E y = some (N b)) (h : b ≤ a) : OQ P n E C ⟨dst, .binOp .geq t x y t', ty, pos, aft, g⟩ (.bool true) :=
  (decide_eq_true h : decide (b ≤ a) = true) ▸ OQ.geqN hx hy
theorem OQ.geqN_f {a b : Nat} (hx : ev E x = some (N a)) (hy : ev E y = some (N b)) (h : ¬ b ≤ a) : OQ P n E C ⟨dst, .binOp .geq t x y t', ty, pos, aft, g⟩ (.bool false) :=
  (decide_eq_false h : decide (b ≤ a) = false) ▸ OQ.geqN hx hy
end
theorem one_shl : ∀ k < 8, 1#8 <<< k ≠ 0 := by decide

set_option maxHeartbeats 4000000 in
set_option maxRecDepth 4000 in
theorem law_sealBack (key nonce : List B) (s p : Sl8) (a : Int) (w : World) (hG : GOk w) (hQ : GQ w) (hk : key.length = 32) (hn : nonce.length = 12) (hs : s.ok w) (hp : p.ok w) (_ : -9223372036854775808 ≤ a ∧ a ≤ 9223372036854775807) :
    Calls Tryd.prog 4 [.agg (key.map U8).toArray, .agg (nonce.map U8).toArray, s.v, p.v, .int .i64 a].toArray w fun e w' => e = .returned (.bool true) ∧ Ext w w' := by
  refine enter (n := 141) Tryd.func4 rfl rfl rfl (Holds.start w []) ?_
  repeat (first | refine JC.seq ?_ | refine JC.region ?_)
  refine JL.box (r := key.map U8) rfl rfl rfl fun b5 _ => ?_
  refine JL.box (r := nonce.map U8) rfl rfl rfl fun b6 _ => ?_
  repeat (first | refine JL.q (by first | (apply OQ.callx; exact goes_speaks4; exact rfl; exact (fun w' hw' => speaks4_any w' (hG.chg hw'.chg (by simp)) (hQ.chg hw'.chg (by simp)))) | (apply OQ.not; exact rfl) | (apply OQ.assign; exact rfl)) rfl ?_ | refine JC.seq ?_ | refine JC.region ?_ | refine JL.nil ?_ | refine JE.next ?_)
  refine JC.cond_false rfl rfl ?_
  by_cases g0 : 500 < s.l.length
  · repeat (first | refine JL.q (by first | (apply OQ.gtrN_t; exact rfl; exact rfl; exact g0) | (apply OQ.pick_t; exact rfl; exact rfl) | (apply OQ.move; exact rfl) | (apply OQ.len; exact rfl; exact rfl)) rfl ?_ | refine JC.seq ?_ | refine JC.region ?_ | refine JC.skip ?_ | refine JL.nil ?_ | refine JE.next ?_ | refine JL.gskip rfl rfl rfl rfl ?_)
    refine JC.cond_true rfl rfl ?_
    repeat (first | refine JL.q (by (apply OQ.assign; exact rfl)) rfl ?_ | refine JC.seq ?_ | refine JC.region ?_ | refine JL.nil ?_ | refine JE.next ?_)
    refine JC.ret ?_
    repeat (refine JE.then_ret ?_)
    exact JE.ret1 rfl (RV.tmp rfl) fun w' hw => ⟨rfl, hw.chg⟩
  by_cases g1 : 1000 < p.l.length
  · repeat (first | refine JL.q (by first | (apply OQ.gtrN_f; exact rfl; exact rfl; exact g0) | (apply OQ.gtrN_t; exact rfl; exact rfl; exact g1) | (apply OQ.pick_f; exact rfl; exact rfl) | (apply OQ.move; exact rfl) | (apply OQ.len; exact rfl; exact rfl)) rfl ?_ | refine JC.seq ?_ | refine JC.region ?_ | refine JC.skip ?_ | refine JL.nil ?_ | refine JE.next ?_ | refine JL.gon rfl rfl ?_)
    refine JC.cond_true rfl rfl ?_
    repeat (first | refine JL.q (by (apply OQ.assign; exact rfl)) rfl ?_ | refine JC.seq ?_ | refine JC.region ?_ | refine JL.nil ?_ | refine JE.next ?_)
    refine JC.ret ?_
    repeat (refine JE.then_ret ?_)
    exact JE.ret1 rfl (RV.tmp rfl) fun w' hw => ⟨rfl, hw.chg⟩
  repeat (first | refine JL.q (by first | (apply OQ.gtrN_f; exact rfl; exact rfl; exact g0) | (apply OQ.gtrN_f; exact rfl; exact rfl; exact g1) | (apply OQ.pick_f; exact rfl; exact rfl) | (apply OQ.move; exact rfl) | (apply OQ.len; exact rfl; exact rfl)) rfl ?_ | refine JC.seq ?_ | refine JC.region ?_ | refine JC.skip ?_ | refine JL.nil ?_ | refine JE.next ?_ | refine JL.gon rfl rfl ?_)
  refine JC.cond_false rfl rfl ?_
  obtain ⟨L, hL⟩ : ∃ o, sealK (k1 key) (k2 key) nonce s.l p.l = o := ⟨_, rfl⟩
  have hLl : L.length = p.l.length + 32 := by rw [← hL, sealK_length]
  have hO : openK (k1 key) (k2 key) nonce s.l L = (p.l, 0) := by rw [← hL, openK_sealK]
  have hF := openK_turned (k1 key) (k2 key) nonce s.l p.l
  rw [hL] at hF
  have e1 : ∀ b c, Sl8.v ⟨some ⟨b, 0, none⟩, c, L⟩ = .slice (some ⟨b, 0, none⟩) (p.l.length + 32) c := fun b c => by simp [Sl8.v, hLl]
  repeat (first | refine JL.q (by first | (apply OQ.load_agg (cs := key.map U8); exact a25; exact s25; exact rfl; exact (.there .here); exact (by simpa using hk); exact Row.all) | (apply OQ.load_agg (cs := nonce.map U8); exact noa; exact nos; exact rfl; exact .here; exact (by simpa using hn); exact Row.all) | (apply OQ.move; exact rfl)) rfl ?_ | refine JC.seq ?_ | refine JC.region ?_ | refine JC.skip ?_ | refine JE.next ?_)
  refine JL.callg (ι := Nat × Nat) (fun x => .slice (some ⟨x.1, 0, none⟩) (p.l.length + 32) x.2) (fun x => [⟨x.1, Sl.Own 5 1 (p.l.length + 32) x.2 (L.map U8), true⟩]) goes_seal rfl rfl (fun i => by simp) (fun w' hw' => sealO_any rfl rfl hL rfl hk hn (hG.chg hw'.chg (by simp)) (hQ.chg hw'.chg (by simp)) (hs.holds hw' rfl) (hp.holds hw' rfl) (by omega) (by omega)) ?_
  rintro ⟨bX, cX⟩
  try dsimp only
  repeat (first | refine JL.q (by first | (apply OQ.load_agg (cs := key.map U8); exact a25; exact s25; exact rfl; exact (.there (.there .here)); exact (by simpa using hk); exact Row.all) | (apply OQ.load_agg (cs := nonce.map U8); exact noa; exact nos; exact rfl; exact (.there .here); exact (by simpa using hn); exact Row.all) | (apply OQ.move; exact rfl) | (apply OQ.assign; exact rfl)) rfl ?_ | refine JC.seq ?_ | refine JC.region ?_ | refine JL.nil ?_ | refine JE.next ?_)
  refine JL.callg (ι := { s' : Sl8 // Gave s' p.l s'.cap }) (fun i => .tuple #[i.1.v, N 0]) (fun i => i.1.ents) goes_open rfl rfl (fun i => Sl8.ents_wr _) (fun w' hw' => openO_any rfl (e1 _ _) hO hk hn (hG.chg hw'.chg (by simp)) (hQ.chg hw'.chg (by simp)) (hs.holds hw' rfl) (ownb_ok hw' .here) (by omega) (show L.length < 100000000 by omega)) ?_
  rintro ⟨x1, h1⟩
  try dsimp only
  have hx1 : x1.l = p.l := h1.val
  refine JL.perm List.perm_append_comm ?_
  repeat (first | refine JL.q (by first | (apply OQ.extract; exact rfl; exact rfl) | (apply OQ.callx (vs := [x1.v, p.v]); exact goes_same; exact rfl; exact (fun w' hw' => same_b (a := x1) (b := p) (c := true) rfl rfl (ents_mem hw' (fun e he => by simp [he]) h1.none) (hp.holds hw' rfl) (by rw [hx1]; omega) (decide_eq_true hx1))) | (apply OQ.not; exact rfl) | (apply OQ.nei_f; exact rfl; exact rfl; exact rfl) | (apply OQ.pick_f; exact rfl; exact rfl) | (apply OQ.move; exact rfl) | (apply OQ.assign; exact rfl) | (apply OQ.len; exact rfl; exact rfl) | (apply OQ.addN; exact rfl; exact rfl; exact (by (try simp only []); omega))) rfl ?_ | refine JC.seq ?_ | refine JC.region ?_ | refine JL.nil ?_ | refine JE.next ?_ | refine JL.gon rfl rfl ?_)
  refine JC.cond_false rfl rfl ?_
  refine JC.weak (E' := [(2, s.v), (3, p.v), (4, .int .i64 a), (5, Pt b5 0), (6, Pt b6 0), (11, .slice (some ⟨bX, 0, none⟩) (p.l.length + 32) cX)]) (M' := [⟨bX, Sl.Own 5 1 (p.l.length + 32) cX (L.map U8), true⟩, ⟨b6, Row 25 (nonce.map U8), true⟩, ⟨b5, Row 23 (key.map U8), true⟩]) ?_ (by repeat (first | exact SubE.nil | refine SubE.cons _ _ _ rfl ?_)) (.keep _ _ _ _ _ _ (fun _ h => h) (.keep _ _ _ _ _ _ (fun _ h => h) (.keep _ _ _ _ _ _ (fun _ h => h) (Less.nil _))))
  have hkm := Nat.mod_lt (BitVec.ofInt 64 a &&& BitVec.ofNat 64 1048575).toNat (show 0 < 8 * (p.l.length + 32) by omega)
  repeat (first | refine JL.q (by first | (apply OQ.lowI; exact rfl; exact rfl; exact (by decide)) | (apply OQ.move; exact rfl) | (apply OQ.assign; exact rfl) | (apply OQ.len; exact rfl; exact rfl) | (apply OQ.mulN; exact rfl; exact rfl; exact (by (try simp only []); omega)) | (apply OQ.remN; exact rfl; exact rfl; exact (by (try simp only []); omega))) rfl ?_ | refine JC.seq ?_ | refine JC.region ?_ | refine JC.skip ?_ | refine JL.nil ?_ | refine JE.next ?_)
  generalize (BitVec.ofInt 64 a &&& BitVec.ofNat 64 1048575).toNat % (8 * (p.l.length + 32)) = k at hkm ⊢
  have hk8 : k / 8 < p.l.length + 32 := by omega
  refine JL.litZ Tryd.underlying26 e5 rfl fun b64 _ => ?_
  repeat (refine JL.q (by (apply OQ.move; exact rfl)) rfl ?_)
  refine JL.append (cs := L.map U8) (fun b' cap' => [⟨b', Sl.Own 5 1 (0 + (p.l.length + 32)) cap' ([] ++ L.map U8), true⟩, ⟨bX, Sl.Own 5 1 (p.l.length + 32) cX (L.map U8), true⟩, ⟨b6, Row 25 (nonce.map U8), true⟩, ⟨b5, Row 23 (key.map U8), true⟩]) Tryd.underlying26 e5 rfl rfl (by intro _ _; repeat (first | exact Repl.here | apply Repl.there)) (by simpa using hLl) (fun w' hw' => (ownb_ok hw' (.there .here)).reads) (of_u8 _) rfl (by decide) (by omega) (by omega) rfl fun bZ cZ => ?_
  rw [List.nil_append, Nat.zero_add]
  repeat (first | refine JL.q (by (apply OQ.assign; exact rfl)) rfl ?_ | refine JC.seq ?_ | refine JL.nil ?_ | refine JE.next ?_)
  refine JC.tail 10 mixed (by kernel_rfl) ?_
  simp only [List.take_succ_cons, List.take_zero, List.drop_succ_cons, List.drop_zero]
  repeat (first | refine JQ.q (by first | (apply OQ.idxS0; exact Tryd.underlying26; exact s5; exact rfl; exact rfl; exact hk8) | (apply OQ.load; exact c5; exact rfl; exact .here; exact (Sl.Own.cell (map_at U8 0 (show k / 8 < L.length by omega)))) | (apply OQ.shl8 (a := 1#8); exact rfl; exact rfl) | (apply OQ.move; exact rfl) | (apply OQ.xor8; exact rfl; exact rfl) | (apply OQ.remN; exact rfl; exact rfl; exact (by (try simp only []); omega)) | (apply OQ.quoN; exact rfl; exact rfl; exact (by (try simp only []); omega); exact (by (try simp only []); omega))) rfl ?_ | refine JQ.nil_tail ?_)
  obtain ⟨Z, hZ⟩ : ∃ z, L.set (k / 8) (L.getD (k / 8) 0 ^^^ 1#8 <<< (k % 8)) = z := ⟨_, rfl⟩
  have hZl : Z.length = p.l.length + 32 := by rw [← hZ, List.length_set, hLl]
  have hZF : p.l.length ≤ k / 8 → openK (k1 key) (k2 key) nonce s.l Z = ([], 10) := fun h => by rw [← hZ]; exact hF _ h hk8 _ (one_shl _ (Nat.mod_lt _ (by decide)))
  have e2 : ∀ b c, Sl8.v ⟨some ⟨b, 0, none⟩, c, Z⟩ = .slice (some ⟨b, 0, none⟩) (p.l.length + 32) c := fun b c => by simp [Sl8.v, hZl]
  have hset : (L.map U8).set (k / 8) (U8 (L.getD (k / 8) 0 ^^^ 1#8 <<< (k % 8))) = Z.map U8 := by rw [← List.map_set, hZ]
  refine JL.store_own (xs' := Z.map U8) s5 rfl rfl rfl rfl .here (by rw [List.length_map, hLl]; exact hk8) hset ?_
  obtain ⟨o, ho⟩ : ∃ o, openK (k1 key) (k2 key) nonce s.l Z = o := ⟨_, rfl⟩
  rw [ho] at hZF
  repeat (first | refine JL.q (by first | (apply OQ.load_agg (cs := key.map U8); exact a25; exact s25; exact rfl; exact (.there (.there (.there .here))); exact (by simpa using hk); exact Row.all) | (apply OQ.load_agg (cs := nonce.map U8); exact noa; exact nos; exact rfl; exact (.there (.there .here)); exact (by simpa using hn); exact Row.all) | (apply OQ.move; exact rfl)) rfl ?_ | refine JC.seq ?_ | refine JC.region ?_ | refine JL.nil ?_ | refine JE.next ?_)
  refine JL.callg (ι := { s' : Sl8 // Gave s' o.1 s'.cap }) (fun i => .tuple #[i.1.v, N o.2]) (fun i => i.1.ents) goes_open rfl rfl (fun i => Sl8.ents_wr _) (fun w' hw' => openO_any rfl (e2 _ _) ho hk hn (hG.chg hw'.chg (by simp)) (hQ.chg hw'.chg (by simp)) (hs.holds hw' rfl) (ownb_ok hw' .here) (by omega) (show Z.length < 100000000 by omega)) ?_
  rintro ⟨x2, _⟩
  try dsimp only
  refine JL.perm List.perm_append_comm ?_
  repeat (first | refine JL.q (by first | (apply OQ.extract; exact rfl; exact rfl) | (apply OQ.load_agg (cs := key.map U8); exact a25; exact s25; exact rfl; exact (.there (.there (.there .here))); exact (by simpa using hk); exact Row.all) | (apply OQ.load_agg (cs := nonce.map U8); exact noa; exact nos; exact rfl; exact (.there (.there .here)); exact (by simpa using hn); exact Row.all) | (apply OQ.move; exact rfl) | (apply OQ.assign; exact rfl)) rfl ?_ | refine JC.seq ?_ | refine JC.region ?_ | refine JL.nil ?_ | refine JE.next ?_)
  refine JL.callg (ι := { s' : Sl8 // Gave s' o.1 s'.cap }) (fun i => .tuple #[i.1.v, N o.2]) (fun i => i.1.ents) goes_ropen rfl rfl (fun i => Sl8.ents_wr _) (fun w' hw' => ropenO_any rfl (e2 _ _) ho hk hn (hs.holds hw' rfl) (ownb_ok hw' .here) (by omega) (show Z.length < 100000000 by omega)) ?_
  rintro ⟨x3, _⟩
  try dsimp only
  refine JL.perm List.perm_append_comm ?_
  repeat (refine JL.q (by first | (apply OQ.extract; exact rfl; exact rfl) | (apply OQ.move; exact rfl) | (apply OQ.assign; exact rfl)) rfl ?_)
  refine JL.nil ?_
  refine JE.next ?_
  refine JC.seq ?_
  refine JC.join (ι := Unit) (fun _ => [(2, s.v), (5, Pt b5 0), (6, Pt b6 0), (11, .slice (some ⟨bX, 0, none⟩) (p.l.length + 32) cX), (14, N k)]) (fun _ => [⟨bX, Sl.Own 5 1 (p.l.length + 32) cX (L.map U8), true⟩, ⟨b6, Row 25 (nonce.map U8), true⟩, ⟨b5, Row 23 (key.map U8), true⟩]) (fun _ => True) ?_ ?_
  · by_cases hge : p.l.length ≤ k / 8
    · have ho2 : o.2 = 10 := by rw [hZF hge]
      repeat (first | refine JL.q (by first | (apply OQ.nei_f; exact rfl; exact rfl; exact rfl) | (apply OQ.geqN_t; exact rfl; exact rfl; exact hge) | (apply OQ.nei_f; exact rfl; exact rfl; exact (show ((o.2 : Nat) : Int) = ((10 : Nat) : Int) by rw [ho2])) | (apply OQ.pick_t; exact rfl; exact rfl) | (apply OQ.pick_f; exact rfl; exact rfl) | (apply OQ.move; exact rfl) | (apply OQ.len; exact rfl; exact rfl) | (apply OQ.quoN; exact rfl; exact rfl; exact (by (try simp only []); omega); exact (by (try simp only []); omega))) rfl ?_ | refine JC.seq ?_ | refine JC.region ?_ | refine JL.nil ?_ | refine JE.next ?_ | refine JL.gon rfl rfl ?_)
      refine JC.cond_false rfl rfl ?_
      repeat (refine JC.skip ?_)
      exact JE.mid () trivial (by repeat (first | exact SubE.nil | refine SubE.cons _ _ _ rfl ?_)) (.drop _ _ _ (.keep _ _ _ _ _ _ (fun _ h => h) (.keep _ _ _ _ _ _ (fun _ h => h) (.keep _ _ _ _ _ _ (fun _ h => h) (Less.nil _)))))
    · repeat (first | refine JL.q (by first | (apply OQ.nei_f; exact rfl; exact rfl; exact rfl) | (apply OQ.geqN_f; exact rfl; exact rfl; exact hge) | (apply OQ.pick_f; exact rfl; exact rfl) | (apply OQ.move; exact rfl) | (apply OQ.len; exact rfl; exact rfl) | (apply OQ.quoN; exact rfl; exact rfl; exact (by (try simp only []); omega); exact (by (try simp only []); omega))) rfl ?_ | refine JC.seq ?_ | refine JC.region ?_ | refine JL.nil ?_ | refine JE.next ?_ | refine JL.gon rfl rfl ?_ | refine JL.gskip rfl rfl rfl rfl ?_)
      refine JC.cond_false rfl rfl ?_
      repeat (refine JC.skip ?_)
      exact JE.mid () trivial (by repeat (first | exact SubE.nil | refine SubE.cons _ _ _ rfl ?_)) (.drop _ _ _ (.keep _ _ _ _ _ _ (fun _ h => h) (.keep _ _ _ _ _ _ (fun _ h => h) (.keep _ _ _ _ _ _ (fun _ h => h) (Less.nil _)))))
  · intro _ _
    by_cases h0 : s.l.length = 0
    · repeat (first | refine JL.q (by first | (apply OQ.eqi_t; exact rfl; exact rfl; exact (show ((s.l.length : Nat) : Int) = ((0 : Nat) : Int) by rw [h0])) | (apply OQ.move; exact rfl) | (apply OQ.len; exact rfl; exact rfl)) rfl ?_ | refine JC.seq ?_ | refine JC.region ?_ | refine JL.nil ?_ | refine JE.next ?_)
      refine JC.cond_true rfl rfl ?_
      repeat (first | refine JL.q (by (apply OQ.assign; exact rfl)) rfl ?_ | refine JC.seq ?_ | refine JC.region ?_ | refine JL.nil ?_ | refine JE.next ?_)
      refine JC.ret ?_
      repeat (refine JE.then_ret ?_)
      exact JE.ret1 rfl (RV.tmp rfl) fun w' hw => ⟨rfl, hw.chg⟩
    · repeat (first | refine JL.q (by first | (apply OQ.eqi_f; exact rfl; exact rfl; exact (show ¬ ((s.l.length : Nat) : Int) = ((0 : Nat) : Int) by omega)) | (apply OQ.move; exact rfl) | (apply OQ.len; exact rfl; exact rfl)) rfl ?_ | refine JC.seq ?_ | refine JC.region ?_ | refine JL.nil ?_ | refine JE.next ?_)
      refine JC.cond_false rfl rfl ?_
      repeat (first | refine JC.seq ?_ | refine JC.region ?_ | refine JC.skip ?_ | refine JE.next ?_)
      refine JL.litZ Tryd.underlying26 e5 rfl fun b110 _ => ?_
      repeat (refine JL.q (by (apply OQ.move; exact rfl)) rfl ?_)
      refine JL.append (cs := s.l.map U8) (fun b' cap' => [⟨b', Sl.Own 5 1 (0 + s.l.length) cap' ([] ++ s.l.map U8), true⟩, ⟨bX, Sl.Own 5 1 (p.l.length + 32) cX (L.map U8), true⟩, ⟨b6, Row 25 (nonce.map U8), true⟩, ⟨b5, Row 23 (key.map U8), true⟩]) Tryd.underlying26 e5 rfl rfl (by intro _ _; repeat (first | exact Repl.here | apply Repl.there)) (by simp) (fun w' hw' => (hs.holds hw' rfl).reads) (of_u8 _) rfl (by decide) (by omega) (by omega) rfl fun bS cS => ?_
      rw [List.nil_append, Nat.zero_add]
      have hks : k % s.l.length < s.l.length := Nat.mod_lt _ (by omega)
      repeat (first | refine JL.q (by first | (apply OQ.idxS0; exact Tryd.underlying26; exact s5; exact rfl; exact rfl; exact hks) | (apply OQ.load; exact c5; exact rfl; exact .here; exact (Sl.Own.cell (map_at U8 0 hks))) | (apply OQ.xor8 (b := 1#8); exact rfl; exact rfl) | (apply OQ.move; exact rfl) | (apply OQ.assign; exact rfl) | (apply OQ.len; exact rfl; exact rfl) | (apply OQ.remN; exact rfl; exact rfl; exact (by (try simp only []); omega))) rfl ?_ | refine JC.seq ?_ | refine JC.region ?_ | refine JL.nil ?_ | refine JE.next ?_)
      obtain ⟨Y, hY⟩ : ∃ z, s.l.set (k % s.l.length) (s.l.getD (k % s.l.length) 0 ^^^ 1#8) = z := ⟨_, rfl⟩
      have hYl : Y.length = s.l.length := by rw [← hY, List.length_set]
      have e3 : ∀ b c, Sl8.v ⟨some ⟨b, 0, none⟩, c, Y⟩ = .slice (some ⟨b, 0, none⟩) s.l.length c := fun b c => by simp [Sl8.v, hYl]
      have hset2 : (s.l.map U8).set (k % s.l.length) (U8 (s.l.getD (k % s.l.length) 0 ^^^ 1#8)) = Y.map U8 := by rw [← List.map_set, hY]
      refine JL.store_own (xs' := Y.map U8) s5 rfl rfl rfl rfl .here (by rw [List.length_map]; exact hks) hset2 ?_
      obtain ⟨o', ho'⟩ : ∃ o, openK (k1 key) (k2 key) nonce Y L = o := ⟨_, rfl⟩
      repeat (first | refine JL.q (by first | (apply OQ.load_agg (cs := key.map U8); exact a25; exact s25; exact rfl; exact (.there (.there (.there .here))); exact (by simpa using hk); exact Row.all) | (apply OQ.load_agg (cs := nonce.map U8); exact noa; exact nos; exact rfl; exact (.there (.there .here)); exact (by simpa using hn); exact Row.all) | (apply OQ.move; exact rfl)) rfl ?_ | refine JC.seq ?_ | refine JC.region ?_ | refine JL.nil ?_ | refine JE.next ?_)
      refine JL.callg (ι := { s' : Sl8 // Gave s' o'.1 s'.cap }) (fun i => .tuple #[i.1.v, N o'.2]) (fun i => i.1.ents) goes_open rfl rfl (fun i => Sl8.ents_wr _) (fun w' hw' => openO_any (e3 _ _) (e1 _ _) ho' hk hn (hG.chg hw'.chg (by simp)) (hQ.chg hw'.chg (by simp)) (ownb_ok hw' .here) (ownb_ok hw' (.there .here)) (show Y.length < 100000000 by omega) (show L.length < 100000000 by omega)) ?_
      rintro ⟨x4, _⟩
      try dsimp only
      refine JL.perm List.perm_append_comm ?_
      repeat (first | refine JL.q (by first | (apply OQ.extract; exact rfl; exact rfl) | (apply OQ.load_agg (cs := key.map U8); exact a25; exact s25; exact rfl; exact (.there (.there (.there .here))); exact (by simpa using hk); exact Row.all) | (apply OQ.load_agg (cs := nonce.map U8); exact noa; exact nos; exact rfl; exact (.there (.there .here)); exact (by simpa using hn); exact Row.all) | (apply OQ.move; exact rfl) | (apply OQ.assign; exact rfl)) rfl ?_ | refine JC.seq ?_ | refine JC.region ?_ | refine JL.nil ?_ | refine JE.next ?_)
      refine JL.callg (ι := { s' : Sl8 // Gave s' o'.1 s'.cap }) (fun i => .tuple #[i.1.v, N o'.2]) (fun i => i.1.ents) goes_ropen rfl rfl (fun i => Sl8.ents_wr _) (fun w' hw' => ropenO_any (e3 _ _) (e1 _ _) ho' hk hn (ownb_ok hw' .here) (ownb_ok hw' (.there .here)) (show Y.length < 100000000 by omega) (show L.length < 100000000 by omega)) ?_
      rintro ⟨x5, _⟩
      try dsimp only
      repeat (first | refine JL.q (by first | (apply OQ.extract; exact rfl; exact rfl) | (apply OQ.eqi_t; exact rfl; exact rfl; exact rfl) | (apply OQ.move; exact rfl) | (apply OQ.assign; exact rfl)) rfl ?_ | refine JC.seq ?_ | refine JC.region ?_ | refine JL.nil ?_ | refine JE.next ?_)
      refine JC.ret ?_
      skip
      exact JE.ret1 rfl (RV.tmp rfl) fun w' hw => ⟨rfl, hw.chg⟩
end Go.Proofs.YtakgpocehoeakaaDoor
