/-
  Of no statement by itself: what despatchlaw04.SealMessages answers.
  Conditions: the theorem's own.
-/
import Derived.Test.YtheemnpfnefbmaaDoorLawL
namespace Go.Proofs.YtheemnpfnefbmaaDoor
open Sl Sha Str

theorem gdn : Tryd.prog.eqGuardType Tryd.prog.depth 26 = false := by kernel_rfl
def needW : Nat → List (Nat × Nat)
  | 3 => [(0, 47), (1, 48), (2, 49)]
  | 7 => [(4, 51), (5, 52), (6, 53)]
  | 8 => [(3, 50), (7, 54)]
  | 10 => [(8, 55), (9, 56)]
  | 11 => [(10, 57)]
  | 12 => [(11, 58)]
  | 13 => [(11, 58)]
  | 14 => [(12, 59), (13, 60), (11, 58)]
  | 15 => [(11, 58)]
  | 16 => [(11, 58)]
  | 17 => [(15, 62), (16, 63), (11, 58)]
  | 18 => [(14, 61), (17, 64), (11, 58)]
  | 19 => [(11, 58), (18, 65)]
  | 20 => [(19, 66)]
  | _ => []
def inpW : Nat → List Nat
  | 0 => [22]
  | 4 => [21]
  | 8 => [3, 7]
  | _ => []

set_option maxHeartbeats 4000000 in
set_option maxRecDepth 4000 in
theorem law_sealMessages (a b : List B) (p r u v : Sl8) (w : World) (hG : GOk w) (hQ : GQ w) (ha : a.length = 12) (hb : b.length = 12) (hx : p.ok w) (hy : r.ok w) (hu : u.ok w) (hv : v.ok w) :
    Calls Tryd.prog 8 [.agg (a.map U8).toArray, .agg (b.map U8).toArray, p.v, r.v, u.v, v.v].toArray w fun e w' => e = .returned (.bool true) ∧ Ext w w' := by
  refine enter (n := 67) Tryd.func8 rfl rfl rfl (Holds.start w []) ?_
  repeat (first | refine JL.q (by first | (apply OQ.move; exact rfl) | (apply OQ.assign; exact rfl) | (apply OQ.len; exact rfl; exact rfl) | (apply OQ.gtrN; exact rfl; exact rfl)) rfl ?_ | refine JC.seq ?_ | refine JC.region ?_ | refine JC.block ?_ | refine JC.skip ?_ | refine JC.exit ?_ | refine JL.nil ?_ | refine JE.next ?_ | refine JE.blk_normal ?_ | refine JE.then_exit ?_ | refine JE.blk_hit ?_ | refine JE.blk_miss rfl ?_ | refine JE.then_ret ?_ | refine JE.blk_ret ?_ | refine JC.label ?_ | refine JL.gon rfl rfl ?_ | refine JL.gskip rfl rfl rfl rfl ?_)
  refine JL.box (r := a.map U8) rfl rfl rfl fun b6 _ => ?_
  refine JL.box (r := b.map U8) rfl rfl rfl fun b7 _ => ?_
  repeat (first | refine JL.q (by first | (apply OQ.callx; exact goes_speaks4; exact rfl; exact (fun w' hw' => speaks4_any w' (hG.chg hw'.chg (by simp)) (hQ.chg hw'.chg (by simp)))) | (apply OQ.not; exact rfl) | (apply OQ.move; exact rfl) | (apply OQ.assign; exact rfl) | (apply OQ.len; exact rfl; exact rfl) | (apply OQ.gtrN; exact rfl; exact rfl)) rfl ?_ | refine JC.seq ?_ | refine JC.region ?_ | refine JC.block ?_ | refine JC.skip ?_ | refine JC.exit ?_ | refine JL.nil ?_ | refine JE.next ?_ | refine JE.blk_normal ?_ | refine JE.then_exit ?_ | refine JE.blk_hit ?_ | refine JE.blk_miss rfl ?_ | refine JE.then_ret ?_ | refine JE.blk_ret ?_ | refine JC.label ?_ | refine JL.gon rfl rfl ?_ | refine JL.gskip rfl rfl rfl rfl ?_)
  refine JC.cond_false rfl rfl ?_
  by_cases g0 : 500 < p.l.length
  · repeat (first | refine JL.q (by first | (apply OQ.gtrN_t; exact rfl; exact rfl; exact g0) | (apply OQ.pick_t; exact rfl; exact rfl) | (apply OQ.move; exact rfl) | (apply OQ.assign; exact rfl) | (apply OQ.len; exact rfl; exact rfl) | (apply OQ.gtrN; exact rfl; exact rfl)) rfl ?_ | refine JC.seq ?_ | refine JC.region ?_ | refine JC.block ?_ | refine JC.skip ?_ | refine JC.exit ?_ | refine JL.nil ?_ | refine JE.next ?_ | refine JE.blk_normal ?_ | refine JE.then_exit ?_ | refine JE.blk_hit ?_ | refine JE.blk_miss rfl ?_ | refine JE.then_ret ?_ | refine JE.blk_ret ?_ | refine JC.label ?_ | refine JL.gon rfl rfl ?_ | refine JL.gskip rfl rfl rfl rfl ?_)
    refine JC.cond_true rfl rfl ?_
    repeat (first | refine JL.q (by first | (apply OQ.move; exact rfl) | (apply OQ.assign; exact rfl) | (apply OQ.len; exact rfl; exact rfl) | (apply OQ.gtrN; exact rfl; exact rfl)) rfl ?_ | refine JC.seq ?_ | refine JC.region ?_ | refine JC.block ?_ | refine JC.skip ?_ | refine JC.exit ?_ | refine JL.nil ?_ | refine JE.next ?_ | refine JE.blk_normal ?_ | refine JE.then_exit ?_ | refine JE.blk_hit ?_ | refine JE.blk_miss rfl ?_ | refine JE.then_ret ?_ | refine JE.blk_ret ?_ | refine JC.label ?_ | refine JL.gon rfl rfl ?_ | refine JL.gskip rfl rfl rfl rfl ?_)
    refine JC.ret ?_
    repeat (first | refine JL.q (by first | (apply OQ.move; exact rfl) | (apply OQ.assign; exact rfl) | (apply OQ.len; exact rfl; exact rfl) | (apply OQ.gtrN; exact rfl; exact rfl)) rfl ?_ | refine JC.seq ?_ | refine JC.region ?_ | refine JC.block ?_ | refine JC.skip ?_ | refine JC.exit ?_ | refine JL.nil ?_ | refine JE.next ?_ | refine JE.blk_normal ?_ | refine JE.then_exit ?_ | refine JE.blk_hit ?_ | refine JE.blk_miss rfl ?_ | refine JE.then_ret ?_ | refine JE.blk_ret ?_ | refine JC.label ?_ | refine JL.gon rfl rfl ?_ | refine JL.gskip rfl rfl rfl rfl ?_)
    exact JE.ret1 rfl (RV.tmp rfl) fun w' hw => ⟨rfl, hw.chg⟩
  by_cases g1 : 500 < r.l.length
  · repeat (first | refine JL.q (by first | (apply OQ.gtrN_f; exact rfl; exact rfl; exact g0) | (apply OQ.gtrN_t; exact rfl; exact rfl; exact g1) | (apply OQ.pick_t; exact rfl; exact rfl) | (apply OQ.pick_f; exact rfl; exact rfl) | (apply OQ.move; exact rfl) | (apply OQ.assign; exact rfl) | (apply OQ.len; exact rfl; exact rfl) | (apply OQ.gtrN; exact rfl; exact rfl)) rfl ?_ | refine JC.seq ?_ | refine JC.region ?_ | refine JC.block ?_ | refine JC.skip ?_ | refine JC.exit ?_ | refine JL.nil ?_ | refine JE.next ?_ | refine JE.blk_normal ?_ | refine JE.then_exit ?_ | refine JE.blk_hit ?_ | refine JE.blk_miss rfl ?_ | refine JE.then_ret ?_ | refine JE.blk_ret ?_ | refine JC.label ?_ | refine JL.gon rfl rfl ?_ | refine JL.gskip rfl rfl rfl rfl ?_)
    refine JC.cond_true rfl rfl ?_
    repeat (first | refine JL.q (by first | (apply OQ.move; exact rfl) | (apply OQ.assign; exact rfl) | (apply OQ.len; exact rfl; exact rfl) | (apply OQ.gtrN; exact rfl; exact rfl)) rfl ?_ | refine JC.seq ?_ | refine JC.region ?_ | refine JC.block ?_ | refine JC.skip ?_ | refine JC.exit ?_ | refine JL.nil ?_ | refine JE.next ?_ | refine JE.blk_normal ?_ | refine JE.then_exit ?_ | refine JE.blk_hit ?_ | refine JE.blk_miss rfl ?_ | refine JE.then_ret ?_ | refine JE.blk_ret ?_ | refine JC.label ?_ | refine JL.gon rfl rfl ?_ | refine JL.gskip rfl rfl rfl rfl ?_)
    refine JC.ret ?_
    repeat (first | refine JL.q (by first | (apply OQ.move; exact rfl) | (apply OQ.assign; exact rfl) | (apply OQ.len; exact rfl; exact rfl) | (apply OQ.gtrN; exact rfl; exact rfl)) rfl ?_ | refine JC.seq ?_ | refine JC.region ?_ | refine JC.block ?_ | refine JC.skip ?_ | refine JC.exit ?_ | refine JL.nil ?_ | refine JE.next ?_ | refine JE.blk_normal ?_ | refine JE.then_exit ?_ | refine JE.blk_hit ?_ | refine JE.blk_miss rfl ?_ | refine JE.then_ret ?_ | refine JE.blk_ret ?_ | refine JC.label ?_ | refine JL.gon rfl rfl ?_ | refine JL.gskip rfl rfl rfl rfl ?_)
    exact JE.ret1 rfl (RV.tmp rfl) fun w' hw => ⟨rfl, hw.chg⟩
  by_cases g2 : 500 < u.l.length
  · repeat (first | refine JL.q (by first | (apply OQ.gtrN_f; exact rfl; exact rfl; exact g0) | (apply OQ.gtrN_f; exact rfl; exact rfl; exact g1) | (apply OQ.gtrN_t; exact rfl; exact rfl; exact g2) | (apply OQ.pick_t; exact rfl; exact rfl) | (apply OQ.pick_f; exact rfl; exact rfl) | (apply OQ.move; exact rfl) | (apply OQ.assign; exact rfl) | (apply OQ.len; exact rfl; exact rfl) | (apply OQ.gtrN; exact rfl; exact rfl)) rfl ?_ | refine JC.seq ?_ | refine JC.region ?_ | refine JC.block ?_ | refine JC.skip ?_ | refine JC.exit ?_ | refine JL.nil ?_ | refine JE.next ?_ | refine JE.blk_normal ?_ | refine JE.then_exit ?_ | refine JE.blk_hit ?_ | refine JE.blk_miss rfl ?_ | refine JE.then_ret ?_ | refine JE.blk_ret ?_ | refine JC.label ?_ | refine JL.gon rfl rfl ?_ | refine JL.gskip rfl rfl rfl rfl ?_)
    refine JC.cond_true rfl rfl ?_
    repeat (first | refine JL.q (by first | (apply OQ.move; exact rfl) | (apply OQ.assign; exact rfl) | (apply OQ.len; exact rfl; exact rfl) | (apply OQ.gtrN; exact rfl; exact rfl)) rfl ?_ | refine JC.seq ?_ | refine JC.region ?_ | refine JC.block ?_ | refine JC.skip ?_ | refine JC.exit ?_ | refine JL.nil ?_ | refine JE.next ?_ | refine JE.blk_normal ?_ | refine JE.then_exit ?_ | refine JE.blk_hit ?_ | refine JE.blk_miss rfl ?_ | refine JE.then_ret ?_ | refine JE.blk_ret ?_ | refine JC.label ?_ | refine JL.gon rfl rfl ?_ | refine JL.gskip rfl rfl rfl rfl ?_)
    refine JC.ret ?_
    repeat (first | refine JL.q (by first | (apply OQ.move; exact rfl) | (apply OQ.assign; exact rfl) | (apply OQ.len; exact rfl; exact rfl) | (apply OQ.gtrN; exact rfl; exact rfl)) rfl ?_ | refine JC.seq ?_ | refine JC.region ?_ | refine JC.block ?_ | refine JC.skip ?_ | refine JC.exit ?_ | refine JL.nil ?_ | refine JE.next ?_ | refine JE.blk_normal ?_ | refine JE.then_exit ?_ | refine JE.blk_hit ?_ | refine JE.blk_miss rfl ?_ | refine JE.then_ret ?_ | refine JE.blk_ret ?_ | refine JC.label ?_ | refine JL.gon rfl rfl ?_ | refine JL.gskip rfl rfl rfl rfl ?_)
    exact JE.ret1 rfl (RV.tmp rfl) fun w' hw => ⟨rfl, hw.chg⟩
  by_cases g3 : 500 < v.l.length
  · repeat (first | refine JL.q (by first | (apply OQ.gtrN_f; exact rfl; exact rfl; exact g0) | (apply OQ.gtrN_f; exact rfl; exact rfl; exact g1) | (apply OQ.gtrN_f; exact rfl; exact rfl; exact g2) | (apply OQ.gtrN_t; exact rfl; exact rfl; exact g3) | (apply OQ.pick_t; exact rfl; exact rfl) | (apply OQ.pick_f; exact rfl; exact rfl) | (apply OQ.move; exact rfl) | (apply OQ.assign; exact rfl) | (apply OQ.len; exact rfl; exact rfl) | (apply OQ.gtrN; exact rfl; exact rfl)) rfl ?_ | refine JC.seq ?_ | refine JC.region ?_ | refine JC.block ?_ | refine JC.skip ?_ | refine JC.exit ?_ | refine JL.nil ?_ | refine JE.next ?_ | refine JE.blk_normal ?_ | refine JE.then_exit ?_ | refine JE.blk_hit ?_ | refine JE.blk_miss rfl ?_ | refine JE.then_ret ?_ | refine JE.blk_ret ?_ | refine JC.label ?_ | refine JL.gon rfl rfl ?_ | refine JL.gskip rfl rfl rfl rfl ?_)
    refine JC.cond_true rfl rfl ?_
    repeat (first | refine JL.q (by first | (apply OQ.move; exact rfl) | (apply OQ.assign; exact rfl) | (apply OQ.len; exact rfl; exact rfl) | (apply OQ.gtrN; exact rfl; exact rfl)) rfl ?_ | refine JC.seq ?_ | refine JC.region ?_ | refine JC.block ?_ | refine JC.skip ?_ | refine JC.exit ?_ | refine JL.nil ?_ | refine JE.next ?_ | refine JE.blk_normal ?_ | refine JE.then_exit ?_ | refine JE.blk_hit ?_ | refine JE.blk_miss rfl ?_ | refine JE.then_ret ?_ | refine JE.blk_ret ?_ | refine JC.label ?_ | refine JL.gon rfl rfl ?_ | refine JL.gskip rfl rfl rfl rfl ?_)
    refine JC.ret ?_
    repeat (first | refine JL.q (by first | (apply OQ.move; exact rfl) | (apply OQ.assign; exact rfl) | (apply OQ.len; exact rfl; exact rfl) | (apply OQ.gtrN; exact rfl; exact rfl)) rfl ?_ | refine JC.seq ?_ | refine JC.region ?_ | refine JC.block ?_ | refine JC.skip ?_ | refine JC.exit ?_ | refine JL.nil ?_ | refine JE.next ?_ | refine JE.blk_normal ?_ | refine JE.then_exit ?_ | refine JE.blk_hit ?_ | refine JE.blk_miss rfl ?_ | refine JE.then_ret ?_ | refine JE.blk_ret ?_ | refine JC.label ?_ | refine JL.gon rfl rfl ?_ | refine JL.gskip rfl rfl rfl rfl ?_)
    exact JE.ret1 rfl (RV.tmp rfl) fun w' hw => ⟨rfl, hw.chg⟩
  repeat (first | refine JL.q (by first | (apply OQ.gtrN_f; exact rfl; exact rfl; exact g0) | (apply OQ.gtrN_f; exact rfl; exact rfl; exact g1) | (apply OQ.gtrN_f; exact rfl; exact rfl; exact g2) | (apply OQ.gtrN_f; exact rfl; exact rfl; exact g3) | (apply OQ.pick_f; exact rfl; exact rfl) | (apply OQ.move; exact rfl) | (apply OQ.assign; exact rfl) | (apply OQ.len; exact rfl; exact rfl) | (apply OQ.gtrN; exact rfl; exact rfl)) rfl ?_ | refine JC.seq ?_ | refine JC.region ?_ | refine JC.block ?_ | refine JC.skip ?_ | refine JC.exit ?_ | refine JL.nil ?_ | refine JE.next ?_ | refine JE.blk_normal ?_ | refine JE.then_exit ?_ | refine JE.blk_hit ?_ | refine JE.blk_miss rfl ?_ | refine JE.then_ret ?_ | refine JE.blk_ret ?_ | refine JC.label ?_ | refine JL.gon rfl rfl ?_ | refine JL.gskip rfl rfl rfl rfl ?_)
  refine JC.cond_false rfl rfl ?_
  obtain ⟨one, hone⟩ : ∃ o, o = (decide (a = b) && decide (p.l = r.l) && decide (u.l = v.l)) := ⟨_, rfl⟩
  refine JC.skip ?_
  refine JE.next ?_
  refine JC.seq ?_
  refine JC.join (ι := Unit) (fun _ => [(2, p.v), (3, r.v), (4, u.v), (5, v.v), (6, Pt b6 0), (7, Pt b7 0), (13, .bool one)]) (fun _ => [⟨b7, Row 26 (b.map U8), true⟩, ⟨b6, Row 26 (a.map U8), true⟩]) (fun _ => True) ?_ ?_
  · by_cases h1 : a = b
    · by_cases h2 : p.l = r.l
      · obtain rfl : one = decide (u.l = v.l) := by rw [hone]; simp [h1, h2]
        repeat (first | refine JL.q (by first | (apply OQ.load_agg (b := b6) (cs := a.map U8); exact noa; exact nos; exact rfl; exact (.there .here); exact (by simpa using ha); exact Row.all) | (apply OQ.load_agg (b := b7) (cs := b.map U8); exact noa; exact nos; exact rfl; exact .here; exact (by simpa using hb); exact Row.all) | (apply OQ.eqA_t; exact Tryd.underlying26; exact Tryd.underlying5; exact s5; exact gdn; exact rfl; exact rfl; exact ha; exact hb; exact h1) | (apply OQ.callx (vs := [p.v, r.v]); exact goes_same; exact rfl; exact (fun w' hw' => same_b (a := p) (b := r) (c := true) rfl rfl (hx.holds hw' rfl) (hy.holds hw' rfl) (by omega) (decide_eq_true h2))) | (apply OQ.callx (vs := [u.v, v.v]); exact goes_same; exact rfl; exact (fun w' hw' => same_b (a := u) (b := v) (c := decide (u.l = v.l)) rfl rfl (hu.holds hw' rfl) (hv.holds hw' rfl) (by omega) rfl)) | (apply OQ.pick_t; exact rfl; exact rfl) | (apply OQ.move; exact rfl) | (apply OQ.assign; exact rfl) | (apply OQ.len; exact rfl; exact rfl) | (apply OQ.gtrN; exact rfl; exact rfl)) rfl ?_ | refine JC.seq ?_ | refine JC.region ?_ | refine JC.block ?_ | refine JC.skip ?_ | refine JC.exit ?_ | refine JL.nil ?_ | refine JE.next ?_ | refine JE.blk_normal ?_ | refine JE.then_exit ?_ | refine JE.blk_hit ?_ | refine JE.blk_miss rfl ?_ | refine JE.then_ret ?_ | refine JE.blk_ret ?_ | refine JC.label ?_ | refine JL.gon rfl rfl ?_ | refine JL.gskip rfl rfl rfl rfl ?_)
        exact JE.mid () trivial (by repeat (first | exact SubE.nil | refine SubE.cons _ _ _ rfl ?_)) (Less.refl _)
      · obtain rfl : one = false := by rw [hone]; simp [h1, h2]
        repeat (first | refine JL.q (by first | (apply OQ.load_agg (b := b6) (cs := a.map U8); exact noa; exact nos; exact rfl; exact (.there .here); exact (by simpa using ha); exact Row.all) | (apply OQ.load_agg (b := b7) (cs := b.map U8); exact noa; exact nos; exact rfl; exact .here; exact (by simpa using hb); exact Row.all) | (apply OQ.eqA_t; exact Tryd.underlying26; exact Tryd.underlying5; exact s5; exact gdn; exact rfl; exact rfl; exact ha; exact hb; exact h1) | (apply OQ.callx (vs := [p.v, r.v]); exact goes_same; exact rfl; exact (fun w' hw' => same_b (a := p) (b := r) (c := false) rfl rfl (hx.holds hw' rfl) (hy.holds hw' rfl) (by omega) (decide_eq_false h2))) | (apply OQ.pick_t; exact rfl; exact rfl) | (apply OQ.pick_f; exact rfl; exact rfl) | (apply OQ.move; exact rfl) | (apply OQ.assign; exact rfl) | (apply OQ.len; exact rfl; exact rfl) | (apply OQ.gtrN; exact rfl; exact rfl)) rfl ?_ | refine JC.seq ?_ | refine JC.region ?_ | refine JC.block ?_ | refine JC.skip ?_ | refine JC.exit ?_ | refine JL.nil ?_ | refine JE.next ?_ | refine JE.blk_normal ?_ | refine JE.then_exit ?_ | refine JE.blk_hit ?_ | refine JE.blk_miss rfl ?_ | refine JE.then_ret ?_ | refine JE.blk_ret ?_ | refine JC.label ?_ | refine JL.gon rfl rfl ?_ | refine JL.gskip rfl rfl rfl rfl ?_)
        exact JE.mid () trivial (by repeat (first | exact SubE.nil | refine SubE.cons _ _ _ rfl ?_)) (Less.refl _)
    · obtain rfl : one = false := by rw [hone]; simp [h1]
      repeat (first | refine JL.q (by first | (apply OQ.load_agg (b := b6) (cs := a.map U8); exact noa; exact nos; exact rfl; exact (.there .here); exact (by simpa using ha); exact Row.all) | (apply OQ.load_agg (b := b7) (cs := b.map U8); exact noa; exact nos; exact rfl; exact .here; exact (by simpa using hb); exact Row.all) | (apply OQ.eqA_f; exact Tryd.underlying26; exact Tryd.underlying5; exact s5; exact gdn; exact rfl; exact rfl; exact ha; exact hb; exact h1) | (apply OQ.pick_f; exact rfl; exact rfl) | (apply OQ.move; exact rfl) | (apply OQ.assign; exact rfl) | (apply OQ.len; exact rfl; exact rfl) | (apply OQ.gtrN; exact rfl; exact rfl)) rfl ?_ | refine JC.seq ?_ | refine JC.region ?_ | refine JC.block ?_ | refine JC.skip ?_ | refine JC.exit ?_ | refine JL.nil ?_ | refine JE.next ?_ | refine JE.blk_normal ?_ | refine JE.then_exit ?_ | refine JE.blk_hit ?_ | refine JE.blk_miss rfl ?_ | refine JE.then_ret ?_ | refine JE.blk_ret ?_ | refine JC.label ?_ | refine JL.gon rfl rfl ?_ | refine JL.gskip rfl rfl rfl rfl ?_)
      exact JE.mid () trivial (by repeat (first | exact SubE.nil | refine SubE.cons _ _ _ rfl ?_)) (Less.refl _)
  · intro _ _
    have hmm : decide (msg a p.l u.l = msg b r.l v.l) = one := by
      rw [hone, Bool.eq_iff_iff]
      simp only [decide_eq_true_eq, Bool.and_eq_true]
      constructor
      · intro h
        obtain ⟨h1, h2, h3⟩ := msg_inj ha hb (by omega) (by omega) h
        exact ⟨⟨h1, h2⟩, h3⟩
      · rintro ⟨⟨h1, h2⟩, h3⟩
        rw [h1, h2, h3]
    have hl1 := msg_length a p.l u.l
    have hl2 := msg_length b r.l v.l
    have hM1 := fun w' (h1 : p.ok w') (h2 : u.ok w') => message_any a p u ha w' h1 h2 (by omega) (by omega)
    have hM2 := fun w' (h1 : r.ok w') (h2 : v.ok w') => message_any b r v hb w' h1 h2 (by omega) (by omega)
    rw [ha] at hl1
    rw [hb] at hl2
    generalize msg a p.l u.l = m1 at hmm hl1 hM1
    generalize msg b r.l v.l = m2 at hmm hl2 hM2
    repeat (first | refine JL.q (by first | (apply OQ.move; exact rfl) | (apply OQ.assign; exact rfl) | (apply OQ.len; exact rfl; exact rfl) | (apply OQ.gtrN; exact rfl; exact rfl)) rfl ?_ | refine JC.seq ?_ | refine JC.region ?_ | refine JC.block ?_ | refine JC.skip ?_ | refine JC.exit ?_ | refine JL.nil ?_ | refine JE.next ?_ | refine JE.blk_normal ?_ | refine JE.then_exit ?_ | refine JE.blk_hit ?_ | refine JE.blk_miss rfl ?_ | refine JE.then_ret ?_ | refine JE.blk_ret ?_ | refine JC.label ?_ | refine JL.gon rfl rfl ?_ | refine JL.gskip rfl rfl rfl rfl ?_)
    let vs : Nat → X → Value := fun j z => match j with
      | 0 => .agg (a.map U8).toArray
      | 1 => p.v
      | 2 => u.v
      | 3 => .slice (some ⟨z.1, 0, none⟩) m1.length z.2
      | 4 => .agg (b.map U8).toArray
      | 5 => r.v
      | 6 => v.v
      | 7 => .slice (some ⟨z.1, 0, none⟩) m2.length z.2
      | 8 => .bool one
      | 9 => .bool one
      | 12 => p.v
      | 13 => r.v
      | 14 => .bool (decide (p.l = r.l))
      | 15 => p.v
      | 16 => r.v
      | 17 => .bool (decide (p.l = r.l))
      | _ => .bool true
    let Ms : Nat → X → List Ent := fun j z => match j with
      | 3 => [⟨z.1, Own 5 1 m1.length z.2 (m1.map U8), true⟩]
      | 7 => [⟨z.1, Own 5 1 m2.length z.2 (m2.map U8), true⟩]
      | 21 => [⟨b7, Row 26 (b.map U8), true⟩]
      | 22 => [⟨b6, Row 26 (a.map U8), true⟩]
      | _ => []
    refine JC.grow (g := ⟨[(2, p.v), (3, r.v), (4, u.v), (5, v.v), (6, Pt b6 0), (7, Pt b7 0), (13, .bool one)], 23, vs, Ms, needW, inpW, fun _ => [], fun _ => none⟩) [(20, 12)] [] mixed (by repeat (first | exact SubE.nil | refine SubE.cons _ _ _ rfl ?_)) (Less.refl _) (by kernel_rfl) (by kernel_rfl) (by kernel_rfl) ?_ ?_
    · refine ⟨?_, ?_, ?_, ?_, ?_, ?_, ?_, ?_, ?_, ?_, ?_, ?_, ?_, ?_, ?_, ?_, ?_, ?_, ?_, ?_, ?_, trivial⟩
      iterate 3 (focus (intro x EF MF Q kk; (try refine JL.gon rfl rfl ?_); exact JL.q (by first | (apply OQ.load_agg (cs := a.map U8); exact noa; exact nos; exact rfl; exact .here; exact (by simpa using ha); exact Row.all) | (apply OQ.move; exact rfl) | (apply OQ.assign; exact rfl) | (apply OQ.len; exact rfl; exact rfl) | (apply OQ.gtrN; exact rfl; exact rfl)) rfl (JL.nil (kk default nofun))))
      · intro z EF MF Q kk
        exact JL.callg (ι := Nat × Nat) (fun x => .slice (some ⟨x.1, 0, none⟩) m1.length x.2) (fun x => [⟨x.1, Own 5 1 m1.length x.2 (m1.map U8), true⟩]) goes_message rfl rfl (fun i => by simp) (fun w' hw' => hM1 w' (hx.holds hw' rfl) (hu.holds hw' rfl)) fun i => JL.nil (kk i nofun)
      iterate 3 (focus (intro x EF MF Q kk; (try refine JL.gon rfl rfl ?_); exact JL.q (by first | (apply OQ.load_agg (cs := b.map U8); exact noa; exact nos; exact rfl; exact .here; exact (by simpa using hb); exact Row.all) | (apply OQ.move; exact rfl) | (apply OQ.assign; exact rfl) | (apply OQ.len; exact rfl; exact rfl) | (apply OQ.gtrN; exact rfl; exact rfl)) rfl (JL.nil (kk default nofun))))
      · intro z EF MF Q kk
        exact JL.callg (ι := Nat × Nat) (fun x => .slice (some ⟨x.1, 0, none⟩) m2.length x.2) (fun x => [⟨x.1, Own 5 1 m2.length x.2 (m2.map U8), true⟩]) goes_message rfl rfl (fun i => by simp) (fun w' hw' => hM2 w' (hy.holds hw' rfl) (hv.holds hw' rfl)) fun i => JL.nil (kk i nofun)
      · intro z EF MF Q kk
        exact JL.q (OQ.callx (vs := [.slice (some ⟨(z 3).1, 0, none⟩) m1.length (z 3).2, .slice (some ⟨(z 7).1, 0, none⟩) m2.length (z 7).2]) goes_same rfl fun w' hw' => same_b (a := ⟨some ⟨(z 3).1, 0, none⟩, (z 3).2, m1⟩) (b := ⟨some ⟨(z 7).1, 0, none⟩, (z 7).2, m2⟩) (c := one) rfl rfl (ownb_ok hw' .here) (ownb_ok hw' (.there .here)) (show m1.length < 4611686018427387904 by omega) hmm) rfl (JL.nil (kk default nofun))
      iterate 12 (focus (intro x EF MF Q kk; (try refine JL.gon rfl rfl ?_); exact JL.q (by first | (apply OQ.eqb_t; exact Tryd.underlying4; exact rfl; exact rfl; exact rfl) | (apply OQ.callx (vs := [p.v, r.v]); exact goes_ssame; exact rfl; exact (fun w' hw' => ssame_b (a := p) (b := r) (c := decide (p.l = r.l)) rfl rfl (hx.holds hw' rfl) (hy.holds hw' rfl) (by omega) rfl)) | (apply OQ.callx (vs := [p.v, r.v]); exact goes_same; exact rfl; exact (fun w' hw' => same_b (a := p) (b := r) (c := decide (p.l = r.l)) rfl rfl (hx.holds hw' rfl) (hy.holds hw' rfl) (by omega) rfl)) | (apply OQ.pick_t; exact rfl; exact rfl) | (apply OQ.move; exact rfl) | (apply OQ.assign; exact rfl) | (apply OQ.len; exact rfl; exact rfl) | (apply OQ.gtrN; exact rfl; exact rfl)) rfl (JL.nil (kk default nofun))))
    · intro z _
      repeat (first | refine JL.q (by first | (apply OQ.move; exact rfl) | (apply OQ.assign; exact rfl) | (apply OQ.len; exact rfl; exact rfl) | (apply OQ.gtrN; exact rfl; exact rfl)) rfl ?_ | refine JC.seq ?_ | refine JC.region ?_ | refine JC.block ?_ | refine JC.skip ?_ | refine JC.exit ?_ | refine JL.nil ?_ | refine JE.next ?_ | refine JE.blk_normal ?_ | refine JE.then_exit ?_ | refine JE.blk_hit ?_ | refine JE.blk_miss rfl ?_ | refine JE.then_ret ?_ | refine JE.blk_ret ?_ | refine JC.label ?_ | refine JL.gon rfl rfl ?_ | refine JL.gskip rfl rfl rfl rfl ?_)
      refine JC.ret ?_
      repeat (first | refine JL.q (by first | (apply OQ.move; exact rfl) | (apply OQ.assign; exact rfl) | (apply OQ.len; exact rfl; exact rfl) | (apply OQ.gtrN; exact rfl; exact rfl)) rfl ?_ | refine JC.seq ?_ | refine JC.region ?_ | refine JC.block ?_ | refine JC.skip ?_ | refine JC.exit ?_ | refine JL.nil ?_ | refine JE.next ?_ | refine JE.blk_normal ?_ | refine JE.then_exit ?_ | refine JE.blk_hit ?_ | refine JE.blk_miss rfl ?_ | refine JE.then_ret ?_ | refine JE.blk_ret ?_ | refine JC.label ?_ | refine JL.gon rfl rfl ?_ | refine JL.gskip rfl rfl rfl rfl ?_)
      exact JE.ret1 rfl (RV.tmp rfl) fun w' hw => ⟨rfl, hw.chg⟩
end Go.Proofs.YtheemnpfnefbmaaDoor
