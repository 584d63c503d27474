/-
  Of no statement by itself: what despatchlaw05's speaks and CurveOrder give.
  Conditions: each theorem's own.
-/
import Derived.Test.YtmbabkigjckaaaaCuvG
namespace Go.Proofs.Ytmbabkigjckaaaa
open Sl Crv
theorem goes_speaks5 : Goes Try.prog 7 := ⟨_, Try.func7, rfl, by kernel_rfl⟩
theorem k32g : Try.prog.eqGuardType Try.prog.depth 23 = false := by kernel_rfl
set_option maxHeartbeats 8000000 in
theorem speaks5_any (w : World) : Calls Try.prog 7 ([] : List Value).toArray w fun e w' => e = .returned (.bool true) ∧ Ext w w' := by
  have c1 := cmult_any (keyN 5) (keyN 0) rfl rfl
  rw [multB_zero] at c1
  have c2 := cpublic_any (keyN 1) rfl
  have ly := multB_len (keyN 1) (keyN 9)
  have ne := multB_nine
  generalize multB (keyN 1) (keyN 9) = Y at c2 ly ne
  refine enter (n := 12) Try.func7 rfl rfl rfl (Holds.start w []) ?_
  repeat (first | refine JL.q (by first | (apply OQ.move; exact rfl) | (apply OQ.assign; exact rfl)) rfl ?_ | refine JC.seq ?_ | refine JC.region ?_ | refine JC.block ?_ | refine JC.skip ?_ | refine JC.exit ?_ | refine JL.nil ?_ | refine JE.next ?_ | refine JE.blk_normal ?_ | refine JE.then_exit ?_ | refine JE.blk_hit ?_ | refine JE.blk_miss rfl ?_ | refine JE.then_ret ?_ | refine JE.blk_ret ?_ | refine JC.label ?_ | refine JL.gon rfl rfl ?_ | refine JL.gskip rfl rfl rfl rfl ?_)
  refine JL.q (OQ.pure (v := .agg ((keyN 5).map U8).toArray) rfl rfl (by kernel_rfl)) rfl ?_
  refine JL.q (OQ.pure (v := .agg ((keyN 0).map U8).toArray) rfl rfl (by kernel_rfl)) rfl ?_
  refine JL.q (OQ.callx (vs := [.agg ((keyN 5).map U8).toArray, .agg ((keyN 0).map U8).toArray]) goes_cmult rfl fun w' _ => c1 w') rfl ?_
  refine JL.q (OQ.pure (v := .agg ((keyN 0).map U8).toArray) rfl rfl (by kernel_rfl)) rfl ?_
  repeat (first | refine JL.q (by first | (apply OQ.eqA_t; exact Try.underlying23; exact Try.underlying5; exact y1s; exact k32g; exact rfl; exact rfl; exact (keyN_len 0); exact (keyN_len 0); exact rfl) | (apply OQ.move; exact rfl) | (apply OQ.assign; exact rfl)) rfl ?_ | refine JC.seq ?_ | refine JC.region ?_ | refine JC.block ?_ | refine JC.skip ?_ | refine JC.exit ?_ | refine JL.nil ?_ | refine JE.next ?_ | refine JE.blk_normal ?_ | refine JE.then_exit ?_ | refine JE.blk_hit ?_ | refine JE.blk_miss rfl ?_ | refine JE.then_ret ?_ | refine JE.blk_ret ?_ | refine JC.label ?_ | refine JL.gon rfl rfl ?_ | refine JL.gskip rfl rfl rfl rfl ?_)
  refine JL.q (OQ.pure (v := .agg ((keyN 1).map U8).toArray) rfl rfl (by kernel_rfl)) rfl ?_
  refine JL.gon rfl rfl ?_
  refine JL.q (OQ.callx (vs := [.agg ((keyN 1).map U8).toArray]) goes_cpublic rfl fun w' _ => c2 w') rfl ?_
  refine JL.gon rfl rfl ?_
  refine JL.q (OQ.pure (v := .agg ((keyN 0).map U8).toArray) rfl rfl (by kernel_rfl)) rfl ?_
  refine JL.gon rfl rfl ?_
  refine JL.q (OQ.neA Try.underlying23 Try.underlying5 y1s k32g rfl rfl ly (keyN_len 0)) rfl ?_
  rw [show (!decide (Y = keyN 0)) = true by rw [decide_eq_false ne]; rfl]
  repeat (first | refine JL.q (by first | (apply OQ.pick_t; exact rfl; exact rfl) | (apply OQ.move; exact rfl) | (apply OQ.assign; exact rfl)) rfl ?_ | refine JC.seq ?_ | refine JC.region ?_ | refine JC.block ?_ | refine JC.skip ?_ | refine JC.exit ?_ | refine JL.nil ?_ | refine JE.next ?_ | refine JE.blk_normal ?_ | refine JE.then_exit ?_ | refine JE.blk_hit ?_ | refine JE.blk_miss rfl ?_ | refine JE.then_ret ?_ | refine JE.blk_ret ?_ | refine JC.label ?_ | refine JL.gon rfl rfl ?_ | refine JL.gskip rfl rfl rfl rfl ?_)
  refine JC.ret (JE.ret1 rfl (RV.tmp rfl) ?_)
  exact fun w' hw => ⟨rfl, hw.chg⟩
set_option maxHeartbeats 8000000 in
theorem law_curveOrder (a b u : List By) (w : World) (ha : a.length = 32) (hb : b.length = 32) (hu : u.length = 32) :
    Calls Try.prog 6 [.agg (a.map U8).toArray, .agg (b.map U8).toArray, .agg (u.map U8).toArray].toArray w fun e w' => e = .returned (.bool true) ∧ Ext w w' := by
  have c1 := cmult_any b u hb hu
  have c2 := cmult_any a (multB b u) ha (multB_len _ _)
  have c3 := cmult_any a u ha hu
  have c4 := cmult_any b (multB a u) hb (multB_len _ _)
  rw [← multB_comm a b u ha hb] at c4
  have hla : (a.map U8).length = 32 := by rw [List.length_map]; exact ha
  have hlb : (b.map U8).length = 32 := by rw [List.length_map]; exact hb
  have hlu : (u.map U8).length = 32 := by rw [List.length_map]; exact hu
  have lz := multB_len a (multB b u)
  generalize multB a (multB b u) = Z at c2 c4 lz
  generalize multB b u = X at c1 c2
  generalize multB a u = Y at c3 c4
  refine enter (n := 20) Try.func6 rfl rfl rfl (Holds.start w []) ?_
  repeat (first | refine JL.q (by first | (apply OQ.move; exact rfl) | (apply OQ.assign; exact rfl)) rfl ?_ | refine JC.seq ?_ | refine JC.region ?_ | refine JC.block ?_ | refine JC.skip ?_ | refine JC.exit ?_ | refine JL.nil ?_ | refine JE.next ?_ | refine JE.blk_normal ?_ | refine JE.then_exit ?_ | refine JE.blk_hit ?_ | refine JE.blk_miss rfl ?_ | refine JE.then_ret ?_ | refine JE.blk_ret ?_ | refine JC.label ?_ | refine JL.gon rfl rfl ?_ | refine JL.gskip rfl rfl rfl rfl ?_)
  refine JL.box (r := a.map U8) rfl rfl rfl fun b3 _ => ?_
  refine JL.box (r := b.map U8) rfl rfl rfl fun b4 _ => ?_
  refine JL.box (r := u.map U8) rfl rfl rfl fun b5 _ => ?_
  repeat (first | refine JL.q (by first | (apply OQ.callx; exact goes_speaks5; exact rfl; exact (fun w' _ => speaks5_any w')) | (apply OQ.not; exact rfl) | (apply OQ.move; exact rfl) | (apply OQ.assign; exact rfl)) rfl ?_ | refine JC.seq ?_ | refine JC.region ?_ | refine JC.block ?_ | refine JC.skip ?_ | refine JC.exit ?_ | refine JL.nil ?_ | refine JE.next ?_ | refine JE.blk_normal ?_ | refine JE.then_exit ?_ | refine JE.blk_hit ?_ | refine JE.blk_miss rfl ?_ | refine JE.then_ret ?_ | refine JE.blk_ret ?_ | refine JC.label ?_ | refine JL.gon rfl rfl ?_ | refine JL.gskip rfl rfl rfl rfl ?_)
  refine JC.cond_false rfl rfl ?_
  repeat (first | refine JL.q (by first | (apply OQ.move; exact rfl) | (apply OQ.assign; exact rfl)) rfl ?_ | refine JC.seq ?_ | refine JC.region ?_ | refine JC.block ?_ | refine JC.skip ?_ | refine JC.exit ?_ | refine JL.nil ?_ | refine JE.next ?_ | refine JE.blk_normal ?_ | refine JE.then_exit ?_ | refine JE.blk_hit ?_ | refine JE.blk_miss rfl ?_ | refine JE.then_ret ?_ | refine JE.blk_ret ?_ | refine JC.label ?_ | refine JL.gon rfl rfl ?_ | refine JL.gskip rfl rfl rfl rfl ?_)
  refine JC.tail 11 mixC (by kernel_rfl) ?_
  simp only [List.take_succ_cons, List.take_zero, List.drop_succ_cons, List.drop_zero]
  repeat (first | refine JL.q (by first | (apply OQ.load_agg (cs := a.map U8); exact k32a; exact k32s; exact rfl; exact (by repeat (first | exact Has.here | apply Has.there)); exact hla; exact Row.all) | (apply OQ.load_agg (cs := b.map U8); exact k32a; exact k32s; exact rfl; exact (by repeat (first | exact Has.here | apply Has.there)); exact hlb; exact Row.all) | (apply OQ.load_agg (cs := u.map U8); exact k32a; exact k32s; exact rfl; exact (by repeat (first | exact Has.here | apply Has.there)); exact hlu; exact Row.all) | (apply OQ.callx (vs := [.agg (b.map U8).toArray, .agg (u.map U8).toArray]); exact goes_cmult; exact rfl; exact (fun w' _ => c1 w')) | (apply OQ.callx (vs := [.agg (a.map U8).toArray, .agg (X.map U8).toArray]); exact goes_cmult; exact rfl; exact (fun w' _ => c2 w')) | (apply OQ.callx (vs := [.agg (a.map U8).toArray, .agg (u.map U8).toArray]); exact goes_cmult; exact rfl; exact (fun w' _ => c3 w')) | (apply OQ.callx (vs := [.agg (b.map U8).toArray, .agg (Y.map U8).toArray]); exact goes_cmult; exact rfl; exact (fun w' _ => c4 w')) | (apply OQ.eqA_t; exact Try.underlying23; exact Try.underlying5; exact y1s; exact k32g; exact rfl; exact rfl; exact lz; exact lz; exact rfl) | (apply OQ.move; exact rfl) | (apply OQ.assign; exact rfl)) rfl ?_ | refine JQ.q (by first | (apply OQ.load_agg (cs := a.map U8); exact k32a; exact k32s; exact rfl; exact (by repeat (first | exact Has.here | apply Has.there)); exact hla; exact Row.all) | (apply OQ.load_agg (cs := b.map U8); exact k32a; exact k32s; exact rfl; exact (by repeat (first | exact Has.here | apply Has.there)); exact hlb; exact Row.all) | (apply OQ.load_agg (cs := u.map U8); exact k32a; exact k32s; exact rfl; exact (by repeat (first | exact Has.here | apply Has.there)); exact hlu; exact Row.all) | (apply OQ.callx (vs := [.agg (b.map U8).toArray, .agg (u.map U8).toArray]); exact goes_cmult; exact rfl; exact (fun w' _ => c1 w')) | (apply OQ.callx (vs := [.agg (a.map U8).toArray, .agg (X.map U8).toArray]); exact goes_cmult; exact rfl; exact (fun w' _ => c2 w')) | (apply OQ.callx (vs := [.agg (a.map U8).toArray, .agg (u.map U8).toArray]); exact goes_cmult; exact rfl; exact (fun w' _ => c3 w')) | (apply OQ.callx (vs := [.agg (b.map U8).toArray, .agg (Y.map U8).toArray]); exact goes_cmult; exact rfl; exact (fun w' _ => c4 w')) | (apply OQ.eqA_t; exact Try.underlying23; exact Try.underlying5; exact y1s; exact k32g; exact rfl; exact rfl; exact lz; exact lz; exact rfl) | (apply OQ.move; exact rfl) | (apply OQ.assign; exact rfl)) rfl ?_ | refine JC.seq ?_ | refine JC.region ?_ | refine JC.block ?_ | refine JC.skip ?_ | refine JC.exit ?_ | refine JL.nil ?_ | refine JQ.nil ?_ | refine JQ.nil_tail ?_ | refine JE.next ?_ | refine JE.blk_normal ?_ | refine JE.then_exit ?_ | refine JE.blk_hit ?_ | refine JE.blk_miss rfl ?_ | refine JE.then_ret ?_ | refine JE.blk_ret ?_ | refine JC.label ?_ | refine JL.gon rfl rfl ?_ | refine JQ.gon rfl rfl ?_ | refine JL.gskip rfl rfl rfl rfl ?_ | refine JQ.gskip rfl rfl rfl rfl ?_)
  refine JC.ret (JE.ret1 rfl (RV.tmp rfl) ?_)
  exact fun w' hw => ⟨rfl, hw.chg⟩
end Go.Proofs.Ytmbabkigjckaaaa
