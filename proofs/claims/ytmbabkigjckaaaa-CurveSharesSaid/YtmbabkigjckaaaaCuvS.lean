/-
  Of no statement by itself: what the code's New and Shared give, and despatchlaw05's CurveShares.
  Conditions: each theorem's own.
-/
import Derived.Test.YtmbabkigjckaaaaCurL
import Derived.Laws.Tables
import Derived.Great.FillDense
namespace Go.Proofs.Ytmbabkigjckaaaa
open Sl Crv
section
variable {P : Program} {n : Nat} {E : Env} {C : World → Prop} {dst : Option Tmp} {ty t t' : TypeId} {pos : String} {aft : Array Edge} {g : Option (Nat × Bool)} {x y : Operand} {v u : Value} {cs : List Value}
/-- a literal of a struct of two parts -/
theorem OQ.build2 (hx : ev E x = some v) (hy : ev E y = some u) (h : P.built t [(0, v), (1, u)] = some cs.toArray) : OQ P n E C ⟨dst, .build t #[(0, x), (1, y)], ty, pos, aft, g⟩ (.agg cs.toArray) :=
  OQ.run fun a ha w _ => by
    have h1 := ha.eval hx
    have h2 := ha.eval hy
    have r := run_build w t #[(0, v), (1, u)] cs.toArray (by simpa using h)
    simp [execOp, h1, h2, r]
end
theorem fill2 (place : Nat → Option (Nat × Nat)) (h0 : place 0 = some (0, 32)) (h1 : place 1 = some (32, 32)) (a b : List By) (ha : a.length = 32) (hb : b.length = 32) :
    Instr.fill place (((List.replicate 64 (0 : By)).map U8).toArray) [(0, .agg (a.map U8).toArray), (1, .agg (b.map U8).toArray)] = some ((a ++ b).map U8).toArray := by
  have e : Instr.fill place (((List.replicate 64 (0 : By)).map U8).toArray) [(0, .agg (a.map U8).toArray), (1, .agg (b.map U8).toArray)] =
      Instr.fill (fun i => some (i * 32, 32)) (((List.replicate 64 (0 : By)).map U8).toArray) [(0, .agg (a.map U8).toArray), (1, .agg (b.map U8).toArray)] := by
    simp [Instr.fill, h0, h1]
  rw [e]
  obtain ⟨r, h6, h7, h8⟩ := Great.fill_dense (s := 32) (by decide) [.agg (a.map U8).toArray, .agg (b.map U8).toArray] 0 (((List.replicate 64 (0 : By)).map U8).toArray) (by simp [Value.cells, ha, hb]) (by simp)
  simp only [List.zipIdx_cons, List.zipIdx_nil, List.map_cons, List.map_nil] at h6
  have hr : r = ((a ++ b).map U8).toArray := by
    apply Array.ext_getElem?
    intro k
    rw [h8 k]
    by_cases hk : k < 32
    · rw [if_pos (by simp; omega)]
      simp [Nat.div_eq_of_lt hk, Nat.mod_eq_of_lt hk, Value.cells, List.getElem?_append, ha, hk]
    · by_cases hk2 : k < 64
      · rw [if_pos (by simp; omega)]
        have d : k / 32 = 1 := by omega
        have m : k % 32 = k - 32 := by omega
        simp [d, m, Value.cells, List.getElem?_append, ha, hk]
      · rw [if_neg (by simp; omega), Array.getElem?_eq_none (by simp; omega), Array.getElem?_eq_none (by simp; omega)]
  rw [← hr]
  exact h6
theorem p64s : szT Try.prog 29 = some 64 := by kernel_rfl
theorem p64a : aggT Try.prog 29 = true := by kernel_rfl
theorem p64z : zc Try.prog 29 = some ((List.replicate 64 (0 : By)).map U8) := by kernel_rfl
theorem pair_built (a b : List By) (ha : a.length = 32) (hb : b.length = 32) : Try.prog.built 29 [(0, .agg (a.map U8).toArray), (1, .agg (b.map U8).toArray)] = some ((a ++ b).map U8).toArray := by
  have h : Try.prog.built 29 [(0, .agg (a.map U8).toArray), (1, .agg (b.map U8).toArray)] = Instr.fill (fun i => #[(0, 32), (32, 32)][i]?) (((List.replicate 64 (0 : By)).map U8).toArray) [(0, .agg (a.map U8).toArray), (1, .agg (b.map U8).toArray)] := by kernel_rfl
  rw [h]
  exact fill2 _ rfl rfl a b ha hb
theorem goes_cnew : Goes Try.prog 11 := ⟨_, Try.func11, rfl, by kernel_rfl⟩
theorem goes_cshared : Goes Try.prog 13 := ⟨_, Try.func13, rfl, by kernel_rfl⟩
set_option maxHeartbeats 8000000 in
theorem cnew_any (k : List By) (hk : k.length = 32) (w : World) : Calls Try.prog 11 [.agg (k.map U8).toArray].toArray w fun e w' => e = .returned (.agg ((k ++ multB k (keyN 9)).map U8).toArray) ∧ Ext w w' := by
  have c := cpublic_any k hk
  have hY := multB_len k (keyN 9)
  generalize multB k (keyN 9) = Y at c hY ⊢
  have hlk : (k.map U8).length = 32 := by rw [List.length_map]; exact hk
  have hlp : ((k ++ Y).map U8).length = 64 := by rw [List.length_map, List.length_append, hk, hY]
  have bt := pair_built k Y hk hY
  refine enter (n := 7) Try.func11 rfl rfl rfl (Holds.start w []) ?_
  repeat (first | refine JL.q (by first | (apply OQ.move; exact rfl) | (apply OQ.assign; exact rfl) | (apply OQ.fld; exact rfl; exact rfl; exact rfl; exact (by decide); exact rfl)) rfl ?_ | refine JC.seq ?_ | refine JC.region ?_ | refine JC.block ?_ | refine JC.skip ?_ | refine JC.exit ?_ | refine JL.nil ?_ | refine JE.next ?_ | refine JE.blk_normal ?_ | refine JE.then_exit ?_ | refine JE.blk_hit ?_ | refine JE.blk_miss rfl ?_ | refine JE.then_ret ?_ | refine JE.blk_ret ?_ | refine JC.label ?_ | refine JL.gon rfl rfl ?_ | refine JL.gskip rfl rfl rfl rfl ?_)
  refine JL.box (r := k.map U8) rfl rfl rfl fun b1 _ => ?_
  refine JL.alloc p64z rfl fun b2 _ => ?_
  repeat (first | refine JL.q (by first | (apply OQ.move; exact rfl) | (apply OQ.assign; exact rfl) | (apply OQ.fld; exact rfl; exact rfl; exact rfl; exact (by decide); exact rfl)) rfl ?_ | refine JC.seq ?_ | refine JC.region ?_ | refine JC.block ?_ | refine JC.skip ?_ | refine JC.exit ?_ | refine JL.nil ?_ | refine JE.next ?_ | refine JE.blk_normal ?_ | refine JE.then_exit ?_ | refine JE.blk_hit ?_ | refine JE.blk_miss rfl ?_ | refine JE.then_ret ?_ | refine JE.blk_ret ?_ | refine JC.label ?_ | refine JL.gon rfl rfl ?_ | refine JL.gskip rfl rfl rfl rfl ?_)
  refine JC.tail 4 mixC (by kernel_rfl) ?_
  simp only [List.take_succ_cons, List.take_zero, List.drop_succ_cons, List.drop_zero]
  repeat (first | refine JL.q (by first | (apply OQ.load_agg (cs := k.map U8); exact k32a; exact k32s; exact rfl; exact (by repeat (first | exact Has.here | apply Has.there)); exact hlk; exact Row.all) | (apply OQ.callx (vs := [.agg (k.map U8).toArray]); exact goes_cpublic; exact rfl; exact (fun w' _ => c w')) | (apply OQ.build2; exact rfl; exact rfl; exact bt) | (apply OQ.move; exact rfl) | (apply OQ.assign; exact rfl) | (apply OQ.fld; exact rfl; exact rfl; exact rfl; exact (by decide); exact rfl)) rfl ?_ | refine JQ.q (by first | (apply OQ.load_agg (cs := k.map U8); exact k32a; exact k32s; exact rfl; exact (by repeat (first | exact Has.here | apply Has.there)); exact hlk; exact Row.all) | (apply OQ.callx (vs := [.agg (k.map U8).toArray]); exact goes_cpublic; exact rfl; exact (fun w' _ => c w')) | (apply OQ.build2; exact rfl; exact rfl; exact bt) | (apply OQ.move; exact rfl) | (apply OQ.assign; exact rfl) | (apply OQ.fld; exact rfl; exact rfl; exact rfl; exact (by decide); exact rfl)) rfl ?_ | refine JC.seq ?_ | refine JC.region ?_ | refine JC.block ?_ | refine JC.skip ?_ | refine JC.exit ?_ | refine JL.nil ?_ | refine JQ.nil ?_ | refine JQ.nil_tail ?_ | refine JE.next ?_ | refine JE.blk_normal ?_ | refine JE.then_exit ?_ | refine JE.blk_hit ?_ | refine JE.blk_miss rfl ?_ | refine JE.then_ret ?_ | refine JE.blk_ret ?_ | refine JC.label ?_ | refine JL.gon rfl rfl ?_ | refine JQ.gon rfl rfl ?_ | refine JL.gskip rfl rfl rfl rfl ?_ | refine JQ.gskip rfl rfl rfl rfl ?_)
  refine JL.store_all (cs := (k ++ Y).map U8) p64s rfl rfl hlp (Y_cell _) .here (by simp) ?_
  repeat (first | refine JL.q (by first | (apply OQ.move; exact rfl) | (apply OQ.assign; exact rfl) | (apply OQ.fld; exact rfl; exact rfl; exact rfl; exact (by decide); exact rfl)) rfl ?_ | refine JQ.q (by first | (apply OQ.move; exact rfl) | (apply OQ.assign; exact rfl) | (apply OQ.fld; exact rfl; exact rfl; exact rfl; exact (by decide); exact rfl)) rfl ?_ | refine JC.seq ?_ | refine JC.region ?_ | refine JC.block ?_ | refine JC.skip ?_ | refine JC.exit ?_ | refine JL.nil ?_ | refine JQ.nil ?_ | refine JQ.nil_tail ?_ | refine JE.next ?_ | refine JE.blk_normal ?_ | refine JE.then_exit ?_ | refine JE.blk_hit ?_ | refine JE.blk_miss rfl ?_ | refine JE.then_ret ?_ | refine JE.blk_ret ?_ | refine JC.label ?_ | refine JL.gon rfl rfl ?_ | refine JQ.gon rfl rfl ?_ | refine JL.gskip rfl rfl rfl rfl ?_ | refine JQ.gskip rfl rfl rfl rfl ?_)
  refine JC.ret (JE.ret1 rfl (RV.cell_agg p64a p64s rfl .here hlp Row.all) ?_)
  exact fun w' hw => ⟨rfl, hw.chg⟩
theorem half0 {a b : List By} (_ha : a.length = 32) : (((a ++ b).map U8).drop 0).take (a.map U8).length = a.map U8 := by
  simp [List.map_append]
theorem half1 {a b : List By} (ha : a.length = 32) : (((a ++ b).map U8).drop 32).take (b.map U8).length = b.map U8 := by
  rw [List.map_append, List.drop_left' (by rw [List.length_map]; exact ha), List.take_of_length_le (Nat.le_refl _)]
set_option maxHeartbeats 8000000 in
theorem cshared_any (a Y u : List By) (ha : a.length = 32) (hY : Y.length = 32) (hu : u.length = 32) (w : World) : Calls Try.prog 13 [.agg ((a ++ Y).map U8).toArray, .agg (u.map U8).toArray].toArray w
    fun e w' => e = .returned (.agg ((multB a u).map U8).toArray) ∧ Ext w w' := by
  have c := cmult_any a u ha hu
  have hla : (a.map U8).length = 32 := by rw [List.length_map]; exact ha
  have hlu : (u.map U8).length = 32 := by rw [List.length_map]; exact hu
  have hR : ((multB a u).map U8).length = 32 := by rw [List.length_map]; exact multB_len _ _
  have h0 := half0 (b := Y) ha
  generalize multB a u = R at c hR ⊢
  refine enter (n := 9) Try.func13 rfl rfl rfl (Holds.start w []) ?_
  repeat (first | refine JL.q (by first | (apply OQ.move; exact rfl) | (apply OQ.assign; exact rfl) | (apply OQ.fld; exact rfl; exact rfl; exact rfl; exact (by decide); exact rfl)) rfl ?_ | refine JC.seq ?_ | refine JC.region ?_ | refine JC.block ?_ | refine JC.skip ?_ | refine JC.exit ?_ | refine JL.nil ?_ | refine JE.next ?_ | refine JE.blk_normal ?_ | refine JE.then_exit ?_ | refine JE.blk_hit ?_ | refine JE.blk_miss rfl ?_ | refine JE.then_ret ?_ | refine JE.blk_ret ?_ | refine JC.label ?_ | refine JL.gon rfl rfl ?_ | refine JL.gskip rfl rfl rfl rfl ?_)
  refine JL.box (r := (a ++ Y).map U8) rfl rfl rfl fun b2 _ => ?_
  refine JL.box (r := u.map U8) rfl rfl rfl fun b3 _ => ?_
  refine JL.alloc k32z rfl fun b4 _ => ?_
  repeat (first | refine JL.q (by first | (apply OQ.load_agg (cs := a.map U8); exact k32a; exact k32s; exact rfl; exact (by repeat (first | exact Has.here | apply Has.there)); exact hla; exact (Row.cells h0)) | (apply OQ.load_agg (cs := u.map U8); exact k32a; exact k32s; exact rfl; exact (by repeat (first | exact Has.here | apply Has.there)); exact hlu; exact Row.all) | (apply OQ.callx (vs := [.agg (a.map U8).toArray, .agg (u.map U8).toArray]); exact goes_cmult; exact rfl; exact (fun w' _ => c w')) | (apply OQ.move; exact rfl) | (apply OQ.assign; exact rfl) | (apply OQ.fld; exact rfl; exact rfl; exact rfl; exact (by decide); exact rfl)) rfl ?_ | refine JC.seq ?_ | refine JC.region ?_ | refine JC.block ?_ | refine JC.skip ?_ | refine JC.exit ?_ | refine JL.nil ?_ | refine JE.next ?_ | refine JE.blk_normal ?_ | refine JE.then_exit ?_ | refine JE.blk_hit ?_ | refine JE.blk_miss rfl ?_ | refine JE.then_ret ?_ | refine JE.blk_ret ?_ | refine JC.label ?_ | refine JL.gon rfl rfl ?_ | refine JL.gskip rfl rfl rfl rfl ?_)
  refine JL.store_all (cs := R.map U8) k32s rfl rfl hR (Y_cell _) .here (by simp) ?_
  repeat (first | refine JL.q (by first | (apply OQ.move; exact rfl) | (apply OQ.assign; exact rfl) | (apply OQ.fld; exact rfl; exact rfl; exact rfl; exact (by decide); exact rfl)) rfl ?_ | refine JC.seq ?_ | refine JC.region ?_ | refine JC.block ?_ | refine JC.skip ?_ | refine JC.exit ?_ | refine JL.nil ?_ | refine JE.next ?_ | refine JE.blk_normal ?_ | refine JE.then_exit ?_ | refine JE.blk_hit ?_ | refine JE.blk_miss rfl ?_ | refine JE.then_ret ?_ | refine JE.blk_ret ?_ | refine JC.label ?_ | refine JL.gon rfl rfl ?_ | refine JL.gskip rfl rfl rfl rfl ?_)
  refine JC.ret (JE.ret1 rfl (RV.cell_agg k32a k32s rfl .here hR Row.all) ?_)
  exact fun w' hw => ⟨rfl, hw.chg⟩
set_option maxHeartbeats 32000000 in
theorem law_curveShares (a b : List By) (w : World) (ha : a.length = 32) (hb : b.length = 32) :
    Calls Try.prog 4 [.agg (a.map U8).toArray, .agg (b.map U8).toArray].toArray w fun e w' => e = .returned (.bool true) ∧ Ext w w' := by
  have na := cnew_any a ha
  have nb := cnew_any b hb
  have pa := cpublic_any a ha
  have pb := cpublic_any b hb
  have hYa := multB_len a (keyN 9)
  have hYb := multB_len b (keyN 9)
  have s1 := cshared_any a (multB a (keyN 9)) (multB b (keyN 9)) ha hYa hYb
  have s2 := cshared_any b (multB b (keyN 9)) (multB a (keyN 9)) hb hYb hYa
  rw [← multB_comm a b (keyN 9) ha hb] at s2
  have m1 := cmult_any a (multB b (keyN 9)) ha hYb
  have hZ := multB_len a (multB b (keyN 9))
  generalize multB a (multB b (keyN 9)) = Z at s1 s2 m1 hZ
  generalize multB a (keyN 9) = Ya at *
  generalize multB b (keyN 9) = Yb at *
  have hla : (a.map U8).length = 32 := by rw [List.length_map]; exact ha
  have hlb : (b.map U8).length = 32 := by rw [List.length_map]; exact hb
  have hlYa : (Ya.map U8).length = 32 := by rw [List.length_map]; exact hYa
  have hlYb : (Yb.map U8).length = 32 := by rw [List.length_map]; exact hYb
  have hpa : ((a ++ Ya).map U8).length = 64 := by rw [List.length_map, List.length_append, ha, hYa]
  have hpb : ((b ++ Yb).map U8).length = 64 := by rw [List.length_map, List.length_append, hb, hYb]
  have a0 := half0 (b := Ya) ha
  have a1 := half1 (b := Ya) ha
  have b1' := half1 (b := Yb) hb
  refine enter (n := 46) Try.func4 rfl rfl rfl (Holds.start w []) ?_
  repeat (first | refine JL.q (by first | (apply OQ.move; exact rfl) | (apply OQ.assign; exact rfl) | (apply OQ.fld; exact rfl; exact rfl; exact rfl; exact (by decide); exact rfl)) rfl ?_ | refine JC.seq ?_ | refine JC.region ?_ | refine JC.block ?_ | refine JC.skip ?_ | refine JC.exit ?_ | refine JL.nil ?_ | refine JE.next ?_ | refine JE.blk_normal ?_ | refine JE.then_exit ?_ | refine JE.blk_hit ?_ | refine JE.blk_miss rfl ?_ | refine JE.then_ret ?_ | refine JE.blk_ret ?_ | refine JC.label ?_ | refine JL.gon rfl rfl ?_ | refine JL.gskip rfl rfl rfl rfl ?_)
  refine JL.box (r := a.map U8) rfl rfl rfl fun b2 _ => ?_
  refine JL.box (r := b.map U8) rfl rfl rfl fun b3 _ => ?_
  repeat (first | refine JL.q (by first | (apply OQ.callx; exact goes_speaks5; exact rfl; exact (fun w' _ => speaks5_any w')) | (apply OQ.not; exact rfl) | (apply OQ.move; exact rfl) | (apply OQ.assign; exact rfl) | (apply OQ.fld; exact rfl; exact rfl; exact rfl; exact (by decide); exact rfl)) rfl ?_ | refine JC.seq ?_ | refine JC.region ?_ | refine JC.block ?_ | refine JC.skip ?_ | refine JC.exit ?_ | refine JL.nil ?_ | refine JE.next ?_ | refine JE.blk_normal ?_ | refine JE.then_exit ?_ | refine JE.blk_hit ?_ | refine JE.blk_miss rfl ?_ | refine JE.then_ret ?_ | refine JE.blk_ret ?_ | refine JC.label ?_ | refine JL.gon rfl rfl ?_ | refine JL.gskip rfl rfl rfl rfl ?_)
  refine JC.cond_false rfl rfl ?_
  repeat (first | refine JL.q (by first | (apply OQ.move; exact rfl) | (apply OQ.assign; exact rfl) | (apply OQ.fld; exact rfl; exact rfl; exact rfl; exact (by decide); exact rfl)) rfl ?_ | refine JC.seq ?_ | refine JC.region ?_ | refine JC.block ?_ | refine JC.skip ?_ | refine JC.exit ?_ | refine JL.nil ?_ | refine JE.next ?_ | refine JE.blk_normal ?_ | refine JE.then_exit ?_ | refine JE.blk_hit ?_ | refine JE.blk_miss rfl ?_ | refine JE.then_ret ?_ | refine JE.blk_ret ?_ | refine JC.label ?_ | refine JL.gon rfl rfl ?_ | refine JL.gskip rfl rfl rfl rfl ?_)
  let vs : Nat → Nat → Value := fun j x => match j with
    | 0 => .agg (a.map U8).toArray
    | 1 => .agg ((a ++ Ya).map U8).toArray
    | 2 => .agg (b.map U8).toArray
    | 3 => .agg ((b ++ Yb).map U8).toArray
    | _ => Pt x 0
  let Ms : Nat → Nat → List Ent := fun j x => match j with
    | 4 => [⟨x, Row 29 ((List.replicate 64 (0 : By)).map U8), true⟩]
    | 5 => [⟨x, Row 29 ((List.replicate 64 (0 : By)).map U8), true⟩]
    | 6 => [⟨x, Row 29 ((a ++ Ya).map U8), true⟩]
    | 7 => [⟨x, Row 29 ((b ++ Yb).map U8), true⟩]
    | 8 => [⟨b3, Row 23 (b.map U8), true⟩]
    | 9 => [⟨b2, Row 23 (a.map U8), true⟩]
    | _ => []
  refine JC.grow (g := ⟨[(2, Pt b2 0), (3, Pt b3 0)], 10, vs, Ms, (fun j => match j with | 1 => [(0, 9)] | 3 => [(2, 11)] | 6 => [(4, 5), (1, 10)] | 7 => [(5, 6), (3, 12)] | _ => []), (fun j => match j with | 0 => [9] | 2 => [8] | 6 => [4] | 7 => [5] | _ => []), (fun j => match j with | 6 => [4] | 7 => [5] | _ => []), (fun j => match j with | 6 => some 4 | 7 => some 5 | _ => none)⟩) [(4, 5), (5, 6)] [6, 7, 8, 9] mixC (by repeat (first | exact SubE.nil | refine SubE.cons _ _ _ rfl ?_)) (Less.refl _) (by kernel_rfl) (by kernel_rfl) (by kernel_rfl) ?_ ?_
  · refine ⟨?_, ?_, ?_, ?_, ?_, ?_, ?_, ?_, trivial⟩
    · (intro x EF MF Q kk; exact JL.q (OQ.load_agg (cs := a.map U8) k32a k32s rfl .here hla Row.all) rfl (JL.nil (kk default nofun)))
    · (intro x EF MF Q kk; exact JL.q (OQ.callx (vs := [.agg (a.map U8).toArray]) goes_cnew rfl fun w' _ => na w') rfl (JL.nil (kk default nofun)))
    · (intro x EF MF Q kk; exact JL.q (OQ.load_agg (cs := b.map U8) k32a k32s rfl .here hlb Row.all) rfl (JL.nil (kk default nofun)))
    · (intro x EF MF Q kk; exact JL.q (OQ.callx (vs := [.agg (b.map U8).toArray]) goes_cnew rfl fun w' _ => nb w') rfl (JL.nil (kk default nofun)))
    · (intro x EF MF Q kk; exact JL.alloc p64z rfl fun b _ => JL.nil (kk b nofun))
    · (intro x EF MF Q kk; exact JL.alloc p64z rfl fun b _ => JL.nil (kk b nofun))
    · (intro x EF MF Q kk; exact JL.store_all (cs := (a ++ Ya).map U8) p64s rfl rfl hpa (Y_cell _) .here rfl (JL.nil (kk (x 4) (fun k h => by cases h; rfl))))
    · (intro x EF MF Q kk; exact JL.store_all (cs := (b ++ Yb).map U8) p64s rfl rfl hpb (Y_cell _) .here rfl (JL.nil (kk (x 5) (fun k h => by cases h; rfl))))
  · intro x hx
    have h6 := hx 6 4 (by decide) rfl
    have h7 := hx 7 5 (by decide) rfl
    show JE _ _ _ _ _ [(5, Pt (x 4) 0), (6, Pt (x 5) 0), (2, Pt b2 0), (3, Pt b3 0)] [⟨(x 6), Row 29 ((a ++ Ya).map U8), true⟩, ⟨(x 7), Row 29 ((b ++ Yb).map U8), true⟩, ⟨b3, Row 23 (b.map U8), true⟩, ⟨b2, Row 23 (a.map U8), true⟩]
    rw [h6, h7]
    generalize x 4 = b5
    generalize x 5 = b6
    clear hx h6 h7 x vs Ms
    repeat (first | refine JL.q (by first | (apply OQ.move; exact rfl) | (apply OQ.assign; exact rfl) | (apply OQ.fld; exact rfl; exact rfl; exact rfl; exact (by decide); exact rfl)) rfl ?_ | refine JC.seq ?_ | refine JC.region ?_ | refine JC.block ?_ | refine JC.skip ?_ | refine JC.exit ?_ | refine JL.nil ?_ | refine JE.next ?_ | refine JE.blk_normal ?_ | refine JE.then_exit ?_ | refine JE.blk_hit ?_ | refine JE.blk_miss rfl ?_ | refine JE.then_ret ?_ | refine JE.blk_ret ?_ | refine JC.label ?_ | refine JL.gon rfl rfl ?_ | refine JL.gskip rfl rfl rfl rfl ?_)
    refine JC.tail 33 mixC (by kernel_rfl) ?_
    simp only [List.take_succ_cons, List.take_zero, List.drop_succ_cons, List.drop_zero]
    repeat (first | refine JL.q (by first | (apply OQ.load_agg (cs := a.map U8); exact k32a; exact k32s; exact rfl; exact (.there (.there (.there .here))); exact hla; exact Row.all) | (apply OQ.load_agg (cs := b.map U8); exact k32a; exact k32s; exact rfl; exact (.there (.there .here)); exact hlb; exact Row.all) | (apply OQ.load_agg (cs := a.map U8); exact k32a; exact k32s; exact rfl; exact .here; exact hla; exact (Row.cells a0)) | (apply OQ.load_agg (cs := Ya.map U8); exact k32a; exact k32s; exact rfl; exact .here; exact hlYa; exact (Row.cells a1)) | (apply OQ.load_agg (cs := Yb.map U8); exact k32a; exact k32s; exact rfl; exact (.there .here); exact hlYb; exact (Row.cells b1')) | (apply OQ.load_agg (cs := (a ++ Ya).map U8); exact p64a; exact p64s; exact rfl; exact .here; exact hpa; exact Row.all) | (apply OQ.load_agg (cs := (b ++ Yb).map U8); exact p64a; exact p64s; exact rfl; exact (.there .here); exact hpb; exact Row.all) | (apply OQ.callx (vs := [.agg (a.map U8).toArray]); exact goes_cpublic; exact rfl; exact (fun w' _ => pa w')) | (apply OQ.callx (vs := [.agg (b.map U8).toArray]); exact goes_cpublic; exact rfl; exact (fun w' _ => pb w')) | (apply OQ.callx (vs := [.agg ((a ++ Ya).map U8).toArray, .agg (Yb.map U8).toArray]); exact goes_cshared; exact rfl; exact (fun w' _ => s1 w')) | (apply OQ.callx (vs := [.agg ((b ++ Yb).map U8).toArray, .agg (Ya.map U8).toArray]); exact goes_cshared; exact rfl; exact (fun w' _ => s2 w')) | (apply OQ.callx (vs := [.agg (a.map U8).toArray, .agg (Yb.map U8).toArray]); exact goes_cmult; exact rfl; exact (fun w' _ => m1 w')) | (apply OQ.eqA_t (r := a) (q := a); exact Try.underlying23; exact Try.underlying5; exact y1s; exact k32g; exact rfl; exact rfl; exact ha; exact ha; exact rfl) | (apply OQ.eqA_t (r := Ya) (q := Ya); exact Try.underlying23; exact Try.underlying5; exact y1s; exact k32g; exact rfl; exact rfl; exact hYa; exact hYa; exact rfl) | (apply OQ.eqA_t (r := Z) (q := Z); exact Try.underlying23; exact Try.underlying5; exact y1s; exact k32g; exact rfl; exact rfl; exact hZ; exact hZ; exact rfl) | (apply OQ.pick_t; exact rfl; exact rfl) | (apply OQ.move; exact rfl) | (apply OQ.assign; exact rfl) | (apply OQ.fld; exact rfl; exact rfl; exact rfl; exact (by decide); exact rfl)) rfl ?_ | refine JQ.q (by first | (apply OQ.load_agg (cs := a.map U8); exact k32a; exact k32s; exact rfl; exact (.there (.there (.there .here))); exact hla; exact Row.all) | (apply OQ.load_agg (cs := b.map U8); exact k32a; exact k32s; exact rfl; exact (.there (.there .here)); exact hlb; exact Row.all) | (apply OQ.load_agg (cs := a.map U8); exact k32a; exact k32s; exact rfl; exact .here; exact hla; exact (Row.cells a0)) | (apply OQ.load_agg (cs := Ya.map U8); exact k32a; exact k32s; exact rfl; exact .here; exact hlYa; exact (Row.cells a1)) | (apply OQ.load_agg (cs := Yb.map U8); exact k32a; exact k32s; exact rfl; exact (.there .here); exact hlYb; exact (Row.cells b1')) | (apply OQ.load_agg (cs := (a ++ Ya).map U8); exact p64a; exact p64s; exact rfl; exact .here; exact hpa; exact Row.all) | (apply OQ.load_agg (cs := (b ++ Yb).map U8); exact p64a; exact p64s; exact rfl; exact (.there .here); exact hpb; exact Row.all) | (apply OQ.callx (vs := [.agg (a.map U8).toArray]); exact goes_cpublic; exact rfl; exact (fun w' _ => pa w')) | (apply OQ.callx (vs := [.agg (b.map U8).toArray]); exact goes_cpublic; exact rfl; exact (fun w' _ => pb w')) | (apply OQ.callx (vs := [.agg ((a ++ Ya).map U8).toArray, .agg (Yb.map U8).toArray]); exact goes_cshared; exact rfl; exact (fun w' _ => s1 w')) | (apply OQ.callx (vs := [.agg ((b ++ Yb).map U8).toArray, .agg (Ya.map U8).toArray]); exact goes_cshared; exact rfl; exact (fun w' _ => s2 w')) | (apply OQ.callx (vs := [.agg (a.map U8).toArray, .agg (Yb.map U8).toArray]); exact goes_cmult; exact rfl; exact (fun w' _ => m1 w')) | (apply OQ.eqA_t (r := a) (q := a); exact Try.underlying23; exact Try.underlying5; exact y1s; exact k32g; exact rfl; exact rfl; exact ha; exact ha; exact rfl) | (apply OQ.eqA_t (r := Ya) (q := Ya); exact Try.underlying23; exact Try.underlying5; exact y1s; exact k32g; exact rfl; exact rfl; exact hYa; exact hYa; exact rfl) | (apply OQ.eqA_t (r := Z) (q := Z); exact Try.underlying23; exact Try.underlying5; exact y1s; exact k32g; exact rfl; exact rfl; exact hZ; exact hZ; exact rfl) | (apply OQ.pick_t; exact rfl; exact rfl) | (apply OQ.move; exact rfl) | (apply OQ.assign; exact rfl) | (apply OQ.fld; exact rfl; exact rfl; exact rfl; exact (by decide); exact rfl)) rfl ?_ | refine JC.seq ?_ | refine JC.region ?_ | refine JC.block ?_ | refine JC.skip ?_ | refine JC.exit ?_ | refine JL.nil ?_ | refine JQ.nil ?_ | refine JQ.nil_tail ?_ | refine JE.next ?_ | refine JE.blk_normal ?_ | refine JE.then_exit ?_ | refine JE.blk_hit ?_ | refine JE.blk_miss rfl ?_ | refine JE.then_ret ?_ | refine JE.blk_ret ?_ | refine JC.label ?_ | refine JL.gon rfl rfl ?_ | refine JQ.gon rfl rfl ?_ | refine JL.gskip rfl rfl rfl rfl ?_ | refine JQ.gskip rfl rfl rfl rfl ?_)
    refine JC.ret (JE.ret1 rfl (RV.tmp rfl) ?_)
    exact fun w' hw => ⟨rfl, hw.chg⟩
end Go.Proofs.Ytmbabkigjckaaaa
