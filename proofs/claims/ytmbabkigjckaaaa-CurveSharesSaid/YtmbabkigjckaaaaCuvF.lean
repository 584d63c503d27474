/-
  Of no statement by itself: what the code's exchanged and stepped give.
  Conditions: each theorem's own.
-/
import Derived.Test.YtmbabkigjckaaaaCuvE
namespace Go.Proofs.Ytmbabkigjckaaaa
open Sl Crv
def zeroL : L5 := ⟨zeroN, zeroN, zeroN, zeroN⟩
theorem l20s : szT Try.prog 38 = some 20 := by kernel_rfl
theorem l20a : aggT Try.prog 38 = true := by kernel_rfl
theorem l20z : zc Try.prog 38 = some (zeroL.l.map U64) := by kernel_rfl
theorem goes_stepped : Goes Try.prog 16 := ⟨_, Try.func16, rfl, by kernel_rfl⟩
set_option maxHeartbeats 16000000 in
theorem exchanged_any (c : Bool) (s : L5) (w : World) : Calls Try.prog 15 [.agg (s.l.map U64).toArray, U8 (bt c)].toArray w fun e w' => e = .returned (.agg ((swB c s).l.map U64).toArray) ∧ Ext w w' := by
  obtain ⟨x2, z2, x3, z3⟩ := s
  have cx := exchange_any c x2 x3
  have cz := exchange_any c z2 z3
  have e : swB c ⟨x2, z2, x3, z3⟩ = ⟨if c then x3 else x2, if c then z3 else z2, if c then x2 else x3, if c then z2 else z3⟩ := by cases c <;> rfl
  rw [e]
  clear e
  generalize (if c then x3 else x2) = X2 at cx ⊢
  generalize (if c then x2 else x3) = X3 at cx ⊢
  generalize (if c then z3 else z2) = Z2 at cz ⊢
  generalize (if c then z2 else z3) = Z3 at cz ⊢
  refine enter (n := 28) Try.func15 rfl rfl rfl (Holds.start w []) ?_
  repeat (first | refine JL.q (by first | (apply OQ.move; exact rfl) | (apply OQ.assign; exact rfl) | (apply OQ.add64; exact rfl; exact rfl) | (apply OQ.addN; exact rfl; exact rfl; exact (by (try simp only []); omega)) | (apply OQ.subN; exact rfl; exact rfl; exact (by (try simp only []); omega); exact (by (try simp only []); omega)) | (apply OQ.remN; exact rfl; exact rfl; exact (by (try simp only []); omega)) | (apply OQ.quoN; exact rfl; exact rfl; exact (by (try simp only []); omega); exact (by (try simp only []); omega)) | (apply OQ.lssN; exact rfl; exact rfl) | (apply OQ.idxA0; exact rfl; exact rfl; exact rfl; exact rfl; exact (by (try simp only []); omega)) | (apply OQ.fld; exact rfl; exact rfl; exact rfl; exact (by decide); exact rfl)) rfl ?_ | refine JC.seq ?_ | refine JC.region ?_ | refine JC.block ?_ | refine JC.skip ?_ | refine JC.exit ?_ | refine JL.nil ?_ | refine JE.next ?_ | refine JE.blk_normal ?_ | refine JE.then_exit ?_ | refine JE.blk_hit ?_ | refine JE.blk_miss rfl ?_ | refine JE.then_ret ?_ | refine JE.blk_ret ?_ | refine JC.label ?_ | refine JL.gon rfl rfl ?_ | refine JL.gskip rfl rfl rfl rfl ?_)
  refine JL.box (r := (x2.l ++ z2.l ++ x3.l ++ z3.l).map U64) rfl rfl rfl fun b2 _ => ?_
  refine JL.alloc l20z rfl fun b4 _ => ?_
  repeat (first | refine JL.q (by first | (apply OQ.load_agg (cs := x2.l.map U64); exact n5a; exact n5s; exact rfl; exact (.there .here); exact rfl; exact (Row.cells rfl)) | (apply OQ.load_agg (cs := x3.l.map U64); exact n5a; exact n5s; exact rfl; exact (.there .here); exact rfl; exact (Row.cells rfl)) | (apply OQ.callx (vs := [.agg (x2.l.map U64).toArray, .agg (x3.l.map U64).toArray, U8 (bt c)]); exact goes_exchange; exact rfl; exact (fun w' _ => cx w')) | (apply OQ.extract; exact rfl; exact rfl) | (apply OQ.move; exact rfl) | (apply OQ.assign; exact rfl) | (apply OQ.add64; exact rfl; exact rfl) | (apply OQ.addN; exact rfl; exact rfl; exact (by (try simp only []); omega)) | (apply OQ.subN; exact rfl; exact rfl; exact (by (try simp only []); omega); exact (by (try simp only []); omega)) | (apply OQ.remN; exact rfl; exact rfl; exact (by (try simp only []); omega)) | (apply OQ.quoN; exact rfl; exact rfl; exact (by (try simp only []); omega); exact (by (try simp only []); omega)) | (apply OQ.lssN; exact rfl; exact rfl) | (apply OQ.idxA0; exact rfl; exact rfl; exact rfl; exact rfl; exact (by (try simp only []); omega)) | (apply OQ.fld; exact rfl; exact rfl; exact rfl; exact (by decide); exact rfl)) rfl ?_ | refine JC.seq ?_ | refine JC.region ?_ | refine JC.block ?_ | refine JC.skip ?_ | refine JC.exit ?_ | refine JL.nil ?_ | refine JE.next ?_ | refine JE.blk_normal ?_ | refine JE.then_exit ?_ | refine JE.blk_hit ?_ | refine JE.blk_miss rfl ?_ | refine JE.then_ret ?_ | refine JE.blk_ret ?_ | refine JC.label ?_ | refine JL.gon rfl rfl ?_ | refine JL.gskip rfl rfl rfl rfl ?_)
  refine JL.store_part (cs := X2.l.map U64) (r' := (X2.l ++ z2.l ++ x3.l ++ z3.l).map U64) n5s rfl rfl rfl (W_cell _) (.there .here) (Nat.le_of_ble_eq_true rfl) rfl ?_
  repeat (first | refine JL.q (by first | (apply OQ.move; exact rfl) | (apply OQ.assign; exact rfl) | (apply OQ.add64; exact rfl; exact rfl) | (apply OQ.addN; exact rfl; exact rfl; exact (by (try simp only []); omega)) | (apply OQ.subN; exact rfl; exact rfl; exact (by (try simp only []); omega); exact (by (try simp only []); omega)) | (apply OQ.remN; exact rfl; exact rfl; exact (by (try simp only []); omega)) | (apply OQ.quoN; exact rfl; exact rfl; exact (by (try simp only []); omega); exact (by (try simp only []); omega)) | (apply OQ.lssN; exact rfl; exact rfl) | (apply OQ.idxA0; exact rfl; exact rfl; exact rfl; exact rfl; exact (by (try simp only []); omega)) | (apply OQ.fld; exact rfl; exact rfl; exact rfl; exact (by decide); exact rfl)) rfl ?_ | refine JC.seq ?_ | refine JC.region ?_ | refine JC.block ?_ | refine JC.skip ?_ | refine JC.exit ?_ | refine JL.nil ?_ | refine JE.next ?_ | refine JE.blk_normal ?_ | refine JE.then_exit ?_ | refine JE.blk_hit ?_ | refine JE.blk_miss rfl ?_ | refine JE.then_ret ?_ | refine JE.blk_ret ?_ | refine JC.label ?_ | refine JL.gon rfl rfl ?_ | refine JL.gskip rfl rfl rfl rfl ?_)
  refine JL.store_part (cs := X3.l.map U64) (r' := (X2.l ++ z2.l ++ X3.l ++ z3.l).map U64) n5s rfl rfl rfl (W_cell _) (.there .here) (Nat.le_of_ble_eq_true rfl) rfl ?_
  repeat (first | refine JL.q (by first | (apply OQ.load_agg (cs := z2.l.map U64); exact n5a; exact n5s; exact rfl; exact (.there .here); exact rfl; exact (Row.cells rfl)) | (apply OQ.load_agg (cs := z3.l.map U64); exact n5a; exact n5s; exact rfl; exact (.there .here); exact rfl; exact (Row.cells rfl)) | (apply OQ.callx (vs := [.agg (z2.l.map U64).toArray, .agg (z3.l.map U64).toArray, U8 (bt c)]); exact goes_exchange; exact rfl; exact (fun w' _ => cz w')) | (apply OQ.extract; exact rfl; exact rfl) | (apply OQ.move; exact rfl) | (apply OQ.assign; exact rfl) | (apply OQ.add64; exact rfl; exact rfl) | (apply OQ.addN; exact rfl; exact rfl; exact (by (try simp only []); omega)) | (apply OQ.subN; exact rfl; exact rfl; exact (by (try simp only []); omega); exact (by (try simp only []); omega)) | (apply OQ.remN; exact rfl; exact rfl; exact (by (try simp only []); omega)) | (apply OQ.quoN; exact rfl; exact rfl; exact (by (try simp only []); omega); exact (by (try simp only []); omega)) | (apply OQ.lssN; exact rfl; exact rfl) | (apply OQ.idxA0; exact rfl; exact rfl; exact rfl; exact rfl; exact (by (try simp only []); omega)) | (apply OQ.fld; exact rfl; exact rfl; exact rfl; exact (by decide); exact rfl)) rfl ?_ | refine JC.seq ?_ | refine JC.region ?_ | refine JC.block ?_ | refine JC.skip ?_ | refine JC.exit ?_ | refine JL.nil ?_ | refine JE.next ?_ | refine JE.blk_normal ?_ | refine JE.then_exit ?_ | refine JE.blk_hit ?_ | refine JE.blk_miss rfl ?_ | refine JE.then_ret ?_ | refine JE.blk_ret ?_ | refine JC.label ?_ | refine JL.gon rfl rfl ?_ | refine JL.gskip rfl rfl rfl rfl ?_)
  refine JL.store_part (cs := Z2.l.map U64) (r' := (X2.l ++ Z2.l ++ X3.l ++ z3.l).map U64) n5s rfl rfl rfl (W_cell _) (.there .here) (Nat.le_of_ble_eq_true rfl) rfl ?_
  repeat (first | refine JL.q (by first | (apply OQ.move; exact rfl) | (apply OQ.assign; exact rfl) | (apply OQ.add64; exact rfl; exact rfl) | (apply OQ.addN; exact rfl; exact rfl; exact (by (try simp only []); omega)) | (apply OQ.subN; exact rfl; exact rfl; exact (by (try simp only []); omega); exact (by (try simp only []); omega)) | (apply OQ.remN; exact rfl; exact rfl; exact (by (try simp only []); omega)) | (apply OQ.quoN; exact rfl; exact rfl; exact (by (try simp only []); omega); exact (by (try simp only []); omega)) | (apply OQ.lssN; exact rfl; exact rfl) | (apply OQ.idxA0; exact rfl; exact rfl; exact rfl; exact rfl; exact (by (try simp only []); omega)) | (apply OQ.fld; exact rfl; exact rfl; exact rfl; exact (by decide); exact rfl)) rfl ?_ | refine JC.seq ?_ | refine JC.region ?_ | refine JC.block ?_ | refine JC.skip ?_ | refine JC.exit ?_ | refine JL.nil ?_ | refine JE.next ?_ | refine JE.blk_normal ?_ | refine JE.then_exit ?_ | refine JE.blk_hit ?_ | refine JE.blk_miss rfl ?_ | refine JE.then_ret ?_ | refine JE.blk_ret ?_ | refine JC.label ?_ | refine JL.gon rfl rfl ?_ | refine JL.gskip rfl rfl rfl rfl ?_)
  refine JL.store_part (cs := Z3.l.map U64) (r' := (X2.l ++ Z2.l ++ X3.l ++ Z3.l).map U64) n5s rfl rfl rfl (W_cell _) (.there .here) (Nat.le_of_ble_eq_true rfl) rfl ?_
  repeat (first | refine JL.q (by first | (apply OQ.load_agg (cs := (X2.l ++ Z2.l ++ X3.l ++ Z3.l).map U64); exact l20a; exact l20s; exact rfl; exact (.there .here); exact rfl; exact Row.all) | (apply OQ.move; exact rfl) | (apply OQ.assign; exact rfl) | (apply OQ.add64; exact rfl; exact rfl) | (apply OQ.addN; exact rfl; exact rfl; exact (by (try simp only []); omega)) | (apply OQ.subN; exact rfl; exact rfl; exact (by (try simp only []); omega); exact (by (try simp only []); omega)) | (apply OQ.remN; exact rfl; exact rfl; exact (by (try simp only []); omega)) | (apply OQ.quoN; exact rfl; exact rfl; exact (by (try simp only []); omega); exact (by (try simp only []); omega)) | (apply OQ.lssN; exact rfl; exact rfl) | (apply OQ.idxA0; exact rfl; exact rfl; exact rfl; exact rfl; exact (by (try simp only []); omega)) | (apply OQ.fld; exact rfl; exact rfl; exact rfl; exact (by decide); exact rfl)) rfl ?_ | refine JC.seq ?_ | refine JC.region ?_ | refine JC.block ?_ | refine JC.skip ?_ | refine JC.exit ?_ | refine JL.nil ?_ | refine JE.next ?_ | refine JE.blk_normal ?_ | refine JE.then_exit ?_ | refine JE.blk_hit ?_ | refine JE.blk_miss rfl ?_ | refine JE.then_ret ?_ | refine JE.blk_ret ?_ | refine JC.label ?_ | refine JL.gon rfl rfl ?_ | refine JL.gskip rfl rfl rfl rfl ?_)
  refine JL.store_all (cs := (X2.l ++ Z2.l ++ X3.l ++ Z3.l).map U64) l20s rfl rfl rfl (W_cell _) .here rfl ?_
  repeat (first | refine JL.q (by first | (apply OQ.move; exact rfl) | (apply OQ.assign; exact rfl) | (apply OQ.add64; exact rfl; exact rfl) | (apply OQ.addN; exact rfl; exact rfl; exact (by (try simp only []); omega)) | (apply OQ.subN; exact rfl; exact rfl; exact (by (try simp only []); omega); exact (by (try simp only []); omega)) | (apply OQ.remN; exact rfl; exact rfl; exact (by (try simp only []); omega)) | (apply OQ.quoN; exact rfl; exact rfl; exact (by (try simp only []); omega); exact (by (try simp only []); omega)) | (apply OQ.lssN; exact rfl; exact rfl) | (apply OQ.idxA0; exact rfl; exact rfl; exact rfl; exact rfl; exact (by (try simp only []); omega)) | (apply OQ.fld; exact rfl; exact rfl; exact rfl; exact (by decide); exact rfl)) rfl ?_ | refine JC.seq ?_ | refine JC.region ?_ | refine JC.block ?_ | refine JC.skip ?_ | refine JC.exit ?_ | refine JL.nil ?_ | refine JE.next ?_ | refine JE.blk_normal ?_ | refine JE.then_exit ?_ | refine JE.blk_hit ?_ | refine JE.blk_miss rfl ?_ | refine JE.then_ret ?_ | refine JE.blk_ret ?_ | refine JC.label ?_ | refine JL.gon rfl rfl ?_ | refine JL.gskip rfl rfl rfl rfl ?_)
  refine JC.ret (JE.ret1 rfl (RV.cell_agg l20a l20s rfl .here rfl Row.all) ?_)
  exact fun w' hw => ⟨rfl, hw.chg⟩
set_option maxHeartbeats 64000000 in
set_option maxRecDepth 4000 in
theorem stepped_any (x1 : N5) (s : L5) (w : World) : Calls Try.prog 16 [.agg (s.l.map U64).toArray, .agg (x1.l.map U64).toArray].toArray w fun e w' => e = .returned (.agg ((stpB x1 s).l.map U64).toArray) ∧ Ext w w' := by
  obtain ⟨X2, Z2, X3, Z3⟩ := s
  have c_A := sum_any X2 Z2
  generalize h_A : sumB X2 Z2 = A at c_A
  have c_B := difference_any X2 Z2
  generalize h_B : difB X2 Z2 = B at c_B
  have c_C := sum_any X3 Z3
  generalize h_C : sumB X3 Z3 = C at c_C
  have c_D := difference_any X3 Z3
  generalize h_D : difB X3 Z3 = D at c_D
  have c_AA := product_any A A
  generalize h_AA : prdB A A = AA at c_AA
  have c_BB := product_any B B
  generalize h_BB : prdB B B = BB at c_BB
  have c_DA := product_any D A
  generalize h_DA : prdB D A = DA at c_DA
  have c_CB := product_any C B
  generalize h_CB : prdB C B = CB at c_CB
  have c_E := difference_any AA BB
  generalize h_E : difB AA BB = E at c_E
  have c_M := sum_any DA CB
  generalize h_M : sumB DA CB = M at c_M
  have c_S := difference_any DA CB
  generalize h_S : difB DA CB = S at c_S
  have c_R1 := product_any AA BB
  generalize h_R1 : prdB AA BB = R1 at c_R1
  have c_F := product_any cN E
  generalize h_F : prdB cN E = F at c_F
  have c_G := sum_any AA F
  generalize h_G : sumB AA F = G at c_G
  have c_R2 := product_any E G
  generalize h_R2 : prdB E G = R2 at c_R2
  have c_R3 := product_any M M
  generalize h_R3 : prdB M M = R3 at c_R3
  have c_SS := product_any S S
  generalize h_SS : prdB S S = SS at c_SS
  have c_R4 := product_any x1 SS
  generalize h_R4 : prdB x1 SS = R4 at c_R4
  have eS : stpB x1 ⟨X2, Z2, X3, Z3⟩ = ⟨R1, R2, R3, R4⟩ := by
    subst h_R4 h_SS h_R3 h_R2 h_G h_F h_R1 h_S h_M h_E h_CB h_DA h_BB h_AA h_D h_C h_B h_A
    rfl
  rw [eS]
  clear eS h_A h_B h_C h_D h_AA h_BB h_DA h_CB h_E h_M h_S h_R1 h_F h_G h_R2 h_R3 h_SS h_R4
  refine enter (n := 76) Try.func16 rfl rfl rfl (Holds.start w []) ?_
  repeat (first | refine JL.q (by first | (apply OQ.move; exact rfl) | (apply OQ.assign; exact rfl) | (apply OQ.add64; exact rfl; exact rfl) | (apply OQ.addN; exact rfl; exact rfl; exact (by (try simp only []); omega)) | (apply OQ.subN; exact rfl; exact rfl; exact (by (try simp only []); omega); exact (by (try simp only []); omega)) | (apply OQ.remN; exact rfl; exact rfl; exact (by (try simp only []); omega)) | (apply OQ.quoN; exact rfl; exact rfl; exact (by (try simp only []); omega); exact (by (try simp only []); omega)) | (apply OQ.lssN; exact rfl; exact rfl) | (apply OQ.idxA0; exact rfl; exact rfl; exact rfl; exact rfl; exact (by (try simp only []); omega)) | (apply OQ.fld; exact rfl; exact rfl; exact rfl; exact (by decide); exact rfl)) rfl ?_ | refine JC.seq ?_ | refine JC.region ?_ | refine JC.block ?_ | refine JC.skip ?_ | refine JC.exit ?_ | refine JL.nil ?_ | refine JE.next ?_ | refine JE.blk_normal ?_ | refine JE.then_exit ?_ | refine JE.blk_hit ?_ | refine JE.blk_miss rfl ?_ | refine JE.then_ret ?_ | refine JE.blk_ret ?_ | refine JC.label ?_ | refine JL.gon rfl rfl ?_ | refine JL.gskip rfl rfl rfl rfl ?_)
  refine JL.box (r := (X2.l ++ Z2.l ++ X3.l ++ Z3.l).map U64) rfl rfl rfl fun b2 _ => ?_
  refine JL.box (r := x1.l.map U64) rfl rfl rfl fun b3 _ => ?_
  refine JL.alloc l20z rfl fun b4 _ => ?_
  repeat (first | refine JL.q (by first | (apply OQ.move; exact rfl) | (apply OQ.assign; exact rfl) | (apply OQ.add64; exact rfl; exact rfl) | (apply OQ.addN; exact rfl; exact rfl; exact (by (try simp only []); omega)) | (apply OQ.subN; exact rfl; exact rfl; exact (by (try simp only []); omega); exact (by (try simp only []); omega)) | (apply OQ.remN; exact rfl; exact rfl; exact (by (try simp only []); omega)) | (apply OQ.quoN; exact rfl; exact rfl; exact (by (try simp only []); omega); exact (by (try simp only []); omega)) | (apply OQ.lssN; exact rfl; exact rfl) | (apply OQ.idxA0; exact rfl; exact rfl; exact rfl; exact rfl; exact (by (try simp only []); omega)) | (apply OQ.fld; exact rfl; exact rfl; exact rfl; exact (by decide); exact rfl)) rfl ?_ | refine JC.seq ?_ | refine JC.region ?_ | refine JC.block ?_ | refine JC.skip ?_ | refine JC.exit ?_ | refine JL.nil ?_ | refine JE.next ?_ | refine JE.blk_normal ?_ | refine JE.then_exit ?_ | refine JE.blk_hit ?_ | refine JE.blk_miss rfl ?_ | refine JE.then_ret ?_ | refine JE.blk_ret ?_ | refine JC.label ?_ | refine JL.gon rfl rfl ?_ | refine JL.gskip rfl rfl rfl rfl ?_)
  let vs : Nat → Nat → Value := fun j x => match j with
    | 0 => Pt b2 0
    | 1 => .agg (X2.l.map U64).toArray
    | 2 => Pt b2 5
    | 3 => .agg (Z2.l.map U64).toArray
    | 4 => .agg (A.l.map U64).toArray
    | 5 => Pt b2 0
    | 6 => .agg (X2.l.map U64).toArray
    | 7 => Pt b2 5
    | 8 => .agg (Z2.l.map U64).toArray
    | 9 => .agg (B.l.map U64).toArray
    | _ => Pt x 0
  let Ms : Nat → Nat → List Ent := fun j x => match j with
    | 10 => [⟨x, Row 35 (zeroN.l.map U64), true⟩]
    | 11 => [⟨x, Row 35 (zeroN.l.map U64), true⟩]
    | 12 => [⟨x, Row 35 (A.l.map U64), true⟩]
    | 13 => [⟨x, Row 35 (B.l.map U64), true⟩]
    | 14 => [⟨b4, Row 38 (zeroL.l.map U64), true⟩]
    | 15 => [⟨b3, Row 35 (x1.l.map U64), true⟩]
    | 16 => [⟨b2, Row 38 ((X2.l ++ Z2.l ++ X3.l ++ Z3.l).map U64), true⟩]
    | _ => []
  refine JC.grow (g := ⟨[(2, Pt b2 0), (3, Pt b3 0), (4, Pt b4 0)], 17, vs, Ms, (fun j => match j with | 1 => [(0, 16)] | 3 => [(2, 18)] | 4 => [(1, 17), (3, 19)] | 6 => [(5, 21)] | 8 => [(7, 23)] | 9 => [(6, 22), (8, 24)] | 12 => [(10, 5), (4, 20)] | 13 => [(11, 6), (9, 25)] | _ => []), (fun j => match j with | 1 => [16] | 3 => [16] | 6 => [16] | 8 => [16] | 12 => [10] | 13 => [11] | _ => []), (fun j => match j with | 12 => [10] | 13 => [11] | _ => []), (fun j => match j with | 12 => some 10 | 13 => some 11 | _ => none)⟩) [(10, 5), (11, 6)] [12, 13, 14, 15, 16] mixC (by repeat (first | exact SubE.nil | refine SubE.cons _ _ _ rfl ?_)) (Less.refl _) (by kernel_rfl) (by kernel_rfl) (by kernel_rfl) ?_ ?_
  · refine ⟨?_, ?_, ?_, ?_, ?_, ?_, ?_, ?_, ?_, ?_, ?_, ?_, ?_, ?_, trivial⟩
    · (intro x EF MF Q kk; exact JL.q (OQ.fldx (o := 0) rfl rfl rfl (by decide) rfl rfl) rfl (JL.nil (kk default nofun)))
    · (intro x EF MF Q kk; exact JL.q (OQ.load_agg (cs := X2.l.map U64) n5a n5s rfl .here rfl (Row.cells rfl)) rfl (JL.nil (kk default nofun)))
    · (intro x EF MF Q kk; exact JL.q (OQ.fldx (o := 5) rfl rfl rfl (by decide) rfl rfl) rfl (JL.nil (kk default nofun)))
    · (intro x EF MF Q kk; exact JL.q (OQ.load_agg (cs := Z2.l.map U64) n5a n5s rfl .here rfl (Row.cells rfl)) rfl (JL.nil (kk default nofun)))
    · (intro x EF MF Q kk; exact JL.q (OQ.callx (vs := [.agg (X2.l.map U64).toArray, .agg (Z2.l.map U64).toArray]) goes_sum rfl fun w' _ => c_A w') rfl (JL.nil (kk default nofun)))
    · (intro x EF MF Q kk; exact JL.q (OQ.fldx (o := 0) rfl rfl rfl (by decide) rfl rfl) rfl (JL.nil (kk default nofun)))
    · (intro x EF MF Q kk; exact JL.q (OQ.load_agg (cs := X2.l.map U64) n5a n5s rfl .here rfl (Row.cells rfl)) rfl (JL.nil (kk default nofun)))
    · (intro x EF MF Q kk; exact JL.q (OQ.fldx (o := 5) rfl rfl rfl (by decide) rfl rfl) rfl (JL.nil (kk default nofun)))
    · (intro x EF MF Q kk; exact JL.q (OQ.load_agg (cs := Z2.l.map U64) n5a n5s rfl .here rfl (Row.cells rfl)) rfl (JL.nil (kk default nofun)))
    · (intro x EF MF Q kk; exact JL.q (OQ.callx (vs := [.agg (X2.l.map U64).toArray, .agg (Z2.l.map U64).toArray]) goes_difference rfl fun w' _ => c_B w') rfl (JL.nil (kk default nofun)))
    · (intro x EF MF Q kk; exact JL.alloc n5z rfl fun b _ => JL.nil (kk b nofun))
    · (intro x EF MF Q kk; exact JL.alloc n5z rfl fun b _ => JL.nil (kk b nofun))
    · (intro x EF MF Q kk; exact JL.store_all (cs := A.l.map U64) n5s rfl rfl rfl (W_cell _) .here rfl (JL.nil (kk (x 10) (fun k h => by cases h; rfl))))
    · (intro x EF MF Q kk; exact JL.store_all (cs := B.l.map U64) n5s rfl rfl rfl (W_cell _) .here rfl (JL.nil (kk (x 11) (fun k h => by cases h; rfl))))
  · intro x hx
    have h12 := hx 12 10 (by decide) rfl
    have h13 := hx 13 11 (by decide) rfl
    show JE _ _ _ _ _ [(5, Pt (x 10) 0), (6, Pt (x 11) 0), (2, Pt b2 0), (3, Pt b3 0), (4, Pt b4 0)] [⟨(x 12), Row 35 (A.l.map U64), true⟩, ⟨(x 13), Row 35 (B.l.map U64), true⟩, ⟨b4, Row 38 (zeroL.l.map U64), true⟩, ⟨b3, Row 35 (x1.l.map U64), true⟩, ⟨b2, Row 38 ((X2.l ++ Z2.l ++ X3.l ++ Z3.l).map U64), true⟩]
    rw [h12, h13]
    generalize x 10 = b5
    generalize x 11 = b6
    clear hx h12 h13 x vs Ms
    repeat (first | refine JL.q (by first | (apply OQ.move; exact rfl) | (apply OQ.assign; exact rfl) | (apply OQ.add64; exact rfl; exact rfl) | (apply OQ.addN; exact rfl; exact rfl; exact (by (try simp only []); omega)) | (apply OQ.subN; exact rfl; exact rfl; exact (by (try simp only []); omega); exact (by (try simp only []); omega)) | (apply OQ.remN; exact rfl; exact rfl; exact (by (try simp only []); omega)) | (apply OQ.quoN; exact rfl; exact rfl; exact (by (try simp only []); omega); exact (by (try simp only []); omega)) | (apply OQ.lssN; exact rfl; exact rfl) | (apply OQ.idxA0; exact rfl; exact rfl; exact rfl; exact rfl; exact (by (try simp only []); omega)) | (apply OQ.fld; exact rfl; exact rfl; exact rfl; exact (by decide); exact rfl)) rfl ?_ | refine JC.seq ?_ | refine JC.region ?_ | refine JC.block ?_ | refine JC.skip ?_ | refine JC.exit ?_ | refine JL.nil ?_ | refine JE.next ?_ | refine JE.blk_normal ?_ | refine JE.then_exit ?_ | refine JE.blk_hit ?_ | refine JE.blk_miss rfl ?_ | refine JE.then_ret ?_ | refine JE.blk_ret ?_ | refine JC.label ?_ | refine JL.gon rfl rfl ?_ | refine JL.gskip rfl rfl rfl rfl ?_)
    let vs : Nat → Nat → Value := fun j x => match j with
      | 0 => Pt b2 10
      | 1 => .agg (X3.l.map U64).toArray
      | 2 => Pt b2 15
      | 3 => .agg (Z3.l.map U64).toArray
      | 4 => .agg (C.l.map U64).toArray
      | 5 => Pt b2 10
      | 6 => .agg (X3.l.map U64).toArray
      | 7 => Pt b2 15
      | 8 => .agg (Z3.l.map U64).toArray
      | 9 => .agg (D.l.map U64).toArray
      | _ => Pt x 0
    let Ms : Nat → Nat → List Ent := fun j x => match j with
      | 10 => [⟨x, Row 35 (zeroN.l.map U64), true⟩]
      | 11 => [⟨x, Row 35 (zeroN.l.map U64), true⟩]
      | 12 => [⟨x, Row 35 (C.l.map U64), true⟩]
      | 13 => [⟨x, Row 35 (D.l.map U64), true⟩]
      | 14 => [⟨b5, Row 35 (A.l.map U64), true⟩]
      | 15 => [⟨b6, Row 35 (B.l.map U64), true⟩]
      | 16 => [⟨b4, Row 38 (zeroL.l.map U64), true⟩]
      | 17 => [⟨b3, Row 35 (x1.l.map U64), true⟩]
      | 18 => [⟨b2, Row 38 ((X2.l ++ Z2.l ++ X3.l ++ Z3.l).map U64), true⟩]
      | _ => []
    refine JC.grow (g := ⟨[(5, Pt b5 0), (6, Pt b6 0), (2, Pt b2 0), (3, Pt b3 0), (4, Pt b4 0)], 19, vs, Ms, (fun j => match j with | 1 => [(0, 26)] | 3 => [(2, 28)] | 4 => [(1, 27), (3, 29)] | 6 => [(5, 31)] | 8 => [(7, 33)] | 9 => [(6, 32), (8, 34)] | 12 => [(10, 7), (4, 30)] | 13 => [(11, 8), (9, 35)] | _ => []), (fun j => match j with | 1 => [18] | 3 => [18] | 6 => [18] | 8 => [18] | 12 => [10] | 13 => [11] | _ => []), (fun j => match j with | 12 => [10] | 13 => [11] | _ => []), (fun j => match j with | 12 => some 10 | 13 => some 11 | _ => none)⟩) [(10, 7), (11, 8)] [12, 13, 14, 15, 16, 17, 18] mixC (by repeat (first | exact SubE.nil | refine SubE.cons _ _ _ rfl ?_)) (Less.refl _) (by kernel_rfl) (by kernel_rfl) (by kernel_rfl) ?_ ?_
    · refine ⟨?_, ?_, ?_, ?_, ?_, ?_, ?_, ?_, ?_, ?_, ?_, ?_, ?_, ?_, trivial⟩
      · (intro x EF MF Q kk; exact JL.q (OQ.fldx (o := 10) rfl rfl rfl (by decide) rfl rfl) rfl (JL.nil (kk default nofun)))
      · (intro x EF MF Q kk; exact JL.q (OQ.load_agg (cs := X3.l.map U64) n5a n5s rfl .here rfl (Row.cells rfl)) rfl (JL.nil (kk default nofun)))
      · (intro x EF MF Q kk; exact JL.q (OQ.fldx (o := 15) rfl rfl rfl (by decide) rfl rfl) rfl (JL.nil (kk default nofun)))
      · (intro x EF MF Q kk; exact JL.q (OQ.load_agg (cs := Z3.l.map U64) n5a n5s rfl .here rfl (Row.cells rfl)) rfl (JL.nil (kk default nofun)))
      · (intro x EF MF Q kk; exact JL.q (OQ.callx (vs := [.agg (X3.l.map U64).toArray, .agg (Z3.l.map U64).toArray]) goes_sum rfl fun w' _ => c_C w') rfl (JL.nil (kk default nofun)))
      · (intro x EF MF Q kk; exact JL.q (OQ.fldx (o := 10) rfl rfl rfl (by decide) rfl rfl) rfl (JL.nil (kk default nofun)))
      · (intro x EF MF Q kk; exact JL.q (OQ.load_agg (cs := X3.l.map U64) n5a n5s rfl .here rfl (Row.cells rfl)) rfl (JL.nil (kk default nofun)))
      · (intro x EF MF Q kk; exact JL.q (OQ.fldx (o := 15) rfl rfl rfl (by decide) rfl rfl) rfl (JL.nil (kk default nofun)))
      · (intro x EF MF Q kk; exact JL.q (OQ.load_agg (cs := Z3.l.map U64) n5a n5s rfl .here rfl (Row.cells rfl)) rfl (JL.nil (kk default nofun)))
      · (intro x EF MF Q kk; exact JL.q (OQ.callx (vs := [.agg (X3.l.map U64).toArray, .agg (Z3.l.map U64).toArray]) goes_difference rfl fun w' _ => c_D w') rfl (JL.nil (kk default nofun)))
      · (intro x EF MF Q kk; exact JL.alloc n5z rfl fun b _ => JL.nil (kk b nofun))
      · (intro x EF MF Q kk; exact JL.alloc n5z rfl fun b _ => JL.nil (kk b nofun))
      · (intro x EF MF Q kk; exact JL.store_all (cs := C.l.map U64) n5s rfl rfl rfl (W_cell _) .here rfl (JL.nil (kk (x 10) (fun k h => by cases h; rfl))))
      · (intro x EF MF Q kk; exact JL.store_all (cs := D.l.map U64) n5s rfl rfl rfl (W_cell _) .here rfl (JL.nil (kk (x 11) (fun k h => by cases h; rfl))))
    · intro x hx
      have h12 := hx 12 10 (by decide) rfl
      have h13 := hx 13 11 (by decide) rfl
      show JE _ _ _ _ _ [(7, Pt (x 10) 0), (8, Pt (x 11) 0), (5, Pt b5 0), (6, Pt b6 0), (2, Pt b2 0), (3, Pt b3 0), (4, Pt b4 0)] [⟨(x 12), Row 35 (C.l.map U64), true⟩, ⟨(x 13), Row 35 (D.l.map U64), true⟩, ⟨b5, Row 35 (A.l.map U64), true⟩, ⟨b6, Row 35 (B.l.map U64), true⟩, ⟨b4, Row 38 (zeroL.l.map U64), true⟩, ⟨b3, Row 35 (x1.l.map U64), true⟩, ⟨b2, Row 38 ((X2.l ++ Z2.l ++ X3.l ++ Z3.l).map U64), true⟩]
      rw [h12, h13]
      generalize x 10 = b7
      generalize x 11 = b8
      clear hx h12 h13 x vs Ms
      repeat (first | refine JL.q (by first | (apply OQ.move; exact rfl) | (apply OQ.assign; exact rfl) | (apply OQ.add64; exact rfl; exact rfl) | (apply OQ.addN; exact rfl; exact rfl; exact (by (try simp only []); omega)) | (apply OQ.subN; exact rfl; exact rfl; exact (by (try simp only []); omega); exact (by (try simp only []); omega)) | (apply OQ.remN; exact rfl; exact rfl; exact (by (try simp only []); omega)) | (apply OQ.quoN; exact rfl; exact rfl; exact (by (try simp only []); omega); exact (by (try simp only []); omega)) | (apply OQ.lssN; exact rfl; exact rfl) | (apply OQ.idxA0; exact rfl; exact rfl; exact rfl; exact rfl; exact (by (try simp only []); omega)) | (apply OQ.fld; exact rfl; exact rfl; exact rfl; exact (by decide); exact rfl)) rfl ?_ | refine JC.seq ?_ | refine JC.region ?_ | refine JC.block ?_ | refine JC.skip ?_ | refine JC.exit ?_ | refine JL.nil ?_ | refine JE.next ?_ | refine JE.blk_normal ?_ | refine JE.then_exit ?_ | refine JE.blk_hit ?_ | refine JE.blk_miss rfl ?_ | refine JE.then_ret ?_ | refine JE.blk_ret ?_ | refine JC.label ?_ | refine JL.gon rfl rfl ?_ | refine JL.gskip rfl rfl rfl rfl ?_)
      let vs : Nat → Nat → Value := fun j x => match j with
        | 0 => .agg (A.l.map U64).toArray
        | 1 => .agg (A.l.map U64).toArray
        | 2 => .agg (AA.l.map U64).toArray
        | 3 => .agg (B.l.map U64).toArray
        | 4 => .agg (B.l.map U64).toArray
        | 5 => .agg (BB.l.map U64).toArray
        | _ => Pt x 0
      let Ms : Nat → Nat → List Ent := fun j x => match j with
        | 6 => [⟨x, Row 35 (zeroN.l.map U64), true⟩]
        | 7 => [⟨x, Row 35 (zeroN.l.map U64), true⟩]
        | 8 => [⟨x, Row 35 (AA.l.map U64), true⟩]
        | 9 => [⟨x, Row 35 (BB.l.map U64), true⟩]
        | 10 => [⟨b7, Row 35 (C.l.map U64), true⟩]
        | 11 => [⟨b8, Row 35 (D.l.map U64), true⟩]
        | 12 => [⟨b5, Row 35 (A.l.map U64), true⟩]
        | 13 => [⟨b6, Row 35 (B.l.map U64), true⟩]
        | 14 => [⟨b4, Row 38 (zeroL.l.map U64), true⟩]
        | 15 => [⟨b3, Row 35 (x1.l.map U64), true⟩]
        | 16 => [⟨b2, Row 38 ((X2.l ++ Z2.l ++ X3.l ++ Z3.l).map U64), true⟩]
        | _ => []
      refine JC.grow (g := ⟨[(7, Pt b7 0), (8, Pt b8 0), (5, Pt b5 0), (6, Pt b6 0), (2, Pt b2 0), (3, Pt b3 0), (4, Pt b4 0)], 17, vs, Ms, (fun j => match j with | 2 => [(0, 36), (1, 37)] | 5 => [(3, 39), (4, 40)] | 8 => [(6, 9), (2, 38)] | 9 => [(7, 10), (5, 41)] | _ => []), (fun j => match j with | 0 => [12] | 1 => [12] | 3 => [13] | 4 => [13] | 8 => [6] | 9 => [7] | _ => []), (fun j => match j with | 8 => [6] | 9 => [7] | _ => []), (fun j => match j with | 8 => some 6 | 9 => some 7 | _ => none)⟩) [(6, 9), (7, 10)] [8, 9, 10, 11, 12, 13, 14, 15, 16] mixC (by repeat (first | exact SubE.nil | refine SubE.cons _ _ _ rfl ?_)) (Less.refl _) (by kernel_rfl) (by kernel_rfl) (by kernel_rfl) ?_ ?_
      · refine ⟨?_, ?_, ?_, ?_, ?_, ?_, ?_, ?_, ?_, ?_, trivial⟩
        · (intro x EF MF Q kk; exact JL.q (OQ.load_agg (cs := A.l.map U64) n5a n5s rfl .here rfl Row.all) rfl (JL.nil (kk default nofun)))
        · (intro x EF MF Q kk; exact JL.q (OQ.load_agg (cs := A.l.map U64) n5a n5s rfl .here rfl Row.all) rfl (JL.nil (kk default nofun)))
        · (intro x EF MF Q kk; exact JL.q (OQ.callx (vs := [.agg (A.l.map U64).toArray, .agg (A.l.map U64).toArray]) goes_product rfl fun w' _ => c_AA w') rfl (JL.nil (kk default nofun)))
        · (intro x EF MF Q kk; exact JL.q (OQ.load_agg (cs := B.l.map U64) n5a n5s rfl .here rfl Row.all) rfl (JL.nil (kk default nofun)))
        · (intro x EF MF Q kk; exact JL.q (OQ.load_agg (cs := B.l.map U64) n5a n5s rfl .here rfl Row.all) rfl (JL.nil (kk default nofun)))
        · (intro x EF MF Q kk; exact JL.q (OQ.callx (vs := [.agg (B.l.map U64).toArray, .agg (B.l.map U64).toArray]) goes_product rfl fun w' _ => c_BB w') rfl (JL.nil (kk default nofun)))
        · (intro x EF MF Q kk; exact JL.alloc n5z rfl fun b _ => JL.nil (kk b nofun))
        · (intro x EF MF Q kk; exact JL.alloc n5z rfl fun b _ => JL.nil (kk b nofun))
        · (intro x EF MF Q kk; exact JL.store_all (cs := AA.l.map U64) n5s rfl rfl rfl (W_cell _) .here rfl (JL.nil (kk (x 6) (fun k h => by cases h; rfl))))
        · (intro x EF MF Q kk; exact JL.store_all (cs := BB.l.map U64) n5s rfl rfl rfl (W_cell _) .here rfl (JL.nil (kk (x 7) (fun k h => by cases h; rfl))))
      · intro x hx
        have h8 := hx 8 6 (by decide) rfl
        have h9 := hx 9 7 (by decide) rfl
        show JE _ _ _ _ _ [(9, Pt (x 6) 0), (10, Pt (x 7) 0), (7, Pt b7 0), (8, Pt b8 0), (5, Pt b5 0), (6, Pt b6 0), (2, Pt b2 0), (3, Pt b3 0), (4, Pt b4 0)] [⟨(x 8), Row 35 (AA.l.map U64), true⟩, ⟨(x 9), Row 35 (BB.l.map U64), true⟩, ⟨b7, Row 35 (C.l.map U64), true⟩, ⟨b8, Row 35 (D.l.map U64), true⟩, ⟨b5, Row 35 (A.l.map U64), true⟩, ⟨b6, Row 35 (B.l.map U64), true⟩, ⟨b4, Row 38 (zeroL.l.map U64), true⟩, ⟨b3, Row 35 (x1.l.map U64), true⟩, ⟨b2, Row 38 ((X2.l ++ Z2.l ++ X3.l ++ Z3.l).map U64), true⟩]
        rw [h8, h9]
        generalize x 6 = b9
        generalize x 7 = b10
        clear hx h8 h9 x vs Ms
        repeat (first | refine JL.q (by first | (apply OQ.move; exact rfl) | (apply OQ.assign; exact rfl) | (apply OQ.add64; exact rfl; exact rfl) | (apply OQ.addN; exact rfl; exact rfl; exact (by (try simp only []); omega)) | (apply OQ.subN; exact rfl; exact rfl; exact (by (try simp only []); omega); exact (by (try simp only []); omega)) | (apply OQ.remN; exact rfl; exact rfl; exact (by (try simp only []); omega)) | (apply OQ.quoN; exact rfl; exact rfl; exact (by (try simp only []); omega); exact (by (try simp only []); omega)) | (apply OQ.lssN; exact rfl; exact rfl) | (apply OQ.idxA0; exact rfl; exact rfl; exact rfl; exact rfl; exact (by (try simp only []); omega)) | (apply OQ.fld; exact rfl; exact rfl; exact rfl; exact (by decide); exact rfl)) rfl ?_ | refine JC.seq ?_ | refine JC.region ?_ | refine JC.block ?_ | refine JC.skip ?_ | refine JC.exit ?_ | refine JL.nil ?_ | refine JE.next ?_ | refine JE.blk_normal ?_ | refine JE.then_exit ?_ | refine JE.blk_hit ?_ | refine JE.blk_miss rfl ?_ | refine JE.then_ret ?_ | refine JE.blk_ret ?_ | refine JC.label ?_ | refine JL.gon rfl rfl ?_ | refine JL.gskip rfl rfl rfl rfl ?_)
        let vs : Nat → Nat → Value := fun j x => match j with
          | 0 => .agg (D.l.map U64).toArray
          | 1 => .agg (A.l.map U64).toArray
          | 2 => .agg (DA.l.map U64).toArray
          | 3 => .agg (C.l.map U64).toArray
          | 4 => .agg (B.l.map U64).toArray
          | 5 => .agg (CB.l.map U64).toArray
          | _ => Pt x 0
        let Ms : Nat → Nat → List Ent := fun j x => match j with
          | 6 => [⟨x, Row 35 (zeroN.l.map U64), true⟩]
          | 7 => [⟨x, Row 35 (zeroN.l.map U64), true⟩]
          | 8 => [⟨x, Row 35 (DA.l.map U64), true⟩]
          | 9 => [⟨x, Row 35 (CB.l.map U64), true⟩]
          | 10 => [⟨b9, Row 35 (AA.l.map U64), true⟩]
          | 11 => [⟨b10, Row 35 (BB.l.map U64), true⟩]
          | 12 => [⟨b7, Row 35 (C.l.map U64), true⟩]
          | 13 => [⟨b8, Row 35 (D.l.map U64), true⟩]
          | 14 => [⟨b5, Row 35 (A.l.map U64), true⟩]
          | 15 => [⟨b6, Row 35 (B.l.map U64), true⟩]
          | 16 => [⟨b4, Row 38 (zeroL.l.map U64), true⟩]
          | 17 => [⟨b3, Row 35 (x1.l.map U64), true⟩]
          | 18 => [⟨b2, Row 38 ((X2.l ++ Z2.l ++ X3.l ++ Z3.l).map U64), true⟩]
          | _ => []
        refine JC.grow (g := ⟨[(9, Pt b9 0), (10, Pt b10 0), (7, Pt b7 0), (8, Pt b8 0), (5, Pt b5 0), (6, Pt b6 0), (2, Pt b2 0), (3, Pt b3 0), (4, Pt b4 0)], 19, vs, Ms, (fun j => match j with | 2 => [(0, 42), (1, 43)] | 5 => [(3, 45), (4, 46)] | 8 => [(6, 11), (2, 44)] | 9 => [(7, 12), (5, 47)] | _ => []), (fun j => match j with | 0 => [13] | 1 => [14] | 3 => [12] | 4 => [15] | 8 => [6] | 9 => [7] | _ => []), (fun j => match j with | 8 => [6] | 9 => [7] | _ => []), (fun j => match j with | 8 => some 6 | 9 => some 7 | _ => none)⟩) [(6, 11), (7, 12)] [8, 9, 10, 11, 12, 13, 14, 15, 16, 17, 18] mixC (by repeat (first | exact SubE.nil | refine SubE.cons _ _ _ rfl ?_)) (Less.refl _) (by kernel_rfl) (by kernel_rfl) (by kernel_rfl) ?_ ?_
        · refine ⟨?_, ?_, ?_, ?_, ?_, ?_, ?_, ?_, ?_, ?_, trivial⟩
          · (intro x EF MF Q kk; exact JL.q (OQ.load_agg (cs := D.l.map U64) n5a n5s rfl .here rfl Row.all) rfl (JL.nil (kk default nofun)))
          · (intro x EF MF Q kk; exact JL.q (OQ.load_agg (cs := A.l.map U64) n5a n5s rfl .here rfl Row.all) rfl (JL.nil (kk default nofun)))
          · (intro x EF MF Q kk; exact JL.q (OQ.callx (vs := [.agg (D.l.map U64).toArray, .agg (A.l.map U64).toArray]) goes_product rfl fun w' _ => c_DA w') rfl (JL.nil (kk default nofun)))
          · (intro x EF MF Q kk; exact JL.q (OQ.load_agg (cs := C.l.map U64) n5a n5s rfl .here rfl Row.all) rfl (JL.nil (kk default nofun)))
          · (intro x EF MF Q kk; exact JL.q (OQ.load_agg (cs := B.l.map U64) n5a n5s rfl .here rfl Row.all) rfl (JL.nil (kk default nofun)))
          · (intro x EF MF Q kk; exact JL.q (OQ.callx (vs := [.agg (C.l.map U64).toArray, .agg (B.l.map U64).toArray]) goes_product rfl fun w' _ => c_CB w') rfl (JL.nil (kk default nofun)))
          · (intro x EF MF Q kk; exact JL.alloc n5z rfl fun b _ => JL.nil (kk b nofun))
          · (intro x EF MF Q kk; exact JL.alloc n5z rfl fun b _ => JL.nil (kk b nofun))
          · (intro x EF MF Q kk; exact JL.store_all (cs := DA.l.map U64) n5s rfl rfl rfl (W_cell _) .here rfl (JL.nil (kk (x 6) (fun k h => by cases h; rfl))))
          · (intro x EF MF Q kk; exact JL.store_all (cs := CB.l.map U64) n5s rfl rfl rfl (W_cell _) .here rfl (JL.nil (kk (x 7) (fun k h => by cases h; rfl))))
        · intro x hx
          have h8 := hx 8 6 (by decide) rfl
          have h9 := hx 9 7 (by decide) rfl
          show JE _ _ _ _ _ [(11, Pt (x 6) 0), (12, Pt (x 7) 0), (9, Pt b9 0), (10, Pt b10 0), (7, Pt b7 0), (8, Pt b8 0), (5, Pt b5 0), (6, Pt b6 0), (2, Pt b2 0), (3, Pt b3 0), (4, Pt b4 0)] [⟨(x 8), Row 35 (DA.l.map U64), true⟩, ⟨(x 9), Row 35 (CB.l.map U64), true⟩, ⟨b9, Row 35 (AA.l.map U64), true⟩, ⟨b10, Row 35 (BB.l.map U64), true⟩, ⟨b7, Row 35 (C.l.map U64), true⟩, ⟨b8, Row 35 (D.l.map U64), true⟩, ⟨b5, Row 35 (A.l.map U64), true⟩, ⟨b6, Row 35 (B.l.map U64), true⟩, ⟨b4, Row 38 (zeroL.l.map U64), true⟩, ⟨b3, Row 35 (x1.l.map U64), true⟩, ⟨b2, Row 38 ((X2.l ++ Z2.l ++ X3.l ++ Z3.l).map U64), true⟩]
          rw [h8, h9]
          generalize x 6 = b11
          generalize x 7 = b12
          clear hx h8 h9 x vs Ms
          repeat (first | refine JL.q (by first | (apply OQ.move; exact rfl) | (apply OQ.assign; exact rfl) | (apply OQ.add64; exact rfl; exact rfl) | (apply OQ.addN; exact rfl; exact rfl; exact (by (try simp only []); omega)) | (apply OQ.subN; exact rfl; exact rfl; exact (by (try simp only []); omega); exact (by (try simp only []); omega)) | (apply OQ.remN; exact rfl; exact rfl; exact (by (try simp only []); omega)) | (apply OQ.quoN; exact rfl; exact rfl; exact (by (try simp only []); omega); exact (by (try simp only []); omega)) | (apply OQ.lssN; exact rfl; exact rfl) | (apply OQ.idxA0; exact rfl; exact rfl; exact rfl; exact rfl; exact (by (try simp only []); omega)) | (apply OQ.fld; exact rfl; exact rfl; exact rfl; exact (by decide); exact rfl)) rfl ?_ | refine JC.seq ?_ | refine JC.region ?_ | refine JC.block ?_ | refine JC.skip ?_ | refine JC.exit ?_ | refine JL.nil ?_ | refine JE.next ?_ | refine JE.blk_normal ?_ | refine JE.then_exit ?_ | refine JE.blk_hit ?_ | refine JE.blk_miss rfl ?_ | refine JE.then_ret ?_ | refine JE.blk_ret ?_ | refine JC.label ?_ | refine JL.gon rfl rfl ?_ | refine JL.gskip rfl rfl rfl rfl ?_)
          repeat (first | refine JL.q (by first | (apply OQ.load_agg (cs := AA.l.map U64); exact n5a; exact n5s; exact rfl; exact (by repeat (first | exact Has.here | apply Has.there)); exact rfl; exact Row.all) | (apply OQ.load_agg (cs := BB.l.map U64); exact n5a; exact n5s; exact rfl; exact (by repeat (first | exact Has.here | apply Has.there)); exact rfl; exact Row.all) | (apply OQ.callx (vs := [.agg (AA.l.map U64).toArray, .agg (BB.l.map U64).toArray]); exact goes_difference; exact rfl; exact (fun w' _ => c_E w')) | (apply OQ.move; exact rfl) | (apply OQ.assign; exact rfl) | (apply OQ.add64; exact rfl; exact rfl) | (apply OQ.addN; exact rfl; exact rfl; exact (by (try simp only []); omega)) | (apply OQ.subN; exact rfl; exact rfl; exact (by (try simp only []); omega); exact (by (try simp only []); omega)) | (apply OQ.remN; exact rfl; exact rfl; exact (by (try simp only []); omega)) | (apply OQ.quoN; exact rfl; exact rfl; exact (by (try simp only []); omega); exact (by (try simp only []); omega)) | (apply OQ.lssN; exact rfl; exact rfl) | (apply OQ.idxA0; exact rfl; exact rfl; exact rfl; exact rfl; exact (by (try simp only []); omega)) | (apply OQ.fld; exact rfl; exact rfl; exact rfl; exact (by decide); exact rfl)) rfl ?_ | refine JC.seq ?_ | refine JC.region ?_ | refine JC.block ?_ | refine JC.skip ?_ | refine JC.exit ?_ | refine JL.nil ?_ | refine JE.next ?_ | refine JE.blk_normal ?_ | refine JE.then_exit ?_ | refine JE.blk_hit ?_ | refine JE.blk_miss rfl ?_ | refine JE.then_ret ?_ | refine JE.blk_ret ?_ | refine JC.label ?_ | refine JL.gon rfl rfl ?_ | refine JL.gskip rfl rfl rfl rfl ?_)
          refine JL.alloc n5z rfl fun b13 _ => ?_
          refine JL.store_all (cs := E.l.map U64) n5s rfl rfl rfl (W_cell _) .here rfl ?_
          repeat (first | refine JL.q (by first | (apply OQ.move; exact rfl) | (apply OQ.assign; exact rfl) | (apply OQ.add64; exact rfl; exact rfl) | (apply OQ.addN; exact rfl; exact rfl; exact (by (try simp only []); omega)) | (apply OQ.subN; exact rfl; exact rfl; exact (by (try simp only []); omega); exact (by (try simp only []); omega)) | (apply OQ.remN; exact rfl; exact rfl; exact (by (try simp only []); omega)) | (apply OQ.quoN; exact rfl; exact rfl; exact (by (try simp only []); omega); exact (by (try simp only []); omega)) | (apply OQ.lssN; exact rfl; exact rfl) | (apply OQ.idxA0; exact rfl; exact rfl; exact rfl; exact rfl; exact (by (try simp only []); omega)) | (apply OQ.fld; exact rfl; exact rfl; exact rfl; exact (by decide); exact rfl)) rfl ?_ | refine JC.seq ?_ | refine JC.region ?_ | refine JC.block ?_ | refine JC.skip ?_ | refine JC.exit ?_ | refine JL.nil ?_ | refine JE.next ?_ | refine JE.blk_normal ?_ | refine JE.then_exit ?_ | refine JE.blk_hit ?_ | refine JE.blk_miss rfl ?_ | refine JE.then_ret ?_ | refine JE.blk_ret ?_ | refine JC.label ?_ | refine JL.gon rfl rfl ?_ | refine JL.gskip rfl rfl rfl rfl ?_)
          let vs : Nat → Nat → Value := fun j x => match j with
            | 0 => .agg (DA.l.map U64).toArray
            | 1 => .agg (CB.l.map U64).toArray
            | 2 => .agg (M.l.map U64).toArray
            | 3 => .agg (DA.l.map U64).toArray
            | 4 => .agg (CB.l.map U64).toArray
            | 5 => .agg (S.l.map U64).toArray
            | _ => Pt x 0
          let Ms : Nat → Nat → List Ent := fun j x => match j with
            | 6 => [⟨x, Row 35 (zeroN.l.map U64), true⟩]
            | 7 => [⟨x, Row 35 (zeroN.l.map U64), true⟩]
            | 8 => [⟨x, Row 35 (M.l.map U64), true⟩]
            | 9 => [⟨x, Row 35 (S.l.map U64), true⟩]
            | 10 => [⟨b13, Row 35 (E.l.map U64), true⟩]
            | 11 => [⟨b11, Row 35 (DA.l.map U64), true⟩]
            | 12 => [⟨b12, Row 35 (CB.l.map U64), true⟩]
            | 13 => [⟨b9, Row 35 (AA.l.map U64), true⟩]
            | 14 => [⟨b10, Row 35 (BB.l.map U64), true⟩]
            | 15 => [⟨b7, Row 35 (C.l.map U64), true⟩]
            | 16 => [⟨b8, Row 35 (D.l.map U64), true⟩]
            | 17 => [⟨b5, Row 35 (A.l.map U64), true⟩]
            | 18 => [⟨b6, Row 35 (B.l.map U64), true⟩]
            | 19 => [⟨b4, Row 38 (zeroL.l.map U64), true⟩]
            | 20 => [⟨b3, Row 35 (x1.l.map U64), true⟩]
            | 21 => [⟨b2, Row 38 ((X2.l ++ Z2.l ++ X3.l ++ Z3.l).map U64), true⟩]
            | _ => []
          refine JC.grow (g := ⟨[(13, Pt b13 0), (11, Pt b11 0), (12, Pt b12 0), (9, Pt b9 0), (10, Pt b10 0), (7, Pt b7 0), (8, Pt b8 0), (5, Pt b5 0), (6, Pt b6 0), (2, Pt b2 0), (3, Pt b3 0), (4, Pt b4 0)], 22, vs, Ms, (fun j => match j with | 2 => [(0, 51), (1, 52)] | 5 => [(3, 54), (4, 55)] | 8 => [(6, 14), (2, 53)] | 9 => [(7, 15), (5, 56)] | _ => []), (fun j => match j with | 0 => [11] | 1 => [12] | 3 => [11] | 4 => [12] | 8 => [6] | 9 => [7] | _ => []), (fun j => match j with | 8 => [6] | 9 => [7] | _ => []), (fun j => match j with | 8 => some 6 | 9 => some 7 | _ => none)⟩) [(6, 14), (7, 15)] [8, 9, 10, 11, 12, 13, 14, 15, 16, 17, 18, 19, 20, 21] mixC (by repeat (first | exact SubE.nil | refine SubE.cons _ _ _ rfl ?_)) (Less.refl _) (by kernel_rfl) (by kernel_rfl) (by kernel_rfl) ?_ ?_
          · refine ⟨?_, ?_, ?_, ?_, ?_, ?_, ?_, ?_, ?_, ?_, trivial⟩
            · (intro x EF MF Q kk; exact JL.q (OQ.load_agg (cs := DA.l.map U64) n5a n5s rfl .here rfl Row.all) rfl (JL.nil (kk default nofun)))
            · (intro x EF MF Q kk; exact JL.q (OQ.load_agg (cs := CB.l.map U64) n5a n5s rfl .here rfl Row.all) rfl (JL.nil (kk default nofun)))
            · (intro x EF MF Q kk; exact JL.q (OQ.callx (vs := [.agg (DA.l.map U64).toArray, .agg (CB.l.map U64).toArray]) goes_sum rfl fun w' _ => c_M w') rfl (JL.nil (kk default nofun)))
            · (intro x EF MF Q kk; exact JL.q (OQ.load_agg (cs := DA.l.map U64) n5a n5s rfl .here rfl Row.all) rfl (JL.nil (kk default nofun)))
            · (intro x EF MF Q kk; exact JL.q (OQ.load_agg (cs := CB.l.map U64) n5a n5s rfl .here rfl Row.all) rfl (JL.nil (kk default nofun)))
            · (intro x EF MF Q kk; exact JL.q (OQ.callx (vs := [.agg (DA.l.map U64).toArray, .agg (CB.l.map U64).toArray]) goes_difference rfl fun w' _ => c_S w') rfl (JL.nil (kk default nofun)))
            · (intro x EF MF Q kk; exact JL.alloc n5z rfl fun b _ => JL.nil (kk b nofun))
            · (intro x EF MF Q kk; exact JL.alloc n5z rfl fun b _ => JL.nil (kk b nofun))
            · (intro x EF MF Q kk; exact JL.store_all (cs := M.l.map U64) n5s rfl rfl rfl (W_cell _) .here rfl (JL.nil (kk (x 6) (fun k h => by cases h; rfl))))
            · (intro x EF MF Q kk; exact JL.store_all (cs := S.l.map U64) n5s rfl rfl rfl (W_cell _) .here rfl (JL.nil (kk (x 7) (fun k h => by cases h; rfl))))
          · intro x hx
            have h8 := hx 8 6 (by decide) rfl
            have h9 := hx 9 7 (by decide) rfl
            show JE _ _ _ _ _ [(14, Pt (x 6) 0), (15, Pt (x 7) 0), (13, Pt b13 0), (11, Pt b11 0), (12, Pt b12 0), (9, Pt b9 0), (10, Pt b10 0), (7, Pt b7 0), (8, Pt b8 0), (5, Pt b5 0), (6, Pt b6 0), (2, Pt b2 0), (3, Pt b3 0), (4, Pt b4 0)] [⟨(x 8), Row 35 (M.l.map U64), true⟩, ⟨(x 9), Row 35 (S.l.map U64), true⟩, ⟨b13, Row 35 (E.l.map U64), true⟩, ⟨b11, Row 35 (DA.l.map U64), true⟩, ⟨b12, Row 35 (CB.l.map U64), true⟩, ⟨b9, Row 35 (AA.l.map U64), true⟩, ⟨b10, Row 35 (BB.l.map U64), true⟩, ⟨b7, Row 35 (C.l.map U64), true⟩, ⟨b8, Row 35 (D.l.map U64), true⟩, ⟨b5, Row 35 (A.l.map U64), true⟩, ⟨b6, Row 35 (B.l.map U64), true⟩, ⟨b4, Row 38 (zeroL.l.map U64), true⟩, ⟨b3, Row 35 (x1.l.map U64), true⟩, ⟨b2, Row 38 ((X2.l ++ Z2.l ++ X3.l ++ Z3.l).map U64), true⟩]
            rw [h8, h9]
            generalize x 6 = b14
            generalize x 7 = b15
            clear hx h8 h9 x vs Ms
            repeat (first | refine JL.q (by first | (apply OQ.move; exact rfl) | (apply OQ.assign; exact rfl) | (apply OQ.add64; exact rfl; exact rfl) | (apply OQ.addN; exact rfl; exact rfl; exact (by (try simp only []); omega)) | (apply OQ.subN; exact rfl; exact rfl; exact (by (try simp only []); omega); exact (by (try simp only []); omega)) | (apply OQ.remN; exact rfl; exact rfl; exact (by (try simp only []); omega)) | (apply OQ.quoN; exact rfl; exact rfl; exact (by (try simp only []); omega); exact (by (try simp only []); omega)) | (apply OQ.lssN; exact rfl; exact rfl) | (apply OQ.idxA0; exact rfl; exact rfl; exact rfl; exact rfl; exact (by (try simp only []); omega)) | (apply OQ.fld; exact rfl; exact rfl; exact rfl; exact (by decide); exact rfl)) rfl ?_ | refine JC.seq ?_ | refine JC.region ?_ | refine JC.block ?_ | refine JC.skip ?_ | refine JC.exit ?_ | refine JL.nil ?_ | refine JE.next ?_ | refine JE.blk_normal ?_ | refine JE.then_exit ?_ | refine JE.blk_hit ?_ | refine JE.blk_miss rfl ?_ | refine JE.then_ret ?_ | refine JE.blk_ret ?_ | refine JC.label ?_ | refine JL.gon rfl rfl ?_ | refine JL.gskip rfl rfl rfl rfl ?_)
            refine JC.tail 19 mixC (by kernel_rfl) ?_
            simp only [List.take_succ_cons, List.take_zero, List.drop_succ_cons, List.drop_zero]
            repeat (first | refine JL.q (by first | (apply OQ.load_agg (cs := AA.l.map U64); exact n5a; exact n5s; exact rfl; exact (by repeat (first | exact Has.here | apply Has.there)); exact rfl; exact Row.all) | (apply OQ.load_agg (cs := BB.l.map U64); exact n5a; exact n5s; exact rfl; exact (by repeat (first | exact Has.here | apply Has.there)); exact rfl; exact Row.all) | (apply OQ.load_agg (cs := E.l.map U64); exact n5a; exact n5s; exact rfl; exact (by repeat (first | exact Has.here | apply Has.there)); exact rfl; exact Row.all) | (apply OQ.load_agg (cs := M.l.map U64); exact n5a; exact n5s; exact rfl; exact (by repeat (first | exact Has.here | apply Has.there)); exact rfl; exact Row.all) | (apply OQ.load_agg (cs := S.l.map U64); exact n5a; exact n5s; exact rfl; exact (by repeat (first | exact Has.here | apply Has.there)); exact rfl; exact Row.all) | (apply OQ.load_agg (cs := x1.l.map U64); exact n5a; exact n5s; exact rfl; exact (by repeat (first | exact Has.here | apply Has.there)); exact rfl; exact Row.all) | (apply OQ.callx (vs := [.agg (AA.l.map U64).toArray, .agg (BB.l.map U64).toArray]); exact goes_product; exact rfl; exact (fun w' _ => c_R1 w')) | (apply OQ.callx (vs := [.agg (cN.l.map U64).toArray, .agg (E.l.map U64).toArray]); exact goes_product; exact rfl; exact (fun w' _ => c_F w')) | (apply OQ.callx (vs := [.agg (AA.l.map U64).toArray, .agg (F.l.map U64).toArray]); exact goes_sum; exact rfl; exact (fun w' _ => c_G w')) | (apply OQ.callx (vs := [.agg (E.l.map U64).toArray, .agg (G.l.map U64).toArray]); exact goes_product; exact rfl; exact (fun w' _ => c_R2 w')) | (apply OQ.callx (vs := [.agg (M.l.map U64).toArray, .agg (M.l.map U64).toArray]); exact goes_product; exact rfl; exact (fun w' _ => c_R3 w')) | (apply OQ.callx (vs := [.agg (S.l.map U64).toArray, .agg (S.l.map U64).toArray]); exact goes_product; exact rfl; exact (fun w' _ => c_SS w')) | (apply OQ.callx (vs := [.agg (x1.l.map U64).toArray, .agg (SS.l.map U64).toArray]); exact goes_product; exact rfl; exact (fun w' _ => c_R4 w')) | (apply OQ.move; exact rfl) | (apply OQ.assign; exact rfl) | (apply OQ.add64; exact rfl; exact rfl) | (apply OQ.addN; exact rfl; exact rfl; exact (by (try simp only []); omega)) | (apply OQ.subN; exact rfl; exact rfl; exact (by (try simp only []); omega); exact (by (try simp only []); omega)) | (apply OQ.remN; exact rfl; exact rfl; exact (by (try simp only []); omega)) | (apply OQ.quoN; exact rfl; exact rfl; exact (by (try simp only []); omega); exact (by (try simp only []); omega)) | (apply OQ.lssN; exact rfl; exact rfl) | (apply OQ.idxA0; exact rfl; exact rfl; exact rfl; exact rfl; exact (by (try simp only []); omega)) | (apply OQ.fld; exact rfl; exact rfl; exact rfl; exact (by decide); exact rfl)) rfl ?_ | refine JQ.q (by first | (apply OQ.load_agg (cs := AA.l.map U64); exact n5a; exact n5s; exact rfl; exact (by repeat (first | exact Has.here | apply Has.there)); exact rfl; exact Row.all) | (apply OQ.load_agg (cs := BB.l.map U64); exact n5a; exact n5s; exact rfl; exact (by repeat (first | exact Has.here | apply Has.there)); exact rfl; exact Row.all) | (apply OQ.load_agg (cs := E.l.map U64); exact n5a; exact n5s; exact rfl; exact (by repeat (first | exact Has.here | apply Has.there)); exact rfl; exact Row.all) | (apply OQ.load_agg (cs := M.l.map U64); exact n5a; exact n5s; exact rfl; exact (by repeat (first | exact Has.here | apply Has.there)); exact rfl; exact Row.all) | (apply OQ.load_agg (cs := S.l.map U64); exact n5a; exact n5s; exact rfl; exact (by repeat (first | exact Has.here | apply Has.there)); exact rfl; exact Row.all) | (apply OQ.load_agg (cs := x1.l.map U64); exact n5a; exact n5s; exact rfl; exact (by repeat (first | exact Has.here | apply Has.there)); exact rfl; exact Row.all) | (apply OQ.callx (vs := [.agg (AA.l.map U64).toArray, .agg (BB.l.map U64).toArray]); exact goes_product; exact rfl; exact (fun w' _ => c_R1 w')) | (apply OQ.callx (vs := [.agg (cN.l.map U64).toArray, .agg (E.l.map U64).toArray]); exact goes_product; exact rfl; exact (fun w' _ => c_F w')) | (apply OQ.callx (vs := [.agg (AA.l.map U64).toArray, .agg (F.l.map U64).toArray]); exact goes_sum; exact rfl; exact (fun w' _ => c_G w')) | (apply OQ.callx (vs := [.agg (E.l.map U64).toArray, .agg (G.l.map U64).toArray]); exact goes_product; exact rfl; exact (fun w' _ => c_R2 w')) | (apply OQ.callx (vs := [.agg (M.l.map U64).toArray, .agg (M.l.map U64).toArray]); exact goes_product; exact rfl; exact (fun w' _ => c_R3 w')) | (apply OQ.callx (vs := [.agg (S.l.map U64).toArray, .agg (S.l.map U64).toArray]); exact goes_product; exact rfl; exact (fun w' _ => c_SS w')) | (apply OQ.callx (vs := [.agg (x1.l.map U64).toArray, .agg (SS.l.map U64).toArray]); exact goes_product; exact rfl; exact (fun w' _ => c_R4 w')) | (apply OQ.move; exact rfl) | (apply OQ.assign; exact rfl) | (apply OQ.add64; exact rfl; exact rfl) | (apply OQ.addN; exact rfl; exact rfl; exact (by (try simp only []); omega)) | (apply OQ.subN; exact rfl; exact rfl; exact (by (try simp only []); omega); exact (by (try simp only []); omega)) | (apply OQ.remN; exact rfl; exact rfl; exact (by (try simp only []); omega)) | (apply OQ.quoN; exact rfl; exact rfl; exact (by (try simp only []); omega); exact (by (try simp only []); omega)) | (apply OQ.lssN; exact rfl; exact rfl) | (apply OQ.idxA0; exact rfl; exact rfl; exact rfl; exact rfl; exact (by (try simp only []); omega)) | (apply OQ.fld; exact rfl; exact rfl; exact rfl; exact (by decide); exact rfl)) rfl ?_ | refine JC.seq ?_ | refine JC.region ?_ | refine JC.block ?_ | refine JC.skip ?_ | refine JC.exit ?_ | refine JL.nil ?_ | refine JQ.nil ?_ | refine JQ.nil_tail ?_ | refine JE.next ?_ | refine JE.blk_normal ?_ | refine JE.then_exit ?_ | refine JE.blk_hit ?_ | refine JE.blk_miss rfl ?_ | refine JE.then_ret ?_ | refine JE.blk_ret ?_ | refine JC.label ?_ | refine JL.gon rfl rfl ?_ | refine JQ.gon rfl rfl ?_ | refine JL.gskip rfl rfl rfl rfl ?_ | refine JQ.gskip rfl rfl rfl rfl ?_)
            refine JQ.q (OQ.pure (v := .agg (cN.l.map U64).toArray) rfl rfl (by kernel_rfl)) rfl ?_
            repeat (first | refine JL.q (by first | (apply OQ.load_agg (cs := AA.l.map U64); exact n5a; exact n5s; exact rfl; exact (by repeat (first | exact Has.here | apply Has.there)); exact rfl; exact Row.all) | (apply OQ.load_agg (cs := BB.l.map U64); exact n5a; exact n5s; exact rfl; exact (by repeat (first | exact Has.here | apply Has.there)); exact rfl; exact Row.all) | (apply OQ.load_agg (cs := E.l.map U64); exact n5a; exact n5s; exact rfl; exact (by repeat (first | exact Has.here | apply Has.there)); exact rfl; exact Row.all) | (apply OQ.load_agg (cs := M.l.map U64); exact n5a; exact n5s; exact rfl; exact (by repeat (first | exact Has.here | apply Has.there)); exact rfl; exact Row.all) | (apply OQ.load_agg (cs := S.l.map U64); exact n5a; exact n5s; exact rfl; exact (by repeat (first | exact Has.here | apply Has.there)); exact rfl; exact Row.all) | (apply OQ.load_agg (cs := x1.l.map U64); exact n5a; exact n5s; exact rfl; exact (by repeat (first | exact Has.here | apply Has.there)); exact rfl; exact Row.all) | (apply OQ.callx (vs := [.agg (AA.l.map U64).toArray, .agg (BB.l.map U64).toArray]); exact goes_product; exact rfl; exact (fun w' _ => c_R1 w')) | (apply OQ.callx (vs := [.agg (cN.l.map U64).toArray, .agg (E.l.map U64).toArray]); exact goes_product; exact rfl; exact (fun w' _ => c_F w')) | (apply OQ.callx (vs := [.agg (AA.l.map U64).toArray, .agg (F.l.map U64).toArray]); exact goes_sum; exact rfl; exact (fun w' _ => c_G w')) | (apply OQ.callx (vs := [.agg (E.l.map U64).toArray, .agg (G.l.map U64).toArray]); exact goes_product; exact rfl; exact (fun w' _ => c_R2 w')) | (apply OQ.callx (vs := [.agg (M.l.map U64).toArray, .agg (M.l.map U64).toArray]); exact goes_product; exact rfl; exact (fun w' _ => c_R3 w')) | (apply OQ.callx (vs := [.agg (S.l.map U64).toArray, .agg (S.l.map U64).toArray]); exact goes_product; exact rfl; exact (fun w' _ => c_SS w')) | (apply OQ.callx (vs := [.agg (x1.l.map U64).toArray, .agg (SS.l.map U64).toArray]); exact goes_product; exact rfl; exact (fun w' _ => c_R4 w')) | (apply OQ.move; exact rfl) | (apply OQ.assign; exact rfl) | (apply OQ.add64; exact rfl; exact rfl) | (apply OQ.addN; exact rfl; exact rfl; exact (by (try simp only []); omega)) | (apply OQ.subN; exact rfl; exact rfl; exact (by (try simp only []); omega); exact (by (try simp only []); omega)) | (apply OQ.remN; exact rfl; exact rfl; exact (by (try simp only []); omega)) | (apply OQ.quoN; exact rfl; exact rfl; exact (by (try simp only []); omega); exact (by (try simp only []); omega)) | (apply OQ.lssN; exact rfl; exact rfl) | (apply OQ.idxA0; exact rfl; exact rfl; exact rfl; exact rfl; exact (by (try simp only []); omega)) | (apply OQ.fld; exact rfl; exact rfl; exact rfl; exact (by decide); exact rfl)) rfl ?_ | refine JQ.q (by first | (apply OQ.load_agg (cs := AA.l.map U64); exact n5a; exact n5s; exact rfl; exact (by repeat (first | exact Has.here | apply Has.there)); exact rfl; exact Row.all) | (apply OQ.load_agg (cs := BB.l.map U64); exact n5a; exact n5s; exact rfl; exact (by repeat (first | exact Has.here | apply Has.there)); exact rfl; exact Row.all) | (apply OQ.load_agg (cs := E.l.map U64); exact n5a; exact n5s; exact rfl; exact (by repeat (first | exact Has.here | apply Has.there)); exact rfl; exact Row.all) | (apply OQ.load_agg (cs := M.l.map U64); exact n5a; exact n5s; exact rfl; exact (by repeat (first | exact Has.here | apply Has.there)); exact rfl; exact Row.all) | (apply OQ.load_agg (cs := S.l.map U64); exact n5a; exact n5s; exact rfl; exact (by repeat (first | exact Has.here | apply Has.there)); exact rfl; exact Row.all) | (apply OQ.load_agg (cs := x1.l.map U64); exact n5a; exact n5s; exact rfl; exact (by repeat (first | exact Has.here | apply Has.there)); exact rfl; exact Row.all) | (apply OQ.callx (vs := [.agg (AA.l.map U64).toArray, .agg (BB.l.map U64).toArray]); exact goes_product; exact rfl; exact (fun w' _ => c_R1 w')) | (apply OQ.callx (vs := [.agg (cN.l.map U64).toArray, .agg (E.l.map U64).toArray]); exact goes_product; exact rfl; exact (fun w' _ => c_F w')) | (apply OQ.callx (vs := [.agg (AA.l.map U64).toArray, .agg (F.l.map U64).toArray]); exact goes_sum; exact rfl; exact (fun w' _ => c_G w')) | (apply OQ.callx (vs := [.agg (E.l.map U64).toArray, .agg (G.l.map U64).toArray]); exact goes_product; exact rfl; exact (fun w' _ => c_R2 w')) | (apply OQ.callx (vs := [.agg (M.l.map U64).toArray, .agg (M.l.map U64).toArray]); exact goes_product; exact rfl; exact (fun w' _ => c_R3 w')) | (apply OQ.callx (vs := [.agg (S.l.map U64).toArray, .agg (S.l.map U64).toArray]); exact goes_product; exact rfl; exact (fun w' _ => c_SS w')) | (apply OQ.callx (vs := [.agg (x1.l.map U64).toArray, .agg (SS.l.map U64).toArray]); exact goes_product; exact rfl; exact (fun w' _ => c_R4 w')) | (apply OQ.move; exact rfl) | (apply OQ.assign; exact rfl) | (apply OQ.add64; exact rfl; exact rfl) | (apply OQ.addN; exact rfl; exact rfl; exact (by (try simp only []); omega)) | (apply OQ.subN; exact rfl; exact rfl; exact (by (try simp only []); omega); exact (by (try simp only []); omega)) | (apply OQ.remN; exact rfl; exact rfl; exact (by (try simp only []); omega)) | (apply OQ.quoN; exact rfl; exact rfl; exact (by (try simp only []); omega); exact (by (try simp only []); omega)) | (apply OQ.lssN; exact rfl; exact rfl) | (apply OQ.idxA0; exact rfl; exact rfl; exact rfl; exact rfl; exact (by (try simp only []); omega)) | (apply OQ.fld; exact rfl; exact rfl; exact rfl; exact (by decide); exact rfl)) rfl ?_ | refine JC.seq ?_ | refine JC.region ?_ | refine JC.block ?_ | refine JC.skip ?_ | refine JC.exit ?_ | refine JL.nil ?_ | refine JQ.nil ?_ | refine JQ.nil_tail ?_ | refine JE.next ?_ | refine JE.blk_normal ?_ | refine JE.then_exit ?_ | refine JE.blk_hit ?_ | refine JE.blk_miss rfl ?_ | refine JE.then_ret ?_ | refine JE.blk_ret ?_ | refine JC.label ?_ | refine JL.gon rfl rfl ?_ | refine JQ.gon rfl rfl ?_ | refine JL.gskip rfl rfl rfl rfl ?_ | refine JQ.gskip rfl rfl rfl rfl ?_)
            refine JQ.q (OQ.pure (v := .agg ((R1.l ++ R2.l ++ R3.l ++ R4.l).map U64).toArray) rfl rfl (by kernel_rfl)) rfl ?_
            repeat (first | refine JL.q (by first | (apply OQ.move; exact rfl) | (apply OQ.assign; exact rfl) | (apply OQ.add64; exact rfl; exact rfl) | (apply OQ.addN; exact rfl; exact rfl; exact (by (try simp only []); omega)) | (apply OQ.subN; exact rfl; exact rfl; exact (by (try simp only []); omega); exact (by (try simp only []); omega)) | (apply OQ.remN; exact rfl; exact rfl; exact (by (try simp only []); omega)) | (apply OQ.quoN; exact rfl; exact rfl; exact (by (try simp only []); omega); exact (by (try simp only []); omega)) | (apply OQ.lssN; exact rfl; exact rfl) | (apply OQ.idxA0; exact rfl; exact rfl; exact rfl; exact rfl; exact (by (try simp only []); omega)) | (apply OQ.fld; exact rfl; exact rfl; exact rfl; exact (by decide); exact rfl)) rfl ?_ | refine JQ.q (by first | (apply OQ.move; exact rfl) | (apply OQ.assign; exact rfl) | (apply OQ.add64; exact rfl; exact rfl) | (apply OQ.addN; exact rfl; exact rfl; exact (by (try simp only []); omega)) | (apply OQ.subN; exact rfl; exact rfl; exact (by (try simp only []); omega); exact (by (try simp only []); omega)) | (apply OQ.remN; exact rfl; exact rfl; exact (by (try simp only []); omega)) | (apply OQ.quoN; exact rfl; exact rfl; exact (by (try simp only []); omega); exact (by (try simp only []); omega)) | (apply OQ.lssN; exact rfl; exact rfl) | (apply OQ.idxA0; exact rfl; exact rfl; exact rfl; exact rfl; exact (by (try simp only []); omega)) | (apply OQ.fld; exact rfl; exact rfl; exact rfl; exact (by decide); exact rfl)) rfl ?_ | refine JC.seq ?_ | refine JC.region ?_ | refine JC.block ?_ | refine JC.skip ?_ | refine JC.exit ?_ | refine JL.nil ?_ | refine JQ.nil ?_ | refine JQ.nil_tail ?_ | refine JE.next ?_ | refine JE.blk_normal ?_ | refine JE.then_exit ?_ | refine JE.blk_hit ?_ | refine JE.blk_miss rfl ?_ | refine JE.then_ret ?_ | refine JE.blk_ret ?_ | refine JC.label ?_ | refine JL.gon rfl rfl ?_ | refine JQ.gon rfl rfl ?_ | refine JL.gskip rfl rfl rfl rfl ?_ | refine JQ.gskip rfl rfl rfl rfl ?_)
            refine JL.store_all (cs := (R1.l ++ R2.l ++ R3.l ++ R4.l).map U64) l20s rfl rfl rfl (W_cell _) (by repeat (first | exact Upd.here | apply Upd.there)) rfl ?_
            repeat (first | refine JL.q (by first | (apply OQ.move; exact rfl) | (apply OQ.assign; exact rfl) | (apply OQ.add64; exact rfl; exact rfl) | (apply OQ.addN; exact rfl; exact rfl; exact (by (try simp only []); omega)) | (apply OQ.subN; exact rfl; exact rfl; exact (by (try simp only []); omega); exact (by (try simp only []); omega)) | (apply OQ.remN; exact rfl; exact rfl; exact (by (try simp only []); omega)) | (apply OQ.quoN; exact rfl; exact rfl; exact (by (try simp only []); omega); exact (by (try simp only []); omega)) | (apply OQ.lssN; exact rfl; exact rfl) | (apply OQ.idxA0; exact rfl; exact rfl; exact rfl; exact rfl; exact (by (try simp only []); omega)) | (apply OQ.fld; exact rfl; exact rfl; exact rfl; exact (by decide); exact rfl)) rfl ?_ | refine JQ.q (by first | (apply OQ.move; exact rfl) | (apply OQ.assign; exact rfl) | (apply OQ.add64; exact rfl; exact rfl) | (apply OQ.addN; exact rfl; exact rfl; exact (by (try simp only []); omega)) | (apply OQ.subN; exact rfl; exact rfl; exact (by (try simp only []); omega); exact (by (try simp only []); omega)) | (apply OQ.remN; exact rfl; exact rfl; exact (by (try simp only []); omega)) | (apply OQ.quoN; exact rfl; exact rfl; exact (by (try simp only []); omega); exact (by (try simp only []); omega)) | (apply OQ.lssN; exact rfl; exact rfl) | (apply OQ.idxA0; exact rfl; exact rfl; exact rfl; exact rfl; exact (by (try simp only []); omega)) | (apply OQ.fld; exact rfl; exact rfl; exact rfl; exact (by decide); exact rfl)) rfl ?_ | refine JC.seq ?_ | refine JC.region ?_ | refine JC.block ?_ | refine JC.skip ?_ | refine JC.exit ?_ | refine JL.nil ?_ | refine JQ.nil ?_ | refine JQ.nil_tail ?_ | refine JE.next ?_ | refine JE.blk_normal ?_ | refine JE.then_exit ?_ | refine JE.blk_hit ?_ | refine JE.blk_miss rfl ?_ | refine JE.then_ret ?_ | refine JE.blk_ret ?_ | refine JC.label ?_ | refine JL.gon rfl rfl ?_ | refine JQ.gon rfl rfl ?_ | refine JL.gskip rfl rfl rfl rfl ?_ | refine JQ.gskip rfl rfl rfl rfl ?_)
            refine JC.ret (JE.ret1 rfl (RV.cell_agg l20a l20s rfl (by repeat (first | exact Has.here | apply Has.there)) rfl Row.all) ?_)
            exact fun w' hw => ⟨rfl, hw.chg⟩
end Go.Proofs.Ytmbabkigjckaaaa
