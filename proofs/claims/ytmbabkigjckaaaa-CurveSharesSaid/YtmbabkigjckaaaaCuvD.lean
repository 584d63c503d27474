/-
  Of no statement by itself: what the code's inverse gives.
  Conditions: each theorem's own.
-/
import Derived.Test.YtmbabkigjckaaaaCuvC
namespace Go.Proofs.Ytmbabkigjckaaaa
open Sl Crv
set_option maxHeartbeats 64000000 in
set_option maxRecDepth 4000 in
theorem inverse_any (n : N5) (w : World) : Calls Try.prog 18 [.agg (n.l.map U64).toArray].toArray w fun e w' => e = .returned (.agg ((invB n).l.map U64).toArray) ∧ Ext w w' := by
  have c_two := squared_any n 1 (by decide)
  generalize h_two : sqB n 1 = two at c_two
  have c_q2 := squared_any two 2 (by decide)
  generalize h_q2 : sqB two 2 = q2 at c_q2
  have c_nine := product_any q2 n
  generalize h_nine : prdB q2 n = nine at c_nine
  have c_elv := product_any nine two
  generalize h_elv : prdB nine two = elv at c_elv
  have c_q4 := squared_any elv 1 (by decide)
  generalize h_q4 : sqB elv 1 = q4 at c_q4
  have c_o5 := product_any q4 nine
  generalize h_o5 : prdB q4 nine = o5 at c_o5
  have c_q5 := squared_any o5 5 (by decide)
  generalize h_q5 : sqB o5 5 = q5 at c_q5
  have c_o10 := product_any q5 o5
  generalize h_o10 : prdB q5 o5 = o10 at c_o10
  have c_q6 := squared_any o10 10 (by decide)
  generalize h_q6 : sqB o10 10 = q6 at c_q6
  have c_o20 := product_any q6 o10
  generalize h_o20 : prdB q6 o10 = o20 at c_o20
  have c_q7 := squared_any o20 20 (by decide)
  generalize h_q7 : sqB o20 20 = q7 at c_q7
  have c_o40 := product_any q7 o20
  generalize h_o40 : prdB q7 o20 = o40 at c_o40
  have c_q8 := squared_any o40 10 (by decide)
  generalize h_q8 : sqB o40 10 = q8 at c_q8
  have c_o50 := product_any q8 o10
  generalize h_o50 : prdB q8 o10 = o50 at c_o50
  have c_q9 := squared_any o50 50 (by decide)
  generalize h_q9 : sqB o50 50 = q9 at c_q9
  have c_o100 := product_any q9 o50
  generalize h_o100 : prdB q9 o50 = o100 at c_o100
  have c_q10 := squared_any o100 100 (by decide)
  generalize h_q10 : sqB o100 100 = q10 at c_q10
  have c_o200 := product_any q10 o100
  generalize h_o200 : prdB q10 o100 = o200 at c_o200
  have c_q11 := squared_any o200 50 (by decide)
  generalize h_q11 : sqB o200 50 = q11 at c_q11
  have c_o250 := product_any q11 o50
  generalize h_o250 : prdB q11 o50 = o250 at c_o250
  have c_q12 := squared_any o250 5 (by decide)
  generalize h_q12 : sqB o250 5 = q12 at c_q12
  have c_fin := product_any q12 elv
  generalize h_fin : prdB q12 elv = fin at c_fin
  have eI : invB n = fin := by
    subst h_fin h_q12 h_o250 h_q11 h_o200 h_q10 h_o100 h_q9 h_o50 h_q8 h_o40 h_q7 h_o20 h_q6 h_o10 h_q5 h_o5 h_q4 h_elv h_nine h_q2 h_two
    rfl
  rw [eI]
  clear eI h_two h_q2 h_nine h_elv h_q4 h_o5 h_q5 h_o10 h_q6 h_o20 h_q7 h_o40 h_q8 h_o50 h_q9 h_o100 h_q10 h_o200 h_q11 h_o250 h_q12 h_fin
  refine enter (n := 59) Try.func18 rfl rfl rfl (Holds.start w []) ?_
  repeat (first | refine JL.q (by first | (apply OQ.move; exact rfl) | (apply OQ.assign; exact rfl) | (apply OQ.add64; exact rfl; exact rfl) | (apply OQ.shr64; exact rfl; exact rfl) | (apply OQ.addN; exact rfl; exact rfl; exact (by (try simp only []); omega)) | (apply OQ.lssN; exact rfl; exact rfl) | (apply OQ.idxA0; exact rfl; exact rfl; exact rfl; exact rfl; exact (by (try simp only []); omega)) | (apply OQ.fld; exact rfl; exact rfl; exact rfl; exact (by decide); exact rfl)) rfl ?_ | refine JC.seq ?_ | refine JC.region ?_ | refine JC.block ?_ | refine JC.skip ?_ | refine JC.exit ?_ | refine JL.nil ?_ | refine JE.next ?_ | refine JE.blk_normal ?_ | refine JE.then_exit ?_ | refine JE.blk_hit ?_ | refine JE.blk_miss rfl ?_ | refine JE.then_ret ?_ | refine JE.blk_ret ?_ | refine JC.label ?_ | refine JL.gon rfl rfl ?_ | refine JL.gskip rfl rfl rfl rfl ?_)
  refine JL.box (r := n.l.map U64) rfl rfl rfl fun b1 _ => ?_
  refine JL.alloc n5z rfl fun b2 _ => ?_
  repeat (first | refine JL.q (by first | (apply OQ.load_agg (cs := n.l.map U64); exact n5a; exact n5s; exact rfl; exact (by repeat (first | exact Has.here | apply Has.there)); exact rfl; exact Row.all) | (apply OQ.callx (vs := [.agg (n.l.map U64).toArray, N 1]); exact goes_squared; exact rfl; exact (fun w' _ => c_two w')) | (apply OQ.move; exact rfl) | (apply OQ.assign; exact rfl) | (apply OQ.add64; exact rfl; exact rfl) | (apply OQ.shr64; exact rfl; exact rfl) | (apply OQ.addN; exact rfl; exact rfl; exact (by (try simp only []); omega)) | (apply OQ.lssN; exact rfl; exact rfl) | (apply OQ.idxA0; exact rfl; exact rfl; exact rfl; exact rfl; exact (by (try simp only []); omega)) | (apply OQ.fld; exact rfl; exact rfl; exact rfl; exact (by decide); exact rfl)) rfl ?_ | refine JC.seq ?_ | refine JC.region ?_ | refine JC.block ?_ | refine JC.skip ?_ | refine JC.exit ?_ | refine JL.nil ?_ | refine JE.next ?_ | refine JE.blk_normal ?_ | refine JE.then_exit ?_ | refine JE.blk_hit ?_ | refine JE.blk_miss rfl ?_ | refine JE.then_ret ?_ | refine JE.blk_ret ?_ | refine JC.label ?_ | refine JL.gon rfl rfl ?_ | refine JL.gskip rfl rfl rfl rfl ?_)
  refine JL.alloc n5z rfl fun b3 _ => ?_
  refine JL.store_all (cs := two.l.map U64) n5s rfl rfl rfl (W_cell _) .here rfl ?_
  repeat (first | refine JL.q (by first | (apply OQ.move; exact rfl) | (apply OQ.assign; exact rfl) | (apply OQ.add64; exact rfl; exact rfl) | (apply OQ.shr64; exact rfl; exact rfl) | (apply OQ.addN; exact rfl; exact rfl; exact (by (try simp only []); omega)) | (apply OQ.lssN; exact rfl; exact rfl) | (apply OQ.idxA0; exact rfl; exact rfl; exact rfl; exact rfl; exact (by (try simp only []); omega)) | (apply OQ.fld; exact rfl; exact rfl; exact rfl; exact (by decide); exact rfl)) rfl ?_ | refine JC.seq ?_ | refine JC.region ?_ | refine JC.block ?_ | refine JC.skip ?_ | refine JC.exit ?_ | refine JL.nil ?_ | refine JE.next ?_ | refine JE.blk_normal ?_ | refine JE.then_exit ?_ | refine JE.blk_hit ?_ | refine JE.blk_miss rfl ?_ | refine JE.then_ret ?_ | refine JE.blk_ret ?_ | refine JC.label ?_ | refine JL.gon rfl rfl ?_ | refine JL.gskip rfl rfl rfl rfl ?_)
  let vs : Nat → Nat → Value := fun j x => match j with
    | 0 => .agg (two.l.map U64).toArray
    | 1 => .agg (q2.l.map U64).toArray
    | 2 => .agg (n.l.map U64).toArray
    | 3 => .agg (nine.l.map U64).toArray
    | _ => Pt x 0
  let Ms : Nat → Nat → List Ent := fun j x => match j with
    | 4 => [⟨x, Row 35 (zeroN.l.map U64), true⟩]
    | 5 => [⟨x, Row 35 (nine.l.map U64), true⟩]
    | 6 => [⟨b3, Row 35 (two.l.map U64), true⟩]
    | 7 => [⟨b2, Row 35 (zeroN.l.map U64), true⟩]
    | 8 => [⟨b1, Row 35 (n.l.map U64), true⟩]
    | _ => []
  refine JC.grow (g := ⟨[(1, Pt b1 0), (2, Pt b2 0), (3, Pt b3 0)], 9, vs, Ms, (fun j => match j with | 1 => [(0, 16)] | 3 => [(1, 17), (2, 18)] | 5 => [(4, 4), (3, 19)] | _ => []), (fun j => match j with | 0 => [6] | 2 => [8] | 5 => [4] | _ => []), (fun j => match j with | 5 => [4] | _ => []), (fun j => match j with | 5 => some 4 | _ => none)⟩) [(4, 4)] [5, 6, 7, 8] mixC (by repeat (first | exact SubE.nil | refine SubE.cons _ _ _ rfl ?_)) (Less.refl _) (by kernel_rfl) (by kernel_rfl) (by kernel_rfl) ?_ ?_
  · refine ⟨?_, ?_, ?_, ?_, ?_, ?_, trivial⟩
    · (intro x EF MF Q kk; exact JL.q (OQ.load_agg (cs := two.l.map U64) n5a n5s rfl .here rfl Row.all) rfl (JL.nil (kk default nofun)))
    · (intro x EF MF Q kk; exact JL.q (OQ.callx (vs := [.agg (two.l.map U64).toArray, N 2]) goes_squared rfl fun w' _ => c_q2 w') rfl (JL.nil (kk default nofun)))
    · (intro x EF MF Q kk; exact JL.q (OQ.load_agg (cs := n.l.map U64) n5a n5s rfl .here rfl Row.all) rfl (JL.nil (kk default nofun)))
    · (intro x EF MF Q kk; exact JL.q (OQ.callx (vs := [.agg (q2.l.map U64).toArray, .agg (n.l.map U64).toArray]) goes_product rfl fun w' _ => c_nine w') rfl (JL.nil (kk default nofun)))
    · (intro x EF MF Q kk; exact JL.alloc n5z rfl fun b _ => JL.nil (kk b nofun))
    · (intro x EF MF Q kk; exact JL.store_all (cs := nine.l.map U64) n5s rfl rfl rfl (W_cell _) .here rfl (JL.nil (kk (x 4) (fun k h => by cases h; rfl))))
  · intro x hx
    have h5 := hx 5 4 (by decide) rfl
    show JE _ _ _ _ _ [(4, Pt (x 4) 0), (1, Pt b1 0), (2, Pt b2 0), (3, Pt b3 0)] [⟨(x 5), Row 35 (nine.l.map U64), true⟩, ⟨b3, Row 35 (two.l.map U64), true⟩, ⟨b2, Row 35 (zeroN.l.map U64), true⟩, ⟨b1, Row 35 (n.l.map U64), true⟩]
    rw [h5]
    generalize x 4 = b4
    clear hx h5 x vs Ms
    repeat (first | refine JL.q (by first | (apply OQ.move; exact rfl) | (apply OQ.assign; exact rfl) | (apply OQ.add64; exact rfl; exact rfl) | (apply OQ.shr64; exact rfl; exact rfl) | (apply OQ.addN; exact rfl; exact rfl; exact (by (try simp only []); omega)) | (apply OQ.lssN; exact rfl; exact rfl) | (apply OQ.idxA0; exact rfl; exact rfl; exact rfl; exact rfl; exact (by (try simp only []); omega)) | (apply OQ.fld; exact rfl; exact rfl; exact rfl; exact (by decide); exact rfl)) rfl ?_ | refine JC.seq ?_ | refine JC.region ?_ | refine JC.block ?_ | refine JC.skip ?_ | refine JC.exit ?_ | refine JL.nil ?_ | refine JE.next ?_ | refine JE.blk_normal ?_ | refine JE.then_exit ?_ | refine JE.blk_hit ?_ | refine JE.blk_miss rfl ?_ | refine JE.then_ret ?_ | refine JE.blk_ret ?_ | refine JC.label ?_ | refine JL.gon rfl rfl ?_ | refine JL.gskip rfl rfl rfl rfl ?_)
    repeat (first | refine JL.q (by first | (apply OQ.load_agg (cs := nine.l.map U64); exact n5a; exact n5s; exact rfl; exact (by repeat (first | exact Has.here | apply Has.there)); exact rfl; exact Row.all) | (apply OQ.load_agg (cs := two.l.map U64); exact n5a; exact n5s; exact rfl; exact (by repeat (first | exact Has.here | apply Has.there)); exact rfl; exact Row.all) | (apply OQ.callx (vs := [.agg (nine.l.map U64).toArray, .agg (two.l.map U64).toArray]); exact goes_product; exact rfl; exact (fun w' _ => c_elv w')) | (apply OQ.move; exact rfl) | (apply OQ.assign; exact rfl) | (apply OQ.add64; exact rfl; exact rfl) | (apply OQ.shr64; exact rfl; exact rfl) | (apply OQ.addN; exact rfl; exact rfl; exact (by (try simp only []); omega)) | (apply OQ.lssN; exact rfl; exact rfl) | (apply OQ.idxA0; exact rfl; exact rfl; exact rfl; exact rfl; exact (by (try simp only []); omega)) | (apply OQ.fld; exact rfl; exact rfl; exact rfl; exact (by decide); exact rfl)) rfl ?_ | refine JC.seq ?_ | refine JC.region ?_ | refine JC.block ?_ | refine JC.skip ?_ | refine JC.exit ?_ | refine JL.nil ?_ | refine JE.next ?_ | refine JE.blk_normal ?_ | refine JE.then_exit ?_ | refine JE.blk_hit ?_ | refine JE.blk_miss rfl ?_ | refine JE.then_ret ?_ | refine JE.blk_ret ?_ | refine JC.label ?_ | refine JL.gon rfl rfl ?_ | refine JL.gskip rfl rfl rfl rfl ?_)
    refine JL.alloc n5z rfl fun b5 _ => ?_
    refine JL.store_all (cs := elv.l.map U64) n5s rfl rfl rfl (W_cell _) .here rfl ?_
    repeat (first | refine JL.q (by first | (apply OQ.move; exact rfl) | (apply OQ.assign; exact rfl) | (apply OQ.add64; exact rfl; exact rfl) | (apply OQ.shr64; exact rfl; exact rfl) | (apply OQ.addN; exact rfl; exact rfl; exact (by (try simp only []); omega)) | (apply OQ.lssN; exact rfl; exact rfl) | (apply OQ.idxA0; exact rfl; exact rfl; exact rfl; exact rfl; exact (by (try simp only []); omega)) | (apply OQ.fld; exact rfl; exact rfl; exact rfl; exact (by decide); exact rfl)) rfl ?_ | refine JC.seq ?_ | refine JC.region ?_ | refine JC.block ?_ | refine JC.skip ?_ | refine JC.exit ?_ | refine JL.nil ?_ | refine JE.next ?_ | refine JE.blk_normal ?_ | refine JE.then_exit ?_ | refine JE.blk_hit ?_ | refine JE.blk_miss rfl ?_ | refine JE.then_ret ?_ | refine JE.blk_ret ?_ | refine JC.label ?_ | refine JL.gon rfl rfl ?_ | refine JL.gskip rfl rfl rfl rfl ?_)
    let vs : Nat → Nat → Value := fun j x => match j with
      | 0 => .agg (elv.l.map U64).toArray
      | 1 => .agg (q4.l.map U64).toArray
      | 2 => .agg (nine.l.map U64).toArray
      | 3 => .agg (o5.l.map U64).toArray
      | _ => Pt x 0
    let Ms : Nat → Nat → List Ent := fun j x => match j with
      | 4 => [⟨x, Row 35 (zeroN.l.map U64), true⟩]
      | 5 => [⟨x, Row 35 (o5.l.map U64), true⟩]
      | 6 => [⟨b5, Row 35 (elv.l.map U64), true⟩]
      | 7 => [⟨b4, Row 35 (nine.l.map U64), true⟩]
      | 8 => [⟨b3, Row 35 (two.l.map U64), true⟩]
      | 9 => [⟨b2, Row 35 (zeroN.l.map U64), true⟩]
      | 10 => [⟨b1, Row 35 (n.l.map U64), true⟩]
      | _ => []
    refine JC.grow (g := ⟨[(5, Pt b5 0), (4, Pt b4 0), (1, Pt b1 0), (2, Pt b2 0), (3, Pt b3 0)], 11, vs, Ms, (fun j => match j with | 1 => [(0, 23)] | 3 => [(1, 24), (2, 25)] | 5 => [(4, 6), (3, 26)] | _ => []), (fun j => match j with | 0 => [6] | 2 => [7] | 5 => [4] | _ => []), (fun j => match j with | 5 => [4] | _ => []), (fun j => match j with | 5 => some 4 | _ => none)⟩) [(4, 6)] [5, 6, 7, 8, 9, 10] mixC (by repeat (first | exact SubE.nil | refine SubE.cons _ _ _ rfl ?_)) (Less.refl _) (by kernel_rfl) (by kernel_rfl) (by kernel_rfl) ?_ ?_
    · refine ⟨?_, ?_, ?_, ?_, ?_, ?_, trivial⟩
      · (intro x EF MF Q kk; exact JL.q (OQ.load_agg (cs := elv.l.map U64) n5a n5s rfl .here rfl Row.all) rfl (JL.nil (kk default nofun)))
      · (intro x EF MF Q kk; exact JL.q (OQ.callx (vs := [.agg (elv.l.map U64).toArray, N 1]) goes_squared rfl fun w' _ => c_q4 w') rfl (JL.nil (kk default nofun)))
      · (intro x EF MF Q kk; exact JL.q (OQ.load_agg (cs := nine.l.map U64) n5a n5s rfl .here rfl Row.all) rfl (JL.nil (kk default nofun)))
      · (intro x EF MF Q kk; exact JL.q (OQ.callx (vs := [.agg (q4.l.map U64).toArray, .agg (nine.l.map U64).toArray]) goes_product rfl fun w' _ => c_o5 w') rfl (JL.nil (kk default nofun)))
      · (intro x EF MF Q kk; exact JL.alloc n5z rfl fun b _ => JL.nil (kk b nofun))
      · (intro x EF MF Q kk; exact JL.store_all (cs := o5.l.map U64) n5s rfl rfl rfl (W_cell _) .here rfl (JL.nil (kk (x 4) (fun k h => by cases h; rfl))))
    · intro x hx
      have h5 := hx 5 4 (by decide) rfl
      show JE _ _ _ _ _ [(6, Pt (x 4) 0), (5, Pt b5 0), (4, Pt b4 0), (1, Pt b1 0), (2, Pt b2 0), (3, Pt b3 0)] [⟨(x 5), Row 35 (o5.l.map U64), true⟩, ⟨b5, Row 35 (elv.l.map U64), true⟩, ⟨b4, Row 35 (nine.l.map U64), true⟩, ⟨b3, Row 35 (two.l.map U64), true⟩, ⟨b2, Row 35 (zeroN.l.map U64), true⟩, ⟨b1, Row 35 (n.l.map U64), true⟩]
      rw [h5]
      generalize x 4 = b6
      clear hx h5 x vs Ms
      repeat (first | refine JL.q (by first | (apply OQ.move; exact rfl) | (apply OQ.assign; exact rfl) | (apply OQ.add64; exact rfl; exact rfl) | (apply OQ.shr64; exact rfl; exact rfl) | (apply OQ.addN; exact rfl; exact rfl; exact (by (try simp only []); omega)) | (apply OQ.lssN; exact rfl; exact rfl) | (apply OQ.idxA0; exact rfl; exact rfl; exact rfl; exact rfl; exact (by (try simp only []); omega)) | (apply OQ.fld; exact rfl; exact rfl; exact rfl; exact (by decide); exact rfl)) rfl ?_ | refine JC.seq ?_ | refine JC.region ?_ | refine JC.block ?_ | refine JC.skip ?_ | refine JC.exit ?_ | refine JL.nil ?_ | refine JE.next ?_ | refine JE.blk_normal ?_ | refine JE.then_exit ?_ | refine JE.blk_hit ?_ | refine JE.blk_miss rfl ?_ | refine JE.then_ret ?_ | refine JE.blk_ret ?_ | refine JC.label ?_ | refine JL.gon rfl rfl ?_ | refine JL.gskip rfl rfl rfl rfl ?_)
      let vs : Nat → Nat → Value := fun j x => match j with
        | 0 => .agg (o5.l.map U64).toArray
        | 1 => .agg (q5.l.map U64).toArray
        | 2 => .agg (o5.l.map U64).toArray
        | 3 => .agg (o10.l.map U64).toArray
        | _ => Pt x 0
      let Ms : Nat → Nat → List Ent := fun j x => match j with
        | 4 => [⟨x, Row 35 (zeroN.l.map U64), true⟩]
        | 5 => [⟨x, Row 35 (o10.l.map U64), true⟩]
        | 6 => [⟨b6, Row 35 (o5.l.map U64), true⟩]
        | 7 => [⟨b5, Row 35 (elv.l.map U64), true⟩]
        | 8 => [⟨b4, Row 35 (nine.l.map U64), true⟩]
        | 9 => [⟨b3, Row 35 (two.l.map U64), true⟩]
        | 10 => [⟨b2, Row 35 (zeroN.l.map U64), true⟩]
        | 11 => [⟨b1, Row 35 (n.l.map U64), true⟩]
        | _ => []
      refine JC.grow (g := ⟨[(6, Pt b6 0), (5, Pt b5 0), (4, Pt b4 0), (1, Pt b1 0), (2, Pt b2 0), (3, Pt b3 0)], 12, vs, Ms, (fun j => match j with | 1 => [(0, 27)] | 3 => [(1, 28), (2, 29)] | 5 => [(4, 7), (3, 30)] | _ => []), (fun j => match j with | 0 => [6] | 2 => [6] | 5 => [4] | _ => []), (fun j => match j with | 5 => [4] | _ => []), (fun j => match j with | 5 => some 4 | _ => none)⟩) [(4, 7)] [5, 6, 7, 8, 9, 10, 11] mixC (by repeat (first | exact SubE.nil | refine SubE.cons _ _ _ rfl ?_)) (Less.refl _) (by kernel_rfl) (by kernel_rfl) (by kernel_rfl) ?_ ?_
      · refine ⟨?_, ?_, ?_, ?_, ?_, ?_, trivial⟩
        · (intro x EF MF Q kk; exact JL.q (OQ.load_agg (cs := o5.l.map U64) n5a n5s rfl .here rfl Row.all) rfl (JL.nil (kk default nofun)))
        · (intro x EF MF Q kk; exact JL.q (OQ.callx (vs := [.agg (o5.l.map U64).toArray, N 5]) goes_squared rfl fun w' _ => c_q5 w') rfl (JL.nil (kk default nofun)))
        · (intro x EF MF Q kk; exact JL.q (OQ.load_agg (cs := o5.l.map U64) n5a n5s rfl .here rfl Row.all) rfl (JL.nil (kk default nofun)))
        · (intro x EF MF Q kk; exact JL.q (OQ.callx (vs := [.agg (q5.l.map U64).toArray, .agg (o5.l.map U64).toArray]) goes_product rfl fun w' _ => c_o10 w') rfl (JL.nil (kk default nofun)))
        · (intro x EF MF Q kk; exact JL.alloc n5z rfl fun b _ => JL.nil (kk b nofun))
        · (intro x EF MF Q kk; exact JL.store_all (cs := o10.l.map U64) n5s rfl rfl rfl (W_cell _) .here rfl (JL.nil (kk (x 4) (fun k h => by cases h; rfl))))
      · intro x hx
        have h5 := hx 5 4 (by decide) rfl
        show JE _ _ _ _ _ [(7, Pt (x 4) 0), (6, Pt b6 0), (5, Pt b5 0), (4, Pt b4 0), (1, Pt b1 0), (2, Pt b2 0), (3, Pt b3 0)] [⟨(x 5), Row 35 (o10.l.map U64), true⟩, ⟨b6, Row 35 (o5.l.map U64), true⟩, ⟨b5, Row 35 (elv.l.map U64), true⟩, ⟨b4, Row 35 (nine.l.map U64), true⟩, ⟨b3, Row 35 (two.l.map U64), true⟩, ⟨b2, Row 35 (zeroN.l.map U64), true⟩, ⟨b1, Row 35 (n.l.map U64), true⟩]
        rw [h5]
        generalize x 4 = b7
        clear hx h5 x vs Ms
        repeat (first | refine JL.q (by first | (apply OQ.move; exact rfl) | (apply OQ.assign; exact rfl) | (apply OQ.add64; exact rfl; exact rfl) | (apply OQ.shr64; exact rfl; exact rfl) | (apply OQ.addN; exact rfl; exact rfl; exact (by (try simp only []); omega)) | (apply OQ.lssN; exact rfl; exact rfl) | (apply OQ.idxA0; exact rfl; exact rfl; exact rfl; exact rfl; exact (by (try simp only []); omega)) | (apply OQ.fld; exact rfl; exact rfl; exact rfl; exact (by decide); exact rfl)) rfl ?_ | refine JC.seq ?_ | refine JC.region ?_ | refine JC.block ?_ | refine JC.skip ?_ | refine JC.exit ?_ | refine JL.nil ?_ | refine JE.next ?_ | refine JE.blk_normal ?_ | refine JE.then_exit ?_ | refine JE.blk_hit ?_ | refine JE.blk_miss rfl ?_ | refine JE.then_ret ?_ | refine JE.blk_ret ?_ | refine JC.label ?_ | refine JL.gon rfl rfl ?_ | refine JL.gskip rfl rfl rfl rfl ?_)
        let vs : Nat → Nat → Value := fun j x => match j with
          | 0 => .agg (o10.l.map U64).toArray
          | 1 => .agg (q6.l.map U64).toArray
          | 2 => .agg (o10.l.map U64).toArray
          | 3 => .agg (o20.l.map U64).toArray
          | _ => Pt x 0
        let Ms : Nat → Nat → List Ent := fun j x => match j with
          | 4 => [⟨x, Row 35 (zeroN.l.map U64), true⟩]
          | 5 => [⟨x, Row 35 (o20.l.map U64), true⟩]
          | 6 => [⟨b7, Row 35 (o10.l.map U64), true⟩]
          | 7 => [⟨b6, Row 35 (o5.l.map U64), true⟩]
          | 8 => [⟨b5, Row 35 (elv.l.map U64), true⟩]
          | 9 => [⟨b4, Row 35 (nine.l.map U64), true⟩]
          | 10 => [⟨b3, Row 35 (two.l.map U64), true⟩]
          | 11 => [⟨b2, Row 35 (zeroN.l.map U64), true⟩]
          | 12 => [⟨b1, Row 35 (n.l.map U64), true⟩]
          | _ => []
        refine JC.grow (g := ⟨[(7, Pt b7 0), (6, Pt b6 0), (5, Pt b5 0), (4, Pt b4 0), (1, Pt b1 0), (2, Pt b2 0), (3, Pt b3 0)], 13, vs, Ms, (fun j => match j with | 1 => [(0, 31)] | 3 => [(1, 32), (2, 33)] | 5 => [(4, 8), (3, 34)] | _ => []), (fun j => match j with | 0 => [6] | 2 => [6] | 5 => [4] | _ => []), (fun j => match j with | 5 => [4] | _ => []), (fun j => match j with | 5 => some 4 | _ => none)⟩) [(4, 8)] [5, 6, 7, 8, 9, 10, 11, 12] mixC (by repeat (first | exact SubE.nil | refine SubE.cons _ _ _ rfl ?_)) (Less.refl _) (by kernel_rfl) (by kernel_rfl) (by kernel_rfl) ?_ ?_
        · refine ⟨?_, ?_, ?_, ?_, ?_, ?_, trivial⟩
          · (intro x EF MF Q kk; exact JL.q (OQ.load_agg (cs := o10.l.map U64) n5a n5s rfl .here rfl Row.all) rfl (JL.nil (kk default nofun)))
          · (intro x EF MF Q kk; exact JL.q (OQ.callx (vs := [.agg (o10.l.map U64).toArray, N 10]) goes_squared rfl fun w' _ => c_q6 w') rfl (JL.nil (kk default nofun)))
          · (intro x EF MF Q kk; exact JL.q (OQ.load_agg (cs := o10.l.map U64) n5a n5s rfl .here rfl Row.all) rfl (JL.nil (kk default nofun)))
          · (intro x EF MF Q kk; exact JL.q (OQ.callx (vs := [.agg (q6.l.map U64).toArray, .agg (o10.l.map U64).toArray]) goes_product rfl fun w' _ => c_o20 w') rfl (JL.nil (kk default nofun)))
          · (intro x EF MF Q kk; exact JL.alloc n5z rfl fun b _ => JL.nil (kk b nofun))
          · (intro x EF MF Q kk; exact JL.store_all (cs := o20.l.map U64) n5s rfl rfl rfl (W_cell _) .here rfl (JL.nil (kk (x 4) (fun k h => by cases h; rfl))))
        · intro x hx
          have h5 := hx 5 4 (by decide) rfl
          show JE _ _ _ _ _ [(8, Pt (x 4) 0), (7, Pt b7 0), (6, Pt b6 0), (5, Pt b5 0), (4, Pt b4 0), (1, Pt b1 0), (2, Pt b2 0), (3, Pt b3 0)] [⟨(x 5), Row 35 (o20.l.map U64), true⟩, ⟨b7, Row 35 (o10.l.map U64), true⟩, ⟨b6, Row 35 (o5.l.map U64), true⟩, ⟨b5, Row 35 (elv.l.map U64), true⟩, ⟨b4, Row 35 (nine.l.map U64), true⟩, ⟨b3, Row 35 (two.l.map U64), true⟩, ⟨b2, Row 35 (zeroN.l.map U64), true⟩, ⟨b1, Row 35 (n.l.map U64), true⟩]
          rw [h5]
          generalize x 4 = b8
          clear hx h5 x vs Ms
          repeat (first | refine JL.q (by first | (apply OQ.move; exact rfl) | (apply OQ.assign; exact rfl) | (apply OQ.add64; exact rfl; exact rfl) | (apply OQ.shr64; exact rfl; exact rfl) | (apply OQ.addN; exact rfl; exact rfl; exact (by (try simp only []); omega)) | (apply OQ.lssN; exact rfl; exact rfl) | (apply OQ.idxA0; exact rfl; exact rfl; exact rfl; exact rfl; exact (by (try simp only []); omega)) | (apply OQ.fld; exact rfl; exact rfl; exact rfl; exact (by decide); exact rfl)) rfl ?_ | refine JC.seq ?_ | refine JC.region ?_ | refine JC.block ?_ | refine JC.skip ?_ | refine JC.exit ?_ | refine JL.nil ?_ | refine JE.next ?_ | refine JE.blk_normal ?_ | refine JE.then_exit ?_ | refine JE.blk_hit ?_ | refine JE.blk_miss rfl ?_ | refine JE.then_ret ?_ | refine JE.blk_ret ?_ | refine JC.label ?_ | refine JL.gon rfl rfl ?_ | refine JL.gskip rfl rfl rfl rfl ?_)
          let vs : Nat → Nat → Value := fun j x => match j with
            | 0 => .agg (o20.l.map U64).toArray
            | 1 => .agg (q7.l.map U64).toArray
            | 2 => .agg (o20.l.map U64).toArray
            | 3 => .agg (o40.l.map U64).toArray
            | _ => Pt x 0
          let Ms : Nat → Nat → List Ent := fun j x => match j with
            | 4 => [⟨x, Row 35 (zeroN.l.map U64), true⟩]
            | 5 => [⟨x, Row 35 (o40.l.map U64), true⟩]
            | 6 => [⟨b8, Row 35 (o20.l.map U64), true⟩]
            | 7 => [⟨b7, Row 35 (o10.l.map U64), true⟩]
            | 8 => [⟨b6, Row 35 (o5.l.map U64), true⟩]
            | 9 => [⟨b5, Row 35 (elv.l.map U64), true⟩]
            | 10 => [⟨b4, Row 35 (nine.l.map U64), true⟩]
            | 11 => [⟨b3, Row 35 (two.l.map U64), true⟩]
            | 12 => [⟨b2, Row 35 (zeroN.l.map U64), true⟩]
            | 13 => [⟨b1, Row 35 (n.l.map U64), true⟩]
            | _ => []
          refine JC.grow (g := ⟨[(8, Pt b8 0), (7, Pt b7 0), (6, Pt b6 0), (5, Pt b5 0), (4, Pt b4 0), (1, Pt b1 0), (2, Pt b2 0), (3, Pt b3 0)], 14, vs, Ms, (fun j => match j with | 1 => [(0, 35)] | 3 => [(1, 36), (2, 37)] | 5 => [(4, 9), (3, 38)] | _ => []), (fun j => match j with | 0 => [6] | 2 => [6] | 5 => [4] | _ => []), (fun j => match j with | 5 => [4] | _ => []), (fun j => match j with | 5 => some 4 | _ => none)⟩) [(4, 9)] [5, 6, 7, 8, 9, 10, 11, 12, 13] mixC (by repeat (first | exact SubE.nil | refine SubE.cons _ _ _ rfl ?_)) (Less.refl _) (by kernel_rfl) (by kernel_rfl) (by kernel_rfl) ?_ ?_
          · refine ⟨?_, ?_, ?_, ?_, ?_, ?_, trivial⟩
            · (intro x EF MF Q kk; exact JL.q (OQ.load_agg (cs := o20.l.map U64) n5a n5s rfl .here rfl Row.all) rfl (JL.nil (kk default nofun)))
            · (intro x EF MF Q kk; exact JL.q (OQ.callx (vs := [.agg (o20.l.map U64).toArray, N 20]) goes_squared rfl fun w' _ => c_q7 w') rfl (JL.nil (kk default nofun)))
            · (intro x EF MF Q kk; exact JL.q (OQ.load_agg (cs := o20.l.map U64) n5a n5s rfl .here rfl Row.all) rfl (JL.nil (kk default nofun)))
            · (intro x EF MF Q kk; exact JL.q (OQ.callx (vs := [.agg (q7.l.map U64).toArray, .agg (o20.l.map U64).toArray]) goes_product rfl fun w' _ => c_o40 w') rfl (JL.nil (kk default nofun)))
            · (intro x EF MF Q kk; exact JL.alloc n5z rfl fun b _ => JL.nil (kk b nofun))
            · (intro x EF MF Q kk; exact JL.store_all (cs := o40.l.map U64) n5s rfl rfl rfl (W_cell _) .here rfl (JL.nil (kk (x 4) (fun k h => by cases h; rfl))))
          · intro x hx
            have h5 := hx 5 4 (by decide) rfl
            show JE _ _ _ _ _ [(9, Pt (x 4) 0), (8, Pt b8 0), (7, Pt b7 0), (6, Pt b6 0), (5, Pt b5 0), (4, Pt b4 0), (1, Pt b1 0), (2, Pt b2 0), (3, Pt b3 0)] [⟨(x 5), Row 35 (o40.l.map U64), true⟩, ⟨b8, Row 35 (o20.l.map U64), true⟩, ⟨b7, Row 35 (o10.l.map U64), true⟩, ⟨b6, Row 35 (o5.l.map U64), true⟩, ⟨b5, Row 35 (elv.l.map U64), true⟩, ⟨b4, Row 35 (nine.l.map U64), true⟩, ⟨b3, Row 35 (two.l.map U64), true⟩, ⟨b2, Row 35 (zeroN.l.map U64), true⟩, ⟨b1, Row 35 (n.l.map U64), true⟩]
            rw [h5]
            generalize x 4 = b9
            clear hx h5 x vs Ms
            repeat (first | refine JL.q (by first | (apply OQ.move; exact rfl) | (apply OQ.assign; exact rfl) | (apply OQ.add64; exact rfl; exact rfl) | (apply OQ.shr64; exact rfl; exact rfl) | (apply OQ.addN; exact rfl; exact rfl; exact (by (try simp only []); omega)) | (apply OQ.lssN; exact rfl; exact rfl) | (apply OQ.idxA0; exact rfl; exact rfl; exact rfl; exact rfl; exact (by (try simp only []); omega)) | (apply OQ.fld; exact rfl; exact rfl; exact rfl; exact (by decide); exact rfl)) rfl ?_ | refine JC.seq ?_ | refine JC.region ?_ | refine JC.block ?_ | refine JC.skip ?_ | refine JC.exit ?_ | refine JL.nil ?_ | refine JE.next ?_ | refine JE.blk_normal ?_ | refine JE.then_exit ?_ | refine JE.blk_hit ?_ | refine JE.blk_miss rfl ?_ | refine JE.then_ret ?_ | refine JE.blk_ret ?_ | refine JC.label ?_ | refine JL.gon rfl rfl ?_ | refine JL.gskip rfl rfl rfl rfl ?_)
            let vs : Nat → Nat → Value := fun j x => match j with
              | 0 => .agg (o40.l.map U64).toArray
              | 1 => .agg (q8.l.map U64).toArray
              | 2 => .agg (o10.l.map U64).toArray
              | 3 => .agg (o50.l.map U64).toArray
              | _ => Pt x 0
            let Ms : Nat → Nat → List Ent := fun j x => match j with
              | 4 => [⟨x, Row 35 (zeroN.l.map U64), true⟩]
              | 5 => [⟨x, Row 35 (o50.l.map U64), true⟩]
              | 6 => [⟨b9, Row 35 (o40.l.map U64), true⟩]
              | 7 => [⟨b8, Row 35 (o20.l.map U64), true⟩]
              | 8 => [⟨b7, Row 35 (o10.l.map U64), true⟩]
              | 9 => [⟨b6, Row 35 (o5.l.map U64), true⟩]
              | 10 => [⟨b5, Row 35 (elv.l.map U64), true⟩]
              | 11 => [⟨b4, Row 35 (nine.l.map U64), true⟩]
              | 12 => [⟨b3, Row 35 (two.l.map U64), true⟩]
              | 13 => [⟨b2, Row 35 (zeroN.l.map U64), true⟩]
              | 14 => [⟨b1, Row 35 (n.l.map U64), true⟩]
              | _ => []
            refine JC.grow (g := ⟨[(9, Pt b9 0), (8, Pt b8 0), (7, Pt b7 0), (6, Pt b6 0), (5, Pt b5 0), (4, Pt b4 0), (1, Pt b1 0), (2, Pt b2 0), (3, Pt b3 0)], 15, vs, Ms, (fun j => match j with | 1 => [(0, 39)] | 3 => [(1, 40), (2, 41)] | 5 => [(4, 10), (3, 42)] | _ => []), (fun j => match j with | 0 => [6] | 2 => [8] | 5 => [4] | _ => []), (fun j => match j with | 5 => [4] | _ => []), (fun j => match j with | 5 => some 4 | _ => none)⟩) [(4, 10)] [5, 6, 7, 8, 9, 10, 11, 12, 13, 14] mixC (by repeat (first | exact SubE.nil | refine SubE.cons _ _ _ rfl ?_)) (Less.refl _) (by kernel_rfl) (by kernel_rfl) (by kernel_rfl) ?_ ?_
            · refine ⟨?_, ?_, ?_, ?_, ?_, ?_, trivial⟩
              · (intro x EF MF Q kk; exact JL.q (OQ.load_agg (cs := o40.l.map U64) n5a n5s rfl .here rfl Row.all) rfl (JL.nil (kk default nofun)))
              · (intro x EF MF Q kk; exact JL.q (OQ.callx (vs := [.agg (o40.l.map U64).toArray, N 10]) goes_squared rfl fun w' _ => c_q8 w') rfl (JL.nil (kk default nofun)))
              · (intro x EF MF Q kk; exact JL.q (OQ.load_agg (cs := o10.l.map U64) n5a n5s rfl .here rfl Row.all) rfl (JL.nil (kk default nofun)))
              · (intro x EF MF Q kk; exact JL.q (OQ.callx (vs := [.agg (q8.l.map U64).toArray, .agg (o10.l.map U64).toArray]) goes_product rfl fun w' _ => c_o50 w') rfl (JL.nil (kk default nofun)))
              · (intro x EF MF Q kk; exact JL.alloc n5z rfl fun b _ => JL.nil (kk b nofun))
              · (intro x EF MF Q kk; exact JL.store_all (cs := o50.l.map U64) n5s rfl rfl rfl (W_cell _) .here rfl (JL.nil (kk (x 4) (fun k h => by cases h; rfl))))
            · intro x hx
              have h5 := hx 5 4 (by decide) rfl
              show JE _ _ _ _ _ [(10, Pt (x 4) 0), (9, Pt b9 0), (8, Pt b8 0), (7, Pt b7 0), (6, Pt b6 0), (5, Pt b5 0), (4, Pt b4 0), (1, Pt b1 0), (2, Pt b2 0), (3, Pt b3 0)] [⟨(x 5), Row 35 (o50.l.map U64), true⟩, ⟨b9, Row 35 (o40.l.map U64), true⟩, ⟨b8, Row 35 (o20.l.map U64), true⟩, ⟨b7, Row 35 (o10.l.map U64), true⟩, ⟨b6, Row 35 (o5.l.map U64), true⟩, ⟨b5, Row 35 (elv.l.map U64), true⟩, ⟨b4, Row 35 (nine.l.map U64), true⟩, ⟨b3, Row 35 (two.l.map U64), true⟩, ⟨b2, Row 35 (zeroN.l.map U64), true⟩, ⟨b1, Row 35 (n.l.map U64), true⟩]
              rw [h5]
              generalize x 4 = b10
              clear hx h5 x vs Ms
              repeat (first | refine JL.q (by first | (apply OQ.move; exact rfl) | (apply OQ.assign; exact rfl) | (apply OQ.add64; exact rfl; exact rfl) | (apply OQ.shr64; exact rfl; exact rfl) | (apply OQ.addN; exact rfl; exact rfl; exact (by (try simp only []); omega)) | (apply OQ.lssN; exact rfl; exact rfl) | (apply OQ.idxA0; exact rfl; exact rfl; exact rfl; exact rfl; exact (by (try simp only []); omega)) | (apply OQ.fld; exact rfl; exact rfl; exact rfl; exact (by decide); exact rfl)) rfl ?_ | refine JC.seq ?_ | refine JC.region ?_ | refine JC.block ?_ | refine JC.skip ?_ | refine JC.exit ?_ | refine JL.nil ?_ | refine JE.next ?_ | refine JE.blk_normal ?_ | refine JE.then_exit ?_ | refine JE.blk_hit ?_ | refine JE.blk_miss rfl ?_ | refine JE.then_ret ?_ | refine JE.blk_ret ?_ | refine JC.label ?_ | refine JL.gon rfl rfl ?_ | refine JL.gskip rfl rfl rfl rfl ?_)
              let vs : Nat → Nat → Value := fun j x => match j with
                | 0 => .agg (o50.l.map U64).toArray
                | 1 => .agg (q9.l.map U64).toArray
                | 2 => .agg (o50.l.map U64).toArray
                | 3 => .agg (o100.l.map U64).toArray
                | _ => Pt x 0
              let Ms : Nat → Nat → List Ent := fun j x => match j with
                | 4 => [⟨x, Row 35 (zeroN.l.map U64), true⟩]
                | 5 => [⟨x, Row 35 (o100.l.map U64), true⟩]
                | 6 => [⟨b10, Row 35 (o50.l.map U64), true⟩]
                | 7 => [⟨b9, Row 35 (o40.l.map U64), true⟩]
                | 8 => [⟨b8, Row 35 (o20.l.map U64), true⟩]
                | 9 => [⟨b7, Row 35 (o10.l.map U64), true⟩]
                | 10 => [⟨b6, Row 35 (o5.l.map U64), true⟩]
                | 11 => [⟨b5, Row 35 (elv.l.map U64), true⟩]
                | 12 => [⟨b4, Row 35 (nine.l.map U64), true⟩]
                | 13 => [⟨b3, Row 35 (two.l.map U64), true⟩]
                | 14 => [⟨b2, Row 35 (zeroN.l.map U64), true⟩]
                | 15 => [⟨b1, Row 35 (n.l.map U64), true⟩]
                | _ => []
              refine JC.grow (g := ⟨[(10, Pt b10 0), (9, Pt b9 0), (8, Pt b8 0), (7, Pt b7 0), (6, Pt b6 0), (5, Pt b5 0), (4, Pt b4 0), (1, Pt b1 0), (2, Pt b2 0), (3, Pt b3 0)], 16, vs, Ms, (fun j => match j with | 1 => [(0, 43)] | 3 => [(1, 44), (2, 45)] | 5 => [(4, 11), (3, 46)] | _ => []), (fun j => match j with | 0 => [6] | 2 => [6] | 5 => [4] | _ => []), (fun j => match j with | 5 => [4] | _ => []), (fun j => match j with | 5 => some 4 | _ => none)⟩) [(4, 11)] [5, 6, 7, 8, 9, 10, 11, 12, 13, 14, 15] mixC (by repeat (first | exact SubE.nil | refine SubE.cons _ _ _ rfl ?_)) (Less.refl _) (by kernel_rfl) (by kernel_rfl) (by kernel_rfl) ?_ ?_
              · refine ⟨?_, ?_, ?_, ?_, ?_, ?_, trivial⟩
                · (intro x EF MF Q kk; exact JL.q (OQ.load_agg (cs := o50.l.map U64) n5a n5s rfl .here rfl Row.all) rfl (JL.nil (kk default nofun)))
                · (intro x EF MF Q kk; exact JL.q (OQ.callx (vs := [.agg (o50.l.map U64).toArray, N 50]) goes_squared rfl fun w' _ => c_q9 w') rfl (JL.nil (kk default nofun)))
                · (intro x EF MF Q kk; exact JL.q (OQ.load_agg (cs := o50.l.map U64) n5a n5s rfl .here rfl Row.all) rfl (JL.nil (kk default nofun)))
                · (intro x EF MF Q kk; exact JL.q (OQ.callx (vs := [.agg (q9.l.map U64).toArray, .agg (o50.l.map U64).toArray]) goes_product rfl fun w' _ => c_o100 w') rfl (JL.nil (kk default nofun)))
                · (intro x EF MF Q kk; exact JL.alloc n5z rfl fun b _ => JL.nil (kk b nofun))
                · (intro x EF MF Q kk; exact JL.store_all (cs := o100.l.map U64) n5s rfl rfl rfl (W_cell _) .here rfl (JL.nil (kk (x 4) (fun k h => by cases h; rfl))))
              · intro x hx
                have h5 := hx 5 4 (by decide) rfl
                show JE _ _ _ _ _ [(11, Pt (x 4) 0), (10, Pt b10 0), (9, Pt b9 0), (8, Pt b8 0), (7, Pt b7 0), (6, Pt b6 0), (5, Pt b5 0), (4, Pt b4 0), (1, Pt b1 0), (2, Pt b2 0), (3, Pt b3 0)] [⟨(x 5), Row 35 (o100.l.map U64), true⟩, ⟨b10, Row 35 (o50.l.map U64), true⟩, ⟨b9, Row 35 (o40.l.map U64), true⟩, ⟨b8, Row 35 (o20.l.map U64), true⟩, ⟨b7, Row 35 (o10.l.map U64), true⟩, ⟨b6, Row 35 (o5.l.map U64), true⟩, ⟨b5, Row 35 (elv.l.map U64), true⟩, ⟨b4, Row 35 (nine.l.map U64), true⟩, ⟨b3, Row 35 (two.l.map U64), true⟩, ⟨b2, Row 35 (zeroN.l.map U64), true⟩, ⟨b1, Row 35 (n.l.map U64), true⟩]
                rw [h5]
                generalize x 4 = b11
                clear hx h5 x vs Ms
                repeat (first | refine JL.q (by first | (apply OQ.move; exact rfl) | (apply OQ.assign; exact rfl) | (apply OQ.add64; exact rfl; exact rfl) | (apply OQ.shr64; exact rfl; exact rfl) | (apply OQ.addN; exact rfl; exact rfl; exact (by (try simp only []); omega)) | (apply OQ.lssN; exact rfl; exact rfl) | (apply OQ.idxA0; exact rfl; exact rfl; exact rfl; exact rfl; exact (by (try simp only []); omega)) | (apply OQ.fld; exact rfl; exact rfl; exact rfl; exact (by decide); exact rfl)) rfl ?_ | refine JC.seq ?_ | refine JC.region ?_ | refine JC.block ?_ | refine JC.skip ?_ | refine JC.exit ?_ | refine JL.nil ?_ | refine JE.next ?_ | refine JE.blk_normal ?_ | refine JE.then_exit ?_ | refine JE.blk_hit ?_ | refine JE.blk_miss rfl ?_ | refine JE.then_ret ?_ | refine JE.blk_ret ?_ | refine JC.label ?_ | refine JL.gon rfl rfl ?_ | refine JL.gskip rfl rfl rfl rfl ?_)
                let vs : Nat → Nat → Value := fun j x => match j with
                  | 0 => .agg (o100.l.map U64).toArray
                  | 1 => .agg (q10.l.map U64).toArray
                  | 2 => .agg (o100.l.map U64).toArray
                  | 3 => .agg (o200.l.map U64).toArray
                  | _ => Pt x 0
                let Ms : Nat → Nat → List Ent := fun j x => match j with
                  | 4 => [⟨x, Row 35 (zeroN.l.map U64), true⟩]
                  | 5 => [⟨x, Row 35 (o200.l.map U64), true⟩]
                  | 6 => [⟨b11, Row 35 (o100.l.map U64), true⟩]
                  | 7 => [⟨b10, Row 35 (o50.l.map U64), true⟩]
                  | 8 => [⟨b9, Row 35 (o40.l.map U64), true⟩]
                  | 9 => [⟨b8, Row 35 (o20.l.map U64), true⟩]
                  | 10 => [⟨b7, Row 35 (o10.l.map U64), true⟩]
                  | 11 => [⟨b6, Row 35 (o5.l.map U64), true⟩]
                  | 12 => [⟨b5, Row 35 (elv.l.map U64), true⟩]
                  | 13 => [⟨b4, Row 35 (nine.l.map U64), true⟩]
                  | 14 => [⟨b3, Row 35 (two.l.map U64), true⟩]
                  | 15 => [⟨b2, Row 35 (zeroN.l.map U64), true⟩]
                  | 16 => [⟨b1, Row 35 (n.l.map U64), true⟩]
                  | _ => []
                refine JC.grow (g := ⟨[(11, Pt b11 0), (10, Pt b10 0), (9, Pt b9 0), (8, Pt b8 0), (7, Pt b7 0), (6, Pt b6 0), (5, Pt b5 0), (4, Pt b4 0), (1, Pt b1 0), (2, Pt b2 0), (3, Pt b3 0)], 17, vs, Ms, (fun j => match j with | 1 => [(0, 47)] | 3 => [(1, 48), (2, 49)] | 5 => [(4, 12), (3, 50)] | _ => []), (fun j => match j with | 0 => [6] | 2 => [6] | 5 => [4] | _ => []), (fun j => match j with | 5 => [4] | _ => []), (fun j => match j with | 5 => some 4 | _ => none)⟩) [(4, 12)] [5, 6, 7, 8, 9, 10, 11, 12, 13, 14, 15, 16] mixC (by repeat (first | exact SubE.nil | refine SubE.cons _ _ _ rfl ?_)) (Less.refl _) (by kernel_rfl) (by kernel_rfl) (by kernel_rfl) ?_ ?_
                · refine ⟨?_, ?_, ?_, ?_, ?_, ?_, trivial⟩
                  · (intro x EF MF Q kk; exact JL.q (OQ.load_agg (cs := o100.l.map U64) n5a n5s rfl .here rfl Row.all) rfl (JL.nil (kk default nofun)))
                  · (intro x EF MF Q kk; exact JL.q (OQ.callx (vs := [.agg (o100.l.map U64).toArray, N 100]) goes_squared rfl fun w' _ => c_q10 w') rfl (JL.nil (kk default nofun)))
                  · (intro x EF MF Q kk; exact JL.q (OQ.load_agg (cs := o100.l.map U64) n5a n5s rfl .here rfl Row.all) rfl (JL.nil (kk default nofun)))
                  · (intro x EF MF Q kk; exact JL.q (OQ.callx (vs := [.agg (q10.l.map U64).toArray, .agg (o100.l.map U64).toArray]) goes_product rfl fun w' _ => c_o200 w') rfl (JL.nil (kk default nofun)))
                  · (intro x EF MF Q kk; exact JL.alloc n5z rfl fun b _ => JL.nil (kk b nofun))
                  · (intro x EF MF Q kk; exact JL.store_all (cs := o200.l.map U64) n5s rfl rfl rfl (W_cell _) .here rfl (JL.nil (kk (x 4) (fun k h => by cases h; rfl))))
                · intro x hx
                  have h5 := hx 5 4 (by decide) rfl
                  show JE _ _ _ _ _ [(12, Pt (x 4) 0), (11, Pt b11 0), (10, Pt b10 0), (9, Pt b9 0), (8, Pt b8 0), (7, Pt b7 0), (6, Pt b6 0), (5, Pt b5 0), (4, Pt b4 0), (1, Pt b1 0), (2, Pt b2 0), (3, Pt b3 0)] [⟨(x 5), Row 35 (o200.l.map U64), true⟩, ⟨b11, Row 35 (o100.l.map U64), true⟩, ⟨b10, Row 35 (o50.l.map U64), true⟩, ⟨b9, Row 35 (o40.l.map U64), true⟩, ⟨b8, Row 35 (o20.l.map U64), true⟩, ⟨b7, Row 35 (o10.l.map U64), true⟩, ⟨b6, Row 35 (o5.l.map U64), true⟩, ⟨b5, Row 35 (elv.l.map U64), true⟩, ⟨b4, Row 35 (nine.l.map U64), true⟩, ⟨b3, Row 35 (two.l.map U64), true⟩, ⟨b2, Row 35 (zeroN.l.map U64), true⟩, ⟨b1, Row 35 (n.l.map U64), true⟩]
                  rw [h5]
                  generalize x 4 = b12
                  clear hx h5 x vs Ms
                  repeat (first | refine JL.q (by first | (apply OQ.move; exact rfl) | (apply OQ.assign; exact rfl) | (apply OQ.add64; exact rfl; exact rfl) | (apply OQ.shr64; exact rfl; exact rfl) | (apply OQ.addN; exact rfl; exact rfl; exact (by (try simp only []); omega)) | (apply OQ.lssN; exact rfl; exact rfl) | (apply OQ.idxA0; exact rfl; exact rfl; exact rfl; exact rfl; exact (by (try simp only []); omega)) | (apply OQ.fld; exact rfl; exact rfl; exact rfl; exact (by decide); exact rfl)) rfl ?_ | refine JC.seq ?_ | refine JC.region ?_ | refine JC.block ?_ | refine JC.skip ?_ | refine JC.exit ?_ | refine JL.nil ?_ | refine JE.next ?_ | refine JE.blk_normal ?_ | refine JE.then_exit ?_ | refine JE.blk_hit ?_ | refine JE.blk_miss rfl ?_ | refine JE.then_ret ?_ | refine JE.blk_ret ?_ | refine JC.label ?_ | refine JL.gon rfl rfl ?_ | refine JL.gskip rfl rfl rfl rfl ?_)
                  let vs : Nat → Nat → Value := fun j x => match j with
                    | 0 => .agg (o200.l.map U64).toArray
                    | 1 => .agg (q11.l.map U64).toArray
                    | 2 => .agg (o50.l.map U64).toArray
                    | 3 => .agg (o250.l.map U64).toArray
                    | _ => Pt x 0
                  let Ms : Nat → Nat → List Ent := fun j x => match j with
                    | 4 => [⟨x, Row 35 (zeroN.l.map U64), true⟩]
                    | 5 => [⟨x, Row 35 (o250.l.map U64), true⟩]
                    | 6 => [⟨b12, Row 35 (o200.l.map U64), true⟩]
                    | 7 => [⟨b11, Row 35 (o100.l.map U64), true⟩]
                    | 8 => [⟨b10, Row 35 (o50.l.map U64), true⟩]
                    | 9 => [⟨b9, Row 35 (o40.l.map U64), true⟩]
                    | 10 => [⟨b8, Row 35 (o20.l.map U64), true⟩]
                    | 11 => [⟨b7, Row 35 (o10.l.map U64), true⟩]
                    | 12 => [⟨b6, Row 35 (o5.l.map U64), true⟩]
                    | 13 => [⟨b5, Row 35 (elv.l.map U64), true⟩]
                    | 14 => [⟨b4, Row 35 (nine.l.map U64), true⟩]
                    | 15 => [⟨b3, Row 35 (two.l.map U64), true⟩]
                    | 16 => [⟨b2, Row 35 (zeroN.l.map U64), true⟩]
                    | 17 => [⟨b1, Row 35 (n.l.map U64), true⟩]
                    | _ => []
                  refine JC.grow (g := ⟨[(12, Pt b12 0), (11, Pt b11 0), (10, Pt b10 0), (9, Pt b9 0), (8, Pt b8 0), (7, Pt b7 0), (6, Pt b6 0), (5, Pt b5 0), (4, Pt b4 0), (1, Pt b1 0), (2, Pt b2 0), (3, Pt b3 0)], 18, vs, Ms, (fun j => match j with | 1 => [(0, 51)] | 3 => [(1, 52), (2, 53)] | 5 => [(4, 13), (3, 54)] | _ => []), (fun j => match j with | 0 => [6] | 2 => [8] | 5 => [4] | _ => []), (fun j => match j with | 5 => [4] | _ => []), (fun j => match j with | 5 => some 4 | _ => none)⟩) [(4, 13)] [5, 6, 7, 8, 9, 10, 11, 12, 13, 14, 15, 16, 17] mixC (by repeat (first | exact SubE.nil | refine SubE.cons _ _ _ rfl ?_)) (Less.refl _) (by kernel_rfl) (by kernel_rfl) (by kernel_rfl) ?_ ?_
                  · refine ⟨?_, ?_, ?_, ?_, ?_, ?_, trivial⟩
                    · (intro x EF MF Q kk; exact JL.q (OQ.load_agg (cs := o200.l.map U64) n5a n5s rfl .here rfl Row.all) rfl (JL.nil (kk default nofun)))
                    · (intro x EF MF Q kk; exact JL.q (OQ.callx (vs := [.agg (o200.l.map U64).toArray, N 50]) goes_squared rfl fun w' _ => c_q11 w') rfl (JL.nil (kk default nofun)))
                    · (intro x EF MF Q kk; exact JL.q (OQ.load_agg (cs := o50.l.map U64) n5a n5s rfl .here rfl Row.all) rfl (JL.nil (kk default nofun)))
                    · (intro x EF MF Q kk; exact JL.q (OQ.callx (vs := [.agg (q11.l.map U64).toArray, .agg (o50.l.map U64).toArray]) goes_product rfl fun w' _ => c_o250 w') rfl (JL.nil (kk default nofun)))
                    · (intro x EF MF Q kk; exact JL.alloc n5z rfl fun b _ => JL.nil (kk b nofun))
                    · (intro x EF MF Q kk; exact JL.store_all (cs := o250.l.map U64) n5s rfl rfl rfl (W_cell _) .here rfl (JL.nil (kk (x 4) (fun k h => by cases h; rfl))))
                  · intro x hx
                    have h5 := hx 5 4 (by decide) rfl
                    show JE _ _ _ _ _ [(13, Pt (x 4) 0), (12, Pt b12 0), (11, Pt b11 0), (10, Pt b10 0), (9, Pt b9 0), (8, Pt b8 0), (7, Pt b7 0), (6, Pt b6 0), (5, Pt b5 0), (4, Pt b4 0), (1, Pt b1 0), (2, Pt b2 0), (3, Pt b3 0)] [⟨(x 5), Row 35 (o250.l.map U64), true⟩, ⟨b12, Row 35 (o200.l.map U64), true⟩, ⟨b11, Row 35 (o100.l.map U64), true⟩, ⟨b10, Row 35 (o50.l.map U64), true⟩, ⟨b9, Row 35 (o40.l.map U64), true⟩, ⟨b8, Row 35 (o20.l.map U64), true⟩, ⟨b7, Row 35 (o10.l.map U64), true⟩, ⟨b6, Row 35 (o5.l.map U64), true⟩, ⟨b5, Row 35 (elv.l.map U64), true⟩, ⟨b4, Row 35 (nine.l.map U64), true⟩, ⟨b3, Row 35 (two.l.map U64), true⟩, ⟨b2, Row 35 (zeroN.l.map U64), true⟩, ⟨b1, Row 35 (n.l.map U64), true⟩]
                    rw [h5]
                    generalize x 4 = b13
                    clear hx h5 x vs Ms
                    repeat (first | refine JL.q (by first | (apply OQ.move; exact rfl) | (apply OQ.assign; exact rfl) | (apply OQ.add64; exact rfl; exact rfl) | (apply OQ.shr64; exact rfl; exact rfl) | (apply OQ.addN; exact rfl; exact rfl; exact (by (try simp only []); omega)) | (apply OQ.lssN; exact rfl; exact rfl) | (apply OQ.idxA0; exact rfl; exact rfl; exact rfl; exact rfl; exact (by (try simp only []); omega)) | (apply OQ.fld; exact rfl; exact rfl; exact rfl; exact (by decide); exact rfl)) rfl ?_ | refine JC.seq ?_ | refine JC.region ?_ | refine JC.block ?_ | refine JC.skip ?_ | refine JC.exit ?_ | refine JL.nil ?_ | refine JE.next ?_ | refine JE.blk_normal ?_ | refine JE.then_exit ?_ | refine JE.blk_hit ?_ | refine JE.blk_miss rfl ?_ | refine JE.then_ret ?_ | refine JE.blk_ret ?_ | refine JC.label ?_ | refine JL.gon rfl rfl ?_ | refine JL.gskip rfl rfl rfl rfl ?_)
                    refine JC.tail 4 mixC (by kernel_rfl) ?_
                    simp only [List.take_succ_cons, List.take_zero, List.drop_succ_cons, List.drop_zero]
                    repeat (first | refine JL.q (by first | (apply OQ.load_agg (cs := o250.l.map U64); exact n5a; exact n5s; exact rfl; exact (by repeat (first | exact Has.here | apply Has.there)); exact rfl; exact Row.all) | (apply OQ.load_agg (cs := elv.l.map U64); exact n5a; exact n5s; exact rfl; exact (by repeat (first | exact Has.here | apply Has.there)); exact rfl; exact Row.all) | (apply OQ.callx (vs := [.agg (o250.l.map U64).toArray, N 5]); exact goes_squared; exact rfl; exact (fun w' _ => c_q12 w')) | (apply OQ.callx (vs := [.agg (q12.l.map U64).toArray, .agg (elv.l.map U64).toArray]); exact goes_product; exact rfl; exact (fun w' _ => c_fin w')) | (apply OQ.move; exact rfl) | (apply OQ.assign; exact rfl) | (apply OQ.add64; exact rfl; exact rfl) | (apply OQ.shr64; exact rfl; exact rfl) | (apply OQ.addN; exact rfl; exact rfl; exact (by (try simp only []); omega)) | (apply OQ.lssN; exact rfl; exact rfl) | (apply OQ.idxA0; exact rfl; exact rfl; exact rfl; exact rfl; exact (by (try simp only []); omega)) | (apply OQ.fld; exact rfl; exact rfl; exact rfl; exact (by decide); exact rfl)) rfl ?_ | refine JQ.q (by first | (apply OQ.load_agg (cs := o250.l.map U64); exact n5a; exact n5s; exact rfl; exact (by repeat (first | exact Has.here | apply Has.there)); exact rfl; exact Row.all) | (apply OQ.load_agg (cs := elv.l.map U64); exact n5a; exact n5s; exact rfl; exact (by repeat (first | exact Has.here | apply Has.there)); exact rfl; exact Row.all) | (apply OQ.callx (vs := [.agg (o250.l.map U64).toArray, N 5]); exact goes_squared; exact rfl; exact (fun w' _ => c_q12 w')) | (apply OQ.callx (vs := [.agg (q12.l.map U64).toArray, .agg (elv.l.map U64).toArray]); exact goes_product; exact rfl; exact (fun w' _ => c_fin w')) | (apply OQ.move; exact rfl) | (apply OQ.assign; exact rfl) | (apply OQ.add64; exact rfl; exact rfl) | (apply OQ.shr64; exact rfl; exact rfl) | (apply OQ.addN; exact rfl; exact rfl; exact (by (try simp only []); omega)) | (apply OQ.lssN; exact rfl; exact rfl) | (apply OQ.idxA0; exact rfl; exact rfl; exact rfl; exact rfl; exact (by (try simp only []); omega)) | (apply OQ.fld; exact rfl; exact rfl; exact rfl; exact (by decide); exact rfl)) rfl ?_ | refine JC.seq ?_ | refine JC.region ?_ | refine JC.block ?_ | refine JC.skip ?_ | refine JC.exit ?_ | refine JL.nil ?_ | refine JQ.nil ?_ | refine JQ.nil_tail ?_ | refine JE.next ?_ | refine JE.blk_normal ?_ | refine JE.then_exit ?_ | refine JE.blk_hit ?_ | refine JE.blk_miss rfl ?_ | refine JE.then_ret ?_ | refine JE.blk_ret ?_ | refine JC.label ?_ | refine JL.gon rfl rfl ?_ | refine JQ.gon rfl rfl ?_ | refine JL.gskip rfl rfl rfl rfl ?_ | refine JQ.gskip rfl rfl rfl rfl ?_)
                    refine JL.store_all (cs := fin.l.map U64) n5s rfl rfl rfl (W_cell _) (by repeat (first | exact Upd.here | apply Upd.there)) rfl ?_
                    repeat (first | refine JL.q (by first | (apply OQ.move; exact rfl) | (apply OQ.assign; exact rfl) | (apply OQ.add64; exact rfl; exact rfl) | (apply OQ.shr64; exact rfl; exact rfl) | (apply OQ.addN; exact rfl; exact rfl; exact (by (try simp only []); omega)) | (apply OQ.lssN; exact rfl; exact rfl) | (apply OQ.idxA0; exact rfl; exact rfl; exact rfl; exact rfl; exact (by (try simp only []); omega)) | (apply OQ.fld; exact rfl; exact rfl; exact rfl; exact (by decide); exact rfl)) rfl ?_ | refine JQ.q (by first | (apply OQ.move; exact rfl) | (apply OQ.assign; exact rfl) | (apply OQ.add64; exact rfl; exact rfl) | (apply OQ.shr64; exact rfl; exact rfl) | (apply OQ.addN; exact rfl; exact rfl; exact (by (try simp only []); omega)) | (apply OQ.lssN; exact rfl; exact rfl) | (apply OQ.idxA0; exact rfl; exact rfl; exact rfl; exact rfl; exact (by (try simp only []); omega)) | (apply OQ.fld; exact rfl; exact rfl; exact rfl; exact (by decide); exact rfl)) rfl ?_ | refine JC.seq ?_ | refine JC.region ?_ | refine JC.block ?_ | refine JC.skip ?_ | refine JC.exit ?_ | refine JL.nil ?_ | refine JQ.nil ?_ | refine JQ.nil_tail ?_ | refine JE.next ?_ | refine JE.blk_normal ?_ | refine JE.then_exit ?_ | refine JE.blk_hit ?_ | refine JE.blk_miss rfl ?_ | refine JE.then_ret ?_ | refine JE.blk_ret ?_ | refine JC.label ?_ | refine JL.gon rfl rfl ?_ | refine JQ.gon rfl rfl ?_ | refine JL.gskip rfl rfl rfl rfl ?_ | refine JQ.gskip rfl rfl rfl rfl ?_)
                    refine JC.ret (JE.ret1 rfl (RV.cell_agg n5a n5s rfl (by repeat (first | exact Has.here | apply Has.there)) rfl Row.all) ?_)
                    exact fun w' hw => ⟨rfl, hw.chg⟩
end Go.Proofs.Ytmbabkigjckaaaa
