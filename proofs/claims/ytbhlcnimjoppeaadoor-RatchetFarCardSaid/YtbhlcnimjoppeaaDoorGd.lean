/-
  Of no statement by itself: the texts CuvD, CuvE, CuvF, CrvS, CuvG, CuvN, RatP, RatQ, Slhn, RatC, Slcv, KdfB, RatM, RatN, Slin, RatD, RatE in one.
  Conditions: each theorem's own.
-/
import Derived.Test.YtbhlcnimjoppeaaDoorGc
import Derived.Laws.Tables
import Derived.Great.FillDense
import Derived.Laws.Cover3
set_option linter.unusedSimpArgs false
set_option linter.unusedVariables false
/-
  Of no statement by itself: what the code's inverse gives.
  Conditions: each theorem's own.
-/
namespace Go.Proofs.YtbhlcnimjoppeaaDoor
set_option maxRecDepth 10000
open Sl Crv
set_option maxHeartbeats 64000000 in
set_option maxRecDepth 4000 in
theorem inverse_any (n : N5) (w : World) : Calls Tryd.prog 77 [.agg (n.l.map U64).toArray].toArray w fun e w' => e = .returned (.agg ((invB n).l.map U64).toArray) ∧ Ext w w' := by
  have c_two := squared_any n 1 (by decide)
  generalize h_two : sqB n 1 = two at c_two
  have c_q2 := squared_any two 2 (by decide)
  generalize h_q2 : sqB two 2 = q2 at c_q2
  have c_nine := product_any q2 n
  generalize h_nine : prdB q2 n = nine at c_nine
  have c_elv := product_any nine two
  generalize h_elv : prdB nine two = elv at c_elv
  have c_q4 := squared_any elv 1 (by decide)
  generalize h_q4 : sqB elv 1 = q4 at c_q4
  have c_o5 := product_any q4 nine
  generalize h_o5 : prdB q4 nine = o5 at c_o5
  have c_q5 := squared_any o5 5 (by decide)
  generalize h_q5 : sqB o5 5 = q5 at c_q5
  have c_o10 := product_any q5 o5
  generalize h_o10 : prdB q5 o5 = o10 at c_o10
  have c_q6 := squared_any o10 10 (by decide)
  generalize h_q6 : sqB o10 10 = q6 at c_q6
  have c_o20 := product_any q6 o10
  generalize h_o20 : prdB q6 o10 = o20 at c_o20
  have c_q7 := squared_any o20 20 (by decide)
  generalize h_q7 : sqB o20 20 = q7 at c_q7
  have c_o40 := product_any q7 o20
  generalize h_o40 : prdB q7 o20 = o40 at c_o40
  have c_q8 := squared_any o40 10 (by decide)
  generalize h_q8 : sqB o40 10 = q8 at c_q8
  have c_o50 := product_any q8 o10
  generalize h_o50 : prdB q8 o10 = o50 at c_o50
  have c_q9 := squared_any o50 50 (by decide)
  generalize h_q9 : sqB o50 50 = q9 at c_q9
  have c_o100 := product_any q9 o50
  generalize h_o100 : prdB q9 o50 = o100 at c_o100
  have c_q10 := squared_any o100 100 (by decide)
  generalize h_q10 : sqB o100 100 = q10 at c_q10
  have c_o200 := product_any q10 o100
  generalize h_o200 : prdB q10 o100 = o200 at c_o200
  have c_q11 := squared_any o200 50 (by decide)
  generalize h_q11 : sqB o200 50 = q11 at c_q11
  have c_o250 := product_any q11 o50
  generalize h_o250 : prdB q11 o50 = o250 at c_o250
  have c_q12 := squared_any o250 5 (by decide)
  generalize h_q12 : sqB o250 5 = q12 at c_q12
  have c_fin := product_any q12 elv
  generalize h_fin : prdB q12 elv = fin at c_fin
  have eI : invB n = fin := by
    subst h_fin h_q12 h_o250 h_q11 h_o200 h_q10 h_o100 h_q9 h_o50 h_q8 h_o40 h_q7 h_o20 h_q6 h_o10 h_q5 h_o5 h_q4 h_elv h_nine h_q2 h_two
    rfl
  rw [eI]
  clear eI h_two h_q2 h_nine h_elv h_q4 h_o5 h_q5 h_o10 h_q6 h_o20 h_q7 h_o40 h_q8 h_o50 h_q9 h_o100 h_q10 h_o200 h_q11 h_o250 h_q12 h_fin
  refine enter (n := 59) Tryd.func77 rfl rfl rfl (Holds.start w []) ?_
  repeat (first | refine JC.seq ?_ | refine JC.region ?_)
  refine JL.box (r := n.l.map U64) rfl rfl rfl fun b1 _ => ?_
  refine JL.alloc n5z rfl fun b2 _ => ?_
  repeat (first | refine JL.q (by first | (apply OQ.load_agg (cs := n.l.map U64); exact n5a; exact n5s; exact rfl; exact (by repeat (first | exact Has.here | apply Has.there)); exact rfl; exact Row.all) | (apply OQ.callx (vs := [.agg (n.l.map U64).toArray, N 1]); exact goes_squared; exact rfl; exact (fun w' _ => c_two w'))) rfl ?_ | refine JC.seq ?_ | refine JC.region ?_ | refine JL.nil ?_ | refine JE.next ?_)
  refine JL.alloc n5z rfl fun b3 _ => ?_
  refine JL.store_all (cs := two.l.map U64) n5s rfl rfl rfl (W_cell _) .here rfl ?_
  repeat (first | refine JC.seq ?_ | refine JL.nil ?_ | refine JE.next ?_)
  let vs : Nat → Nat → Value := fun j x => match j with
    | 0 => .agg (two.l.map U64).toArray
    | 1 => .agg (q2.l.map U64).toArray
    | 2 => .agg (n.l.map U64).toArray
    | 3 => .agg (nine.l.map U64).toArray
    | _ => Pt x 0
  let Ms : Nat → Nat → List Ent := fun j x => match j with
    | 4 => [⟨x, Row 117 (zeroN.l.map U64), true⟩]
    | 5 => [⟨x, Row 117 (nine.l.map U64), true⟩]
    | 6 => [⟨b3, Row 117 (two.l.map U64), true⟩]
    | 7 => [⟨b2, Row 117 (zeroN.l.map U64), true⟩]
    | 8 => [⟨b1, Row 117 (n.l.map U64), true⟩]
    | _ => []
  refine JC.grow (g := ⟨[(1, Pt b1 0), (2, Pt b2 0), (3, Pt b3 0)], 9, vs, Ms, (fun j => match j with | 1 => [(0, 16)] | 3 => [(1, 17), (2, 18)] | 5 => [(4, 4), (3, 19)] | _ => []), (fun j => match j with | 0 => [6] | 2 => [8] | 5 => [4] | _ => []), (fun j => match j with | 5 => [4] | _ => []), (fun j => match j with | 5 => some 4 | _ => none)⟩) [(4, 4)] [5, 6, 7, 8] mixC (by repeat (first | exact SubE.nil | refine SubE.cons _ _ _ rfl ?_)) (Less.refl _) (by kernel_rfl) (by kernel_rfl) (by kernel_rfl) ?_ ?_
  · refine ⟨?_, ?_, ?_, ?_, ?_, ?_, trivial⟩
    · (intro x EF MF Q kk; exact JL.q (OQ.load_agg (cs := two.l.map U64) n5a n5s rfl .here rfl Row.all) rfl (JL.nil (kk default nofun)))
    · (intro x EF MF Q kk; exact JL.q (OQ.callx (vs := [.agg (two.l.map U64).toArray, N 2]) goes_squared rfl fun w' _ => c_q2 w') rfl (JL.nil (kk default nofun)))
    · (intro x EF MF Q kk; exact JL.q (OQ.load_agg (cs := n.l.map U64) n5a n5s rfl .here rfl Row.all) rfl (JL.nil (kk default nofun)))
    · (intro x EF MF Q kk; exact JL.q (OQ.callx (vs := [.agg (q2.l.map U64).toArray, .agg (n.l.map U64).toArray]) goes_product rfl fun w' _ => c_nine w') rfl (JL.nil (kk default nofun)))
    · (intro x EF MF Q kk; exact JL.alloc n5z rfl fun b _ => JL.nil (kk b nofun))
    · (intro x EF MF Q kk; exact JL.store_all (cs := nine.l.map U64) n5s rfl rfl rfl (W_cell _) .here rfl (JL.nil (kk (x 4) (fun k h => by cases h; rfl))))
  · intro x hx
    have h5 := hx 5 4 (by decide) rfl
    show JE _ _ _ _ _ [(4, Pt (x 4) 0), (1, Pt b1 0), (2, Pt b2 0), (3, Pt b3 0)] [⟨(x 5), Row 117 (nine.l.map U64), true⟩, ⟨b3, Row 117 (two.l.map U64), true⟩, ⟨b2, Row 117 (zeroN.l.map U64), true⟩, ⟨b1, Row 117 (n.l.map U64), true⟩]
    rw [h5]
    generalize x 4 = b4
    clear hx h5 x vs Ms
    repeat (first | refine JC.seq ?_ | refine JC.region ?_ | refine JE.next ?_)
    repeat (refine JL.q (by first | (apply OQ.load_agg (cs := nine.l.map U64); exact n5a; exact n5s; exact rfl; exact (by repeat (first | exact Has.here | apply Has.there)); exact rfl; exact Row.all) | (apply OQ.load_agg (cs := two.l.map U64); exact n5a; exact n5s; exact rfl; exact (by repeat (first | exact Has.here | apply Has.there)); exact rfl; exact Row.all) | (apply OQ.callx (vs := [.agg (nine.l.map U64).toArray, .agg (two.l.map U64).toArray]); exact goes_product; exact rfl; exact (fun w' _ => c_elv w'))) rfl ?_)
    refine JL.alloc n5z rfl fun b5 _ => ?_
    refine JL.store_all (cs := elv.l.map U64) n5s rfl rfl rfl (W_cell _) .here rfl ?_
    repeat (first | refine JC.seq ?_ | refine JL.nil ?_ | refine JE.next ?_)
    let vs : Nat → Nat → Value := fun j x => match j with
      | 0 => .agg (elv.l.map U64).toArray
      | 1 => .agg (q4.l.map U64).toArray
      | 2 => .agg (nine.l.map U64).toArray
      | 3 => .agg (o5.l.map U64).toArray
      | _ => Pt x 0
    let Ms : Nat → Nat → List Ent := fun j x => match j with
      | 4 => [⟨x, Row 117 (zeroN.l.map U64), true⟩]
      | 5 => [⟨x, Row 117 (o5.l.map U64), true⟩]
      | 6 => [⟨b5, Row 117 (elv.l.map U64), true⟩]
      | 7 => [⟨b4, Row 117 (nine.l.map U64), true⟩]
      | 8 => [⟨b3, Row 117 (two.l.map U64), true⟩]
      | 9 => [⟨b2, Row 117 (zeroN.l.map U64), true⟩]
      | 10 => [⟨b1, Row 117 (n.l.map U64), true⟩]
      | _ => []
    refine JC.grow (g := ⟨[(5, Pt b5 0), (4, Pt b4 0), (1, Pt b1 0), (2, Pt b2 0), (3, Pt b3 0)], 11, vs, Ms, (fun j => match j with | 1 => [(0, 23)] | 3 => [(1, 24), (2, 25)] | 5 => [(4, 6), (3, 26)] | _ => []), (fun j => match j with | 0 => [6] | 2 => [7] | 5 => [4] | _ => []), (fun j => match j with | 5 => [4] | _ => []), (fun j => match j with | 5 => some 4 | _ => none)⟩) [(4, 6)] [5, 6, 7, 8, 9, 10] mixC (by repeat (first | exact SubE.nil | refine SubE.cons _ _ _ rfl ?_)) (Less.refl _) (by kernel_rfl) (by kernel_rfl) (by kernel_rfl) ?_ ?_
    · refine ⟨?_, ?_, ?_, ?_, ?_, ?_, trivial⟩
      · (intro x EF MF Q kk; exact JL.q (OQ.load_agg (cs := elv.l.map U64) n5a n5s rfl .here rfl Row.all) rfl (JL.nil (kk default nofun)))
      · (intro x EF MF Q kk; exact JL.q (OQ.callx (vs := [.agg (elv.l.map U64).toArray, N 1]) goes_squared rfl fun w' _ => c_q4 w') rfl (JL.nil (kk default nofun)))
      · (intro x EF MF Q kk; exact JL.q (OQ.load_agg (cs := nine.l.map U64) n5a n5s rfl .here rfl Row.all) rfl (JL.nil (kk default nofun)))
      · (intro x EF MF Q kk; exact JL.q (OQ.callx (vs := [.agg (q4.l.map U64).toArray, .agg (nine.l.map U64).toArray]) goes_product rfl fun w' _ => c_o5 w') rfl (JL.nil (kk default nofun)))
      · (intro x EF MF Q kk; exact JL.alloc n5z rfl fun b _ => JL.nil (kk b nofun))
      · (intro x EF MF Q kk; exact JL.store_all (cs := o5.l.map U64) n5s rfl rfl rfl (W_cell _) .here rfl (JL.nil (kk (x 4) (fun k h => by cases h; rfl))))
    · intro x hx
      have h5 := hx 5 4 (by decide) rfl
      show JE _ _ _ _ _ [(6, Pt (x 4) 0), (5, Pt b5 0), (4, Pt b4 0), (1, Pt b1 0), (2, Pt b2 0), (3, Pt b3 0)] [⟨(x 5), Row 117 (o5.l.map U64), true⟩, ⟨b5, Row 117 (elv.l.map U64), true⟩, ⟨b4, Row 117 (nine.l.map U64), true⟩, ⟨b3, Row 117 (two.l.map U64), true⟩, ⟨b2, Row 117 (zeroN.l.map U64), true⟩, ⟨b1, Row 117 (n.l.map U64), true⟩]
      rw [h5]
      generalize x 4 = b6
      clear hx h5 x vs Ms
      repeat (first | refine JC.seq ?_ | refine JE.next ?_)
      let vs : Nat → Nat → Value := fun j x => match j with
        | 0 => .agg (o5.l.map U64).toArray
        | 1 => .agg (q5.l.map U64).toArray
        | 2 => .agg (o5.l.map U64).toArray
        | 3 => .agg (o10.l.map U64).toArray
        | _ => Pt x 0
      let Ms : Nat → Nat → List Ent := fun j x => match j with
        | 4 => [⟨x, Row 117 (zeroN.l.map U64), true⟩]
        | 5 => [⟨x, Row 117 (o10.l.map U64), true⟩]
        | 6 => [⟨b6, Row 117 (o5.l.map U64), true⟩]
        | 7 => [⟨b5, Row 117 (elv.l.map U64), true⟩]
        | 8 => [⟨b4, Row 117 (nine.l.map U64), true⟩]
        | 9 => [⟨b3, Row 117 (two.l.map U64), true⟩]
        | 10 => [⟨b2, Row 117 (zeroN.l.map U64), true⟩]
        | 11 => [⟨b1, Row 117 (n.l.map U64), true⟩]
        | _ => []
      refine JC.grow (g := ⟨[(6, Pt b6 0), (5, Pt b5 0), (4, Pt b4 0), (1, Pt b1 0), (2, Pt b2 0), (3, Pt b3 0)], 12, vs, Ms, (fun j => match j with | 1 => [(0, 27)] | 3 => [(1, 28), (2, 29)] | 5 => [(4, 7), (3, 30)] | _ => []), (fun j => match j with | 0 => [6] | 2 => [6] | 5 => [4] | _ => []), (fun j => match j with | 5 => [4] | _ => []), (fun j => match j with | 5 => some 4 | _ => none)⟩) [(4, 7)] [5, 6, 7, 8, 9, 10, 11] mixC (by repeat (first | exact SubE.nil | refine SubE.cons _ _ _ rfl ?_)) (Less.refl _) (by kernel_rfl) (by kernel_rfl) (by kernel_rfl) ?_ ?_
      · refine ⟨?_, ?_, ?_, ?_, ?_, ?_, trivial⟩
        · (intro x EF MF Q kk; exact JL.q (OQ.load_agg (cs := o5.l.map U64) n5a n5s rfl .here rfl Row.all) rfl (JL.nil (kk default nofun)))
        · (intro x EF MF Q kk; exact JL.q (OQ.callx (vs := [.agg (o5.l.map U64).toArray, N 5]) goes_squared rfl fun w' _ => c_q5 w') rfl (JL.nil (kk default nofun)))
        · (intro x EF MF Q kk; exact JL.q (OQ.load_agg (cs := o5.l.map U64) n5a n5s rfl .here rfl Row.all) rfl (JL.nil (kk default nofun)))
        · (intro x EF MF Q kk; exact JL.q (OQ.callx (vs := [.agg (q5.l.map U64).toArray, .agg (o5.l.map U64).toArray]) goes_product rfl fun w' _ => c_o10 w') rfl (JL.nil (kk default nofun)))
        · (intro x EF MF Q kk; exact JL.alloc n5z rfl fun b _ => JL.nil (kk b nofun))
        · (intro x EF MF Q kk; exact JL.store_all (cs := o10.l.map U64) n5s rfl rfl rfl (W_cell _) .here rfl (JL.nil (kk (x 4) (fun k h => by cases h; rfl))))
      · intro x hx
        have h5 := hx 5 4 (by decide) rfl
        show JE _ _ _ _ _ [(7, Pt (x 4) 0), (6, Pt b6 0), (5, Pt b5 0), (4, Pt b4 0), (1, Pt b1 0), (2, Pt b2 0), (3, Pt b3 0)] [⟨(x 5), Row 117 (o10.l.map U64), true⟩, ⟨b6, Row 117 (o5.l.map U64), true⟩, ⟨b5, Row 117 (elv.l.map U64), true⟩, ⟨b4, Row 117 (nine.l.map U64), true⟩, ⟨b3, Row 117 (two.l.map U64), true⟩, ⟨b2, Row 117 (zeroN.l.map U64), true⟩, ⟨b1, Row 117 (n.l.map U64), true⟩]
        rw [h5]
        generalize x 4 = b7
        clear hx h5 x vs Ms
        repeat (first | refine JC.seq ?_ | refine JE.next ?_)
        let vs : Nat → Nat → Value := fun j x => match j with
          | 0 => .agg (o10.l.map U64).toArray
          | 1 => .agg (q6.l.map U64).toArray
          | 2 => .agg (o10.l.map U64).toArray
          | 3 => .agg (o20.l.map U64).toArray
          | _ => Pt x 0
        let Ms : Nat → Nat → List Ent := fun j x => match j with
          | 4 => [⟨x, Row 117 (zeroN.l.map U64), true⟩]
          | 5 => [⟨x, Row 117 (o20.l.map U64), true⟩]
          | 6 => [⟨b7, Row 117 (o10.l.map U64), true⟩]
          | 7 => [⟨b6, Row 117 (o5.l.map U64), true⟩]
          | 8 => [⟨b5, Row 117 (elv.l.map U64), true⟩]
          | 9 => [⟨b4, Row 117 (nine.l.map U64), true⟩]
          | 10 => [⟨b3, Row 117 (two.l.map U64), true⟩]
          | 11 => [⟨b2, Row 117 (zeroN.l.map U64), true⟩]
          | 12 => [⟨b1, Row 117 (n.l.map U64), true⟩]
          | _ => []
        refine JC.grow (g := ⟨[(7, Pt b7 0), (6, Pt b6 0), (5, Pt b5 0), (4, Pt b4 0), (1, Pt b1 0), (2, Pt b2 0), (3, Pt b3 0)], 13, vs, Ms, (fun j => match j with | 1 => [(0, 31)] | 3 => [(1, 32), (2, 33)] | 5 => [(4, 8), (3, 34)] | _ => []), (fun j => match j with | 0 => [6] | 2 => [6] | 5 => [4] | _ => []), (fun j => match j with | 5 => [4] | _ => []), (fun j => match j with | 5 => some 4 | _ => none)⟩) [(4, 8)] [5, 6, 7, 8, 9, 10, 11, 12] mixC (by repeat (first | exact SubE.nil | refine SubE.cons _ _ _ rfl ?_)) (Less.refl _) (by kernel_rfl) (by kernel_rfl) (by kernel_rfl) ?_ ?_
        · refine ⟨?_, ?_, ?_, ?_, ?_, ?_, trivial⟩
          · (intro x EF MF Q kk; exact JL.q (OQ.load_agg (cs := o10.l.map U64) n5a n5s rfl .here rfl Row.all) rfl (JL.nil (kk default nofun)))
          · (intro x EF MF Q kk; exact JL.q (OQ.callx (vs := [.agg (o10.l.map U64).toArray, N 10]) goes_squared rfl fun w' _ => c_q6 w') rfl (JL.nil (kk default nofun)))
          · (intro x EF MF Q kk; exact JL.q (OQ.load_agg (cs := o10.l.map U64) n5a n5s rfl .here rfl Row.all) rfl (JL.nil (kk default nofun)))
          · (intro x EF MF Q kk; exact JL.q (OQ.callx (vs := [.agg (q6.l.map U64).toArray, .agg (o10.l.map U64).toArray]) goes_product rfl fun w' _ => c_o20 w') rfl (JL.nil (kk default nofun)))
          · (intro x EF MF Q kk; exact JL.alloc n5z rfl fun b _ => JL.nil (kk b nofun))
          · (intro x EF MF Q kk; exact JL.store_all (cs := o20.l.map U64) n5s rfl rfl rfl (W_cell _) .here rfl (JL.nil (kk (x 4) (fun k h => by cases h; rfl))))
        · intro x hx
          have h5 := hx 5 4 (by decide) rfl
          show JE _ _ _ _ _ [(8, Pt (x 4) 0), (7, Pt b7 0), (6, Pt b6 0), (5, Pt b5 0), (4, Pt b4 0), (1, Pt b1 0), (2, Pt b2 0), (3, Pt b3 0)] [⟨(x 5), Row 117 (o20.l.map U64), true⟩, ⟨b7, Row 117 (o10.l.map U64), true⟩, ⟨b6, Row 117 (o5.l.map U64), true⟩, ⟨b5, Row 117 (elv.l.map U64), true⟩, ⟨b4, Row 117 (nine.l.map U64), true⟩, ⟨b3, Row 117 (two.l.map U64), true⟩, ⟨b2, Row 117 (zeroN.l.map U64), true⟩, ⟨b1, Row 117 (n.l.map U64), true⟩]
          rw [h5]
          generalize x 4 = b8
          clear hx h5 x vs Ms
          repeat (first | refine JC.seq ?_ | refine JE.next ?_)
          let vs : Nat → Nat → Value := fun j x => match j with
            | 0 => .agg (o20.l.map U64).toArray
            | 1 => .agg (q7.l.map U64).toArray
            | 2 => .agg (o20.l.map U64).toArray
            | 3 => .agg (o40.l.map U64).toArray
            | _ => Pt x 0
          let Ms : Nat → Nat → List Ent := fun j x => match j with
            | 4 => [⟨x, Row 117 (zeroN.l.map U64), true⟩]
            | 5 => [⟨x, Row 117 (o40.l.map U64), true⟩]
            | 6 => [⟨b8, Row 117 (o20.l.map U64), true⟩]
            | 7 => [⟨b7, Row 117 (o10.l.map U64), true⟩]
            | 8 => [⟨b6, Row 117 (o5.l.map U64), true⟩]
            | 9 => [⟨b5, Row 117 (elv.l.map U64), true⟩]
            | 10 => [⟨b4, Row 117 (nine.l.map U64), true⟩]
            | 11 => [⟨b3, Row 117 (two.l.map U64), true⟩]
            | 12 => [⟨b2, Row 117 (zeroN.l.map U64), true⟩]
            | 13 => [⟨b1, Row 117 (n.l.map U64), true⟩]
            | _ => []
          refine JC.grow (g := ⟨[(8, Pt b8 0), (7, Pt b7 0), (6, Pt b6 0), (5, Pt b5 0), (4, Pt b4 0), (1, Pt b1 0), (2, Pt b2 0), (3, Pt b3 0)], 14, vs, Ms, (fun j => match j with | 1 => [(0, 35)] | 3 => [(1, 36), (2, 37)] | 5 => [(4, 9), (3, 38)] | _ => []), (fun j => match j with | 0 => [6] | 2 => [6] | 5 => [4] | _ => []), (fun j => match j with | 5 => [4] | _ => []), (fun j => match j with | 5 => some 4 | _ => none)⟩) [(4, 9)] [5, 6, 7, 8, 9, 10, 11, 12, 13] mixC (by repeat (first | exact SubE.nil | refine SubE.cons _ _ _ rfl ?_)) (Less.refl _) (by kernel_rfl) (by kernel_rfl) (by kernel_rfl) ?_ ?_
          · refine ⟨?_, ?_, ?_, ?_, ?_, ?_, trivial⟩
            · (intro x EF MF Q kk; exact JL.q (OQ.load_agg (cs := o20.l.map U64) n5a n5s rfl .here rfl Row.all) rfl (JL.nil (kk default nofun)))
            · (intro x EF MF Q kk; exact JL.q (OQ.callx (vs := [.agg (o20.l.map U64).toArray, N 20]) goes_squared rfl fun w' _ => c_q7 w') rfl (JL.nil (kk default nofun)))
            · (intro x EF MF Q kk; exact JL.q (OQ.load_agg (cs := o20.l.map U64) n5a n5s rfl .here rfl Row.all) rfl (JL.nil (kk default nofun)))
            · (intro x EF MF Q kk; exact JL.q (OQ.callx (vs := [.agg (q7.l.map U64).toArray, .agg (o20.l.map U64).toArray]) goes_product rfl fun w' _ => c_o40 w') rfl (JL.nil (kk default nofun)))
            · (intro x EF MF Q kk; exact JL.alloc n5z rfl fun b _ => JL.nil (kk b nofun))
            · (intro x EF MF Q kk; exact JL.store_all (cs := o40.l.map U64) n5s rfl rfl rfl (W_cell _) .here rfl (JL.nil (kk (x 4) (fun k h => by cases h; rfl))))
          · intro x hx
            have h5 := hx 5 4 (by decide) rfl
            show JE _ _ _ _ _ [(9, Pt (x 4) 0), (8, Pt b8 0), (7, Pt b7 0), (6, Pt b6 0), (5, Pt b5 0), (4, Pt b4 0), (1, Pt b1 0), (2, Pt b2 0), (3, Pt b3 0)] [⟨(x 5), Row 117 (o40.l.map U64), true⟩, ⟨b8, Row 117 (o20.l.map U64), true⟩, ⟨b7, Row 117 (o10.l.map U64), true⟩, ⟨b6, Row 117 (o5.l.map U64), true⟩, ⟨b5, Row 117 (elv.l.map U64), true⟩, ⟨b4, Row 117 (nine.l.map U64), true⟩, ⟨b3, Row 117 (two.l.map U64), true⟩, ⟨b2, Row 117 (zeroN.l.map U64), true⟩, ⟨b1, Row 117 (n.l.map U64), true⟩]
            rw [h5]
            generalize x 4 = b9
            clear hx h5 x vs Ms
            repeat (first | refine JC.seq ?_ | refine JE.next ?_)
            let vs : Nat → Nat → Value := fun j x => match j with
              | 0 => .agg (o40.l.map U64).toArray
              | 1 => .agg (q8.l.map U64).toArray
              | 2 => .agg (o10.l.map U64).toArray
              | 3 => .agg (o50.l.map U64).toArray
              | _ => Pt x 0
            let Ms : Nat → Nat → List Ent := fun j x => match j with
              | 4 => [⟨x, Row 117 (zeroN.l.map U64), true⟩]
              | 5 => [⟨x, Row 117 (o50.l.map U64), true⟩]
              | 6 => [⟨b9, Row 117 (o40.l.map U64), true⟩]
              | 7 => [⟨b8, Row 117 (o20.l.map U64), true⟩]
              | 8 => [⟨b7, Row 117 (o10.l.map U64), true⟩]
              | 9 => [⟨b6, Row 117 (o5.l.map U64), true⟩]
              | 10 => [⟨b5, Row 117 (elv.l.map U64), true⟩]
              | 11 => [⟨b4, Row 117 (nine.l.map U64), true⟩]
              | 12 => [⟨b3, Row 117 (two.l.map U64), true⟩]
              | 13 => [⟨b2, Row 117 (zeroN.l.map U64), true⟩]
              | 14 => [⟨b1, Row 117 (n.l.map U64), true⟩]
              | _ => []
            refine JC.grow (g := ⟨[(9, Pt b9 0), (8, Pt b8 0), (7, Pt b7 0), (6, Pt b6 0), (5, Pt b5 0), (4, Pt b4 0), (1, Pt b1 0), (2, Pt b2 0), (3, Pt b3 0)], 15, vs, Ms, (fun j => match j with | 1 => [(0, 39)] | 3 => [(1, 40), (2, 41)] | 5 => [(4, 10), (3, 42)] | _ => []), (fun j => match j with | 0 => [6] | 2 => [8] | 5 => [4] | _ => []), (fun j => match j with | 5 => [4] | _ => []), (fun j => match j with | 5 => some 4 | _ => none)⟩) [(4, 10)] [5, 6, 7, 8, 9, 10, 11, 12, 13, 14] mixC (by repeat (first | exact SubE.nil | refine SubE.cons _ _ _ rfl ?_)) (Less.refl _) (by kernel_rfl) (by kernel_rfl) (by kernel_rfl) ?_ ?_
            · refine ⟨?_, ?_, ?_, ?_, ?_, ?_, trivial⟩
              · (intro x EF MF Q kk; exact JL.q (OQ.load_agg (cs := o40.l.map U64) n5a n5s rfl .here rfl Row.all) rfl (JL.nil (kk default nofun)))
              · (intro x EF MF Q kk; exact JL.q (OQ.callx (vs := [.agg (o40.l.map U64).toArray, N 10]) goes_squared rfl fun w' _ => c_q8 w') rfl (JL.nil (kk default nofun)))
              · (intro x EF MF Q kk; exact JL.q (OQ.load_agg (cs := o10.l.map U64) n5a n5s rfl .here rfl Row.all) rfl (JL.nil (kk default nofun)))
              · (intro x EF MF Q kk; exact JL.q (OQ.callx (vs := [.agg (q8.l.map U64).toArray, .agg (o10.l.map U64).toArray]) goes_product rfl fun w' _ => c_o50 w') rfl (JL.nil (kk default nofun)))
              · (intro x EF MF Q kk; exact JL.alloc n5z rfl fun b _ => JL.nil (kk b nofun))
              · (intro x EF MF Q kk; exact JL.store_all (cs := o50.l.map U64) n5s rfl rfl rfl (W_cell _) .here rfl (JL.nil (kk (x 4) (fun k h => by cases h; rfl))))
            · intro x hx
              have h5 := hx 5 4 (by decide) rfl
              show JE _ _ _ _ _ [(10, Pt (x 4) 0), (9, Pt b9 0), (8, Pt b8 0), (7, Pt b7 0), (6, Pt b6 0), (5, Pt b5 0), (4, Pt b4 0), (1, Pt b1 0), (2, Pt b2 0), (3, Pt b3 0)] [⟨(x 5), Row 117 (o50.l.map U64), true⟩, ⟨b9, Row 117 (o40.l.map U64), true⟩, ⟨b8, Row 117 (o20.l.map U64), true⟩, ⟨b7, Row 117 (o10.l.map U64), true⟩, ⟨b6, Row 117 (o5.l.map U64), true⟩, ⟨b5, Row 117 (elv.l.map U64), true⟩, ⟨b4, Row 117 (nine.l.map U64), true⟩, ⟨b3, Row 117 (two.l.map U64), true⟩, ⟨b2, Row 117 (zeroN.l.map U64), true⟩, ⟨b1, Row 117 (n.l.map U64), true⟩]
              rw [h5]
              generalize x 4 = b10
              clear hx h5 x vs Ms
              repeat (first | refine JC.seq ?_ | refine JE.next ?_)
              let vs : Nat → Nat → Value := fun j x => match j with
                | 0 => .agg (o50.l.map U64).toArray
                | 1 => .agg (q9.l.map U64).toArray
                | 2 => .agg (o50.l.map U64).toArray
                | 3 => .agg (o100.l.map U64).toArray
                | _ => Pt x 0
              let Ms : Nat → Nat → List Ent := fun j x => match j with
                | 4 => [⟨x, Row 117 (zeroN.l.map U64), true⟩]
                | 5 => [⟨x, Row 117 (o100.l.map U64), true⟩]
                | 6 => [⟨b10, Row 117 (o50.l.map U64), true⟩]
                | 7 => [⟨b9, Row 117 (o40.l.map U64), true⟩]
                | 8 => [⟨b8, Row 117 (o20.l.map U64), true⟩]
                | 9 => [⟨b7, Row 117 (o10.l.map U64), true⟩]
                | 10 => [⟨b6, Row 117 (o5.l.map U64), true⟩]
                | 11 => [⟨b5, Row 117 (elv.l.map U64), true⟩]
                | 12 => [⟨b4, Row 117 (nine.l.map U64), true⟩]
                | 13 => [⟨b3, Row 117 (two.l.map U64), true⟩]
                | 14 => [⟨b2, Row 117 (zeroN.l.map U64), true⟩]
                | 15 => [⟨b1, Row 117 (n.l.map U64), true⟩]
                | _ => []
              refine JC.grow (g := ⟨[(10, Pt b10 0), (9, Pt b9 0), (8, Pt b8 0), (7, Pt b7 0), (6, Pt b6 0), (5, Pt b5 0), (4, Pt b4 0), (1, Pt b1 0), (2, Pt b2 0), (3, Pt b3 0)], 16, vs, Ms, (fun j => match j with | 1 => [(0, 43)] | 3 => [(1, 44), (2, 45)] | 5 => [(4, 11), (3, 46)] | _ => []), (fun j => match j with | 0 => [6] | 2 => [6] | 5 => [4] | _ => []), (fun j => match j with | 5 => [4] | _ => []), (fun j => match j with | 5 => some 4 | _ => none)⟩) [(4, 11)] [5, 6, 7, 8, 9, 10, 11, 12, 13, 14, 15] mixC (by repeat (first | exact SubE.nil | refine SubE.cons _ _ _ rfl ?_)) (Less.refl _) (by kernel_rfl) (by kernel_rfl) (by kernel_rfl) ?_ ?_
              · refine ⟨?_, ?_, ?_, ?_, ?_, ?_, trivial⟩
                · (intro x EF MF Q kk; exact JL.q (OQ.load_agg (cs := o50.l.map U64) n5a n5s rfl .here rfl Row.all) rfl (JL.nil (kk default nofun)))
                · (intro x EF MF Q kk; exact JL.q (OQ.callx (vs := [.agg (o50.l.map U64).toArray, N 50]) goes_squared rfl fun w' _ => c_q9 w') rfl (JL.nil (kk default nofun)))
                · (intro x EF MF Q kk; exact JL.q (OQ.load_agg (cs := o50.l.map U64) n5a n5s rfl .here rfl Row.all) rfl (JL.nil (kk default nofun)))
                · (intro x EF MF Q kk; exact JL.q (OQ.callx (vs := [.agg (q9.l.map U64).toArray, .agg (o50.l.map U64).toArray]) goes_product rfl fun w' _ => c_o100 w') rfl (JL.nil (kk default nofun)))
                · (intro x EF MF Q kk; exact JL.alloc n5z rfl fun b _ => JL.nil (kk b nofun))
                · (intro x EF MF Q kk; exact JL.store_all (cs := o100.l.map U64) n5s rfl rfl rfl (W_cell _) .here rfl (JL.nil (kk (x 4) (fun k h => by cases h; rfl))))
              · intro x hx
                have h5 := hx 5 4 (by decide) rfl
                show JE _ _ _ _ _ [(11, Pt (x 4) 0), (10, Pt b10 0), (9, Pt b9 0), (8, Pt b8 0), (7, Pt b7 0), (6, Pt b6 0), (5, Pt b5 0), (4, Pt b4 0), (1, Pt b1 0), (2, Pt b2 0), (3, Pt b3 0)] [⟨(x 5), Row 117 (o100.l.map U64), true⟩, ⟨b10, Row 117 (o50.l.map U64), true⟩, ⟨b9, Row 117 (o40.l.map U64), true⟩, ⟨b8, Row 117 (o20.l.map U64), true⟩, ⟨b7, Row 117 (o10.l.map U64), true⟩, ⟨b6, Row 117 (o5.l.map U64), true⟩, ⟨b5, Row 117 (elv.l.map U64), true⟩, ⟨b4, Row 117 (nine.l.map U64), true⟩, ⟨b3, Row 117 (two.l.map U64), true⟩, ⟨b2, Row 117 (zeroN.l.map U64), true⟩, ⟨b1, Row 117 (n.l.map U64), true⟩]
                rw [h5]
                generalize x 4 = b11
                clear hx h5 x vs Ms
                repeat (first | refine JC.seq ?_ | refine JE.next ?_)
                let vs : Nat → Nat → Value := fun j x => match j with
                  | 0 => .agg (o100.l.map U64).toArray
                  | 1 => .agg (q10.l.map U64).toArray
                  | 2 => .agg (o100.l.map U64).toArray
                  | 3 => .agg (o200.l.map U64).toArray
                  | _ => Pt x 0
                let Ms : Nat → Nat → List Ent := fun j x => match j with
                  | 4 => [⟨x, Row 117 (zeroN.l.map U64), true⟩]
                  | 5 => [⟨x, Row 117 (o200.l.map U64), true⟩]
                  | 6 => [⟨b11, Row 117 (o100.l.map U64), true⟩]
                  | 7 => [⟨b10, Row 117 (o50.l.map U64), true⟩]
                  | 8 => [⟨b9, Row 117 (o40.l.map U64), true⟩]
                  | 9 => [⟨b8, Row 117 (o20.l.map U64), true⟩]
                  | 10 => [⟨b7, Row 117 (o10.l.map U64), true⟩]
                  | 11 => [⟨b6, Row 117 (o5.l.map U64), true⟩]
                  | 12 => [⟨b5, Row 117 (elv.l.map U64), true⟩]
                  | 13 => [⟨b4, Row 117 (nine.l.map U64), true⟩]
                  | 14 => [⟨b3, Row 117 (two.l.map U64), true⟩]
                  | 15 => [⟨b2, Row 117 (zeroN.l.map U64), true⟩]
                  | 16 => [⟨b1, Row 117 (n.l.map U64), true⟩]
                  | _ => []
                refine JC.grow (g := ⟨[(11, Pt b11 0), (10, Pt b10 0), (9, Pt b9 0), (8, Pt b8 0), (7, Pt b7 0), (6, Pt b6 0), (5, Pt b5 0), (4, Pt b4 0), (1, Pt b1 0), (2, Pt b2 0), (3, Pt b3 0)], 17, vs, Ms, (fun j => match j with | 1 => [(0, 47)] | 3 => [(1, 48), (2, 49)] | 5 => [(4, 12), (3, 50)] | _ => []), (fun j => match j with | 0 => [6] | 2 => [6] | 5 => [4] | _ => []), (fun j => match j with | 5 => [4] | _ => []), (fun j => match j with | 5 => some 4 | _ => none)⟩) [(4, 12)] [5, 6, 7, 8, 9, 10, 11, 12, 13, 14, 15, 16] mixC (by repeat (first | exact SubE.nil | refine SubE.cons _ _ _ rfl ?_)) (Less.refl _) (by kernel_rfl) (by kernel_rfl) (by kernel_rfl) ?_ ?_
                · refine ⟨?_, ?_, ?_, ?_, ?_, ?_, trivial⟩
                  · (intro x EF MF Q kk; exact JL.q (OQ.load_agg (cs := o100.l.map U64) n5a n5s rfl .here rfl Row.all) rfl (JL.nil (kk default nofun)))
                  · (intro x EF MF Q kk; exact JL.q (OQ.callx (vs := [.agg (o100.l.map U64).toArray, N 100]) goes_squared rfl fun w' _ => c_q10 w') rfl (JL.nil (kk default nofun)))
                  · (intro x EF MF Q kk; exact JL.q (OQ.load_agg (cs := o100.l.map U64) n5a n5s rfl .here rfl Row.all) rfl (JL.nil (kk default nofun)))
                  · (intro x EF MF Q kk; exact JL.q (OQ.callx (vs := [.agg (q10.l.map U64).toArray, .agg (o100.l.map U64).toArray]) goes_product rfl fun w' _ => c_o200 w') rfl (JL.nil (kk default nofun)))
                  · (intro x EF MF Q kk; exact JL.alloc n5z rfl fun b _ => JL.nil (kk b nofun))
                  · (intro x EF MF Q kk; exact JL.store_all (cs := o200.l.map U64) n5s rfl rfl rfl (W_cell _) .here rfl (JL.nil (kk (x 4) (fun k h => by cases h; rfl))))
                · intro x hx
                  have h5 := hx 5 4 (by decide) rfl
                  show JE _ _ _ _ _ [(12, Pt (x 4) 0), (11, Pt b11 0), (10, Pt b10 0), (9, Pt b9 0), (8, Pt b8 0), (7, Pt b7 0), (6, Pt b6 0), (5, Pt b5 0), (4, Pt b4 0), (1, Pt b1 0), (2, Pt b2 0), (3, Pt b3 0)] [⟨(x 5), Row 117 (o200.l.map U64), true⟩, ⟨b11, Row 117 (o100.l.map U64), true⟩, ⟨b10, Row 117 (o50.l.map U64), true⟩, ⟨b9, Row 117 (o40.l.map U64), true⟩, ⟨b8, Row 117 (o20.l.map U64), true⟩, ⟨b7, Row 117 (o10.l.map U64), true⟩, ⟨b6, Row 117 (o5.l.map U64), true⟩, ⟨b5, Row 117 (elv.l.map U64), true⟩, ⟨b4, Row 117 (nine.l.map U64), true⟩, ⟨b3, Row 117 (two.l.map U64), true⟩, ⟨b2, Row 117 (zeroN.l.map U64), true⟩, ⟨b1, Row 117 (n.l.map U64), true⟩]
                  rw [h5]
                  generalize x 4 = b12
                  clear hx h5 x vs Ms
                  repeat (first | refine JC.seq ?_ | refine JE.next ?_)
                  let vs : Nat → Nat → Value := fun j x => match j with
                    | 0 => .agg (o200.l.map U64).toArray
                    | 1 => .agg (q11.l.map U64).toArray
                    | 2 => .agg (o50.l.map U64).toArray
                    | 3 => .agg (o250.l.map U64).toArray
                    | _ => Pt x 0
                  let Ms : Nat → Nat → List Ent := fun j x => match j with
                    | 4 => [⟨x, Row 117 (zeroN.l.map U64), true⟩]
                    | 5 => [⟨x, Row 117 (o250.l.map U64), true⟩]
                    | 6 => [⟨b12, Row 117 (o200.l.map U64), true⟩]
                    | 7 => [⟨b11, Row 117 (o100.l.map U64), true⟩]
                    | 8 => [⟨b10, Row 117 (o50.l.map U64), true⟩]
                    | 9 => [⟨b9, Row 117 (o40.l.map U64), true⟩]
                    | 10 => [⟨b8, Row 117 (o20.l.map U64), true⟩]
                    | 11 => [⟨b7, Row 117 (o10.l.map U64), true⟩]
                    | 12 => [⟨b6, Row 117 (o5.l.map U64), true⟩]
                    | 13 => [⟨b5, Row 117 (elv.l.map U64), true⟩]
                    | 14 => [⟨b4, Row 117 (nine.l.map U64), true⟩]
                    | 15 => [⟨b3, Row 117 (two.l.map U64), true⟩]
                    | 16 => [⟨b2, Row 117 (zeroN.l.map U64), true⟩]
                    | 17 => [⟨b1, Row 117 (n.l.map U64), true⟩]
                    | _ => []
                  refine JC.grow (g := ⟨[(12, Pt b12 0), (11, Pt b11 0), (10, Pt b10 0), (9, Pt b9 0), (8, Pt b8 0), (7, Pt b7 0), (6, Pt b6 0), (5, Pt b5 0), (4, Pt b4 0), (1, Pt b1 0), (2, Pt b2 0), (3, Pt b3 0)], 18, vs, Ms, (fun j => match j with | 1 => [(0, 51)] | 3 => [(1, 52), (2, 53)] | 5 => [(4, 13), (3, 54)] | _ => []), (fun j => match j with | 0 => [6] | 2 => [8] | 5 => [4] | _ => []), (fun j => match j with | 5 => [4] | _ => []), (fun j => match j with | 5 => some 4 | _ => none)⟩) [(4, 13)] [5, 6, 7, 8, 9, 10, 11, 12, 13, 14, 15, 16, 17] mixC (by repeat (first | exact SubE.nil | refine SubE.cons _ _ _ rfl ?_)) (Less.refl _) (by kernel_rfl) (by kernel_rfl) (by kernel_rfl) ?_ ?_
                  · refine ⟨?_, ?_, ?_, ?_, ?_, ?_, trivial⟩
                    · (intro x EF MF Q kk; exact JL.q (OQ.load_agg (cs := o200.l.map U64) n5a n5s rfl .here rfl Row.all) rfl (JL.nil (kk default nofun)))
                    · (intro x EF MF Q kk; exact JL.q (OQ.callx (vs := [.agg (o200.l.map U64).toArray, N 50]) goes_squared rfl fun w' _ => c_q11 w') rfl (JL.nil (kk default nofun)))
                    · (intro x EF MF Q kk; exact JL.q (OQ.load_agg (cs := o50.l.map U64) n5a n5s rfl .here rfl Row.all) rfl (JL.nil (kk default nofun)))
                    · (intro x EF MF Q kk; exact JL.q (OQ.callx (vs := [.agg (q11.l.map U64).toArray, .agg (o50.l.map U64).toArray]) goes_product rfl fun w' _ => c_o250 w') rfl (JL.nil (kk default nofun)))
                    · (intro x EF MF Q kk; exact JL.alloc n5z rfl fun b _ => JL.nil (kk b nofun))
                    · (intro x EF MF Q kk; exact JL.store_all (cs := o250.l.map U64) n5s rfl rfl rfl (W_cell _) .here rfl (JL.nil (kk (x 4) (fun k h => by cases h; rfl))))
                  · intro x hx
                    have h5 := hx 5 4 (by decide) rfl
                    show JE _ _ _ _ _ [(13, Pt (x 4) 0), (12, Pt b12 0), (11, Pt b11 0), (10, Pt b10 0), (9, Pt b9 0), (8, Pt b8 0), (7, Pt b7 0), (6, Pt b6 0), (5, Pt b5 0), (4, Pt b4 0), (1, Pt b1 0), (2, Pt b2 0), (3, Pt b3 0)] [⟨(x 5), Row 117 (o250.l.map U64), true⟩, ⟨b12, Row 117 (o200.l.map U64), true⟩, ⟨b11, Row 117 (o100.l.map U64), true⟩, ⟨b10, Row 117 (o50.l.map U64), true⟩, ⟨b9, Row 117 (o40.l.map U64), true⟩, ⟨b8, Row 117 (o20.l.map U64), true⟩, ⟨b7, Row 117 (o10.l.map U64), true⟩, ⟨b6, Row 117 (o5.l.map U64), true⟩, ⟨b5, Row 117 (elv.l.map U64), true⟩, ⟨b4, Row 117 (nine.l.map U64), true⟩, ⟨b3, Row 117 (two.l.map U64), true⟩, ⟨b2, Row 117 (zeroN.l.map U64), true⟩, ⟨b1, Row 117 (n.l.map U64), true⟩]
                    rw [h5]
                    generalize x 4 = b13
                    clear hx h5 x vs Ms
                    repeat (first | refine JC.seq ?_ | refine JE.next ?_)
                    refine JC.tail 4 mixC (by kernel_rfl) ?_
                    simp only [List.take_succ_cons, List.take_zero, List.drop_succ_cons, List.drop_zero]
                    repeat (first | refine JQ.q (by first | (apply OQ.load_agg (cs := o250.l.map U64); exact n5a; exact n5s; exact rfl; exact (by repeat (first | exact Has.here | apply Has.there)); exact rfl; exact Row.all) | (apply OQ.load_agg (cs := elv.l.map U64); exact n5a; exact n5s; exact rfl; exact (by repeat (first | exact Has.here | apply Has.there)); exact rfl; exact Row.all) | (apply OQ.callx (vs := [.agg (o250.l.map U64).toArray, N 5]); exact goes_squared; exact rfl; exact (fun w' _ => c_q12 w')) | (apply OQ.callx (vs := [.agg (q12.l.map U64).toArray, .agg (elv.l.map U64).toArray]); exact goes_product; exact rfl; exact (fun w' _ => c_fin w'))) rfl ?_ | refine JQ.nil_tail ?_)
                    refine JL.store_all (cs := fin.l.map U64) n5s rfl rfl rfl (W_cell _) (by repeat (first | exact Upd.here | apply Upd.there)) rfl ?_
                    repeat (first | refine JL.nil ?_ | refine JE.next ?_)
                    refine JC.ret (JE.ret1 rfl (RV.cell_agg n5a n5s rfl (by repeat (first | exact Has.here | apply Has.there)) rfl Row.all) ?_)
                    exact fun w' hw => ⟨rfl, hw.chg⟩
end Go.Proofs.YtbhlcnimjoppeaaDoor

/-
  Of no statement by itself: what the code's least, key, exchange and exchanged give.
  Conditions: each theorem's own.
-/
namespace Go.Proofs.YtbhlcnimjoppeaaDoor
set_option maxRecDepth 10000
open Sl Crv
theorem W_nth {l : List W64} {i : Nat} (h : i < l.length) : (l.map U64)[i]? = some (U64 (l.getD i 0)) := by
  simp [h]
theorem W_set (l : List W64) (i : Nat) (x : W64) : (l.map U64).set i (U64 x) = (l.set i x).map U64 := by rw [List.map_set]
theorem goes_least : Goes Tryd.prog 107 := ⟨_, Tryd.func107, rfl, by kernel_rfl⟩
theorem goes_key5 : Goes Tryd.prog 78 := ⟨_, Tryd.func78, rfl, by kernel_rfl⟩
theorem goes_exchange : Goes Tryd.prog 100 := ⟨_, Tryd.func100, rfl, by kernel_rfl⟩
theorem goes_exchanged : Goes Tryd.prog 74 := ⟨_, Tryd.func74, rfl, by kernel_rfl⟩
set_option maxHeartbeats 16000000 in
theorem least_any (n : N5) (w : World) : Calls Tryd.prog 107 [.agg (n.l.map U64).toArray].toArray w fun e w' => e = .returned (.agg ((lstB n).l.map U64).toArray) ∧ Ext w w' := by
  have eL := leB_all n
  have hll : ∀ c i, (leB n.l c i).length = 5 := fun c i => leB_len n.l c i
  refine enter (n := 36) Tryd.func107 rfl rfl rfl (Holds.start w []) ?_
  repeat (first | refine JC.seq ?_ | refine JC.region ?_)
  refine JL.box (r := n.l.map U64) rfl rfl rfl fun b1 _ => ?_
  refine JL.alloc n5z rfl fun b2 _ => ?_
  repeat (first | refine JL.q (by first | (apply OQ.load_agg (cs := n.l.map U64); exact n5a; exact n5s; exact rfl; exact (.there .here); exact rfl; exact Row.all) | (apply OQ.move; exact rfl) | (apply OQ.assign; exact rfl)) rfl ?_ | refine JC.seq ?_ | refine JC.region ?_ | refine JC.block ?_ | refine JL.nil ?_ | refine JE.next ?_)
  refine JC.loop (fun i : Nat => [(1, Pt b1 0), (2, Pt b2 0), (3, U64 (rsB n.l 19#64 i)), (9, .agg (n.l.map U64).toArray), (10, N i)])
    (fun _ => [⟨b2, Row 117 (zeroN.l.map U64), true⟩, ⟨b1, Row 117 (n.l.map U64), true⟩])
    (fun i => 5 - i) (fun i => i ≤ 5) 0 (by omega) (by repeat (first | exact SubE.nil | refine SubE.cons _ _ _ rfl ?_)) (Less.refl _) ?_
  intro i hi
  repeat (first | refine JL.q (by (apply OQ.lssN; exact rfl; exact rfl)) rfl ?_ | refine JC.seq ?_ | refine JC.region ?_ | refine JL.nil ?_ | refine JE.next ?_)
  refine JC.cond rfl (fun h => ?_) (fun h => ?_)
  · have hi' : i < 5 := of_decide_eq_true h
    clear h hi
    have hc : (n.l.map U64)[i]? = some (U64 (n.l.getD i 0)) := W_nth hi'
    have eR : rsB n.l 19#64 (i + 1) = (n.l.getD i 0 + rsB n.l 19#64 i) >>> 51 := rfl
    generalize n.l.getD i 0 = y at hc eR
    repeat (first | refine JL.q (by first | (apply OQ.index; exact Tryd.underlying117; exact w8s; exact w8c; exact rfl; exact rfl; exact hi'; exact hc) | (apply OQ.move; exact rfl) | (apply OQ.assign; exact rfl) | (apply OQ.add64; exact rfl; exact rfl) | (apply OQ.shr64; exact rfl; exact rfl) | (apply OQ.addN; exact rfl; exact rfl; exact (by (try simp only []); omega))) rfl ?_ | refine JC.seq ?_ | refine JC.region ?_ | refine JC.block ?_ | refine JC.skip ?_ | refine JL.nil ?_ | refine JE.next ?_ | refine JE.blk_normal ?_)
    refine JE.again (i := i) (i + 1) (by omega) (by omega) ?_ (Less.refl _)
    rw [eR]
    exact (by repeat (first | exact SubE.nil | refine SubE.cons _ _ _ rfl ?_))
  · have hi' : ¬ i < 5 := of_decide_eq_false h
    obtain rfl : i = 5 := by omega
    clear h hi hi'
    generalize rsB n.l 19#64 5 = ov at eL ⊢
    repeat (first | refine JL.q (by first | (apply OQ.load_agg (cs := n.l.map U64); exact n5a; exact n5s; exact rfl; exact (.there .here); exact rfl; exact Row.all) | (apply OQ.mul64 (a := 19#64); exact rfl; exact rfl) | (apply OQ.move; exact rfl) | (apply OQ.assign; exact rfl)) rfl ?_ | refine JC.seq ?_ | refine JC.region ?_ | refine JC.block ?_ | refine JC.exit ?_ | refine JL.nil ?_ | refine JE.next ?_ | refine JE.then_exit ?_ | refine JE.blk_hit ?_)
    generalize 19#64 * ov = C at eL ⊢
    refine JC.loop (fun i : Nat => [(1, Pt b1 0), (2, Pt b2 0), (6, U64 (rsB n.l C i)), (20, .agg (n.l.map U64).toArray), (21, N i)])
      (fun i => [⟨b2, Row 117 (zeroN.l.map U64), true⟩, ⟨b1, Row 117 ((leB n.l C i).map U64), true⟩])
      (fun i => 5 - i) (fun i => i ≤ 5) 0 (by omega) (by repeat (first | exact SubE.nil | refine SubE.cons _ _ _ rfl ?_)) (Less.refl _) ?_
    intro i hi
    repeat (first | refine JL.q (by (apply OQ.lssN; exact rfl; exact rfl)) rfl ?_ | refine JC.seq ?_ | refine JC.region ?_ | refine JL.nil ?_ | refine JE.next ?_)
    refine JC.cond rfl (fun h => ?_) (fun h => ?_)
    · have hi' : i < 5 := of_decide_eq_true h
      clear h hi
      have hc : (n.l.map U64)[i]? = some (U64 (n.l.getD i 0)) := W_nth hi'
      have eR : rsB n.l C (i + 1) = (n.l.getD i 0 + rsB n.l C i) >>> 51 := rfl
      have eS : leB n.l C (i + 1) = (leB n.l C i).set i ((n.l.getD i 0 + rsB n.l C i) &&& 2251799813685247#64) := rfl
      have hlen := hll C i
      generalize leB n.l C i = X at eS hlen ⊢
      generalize n.l.getD i 0 = y at hc eR eS
      repeat (first | refine JL.q (by first | (apply OQ.index; exact Tryd.underlying117; exact w8s; exact w8c; exact rfl; exact rfl; exact hi'; exact hc) | (apply OQ.and64 (b := 2251799813685247#64); exact rfl; exact rfl) | (apply OQ.idxA0; exact Tryd.underlying117; exact w8s; exact rfl; exact rfl; exact hi') | (apply OQ.move; exact rfl) | (apply OQ.assign; exact rfl) | (apply OQ.add64; exact rfl; exact rfl) | (apply OQ.shr64; exact rfl; exact rfl)) rfl ?_ | refine JC.seq ?_ | refine JC.region ?_ | refine JC.block ?_ | refine JC.skip ?_ | refine JL.nil ?_ | refine JE.next ?_)
      refine JL.store_eq (r' := (leB n.l C (i + 1)).map U64) w8s rfl rfl rfl rfl (.there .here) (by rw [List.length_map, hlen]; exact hi') (by rw [eS]; exact W_set _ _ _) ?_
      repeat (first | refine JL.q (by first | (apply OQ.move; exact rfl) | (apply OQ.assign; exact rfl) | (apply OQ.addN; exact rfl; exact rfl; exact (by (try simp only []); omega))) rfl ?_ | refine JC.region ?_ | refine JL.nil ?_ | refine JE.next ?_ | refine JE.blk_normal ?_)
      refine JE.again (i := i) (i + 1) (by omega) (by omega) ?_ (Less.refl _)
      rw [eR]
      exact (by repeat (first | exact SubE.nil | refine SubE.cons _ _ _ rfl ?_))
    · have hi' : ¬ i < 5 := of_decide_eq_false h
      obtain rfl : i = 5 := by omega
      clear h hi hi'
      rw [eL]
      generalize lstB n = X
      repeat (first | refine JL.q (by (apply OQ.load_agg (cs := X.l.map U64); exact n5a; exact n5s; exact rfl; exact (.there .here); exact rfl; exact Row.all)) rfl ?_ | refine JC.seq ?_ | refine JC.region ?_ | refine JC.exit ?_ | refine JE.next ?_ | refine JE.then_exit ?_ | refine JE.blk_hit ?_)
      refine JL.store_all (cs := X.l.map U64) n5s rfl rfl rfl (W_cell _) .here rfl ?_
      repeat (first | refine JL.nil ?_ | refine JE.next ?_)
      refine JC.ret (JE.ret1 rfl (RV.cell_agg n5a n5s rfl .here rfl Row.all) ?_)
      exact fun w' hw => ⟨rfl, hw.chg⟩

theorem w4s : szT Tryd.prog 156 = some 4 := by kernel_rfl
theorem w4z : zc Tryd.prog 156 = some (([0, 0, 0, 0] : List W64).map U64) := by kernel_rfl
set_option maxHeartbeats 16000000 in
theorem key5_any (n : N5) (w : World) : Calls Tryd.prog 78 [.agg (n.l.map U64).toArray].toArray w fun e w' => e = .returned (.agg ((kyB n).map U8).toArray) ∧ Ext w w' := by
  have cl := least_any n
  have eK : kyB n = kbB (wdsB (lstB n)) 32 := rfl
  rw [eK]
  clear eK
  generalize lstB n = m at cl ⊢
  have c0 : (m.l.map U64)[0]? = some (U64 m.a0) := rfl
  have c1 : (m.l.map U64)[1]? = some (U64 m.a1) := rfl
  have c2 : (m.l.map U64)[2]? = some (U64 m.a2) := rfl
  have c3 : (m.l.map U64)[3]? = some (U64 m.a3) := rfl
  have c4 : (m.l.map U64)[4]? = some (U64 m.a4) := rfl
  refine enter (n := 52) Tryd.func78 rfl rfl rfl (Holds.start w []) ?_
  repeat (first | refine JC.seq ?_ | refine JC.region ?_)
  refine JL.box (r := n.l.map U64) rfl rfl rfl fun b1 _ => ?_
  refine JL.alloc k32z rfl fun b2 _ => ?_
  repeat (first | refine JL.q (by first | (apply OQ.load_agg (cs := n.l.map U64); exact n5a; exact n5s; exact rfl; exact (.there .here); exact rfl; exact Row.all) | (apply OQ.callx; exact goes_least; exact rfl; exact (fun w' _ => cl w'))) rfl ?_ | refine JC.seq ?_ | refine JC.region ?_ | refine JL.nil ?_ | refine JE.next ?_)
  refine JL.store_all (cs := m.l.map U64) n5s rfl rfl rfl (W_cell _) (.there .here) rfl ?_
  repeat (first | refine JL.q (by first | (apply OQ.idxA0; exact Tryd.underlying117; exact w8s; exact rfl; exact rfl; exact (by decide)) | (apply OQ.load; exact w8c; exact rfl; exact (.there .here); exact (Row.cell c0)) | (apply OQ.load; exact w8c; exact rfl; exact (.there .here); exact (Row.cell c1)) | (apply OQ.load; exact w8c; exact rfl; exact (.there .here); exact (Row.cell c2)) | (apply OQ.load; exact w8c; exact rfl; exact (.there .here); exact (Row.cell c3)) | (apply OQ.load; exact w8c; exact rfl; exact (.there .here); exact (Row.cell c4)) | (apply OQ.shl64; exact rfl; exact rfl) | (apply OQ.or64; exact rfl; exact rfl) | (apply OQ.shr64; exact rfl; exact rfl)) rfl ?_ | refine JC.seq ?_ | refine JC.region ?_ | refine JL.nil ?_ | refine JE.next ?_)
  refine JL.q (OQ.pure (v := .agg ((wdsB m).map U64).toArray) rfl rfl (by kernel_rfl)) rfl ?_
  refine JL.alloc w4z rfl fun b3 _ => ?_
  refine JL.store_all (cs := (wdsB m).map U64) w4s rfl rfl rfl (W_cell _) .here rfl ?_
  have hw4 : (wdsB m).length = 4 := rfl
  generalize wdsB m = W at hw4 ⊢
  repeat (first | refine JC.seq ?_ | refine JC.region ?_ | refine JL.nil ?_ | refine JE.next ?_)
  refine JL.alloc k32z rfl fun b4 _ => ?_
  repeat (first | refine JL.q (by (apply OQ.move; exact rfl)) rfl ?_ | refine JC.seq ?_ | refine JC.region ?_ | refine JC.block ?_ | refine JL.nil ?_ | refine JE.next ?_)
  refine JC.loop (fun i : Nat => [(1, Pt b1 0), (2, Pt b2 0), (3, Pt b3 0), (4, Pt b4 0), (36, N i)])
    (fun i => [⟨b4, Row 23 ((kbB W i).map U8), true⟩, ⟨b3, Row 156 (W.map U64), true⟩, ⟨b2, Row 23 ((List.replicate 32 (0 : By)).map U8), true⟩])
    (fun i => 32 - i) (fun i => i ≤ 32) 0 (by omega) (by repeat (first | exact SubE.nil | refine SubE.cons _ _ _ rfl ?_)) (.keep _ _ _ _ _ _ (fun _ h => h) (.keep _ _ _ _ _ _ (fun _ h => h) (.keep _ _ _ _ _ _ (fun _ h => h) (.nil _)))) ?_
  intro i hi
  have hlen := kbB_len W i
  repeat (first | refine JL.q (by (apply OQ.lssN; exact rfl; exact rfl)) rfl ?_ | refine JC.seq ?_ | refine JC.region ?_ | refine JL.nil ?_ | refine JE.next ?_)
  refine JC.cond rfl (fun h => ?_) (fun h => ?_)
  · have hi' : i < 32 := of_decide_eq_true h
    clear h hi
    have hc := W_nth (l := W) (i := i / 8) (by omega)
    have eS : kbB W (i + 1) = (kbB W i).set i ((W.getD (i / 8) 0 >>> (i % 8 * 8)).setWidth 8) := rfl
    generalize kbB W i = X at eS hlen ⊢
    repeat (first | refine JL.q (by first | (apply OQ.idxA0; exact Tryd.underlying156; exact w8s; exact rfl; exact rfl; exact (by (try simp only []); omega)) | (apply OQ.load; exact w8c; exact rfl; exact (.there .here); exact (Row.cell hc)) | (apply OQ.idxA0; exact Tryd.underlying23; exact y1s; exact rfl; exact rfl; exact hi') | (apply OQ.move; exact rfl) | (apply OQ.assign; exact rfl) | (apply OQ.shr64; exact rfl; exact rfl) | (apply OQ.mulN; exact rfl; exact rfl; exact (by (try simp only []); omega)) | (apply OQ.remN; exact rfl; exact rfl; exact (by (try simp only []); omega)) | (apply OQ.quoN; exact rfl; exact rfl; exact (by (try simp only []); omega); exact (by (try simp only []); omega)) | (apply OQ.conv64_8; exact rfl; exact rfl; exact rfl)) rfl ?_ | refine JC.seq ?_ | refine JC.region ?_ | refine JC.block ?_ | refine JC.skip ?_ | refine JL.nil ?_ | refine JE.next ?_)
    refine JL.store_eq (r' := (kbB W (i + 1)).map U8) y1s rfl rfl rfl rfl .here (by rw [List.length_map, hlen]; exact hi') (by rw [eS]; exact Y_set _ _ _) ?_
    repeat (first | refine JL.q (by first | (apply OQ.move; exact rfl) | (apply OQ.addN; exact rfl; exact rfl; exact (by (try simp only []); omega))) rfl ?_ | refine JC.region ?_ | refine JL.nil ?_ | refine JE.next ?_ | refine JE.blk_normal ?_)
    exact JE.again (i := i) (i + 1) (by omega) (by omega) (by repeat (first | exact SubE.nil | refine SubE.cons _ _ _ rfl ?_)) (Less.refl _)
  · have hi' : ¬ i < 32 := of_decide_eq_false h
    obtain rfl : i = 32 := by omega
    clear h hi hi'
    have hl' : ((kbB W 32).map U8).length = 32 := by rw [List.length_map, hlen]
    generalize kbB W 32 = X at hl' ⊢
    repeat (first | refine JL.q (by (apply OQ.load_agg (cs := X.map U8); exact k32a; exact k32s; exact rfl; exact .here; exact hl'; exact Row.all)) rfl ?_ | refine JC.seq ?_ | refine JC.region ?_ | refine JC.exit ?_ | refine JE.next ?_ | refine JE.then_exit ?_ | refine JE.blk_hit ?_)
    refine JL.store_all (cs := X.map U8) k32s rfl rfl hl' (Y_cell _) (.there (.there .here)) (by simp) ?_
    repeat (first | refine JL.nil ?_ | refine JE.next ?_)
    refine JC.ret (JE.ret1 rfl (RV.cell_agg k32a k32s rfl (.there (.there .here)) hl' Row.all) ?_)
    exact fun w' hw => ⟨rfl, hw.chg⟩

set_option maxHeartbeats 16000000 in
theorem exchange_any (c : Bool) (a b : N5) (w : World) : Calls Tryd.prog 100 [.agg (a.l.map U64).toArray, .agg (b.l.map U64).toArray, U8 (bt c)].toArray w
    fun e w' => e = .returned (.tuple #[.agg ((if c then b else a).l.map U64).toArray, .agg ((if c then a else b).l.map U64).toArray]) ∧ Ext w w' := by
  have hm := mk64_is c
  have hab : a.l.length = b.l.length := rfl
  have eX : mixl c a.l b.l 5 = (if c then b else a).l := by cases c <;> rfl
  have eY : mixl c b.l a.l 5 = (if c then a else b).l := by cases c <;> rfl
  have z1 : mixl c a.l b.l 0 = a.l := by cases c <;> rfl
  have z2 : mixl c b.l a.l 0 = b.l := by cases c <;> rfl
  have lX : ∀ i, (mixl c a.l b.l i).length = 5 := fun i => mixl_len c hab i
  have lY : ∀ i, (mixl c b.l a.l i).length = 5 := fun i => mixl_len c hab.symm i
  have gX : ∀ i, i < 5 → ((mixl c a.l b.l i).map U64)[i]? = some (U64 (a.l.getD i 0)) := fun i hi => by rw [List.getElem?_map, mixl_get c hab hi]; rfl
  have gY : ∀ i, i < 5 → ((mixl c b.l a.l i).map U64)[i]? = some (U64 (b.l.getD i 0)) := fun i hi => by rw [List.getElem?_map, mixl_get c hab.symm hi]; rfl
  have sX : ∀ i, i < 5 → (mixl c a.l b.l i).set i (a.l.getD i 0 ^^^ (mk64 c &&& (a.l.getD i 0 ^^^ b.l.getD i 0))) = mixl c a.l b.l (i + 1) := fun i hi => mixl_set c hab hi (swap_l c _ _)
  have sY : ∀ i, i < 5 → (mixl c b.l a.l i).set i (b.l.getD i 0 ^^^ (mk64 c &&& (a.l.getD i 0 ^^^ b.l.getD i 0))) = mixl c b.l a.l (i + 1) := fun i hi => mixl_set c hab.symm hi (swap_r c _ _)
  generalize (if c then b else a).l = A at eX ⊢
  generalize (if c then a else b).l = B at eY ⊢
  refine enter (n := 41) Tryd.func100 rfl rfl rfl (Holds.start w []) ?_
  repeat (first | refine JC.seq ?_ | refine JC.region ?_)
  refine JL.box (r := a.l.map U64) rfl rfl rfl fun b3 _ => ?_
  refine JL.box (r := b.l.map U64) rfl rfl rfl fun b4 _ => ?_
  refine JL.alloc n5z rfl fun b6 _ => ?_
  refine JL.alloc n5z rfl fun b7 _ => ?_
  repeat (first | refine JL.q (by first | (apply OQ.conv8_64; exact rfl; exact rfl; exact rfl) | (apply OQ.neg64; exact rfl) | (apply OQ.move; exact rfl) | (apply OQ.assign; exact rfl)) rfl ?_ | refine JC.seq ?_ | refine JC.region ?_ | refine JC.block ?_ | refine JL.nil ?_ | refine JE.next ?_)
  rw [hm]
  refine JC.loop (fun i : Nat => [(3, Pt b3 0), (4, Pt b4 0), (6, Pt b6 0), (7, Pt b7 0), (8, U64 (mk64 c)), (14, N i)])
    (fun i => [⟨b7, Row 117 (zeroN.l.map U64), true⟩, ⟨b6, Row 117 (zeroN.l.map U64), true⟩, ⟨b4, Row 117 ((mixl c b.l a.l i).map U64), true⟩, ⟨b3, Row 117 ((mixl c a.l b.l i).map U64), true⟩])
    (fun i => 5 - i) (fun i => i ≤ 5) 0 (by omega) (by repeat (first | exact SubE.nil | refine SubE.cons _ _ _ rfl ?_)) (.keep _ _ _ _ _ _ (fun _ h => h) (.keep _ _ _ _ _ _ (fun _ h => h) (.keep _ _ _ _ _ _ (fun _ h => by rw [z2]; exact h) (.keep _ _ _ _ _ _ (fun _ h => by rw [z1]; exact h) (.nil _))))) ?_
  intro i hi
  repeat (first | refine JL.q (by (apply OQ.lssN; exact rfl; exact rfl)) rfl ?_ | refine JC.seq ?_ | refine JC.region ?_ | refine JL.nil ?_ | refine JE.next ?_)
  refine JC.cond rfl (fun h => ?_) (fun h => ?_)
  · have hi' : i < 5 := of_decide_eq_true h
    clear h hi eX eY z1 z2
    have hX := gX i hi'
    have hY := gY i hi'
    have tX := sX i hi'
    have tY := sY i hi'
    have kX := lX i
    have kY := lY i
    clear gX gY sX sY lX lY
    generalize mixl c a.l b.l i = X at hX tX kX ⊢
    generalize mixl c b.l a.l i = Y at hY tY kY ⊢
    generalize a.l.getD i 0 = x at hX tX tY
    generalize b.l.getD i 0 = y at hY tX tY
    repeat (first | refine JL.q (by first | (apply OQ.move; exact rfl) | (apply OQ.assign; exact rfl)) rfl ?_ | refine JC.seq ?_ | refine JC.region ?_ | refine JC.block ?_ | refine JC.skip ?_ | refine JL.nil ?_ | refine JE.next ?_)
    refine JC.quiet mixC (by kernel_rfl) ?_
    repeat (first | refine JL.q (by first | (apply OQ.idxA0; exact Tryd.underlying117; exact w8s; exact rfl; exact rfl; exact hi') | (apply OQ.load; exact w8c; exact rfl; exact (by repeat (first | exact Has.here | apply Has.there)); exact (Row.cell hX)) | (apply OQ.load; exact w8c; exact rfl; exact (by repeat (first | exact Has.here | apply Has.there)); exact (Row.cell hY)) | (apply OQ.xor64; exact rfl; exact rfl) | (apply OQ.and64; exact rfl; exact rfl) | (apply OQ.move; exact rfl) | (apply OQ.assign; exact rfl)) rfl ?_ | refine JQ.q (by first | (apply OQ.idxA0; exact Tryd.underlying117; exact w8s; exact rfl; exact rfl; exact hi') | (apply OQ.load; exact w8c; exact rfl; exact (by repeat (first | exact Has.here | apply Has.there)); exact (Row.cell hX)) | (apply OQ.load; exact w8c; exact rfl; exact (by repeat (first | exact Has.here | apply Has.there)); exact (Row.cell hY)) | (apply OQ.xor64; exact rfl; exact rfl) | (apply OQ.and64; exact rfl; exact rfl) | (apply OQ.move; exact rfl) | (apply OQ.assign; exact rfl)) rfl ?_ | refine JC.seq ?_ | refine JC.region ?_ | refine JQ.nil ?_ | refine JE.next ?_)
    refine JL.store_eq (r' := (mixl c a.l b.l (i + 1)).map U64) w8s rfl rfl rfl rfl (by repeat (first | exact Upd.here | apply Upd.there)) (by rw [List.length_map, kX]; exact hi') (by rw [← tX]; exact W_set _ _ _) ?_
    repeat (first | refine JL.q (by first | (apply OQ.idxA0; exact Tryd.underlying117; exact w8s; exact rfl; exact rfl; exact hi') | (apply OQ.load; exact w8c; exact rfl; exact (by repeat (first | exact Has.here | apply Has.there)); exact (Row.cell hY)) | (apply OQ.xor64; exact rfl; exact rfl) | (apply OQ.move; exact rfl)) rfl ?_ | refine JC.region ?_ | refine JL.nil ?_ | refine JE.next ?_)
    refine JL.store_eq (r' := (mixl c b.l a.l (i + 1)).map U64) w8s rfl rfl rfl rfl (by repeat (first | exact Upd.here | apply Upd.there)) (by rw [List.length_map, kY]; exact hi') (by rw [← tY]; exact W_set _ _ _) ?_
    repeat (first | refine JL.q (by first | (apply OQ.move; exact rfl) | (apply OQ.addN; exact rfl; exact rfl; exact (by (try simp only []); omega))) rfl ?_ | refine JC.region ?_ | refine JL.nil ?_ | refine JE.next ?_ | refine JE.blk_normal ?_)
    exact JE.again (i := i) (i + 1) (by omega) (by omega) (by repeat (first | exact SubE.nil | refine SubE.cons _ _ _ rfl ?_)) (Less.refl _)
  · have hi' : ¬ i < 5 := of_decide_eq_false h
    obtain rfl : i = 5 := by omega
    clear h hi hi'
    have hX := lX 5
    have hY := lY 5
    clear gX gY sX sY lX lY
    rw [eX] at hX ⊢
    rw [eY] at hY ⊢
    generalize A = X at *
    generalize B = Y at *
    repeat (first | refine JC.seq ?_ | refine JC.exit ?_ | refine JE.next ?_ | refine JE.then_exit ?_ | refine JE.blk_hit ?_)
    let vs : Nat → Nat → Value := fun j x => match j with
      | 0 => .agg (X.map U64).toArray
      | 1 => .agg (Y.map U64).toArray
      | _ => Pt x 0
    let Ms : Nat → Nat → List Ent := fun j x => match j with
      | 2 => [⟨b6, Row 117 (X.map U64), true⟩]
      | 3 => [⟨b7, Row 117 (Y.map U64), true⟩]
      | 4 => [⟨b7, Row 117 (zeroN.l.map U64), true⟩]
      | 5 => [⟨b6, Row 117 (zeroN.l.map U64), true⟩]
      | 6 => [⟨b4, Row 117 (Y.map U64), true⟩]
      | 7 => [⟨b3, Row 117 (X.map U64), true⟩]
      | _ => []
    refine JC.grow (g := ⟨[(3, Pt b3 0), (4, Pt b4 0), (6, Pt b6 0), (7, Pt b7 0)], 8, vs, Ms, (fun j => match j with | 2 => [(0, 39)] | 3 => [(1, 40)] | _ => []), (fun j => match j with | 0 => [7] | 1 => [6] | 2 => [5] | 3 => [4] | _ => []), (fun j => match j with | 2 => [5] | 3 => [4] | _ => []), (fun j => match j with | _ => none)⟩) [] [2, 3, 6, 7] mixC (by repeat (first | exact SubE.nil | refine SubE.cons _ _ _ rfl ?_)) (Less.refl _) (by kernel_rfl) (by kernel_rfl) (by kernel_rfl) ?_ ?_
    · refine ⟨?_, ?_, ?_, ?_, trivial⟩
      · (intro x EF MF Q kk; exact JL.q (OQ.load_agg (cs := X.map U64) n5a n5s rfl .here (by rw [List.length_map]; exact hX) Row.all) rfl (JL.nil (kk default nofun)))
      · (intro x EF MF Q kk; exact JL.q (OQ.load_agg (cs := Y.map U64) n5a n5s rfl .here (by rw [List.length_map]; exact hY) Row.all) rfl (JL.nil (kk default nofun)))
      · (intro x EF MF Q kk; exact JL.store_all (cs := X.map U64) n5s rfl rfl (by rw [List.length_map]; exact hX) (W_cell _) .here rfl (JL.nil (kk default nofun)))
      · (intro x EF MF Q kk; exact JL.store_all (cs := Y.map U64) n5s rfl rfl (by rw [List.length_map]; exact hY) (W_cell _) .here rfl (JL.nil (kk default nofun)))
    · intro x hx
      show JE _ _ _ _ _ [(3, Pt b3 0), (4, Pt b4 0), (6, Pt b6 0), (7, Pt b7 0)] [⟨b6, Row 117 (X.map U64), true⟩, ⟨b7, Row 117 (Y.map U64), true⟩, ⟨b4, Row 117 (Y.map U64), true⟩, ⟨b3, Row 117 (X.map U64), true⟩]
      clear hx x vs Ms
      have kX : (X.map U64).length = 5 := by rw [List.length_map]; exact hX
      have kY : (Y.map U64).length = 5 := by rw [List.length_map]; exact hY
      refine JE.next ?_
      refine JC.ret ?_
      refine JE.ret2 rfl (RV.cell_agg n5a n5s rfl (by repeat (first | exact Has.here | apply Has.there)) kX Row.all) (RV.cell_agg n5a n5s rfl (by repeat (first | exact Has.here | apply Has.there)) kY Row.all) ?_
      exact fun w' hw => ⟨rfl, hw.chg⟩
end Go.Proofs.YtbhlcnimjoppeaaDoor

/-
  Of no statement by itself: what the code's exchanged and stepped give.
  Conditions: each theorem's own.
-/
namespace Go.Proofs.YtbhlcnimjoppeaaDoor
set_option maxRecDepth 10000
open Sl Crv
def zeroL : L5 := ⟨zeroN, zeroN, zeroN, zeroN⟩
theorem l20s : szT Tryd.prog 120 = some 20 := by kernel_rfl
theorem l20a : aggT Tryd.prog 120 = true := by kernel_rfl
theorem l20z : zc Tryd.prog 120 = some (zeroL.l.map U64) := by kernel_rfl
theorem goes_stepped : Goes Tryd.prog 75 := ⟨_, Tryd.func75, rfl, by kernel_rfl⟩
set_option maxHeartbeats 16000000 in
theorem exchanged_any (c : Bool) (s : L5) (w : World) : Calls Tryd.prog 74 [.agg (s.l.map U64).toArray, U8 (bt c)].toArray w fun e w' => e = .returned (.agg ((swB c s).l.map U64).toArray) ∧ Ext w w' := by
  obtain ⟨x2, z2, x3, z3⟩ := s
  have cx := exchange_any c x2 x3
  have cz := exchange_any c z2 z3
  have e : swB c ⟨x2, z2, x3, z3⟩ = ⟨if c then x3 else x2, if c then z3 else z2, if c then x2 else x3, if c then z2 else z3⟩ := by cases c <;> rfl
  rw [e]
  clear e
  generalize (if c then x3 else x2) = X2 at cx ⊢
  generalize (if c then x2 else x3) = X3 at cx ⊢
  generalize (if c then z3 else z2) = Z2 at cz ⊢
  generalize (if c then z2 else z3) = Z3 at cz ⊢
  refine enter (n := 28) Tryd.func74 rfl rfl rfl (Holds.start w []) ?_
  repeat (first | refine JC.seq ?_ | refine JC.region ?_)
  refine JL.box (r := (x2.l ++ z2.l ++ x3.l ++ z3.l).map U64) rfl rfl rfl fun b2 _ => ?_
  refine JL.alloc l20z rfl fun b4 _ => ?_
  repeat (first | refine JL.q (by first | (apply OQ.load_agg (cs := x2.l.map U64); exact n5a; exact n5s; exact rfl; exact (.there .here); exact rfl; exact (Row.cells rfl)) | (apply OQ.load_agg (cs := x3.l.map U64); exact n5a; exact n5s; exact rfl; exact (.there .here); exact rfl; exact (Row.cells rfl)) | (apply OQ.callx (vs := [.agg (x2.l.map U64).toArray, .agg (x3.l.map U64).toArray, U8 (bt c)]); exact goes_exchange; exact rfl; exact (fun w' _ => cx w')) | (apply OQ.extract; exact rfl; exact rfl) | (apply OQ.move; exact rfl) | (apply OQ.fld; exact rfl; exact rfl; exact rfl; exact (by decide); exact rfl)) rfl ?_ | refine JC.seq ?_ | refine JC.region ?_ | refine JL.nil ?_ | refine JE.next ?_)
  refine JL.store_part (cs := X2.l.map U64) (r' := (X2.l ++ z2.l ++ x3.l ++ z3.l).map U64) n5s rfl rfl rfl (W_cell _) (.there .here) (Nat.le_of_ble_eq_true rfl) rfl ?_
  repeat (refine JL.q (by (apply OQ.fld; exact rfl; exact rfl; exact rfl; exact (by decide); exact rfl)) rfl ?_)
  refine JL.store_part (cs := X3.l.map U64) (r' := (X2.l ++ z2.l ++ X3.l ++ z3.l).map U64) n5s rfl rfl rfl (W_cell _) (.there .here) (Nat.le_of_ble_eq_true rfl) rfl ?_
  repeat (first | refine JL.q (by first | (apply OQ.load_agg (cs := z2.l.map U64); exact n5a; exact n5s; exact rfl; exact (.there .here); exact rfl; exact (Row.cells rfl)) | (apply OQ.load_agg (cs := z3.l.map U64); exact n5a; exact n5s; exact rfl; exact (.there .here); exact rfl; exact (Row.cells rfl)) | (apply OQ.callx (vs := [.agg (z2.l.map U64).toArray, .agg (z3.l.map U64).toArray, U8 (bt c)]); exact goes_exchange; exact rfl; exact (fun w' _ => cz w')) | (apply OQ.extract; exact rfl; exact rfl) | (apply OQ.move; exact rfl) | (apply OQ.fld; exact rfl; exact rfl; exact rfl; exact (by decide); exact rfl)) rfl ?_ | refine JC.seq ?_ | refine JC.region ?_ | refine JL.nil ?_ | refine JE.next ?_)
  refine JL.store_part (cs := Z2.l.map U64) (r' := (X2.l ++ Z2.l ++ X3.l ++ z3.l).map U64) n5s rfl rfl rfl (W_cell _) (.there .here) (Nat.le_of_ble_eq_true rfl) rfl ?_
  repeat (refine JL.q (by (apply OQ.fld; exact rfl; exact rfl; exact rfl; exact (by decide); exact rfl)) rfl ?_)
  refine JL.store_part (cs := Z3.l.map U64) (r' := (X2.l ++ Z2.l ++ X3.l ++ Z3.l).map U64) n5s rfl rfl rfl (W_cell _) (.there .here) (Nat.le_of_ble_eq_true rfl) rfl ?_
  repeat (first | refine JL.q (by (apply OQ.load_agg (cs := (X2.l ++ Z2.l ++ X3.l ++ Z3.l).map U64); exact l20a; exact l20s; exact rfl; exact (.there .here); exact rfl; exact Row.all)) rfl ?_ | refine JC.seq ?_ | refine JC.region ?_ | refine JL.nil ?_ | refine JE.next ?_)
  refine JL.store_all (cs := (X2.l ++ Z2.l ++ X3.l ++ Z3.l).map U64) l20s rfl rfl rfl (W_cell _) .here rfl ?_
  repeat (first | refine JL.nil ?_ | refine JE.next ?_)
  refine JC.ret (JE.ret1 rfl (RV.cell_agg l20a l20s rfl .here rfl Row.all) ?_)
  exact fun w' hw => ⟨rfl, hw.chg⟩
set_option maxHeartbeats 64000000 in
set_option maxRecDepth 4000 in
theorem stepped_any (x1 : N5) (s : L5) (w : World) : Calls Tryd.prog 75 [.agg (s.l.map U64).toArray, .agg (x1.l.map U64).toArray].toArray w fun e w' => e = .returned (.agg ((stpB x1 s).l.map U64).toArray) ∧ Ext w w' := by
  obtain ⟨X2, Z2, X3, Z3⟩ := s
  have c_A := sum_any X2 Z2
  generalize h_A : sumB X2 Z2 = A at c_A
  have c_B := difference_any X2 Z2
  generalize h_B : difB X2 Z2 = B at c_B
  have c_C := sum_any X3 Z3
  generalize h_C : sumB X3 Z3 = C at c_C
  have c_D := difference_any X3 Z3
  generalize h_D : difB X3 Z3 = D at c_D
  have c_AA := product_any A A
  generalize h_AA : prdB A A = AA at c_AA
  have c_BB := product_any B B
  generalize h_BB : prdB B B = BB at c_BB
  have c_DA := product_any D A
  generalize h_DA : prdB D A = DA at c_DA
  have c_CB := product_any C B
  generalize h_CB : prdB C B = CB at c_CB
  have c_E := difference_any AA BB
  generalize h_E : difB AA BB = E at c_E
  have c_M := sum_any DA CB
  generalize h_M : sumB DA CB = M at c_M
  have c_S := difference_any DA CB
  generalize h_S : difB DA CB = S at c_S
  have c_R1 := product_any AA BB
  generalize h_R1 : prdB AA BB = R1 at c_R1
  have c_F := product_any cN E
  generalize h_F : prdB cN E = F at c_F
  have c_G := sum_any AA F
  generalize h_G : sumB AA F = G at c_G
  have c_R2 := product_any E G
  generalize h_R2 : prdB E G = R2 at c_R2
  have c_R3 := product_any M M
  generalize h_R3 : prdB M M = R3 at c_R3
  have c_SS := product_any S S
  generalize h_SS : prdB S S = SS at c_SS
  have c_R4 := product_any x1 SS
  generalize h_R4 : prdB x1 SS = R4 at c_R4
  have eS : stpB x1 ⟨X2, Z2, X3, Z3⟩ = ⟨R1, R2, R3, R4⟩ := by
    subst h_R4 h_SS h_R3 h_R2 h_G h_F h_R1 h_S h_M h_E h_CB h_DA h_BB h_AA h_D h_C h_B h_A
    rfl
  rw [eS]
  clear eS h_A h_B h_C h_D h_AA h_BB h_DA h_CB h_E h_M h_S h_R1 h_F h_G h_R2 h_R3 h_SS h_R4
  refine enter (n := 76) Tryd.func75 rfl rfl rfl (Holds.start w []) ?_
  repeat (first | refine JC.seq ?_ | refine JC.region ?_)
  refine JL.box (r := (X2.l ++ Z2.l ++ X3.l ++ Z3.l).map U64) rfl rfl rfl fun b2 _ => ?_
  refine JL.box (r := x1.l.map U64) rfl rfl rfl fun b3 _ => ?_
  refine JL.alloc l20z rfl fun b4 _ => ?_
  repeat (first | refine JC.seq ?_ | refine JL.nil ?_ | refine JE.next ?_)
  let vs : Nat → Nat → Value := fun j x => match j with
    | 0 => Pt b2 0
    | 1 => .agg (X2.l.map U64).toArray
    | 2 => Pt b2 5
    | 3 => .agg (Z2.l.map U64).toArray
    | 4 => .agg (A.l.map U64).toArray
    | 5 => Pt b2 0
    | 6 => .agg (X2.l.map U64).toArray
    | 7 => Pt b2 5
    | 8 => .agg (Z2.l.map U64).toArray
    | 9 => .agg (B.l.map U64).toArray
    | _ => Pt x 0
  let Ms : Nat → Nat → List Ent := fun j x => match j with
    | 10 => [⟨x, Row 117 (zeroN.l.map U64), true⟩]
    | 11 => [⟨x, Row 117 (zeroN.l.map U64), true⟩]
    | 12 => [⟨x, Row 117 (A.l.map U64), true⟩]
    | 13 => [⟨x, Row 117 (B.l.map U64), true⟩]
    | 14 => [⟨b4, Row 120 (zeroL.l.map U64), true⟩]
    | 15 => [⟨b3, Row 117 (x1.l.map U64), true⟩]
    | 16 => [⟨b2, Row 120 ((X2.l ++ Z2.l ++ X3.l ++ Z3.l).map U64), true⟩]
    | _ => []
  refine JC.grow (g := ⟨[(2, Pt b2 0), (3, Pt b3 0), (4, Pt b4 0)], 17, vs, Ms, (fun j => match j with | 1 => [(0, 16)] | 3 => [(2, 18)] | 4 => [(1, 17), (3, 19)] | 6 => [(5, 21)] | 8 => [(7, 23)] | 9 => [(6, 22), (8, 24)] | 12 => [(10, 5), (4, 20)] | 13 => [(11, 6), (9, 25)] | _ => []), (fun j => match j with | 1 => [16] | 3 => [16] | 6 => [16] | 8 => [16] | 12 => [10] | 13 => [11] | _ => []), (fun j => match j with | 12 => [10] | 13 => [11] | _ => []), (fun j => match j with | 12 => some 10 | 13 => some 11 | _ => none)⟩) [(10, 5), (11, 6)] [12, 13, 14, 15, 16] mixC (by repeat (first | exact SubE.nil | refine SubE.cons _ _ _ rfl ?_)) (Less.refl _) (by kernel_rfl) (by kernel_rfl) (by kernel_rfl) ?_ ?_
  · refine ⟨?_, ?_, ?_, ?_, ?_, ?_, ?_, ?_, ?_, ?_, ?_, ?_, ?_, ?_, trivial⟩
    · (intro x EF MF Q kk; exact JL.q (OQ.fldx (o := 0) rfl rfl rfl (by decide) rfl rfl) rfl (JL.nil (kk default nofun)))
    · (intro x EF MF Q kk; exact JL.q (OQ.load_agg (cs := X2.l.map U64) n5a n5s rfl .here rfl (Row.cells rfl)) rfl (JL.nil (kk default nofun)))
    · (intro x EF MF Q kk; exact JL.q (OQ.fldx (o := 5) rfl rfl rfl (by decide) rfl rfl) rfl (JL.nil (kk default nofun)))
    · (intro x EF MF Q kk; exact JL.q (OQ.load_agg (cs := Z2.l.map U64) n5a n5s rfl .here rfl (Row.cells rfl)) rfl (JL.nil (kk default nofun)))
    · (intro x EF MF Q kk; exact JL.q (OQ.callx (vs := [.agg (X2.l.map U64).toArray, .agg (Z2.l.map U64).toArray]) goes_sum rfl fun w' _ => c_A w') rfl (JL.nil (kk default nofun)))
    · (intro x EF MF Q kk; exact JL.q (OQ.fldx (o := 0) rfl rfl rfl (by decide) rfl rfl) rfl (JL.nil (kk default nofun)))
    · (intro x EF MF Q kk; exact JL.q (OQ.load_agg (cs := X2.l.map U64) n5a n5s rfl .here rfl (Row.cells rfl)) rfl (JL.nil (kk default nofun)))
    · (intro x EF MF Q kk; exact JL.q (OQ.fldx (o := 5) rfl rfl rfl (by decide) rfl rfl) rfl (JL.nil (kk default nofun)))
    · (intro x EF MF Q kk; exact JL.q (OQ.load_agg (cs := Z2.l.map U64) n5a n5s rfl .here rfl (Row.cells rfl)) rfl (JL.nil (kk default nofun)))
    · (intro x EF MF Q kk; exact JL.q (OQ.callx (vs := [.agg (X2.l.map U64).toArray, .agg (Z2.l.map U64).toArray]) goes_difference rfl fun w' _ => c_B w') rfl (JL.nil (kk default nofun)))
    · (intro x EF MF Q kk; exact JL.alloc n5z rfl fun b _ => JL.nil (kk b nofun))
    · (intro x EF MF Q kk; exact JL.alloc n5z rfl fun b _ => JL.nil (kk b nofun))
    · (intro x EF MF Q kk; exact JL.store_all (cs := A.l.map U64) n5s rfl rfl rfl (W_cell _) .here rfl (JL.nil (kk (x 10) (fun k h => by cases h; rfl))))
    · (intro x EF MF Q kk; exact JL.store_all (cs := B.l.map U64) n5s rfl rfl rfl (W_cell _) .here rfl (JL.nil (kk (x 11) (fun k h => by cases h; rfl))))
  · intro x hx
    have h12 := hx 12 10 (by decide) rfl
    have h13 := hx 13 11 (by decide) rfl
    show JE _ _ _ _ _ [(5, Pt (x 10) 0), (6, Pt (x 11) 0), (2, Pt b2 0), (3, Pt b3 0), (4, Pt b4 0)] [⟨(x 12), Row 117 (A.l.map U64), true⟩, ⟨(x 13), Row 117 (B.l.map U64), true⟩, ⟨b4, Row 120 (zeroL.l.map U64), true⟩, ⟨b3, Row 117 (x1.l.map U64), true⟩, ⟨b2, Row 120 ((X2.l ++ Z2.l ++ X3.l ++ Z3.l).map U64), true⟩]
    rw [h12, h13]
    generalize x 10 = b5
    generalize x 11 = b6
    clear hx h12 h13 x vs Ms
    repeat (first | refine JC.seq ?_ | refine JE.next ?_)
    let vs : Nat → Nat → Value := fun j x => match j with
      | 0 => Pt b2 10
      | 1 => .agg (X3.l.map U64).toArray
      | 2 => Pt b2 15
      | 3 => .agg (Z3.l.map U64).toArray
      | 4 => .agg (C.l.map U64).toArray
      | 5 => Pt b2 10
      | 6 => .agg (X3.l.map U64).toArray
      | 7 => Pt b2 15
      | 8 => .agg (Z3.l.map U64).toArray
      | 9 => .agg (D.l.map U64).toArray
      | _ => Pt x 0
    let Ms : Nat → Nat → List Ent := fun j x => match j with
      | 10 => [⟨x, Row 117 (zeroN.l.map U64), true⟩]
      | 11 => [⟨x, Row 117 (zeroN.l.map U64), true⟩]
      | 12 => [⟨x, Row 117 (C.l.map U64), true⟩]
      | 13 => [⟨x, Row 117 (D.l.map U64), true⟩]
      | 14 => [⟨b5, Row 117 (A.l.map U64), true⟩]
      | 15 => [⟨b6, Row 117 (B.l.map U64), true⟩]
      | 16 => [⟨b4, Row 120 (zeroL.l.map U64), true⟩]
      | 17 => [⟨b3, Row 117 (x1.l.map U64), true⟩]
      | 18 => [⟨b2, Row 120 ((X2.l ++ Z2.l ++ X3.l ++ Z3.l).map U64), true⟩]
      | _ => []
    refine JC.grow (g := ⟨[(5, Pt b5 0), (6, Pt b6 0), (2, Pt b2 0), (3, Pt b3 0), (4, Pt b4 0)], 19, vs, Ms, (fun j => match j with | 1 => [(0, 26)] | 3 => [(2, 28)] | 4 => [(1, 27), (3, 29)] | 6 => [(5, 31)] | 8 => [(7, 33)] | 9 => [(6, 32), (8, 34)] | 12 => [(10, 7), (4, 30)] | 13 => [(11, 8), (9, 35)] | _ => []), (fun j => match j with | 1 => [18] | 3 => [18] | 6 => [18] | 8 => [18] | 12 => [10] | 13 => [11] | _ => []), (fun j => match j with | 12 => [10] | 13 => [11] | _ => []), (fun j => match j with | 12 => some 10 | 13 => some 11 | _ => none)⟩) [(10, 7), (11, 8)] [12, 13, 14, 15, 16, 17, 18] mixC (by repeat (first | exact SubE.nil | refine SubE.cons _ _ _ rfl ?_)) (Less.refl _) (by kernel_rfl) (by kernel_rfl) (by kernel_rfl) ?_ ?_
    · refine ⟨?_, ?_, ?_, ?_, ?_, ?_, ?_, ?_, ?_, ?_, ?_, ?_, ?_, ?_, trivial⟩
      · (intro x EF MF Q kk; exact JL.q (OQ.fldx (o := 10) rfl rfl rfl (by decide) rfl rfl) rfl (JL.nil (kk default nofun)))
      · (intro x EF MF Q kk; exact JL.q (OQ.load_agg (cs := X3.l.map U64) n5a n5s rfl .here rfl (Row.cells rfl)) rfl (JL.nil (kk default nofun)))
      · (intro x EF MF Q kk; exact JL.q (OQ.fldx (o := 15) rfl rfl rfl (by decide) rfl rfl) rfl (JL.nil (kk default nofun)))
      · (intro x EF MF Q kk; exact JL.q (OQ.load_agg (cs := Z3.l.map U64) n5a n5s rfl .here rfl (Row.cells rfl)) rfl (JL.nil (kk default nofun)))
      · (intro x EF MF Q kk; exact JL.q (OQ.callx (vs := [.agg (X3.l.map U64).toArray, .agg (Z3.l.map U64).toArray]) goes_sum rfl fun w' _ => c_C w') rfl (JL.nil (kk default nofun)))
      · (intro x EF MF Q kk; exact JL.q (OQ.fldx (o := 10) rfl rfl rfl (by decide) rfl rfl) rfl (JL.nil (kk default nofun)))
      · (intro x EF MF Q kk; exact JL.q (OQ.load_agg (cs := X3.l.map U64) n5a n5s rfl .here rfl (Row.cells rfl)) rfl (JL.nil (kk default nofun)))
      · (intro x EF MF Q kk; exact JL.q (OQ.fldx (o := 15) rfl rfl rfl (by decide) rfl rfl) rfl (JL.nil (kk default nofun)))
      · (intro x EF MF Q kk; exact JL.q (OQ.load_agg (cs := Z3.l.map U64) n5a n5s rfl .here rfl (Row.cells rfl)) rfl (JL.nil (kk default nofun)))
      · (intro x EF MF Q kk; exact JL.q (OQ.callx (vs := [.agg (X3.l.map U64).toArray, .agg (Z3.l.map U64).toArray]) goes_difference rfl fun w' _ => c_D w') rfl (JL.nil (kk default nofun)))
      · (intro x EF MF Q kk; exact JL.alloc n5z rfl fun b _ => JL.nil (kk b nofun))
      · (intro x EF MF Q kk; exact JL.alloc n5z rfl fun b _ => JL.nil (kk b nofun))
      · (intro x EF MF Q kk; exact JL.store_all (cs := C.l.map U64) n5s rfl rfl rfl (W_cell _) .here rfl (JL.nil (kk (x 10) (fun k h => by cases h; rfl))))
      · (intro x EF MF Q kk; exact JL.store_all (cs := D.l.map U64) n5s rfl rfl rfl (W_cell _) .here rfl (JL.nil (kk (x 11) (fun k h => by cases h; rfl))))
    · intro x hx
      have h12 := hx 12 10 (by decide) rfl
      have h13 := hx 13 11 (by decide) rfl
      show JE _ _ _ _ _ [(7, Pt (x 10) 0), (8, Pt (x 11) 0), (5, Pt b5 0), (6, Pt b6 0), (2, Pt b2 0), (3, Pt b3 0), (4, Pt b4 0)] [⟨(x 12), Row 117 (C.l.map U64), true⟩, ⟨(x 13), Row 117 (D.l.map U64), true⟩, ⟨b5, Row 117 (A.l.map U64), true⟩, ⟨b6, Row 117 (B.l.map U64), true⟩, ⟨b4, Row 120 (zeroL.l.map U64), true⟩, ⟨b3, Row 117 (x1.l.map U64), true⟩, ⟨b2, Row 120 ((X2.l ++ Z2.l ++ X3.l ++ Z3.l).map U64), true⟩]
      rw [h12, h13]
      generalize x 10 = b7
      generalize x 11 = b8
      clear hx h12 h13 x vs Ms
      repeat (first | refine JC.seq ?_ | refine JE.next ?_)
      let vs : Nat → Nat → Value := fun j x => match j with
        | 0 => .agg (A.l.map U64).toArray
        | 1 => .agg (A.l.map U64).toArray
        | 2 => .agg (AA.l.map U64).toArray
        | 3 => .agg (B.l.map U64).toArray
        | 4 => .agg (B.l.map U64).toArray
        | 5 => .agg (BB.l.map U64).toArray
        | _ => Pt x 0
      let Ms : Nat → Nat → List Ent := fun j x => match j with
        | 6 => [⟨x, Row 117 (zeroN.l.map U64), true⟩]
        | 7 => [⟨x, Row 117 (zeroN.l.map U64), true⟩]
        | 8 => [⟨x, Row 117 (AA.l.map U64), true⟩]
        | 9 => [⟨x, Row 117 (BB.l.map U64), true⟩]
        | 10 => [⟨b7, Row 117 (C.l.map U64), true⟩]
        | 11 => [⟨b8, Row 117 (D.l.map U64), true⟩]
        | 12 => [⟨b5, Row 117 (A.l.map U64), true⟩]
        | 13 => [⟨b6, Row 117 (B.l.map U64), true⟩]
        | 14 => [⟨b4, Row 120 (zeroL.l.map U64), true⟩]
        | 15 => [⟨b3, Row 117 (x1.l.map U64), true⟩]
        | 16 => [⟨b2, Row 120 ((X2.l ++ Z2.l ++ X3.l ++ Z3.l).map U64), true⟩]
        | _ => []
      refine JC.grow (g := ⟨[(7, Pt b7 0), (8, Pt b8 0), (5, Pt b5 0), (6, Pt b6 0), (2, Pt b2 0), (3, Pt b3 0), (4, Pt b4 0)], 17, vs, Ms, (fun j => match j with | 2 => [(0, 36), (1, 37)] | 5 => [(3, 39), (4, 40)] | 8 => [(6, 9), (2, 38)] | 9 => [(7, 10), (5, 41)] | _ => []), (fun j => match j with | 0 => [12] | 1 => [12] | 3 => [13] | 4 => [13] | 8 => [6] | 9 => [7] | _ => []), (fun j => match j with | 8 => [6] | 9 => [7] | _ => []), (fun j => match j with | 8 => some 6 | 9 => some 7 | _ => none)⟩) [(6, 9), (7, 10)] [8, 9, 10, 11, 12, 13, 14, 15, 16] mixC (by repeat (first | exact SubE.nil | refine SubE.cons _ _ _ rfl ?_)) (Less.refl _) (by kernel_rfl) (by kernel_rfl) (by kernel_rfl) ?_ ?_
      · refine ⟨?_, ?_, ?_, ?_, ?_, ?_, ?_, ?_, ?_, ?_, trivial⟩
        · (intro x EF MF Q kk; exact JL.q (OQ.load_agg (cs := A.l.map U64) n5a n5s rfl .here rfl Row.all) rfl (JL.nil (kk default nofun)))
        · (intro x EF MF Q kk; exact JL.q (OQ.load_agg (cs := A.l.map U64) n5a n5s rfl .here rfl Row.all) rfl (JL.nil (kk default nofun)))
        · (intro x EF MF Q kk; exact JL.q (OQ.callx (vs := [.agg (A.l.map U64).toArray, .agg (A.l.map U64).toArray]) goes_product rfl fun w' _ => c_AA w') rfl (JL.nil (kk default nofun)))
        · (intro x EF MF Q kk; exact JL.q (OQ.load_agg (cs := B.l.map U64) n5a n5s rfl .here rfl Row.all) rfl (JL.nil (kk default nofun)))
        · (intro x EF MF Q kk; exact JL.q (OQ.load_agg (cs := B.l.map U64) n5a n5s rfl .here rfl Row.all) rfl (JL.nil (kk default nofun)))
        · (intro x EF MF Q kk; exact JL.q (OQ.callx (vs := [.agg (B.l.map U64).toArray, .agg (B.l.map U64).toArray]) goes_product rfl fun w' _ => c_BB w') rfl (JL.nil (kk default nofun)))
        · (intro x EF MF Q kk; exact JL.alloc n5z rfl fun b _ => JL.nil (kk b nofun))
        · (intro x EF MF Q kk; exact JL.alloc n5z rfl fun b _ => JL.nil (kk b nofun))
        · (intro x EF MF Q kk; exact JL.store_all (cs := AA.l.map U64) n5s rfl rfl rfl (W_cell _) .here rfl (JL.nil (kk (x 6) (fun k h => by cases h; rfl))))
        · (intro x EF MF Q kk; exact JL.store_all (cs := BB.l.map U64) n5s rfl rfl rfl (W_cell _) .here rfl (JL.nil (kk (x 7) (fun k h => by cases h; rfl))))
      · intro x hx
        have h8 := hx 8 6 (by decide) rfl
        have h9 := hx 9 7 (by decide) rfl
        show JE _ _ _ _ _ [(9, Pt (x 6) 0), (10, Pt (x 7) 0), (7, Pt b7 0), (8, Pt b8 0), (5, Pt b5 0), (6, Pt b6 0), (2, Pt b2 0), (3, Pt b3 0), (4, Pt b4 0)] [⟨(x 8), Row 117 (AA.l.map U64), true⟩, ⟨(x 9), Row 117 (BB.l.map U64), true⟩, ⟨b7, Row 117 (C.l.map U64), true⟩, ⟨b8, Row 117 (D.l.map U64), true⟩, ⟨b5, Row 117 (A.l.map U64), true⟩, ⟨b6, Row 117 (B.l.map U64), true⟩, ⟨b4, Row 120 (zeroL.l.map U64), true⟩, ⟨b3, Row 117 (x1.l.map U64), true⟩, ⟨b2, Row 120 ((X2.l ++ Z2.l ++ X3.l ++ Z3.l).map U64), true⟩]
        rw [h8, h9]
        generalize x 6 = b9
        generalize x 7 = b10
        clear hx h8 h9 x vs Ms
        repeat (first | refine JC.seq ?_ | refine JE.next ?_)
        let vs : Nat → Nat → Value := fun j x => match j with
          | 0 => .agg (D.l.map U64).toArray
          | 1 => .agg (A.l.map U64).toArray
          | 2 => .agg (DA.l.map U64).toArray
          | 3 => .agg (C.l.map U64).toArray
          | 4 => .agg (B.l.map U64).toArray
          | 5 => .agg (CB.l.map U64).toArray
          | _ => Pt x 0
        let Ms : Nat → Nat → List Ent := fun j x => match j with
          | 6 => [⟨x, Row 117 (zeroN.l.map U64), true⟩]
          | 7 => [⟨x, Row 117 (zeroN.l.map U64), true⟩]
          | 8 => [⟨x, Row 117 (DA.l.map U64), true⟩]
          | 9 => [⟨x, Row 117 (CB.l.map U64), true⟩]
          | 10 => [⟨b9, Row 117 (AA.l.map U64), true⟩]
          | 11 => [⟨b10, Row 117 (BB.l.map U64), true⟩]
          | 12 => [⟨b7, Row 117 (C.l.map U64), true⟩]
          | 13 => [⟨b8, Row 117 (D.l.map U64), true⟩]
          | 14 => [⟨b5, Row 117 (A.l.map U64), true⟩]
          | 15 => [⟨b6, Row 117 (B.l.map U64), true⟩]
          | 16 => [⟨b4, Row 120 (zeroL.l.map U64), true⟩]
          | 17 => [⟨b3, Row 117 (x1.l.map U64), true⟩]
          | 18 => [⟨b2, Row 120 ((X2.l ++ Z2.l ++ X3.l ++ Z3.l).map U64), true⟩]
          | _ => []
        refine JC.grow (g := ⟨[(9, Pt b9 0), (10, Pt b10 0), (7, Pt b7 0), (8, Pt b8 0), (5, Pt b5 0), (6, Pt b6 0), (2, Pt b2 0), (3, Pt b3 0), (4, Pt b4 0)], 19, vs, Ms, (fun j => match j with | 2 => [(0, 42), (1, 43)] | 5 => [(3, 45), (4, 46)] | 8 => [(6, 11), (2, 44)] | 9 => [(7, 12), (5, 47)] | _ => []), (fun j => match j with | 0 => [13] | 1 => [14] | 3 => [12] | 4 => [15] | 8 => [6] | 9 => [7] | _ => []), (fun j => match j with | 8 => [6] | 9 => [7] | _ => []), (fun j => match j with | 8 => some 6 | 9 => some 7 | _ => none)⟩) [(6, 11), (7, 12)] [8, 9, 10, 11, 12, 13, 14, 15, 16, 17, 18] mixC (by repeat (first | exact SubE.nil | refine SubE.cons _ _ _ rfl ?_)) (Less.refl _) (by kernel_rfl) (by kernel_rfl) (by kernel_rfl) ?_ ?_
        · refine ⟨?_, ?_, ?_, ?_, ?_, ?_, ?_, ?_, ?_, ?_, trivial⟩
          · (intro x EF MF Q kk; exact JL.q (OQ.load_agg (cs := D.l.map U64) n5a n5s rfl .here rfl Row.all) rfl (JL.nil (kk default nofun)))
          · (intro x EF MF Q kk; exact JL.q (OQ.load_agg (cs := A.l.map U64) n5a n5s rfl .here rfl Row.all) rfl (JL.nil (kk default nofun)))
          · (intro x EF MF Q kk; exact JL.q (OQ.callx (vs := [.agg (D.l.map U64).toArray, .agg (A.l.map U64).toArray]) goes_product rfl fun w' _ => c_DA w') rfl (JL.nil (kk default nofun)))
          · (intro x EF MF Q kk; exact JL.q (OQ.load_agg (cs := C.l.map U64) n5a n5s rfl .here rfl Row.all) rfl (JL.nil (kk default nofun)))
          · (intro x EF MF Q kk; exact JL.q (OQ.load_agg (cs := B.l.map U64) n5a n5s rfl .here rfl Row.all) rfl (JL.nil (kk default nofun)))
          · (intro x EF MF Q kk; exact JL.q (OQ.callx (vs := [.agg (C.l.map U64).toArray, .agg (B.l.map U64).toArray]) goes_product rfl fun w' _ => c_CB w') rfl (JL.nil (kk default nofun)))
          · (intro x EF MF Q kk; exact JL.alloc n5z rfl fun b _ => JL.nil (kk b nofun))
          · (intro x EF MF Q kk; exact JL.alloc n5z rfl fun b _ => JL.nil (kk b nofun))
          · (intro x EF MF Q kk; exact JL.store_all (cs := DA.l.map U64) n5s rfl rfl rfl (W_cell _) .here rfl (JL.nil (kk (x 6) (fun k h => by cases h; rfl))))
          · (intro x EF MF Q kk; exact JL.store_all (cs := CB.l.map U64) n5s rfl rfl rfl (W_cell _) .here rfl (JL.nil (kk (x 7) (fun k h => by cases h; rfl))))
        · intro x hx
          have h8 := hx 8 6 (by decide) rfl
          have h9 := hx 9 7 (by decide) rfl
          show JE _ _ _ _ _ [(11, Pt (x 6) 0), (12, Pt (x 7) 0), (9, Pt b9 0), (10, Pt b10 0), (7, Pt b7 0), (8, Pt b8 0), (5, Pt b5 0), (6, Pt b6 0), (2, Pt b2 0), (3, Pt b3 0), (4, Pt b4 0)] [⟨(x 8), Row 117 (DA.l.map U64), true⟩, ⟨(x 9), Row 117 (CB.l.map U64), true⟩, ⟨b9, Row 117 (AA.l.map U64), true⟩, ⟨b10, Row 117 (BB.l.map U64), true⟩, ⟨b7, Row 117 (C.l.map U64), true⟩, ⟨b8, Row 117 (D.l.map U64), true⟩, ⟨b5, Row 117 (A.l.map U64), true⟩, ⟨b6, Row 117 (B.l.map U64), true⟩, ⟨b4, Row 120 (zeroL.l.map U64), true⟩, ⟨b3, Row 117 (x1.l.map U64), true⟩, ⟨b2, Row 120 ((X2.l ++ Z2.l ++ X3.l ++ Z3.l).map U64), true⟩]
          rw [h8, h9]
          generalize x 6 = b11
          generalize x 7 = b12
          clear hx h8 h9 x vs Ms
          repeat (first | refine JC.seq ?_ | refine JC.region ?_ | refine JE.next ?_)
          repeat (refine JL.q (by first | (apply OQ.load_agg (cs := AA.l.map U64); exact n5a; exact n5s; exact rfl; exact (by repeat (first | exact Has.here | apply Has.there)); exact rfl; exact Row.all) | (apply OQ.load_agg (cs := BB.l.map U64); exact n5a; exact n5s; exact rfl; exact (by repeat (first | exact Has.here | apply Has.there)); exact rfl; exact Row.all) | (apply OQ.callx (vs := [.agg (AA.l.map U64).toArray, .agg (BB.l.map U64).toArray]); exact goes_difference; exact rfl; exact (fun w' _ => c_E w'))) rfl ?_)
          refine JL.alloc n5z rfl fun b13 _ => ?_
          refine JL.store_all (cs := E.l.map U64) n5s rfl rfl rfl (W_cell _) .here rfl ?_
          repeat (first | refine JC.seq ?_ | refine JL.nil ?_ | refine JE.next ?_)
          let vs : Nat → Nat → Value := fun j x => match j with
            | 0 => .agg (DA.l.map U64).toArray
            | 1 => .agg (CB.l.map U64).toArray
            | 2 => .agg (M.l.map U64).toArray
            | 3 => .agg (DA.l.map U64).toArray
            | 4 => .agg (CB.l.map U64).toArray
            | 5 => .agg (S.l.map U64).toArray
            | _ => Pt x 0
          let Ms : Nat → Nat → List Ent := fun j x => match j with
            | 6 => [⟨x, Row 117 (zeroN.l.map U64), true⟩]
            | 7 => [⟨x, Row 117 (zeroN.l.map U64), true⟩]
            | 8 => [⟨x, Row 117 (M.l.map U64), true⟩]
            | 9 => [⟨x, Row 117 (S.l.map U64), true⟩]
            | 10 => [⟨b13, Row 117 (E.l.map U64), true⟩]
            | 11 => [⟨b11, Row 117 (DA.l.map U64), true⟩]
            | 12 => [⟨b12, Row 117 (CB.l.map U64), true⟩]
            | 13 => [⟨b9, Row 117 (AA.l.map U64), true⟩]
            | 14 => [⟨b10, Row 117 (BB.l.map U64), true⟩]
            | 15 => [⟨b7, Row 117 (C.l.map U64), true⟩]
            | 16 => [⟨b8, Row 117 (D.l.map U64), true⟩]
            | 17 => [⟨b5, Row 117 (A.l.map U64), true⟩]
            | 18 => [⟨b6, Row 117 (B.l.map U64), true⟩]
            | 19 => [⟨b4, Row 120 (zeroL.l.map U64), true⟩]
            | 20 => [⟨b3, Row 117 (x1.l.map U64), true⟩]
            | 21 => [⟨b2, Row 120 ((X2.l ++ Z2.l ++ X3.l ++ Z3.l).map U64), true⟩]
            | _ => []
          refine JC.grow (g := ⟨[(13, Pt b13 0), (11, Pt b11 0), (12, Pt b12 0), (9, Pt b9 0), (10, Pt b10 0), (7, Pt b7 0), (8, Pt b8 0), (5, Pt b5 0), (6, Pt b6 0), (2, Pt b2 0), (3, Pt b3 0), (4, Pt b4 0)], 22, vs, Ms, (fun j => match j with | 2 => [(0, 51), (1, 52)] | 5 => [(3, 54), (4, 55)] | 8 => [(6, 14), (2, 53)] | 9 => [(7, 15), (5, 56)] | _ => []), (fun j => match j with | 0 => [11] | 1 => [12] | 3 => [11] | 4 => [12] | 8 => [6] | 9 => [7] | _ => []), (fun j => match j with | 8 => [6] | 9 => [7] | _ => []), (fun j => match j with | 8 => some 6 | 9 => some 7 | _ => none)⟩) [(6, 14), (7, 15)] [8, 9, 10, 11, 12, 13, 14, 15, 16, 17, 18, 19, 20, 21] mixC (by repeat (first | exact SubE.nil | refine SubE.cons _ _ _ rfl ?_)) (Less.refl _) (by kernel_rfl) (by kernel_rfl) (by kernel_rfl) ?_ ?_
          · refine ⟨?_, ?_, ?_, ?_, ?_, ?_, ?_, ?_, ?_, ?_, trivial⟩
            · (intro x EF MF Q kk; exact JL.q (OQ.load_agg (cs := DA.l.map U64) n5a n5s rfl .here rfl Row.all) rfl (JL.nil (kk default nofun)))
            · (intro x EF MF Q kk; exact JL.q (OQ.load_agg (cs := CB.l.map U64) n5a n5s rfl .here rfl Row.all) rfl (JL.nil (kk default nofun)))
            · (intro x EF MF Q kk; exact JL.q (OQ.callx (vs := [.agg (DA.l.map U64).toArray, .agg (CB.l.map U64).toArray]) goes_sum rfl fun w' _ => c_M w') rfl (JL.nil (kk default nofun)))
            · (intro x EF MF Q kk; exact JL.q (OQ.load_agg (cs := DA.l.map U64) n5a n5s rfl .here rfl Row.all) rfl (JL.nil (kk default nofun)))
            · (intro x EF MF Q kk; exact JL.q (OQ.load_agg (cs := CB.l.map U64) n5a n5s rfl .here rfl Row.all) rfl (JL.nil (kk default nofun)))
            · (intro x EF MF Q kk; exact JL.q (OQ.callx (vs := [.agg (DA.l.map U64).toArray, .agg (CB.l.map U64).toArray]) goes_difference rfl fun w' _ => c_S w') rfl (JL.nil (kk default nofun)))
            · (intro x EF MF Q kk; exact JL.alloc n5z rfl fun b _ => JL.nil (kk b nofun))
            · (intro x EF MF Q kk; exact JL.alloc n5z rfl fun b _ => JL.nil (kk b nofun))
            · (intro x EF MF Q kk; exact JL.store_all (cs := M.l.map U64) n5s rfl rfl rfl (W_cell _) .here rfl (JL.nil (kk (x 6) (fun k h => by cases h; rfl))))
            · (intro x EF MF Q kk; exact JL.store_all (cs := S.l.map U64) n5s rfl rfl rfl (W_cell _) .here rfl (JL.nil (kk (x 7) (fun k h => by cases h; rfl))))
          · intro x hx
            have h8 := hx 8 6 (by decide) rfl
            have h9 := hx 9 7 (by decide) rfl
            show JE _ _ _ _ _ [(14, Pt (x 6) 0), (15, Pt (x 7) 0), (13, Pt b13 0), (11, Pt b11 0), (12, Pt b12 0), (9, Pt b9 0), (10, Pt b10 0), (7, Pt b7 0), (8, Pt b8 0), (5, Pt b5 0), (6, Pt b6 0), (2, Pt b2 0), (3, Pt b3 0), (4, Pt b4 0)] [⟨(x 8), Row 117 (M.l.map U64), true⟩, ⟨(x 9), Row 117 (S.l.map U64), true⟩, ⟨b13, Row 117 (E.l.map U64), true⟩, ⟨b11, Row 117 (DA.l.map U64), true⟩, ⟨b12, Row 117 (CB.l.map U64), true⟩, ⟨b9, Row 117 (AA.l.map U64), true⟩, ⟨b10, Row 117 (BB.l.map U64), true⟩, ⟨b7, Row 117 (C.l.map U64), true⟩, ⟨b8, Row 117 (D.l.map U64), true⟩, ⟨b5, Row 117 (A.l.map U64), true⟩, ⟨b6, Row 117 (B.l.map U64), true⟩, ⟨b4, Row 120 (zeroL.l.map U64), true⟩, ⟨b3, Row 117 (x1.l.map U64), true⟩, ⟨b2, Row 120 ((X2.l ++ Z2.l ++ X3.l ++ Z3.l).map U64), true⟩]
            rw [h8, h9]
            generalize x 6 = b14
            generalize x 7 = b15
            clear hx h8 h9 x vs Ms
            repeat (first | refine JC.seq ?_ | refine JE.next ?_)
            refine JC.tail 19 mixC (by kernel_rfl) ?_
            simp only [List.take_succ_cons, List.take_zero, List.drop_succ_cons, List.drop_zero]
            repeat (refine JQ.q (by first | (apply OQ.load_agg (cs := AA.l.map U64); exact n5a; exact n5s; exact rfl; exact (by repeat (first | exact Has.here | apply Has.there)); exact rfl; exact Row.all) | (apply OQ.load_agg (cs := BB.l.map U64); exact n5a; exact n5s; exact rfl; exact (by repeat (first | exact Has.here | apply Has.there)); exact rfl; exact Row.all) | (apply OQ.load_agg (cs := E.l.map U64); exact n5a; exact n5s; exact rfl; exact (by repeat (first | exact Has.here | apply Has.there)); exact rfl; exact Row.all) | (apply OQ.callx (vs := [.agg (AA.l.map U64).toArray, .agg (BB.l.map U64).toArray]); exact goes_product; exact rfl; exact (fun w' _ => c_R1 w'))) rfl ?_)
            refine JQ.q (OQ.pure (v := .agg (cN.l.map U64).toArray) rfl rfl (by kernel_rfl)) rfl ?_
            repeat (refine JQ.q (by first | (apply OQ.load_agg (cs := E.l.map U64); exact n5a; exact n5s; exact rfl; exact (by repeat (first | exact Has.here | apply Has.there)); exact rfl; exact Row.all) | (apply OQ.load_agg (cs := M.l.map U64); exact n5a; exact n5s; exact rfl; exact (by repeat (first | exact Has.here | apply Has.there)); exact rfl; exact Row.all) | (apply OQ.load_agg (cs := S.l.map U64); exact n5a; exact n5s; exact rfl; exact (by repeat (first | exact Has.here | apply Has.there)); exact rfl; exact Row.all) | (apply OQ.load_agg (cs := x1.l.map U64); exact n5a; exact n5s; exact rfl; exact (by repeat (first | exact Has.here | apply Has.there)); exact rfl; exact Row.all) | (apply OQ.callx (vs := [.agg (cN.l.map U64).toArray, .agg (E.l.map U64).toArray]); exact goes_product; exact rfl; exact (fun w' _ => c_F w')) | (apply OQ.callx (vs := [.agg (AA.l.map U64).toArray, .agg (F.l.map U64).toArray]); exact goes_sum; exact rfl; exact (fun w' _ => c_G w')) | (apply OQ.callx (vs := [.agg (E.l.map U64).toArray, .agg (G.l.map U64).toArray]); exact goes_product; exact rfl; exact (fun w' _ => c_R2 w')) | (apply OQ.callx (vs := [.agg (M.l.map U64).toArray, .agg (M.l.map U64).toArray]); exact goes_product; exact rfl; exact (fun w' _ => c_R3 w')) | (apply OQ.callx (vs := [.agg (S.l.map U64).toArray, .agg (S.l.map U64).toArray]); exact goes_product; exact rfl; exact (fun w' _ => c_SS w')) | (apply OQ.callx (vs := [.agg (x1.l.map U64).toArray, .agg (SS.l.map U64).toArray]); exact goes_product; exact rfl; exact (fun w' _ => c_R4 w'))) rfl ?_)
            refine JQ.q (OQ.pure (v := .agg ((R1.l ++ R2.l ++ R3.l ++ R4.l).map U64).toArray) rfl rfl (by kernel_rfl)) rfl ?_
            repeat (refine JQ.nil_tail ?_)
            refine JL.store_all (cs := (R1.l ++ R2.l ++ R3.l ++ R4.l).map U64) l20s rfl rfl rfl (W_cell _) (by repeat (first | exact Upd.here | apply Upd.there)) rfl ?_
            repeat (first | refine JL.nil ?_ | refine JE.next ?_)
            refine JC.ret (JE.ret1 rfl (RV.cell_agg l20a l20s rfl (by repeat (first | exact Has.here | apply Has.there)) rfl Row.all) ?_)
            exact fun w' hw => ⟨rfl, hw.chg⟩
end Go.Proofs.YtbhlcnimjoppeaaDoor

/-
  Of no statement by itself: that nought is nought any number of times, and that 9 is not, once; no program stands here.
  Conditions: none.
-/
namespace Go.Proofs.YtbhlcnimjoppeaaDoor
namespace Crv
def keyN (x : By) : List By := x :: List.replicate 31 0
end Crv
end Go.Proofs.YtbhlcnimjoppeaaDoor

/-
  Of no statement by itself: what the code's Clamp, Mult and Public give.
  Conditions: each theorem's own.
-/
namespace Go.Proofs.YtbhlcnimjoppeaaDoor
set_option maxRecDepth 10000
open Sl Crv
theorem goes_cclamp : Goes Tryd.prog 72 := ⟨_, Tryd.func72, rfl, by kernel_rfl⟩
theorem goes_cmult : Goes Tryd.prog 47 := ⟨_, Tryd.func47, rfl, by kernel_rfl⟩
theorem goes_cpublic : Goes Tryd.prog 25 := ⟨_, Tryd.func25, rfl, by kernel_rfl⟩
theorem multB_len (k u : List By) : (multB k u).length = 32 := keyF_len _
section
variable {P : Program} {n : Nat} {E : Env} {C : World → Prop} {dst : Option Tmp} {ty t t' : TypeId} {pos : String} {aft : Array Edge} {g : Option (Nat × Bool)} {x y : Operand}
theorem OQ.and8r {a b r : BitVec 8} (hx : ev E x = some (U8 a)) (hy : ev E y = some (U8 b)) (h : a &&& b = r) : OQ P n E C ⟨dst, .binOp .and t x y t', ty, pos, aft, g⟩ (U8 r) := h ▸ OQ.and8 hx hy
end
theorem low_is : ∀ x : By, x &&& 248#8 = x / 8 * 8 := by decide +kernel
theorem high_is : ∀ x : By, x &&& 127#8 ||| 64#8 = x % 64 + 64 := by decide +kernel
set_option maxHeartbeats 8000000 in
theorem cclamp_any (k : List By) (hk : k.length = 32) (w : World) : Calls Tryd.prog 72 [.agg (k.map U8).toArray].toArray w fun e w' => e = .returned (.agg ((clampB k).map U8).toArray) ∧ Ext w w' := by
  have hc0 := U8_nth (l := k) (i := 0) (by omega)
  have hc31 := U8_nth (l := k.set 0 (k.getD 0 0 / 8 * 8)) (i := 31) (by rw [List.length_set]; omega)
  have hlK : ((clampB k).map U8).length = 32 := by rw [List.length_map, clampB_len]; exact hk
  refine enter (n := 16) Tryd.func72 rfl rfl rfl (Holds.start w []) ?_
  repeat (first | refine JC.seq ?_ | refine JC.region ?_)
  refine JL.box (r := k.map U8) rfl rfl rfl fun b1 _ => ?_
  refine JL.alloc k32z rfl fun b2 _ => ?_
  repeat (first | refine JL.q (by first | (apply OQ.idxA0; exact Tryd.underlying23; exact y1s; exact rfl; exact rfl; exact (by decide)) | (apply OQ.load; exact y1c; exact rfl; exact (.there .here); exact (Row.cell hc0)) | (apply OQ.and8 (b := 248#8); exact rfl; exact rfl) | (apply OQ.assign; exact rfl)) rfl ?_ | refine JC.seq ?_ | refine JC.region ?_ | refine JL.nil ?_ | refine JE.next ?_)
  refine JL.store_eq (r' := (k.set 0 (k.getD 0 0 / 8 * 8)).map U8) y1s rfl rfl rfl rfl (.there .here) (by rw [List.length_map, hk]; decide) (by rw [low_is]; exact Y_set _ _ _) ?_
  repeat (first | refine JL.q (by first | (apply OQ.idxA0; exact Tryd.underlying23; exact y1s; exact rfl; exact rfl; exact (by decide)) | (apply OQ.load; exact y1c; exact rfl; exact (.there .here); exact (Row.cell hc31)) | (apply OQ.and8 (b := 127#8); exact rfl; exact rfl) | (apply OQ.or8 (b := 64#8); exact rfl; exact rfl) | (apply OQ.move; exact rfl)) rfl ?_ | refine JC.seq ?_ | refine JC.region ?_ | refine JL.nil ?_ | refine JE.next ?_)
  refine JL.store_eq (r' := (clampB k).map U8) y1s rfl rfl rfl rfl (.there .here) (by rw [List.length_map, List.length_set, hk]; decide) (by rw [high_is]; exact Y_set _ _ _) ?_
  generalize clampB k = K at hlK ⊢
  repeat (first | refine JL.q (by (apply OQ.load_agg (cs := K.map U8); exact k32a; exact k32s; exact rfl; exact (.there .here); exact hlK; exact Row.all)) rfl ?_ | refine JC.seq ?_ | refine JC.region ?_ | refine JL.nil ?_ | refine JE.next ?_)
  refine JL.store_all (cs := K.map U8) k32s rfl rfl hlK (Y_cell _) .here (by simp) ?_
  repeat (first | refine JL.nil ?_ | refine JE.next ?_)
  refine JC.ret (JE.ret1 rfl (RV.cell_agg k32a k32s rfl .here hlK Row.all) ?_)
  exact fun w' hw => ⟨rfl, hw.chg⟩
set_option maxHeartbeats 32000000 in
set_option maxRecDepth 4000 in
theorem cmult_any (k u : List By) (hk : k.length = 32) (hu : u.length = 32) (w : World) : Calls Tryd.prog 47 [.agg (k.map U8).toArray, .agg (u.map U8).toArray].toArray w fun e w' => e = .returned (.agg ((multB k u).map U8).toArray) ∧ Ext w w' := by
  have cC := cclamp_any k hk
  have cN := numberOf_any u hu
  have eM := mltB_is k u hu
  have lM := multB_len k u
  unfold mltB at eM
  have hK : (clampB k).length = 32 := by rw [clampB_len]; exact hk
  have hlk : (k.map U8).length = 32 := by rw [List.length_map]; exact hk
  have hlu : (u.map U8).length = 32 := by rw [List.length_map]; exact hu
  have hlK : ((clampB k).map U8).length = 32 := by rw [List.length_map]; exact hK
  generalize clampB k = K at cC eM hK hlK
  generalize numB u = x1 at cN eM
  generalize multB k u = R at eM lM ⊢
  refine enter (n := 47) Tryd.func47 rfl rfl rfl (Holds.start w []) ?_
  repeat (first | refine JC.seq ?_ | refine JC.region ?_)
  refine JL.box (r := k.map U8) rfl rfl rfl fun b2 _ => ?_
  refine JL.box (r := u.map U8) rfl rfl rfl fun b3 _ => ?_
  refine JL.alloc k32z rfl fun b4 _ => ?_
  repeat (first | refine JC.seq ?_ | refine JL.nil ?_ | refine JE.next ?_)
  let vs : Nat → Nat → Value := fun j x => match j with
    | 0 => .agg (k.map U8).toArray
    | 1 => .agg (K.map U8).toArray
    | 2 => .agg (u.map U8).toArray
    | 3 => .agg (x1.l.map U64).toArray
    | _ => Pt x 0
  let Ms : Nat → Nat → List Ent := fun j x => match j with
    | 4 => [⟨x, Row 23 ((List.replicate 32 (0 : By)).map U8), true⟩]
    | 5 => [⟨x, Row 117 (zeroN.l.map U64), true⟩]
    | 6 => [⟨x, Row 23 (K.map U8), true⟩]
    | 7 => [⟨x, Row 117 (x1.l.map U64), true⟩]
    | 8 => [⟨b4, Row 23 ((List.replicate 32 (0 : By)).map U8), true⟩]
    | 9 => [⟨b3, Row 23 (u.map U8), true⟩]
    | 10 => [⟨b2, Row 23 (k.map U8), true⟩]
    | _ => []
  refine JC.grow (g := ⟨[(2, Pt b2 0), (3, Pt b3 0), (4, Pt b4 0)], 11, vs, Ms, (fun j => match j with | 1 => [(0, 11)] | 3 => [(2, 13)] | 6 => [(4, 5), (1, 12)] | 7 => [(5, 6), (3, 14)] | _ => []), (fun j => match j with | 0 => [10] | 2 => [9] | 6 => [4] | 7 => [5] | _ => []), (fun j => match j with | 6 => [4] | 7 => [5] | _ => []), (fun j => match j with | 6 => some 4 | 7 => some 5 | _ => none)⟩) [(4, 5), (5, 6)] [6, 7, 8, 9, 10] mixC (by repeat (first | exact SubE.nil | refine SubE.cons _ _ _ rfl ?_)) (Less.refl _) (by kernel_rfl) (by kernel_rfl) (by kernel_rfl) ?_ ?_
  · refine ⟨?_, ?_, ?_, ?_, ?_, ?_, ?_, ?_, trivial⟩
    · (intro x EF MF Q kk; exact JL.q (OQ.load_agg (cs := k.map U8) k32a k32s rfl .here hlk Row.all) rfl (JL.nil (kk default nofun)))
    · (intro x EF MF Q kk; exact JL.q (OQ.callx (vs := [.agg (k.map U8).toArray]) goes_cclamp rfl fun w' _ => cC w') rfl (JL.nil (kk default nofun)))
    · (intro x EF MF Q kk; exact JL.q (OQ.load_agg (cs := u.map U8) k32a k32s rfl .here hlu Row.all) rfl (JL.nil (kk default nofun)))
    · (intro x EF MF Q kk; exact JL.q (OQ.callx (vs := [.agg (u.map U8).toArray]) goes_numberOf rfl fun w' _ => cN w') rfl (JL.nil (kk default nofun)))
    · (intro x EF MF Q kk; exact JL.alloc k32z rfl fun b _ => JL.nil (kk b nofun))
    · (intro x EF MF Q kk; exact JL.alloc n5z rfl fun b _ => JL.nil (kk b nofun))
    · (intro x EF MF Q kk; exact JL.store_all (cs := K.map U8) k32s rfl rfl hlK (Y_cell _) .here rfl (JL.nil (kk (x 4) (fun k h => by cases h; rfl))))
    · (intro x EF MF Q kk; exact JL.store_all (cs := x1.l.map U64) n5s rfl rfl rfl (W_cell _) .here rfl (JL.nil (kk (x 5) (fun k h => by cases h; rfl))))
  · intro x hx
    have h6 := hx 6 4 (by decide) rfl
    have h7 := hx 7 5 (by decide) rfl
    show JE _ _ _ _ _ [(5, Pt (x 4) 0), (6, Pt (x 5) 0), (2, Pt b2 0), (3, Pt b3 0), (4, Pt b4 0)] [⟨(x 6), Row 23 (K.map U8), true⟩, ⟨(x 7), Row 117 (x1.l.map U64), true⟩, ⟨b4, Row 23 ((List.replicate 32 (0 : By)).map U8), true⟩, ⟨b3, Row 23 (u.map U8), true⟩, ⟨b2, Row 23 (k.map U8), true⟩]
    rw [h6, h7]
    generalize x 4 = b5
    generalize x 5 = b6
    clear hx h6 h7 x vs Ms
    repeat (first | refine JC.seq ?_ | refine JC.region ?_ | refine JE.next ?_)
    refine JL.q (OQ.pure (v := .agg (oneN.l.map U64).toArray) rfl rfl (by kernel_rfl)) rfl ?_
    repeat (refine JL.q (by (apply OQ.load_agg (cs := x1.l.map U64); exact n5a; exact n5s; exact rfl; exact (by repeat (first | exact Has.here | apply Has.there)); exact rfl; exact Row.all)) rfl ?_)
    refine JL.q (OQ.pure (v := .agg (oneN.l.map U64).toArray) rfl rfl (by kernel_rfl)) rfl ?_
    refine JL.q (OQ.pure (v := .agg ((ladB x1 (le K) 0).l.map U64).toArray) rfl rfl (by kernel_rfl)) rfl ?_
    refine JL.alloc l20z rfl fun b7 _ => ?_
    refine JL.store_all (cs := (ladB x1 (le K) 0).l.map U64) l20s rfl rfl rfl (W_cell _) .here rfl ?_
    repeat (first | refine JL.q (by (apply OQ.move; exact rfl)) rfl ?_ | refine JC.seq ?_ | refine JC.region ?_ | refine JC.block ?_ | refine JL.nil ?_ | refine JE.next ?_)
    refine JC.loop (fun n : Nat => [(4, Pt b4 0), (5, Pt b5 0), (6, Pt b6 0), (7, Pt b7 0), (19, N n)])
      (fun n => [⟨b7, Row 120 ((ladB x1 (le K) n).l.map U64), true⟩, ⟨b5, Row 23 (K.map U8), true⟩, ⟨b6, Row 117 (x1.l.map U64), true⟩, ⟨b4, Row 23 ((List.replicate 32 (0 : By)).map U8), true⟩])
      (fun n => 255 - n) (fun n => n ≤ 255) 0 (by omega) (by repeat (first | exact SubE.nil | refine SubE.cons _ _ _ rfl ?_)) (.keep _ _ _ _ _ _ (fun _ h => h) (.keep _ _ _ _ _ _ (fun _ h => h) (.keep _ _ _ _ _ _ (fun _ h => h) (.keep _ _ _ _ _ _ (fun _ h => h) (.nil _))))) ?_
    intro n hn
    repeat (first | refine JL.q (by (apply OQ.lssN; exact rfl; exact rfl)) rfl ?_ | refine JC.seq ?_ | refine JC.region ?_ | refine JL.nil ?_ | refine JE.next ?_)
    refine JC.cond rfl (fun h => ?_) (fun h => ?_)
    · have hn' : n < 255 := of_decide_eq_true h
      clear h hn eM
      have eN : ladB x1 (le K) (n + 1) = swB ((le K).testBit (254 - n)) (stpB x1 (swB ((le K).testBit (254 - n)) (ladB x1 (le K) n))) := rfl
      have hcb := U8_nth (l := K) (i := (254 - n) / 8) (by omega)
      have hbit : (K.getD ((254 - n) / 8) 0 >>> ((254 - n) % 8)) &&& 1#8 = bt ((le K).testBit (254 - n)) := by rw [bt_is _ _ (by omega), le_bit]
      have b32 : (254 - n) / 8 < 32 := by omega
      generalize (le K).testBit (254 - n) = c at eN hbit
      generalize ladB x1 (le K) n = s at eN ⊢
      have c1 := exchanged_any c s
      generalize swB c s = s1 at eN c1
      have c2 := stepped_any x1 s1
      generalize stpB x1 s1 = s2 at eN c2
      have c3 := exchanged_any c s2
      rw [← eN] at c3
      have e3 : ladB x1 (le K) (n + 1) = ladB x1 (le K) (n + 1) := rfl
      generalize hs3 : ladB x1 (le K) (n + 1) = s3 at c3
      clear eN e3
      repeat (first | refine JL.q (by first | (apply OQ.idxA0; exact Tryd.underlying23; exact y1s; exact rfl; exact rfl; exact b32) | (apply OQ.load; exact y1c; exact rfl; exact (.there .here); exact (Row.cell hcb)) | (apply OQ.shr8; exact rfl; exact rfl) | (apply OQ.and8r (b := 1#8) (r := bt c); exact rfl; exact rfl; exact hbit) | (apply OQ.move; exact rfl) | (apply OQ.assign; exact rfl) | (apply OQ.subN; exact rfl; exact rfl; exact (by (try simp only []); omega); exact (by (try simp only []); omega)) | (apply OQ.remN; exact rfl; exact rfl; exact (by (try simp only []); omega)) | (apply OQ.quoN; exact rfl; exact rfl; exact (by (try simp only []); omega); exact (by (try simp only []); omega))) rfl ?_ | refine JC.seq ?_ | refine JC.region ?_ | refine JC.block ?_ | refine JC.skip ?_ | refine JL.nil ?_ | refine JE.next ?_)
      refine JC.tail 7 mixC (by kernel_rfl) ?_
      simp only [List.take_succ_cons, List.take_zero, List.drop_succ_cons, List.drop_zero]
      repeat (first | refine JQ.q (by first | (apply OQ.load_agg (cs := s.l.map U64); exact l20a; exact l20s; exact rfl; exact .here; exact rfl; exact Row.all) | (apply OQ.load_agg (cs := x1.l.map U64); exact n5a; exact n5s; exact rfl; exact (by repeat (first | exact Has.here | apply Has.there)); exact rfl; exact Row.all) | (apply OQ.callx (vs := [.agg (s.l.map U64).toArray, U8 (bt c)]); exact goes_exchanged; exact rfl; exact (fun w' _ => c1 w')) | (apply OQ.callx (vs := [.agg (s1.l.map U64).toArray, .agg (x1.l.map U64).toArray]); exact goes_stepped; exact rfl; exact (fun w' _ => c2 w')) | (apply OQ.callx (vs := [.agg (s2.l.map U64).toArray, U8 (bt c)]); exact goes_exchanged; exact rfl; exact (fun w' _ => c3 w')) | (apply OQ.move; exact rfl)) rfl ?_ | refine JQ.nil_tail ?_)
      refine JL.store_all (cs := s3.l.map U64) l20s rfl rfl rfl (W_cell _) .here rfl ?_
      rw [← hs3]
      repeat (first | refine JL.q (by first | (apply OQ.move; exact rfl) | (apply OQ.addN; exact rfl; exact rfl; exact (by (try simp only []); omega))) rfl ?_ | refine JC.region ?_ | refine JL.nil ?_ | refine JE.next ?_ | refine JE.blk_normal ?_)
      exact JE.again (i := n) (n + 1) (by omega) (by omega) (by repeat (first | exact SubE.nil | refine SubE.cons _ _ _ rfl ?_)) (Less.refl _)
    · have hn' : ¬ n < 255 := of_decide_eq_false h
      obtain rfl : n = 255 := by omega
      clear h hn hn'
      generalize ladB x1 (le K) 255 = s at eM ⊢
      obtain ⟨x2, z2, x3, z3⟩ := s
      have c1 := inverse_any z2
      have c2 := product_any x2 (invB z2)
      have c3 := key5_any (prdB x2 (invB z2))
      have eM' : kyB (prdB x2 (invB z2)) = R := eM
      rw [eM'] at c3
      clear eM eM'
      generalize prdB x2 (invB z2) = q at c2 c3
      generalize invB z2 = v at c1 c2
      have hR : (R.map U8).length = 32 := by rw [List.length_map]; exact lM
      repeat (first | refine JC.seq ?_ | refine JC.exit ?_ | refine JE.next ?_ | refine JE.then_exit ?_ | refine JE.blk_hit ?_)
      refine JC.tail 7 mixC (by kernel_rfl) ?_
      simp only [List.take_succ_cons, List.take_zero, List.drop_succ_cons, List.drop_zero]
      repeat (first | refine JQ.q (by first | (apply OQ.load_agg (cs := x2.l.map U64); exact n5a; exact n5s; exact rfl; exact .here; exact rfl; exact (Row.cells rfl)) | (apply OQ.load_agg (cs := z2.l.map U64); exact n5a; exact n5s; exact rfl; exact .here; exact rfl; exact (Row.cells rfl)) | (apply OQ.callx (vs := [.agg (z2.l.map U64).toArray]); exact goes_inverse; exact rfl; exact (fun w' _ => c1 w')) | (apply OQ.callx (vs := [.agg (x2.l.map U64).toArray, .agg (v.l.map U64).toArray]); exact goes_product; exact rfl; exact (fun w' _ => c2 w')) | (apply OQ.callx (vs := [.agg (q.l.map U64).toArray]); exact goes_key5; exact rfl; exact (fun w' _ => c3 w')) | (apply OQ.fld; exact rfl; exact rfl; exact rfl; exact (by decide); exact rfl)) rfl ?_ | refine JQ.nil_tail ?_)
      refine JL.store_all (cs := R.map U8) k32s rfl rfl hR (Y_cell _) (by repeat (first | exact Upd.here | apply Upd.there)) (by simp) ?_
      repeat (first | refine JL.nil ?_ | refine JE.next ?_)
      refine JC.ret (JE.ret1 rfl (RV.cell_agg k32a k32s rfl (by repeat (first | exact Has.here | apply Has.there)) hR Row.all) ?_)
      exact fun w' hw => ⟨rfl, hw.chg⟩
set_option maxHeartbeats 8000000 in
theorem cpublic_any (k : List By) (hk : k.length = 32) (w : World) : Calls Tryd.prog 25 [.agg (k.map U8).toArray].toArray w fun e w' => e = .returned (.agg ((multB k (keyN 9)).map U8).toArray) ∧ Ext w w' := by
  have c := cmult_any k (keyN 9) hk rfl
  have hlk : (k.map U8).length = 32 := by rw [List.length_map]; exact hk
  have hly : ((multB k (keyN 9)).map U8).length = 32 := by rw [List.length_map]; exact multB_len _ _
  generalize multB k (keyN 9) = Y at c hly ⊢
  refine enter (n := 6) Tryd.func25 rfl rfl rfl (Holds.start w []) ?_
  repeat (first | refine JC.seq ?_ | refine JC.region ?_)
  refine JL.box (r := k.map U8) rfl rfl rfl fun b1 _ => ?_
  refine JL.alloc k32z rfl fun b2 _ => ?_
  repeat (first | refine JL.q (by (apply OQ.load_agg (cs := k.map U8); exact k32a; exact k32s; exact rfl; exact (.there .here); exact hlk; exact Row.all)) rfl ?_ | refine JC.seq ?_ | refine JC.region ?_ | refine JL.nil ?_ | refine JE.next ?_)
  refine JL.q (OQ.pure (v := .agg ((keyN 9).map U8).toArray) rfl rfl (by kernel_rfl)) rfl ?_
  repeat (refine JL.q (by (apply OQ.callx (vs := [.agg (k.map U8).toArray, .agg ((keyN 9).map U8).toArray]); exact goes_cmult; exact rfl; exact (fun w' _ => c w'))) rfl ?_)
  refine JL.store_all (cs := Y.map U8) k32s rfl rfl hly (Y_cell _) .here (by simp) ?_
  repeat (first | refine JL.nil ?_ | refine JE.next ?_)
  refine JC.ret (JE.ret1 rfl (RV.cell_agg k32a k32s rfl .here hly Row.all) ?_)
  exact fun w' hw => ⟨rfl, hw.chg⟩
end Go.Proofs.YtbhlcnimjoppeaaDoor

/-
  Of no statement by itself: what the code's New and Shared give.
  Conditions: each theorem's own.
-/
namespace Go.Proofs.YtbhlcnimjoppeaaDoor
set_option maxRecDepth 10000
open Sl Crv
section
variable {P : Program} {n : Nat} {E : Env} {C : World → Prop} {dst : Option Tmp} {ty t t' : TypeId} {pos : String} {aft : Array Edge} {g : Option (Nat × Bool)} {x y : Operand} {v u : Value} {cs : List Value}
/-- a literal of a struct of two parts -/
theorem OQ.build2 (hx : ev E x = some v) (hy : ev E y = some u) (h : P.built t [(0, v), (1, u)] = some cs.toArray) : OQ P n E C ⟨dst, .build t #[(0, x), (1, y)], ty, pos, aft, g⟩ (.agg cs.toArray) :=
  OQ.run fun a ha w _ => by
    have h1 := ha.eval hx
    have h2 := ha.eval hy
    have r := run_build w t #[(0, v), (1, u)] cs.toArray (by simpa using h)
    simp [execOp, h1, h2, r]
end
theorem fill2 (place : Nat → Option (Nat × Nat)) (h0 : place 0 = some (0, 32)) (h1 : place 1 = some (32, 32)) (a b : List By) (ha : a.length = 32) (hb : b.length = 32) :
    Instr.fill place (((List.replicate 64 (0 : By)).map U8).toArray) [(0, .agg (a.map U8).toArray), (1, .agg (b.map U8).toArray)] = some ((a ++ b).map U8).toArray := by
  have e : Instr.fill place (((List.replicate 64 (0 : By)).map U8).toArray) [(0, .agg (a.map U8).toArray), (1, .agg (b.map U8).toArray)] =
      Instr.fill (fun i => some (i * 32, 32)) (((List.replicate 64 (0 : By)).map U8).toArray) [(0, .agg (a.map U8).toArray), (1, .agg (b.map U8).toArray)] := by
    simp [Instr.fill, h0, h1]
  rw [e]
  obtain ⟨r, h6, h7, h8⟩ := Great.fill_dense (s := 32) (by decide) [.agg (a.map U8).toArray, .agg (b.map U8).toArray] 0 (((List.replicate 64 (0 : By)).map U8).toArray) (by simp [Value.cells, ha, hb]) (by simp)
  simp only [List.zipIdx_cons, List.zipIdx_nil, List.map_cons, List.map_nil] at h6
  have hr : r = ((a ++ b).map U8).toArray := by
    apply Array.ext_getElem?
    intro k
    rw [h8 k]
    by_cases hk : k < 32
    · rw [if_pos (by simp; omega)]
      simp [Nat.div_eq_of_lt hk, Nat.mod_eq_of_lt hk, Value.cells, List.getElem?_append, ha, hk]
    · by_cases hk2 : k < 64
      · rw [if_pos (by simp; omega)]
        have d : k / 32 = 1 := by omega
        have m : k % 32 = k - 32 := by omega
        simp [d, m, Value.cells, List.getElem?_append, ha, hk]
      · rw [if_neg (by simp; omega), Array.getElem?_eq_none (by simp; omega), Array.getElem?_eq_none (by simp; omega)]
  rw [← hr]
  exact h6
theorem p64s : szT Tryd.prog 39 = some 64 := by kernel_rfl
theorem p64a : aggT Tryd.prog 39 = true := by kernel_rfl
theorem p64z : zc Tryd.prog 39 = some ((List.replicate 64 (0 : By)).map U8) := by kernel_rfl
theorem pair_built (a b : List By) (ha : a.length = 32) (hb : b.length = 32) : Tryd.prog.built 39 [(0, .agg (a.map U8).toArray), (1, .agg (b.map U8).toArray)] = some ((a ++ b).map U8).toArray := by
  have h : Tryd.prog.built 39 [(0, .agg (a.map U8).toArray), (1, .agg (b.map U8).toArray)] = Instr.fill (fun i => #[(0, 32), (32, 32)][i]?) (((List.replicate 64 (0 : By)).map U8).toArray) [(0, .agg (a.map U8).toArray), (1, .agg (b.map U8).toArray)] := by kernel_rfl
  rw [h]
  exact fill2 _ rfl rfl a b ha hb
theorem goes_cnew : Goes Tryd.prog 20 := ⟨_, Tryd.func20, rfl, by kernel_rfl⟩
theorem goes_cshared : Goes Tryd.prog 35 := ⟨_, Tryd.func35, rfl, by kernel_rfl⟩
set_option maxHeartbeats 8000000 in
theorem cnew_any (k : List By) (hk : k.length = 32) (w : World) : Calls Tryd.prog 20 [.agg (k.map U8).toArray].toArray w fun e w' => e = .returned (.agg ((k ++ multB k (keyN 9)).map U8).toArray) ∧ Ext w w' := by
  have c := cpublic_any k hk
  have hY := multB_len k (keyN 9)
  generalize multB k (keyN 9) = Y at c hY ⊢
  have hlk : (k.map U8).length = 32 := by rw [List.length_map]; exact hk
  have hlp : ((k ++ Y).map U8).length = 64 := by rw [List.length_map, List.length_append, hk, hY]
  have bt := pair_built k Y hk hY
  refine enter (n := 7) Tryd.func20 rfl rfl rfl (Holds.start w []) ?_
  repeat (first | refine JC.seq ?_ | refine JC.region ?_)
  refine JL.box (r := k.map U8) rfl rfl rfl fun b1 _ => ?_
  refine JL.alloc p64z rfl fun b2 _ => ?_
  repeat (first | refine JC.seq ?_ | refine JL.nil ?_ | refine JE.next ?_)
  refine JC.tail 4 mixC (by kernel_rfl) ?_
  simp only [List.take_succ_cons, List.take_zero, List.drop_succ_cons, List.drop_zero]
  repeat (first | refine JQ.q (by first | (apply OQ.load_agg (cs := k.map U8); exact k32a; exact k32s; exact rfl; exact (by repeat (first | exact Has.here | apply Has.there)); exact hlk; exact Row.all) | (apply OQ.callx (vs := [.agg (k.map U8).toArray]); exact goes_cpublic; exact rfl; exact (fun w' _ => c w')) | (apply OQ.build2; exact rfl; exact rfl; exact bt)) rfl ?_ | refine JQ.nil_tail ?_)
  refine JL.store_all (cs := (k ++ Y).map U8) p64s rfl rfl hlp (Y_cell _) .here (by simp) ?_
  repeat (first | refine JL.nil ?_ | refine JE.next ?_)
  refine JC.ret (JE.ret1 rfl (RV.cell_agg p64a p64s rfl .here hlp Row.all) ?_)
  exact fun w' hw => ⟨rfl, hw.chg⟩
theorem half0 {a b : List By} (_ha : a.length = 32) : (((a ++ b).map U8).drop 0).take (a.map U8).length = a.map U8 := by
  simp [List.map_append]
theorem half1 {a b : List By} (ha : a.length = 32) : (((a ++ b).map U8).drop 32).take (b.map U8).length = b.map U8 := by
  rw [List.map_append, List.drop_left' (by rw [List.length_map]; exact ha), List.take_of_length_le (Nat.le_refl _)]
set_option maxHeartbeats 8000000 in
theorem cshared_any (a Y u : List By) (ha : a.length = 32) (hY : Y.length = 32) (hu : u.length = 32) (w : World) : Calls Tryd.prog 35 [.agg ((a ++ Y).map U8).toArray, .agg (u.map U8).toArray].toArray w
    fun e w' => e = .returned (.agg ((multB a u).map U8).toArray) ∧ Ext w w' := by
  have c := cmult_any a u ha hu
  have hla : (a.map U8).length = 32 := by rw [List.length_map]; exact ha
  have hlu : (u.map U8).length = 32 := by rw [List.length_map]; exact hu
  have hR : ((multB a u).map U8).length = 32 := by rw [List.length_map]; exact multB_len _ _
  have h0 := half0 (b := Y) ha
  generalize multB a u = R at c hR ⊢
  refine enter (n := 9) Tryd.func35 rfl rfl rfl (Holds.start w []) ?_
  repeat (first | refine JC.seq ?_ | refine JC.region ?_)
  refine JL.box (r := (a ++ Y).map U8) rfl rfl rfl fun b2 _ => ?_
  refine JL.box (r := u.map U8) rfl rfl rfl fun b3 _ => ?_
  refine JL.alloc k32z rfl fun b4 _ => ?_
  repeat (first | refine JL.q (by first | (apply OQ.load_agg (cs := a.map U8); exact k32a; exact k32s; exact rfl; exact (by repeat (first | exact Has.here | apply Has.there)); exact hla; exact (Row.cells h0)) | (apply OQ.load_agg (cs := u.map U8); exact k32a; exact k32s; exact rfl; exact (by repeat (first | exact Has.here | apply Has.there)); exact hlu; exact Row.all) | (apply OQ.callx (vs := [.agg (a.map U8).toArray, .agg (u.map U8).toArray]); exact goes_cmult; exact rfl; exact (fun w' _ => c w')) | (apply OQ.fld; exact rfl; exact rfl; exact rfl; exact (by decide); exact rfl)) rfl ?_ | refine JC.seq ?_ | refine JC.region ?_ | refine JL.nil ?_ | refine JE.next ?_)
  refine JL.store_all (cs := R.map U8) k32s rfl rfl hR (Y_cell _) .here (by simp) ?_
  repeat (first | refine JL.nil ?_ | refine JE.next ?_)
  refine JC.ret (JE.ret1 rfl (RV.cell_agg k32a k32s rfl .here hR Row.all) ?_)
  exact fun w' hw => ⟨rfl, hw.chg⟩
end Go.Proofs.YtbhlcnimjoppeaaDoor

/-
  Of no statement by itself: what the ratchet does with sessions, by definition.
  Conditions: each theorem's own.
-/
namespace Go.Proofs.YtbhlcnimjoppeaaDoor
open Sl Sha Str Crv
namespace Rtc
open Dsk Jrn
def ratB : ByteArray := ⟨#[114, 97, 116, 99, 104, 101, 116]⟩
def turnB (root sh : Bk) : Bk := expd (hmac root sh) (bytesOf ratB) (2 * 32)
def turnA (root sh : Bk) : Bk := (turnB root sh).take 32
def turnC (root sh : Bk) : Bk := (turnB root sh).drop 32
theorem turnB_len (a b : Bk) : (turnB a b).length = 64 := expd_length _ _ _
theorem turnA_len (a b : Bk) : (turnA a b).length = 32 := by simp [turnA, turnB_len]
theorem turnC_len (a b : Bk) : (turnC a b).length = 32 := by simp [turnC, turnB_len]
def nxB (c : Bk) : Bk := hmac c [2]
def msB (c : Bk) : Bk := hmac c [1]
def z32 : Bk := List.replicate 32 0
def z12 : Bk := List.replicate 12 0
def pubB (k : Bk) : Bk := multB k (keyN 9)
theorem pubB_len (k : Bk) : (pubB k).length = 32 := keyF_len _
theorem multB_l (k u : Bk) : (multB k u).length = 32 := keyF_len _
def firstS (root own other : Bk) : Ses := ⟨turnA root (multB own other), own, other, true, false, turnC root (multB own other), z32, 0, 0, 0, []⟩
def secondS (root own : Bk) : Ses := ⟨root, own, z32, false, false, z32, z32, 0, 0, 0, []⟩
theorem firstS_ok (root own other : Bk) (h2 : own.length = 32) (h3 : other.length = 32) : (firstS root own other).ok :=
  ⟨turnA_len _ _, h2, h3, turnC_len _ _, rfl, nofun⟩
theorem secondS_ok (root own : Bk) (h1 : root.length = 32) (h2 : own.length = 32) : (secondS root own).ok := ⟨h1, h2, rfl, rfl, rfl, nofun⟩
def encH (s : Ses) : Hd := ⟨pubB s.own, s.prev, s.sent⟩
def sealB (key side p : Bk) : Bk := sealK (k1 key) (k2 key) z12 side p
def openB (key side z : Bk) : Bk × Nat := openK (k1 key) (k2 key) z12 side z
def encN (s : Ses) : Ses := { s with send := nxB s.send, sent := s.sent + 1 }
def encB (s : Ses) (side p : Bk) : Bk := hdB (encH s) ++ sealB (msB s.send) (side ++ hdB (encH s)) p
def encS (s : Ses) (side p : Bk) : Ses × Bk × Nat :=
  if s.sends = false then (s, [], 13) else if 2147483647 ≤ s.sent then (s, [], 12) else (encN s, encB s side p, 0)
theorem encH_chain (s : Ses) : (encH s).chain.length = 32 := pubB_len _
theorem encN_ok {s : Ses} (h : s.ok) : (encN s).ok := ⟨h.root, h.own, h.other, rfl, h.take, h.kept⟩
/-! ### leaving out -/
def itr : Nat → Bk → Bk
  | 0, c => c
  | k + 1, c => itr k (nxB c)
def lvK (o : Bk) : Nat → Nat → Bk → List Kp
  | 0, _, _ => []
  | k + 1, t, c => ⟨o, t, msB c⟩ :: lvK o k (t + 1) (nxB c)
theorem itr_succ : ∀ (k : Nat) (c : Bk), itr (k + 1) c = nxB (itr k c)
  | 0, _ => rfl
  | k + 1, c => itr_succ k (nxB c)
theorem itr_len {c : Bk} (h : c.length = 32) : ∀ k : Nat, (itr k c).length = 32
  | 0 => h
  | k + 1 => by rw [itr_succ]; rfl
theorem lvK_len (o : Bk) : ∀ (k t : Nat) (c : Bk), (lvK o k t c).length = k
  | 0, _, _ => rfl
  | k + 1, t, c => by rw [lvK, List.length_cons, lvK_len o k]
theorem lvK_succ (o : Bk) : ∀ (k t : Nat) (c : Bk), lvK o (k + 1) t c = lvK o k t c ++ [⟨o, t + k, msB (itr k c)⟩]
  | 0, t, c => rfl
  | k + 1, t, c => by
    rw [lvK, lvK_succ o k (t + 1) (nxB c), lvK, List.cons_append, show t + 1 + k = t + (k + 1) by omega]
    rfl
theorem lvK_ok {o : Bk} (ho : o.length = 32) : ∀ (k t : Nat) (c : Bk), ∀ x ∈ lvK o k t c, x.ok
  | 0, _, _, x, h => by cases h
  | k + 1, t, c, x, h => by
    rcases List.mem_cons.1 h with rfl | h
    · exact ⟨ho, rfl⟩
    · exact lvK_ok ho k _ _ x h
def keep (l : List Kp) : List Kp := (l.reverse.take 2000).reverse
theorem keep_eq (l : List Kp) : keep l = l.drop (l.length - 2000) := by rw [keep, List.take_reverse, List.reverse_reverse]
theorem keep_mem {l : List Kp} {x : Kp} (h : x ∈ keep l) : x ∈ l := by
  rw [keep_eq] at h
  exact List.mem_of_mem_drop h
theorem keep_id {l : List Kp} (h : l.length ≤ 2000) : keep l = l := by
  rw [keep_eq, show l.length - 2000 = 0 by omega]
  rfl
theorem keep_len (l : List Kp) : (keep l).length ≤ 2000 := by rw [keep_eq, List.length_drop]; omega
def trim (s : Ses) : Ses := { s with kept := keep s.kept }
theorem trim_kept (s : Ses) : (trim s).kept = keep s.kept := rfl
theorem trim_ok {s : Ses} (h : s.ok) : (trim s).ok := by
  refine ⟨h.root, h.own, h.other, h.send, h.take, fun x hx => ?_⟩
  rw [trim_kept] at hx
  exact h.kept x (keep_mem hx)
theorem trim_id {s : Ses} (h : s.kept.length ≤ 2000) : trim s = s := by cases s; rw [trim, keep_id h]
/-- as many keys left out -/
def lvS (s : Ses) (k : Nat) : Ses := { s with take := itr k s.take, taken := s.taken + k, kept := s.kept ++ lvK s.other k s.taken s.take }
def leave (s : Ses) (to : Nat) : Option Ses :=
  if 1000 < to - s.taken then none else some (trim (lvS s (to - s.taken)))
theorem lvS_zero (s : Ses) : lvS s 0 = s := by cases s; simp [lvS, itr, lvK]
theorem lvS_ok {s : Ses} (h : s.ok) (k : Nat) : (lvS s k).ok := ⟨h.root, h.own, h.other, h.send, itr_len h.take k, fun x hx => by
  rcases List.mem_append.1 hx with hx | hx
  · exact h.kept x hx
  · exact lvK_ok h.other _ _ _ x hx⟩
theorem leave_none {s : Ses} {to : Nat} (h : 1000 < to - s.taken) : leave s to = none := by rw [leave, if_pos h]
theorem leave_some {s : Ses} {to : Nat} (h : ¬ 1000 < to - s.taken) : leave s to = some (trim (lvS s (to - s.taken))) := by rw [leave, if_neg h]
theorem leave_id {s : Ses} {to : Nat} (h : to ≤ s.taken) (hk : s.kept.length ≤ 2000) : leave s to = some s := by
  rw [leave_some (by omega), show to - s.taken = 0 by omega, lvS_zero, trim_id hk]
theorem leave_ok {s n : Ses} {to : Nat} (h : s.ok) (e : leave s to = some n) : n.ok ∧ n.kept.length ≤ 2000 ∧ n.taken = max s.taken to := by
  rw [leave] at e
  split at e
  · cases e
  · cases e
    refine ⟨trim_ok (lvS_ok h _), by rw [trim_kept]; exact keep_len _, ?_⟩
    show s.taken + (to - s.taken) = _
    omega
def turned (n : Ses) (ch fresh : Bk) : Ses :=
  ⟨turnA (turnA n.root (multB n.own ch)) (multB fresh ch), fresh, ch, true, true, turnC (turnA n.root (multB n.own ch)) (multB fresh ch), turnC n.root (multB n.own ch), 0, 0, n.sent, n.kept⟩
theorem turned_ok {n : Ses} (h : n.ok) {ch fresh : Bk} (hc : ch.length = 32) (hf : fresh.length = 32) : (turned n ch fresh).ok :=
  ⟨turnA_len _ _, hf, hc, turnC_len _ _, turnC_len _ _, h.kept⟩
def newc (s : Ses) (h : Hd) (fresh : Bk) : Option Ses :=
  if s.takes = true then (leave s h.prev).map fun n => turned n h.chain fresh else some (turned s h.chain fresh)
def hitK (h : Hd) (k : Kp) : Bool := decide (k.chain = h.chain) && decide (k.num = h.num)
def ixK (h : Hd) (l : List Kp) : Option Nat := l.findIdx? (hitK h)
/-- the session as it takes by the header's chain -/
def onto (s : Ses) (h : Hd) (fresh : Bk) : Option Ses := if h.chain = s.other ∧ s.takes = true then some s else newc s h fresh
def tookN (m : Ses) : Ses := { m with take := nxB m.take, taken := m.taken + 1 }
def msgK (s : Ses) (h : Hd) (fresh : Bk) : Nat ⊕ (Ses × Bk) :=
  match ixK h s.kept with
  | some i => .inr ({ s with kept := s.kept.eraseIdx i }, (s.kept.getD i noK).key)
  | none => match onto s h fresh with
    | none => .inl 12
    | some n => if h.num < n.taken then .inl 11 else match leave n h.num with
      | none => .inl 12
      | some m => .inr (tookN m, msB m.take)
def decS (s : Ses) (side z fresh : Bk) : Ses × Bk × Nat :=
  match headV z with
  | none => (s, [], 3)
  | some (h, rest) => match msgK s h fresh with
    | .inl c => (s, [], c)
    | .inr (n, key) => if (openB key (side ++ hdB h) rest).2 = 0 then (n, (openB key (side ++ hdB h) rest).1, 0) else (s, [], (openB key (side ++ hdB h) rest).2)
theorem eraseIdx_ok {s : Ses} (h : s.ok) (i : Nat) : ({ s with kept := s.kept.eraseIdx i } : Ses).ok := ⟨h.root, h.own, h.other, h.send, h.take, fun x hx => h.kept x (List.mem_of_mem_eraseIdx hx)⟩
theorem tookN_ok {s : Ses} (h : s.ok) : (tookN s).ok := ⟨h.root, h.own, h.other, h.send, rfl, h.kept⟩
theorem newc_ok {s n : Ses} {h : Hd} {fresh : Bk} (hs : s.ok) (hc : h.chain.length = 32) (hf : fresh.length = 32) (hk : s.kept.length ≤ 2000) (e : newc s h fresh = some n) : n.ok ∧ n.kept.length ≤ 2000 ∧ n.taken = 0 := by
  rw [newc] at e
  split at e
  · obtain ⟨m, hm, rfl⟩ := Option.map_eq_some_iff.1 e
    have := leave_ok hs hm
    exact ⟨turned_ok this.1 hc hf, this.2.1, rfl⟩
  · cases e
    exact ⟨turned_ok hs hc hf, hk, rfl⟩
theorem openB_bad {key side z : Bk} (h : ¬ (openB key side z).2 = 0) : (openB key side z).1 = [] := by
  rw [openB, openK] at h ⊢
  split
  · rfl
  · split at h
    · omega
    · split
      · next h2 => rw [if_pos h2] at h; exact absurd rfl h
      · rfl
/-! ### case by case -/
theorem dec_none {s : Ses} {side z fresh : Bk} (hh : headV z = none) : decS s side z fresh = (s, [], 3) := by rw [decS, hh]
theorem dec_inl {s : Ses} {side z fresh rest : Bk} {h : Hd} {c : Nat} (hh : headV z = some (h, rest)) (hm : msgK s h fresh = .inl c) : decS s side z fresh = (s, [], c) := by
  rw [decS, hh]
  dsimp only
  rw [hm]
theorem dec_yes {s n : Ses} {side z fresh rest key : Bk} {h : Hd} (hh : headV z = some (h, rest)) (hm : msgK s h fresh = .inr (n, key)) (ho : (openB key (side ++ hdB h) rest).2 = 0) : decS s side z fresh = (n, (openB key (side ++ hdB h) rest).1, 0) := by
  rw [decS, hh]
  dsimp only
  rw [hm]
  dsimp only
  rw [if_pos ho]
theorem dec_no {s n : Ses} {side z fresh rest key : Bk} {h : Hd} (hh : headV z = some (h, rest)) (hm : msgK s h fresh = .inr (n, key)) (ho : ¬ (openB key (side ++ hdB h) rest).2 = 0) : decS s side z fresh = (s, [], (openB key (side ++ hdB h) rest).2) := by
  rw [decS, hh]
  dsimp only
  rw [hm]
  dsimp only
  rw [if_neg ho]
theorem msg_kept {s : Ses} {h : Hd} {fresh : Bk} {i : Nat} (hx : ixK h s.kept = some i) : msgK s h fresh = .inr ({ s with kept := s.kept.eraseIdx i }, (s.kept.getD i noK).key) := by rw [msgK, hx]
theorem msg_onto {s : Ses} {h : Hd} {fresh : Bk} (hx : ixK h s.kept = none) (ho : onto s h fresh = none) : msgK s h fresh = .inl 12 := by
  rw [msgK, hx]
  dsimp only
  rw [ho]
theorem msg_old {s n : Ses} {h : Hd} {fresh : Bk} (hx : ixK h s.kept = none) (ho : onto s h fresh = some n) (hn : h.num < n.taken) : msgK s h fresh = .inl 11 := by
  rw [msgK, hx]
  dsimp only
  rw [ho]
  dsimp only
  rw [if_pos hn]
theorem msg_far {s n : Ses} {h : Hd} {fresh : Bk} (hx : ixK h s.kept = none) (ho : onto s h fresh = some n) (hn : ¬ h.num < n.taken) (hl : leave n h.num = none) : msgK s h fresh = .inl 12 := by
  rw [msgK, hx]
  dsimp only
  rw [ho]
  dsimp only
  rw [if_neg hn, hl]
theorem msg_yes {s n m : Ses} {h : Hd} {fresh : Bk} (hx : ixK h s.kept = none) (ho : onto s h fresh = some n) (hn : ¬ h.num < n.taken) (hl : leave n h.num = some m) : msgK s h fresh = .inr (tookN m, msB m.take) := by
  rw [msgK, hx]
  dsimp only
  rw [ho]
  dsimp only
  rw [if_neg hn, hl]
end Rtc
end Go.Proofs.YtbhlcnimjoppeaaDoor

/-
  Of no statement by itself: what one encrypts with a session that began as First the other one decrypts with the one that began as Second, by definition.
  Conditions: each theorem's own.
-/
namespace Go.Proofs.YtbhlcnimjoppeaaDoor
open Sl Sha Str Crv
namespace Rtc
open Dsk Jrn
/-- a session behind i mails -/
def encI (a : Ses) (i : Nat) : Ses := { a with send := itr i a.send, sent := i }
theorem encI_zero (root own other : Bk) : encI (firstS root own other) 0 = firstS root own other := rfl
theorem encI_succ (a : Ses) (i : Nat) : encN (encI a i) = encI a (i + 1) := by
  unfold encN encI
  rw [itr_succ]
theorem open_seal (key side p : Bk) : openB key side (sealB key side p) = (p, 0) := openK_sealK _ _ _ _ _
/-- the session of the other one behind a first mail's new chain -/
def metS (root own other fresh : Bk) : Ses := turned (secondS root other) (pubB own) fresh
theorem met_taken (root own other fresh : Bk) : (metS root own other fresh).taken = 0 := rfl
theorem met_take (root own other fresh : Bk) (h1 : own.length = 32) (h2 : other.length = 32) : (metS root own other fresh).take = (firstS root own (pubB other)).send := by
  show turnC root (multB other (multB own (keyN 9))) = turnC root (multB own (multB other (keyN 9)))
  rw [multB_comm own other _ h1 h2]
theorem met_ok (root own other fresh : Bk) (hr : root.length = 32) (h2 : other.length = 32) (hf : fresh.length = 32) : (metS root own other fresh).ok :=
  turned_ok (secondS_ok _ _ hr h2) (pubB_len _) hf
theorem onto_second (root own other fresh : Bk) (num prev : Nat) : onto (secondS root other) ⟨pubB own, prev, num⟩ fresh = some (metS root own other fresh) := by
  rw [onto, if_neg (by simp [secondS]), newc, if_neg (by simp [secondS])]
  rfl
theorem head_enc (root own other side p : Bk) (i : Nat) (hi : i ≤ 2147483647) : headV (encB (encI (firstS root own other) i) side p) = some (⟨pubB own, 0, i⟩, sealB (msB (itr i (firstS root own other).send)) (side ++ hdB ⟨pubB own, 0, i⟩) p) :=
  headV_hdB (h := ⟨pubB own, 0, i⟩) (pubB_len _) (Nat.zero_le _) hi _
theorem dec_far (root own other fresh side p : Bk) (i : Nat) (hi : 1000 < i) (hi2 : i ≤ 2147483647) :
    decS (secondS root other) side (encB (encI (firstS root own (pubB other)) i) side p) fresh = (secondS root other, [], 12) :=
  dec_inl (head_enc _ _ _ _ _ _ hi2) (msg_far (n := metS root own other fresh) rfl (onto_second _ _ _ _ _ _) (by rw [met_taken]; omega) (leave_none (by rw [met_taken]; omega)))
/-- the other one's session behind the mail of number i, none ahead of it taken -/
def farS (root own other fresh : Bk) (i : Nat) : Ses := tookN (trim (lvS (metS root own other fresh) i))
theorem far_key (root own other fresh : Bk) (i : Nat) (h1 : own.length = 32) (h2 : other.length = 32) : (trim (lvS (metS root own other fresh) i)).take = itr i (firstS root own (pubB other)).send := by
  rw [← met_take root own other fresh h1 h2]
  rfl
theorem dec_near (root own other fresh side p : Bk) (i : Nat) (h1 : own.length = 32) (h2 : other.length = 32) (hi : i ≤ 1000) :
    decS (secondS root other) side (encB (encI (firstS root own (pubB other)) i) side p) fresh = (farS root own other fresh i, p, 0) := by
  have hl : leave (metS root own other fresh) i = some (trim (lvS (metS root own other fresh) i)) := by rw [leave_some (by rw [met_taken]; omega), met_taken, Nat.sub_zero]
  have hm := msg_yes (s := secondS root other) (h := ⟨pubB own, 0, i⟩) (fresh := fresh) rfl (onto_second _ _ _ _ _ _) (by rw [met_taken]; omega) hl
  rw [far_key root own other fresh i h1 h2] at hm
  have := dec_yes (side := side) (head_enc root own (pubB other) side p i (by omega)) hm (by rw [open_seal])
  rw [open_seal] at this
  exact this
theorem far_kept (root own other fresh : Bk) (i : Nat) (hi : i ≤ 1000) : (farS root own other fresh i).kept = lvK (pubB own) i 0 (metS root own other fresh).take := by
  show keep ([] ++ lvK (pubB own) i 0 _) = _
  rw [List.nil_append, keep_id (by rw [lvK_len]; omega)]
theorem far_ok (root own other fresh : Bk) (i : Nat) (hr : root.length = 32) (h2 : other.length = 32) (hf : fresh.length = 32) : (farS root own other fresh i).ok := by
  exact tookN_ok (trim_ok (lvS_ok (met_ok root own other fresh hr h2 hf) i))
/-- the first one comes late -/
theorem dec_late (root own other fresh fresh' side p : Bk) (i : Nat) (h1 : own.length = 32) (h2 : other.length = 32) (hi : i + 1 ≤ 1000) :
    decS (farS root own other fresh (i + 1)) side (encB (encI (firstS root own (pubB other)) 0) side p) fresh' = ({ farS root own other fresh (i + 1) with kept := (farS root own other fresh (i + 1)).kept.eraseIdx 0 }, p, 0) := by
  have ht := met_take root own other fresh h1 h2
  have hk := far_kept root own other fresh (i + 1) hi
  have hx : ixK ⟨pubB own, 0, 0⟩ (farS root own other fresh (i + 1)).kept = some 0 := by
    rw [hk, lvK, ixK, List.findIdx?_cons]
    simp [hitK]
  have hm := msg_kept (s := farS root own other fresh (i + 1)) (h := ⟨pubB own, 0, 0⟩) (fresh := fresh') hx
  have hkey : ((farS root own other fresh (i + 1)).kept.getD 0 noK).key = msB (firstS root own (pubB other)).send := by
    rw [hk, lvK, ht]
    rfl
  rw [hkey] at hm
  have := dec_yes (side := side) (head_enc root own (pubB other) side p 0 (by omega)) hm (by rw [show itr 0 (firstS root own (pubB other)).send = (firstS root own (pubB other)).send from rfl, open_seal])
  rw [show itr 0 (firstS root own (pubB other)).send = (firstS root own (pubB other)).send from rfl, open_seal] at this
  exact this
end Rtc
end Go.Proofs.YtbhlcnimjoppeaaDoor

/-
  Of no statement by itself: append of made noughts onto nil.
  Conditions: the rule's own hypotheses.
-/
namespace Go.Proofs.YtbhlcnimjoppeaaDoor
set_option maxRecDepth 10000
namespace Sl
section
variable {P : Program} {t tx e : TypeId}
theorem run_append0_nil (w : World) (ty : TypeId) (i : TypeInfo) (ht : P.underlying t = some (.slice e)) (hk : P.underlying tx = some (.int .i64)) (hi : P.info? e = some i) (hz : i.zero = some (.int .u8 0)) (hs : i.size = 1) (hb : i.bytes = 1)
    (m : Nat) (hm : m ≤ 281474976710656) (h0 : 0 < m) (hfit : Builtin.nextslicecap m 0 * i.bytes ≤ 281474976710656) :
    (Builtin.append_ #[t, tx] ty #[.slice none 0 0, N m]).run P w =
      .ok (.slice (some ⟨w.heap.size, 0, none⟩) m (grownCap w m 0 e))
        (w.drew.alloc (.cells ((List.replicate m (Value.int .u8 0)).toArray ++ Builtin.zeroCells #[.int .u8 0] (grownCap w m 0 e - m)) e)) := by
  have h48' : ¬ (281474976710656 < Builtin.nextslicecap m 0) := by rw [hb] at hfit; omega
  have hw : IntKind.i64.wrap (m : Int) = m := wrapN (by omega) (by omega)
  have h1 : ¬ ((m : Int) < 0) := by omega
  have h2 : ¬ ((281474976710656 : Int) < (m : Int)) := by omega
  have h3 : ¬ (m = 0) := by omega
  have h63' : ¬ (9223372036854775807 < (m : Int)) := by omega
  have hz' : (Value.int .u8 0).cells = #[Value.int .u8 0] := rfl
  simp [Builtin.append_, Builtin.firstCells, run_underlying ht, run_underlying hk, sizeOf, typeInfo, zeroValue, hi, hz, hs, hb, asInt, asIntOf, N, hw, h1, h2, h3, h63', h48', Question.forced, newRow, grownCap, hz', zeroCells_u8]
variable {n : Nat} {w0 : World} {S : List Nat} {ops : Array Oper} {Q : Exit → Act → World → Prop} {l : List Oper} {E : Env} {M : List Ent} {d b : Nat} {ty : TypeId} {pos : String} {aft : Array Edge} {x y : Operand}
/-- append(nil, make([]byte, m)...) -/
theorem JL.append0N {m : Nat} (hu : P.underlying t = some (.slice e)) (hk : P.underlying tx = some (.int .i64)) (hi : EI P e (.int .u8 0) 1 1) (hx : ev E x = some (.slice none 0 0)) (hy : ev E y = some (N m)) (h0 : 0 < m)
    (hsm : m ≤ 140737488355328) (hd : Nat.blt d n = true)
    (kk : ∀ b' cap', JL P n w0 S ops Q l ((d, .slice (some ⟨b', 0, none⟩) m cap') :: E) (⟨b', Sl.Own e 1 m cap' (List.replicate m (Value.int .u8 0)), true⟩ :: M)) : JL P n w0 S ops Q (⟨some d, .call ⟨.builtin .append, #[x, y], #[t, tx]⟩, ty, pos, aft, none⟩ :: l) E M :=
  ⟨fun a w ha hw => wpList_plain rfl fun K hK => by
    obtain ⟨i, hi1, hi2, hi3, hi4⟩ := hi.get
    unfold Oper.wp
    simp only [execOp, resolve, invoke, builtin, Sem.run_bind, Sem.run_pure, Result.andThen_ok, List.map_toArray, List.map_cons, List.map_nil, ha.eval hx, ha.eval hy]
    have hfit := growslice_fits (need := m) (old := 0) (bytes := 1) (by omega) (by omega)
    rw [run_append0_nil w ty i hu hk hi1 hi2 hi3 hi4 m (by omega) h0 (by rw [hi4]; exact hfit)]
    have hge := grownCap_ge w m 0 e
    generalize grownCap w m 0 e = nc at hge
    refine hK _ _ ((kk w.heap.size nc).go _ _ (ha.put d _ hd) (hw.push (.cells ((List.replicate m (Value.int .u8 0)).toArray ++ Builtin.zeroCells #[.int .u8 0] (nc - m)) e) ?_ rfl rfl rfl rfl))
    refine ⟨(Builtin.zeroCells #[.int .u8 0] (nc - m)).toList, by simp, ?_, by rw [List.length_replicate, Nat.mul_one], hge⟩
    have h8 : (Builtin.zeroCells #[.int .u8 0] (nc - m)).size = nc - m := by simp [Builtin.zeroCells]
    simp only [List.length_append, Array.length_toList, h8, List.length_replicate]
    omega⟩
end
end Sl
end Go.Proofs.YtbhlcnimjoppeaaDoor

/-
  Of no statement by itself: slices.Grow from nil, slices.Concat of two, over bytes.
  Conditions: each theorem's own.
-/
namespace Go.Proofs.YtbhlcnimjoppeaaDoor
set_option maxRecDepth 10000
open Sl
theorem s8cl : scal Tryd.prog 27 = true := by kernel_rfl
theorem s8sz : szT Tryd.prog 27 = some 1 := by kernel_rfl
theorem goes_grow8 : Goes Tryd.prog 52 := ⟨_, Tryd.func52, rfl, by kernel_rfl⟩
theorem goes_concat8 : Goes Tryd.prog 28 := ⟨_, Tryd.func28, rfl, by kernel_rfl⟩
theorem own_zero {e : TypeId} {k cap : Nat} {xs : List Value} : ∀ o, Sl.Own e 1 k cap xs o → Sl.Own e 1 0 cap [] o := by
  rintro o ⟨sp, rfl, h1, h2, h3⟩
  exact ⟨xs ++ sp, rfl, by simpa using h1, rfl, Nat.zero_le _⟩
set_option maxHeartbeats 4000000 in
theorem grow8_any (m : Nat) (h0 : 0 < m) (hm : m ≤ 1000000000) (w : World) :
    Calls Tryd.prog 52 [.slice none 0 0, N m].toArray w fun e w' => ∃ x : Nat × Nat, e = .returned (.slice (some ⟨x.1, 0, none⟩) 0 x.2) ∧ Holds w [] [⟨x.1, Sl.Own 5 1 0 x.2 [], true⟩] w' := by
  refine enter (n := 27) Tryd.func52 rfl rfl rfl (Holds.start w []) ?_
  repeat (first | refine JL.q (by first | (apply OQ.lssN_f (a := m) (b := 0); exact rfl; exact rfl; exact (by omega)) | (apply OQ.move; exact rfl) | (apply OQ.assign; exact rfl)) rfl ?_ | refine JC.seq ?_ | refine JC.region ?_ | refine JL.nil ?_ | refine JE.next ?_)
  refine JC.cond_false rfl rfl ?_
  repeat (first | refine JL.q (by first | (apply OQ.capS (k := 0) (cap := 0) (ad := none); exact Tryd.underlying27; exact rfl) | (apply OQ.len (k := 0) (cap := 0) (ad := none); exact Tryd.underlying27; exact rfl) | (apply OQ.subN (a := 0) (b := 0); exact rfl; exact rfl; exact (by decide); exact (by decide)) | (apply OQ.subN (a := m) (b := 0); exact rfl; exact rfl; exact (by omega); exact (by omega)) | (apply OQ.gtrN_t (a := m - 0) (b := 0); exact rfl; exact rfl; exact (by omega)) | (apply OQ.move; exact rfl) | (apply OQ.assign; exact rfl)) rfl ?_ | refine JC.seq ?_ | refine JC.region ?_ | refine JC.skip ?_ | refine JL.nil ?_ | refine JE.next ?_)
  refine JC.cond_true rfl rfl ?_
  repeat (first | refine JL.q (by first | (apply OQ.capS (k := 0) (cap := 0) (ad := none); exact Tryd.underlying27; exact rfl) | (apply OQ.slS_hi (hi := 0) (len := 0) (cap := 0) (ad := none); exact Tryd.underlying27; exact u8s; exact rfl; exact rfl; exact (by decide)) | (apply OQ.move; exact rfl)) rfl ?_ | refine JC.region ?_)
  refine JL.append0N (m := m - 0) Tryd.underlying27 Tryd.underlying3 u8e rfl rfl (by omega) (by omega) rfl fun b cap => ?_
  rw [Nat.sub_zero]
  refine JL.capIs (b := b) .here (fun ob hA => by obtain ⟨sp, _, _, _, h3⟩ := hA; exact h3) fun hcap => ?_
  repeat (first | refine JL.q (by first | (apply OQ.len (k := 0) (cap := 0) (ad := none); exact Tryd.underlying27; exact rfl) | (apply OQ.to; exact (OQ.slS_hi (ad := some ⟨b, 0, none⟩) (len := m) (cap := cap) (hi := 0) Tryd.underlying27 u8s rfl rfl (Nat.zero_le _)); exact hi_slice) | (apply OQ.move; exact rfl) | (apply OQ.assign; exact rfl)) rfl ?_ | refine JC.seq ?_ | refine JC.region ?_ | refine JL.nil ?_ | refine JE.next ?_)
  exact JC.ret (JE.ret1 rfl (RV.tmp rfl) fun w' hw => ⟨(b, cap), rfl, hw.weak (.keep _ _ _ _ _ _ own_zero (.nil _))⟩)
def catL (a b : Sl8) : Nat → List Bt
  | 0 => []
  | 1 => a.l
  | _ => a.l ++ b.l
def elL (a b : Sl8) : Nat → Sl8
  | 0 => a
  | _ => b
theorem lt_two {i : Nat} (h : i < 2) : i = 0 ∨ i = 1 := by omega
theorem catL_succ (a b : Sl8) {i : Nat} (h : i < 2) : catL a b (i + 1) = catL a b i ++ (elL a b i).l := by
  rcases lt_two h with rfl | rfl <;> rfl
theorem elL_at (a b : Sl8) {i : Nat} (h : i < 2) : [a.v, b.v][i]? = some (elL a b i).v := by
  rcases lt_two h with rfl | rfl <;> rfl
theorem catL_le (a b : Sl8) (i : Nat) : (catL a b i).length ≤ a.l.length + b.l.length := by
  match i with
  | 0 => exact Nat.zero_le _
  | 1 => exact Nat.le_add_right _ _
  | i + 2 => exact Nat.le_of_eq List.length_append
set_option maxHeartbeats 8000000 in
theorem concat8_any (a b : Sl8) (bs : Nat) (w : World) (ha : a.ok w) (hb : b.ok w) (hs : ∃ o, w.heap[bs]? = some o ∧ Row 27 [a.v, b.v] o) (h0 : 0 < a.l.length + b.l.length) (hl : a.l.length + b.l.length ≤ 1000000000) :
    Calls Tryd.prog 28 [.slice (some ⟨bs, 0, none⟩) 2 2].toArray w fun e w' => ∃ x : Nat × Nat, e = .returned (.slice (some ⟨x.1, 0, none⟩) (a.l ++ b.l).length x.2) ∧ Holds w [] [⟨x.1, Sl.Own 5 1 (a.l ++ b.l).length x.2 ((a.l ++ b.l).map U8), true⟩] w' := by
  obtain ⟨o, ho, hA⟩ := hs
  have hok : ∀ i, i < 2 → (elL a b i).ok w := fun i h => by rcases lt_two h with rfl | rfl <;> assumption
  refine enter (n := 36) Tryd.func28 rfl rfl rfl (Holds.seen (S := []) ho hA) ?_
  repeat (first | refine JL.q (by first | (apply OQ.len (k := 2); exact Tryd.underlying88; exact rfl) | (apply OQ.move; exact rfl) | (apply OQ.assign; exact rfl)) rfl ?_ | refine JC.seq ?_ | refine JC.region ?_ | refine JC.block ?_ | refine JL.nil ?_ | refine JE.next ?_)
  refine JC.loop (fun i : Nat => [(0, .slice (some ⟨bs, 0, none⟩) 2 2), (3, N (catL a b i).length), (9, .slice (some ⟨bs, 0, none⟩) 2 2), (10, N 2), (11, N i)]) (fun _ => [⟨bs, Row 27 [a.v, b.v], false⟩]) (fun i => 2 - i) (fun i => i ≤ 2) 0 (by decide) (by repeat (first | exact SubE.nil | refine SubE.cons _ _ _ rfl ?_)) (Less.refl _) ?_
  intro i hi
  repeat (first | refine JL.q (by (apply OQ.lssN (a := i) (b := 2); exact rfl; exact rfl)) rfl ?_ | refine JC.seq ?_ | refine JC.region ?_ | refine JL.nil ?_ | refine JE.next ?_)
  refine JC.cond rfl (fun h => ?_) (fun h => ?_)
  · have hi' : i < 2 := of_decide_eq_true h
    clear h
    have hv := elL_at a b hi'
    have hcs := catL_succ a b hi'
    have hle := catL_le a b (i + 1)
    have hln : (catL a b (i + 1)).length = (catL a b i).length + (elL a b i).l.length := by rw [hcs, List.length_append]
    generalize elL a b i = s at hv hln
    have hcell : ∀ o, Row 27 [a.v, b.v] o → cellAt o (0 + i) = some s.v := by rw [Nat.zero_add]; exact Row.cell hv
    repeat (first | refine JL.q (by first | (apply OQ.idxS1 (i := i) (b := bs) (j := 0); exact Tryd.underlying88; exact s8sz; exact rfl; exact rfl; exact hi') | (apply OQ.load (v := s.v); exact s8cl; exact rfl; exact .here; exact hcell) | (apply OQ.len (k := s.l.length) (ad := s.ad) (cap := s.cap); exact Tryd.underlying27; exact rfl) | (apply OQ.addN (a := (catL a b i).length) (b := s.l.length); exact rfl; exact rfl; exact (by omega)) | (apply OQ.lssN_f (a := (catL a b i).length + s.l.length) (b := 0); exact rfl; exact rfl; exact (by omega)) | (apply OQ.move; exact rfl) | (apply OQ.assign; exact rfl)) rfl ?_ | refine JC.seq ?_ | refine JC.region ?_ | refine JC.block ?_ | refine JC.skip ?_ | refine JL.nil ?_ | refine JE.next ?_)
    refine JC.cond_false rfl rfl ?_
    repeat (first | refine JL.q (by first | (apply OQ.addN (a := i) (b := 1); exact rfl; exact rfl; exact (by omega)) | (apply OQ.move; exact rfl)) rfl ?_ | refine JC.region ?_ | refine JC.skip ?_ | refine JL.nil ?_ | refine JE.next ?_ | refine JE.blk_normal ?_)
    rw [← hln]
    exact JE.again (i := i) (i + 1) hi' (by omega) (by repeat (first | exact SubE.nil | refine SubE.cons _ _ _ rfl ?_)) (Less.refl _)
  · have hi' : i = 2 := by have := of_decide_eq_false h; omega
    subst hi'
    clear h hi
    have hcl : (catL a b 2).length = a.l.length + b.l.length := List.length_append
    repeat (first | refine JL.q (by (apply OQ.move; exact rfl)) rfl ?_ | refine JC.seq ?_ | refine JC.region ?_ | refine JC.exit ?_ | refine JE.next ?_ | refine JE.then_exit ?_ | refine JE.blk_hit ?_)
    refine JL.callg (ι := Nat × Nat) (vs := [.slice none 0 0, N (catL a b 2).length]) (fun x => .slice (some ⟨x.1, 0, none⟩) 0 x.2) (fun x => [⟨x.1, Sl.Own 5 1 0 x.2 [], true⟩]) goes_grow8 rfl rfl (fun i => by simp) (fun w' hw' => grow8_any _ (by omega) (by omega) w') ?_
    rintro ⟨bx, cap⟩
    try dsimp only
    repeat (first | refine JL.q (by first | (apply OQ.len (k := 2); exact Tryd.underlying88; exact rfl) | (apply OQ.move; exact rfl) | (apply OQ.assign; exact rfl)) rfl ?_ | refine JC.seq ?_ | refine JC.region ?_ | refine JC.block ?_ | refine JL.nil ?_ | refine JE.next ?_)
    refine JC.loop (fun z : Nat × Nat × Nat => [(0, .slice (some ⟨bs, 0, none⟩) 2 2), (6, .slice (some ⟨z.2.1, 0, none⟩) (catL a b z.1).length z.2.2), (25, .slice (some ⟨bs, 0, none⟩) 2 2), (26, N 2), (27, N z.1)]) (fun z => [⟨z.2.1, Sl.Own 5 1 (catL a b z.1).length z.2.2 ((catL a b z.1).map U8), true⟩, ⟨bs, Row 27 [a.v, b.v], false⟩]) (fun z => 2 - z.1) (fun z => z.1 ≤ 2) (0, bx, cap) (Nat.zero_le _) (by repeat (first | exact SubE.nil | refine SubE.cons _ _ _ rfl ?_)) (Less.refl _) ?_
    rintro ⟨i, bx, cap⟩ hi
    dsimp only at hi ⊢
    repeat (first | refine JL.q (by (apply OQ.lssN (a := i) (b := 2); exact rfl; exact rfl)) rfl ?_ | refine JC.seq ?_ | refine JC.region ?_ | refine JL.nil ?_ | refine JE.next ?_)
    refine JC.cond rfl (fun h => ?_) (fun h => ?_)
    · have hi' : i < 2 := of_decide_eq_true h
      clear h
      have hv := elL_at a b hi'
      have hso := hok i hi'
      have hcs := catL_succ a b hi'
      have hle := catL_le a b (i + 1)
      have hln : (catL a b (i + 1)).length = (catL a b i).length + (elL a b i).l.length := by rw [hcs, List.length_append]
      generalize elL a b i = s at hv hln hcs hso
      have hcell : ∀ o, Row 27 [a.v, b.v] o → cellAt o (0 + i) = some s.v := by rw [Nat.zero_add]; exact Row.cell hv
      repeat (first | refine JL.q (by first | (apply OQ.idxS1 (i := i) (b := bs) (j := 0); exact Tryd.underlying88; exact s8sz; exact rfl; exact rfl; exact hi') | (apply OQ.load (v := s.v); exact s8cl; exact rfl; exact (.there .here); exact hcell) | (apply OQ.move; exact rfl) | (apply OQ.assign; exact rfl)) rfl ?_ | refine JC.seq ?_ | refine JC.region ?_ | refine JC.block ?_ | refine JC.skip ?_ | refine JL.nil ?_ | refine JE.next ?_)
      refine JL.append (cs := s.l.map U8) (m := s.l.length) (ad := s.ad) (sc := s.cap) (fun b' cap' => [⟨b', Sl.Own 5 1 ((catL a b i).length + s.l.length) cap' ((catL a b i).map U8 ++ s.l.map U8), true⟩, ⟨bs, Row 27 [a.v, b.v], false⟩]) Tryd.underlying27 u8e rfl rfl (by intro _ _; repeat (first | exact Repl.here | apply Repl.there)) (by rw [List.length_map, Nat.mul_one]) (fun w' hw' => (hso.holds hw' rfl).reads) (fun v hv => by obtain ⟨q, _, rfl⟩ := List.mem_map.1 hv; rfl) rfl (by decide) (by omega) (by omega) rfl fun b' cap' => ?_
      rw [← List.map_append, ← hcs, ← hln]
      repeat (first | refine JL.q (by first | (apply OQ.addN (a := i) (b := 1); exact rfl; exact rfl; exact (by omega)) | (apply OQ.move; exact rfl) | (apply OQ.assign; exact rfl)) rfl ?_ | refine JC.region ?_ | refine JL.nil ?_ | refine JE.next ?_ | refine JE.blk_normal ?_)
      exact JE.again (ι := Nat × Nat × Nat) (i := (i, bx, cap)) (i + 1, b', cap') hi' (by dsimp only; omega) (by repeat (first | exact SubE.nil | refine SubE.cons _ _ _ rfl ?_)) (Less.refl _)
    · have hi' : i = 2 := by have := of_decide_eq_false h; omega
      subst hi'
      clear h hi
      repeat (first | refine JL.q (by first | (apply OQ.move; exact rfl) | (apply OQ.assign; exact rfl)) rfl ?_ | refine JC.seq ?_ | refine JC.region ?_ | refine JC.exit ?_ | refine JL.nil ?_ | refine JE.next ?_ | refine JE.then_exit ?_ | refine JE.blk_hit ?_)
      refine JC.ret (JE.ret1 rfl (RV.tmp rfl) fun w' hw => ⟨(bx, cap), rfl, hw.weak (.keep _ _ _ _ _ _ (fun _ h => h) (.nil _))⟩)
end Go.Proofs.YtbhlcnimjoppeaaDoor

/-
  Of no statement by itself: rules for a call that writes what came in, told of the world that it is called in; slices that are nil; pointers that are nil; indices of any kind.
  Conditions: each rule's own.
-/
namespace Go.Proofs.YtbhlcnimjoppeaaDoor
set_option maxRecDepth 10000
open Sl
section
variable {P : Program} {n : Nat} {w0 : World} {S : List Nat} {ops : Array Oper} {Q : Exit → Act → World → Prop} {l : List Oper} {E : Env} {M : List Ent} {C : World → Prop}
variable {dst : Option Tmp} {d : Nat} {t t' e ty : TypeId} {pos : String} {aft : Array Edge} {g : Option (Nat × Bool)} {x y : Operand}
/-- a call that writes what came in, told of the world that it is called in -/
theorem JL.callV {ι : Type} {X M0 : List Ent} (vf : ι → Value) (Yf : ι → List Ent) {f : FuncId} {xs : List Operand} {ats : Array TypeId} {vs : List Value} (hg : Goes P f) (hx : evs E xs = some vs) (hd : Nat.blt d n = true) (hX : ∀ e ∈ X, e.wr = true) (hY : ∀ i, ∀ e ∈ Yf i, e.wr = true)
    (hc : ∀ w, Holds w0 S (X ++ M0) w → Holds w (keys X) X w → Calls P f vs.toArray w fun e w' => ∃ i, e = .returned (vf i) ∧ Holds w (keys X) (Yf i) w')
    (k : ∀ i, JL P n w0 S ops Q l ((d, vf i) :: E) (Yf i ++ M0)) : JL P n w0 S ops Q (⟨some d, .call ⟨.value (.func f), xs.toArray, ats⟩, ty, pos, aft, none⟩ :: l) E (X ++ M0) :=
  JL.call (ι := ι) vf (fun i => Yf i ++ M0) hg hx hd (fun w hw => (hc w hw (hw.own.weak (less_pre _ _))).mono fun _ _ ⟨i, h1, h2⟩ => ⟨i, h1, hw.swapW h2 hX (hY i)⟩) k
theorem OQ.isNilD {ad : Option Addr} {k cap : Nat} (hu : P.underlying t = some (.slice e)) (hx : ev E x = some (.slice ad k cap)) (hy : ev E y = some (.slice none 0 0)) :
    OQ P n E C ⟨dst, .binOp .eql t x y t', ty, pos, aft, g⟩ (.bool ad.isNone) :=
  OQ.run fun c ha w _ => by
    have h1 := ha.eval hx
    have h2 := ha.eval hy
    have h4 : (binOp .eql t (.slice ad k cap) (.slice none 0 0)).run P w = .ok (.bool ad.isNone) w := by
      show (do pure (.bool (← Op.equal t (.slice ad k cap) (.slice none 0 0))) : Sem Value).run P w = _
      simp [Sem.run_bind, run_equal_slice_nil w t e ad k cap hu]
    simp [execOp, h1, h2, eqGuard, h4]
end
end Go.Proofs.YtbhlcnimjoppeaaDoor

/-
  Of no statement by itself: what kdf.Step and the reference's Step give.
  Conditions: each theorem's own.
-/
namespace Go.Proofs.YtbhlcnimjoppeaaDoor
set_option maxRecDepth 10000
open Sl Sha

def needC : Nat → List (Nat × Nat)
  | 2 => [(1, 5)]
  | 3 => [(0, 4), (2, 6)]
  | 6 => [(5, 9)]
  | 7 => [(4, 8), (6, 10)]
  | 8 => [(3, 7)]
  | 9 => [(7, 11)]
  | _ => []
def inpC : Nat → List Nat
  | 2 => [1]
  | 3 => [2, 12]
  | 6 => [5]
  | 7 => [6, 12]
  | 8 => [11]
  | 9 => [10]
  | _ => []
def eatC : Nat → List Nat
  | 2 => [1]
  | 6 => [5]
  | 8 => [11]
  | 9 => [10]
  | _ => []
theorem two_ok {c : List B} (hc : c.length = 32) {w' : World} {b b6 b5 : Nat} {u : B} (h1 : ∃ o, w'.heap[b]? = some o ∧ Row 23 (c.map U8) o) (h2 : ∃ o, w'.heap[b6]? = some o ∧ Row 27 [.slice (some ⟨b5, 0, none⟩) 1 1] o) (h3 : ∃ o, w'.heap[b5]? = some o ∧ Row 5 [U8 u] o) (hG : GOk w') :
    Calls Tryd.prog 48 [.slice (some ⟨b, 0, none⟩) 32 32, .slice (some ⟨b6, 0, none⟩) 1 1].toArray w' fun e w'' => e = .returned (.agg ((hmac c [u]).map U8).toArray) ∧ Ext w' w'' := by
  obtain ⟨o1, ho1, hA1⟩ := h1
  obtain ⟨o2, ho2, hA2⟩ := h2
  obtain ⟨o3, ho3, hA3⟩ := h3
  have h4 : Sl8.ok w' ⟨some ⟨b5, 0, none⟩, 1, [u]⟩ := ⟨by simp, Reads.block ho3 (Row.all _ hA3)⟩
  have := hmac_any ⟨some ⟨b, 0, none⟩, 32, c⟩ (some ⟨b6, 0, none⟩) 1 [⟨some ⟨b5, 0, none⟩, 1, [u]⟩] w' hG ⟨Nat.le_of_eq hc, Reads.block ho1 (Row.all _ hA1)⟩ (Reads.block ho2 (Row.all _ hA2)) (by simpa using h4) (show c.length < 4611686018427387904 by omega) (by simp) (by simp [total])
  simpa [Sl8.v, hc] using this

set_option maxHeartbeats 8000000 in
theorem kstep_any (c : List B) (hc : c.length = 32) (w : World) (hG : GOk w) :
    Calls Tryd.prog 26 [.agg (c.map U8).toArray].toArray w fun e w' => e = .returned (.tuple #[.agg ((hmac c [2]).map U8).toArray, .agg ((hmac c [1]).map U8).toArray]) ∧ Ext w w' := by
  refine enter (n := 12) Tryd.func26 rfl rfl rfl (Holds.start w []) ?_
  repeat (first | refine JC.seq ?_ | refine JC.region ?_)
  refine JL.box (r := c.map U8) rfl rfl rfl fun b1 _ => ?_
  refine JL.alloc zc25 rfl fun b2 _ => ?_
  refine JL.alloc zc25 rfl fun b3 _ => ?_
  repeat (first | refine JC.seq ?_ | refine JL.nil ?_ | refine JE.next ?_)
  let vs : Nat → X → Value := fun i x => match i with
    | 0 => .slice (some ⟨b1, 0, none⟩) 32 32
    | 1 => .slice (some ⟨x.1, 0, none⟩) 1 1
    | 2 => .slice (some ⟨x.1, 0, none⟩) 1 1
    | 3 => .agg ((hmac c [2]).map U8).toArray
    | 4 => .slice (some ⟨b1, 0, none⟩) 32 32
    | 5 => .slice (some ⟨x.1, 0, none⟩) 1 1
    | 6 => .slice (some ⟨x.1, 0, none⟩) 1 1
    | _ => .agg ((hmac c [1]).map U8).toArray
  let Ms : Nat → X → List Ent := fun i x => match i with
    | 1 => [⟨x.1, Row 5 [U8 2], true⟩]
    | 2 => [⟨x.1, Row 27 [.slice (some ⟨x.2, 0, none⟩) 1 1], true⟩, ⟨x.2, Row 5 [U8 2], true⟩]
    | 5 => [⟨x.1, Row 5 [U8 1], true⟩]
    | 6 => [⟨x.1, Row 27 [.slice (some ⟨x.2, 0, none⟩) 1 1], true⟩, ⟨x.2, Row 5 [U8 1], true⟩]
    | 8 => [⟨b2, Row 23 ((hmac c [2]).map U8), true⟩]
    | 9 => [⟨b3, Row 23 ((hmac c [1]).map U8), true⟩]
    | 12 => [⟨b1, Row 23 (c.map U8), true⟩]
    | 11 => [⟨b2, Row 23 ((List.replicate 32 (0 : B)).map U8), true⟩]
    | 10 => [⟨b3, Row 23 ((List.replicate 32 (0 : B)).map U8), true⟩]
    | _ => []
  refine JC.grow (g := ⟨[(1, Pt b1 0), (2, Pt b2 0), (3, Pt b3 0)], 13, vs, Ms, needC, inpC, eatC, fun _ => none⟩) [] [8, 9] mixed (by repeat (first | exact SubE.nil | refine SubE.cons _ _ _ rfl ?_)) ?_ ?_ ?_ ?_ ?_ ?_
  · exact Less.refl _
  · rfl
  · rfl
  · rfl
  · refine ⟨?_, ?_, ?_, ?_, ?_, ?_, ?_, ?_, ?_, ?_, trivial⟩
    · intro x EF MF Q kk
      exact JL.q (OQ.slA Tryd.underlying23 s5 rfl) rfl (JL.nil (kk (0, 0) nofun))
    · intro x EF MF Q kk
      exact JL.lit1 Tryd.underlying27 e5 rfl rfl rfl rfl fun b _ => JL.nil (kk (b, 0) nofun)
    · intro x EF MF Q kk
      exact JL.lit1 Tryd.underlying88 e22 rfl rfl rfl rfl fun b _ => JL.nil (kk (b, (x 1).1) nofun)
    · intro x EF MF Q kk
      refine JL.q (OQ.callx (vs := [.slice (some ⟨b1, 0, none⟩) 32 32, .slice (some ⟨(x 2).1, 0, none⟩) 1 1]) goes_hmac rfl fun w' hw' => two_ok hc (hw'.get (.there (.there .here))) (hw'.get .here) (hw'.get (.there .here)) (hG.chg hw'.chg (by simp))) rfl (JL.nil (kk (0, 0) nofun))
    · intro x EF MF Q kk
      exact JL.q (OQ.slA Tryd.underlying23 s5 rfl) rfl (JL.nil (kk (0, 0) nofun))
    · intro x EF MF Q kk
      exact JL.lit1 Tryd.underlying27 e5 rfl rfl rfl rfl fun b _ => JL.nil (kk (b, 0) nofun)
    · intro x EF MF Q kk
      exact JL.lit1 Tryd.underlying88 e22 rfl rfl rfl rfl fun b _ => JL.nil (kk (b, (x 5).1) nofun)
    · intro x EF MF Q kk
      refine JL.q (OQ.callx (vs := [.slice (some ⟨b1, 0, none⟩) 32 32, .slice (some ⟨(x 6).1, 0, none⟩) 1 1]) goes_hmac rfl fun w' hw' => two_ok hc (hw'.get (.there (.there .here))) (hw'.get .here) (hw'.get (.there .here)) (hG.chg hw'.chg (by simp))) rfl (JL.nil (kk (0, 0) nofun))
    · intro x EF MF Q kk
      exact JL.store_all s25 rfl rfl (shal _) (all8 _) .here (by simp) (JL.nil (kk (0, 0) nofun))
    · intro x EF MF Q kk
      exact JL.store_all s25 rfl rfl (shal _) (all8 _) .here (by simp) (JL.nil (kk (0, 0) nofun))
  · intro x _
    repeat (refine JE.next ?_)
    refine JC.ret ?_
    skip
    refine JE.ret2 rfl (RV.cell_agg a25 s25 rfl .here (shal _) Row.all) (RV.cell_agg a25 s25 rfl (.there .here) (shal _) Row.all) fun w' hw => ⟨rfl, hw.chg⟩

end Go.Proofs.YtbhlcnimjoppeaaDoor

/-
  Of no statement by itself: sessions in memory; what the landed ratchet's small functions give: mayCount, appendNumber, headerBytes, turn, copied, nextTaken.
  Conditions: each theorem's own.
-/
namespace Go.Proofs.YtbhlcnimjoppeaaDoor
set_option maxRecDepth 10000
open Sl Sha Str Crv Rtc
open Dsk (Bk)
open Jrn
theorem seS : szT Tryd.prog 26 = some 166 := by kernel_rfl
theorem seA : aggT Tryd.prog 26 = true := by kernel_rfl
theorem hdS : szT Tryd.prog 62 = some 34 := by kernel_rfl
theorem hdA : aggT Tryd.prog 62 = true := by kernel_rfl
theorem kpS : szT Tryd.prog 57 = some 65 := by kernel_rfl
theorem kpA : aggT Tryd.prog 57 = true := by kernel_rfl
theorem kpI : EI Tryd.prog 57 (.agg (kpc noK).toArray) 65 72 := by unfold EI; kernel_rfl
theorem kpZ : zc Tryd.prog 57 = some (kpc noK) := by kernel_rfl
def zeroS : Ses := ⟨z32, z32, z32, false, false, z32, z32, 0, 0, 0, []⟩
theorem zeroS_ok : zeroS.ok := ⟨rfl, rfl, rfl, rfl, rfl, nofun⟩
theorem seZ : zc Tryd.prog 26 = some (sec zeroS (.slice none 0 0)) := by kernel_rfl
def zeroH : Hd := ⟨z32, 0, 0⟩
theorem hdZ : zc Tryd.prog 62 = some (hdc zeroH) := by kernel_rfl
theorem intCr : scal Tryd.prog 3 = true := by kernel_rfl
theorem intSr : szT Tryd.prog 3 = some 1 := by kernel_rfl
theorem boolCr : scal Tryd.prog 4 = true := by kernel_rfl
theorem boolSr : szT Tryd.prog 4 = some 1 := by kernel_rfl
theorem slkC : scal Tryd.prog 24 = true := by kernel_rfl
theorem slkS : szT Tryd.prog 24 = some 1 := by kernel_rfl
theorem k32gR : Tryd.prog.eqGuardType Tryd.prog.depth 23 = false := by kernel_rfl
/-! ### a row of kept keys that came in -/
structure SlK where
  ad : Option Addr
  cap : Nat
  l : List Kp
def SlK.v (s : SlK) : Value := .slice s.ad s.l.length s.cap
structure SlK.ok (w : World) (s : SlK) : Prop where
  len : s.l.length ≤ s.cap
  reads : Reads w s.ad (kpcs s.l).flatten
  all : ∀ k ∈ s.l, k.ok
theorem SlK.ok.holds {w0 w : World} {S : List Nat} {M : List Ent} {s : SlK} (h : s.ok w0) (hw : Holds w0 S M w) (hS : S = []) : s.ok w := ⟨h.len, hw.reads h.reads (fun _ a _ => by rw [hS]; simp), h.all⟩
def nilK : SlK := ⟨none, 0, []⟩
theorem nilK_ok (w : World) : nilK.ok w := ⟨Nat.le_refl _, Reads.nil _ _, nofun⟩
/-- one's own row as one that came in -/
def accK (q : Acc) (l : List Kp) : SlK := match q with
  | none => nilK
  | some p => ⟨some ⟨p.1, 0, none⟩, p.2, l⟩
theorem accK_v (q : Acc) (l : List Kp) : (accK q l).v = accV q l.length := by cases q <;> rfl
theorem accK_l {q : Acc} {l : List Kp} (h : q = none → l = []) : (accK q l).l = l := by
  cases q with
  | none => exact (h rfl).symm
  | some p => rfl
def kpE (q : Acc) (l : List Kp) : List Ent := accC 57 65 q (kpcs l)
theorem kpE_wr (q : Acc) (l : List Kp) : ∀ x ∈ kpE q l, x.wr = true := accC_wr _ _ _ _
theorem accK_ok {w0 w : World} {S : List Nat} {M : List Ent} {q : Acc} {l : List Kp} (hl : ∀ k ∈ l, k.ok) (hw : Holds w0 S (kpE q l ++ M) w) : (accK q l).ok w := by
  cases q with
  | none => exact nilK_ok w
  | some p =>
    have hw : Holds w0 S (⟨p.1, Sl.Own 57 65 (kpcs l).length p.2 (kpcs l).flatten, true⟩ :: M) w := hw
    obtain ⟨o, ho, hA⟩ := hw.get .here
    have hh := Sl.Own.cells _ hA
    obtain ⟨sp, rfl, h2, h3, h4⟩ := hA
    exact ⟨by rw [kpcs_len] at h4; exact h4, Reads.block ho hh, hl⟩
/-! ### a session of one's own -/
def seE (b : Nat) (q : Acc) (s : Ses) : List Ent := ⟨b, Row 26 (sec s (accV q s.kept.length)), true⟩ :: kpE q s.kept
theorem seE_wr (b : Nat) (q : Acc) (s : Ses) : ∀ x ∈ seE b q s, x.wr = true := by
  intro x hx
  rcases List.mem_cons.1 hx with rfl | hx
  · rfl
  · exact kpE_wr _ _ x hx
theorem accV_one (q : Acc) (k : Nat) : (accV q k).oneCell' = true := by cases q <;> rfl
theorem accV_cells (q : Acc) (k : Nat) : (accV q k).cells = #[accV q k] := by cases q <;> rfl
/-- the tables stand, and aren't written -/
def Tb (S : List Nat) (w : World) : Prop := (GOk w ∧ 1 ∉ S) ∧ (GQ w ∧ 0 ∉ S)
theorem Tb.g {w0 w : World} {S : List Nat} {M : List Ent} (h : Tb S w0) (hw : Holds w0 S M w) : GOk w := h.1.1.chg hw.chg h.1.2
theorem Tb.q {w0 w : World} {S : List Nat} {M : List Ent} (h : Tb S w0) (hw : Holds w0 S M w) : GQ w := h.2.1.chg hw.chg h.2.2
theorem Tb.own {w0 w : World} {S : List Nat} {X M : List Ent} (h : Tb S w0) (hw : Holds w0 S (X ++ M) w) (hX : ∀ e ∈ X, e.wr = true) : Tb (keys X) w := by
  have hk : ∀ g, g < w0.heap.size → g ∉ S → g ∉ keys X := fun g hg hS hm => by
    obtain ⟨e, he, rfl⟩ := List.mem_map.1 hm
    rcases (hw.all e (List.mem_append_left _ he)).2 (hX e he) with h1 | h1
    · exact hS h1
    · omega
  exact ⟨⟨h.g hw, hk _ h.1.1.lt h.1.2⟩, ⟨h.q hw, hk _ h.2.1.lt h.2.2⟩⟩
theorem Tb.nil {w : World} (h1 : GOk w) (h2 : GQ w) : Tb [] w := ⟨⟨h1, by simp⟩, ⟨h2, by simp⟩⟩
/-! ### mayCount, appendNumber, headerBytes -/
def mayI (a : Int) : Bool := decide (0 ≤ a) && decide (a ≤ 2147483647)
theorem goes_mayC : Goes Tryd.prog 64 := ⟨_, Tryd.func64, rfl, by kernel_rfl⟩
set_option maxHeartbeats 4000000 in
theorem mayC_any (a : Int) (w : World) : Calls Tryd.prog 64 [I a].toArray w fun e w' => e = .returned (.bool (mayI a)) ∧ Ext w w' := by
  refine enter (n := 9) Tryd.func64 rfl rfl rfl (Holds.start w []) ?_
  unfold mayI
  obtain ⟨c1, h1⟩ : ∃ c, decide ((0 : Int) ≤ a) = c := ⟨_, rfl⟩
  obtain ⟨c2, h2⟩ : ∃ c, decide (a ≤ 2147483647) = c := ⟨_, rfl⟩
  rw [h1, h2]
  cases c1
  · repeat (first | refine JL.q (by first | (apply OQ.geqB (b := 0); exact rfl; exact rfl; exact h1) | (apply OQ.pick_f; exact rfl; exact rfl) | (apply OQ.move; exact rfl) | (apply OQ.assign; exact rfl)) rfl ?_ | refine JC.seq ?_ | refine JC.region ?_ | refine JL.nil ?_ | refine JE.next ?_ | refine JL.gskip rfl rfl rfl rfl ?_)
    exact JC.ret (JE.ret1 rfl (RV.tmp rfl) fun w' hw => ⟨rfl, hw.chg⟩)
  · repeat (first | refine JL.q (by first | (apply OQ.geqB (b := 0); exact rfl; exact rfl; exact h1) | (apply OQ.leqB (b := 2147483647); exact rfl; exact rfl; exact h2) | (apply OQ.pick_t; exact rfl; exact rfl) | (apply OQ.move; exact rfl) | (apply OQ.assign; exact rfl)) rfl ?_ | refine JC.seq ?_ | refine JC.region ?_ | refine JL.nil ?_ | refine JE.next ?_ | refine JL.gon rfl rfl ?_)
    exact JC.ret (JE.ret1 rfl (RV.tmp rfl) fun w' hw => ⟨rfl, hw.chg⟩)
theorem goes_appN : Goes Tryd.prog 39 := ⟨_, Tryd.func39, rfl, by kernel_rfl⟩
set_option maxHeartbeats 4000000 in
theorem appN_any (q : Acc) (xs : Bk) (m : Nat) (hq : q = none → xs = []) (hl : xs.length ≤ 70000000000) (hm : m < 9223372036854775808) (w : World) (hw : Holds w (keys (accE 5 q (xs.map U8))) (accE 5 q (xs.map U8)) w) :
    Calls Tryd.prog 39 [accV q xs.length, N m].toArray w fun e w' => ∃ r : Nat × Nat, e = .returned (accV (some r) (xs ++ b4 m).length) ∧ Holds w (keys (accE 5 q (xs.map U8))) (accE 5 (some r) ((xs ++ b4 m).map U8)) w' := by
  generalize hS : keys (accE 5 q (xs.map U8)) = S at hw ⊢
  refine enter (n := 9) Tryd.func39 rfl rfl rfl hw ?_
  repeat (first | refine JL.q (by first | (apply OQ.convN_64; exact Tryd.underlying3; exact Tryd.underlying76; exact rfl) | (apply OQ.move; exact rfl) | (apply OQ.assign; exact rfl)) rfl ?_ | refine JC.seq ?_ | refine JC.region ?_ | refine JL.nil ?_ | refine JE.next ?_)
  refine JL.lessS (M' := accE 5 q (xs.map U8) ++ []) (by rw [List.append_nil]; exact Less.refl _) ?_
  refine JL.numApp (m := BitVec.ofNat 64 m) (by decide) (by decide) hq (by omega) rfl rfl rfl rfl fun r => ?_
  rw [List.append_nil]
  repeat (first | refine JL.q (by (apply OQ.assign; exact rfl)) rfl ?_ | refine JL.nil ?_ | refine JE.next ?_)
  exact JC.ret (JE.ret1 rfl (RV.tmp rfl) fun w' hw => ⟨r, rfl, hw⟩)
theorem JL.appN {n : Nat} {w0 : World} {S : List Nat} {ops : Array Oper} {Q : Exit → Act → World → Prop} {l : List Oper} {E : Env} {M : List Ent} {d : Nat} {ty : TypeId} {pos : String} {aft : Array Edge} {x1 x2 : Operand} {ats : Array TypeId} {q : Acc} {xs : Bk} {m : Nat} (hq : q = none → xs = []) (hl : xs.length ≤ 70000000000) (hm : m < 9223372036854775808) (e1 : ev E x1 = some (accV q xs.length)) (e2 : ev E x2 = some (N m)) (hd : Nat.blt d n = true)
    (kk : ∀ r : Nat × Nat, JL Tryd.prog n w0 S ops Q l ((d, accV (some r) (xs ++ b4 m).length) :: E) (accE 5 (some r) ((xs ++ b4 m).map U8) ++ M)) : JL Tryd.prog n w0 S ops Q (⟨some d, .call ⟨.value (.func 39), #[x1, x2], ats⟩, ty, pos, aft, none⟩ :: l) E (accE 5 q (xs.map U8) ++ M) :=
  JL.callW (ι := Nat × Nat) (xs := [x1, x2]) (vs := [accV q xs.length, N m]) (fun r => accV (some r) (xs ++ b4 m).length) (fun r => accE 5 (some r) ((xs ++ b4 m).map U8)) goes_appN (by simp [evs, e1, e2]) hd (accE_wr _ _ _) (fun _ => accE_wr _ _ _)
    (fun w hw => appN_any q xs m hq hl hm w (hw.weak (less_pre _ _))) kk
theorem goes_hdB : Goes Tryd.prog 24 := ⟨_, Tryd.func24, rfl, by kernel_rfl⟩
set_option maxHeartbeats 8000000 in
theorem hdB_any (h : Hd) (hl : h.chain.length = 32) (h1 : h.prev < 9223372036854775808) (h2 : h.num < 9223372036854775808) (w : World) :
    Calls Tryd.prog 24 [.agg (hdc h).toArray].toArray w fun e w' => ∃ x : Nat × Nat, e = .returned (.slice (some ⟨x.1, 0, none⟩) 40 x.2) ∧ Holds w [] [⟨x.1, Sl.Own 5 1 40 x.2 ((hdB h).map U8), true⟩] w' := by
  have hL := hdB_len hl
  have hcl : (h.chain.map U8).length = 32 := by rw [List.length_map]; exact hl
  refine enter (n := 17) Tryd.func24 rfl rfl rfl (Holds.start w []) ?_
  repeat (first | refine JC.seq ?_ | refine JC.region ?_)
  refine JL.box (r := hdc h) rfl rfl rfl fun b1 _ => ?_
  repeat (first | refine JL.q (by (apply OQ.assign; exact rfl)) rfl ?_ | refine JC.seq ?_ | refine JC.region ?_ | refine JL.nil ?_ | refine JE.next ?_)
  refine JL.make0 (c := 40) Tryd.underlying27 u8e rfl rfl (by decide) rfl fun b3 _ => ?_
  repeat (first | refine JL.q (by first | (apply OQ.slA; exact Tryd.underlying23; exact u8s; exact rfl) | (apply OQ.move; exact rfl) | (apply OQ.assign; exact rfl) | (apply OQ.fld; exact rfl; exact rfl; exact rfl; exact (by decide); exact rfl)) rfl ?_ | refine JC.seq ?_ | refine JC.region ?_ | refine JL.nil ?_ | refine JE.next ?_)
  refine JL.append (cs := h.chain.map U8) (m := 32) (fun b' cap' => [⟨b', Sl.Own 5 1 (0 + 32) cap' ([] ++ h.chain.map U8), true⟩, ⟨b1, Row 62 (hdc h), true⟩]) Tryd.underlying27 u8e rfl rfl (by intro _ _; repeat (first | exact Repl.here | apply Repl.there)) hcl (fun w' hw' => ?_) (fun v hv => List.all_eq_true.1 (all8 h.chain) v hv) rfl (by decide) (by decide) (by decide) rfl fun b4' cap => ?_
  · obtain ⟨o, ho, hA⟩ := hw'.get (.there .here)
    exact Reads.block ho (Row.cells (hdc_chain hl) _ hA)
  rw [List.nil_append, Nat.zero_add]
  have hp : ∀ o, Row 62 (hdc h) o → cellAt o 32 = some (N h.prev) := Row.cell (hdc_prev hl)
  have hn : ∀ o, Row 62 (hdc h) o → cellAt o 33 = some (N h.num) := Row.cell (hdc_num hl)
  have ev1 : Value.slice (some ⟨b4', 0, none⟩) 32 cap = accV (some (b4', cap)) h.chain.length := by rw [hl]; rfl
  rw [ev1]
  refine JL.lessS (M' := accE 5 (some (b4', cap)) (h.chain.map U8) ++ [⟨b1, Row 62 (hdc h), true⟩]) (.keep _ _ _ _ _ _ (fun o ho => by dsimp only; rw [hcl]; exact ho) (Less.refl _)) ?_
  have hH : ∀ xs : List Value, Has (accE 5 (some (b4', cap)) xs ++ [(⟨b1, Row 62 (hdc h), true⟩ : Ent)]) b1 (Row 62 (hdc h)) true := fun _ => .there .here
  repeat (first | refine JL.q (by first | (apply OQ.load; exact intCr; exact rfl; exact (hH _); exact hp) | (apply OQ.move; exact rfl) | (apply OQ.assign; exact rfl) | (apply OQ.fld; exact rfl; exact rfl; exact rfl; exact (by decide); exact rfl)) rfl ?_ | refine JC.seq ?_ | refine JC.region ?_ | refine JL.nil ?_ | refine JE.next ?_)
  refine JL.appN (q := some (b4', cap)) (xs := h.chain) (m := h.prev) nofun (by omega) h1 rfl rfl rfl fun r => ?_
  have hH2 : ∀ xs : List Value, Has (accE 5 (some r) xs ++ [(⟨b1, Row 62 (hdc h), true⟩ : Ent)]) b1 (Row 62 (hdc h)) true := fun _ => .there .here
  repeat (first | refine JL.q (by first | (apply OQ.load; exact intCr; exact rfl; exact (hH2 _); exact hn) | (apply OQ.move; exact rfl) | (apply OQ.assign; exact rfl) | (apply OQ.fld; exact rfl; exact rfl; exact rfl; exact (by decide); exact rfl)) rfl ?_ | refine JC.seq ?_ | refine JC.region ?_ | refine JL.nil ?_ | refine JE.next ?_)
  refine JL.appN (q := some r) (xs := h.chain ++ b4 h.prev) (m := h.num) nofun (by rw [List.length_append, b4_len]; omega) h2 rfl rfl rfl fun r2 => ?_
  have e2 : h.chain ++ b4 h.prev ++ b4 h.num = hdB h := rfl
  rw [e2]
  repeat (first | refine JL.q (by (apply OQ.assign; exact rfl)) rfl ?_ | refine JL.nil ?_ | refine JE.next ?_)
  refine JC.ret (JE.ret1 rfl (RV.tmp rfl) fun w' hw => ⟨r2, by rw [hL]; rfl, hw.weak (.keep _ _ _ _ _ _ (fun o ho => ?_) (.nil _))⟩)
  rw [List.length_map, hL] at ho
  exact ho
end Go.Proofs.YtbhlcnimjoppeaaDoor

/-
  Of no statement by itself: what the landed ratchet's turn, copied and nextTaken give.
  Conditions: each theorem's own.
-/
namespace Go.Proofs.YtbhlcnimjoppeaaDoor
set_option maxRecDepth 10000
open Sl Sha Str Crv Rtc
open Dsk (Bk)
theorem row2 {a : Bk} (h : a.length = 64) : ((a.map U8).drop (0 + 0 * 32)).take ((a.take 32).map U8).length = (a.take 32).map U8 := by
  rw [List.length_map, List.length_take, h, List.map_take]
  rfl
theorem row2b {a : Bk} (h : a.length = 64) : ((a.map U8).drop (0 + 1 * 32)).take ((a.drop 32).map U8).length = (a.drop 32).map U8 := by
  rw [List.length_map, List.length_drop, h, ← List.map_drop, Nat.zero_add, Nat.one_mul, List.take_of_length_le (by simp [h])]
theorem goes_rtn : Goes Tryd.prog 34 := ⟨_, Tryd.func34, rfl, by kernel_rfl⟩
set_option maxHeartbeats 8000000 in
theorem rtn_any (root sh : Bk) (h1 : root.length = 32) (h2 : sh.length = 32) (w : World) (hG : GOk w) :
    Calls Tryd.prog 34 [.agg (root.map U8).toArray, .agg (sh.map U8).toArray].toArray w fun e w' => e = .returned (.tuple #[.agg ((turnA root sh).map U8).toArray, .agg ((turnC root sh).map U8).toArray]) ∧ Ext w w' := by
  have hk : ∀ (b1 b2 : Nat) (w : World), GOk w → Sl8.ok w ⟨some ⟨b1, 0, none⟩, 32, root⟩ → Sl8.ok w ⟨some ⟨b2, 0, none⟩, 32, sh⟩ → Calls Tryd.prog 63 [.slice (some ⟨b1, 0, none⟩) 32 32, .slice (some ⟨b2, 0, none⟩) 32 32, .string ratB, N 2].toArray w fun e w' => ∃ bq, e = .returned (.tuple #[.slice (some ⟨bq, 0, none⟩) 2 2, N 0]) ∧ Holds w [] [⟨bq, Row 23 ((turnB root sh).map U8), true⟩] w' := fun b1 b2 w hG ho1 ho2 => by
    have := keys_any ⟨some ⟨b1, 0, none⟩, 32, root⟩ ⟨some ⟨b2, 0, none⟩, 32, sh⟩ ratB 2 (by decide) w hG ho1 ho2 (by rw [h1]; decide) (by rw [h2]; decide) (by decide)
    rwa [show Sl8.v ⟨some ⟨b1, 0, none⟩, 32, root⟩ = .slice (some ⟨b1, 0, none⟩) 32 32 by simp [Sl8.v, h1], show Sl8.v ⟨some ⟨b2, 0, none⟩, 32, sh⟩ = .slice (some ⟨b2, 0, none⟩) 32 32 by simp [Sl8.v, h2]] at this
  have hlT := turnB_len root sh
  have hlA : ((turnA root sh).map U8).length = 32 := by rw [List.length_map]; exact turnA_len _ _
  have hlC : ((turnC root sh).map U8).length = 32 := by rw [List.length_map]; exact turnC_len _ _
  have r0 : (((turnB root sh).map U8).drop (0 + 0 * 32)).take ((turnA root sh).map U8).length = (turnA root sh).map U8 := row2 hlT
  have r1 : (((turnB root sh).map U8).drop (0 + 1 * 32)).take ((turnC root sh).map U8).length = (turnC root sh).map U8 := row2b hlT
  generalize turnA root sh = tA at *
  generalize turnC root sh = tC at *
  generalize turnB root sh = tB at *
  have hl1 : (root.map U8).length = 32 := by rw [List.length_map]; exact h1
  have hl2 : (sh.map U8).length = 32 := by rw [List.length_map]; exact h2
  refine enter (n := 20) Tryd.func34 rfl rfl rfl (Holds.start w []) ?_
  repeat (first | refine JC.seq ?_ | refine JC.region ?_)
  refine JL.box (r := root.map U8) rfl rfl rfl fun b2 _ => ?_
  refine JL.box (r := sh.map U8) rfl rfl rfl fun b3 _ => ?_
  refine JL.alloc k32z rfl fun b4 _ => ?_
  refine JL.alloc k32z rfl fun b5 _ => ?_
  repeat (first | refine JC.seq ?_ | refine JL.nil ?_ | refine JE.next ?_)
  let vs : Nat → Nat → Value := fun j y => match j with
    | 0 => .slice (some ⟨b2, 0, none⟩) 32 32
    | 1 => .slice (some ⟨b3, 0, none⟩) 32 32
    | 2 => .tuple #[.slice (some ⟨y, 0, none⟩) 2 2, N 0]
    | 3 => .tuple #[.slice (some ⟨y, 0, none⟩) 2 2, N 0]
    | 4 => .slice (some ⟨y, 0, none⟩) 2 2
    | 5 => N 0
    | 6 => .slice (some ⟨y, 0, none⟩) 2 2
    | 7 => N 0
    | _ => N 0
  let Ms : Nat → Nat → List Ent := fun j y => match j with
    | 2 => [⟨y, Row 23 (tB.map U8), true⟩]
    | 8 => [⟨b5, Row 23 ((List.replicate 32 (0 : B)).map U8), true⟩]
    | 9 => [⟨b4, Row 23 ((List.replicate 32 (0 : B)).map U8), true⟩]
    | 10 => [⟨b3, Row 23 (sh.map U8), true⟩]
    | 11 => [⟨b2, Row 23 (root.map U8), true⟩]
    | _ => []
  refine JC.grow (g := ⟨[(2, Pt b2 0), (3, Pt b3 0), (4, Pt b4 0), (5, Pt b5 0)], 12, vs, Ms, (fun j => match j with | 2 => [(0, 9), (1, 10)] | 3 => [(2, 11)] | 4 => [(3, 8)] | 5 => [(3, 8)] | 6 => [(4, 12)] | 7 => [(5, 13)] | _ => []), (fun j => match j with | 2 => [11, 10] | _ => []), (fun j => match j with | _ => []), (fun j => match j with | 3 => some 2 | 4 => some 3 | 6 => some 4 | _ => none)⟩) [(6, 6)] [2, 9, 8] mixT (by repeat (first | exact SubE.nil | refine SubE.cons _ _ _ rfl ?_)) ?_ (by kernel_rfl) (by kernel_rfl) (by kernel_rfl) ?_ ?_
  · exact Less.refl _
  · refine ⟨?_, ?_, ?_, ?_, ?_, ?_, ?_, ?_, trivial⟩
    · (intro xx EF MF Q kk; (try refine JL.gon rfl rfl ?_); exact JL.q (OQ.slA Tryd.underlying23 u8s rfl) rfl (JL.nil (kk default nofun)))
    · (intro xx EF MF Q kk; (try refine JL.gon rfl rfl ?_); exact JL.q (OQ.slA Tryd.underlying23 u8s rfl) rfl (JL.nil (kk default nofun)))
    · (intro xx EF MF Q kk; exact JL.callg (ι := Nat) (vs := [.slice (some ⟨b2, 0, none⟩) 32 32, .slice (some ⟨b3, 0, none⟩) 32 32, .string ratB, N 2]) (fun b => .tuple #[.slice (some ⟨b, 0, none⟩) 2 2, N 0]) (fun b => [⟨b, Row 23 (tB.map U8), true⟩]) goes_keys rfl rfl (fun i => by simp) (fun w' hw' => hk b2 b3 w' (hG.chg hw'.chg (by simp)) (row_ok hw' .here rfl (Nat.le_of_eq h1)) (row_ok hw' (.there .here) rfl (Nat.le_of_eq h2))) fun b => JL.nil (kk b nofun))
    · (intro xx EF MF Q kk; (try refine JL.gon rfl rfl ?_); exact JL.q (OQ.move rfl) rfl (JL.nil (kk (xx 2) (fun k h => by cases h; rfl))))
    · (intro xx EF MF Q kk; (try refine JL.gon rfl rfl ?_); exact JL.q (OQ.extract rfl rfl) rfl (JL.nil (kk (xx 3) (fun k h => by cases h; rfl))))
    · (intro xx EF MF Q kk; (try refine JL.gon rfl rfl ?_); exact JL.q (OQ.extract rfl rfl) rfl (JL.nil (kk default nofun)))
    · (intro xx EF MF Q kk; (try refine JL.gon rfl rfl ?_); exact JL.q (OQ.assign rfl) rfl (JL.nil (kk (xx 4) (fun k h => by cases h; rfl))))
    · (intro xx EF MF Q kk; (try refine JL.gon rfl rfl ?_); exact JL.q (OQ.assign rfl) rfl (JL.nil (kk default nofun)))
  · intro xx hx
    have e1 := hx 6 4 (by decide) rfl
    have e2 := hx 4 3 (by decide) rfl
    have e3 := hx 3 2 (by decide) rfl
    show JE _ _ _ _ _ [(6, .slice (some ⟨xx 6, 0, none⟩) 2 2), (2, Pt b2 0), (3, Pt b3 0), (4, Pt b4 0), (5, Pt b5 0)] [⟨xx 2, Row 23 (tB.map U8), true⟩, ⟨b4, Row 23 ((List.replicate 32 (0 : B)).map U8), true⟩, ⟨b5, Row 23 ((List.replicate 32 (0 : B)).map U8), true⟩]
    rw [e1, e2, e3]
    generalize xx 2 = bk
    clear hx e1 e2 e3 xx vs Ms
    repeat (first | refine JC.seq ?_ | refine JE.next ?_)
    let vs : Nat → Nat → Value := fun j y => match j with
      | 0 => .slice (some ⟨bk, 0, none⟩) 2 2
      | 1 => Pt bk 0
      | 2 => .agg (tA.map U8).toArray
      | 3 => .slice (some ⟨bk, 0, none⟩) 2 2
      | 4 => Pt bk (0 + 1 * 32)
      | 5 => .agg (tC.map U8).toArray
      | _ => N 0
    let Ms : Nat → Nat → List Ent := fun j y => match j with
      | 6 => [⟨b4, Row 23 (tA.map U8), true⟩]
      | 7 => [⟨b5, Row 23 (tC.map U8), true⟩]
      | 8 => [⟨bk, Row 23 (tB.map U8), true⟩]
      | 9 => [⟨b4, Row 23 ((List.replicate 32 (0 : B)).map U8), true⟩]
      | 10 => [⟨b5, Row 23 ((List.replicate 32 (0 : B)).map U8), true⟩]
      | _ => []
    refine JC.grow (g := ⟨[(4, Pt b4 0), (5, Pt b5 0), (6, .slice (some ⟨bk, 0, none⟩) 2 2)], 11, vs, Ms, (fun j => match j with | 1 => [(0, 14)] | 2 => [(1, 15)] | 4 => [(3, 17)] | 5 => [(4, 18)] | 6 => [(2, 16)] | 7 => [(5, 19)] | _ => []), (fun j => match j with | 2 => [8] | 5 => [8] | 6 => [9] | 7 => [10] | _ => []), (fun j => match j with | 6 => [9] | 7 => [10] | _ => []), (fun j => match j with | _ => none)⟩) [] [6, 7] mixT (by repeat (first | exact SubE.nil | refine SubE.cons _ _ _ rfl ?_)) ?_ (by kernel_rfl) (by kernel_rfl) (by kernel_rfl) ?_ ?_
    · exact Less.refl _
    · refine ⟨?_, ?_, ?_, ?_, ?_, ?_, ?_, ?_, trivial⟩
      · (intro xx EF MF Q kk; (try refine JL.gon rfl rfl ?_); exact JL.q (OQ.move rfl) rfl (JL.nil (kk default nofun)))
      · (intro xx EF MF Q kk; (try refine JL.gon rfl rfl ?_); exact JL.q (OQ.idxS (sz := 32) (i := 0) Tryd.underlying96 k32s rfl rfl (by decide)) rfl (JL.nil (kk default nofun)))
      · (intro xx EF MF Q kk; (try refine JL.gon rfl rfl ?_); exact JL.q (OQ.load_agg (cs := tA.map U8) k32a k32s rfl .here hlA (Row.cells r0)) rfl (JL.nil (kk default nofun)))
      · (intro xx EF MF Q kk; (try refine JL.gon rfl rfl ?_); exact JL.q (OQ.move rfl) rfl (JL.nil (kk default nofun)))
      · (intro xx EF MF Q kk; (try refine JL.gon rfl rfl ?_); exact JL.q (OQ.idxS (sz := 32) (i := 1) Tryd.underlying96 k32s rfl rfl (by decide)) rfl (JL.nil (kk default nofun)))
      · (intro xx EF MF Q kk; (try refine JL.gon rfl rfl ?_); exact JL.q (OQ.load_agg (cs := tC.map U8) k32a k32s rfl .here hlC (Row.cells r1)) rfl (JL.nil (kk default nofun)))
      · (intro xx EF MF Q kk; exact JL.store_all (cs := tA.map U8) k32s rfl rfl hlA (Y_cell _) .here (by simp) (JL.nil (kk default nofun)))
      · (intro xx EF MF Q kk; exact JL.store_all (cs := tC.map U8) k32s rfl rfl hlC (Y_cell _) .here (by simp) (JL.nil (kk default nofun)))
    · intro xx hx
      show JE _ _ _ _ _ [(4, Pt b4 0), (5, Pt b5 0), (6, .slice (some ⟨bk, 0, none⟩) 2 2)] [⟨b4, Row 23 (tA.map U8), true⟩, ⟨b5, Row 23 (tC.map U8), true⟩]
      repeat (refine JE.next ?_)
      refine JC.ret (JE.ret2 rfl (RV.cell_agg k32a k32s rfl .here hlA Row.all) (RV.cell_agg k32a k32s rfl (.there .here) hlC Row.all) ?_)
      exact fun w' hw => ⟨rfl, hw.chg⟩
theorem goes_kclone : Goes Tryd.prog 46 := ⟨_, Tryd.func46, rfl, by kernel_rfl⟩
theorem kpc_cells (l : List Kp) : ∀ v ∈ (kpcs l).flatten, v.oneCell' = true := by
  intro v hv
  obtain ⟨c, hc, hv⟩ := List.mem_flatten.1 hv
  obtain ⟨k, _, rfl⟩ := List.mem_map.1 hc
  exact List.all_eq_true.1 (kpc_one k) v hv
theorem kpcs_flat {l : List Kp} (h : ∀ k ∈ l, k.ok) : (kpcs l).flatten.length = l.length * 65 := by rw [chunk_len (kpcs_all h), kpcs_len]
/-- nil for none -/
abbrev AccFor (l : List Kp) := { q : Acc // q = none → l = [] }
set_option maxHeartbeats 4000000 in
theorem kclone_any (s : SlK) (w : World) (hs : s.ok w) (hl : s.l.length ≤ 1000000) : Calls Tryd.prog 46 [s.v].toArray w fun e w' => ∃ q : AccFor s.l, e = .returned (accV q.1 s.l.length) ∧ Holds w [] (kpE q.1 s.l) w' := by
  refine enter (n := 8) Tryd.func46 rfl rfl rfl (Holds.start w []) ?_
  have hfl := kpcs_flat hs.all
  obtain ⟨ad, cap, l⟩ := s
  cases ad with
  | none =>
    have h0 : l = [] := by
      cases l with
      | nil => rfl
      | cons c l =>
        obtain ⟨b, j, h1, _⟩ := hs.reads.at (by simp only [] at hfl; rw [hfl]; simp)
        cases h1
    subst h0
    repeat (first | refine JL.q (by first | (apply OQ.isNilD (ad := none) (k := 0) (cap := cap); exact Tryd.underlying24; exact rfl; exact rfl) | (apply OQ.move; exact rfl) | (apply OQ.assign; exact rfl)) rfl ?_ | refine JC.seq ?_ | refine JC.region ?_ | refine JL.nil ?_ | refine JE.next ?_)
    refine JC.cond_true rfl rfl ?_
    repeat (first | refine JL.q (by (apply OQ.assign; exact rfl)) rfl ?_ | refine JC.seq ?_ | refine JC.region ?_ | refine JL.nil ?_ | refine JE.next ?_)
    refine JC.ret ?_
    repeat (refine JE.then_ret ?_)
    exact JE.ret1 rfl (RV.tmp rfl) fun w' hw => ⟨⟨none, fun _ => rfl⟩, rfl, hw⟩
  | some ad =>
    repeat (first | refine JL.q (by first | (apply OQ.isNilD (ad := some ad) (k := l.length) (cap := cap); exact Tryd.underlying24; exact rfl; exact rfl) | (apply OQ.move; exact rfl) | (apply OQ.assign; exact rfl)) rfl ?_ | refine JC.seq ?_ | refine JC.region ?_ | refine JL.nil ?_ | refine JE.next ?_)
    refine JC.cond_false rfl rfl ?_
    repeat (first | refine JC.seq ?_ | refine JC.region ?_ | refine JC.skip ?_ | refine JE.next ?_)
    refine JL.litZ Tryd.underlying24 kpI rfl fun b0 _ => ?_
    repeat (refine JL.q (by (apply OQ.move; exact rfl)) rfl ?_)
    refine JL.append (cs := (kpcs l).flatten) (m := l.length) (ad := some ad) (sc := cap) (xs := []) (fun b' cap' => [⟨b', Sl.Own 57 65 (0 + l.length) cap' ([] ++ (kpcs l).flatten), true⟩]) Tryd.underlying24 kpI rfl rfl (by intro _ _; repeat (first | exact Repl.here | apply Repl.there)) hfl (fun w' hw' => (hs.holds hw' rfl).reads) (kpc_cells l) rfl (by decide) (by simp only [] at hl; omega) (by simp only [] at hl; omega) rfl fun b1 cap1 => ?_
    rw [Nat.zero_add, List.nil_append]
    repeat (first | refine JL.q (by (apply OQ.assign; exact rfl)) rfl ?_ | refine JL.nil ?_ | refine JE.next ?_)
    refine JC.ret (JE.ret1 rfl (RV.tmp rfl) fun w' hw => ⟨⟨some (b1, cap1), nofun⟩, rfl, ?_⟩)
    show Holds w [] [⟨b1, Sl.Own 57 65 (kpcs l).length cap1 (kpcs l).flatten, true⟩] w'
    rw [kpcs_len]
    exact hw
theorem goes_copied : Goes Tryd.prog 23 := ⟨_, Tryd.func23, rfl, by kernel_rfl⟩
set_option maxHeartbeats 4000000 in
theorem copied_any (s : Ses) (k : SlK) (hs : s.ok) (w : World) (hk : k.ok w) (he : k.l = s.kept) (hl : s.kept.length ≤ 1000000) : Calls Tryd.prog 23 [.agg (sec s k.v).toArray].toArray w fun e w' => ∃ q : AccFor s.kept, e = .returned (.agg (sec s (accV q.1 s.kept.length)).toArray) ∧ Holds w [] (kpE q.1 s.kept) w' := by
  have hv1 : k.v.oneCell' = true := rfl
  have hl1 := sec_len hs k.v
  refine enter (n := 8) Tryd.func23 rfl rfl rfl (Holds.start w []) ?_
  repeat (first | refine JC.seq ?_ | refine JC.region ?_)
  refine JL.box (r := sec s k.v) rfl rfl rfl fun b1 _ => ?_
  refine JL.alloc seZ rfl fun b2 _ => ?_
  repeat (first | refine JL.q (by first | (apply OQ.load; exact slkC; exact rfl; exact (.there .here); exact (Row.cell (sec_kept hs k.v))) | (apply OQ.fld; exact rfl; exact rfl; exact rfl; exact (by decide); exact rfl)) rfl ?_ | refine JC.seq ?_ | refine JC.region ?_ | refine JL.nil ?_ | refine JE.next ?_)
  rw [← he] at hl
  refine JL.callg (ι := AccFor k.l) (vs := [k.v]) (fun q => accV q.1 k.l.length) (fun q => kpE q.1 k.l) goes_kclone rfl rfl (fun q => kpE_wr _ _) (fun w' hw' => kclone_any k w' (hk.holds hw' rfl) hl) ?_
  rintro ⟨q, hq⟩
  try dsimp only
  rw [he] at hq ⊢
  have hl2 := sec_len hs (accV q s.kept.length)
  refine JL.perm (M' := ⟨b2, Row 26 (sec zeroS (.slice none 0 0)), true⟩ :: ⟨b1, Row 26 (sec s k.v), true⟩ :: kpE q s.kept) ?_ (by exact List.perm_append_comm (l₂ := [_, _]))
  repeat (refine JL.q (by (apply OQ.fld; exact rfl; exact rfl; exact rfl; exact (by decide); exact rfl)) rfl ?_)
  refine JL.store_eq (r := sec s k.v) (r' := sec s (accV q s.kept.length)) slkS rfl rfl (accV_one _ _) (accV_cells _ _) (.there .here) (by rw [hl1]; decide) (sec_set_kept hs _ _ _) ?_
  repeat (first | refine JL.q (by (apply OQ.load_agg (cs := sec s (accV q s.kept.length)); exact seA; exact seS; exact rfl; exact (.there .here); exact hl2; exact Row.all)) rfl ?_ | refine JC.seq ?_ | refine JC.region ?_ | refine JL.nil ?_ | refine JE.next ?_)
  refine JL.store_all (cs := sec s (accV q s.kept.length)) seS rfl rfl hl2 (sec_one (accV_one _ _)) .here (sec_len zeroS_ok _) ?_
  repeat (first | refine JL.nil ?_ | refine JE.next ?_)
  refine JC.ret (JE.ret1 rfl (RV.cell_agg seA seS rfl .here hl2 Row.all) ?_)
  exact fun w' hw => ⟨⟨q, hq⟩, rfl, hw.weak (.drop _ _ _ (.drop _ _ _ (Less.refl _)))⟩
theorem goes_nextT : Goes Tryd.prog 97 := ⟨_, Tryd.func97, rfl, by kernel_rfl⟩
set_option maxHeartbeats 8000000 in
theorem nextT_any (b : Nat) (q : Acc) (s : Ses) (hs : s.ok) (ht : s.taken < 9000000000000000000) (w : World) (hT : Tb (keys (seE b q s)) w) (h0 : Holds w (keys (seE b q s)) (seE b q s) w) :
    Calls Tryd.prog 97 [Pt b 0].toArray w fun e w' => e = .returned (.agg ((msB s.take).map U8).toArray) ∧ Holds w (keys (seE b q s)) (seE b q (tookN s)) w' := by
  generalize keys (seE b q s) = S at h0 hT ⊢
  have hlt : (s.take.map U8).length = 32 := by rw [List.length_map]; exact hs.take
  have hst := fun (w' : World) (M : List Ent) (hw : Holds w S M w') => kstep_any s.take hs.take w' (hT.g hw)
  have hs1 : ({ s with take := nxB s.take } : Ses).ok := ⟨hs.root, hs.own, hs.other, hs.send, rfl, hs.kept⟩
  have hl0 := sec_len hs (accV q s.kept.length)
  have hl1 := sec_len hs1 (accV q s.kept.length)
  have p1 := sec_put_take hs (accV q s.kept.length) (nxB s.take) rfl
  have p2 := sec_set_taken hs1 (accV q s.kept.length) (s.taken + 1)
  have hln : ((nxB s.take).map U8).length = 32 := rfl
  have hlm : ((msB s.take).map U8).length = 32 := rfl
  have hst2 : ∀ (w' : World) (M : List Ent) (hw : Holds w S M w'), Calls Tryd.prog 26 [.agg (s.take.map U8).toArray].toArray w' fun e w'' => e = .returned (.tuple #[.agg ((nxB s.take).map U8).toArray, .agg ((msB s.take).map U8).toArray]) ∧ Ext w' w'' := hst
  clear hst
  have hR : seE b q (tookN s) = ⟨b, Row 26 (sec { s with take := nxB s.take, taken := s.taken + 1 } (accV q s.kept.length)), true⟩ :: kpE q s.kept := rfl
  rw [hR]
  generalize nxB s.take = nx at *
  generalize msB s.take = ms at *
  refine enter (n := 23) Tryd.func97 rfl rfl rfl h0 ?_
  refine JC.seq (JC.region (JL.alloc k32z rfl fun b2 _ => ?_))
  repeat (first | refine JC.seq ?_ | refine JC.region ?_ | refine JL.nil ?_ | refine JE.next ?_)
  refine JL.alloc k32z rfl fun b3 _ => ?_
  unfold seE
  repeat (first | refine JL.q (by first | (apply OQ.load_agg (cs := s.take.map U8); exact k32a; exact k32s; exact rfl; exact (.there (.there .here)); exact hlt; exact (Row.cells (sec_take hs _))) | (apply OQ.callx (vs := [.agg (s.take.map U8).toArray]); exact goes_kstep; exact rfl; exact (fun w' hw' => hst2 w' _ hw')) | (apply OQ.extract; exact rfl; exact rfl) | (apply OQ.move; exact rfl) | (apply OQ.nilc; exact rfl) | (apply OQ.fld; exact rfl; exact rfl; exact rfl; exact (by decide); exact rfl)) rfl ?_ | refine JC.seq ?_ | refine JC.region ?_ | refine JL.nil ?_ | refine JE.next ?_)
  refine JL.store_part (r := sec s (accV q s.kept.length)) (r' := sec { s with take := nx } (accV q s.kept.length)) k32s rfl rfl hln (Y_cell _) (.there (.there .here)) (by rw [hl0, hln]; decide) p1 ?_
  refine JL.store_all (cs := ms.map U8) k32s rfl rfl hlm (Y_cell _) .here (by simp) ?_
  repeat (first | refine JL.q (by first | (apply OQ.load; exact intCr; exact rfl; exact (.there (.there .here)); exact (Row.cell (sec_taken hs1 _))) | (apply OQ.addN (a := s.taken) (b := 1); exact rfl; exact rfl; exact (by omega)) | (apply OQ.move; exact rfl) | (apply OQ.nilc; exact rfl) | (apply OQ.fld; exact rfl; exact rfl; exact rfl; exact (by decide); exact rfl)) rfl ?_ | refine JC.seq ?_ | refine JC.region ?_ | refine JL.nil ?_ | refine JE.next ?_)
  refine JL.store_eq (r := sec { s with take := nx } (accV q s.kept.length)) (r' := sec { s with take := nx, taken := s.taken + 1 } (accV q s.kept.length)) intSr rfl rfl rfl rfl (.there (.there .here)) (by rw [hl1]; decide) p2 ?_
  repeat (first | refine JL.q (by (apply OQ.load_agg (cs := ms.map U8); exact k32a; exact k32s; exact rfl; exact .here; exact hlm; exact Row.all)) rfl ?_ | refine JC.seq ?_ | refine JC.region ?_ | refine JL.nil ?_ | refine JE.next ?_)
  refine JL.store_all (cs := ms.map U8) k32s rfl rfl hlm (Y_cell _) (.there .here) (by simp) ?_
  repeat (first | refine JL.nil ?_ | refine JE.next ?_)
  refine JC.ret (JE.ret1 rfl (RV.cell_agg k32a k32s rfl (.there .here) hlm Row.all) ?_)
  exact fun w' hw => ⟨rfl, hw.weak (.drop _ _ _ (.drop _ _ _ (Less.refl _)))⟩
end Go.Proofs.YtbhlcnimjoppeaaDoor

/-
  Of no statement by itself: an append that lies within the slice's own block; x[lo:hi:mx]; a literal of a struct of any parts; for any program P.
  Conditions: each rule's own hypotheses.
-/
namespace Go.Proofs.YtbhlcnimjoppeaaDoor
set_option maxRecDepth 10000
open Sl
namespace Sl
section
variable {P : Program} {n : Nat} {w0 : World} {S : List Nat} {ops : Array Oper} {Q : Exit → Act → World → Prop} {l : List Oper} {E : Env} {M M' : List Ent} {C : World → Prop}
variable {dst : Option Tmp} {d b : Nat} {t e ty : TypeId} {pos : String} {aft : Array Edge} {g : Option (Nat × Bool)} {x y z u : Operand} {cs : List Value}
theorem OQ.slS_all3 {len cap lo hi mx sz : Nat} {ad : Option Addr} (hu : P.underlying t = some (.slice e)) (hz : szT P e = some sz) (hx : ev E x = some (.slice ad len cap)) (hl : ev E y = some (N lo)) (hh : ev E z = some (N hi)) (hm : ev E u = some (N mx)) (h : lo ≤ hi) (h2 : hi ≤ mx) (h' : mx ≤ cap) :
    OQ P n E C ⟨dst, .slice t x (some y) (some z) (some u), ty, pos, aft, g⟩ (.slice (if mx = lo then ad else ad.map (·.add (lo * sz))) (hi - lo) (mx - lo)) :=
  OQ.run fun a ha w _ => by
    have h1 := ha.eval hx
    have h4 := ha.eval hl
    have h5 := ha.eval hh
    have h6 := ha.eval hm
    have h3 : (underlying t).run P w = .ok (.slice e) w := run_underlying hu w
    simp [execOp, h1, h4, h5, h6, Instr.sliceAt, Sem.run_bind, h3, Instr.slice, Instr.sliceBounds, Instr.sliceBound, asIntOf, h, h2, h', sizeOf_run hz]
/-- what is appended finds its room in what the slice's block holds already -/
theorem JL.appendIn {zv : Value} {ad : Option Addr} {sz by' i k m cap sc : Nat} {xs xs' : List Value} (hu : P.underlying t = some (.slice e)) (hi : EI P e zv sz by') (hx : ev E x = some (.slice (some ⟨b, 0, none⟩) i cap)) (hy : ev E y = some (.slice ad m sc))
    (hup : Upd M b (Sl.Own e sz k cap xs) (Sl.Own e sz k cap xs') M') (hl : cs.length = m * sz) (hr : ∀ w, Holds w0 S M w → Reads w ad cs) (h1 : ∀ v ∈ cs, v.oneCell' = true) (h0 : 0 < sz) (hroom : i + m ≤ k) (he : xs.take (i * sz) ++ cs ++ xs.drop (i * sz + m * sz) = xs') (hd : Nat.blt d n = true)
    (kk : JL P n w0 S ops Q l ((d, .slice (some ⟨b, 0, none⟩) (i + m) cap) :: E) M') : JL P n w0 S ops Q (⟨some d, .call ⟨.builtin .append, #[x, y], #[t, t]⟩, ty, pos, aft, none⟩ :: l) E M :=
  ⟨fun a w ha hw => wpList_plain rfl fun K hK => by
    obtain ⟨inf, hi1, hi2, hi3, hi4⟩ := hi.get
    obtain ⟨o, ho, sp, rfl, hc1, hc2, hc3⟩ := hw.get hup.has
    have hru := hr w hw
    have hle : i * sz + m * sz ≤ k * sz := by rw [← Nat.add_mul]; exact Nat.mul_le_mul_right _ hroom
    unfold Oper.wp
    simp only [execOp, resolve, invoke, builtin, Sem.run_bind, Sem.run_pure, Result.andThen_ok, List.map_toArray, List.map_cons, List.map_nil, ha.eval hx, ha.eval hy]
    by_cases hm : m = 0
    · subst hm
      have hcs : cs = [] := List.eq_nil_of_length_eq_zero (by simpa using hl)
      subst hcs
      rw [append_none (_t' := t) hu hi1 (by omega)]
      refine hK _ _ (kk.go _ _ (ha.put d _ hd) (hw.write hup (o' := .cells (xs ++ sp).toArray e (0, 0)) ?_ ho rfl (fun _ _ => rfl) rfl rfl rfl))
      rw [← he]
      refine ⟨sp, ?_, ?_, ?_, hc3⟩
      · simp
      · simpa using hc1
      · simpa using hc2
    · have hpos : 0 < cs.length := by rw [hl]; exact Nat.mul_pos (Nat.pos_of_ne_zero hm) h0
      obtain ⟨b2, j2, rfl, hcell⟩ := hru.at hpos
      have hfit : i * inf.size + cs.length ≤ (xs ++ sp).toArray.size := by
        rw [hl, hi3, List.size_toArray, List.length_append]; omega
      rw [run_append_room (P := P) w t ty e inf hu hi1 b i cap (xs ++ sp).toArray ho ⟨b2, j2, none⟩ m sc cs (by rw [hl, hi3]) (fun u v hv => by rw [add_off]; exact hcell u v hv) h1 (by omega) hfit]
      refine hK _ _ (kk.go _ _ (ha.put d _ hd) (hw.write hup (o' := .cells ((xs ++ sp).take (i * inf.size) ++ cs ++ (xs ++ sp).drop (i * inf.size + cs.length)).toArray e (0, 0)) ?_ (setRow_heap w b _ _ e _ ho) (by simp) (fun q hq => setRow_other w b q _ hq) rfl rfl rfl))
      rw [hi3, hl, List.take_append_of_le_length (by omega), List.drop_append_of_le_length (by omega), ← List.append_assoc, he]
      have hxl : xs'.length = xs.length := by rw [← he]; simp only [List.length_append, List.length_take, List.length_drop, hl]; omega
      exact ⟨sp, rfl, by rw [List.length_append] at hc1 ⊢; omega, by omega, hc3⟩⟩
theorem zip_map {a : Act} (hk : Knows n E a) : ∀ {is : List Nat} {xs : List Operand} {vs : List Value}, evs E xs = some vs → (is.zip xs).map (fun p => (p.1, a.eval p.2)) = is.zip vs
  | [], xs, vs, _ => by simp
  | i :: is, [], vs, h => by
    simp only [evs, Option.some.injEq] at h
    subst h
    rfl
  | i :: is, x :: xs, vs, h => by
    simp only [evs] at h
    cases h1 : ev E x with
    | none => simp [h1] at h
    | some v =>
      cases h2 : evs E xs with
      | none => simp [h1, h2] at h
      | some us =>
        simp only [h1, h2, Option.some.injEq] at h
        subst h
        simp [hk.eval h1, zip_map hk h2]
/-- a literal of a struct: the parts is hold what xs are -/
theorem OQ.buildK {ps : Array (Nat × Operand)} (is : List Nat) (xs : List Operand) {vs : List Value} (hps : ps = (is.zip xs).toArray) (hx : evs E xs = some vs) (h : P.built t (is.zip vs) = some cs.toArray) : OQ P n E C ⟨dst, .build t ps, ty, pos, aft, g⟩ (.agg cs.toArray) :=
  OQ.run fun a ha w _ => by
    have hm : ps.map (fun (i, x) => (i, a.eval x)) = (is.zip vs).toArray := by
      rw [hps, List.map_toArray, ← zip_map ha hx]
    have r := run_build w t (is.zip vs).toArray cs.toArray (by simpa using h)
    simp only [execOp, hm, Sem.run_bind, r, Result.andThen_ok]
    rfl
end
theorem OQ.eqA_no {P : Program} {n : Nat} {E : Env} {C : World → Prop} {dst : Option Tmp} {t t' ty e : TypeId} {x y : Operand} {pos : String} {aft : Array Edge} {g : Option (Nat × Bool)} {m : Nat} {r q : List (BitVec 8)} (hu : P.underlying t = some (.array m e)) (he : P.underlying e = some (.int .u8)) (hz : szT P e = some 1) (hgd : P.eqGuardType P.depth t = false) (hx : ev E x = some (.agg (r.map U8).toArray)) (hy : ev E y = some (.agg (q.map U8).toArray)) (hr : r.length = m) (hq : q.length = m) (h : ¬ r = q) :
    OQ P n E C ⟨dst, .binOp .eql t x y t', ty, pos, aft, g⟩ (.bool false) := (decide_eq_false h : decide (r = q) = false) ▸ OQ.eqA hu he hz hgd hx hy hr hq
theorem OQ.lenA {P : Program} {n : Nat} {E : Env} {C : World → Prop} {dst : Option Tmp} {t ty e : TypeId} {pos : String} {aft : Array Edge} {g : Option (Nat × Bool)} {x : Operand} {q : Acc} {k : Nat} (hu : P.underlying t = some (.slice e)) (hq : q = none → k = 0) (hx : ev E x = some (accV q k)) : OQ P n E C ⟨dst, .call ⟨.builtin .len, #[x], #[t]⟩, ty, pos, aft, g⟩ (N k) := by
  cases q with
  | none => obtain rfl := hq rfl; exact OQ.len hu hx
  | some r => exact OQ.len hu hx
/-- a call of a closure, told of the world -/
theorem OQ.callCl {P : Program} {n : Nat} {w0 : World} {S : List Nat} {M : List Ent} {E : Env} {dst : Option Tmp} {ty : TypeId} {pos : String} {aft : Array Edge} {g : Option (Nat × Bool)} {x : Operand} {ats : Array TypeId} {f : FuncId} {caps vs : List Value} {xs : List Operand} {v : Value} (hg : Goes P f) (hx : ev E x = some (.func (.func f) #[] caps.toArray)) (hy : evs E xs = some vs)
    (hc : ∀ w, Holds w0 S M w → Calls P f (vs ++ caps).toArray w fun e w' => e = .returned v ∧ Ext w w') : OQ P n E (Holds w0 S M) ⟨dst, .call ⟨.value x, xs.toArray, ats⟩, ty, pos, aft, g⟩ v := by
  refine ⟨fun a hk w hw => ?_⟩
  unfold Oper.quietAt
  rw [exec_callv (xs := xs) hg hk hx hy w]
  exact ⟨rfl, (hc w hw).mono fun e w' ⟨k1, k2⟩ => ⟨k1, hw.ext k2⟩⟩
end Sl
end Go.Proofs.YtbhlcnimjoppeaaDoor

/-
  Of no statement by itself: slices.Delete and slices.IndexFunc over kept keys.
  Conditions: each theorem's own.
-/
namespace Go.Proofs.YtbhlcnimjoppeaaDoor
set_option maxRecDepth 10000
open Sl Sha Str Crv Rtc
open Dsk (Bk)
theorem Sl.Reads.dropC {w : World} {ad : Option Addr} {xs : List Value} {cap j sz : Nat} (h : Reads w ad xs) (h0 : cap = j → xs.drop (j * sz) = []) : Reads w (if cap = j then ad else ad.map (·.add (j * sz))) (xs.drop (j * sz)) := by
  intro i v hv
  by_cases e : cap = j
  · rw [h0 e] at hv
    cases hv
  · rw [List.getElem?_drop] at hv
    obtain ⟨b, o, h1, h2⟩ := h _ v hv
    rw [if_neg e, h1]
    exact ⟨b, o + j * sz, by rw [Option.map_some, add_off], by rw [Nat.add_assoc]; exact h2⟩
theorem goes_kdel : Goes Tryd.prog 94 := ⟨_, Tryd.func94, rfl, by kernel_rfl⟩
/-- one's own row, cut -/
theorem del_cells {L : List (List Value)} (h : ∀ c ∈ L, c.length = 65) {i j : Nat} (hij : i ≤ j) (hj : j ≤ L.length) :
    (L.flatten.take (i * 65) ++ L.flatten.drop (j * 65) ++ L.flatten.drop (i * 65 + (L.length - j) * 65)).take ((i + (L.length - j)) * 65) = (L.take i ++ L.drop j).flatten := by
  have h1 : (L.take i).flatten.length = i * 65 := by rw [chunk_len fun c hc => h c (List.mem_of_mem_take hc), List.length_take, Nat.min_eq_left (by omega)]
  have h2 : (L.drop j).flatten.length = (L.length - j) * 65 := by rw [chunk_len fun c hc => h c (List.mem_of_mem_drop hc), List.length_drop]
  rw [chunk_take h, chunk_drop h, List.take_left' (by rw [List.length_append, h1, h2, ← Nat.add_mul]), List.flatten_append]
set_option maxHeartbeats 8000000 in
theorem kdel_any (b cap : Nat) (l : List Kp) (i j : Nat) (hij : i < j) (hj : j ≤ l.length) (hl : ∀ k ∈ l, k.ok) (hs : l.length < 1000000) (w : World) (h0 : Holds w [b] (kpE (some (b, cap)) l) w) :
    Calls Tryd.prog 94 [.slice (some ⟨b, 0, none⟩) l.length cap, N i, N j].toArray w fun e w' => e = .returned (.slice (some ⟨b, 0, none⟩) (l.take i ++ l.drop j).length cap) ∧ Holds w [b] (kpE (some (b, cap)) (l.take i ++ l.drop j)) w' := by
  have hL := kpcs_all hl
  have hLl := kpcs_len l
  have hdc := del_cells hL (i := i) (j := j) (by omega) (by rw [hLl]; exact hj)
  have hR : kpcs (l.take i ++ l.drop j) = (kpcs l).take i ++ (kpcs l).drop j := by simp [kpcs, List.map_take, List.map_drop]
  have hRl : (l.take i ++ l.drop j).length = i + (l.length - j) := by simp only [List.length_append, List.length_take, List.length_drop]; omega
  have hfl := chunk_len hL
  have hone := kpc_cells l
  have hGl : kpE (some (b, cap)) (l.take i ++ l.drop j) = [⟨b, Sl.Own 57 65 (i + (l.length - j)) cap ((kpcs l).take i ++ (kpcs l).drop j).flatten, true⟩] := by
    show [_] = _
    rw [hR, ← hRl, ← hR, kpcs_len]
  rw [hGl, hRl]
  have hdr := chunk_drop hL j
  have hS : kpE (some (b, cap)) l = [⟨b, Sl.Own 57 65 l.length cap (kpcs l).flatten, true⟩] := by
    show [_] = _
    rw [hLl]
  rw [hS] at h0
  rw [hLl] at hfl hdc
  have hcap : l.length ≤ cap := by
    obtain ⟨o, _, sp, _, _, _, h3⟩ := h0.get .here
    exact h3
  generalize (kpcs l).flatten = xs at *
  generalize ((kpcs l).take i ++ (kpcs l).drop j).flatten = ys at *
  generalize hmm : l.length = n at *
  have hne : decide ((i : Int) = (j : Int)) = false := decide_eq_false (by omega)
  refine enter (n := 33) Tryd.func94 rfl rfl rfl h0 ?_
  repeat (first | refine JL.q (by first | (apply OQ.len (k := n) (cap := cap) (ad := some ⟨b, 0, none⟩); exact Tryd.underlying24; exact rfl) | (apply OQ.slS_all3 (lo := i) (hi := j) (mx := n) (len := n) (cap := cap) (ad := some ⟨b, 0, none⟩); exact Tryd.underlying24; exact kpS; exact rfl; exact rfl; exact rfl; exact rfl; exact (by omega); exact (by omega); exact (by omega)) | (apply OQ.eqB (a := (i : Int)) (b := (j : Int)); exact rfl; exact rfl; exact hne) | (apply OQ.move; exact rfl) | (apply OQ.assign; exact rfl)) rfl ?_ | refine JC.seq ?_ | refine JC.region ?_ | refine JL.nil ?_ | refine JE.next ?_)
  refine JC.cond_false rfl rfl ?_
  repeat (first | refine JL.q (by first | (apply OQ.len (k := n) (cap := cap) (ad := some ⟨b, 0, none⟩); exact Tryd.underlying24; exact rfl) | (apply OQ.move; exact rfl) | (apply OQ.assign; exact rfl)) rfl ?_ | refine JC.seq ?_ | refine JC.region ?_ | refine JC.skip ?_ | refine JL.nil ?_ | refine JE.next ?_)
  refine JC.tail 6 mixT (by kernel_rfl) ?_
  simp only [List.take_succ_cons, List.take_zero, List.drop_succ_cons, List.drop_zero]
  repeat (first | refine JQ.q (by first | (apply OQ.to; exact (OQ.slS_hi (ad := some ⟨b, 0, none⟩) (len := n) (cap := cap) (hi := i) Tryd.underlying24 kpS rfl rfl (by omega)); exact hi_slice) | (apply OQ.slS_lo (ad := some ⟨b, 0, none⟩) (len := n) (cap := cap) (lo := j); exact Tryd.underlying24; exact kpS; exact rfl; exact rfl; exact hj) | (apply OQ.move; exact rfl)) rfl ?_ | refine JQ.nil_tail ?_)
  refine JL.appendIn (k := n) (cs := xs.drop (j * 65)) (m := n - j) (i := i) (xs := xs) (xs' := xs.take (i * 65) ++ xs.drop (j * 65) ++ xs.drop (i * 65 + (n - j) * 65)) Tryd.underlying24 kpI rfl rfl .here (by rw [List.length_drop, hfl, ← Nat.sub_mul]) (fun w' hw' => ?_) (fun v hv => hone v (List.mem_of_mem_drop hv)) (by decide) (by omega) rfl rfl ?_
  · obtain ⟨o, ho, hA⟩ := hw'.get .here
    exact (Reads.block ho (Sl.Own.cells _ hA)).dropC fun e => List.drop_of_length_le (by rw [hfl]; exact Nat.mul_le_mul_right _ (by omega))
  repeat (first | refine JL.q (by first | (apply OQ.len (k := i + (n - j)) (cap := cap) (ad := some ⟨b, 0, none⟩); exact Tryd.underlying24; exact rfl) | (apply OQ.slS_lohi (lo := i + (n - j)) (hi := n) (len := i + (n - j)) (cap := cap) (ad := some ⟨b, 0, none⟩); exact Tryd.underlying24; exact kpS; exact rfl; exact rfl; exact rfl; exact (by omega); exact hcap) | (apply OQ.move; exact rfl) | (apply OQ.assign; exact rfl)) rfl ?_ | refine JC.seq ?_ | refine JC.region ?_ | refine JL.nil ?_ | refine JE.next ?_)
  refine JL.clearO (k := n) (lo := i + (n - j)) (xs := xs.take (i * 65) ++ xs.drop (j * 65) ++ xs.drop (i * 65 + (n - j) * 65)) (M' := [⟨b, Sl.Own 57 65 (i + (n - j)) cap ys, true⟩]) Tryd.underlying24 kpI rfl (fun v hv => List.all_eq_true.1 (kpc_one noK) v hv) (by decide) rfl (by omega) (by rw [hdc]; exact .here) ?_
  repeat (first | refine JL.q (by first | (apply OQ.move; exact rfl) | (apply OQ.assign; exact rfl)) rfl ?_ | refine JC.seq ?_ | refine JC.region ?_ | refine JL.nil ?_ | refine JE.next ?_)
  refine JC.ret ?_
  skip
  exact JE.ret1 rfl (RV.tmp rfl) fun w' hw => ⟨rfl, hw⟩
theorem goes_kix : Goes Tryd.prog 92 := ⟨_, Tryd.func92, rfl, by kernel_rfl⟩
theorem goes_khit : Goes Tryd.prog 93 := ⟨_, Tryd.func93, rfl, by kernel_rfl⟩
theorem kpc_chain {k : Kp} (h : k.ok) : ((kpc k).drop 0).take (k.chain.map U8).length = k.chain.map U8 := by simp [kpc]
theorem kpc_num {k : Kp} (h : k.ok) : (kpc k)[32]? = some (N k.num) := by simp [kpc, h.c]
theorem kpc_key {k : Kp} (h : k.ok) : ((kpc k).drop 33).take (k.key.map U8).length = k.key.map U8 := by
  rw [kpc, show (33 : Nat) = (k.chain.map U8).length + 1 by simp [h.c], ← List.drop_drop, List.drop_left, List.drop_one, List.tail_cons, List.take_of_length_le (Nat.le_refl _)]
set_option maxHeartbeats 8000000 in
theorem khit_any (k : Kp) (hk : k.ok) (bh : Nat) (h : Hd) (hh : h.chain.length = 32) (w : World) (hw : ∃ o, w.heap[bh]? = some o ∧ Row 62 (hdc h) o) :
    Calls Tryd.prog 93 [.agg (kpc k).toArray, Pt bh 0].toArray w fun e w' => e = .returned (.bool (hitK h k)) ∧ Ext w w' := by
  obtain ⟨o, ho, hA⟩ := hw
  have l1 : (k.chain.map U8).length = 32 := by rw [List.length_map]; exact hk.c
  have l2 : (h.chain.map U8).length = 32 := by rw [List.length_map]; exact hh
  refine enter (n := 16) Tryd.func93 rfl rfl rfl (Holds.seen (S := []) ho hA) ?_
  unfold hitK
  obtain ⟨c2, h2⟩ : ∃ c, decide ((k.num : Int) = (h.num : Int)) = c := ⟨_, rfl⟩
  have h2' : decide (k.num = h.num) = c2 := by rw [← h2]; exact decide_eq_decide.2 ⟨fun e => by rw [e], fun e => by omega⟩
  rw [h2']
  refine JC.seq (JC.region (JL.box (r := kpc k) rfl rfl rfl fun b1 _ => ?_))
  by_cases h1 : k.chain = h.chain
  · rw [decide_eq_true h1]
    repeat (first | refine JL.q (by first | (apply OQ.load_agg (cs := k.chain.map U8); exact k32a; exact k32s; exact rfl; exact .here; exact l1; exact (Row.cells (kpc_chain hk))) | (apply OQ.load_agg (cs := h.chain.map U8); exact k32a; exact k32s; exact rfl; exact (.there .here); exact l2; exact (Row.cells (hdc_chain hh))) | (apply OQ.eqA_t (r := k.chain) (q := h.chain); exact Tryd.underlying23; exact Tryd.underlying5; exact u8s; exact k32gR; exact rfl; exact rfl; exact hk.c; exact hh; exact h1) | (apply OQ.load; exact intCr; exact rfl; exact .here; exact (Row.cell (kpc_num hk))) | (apply OQ.load; exact intCr; exact rfl; exact (.there .here); exact (Row.cell (hdc_num hh))) | (apply OQ.eqB; exact rfl; exact rfl; exact h2) | (apply OQ.pick_t; exact rfl; exact rfl) | (apply OQ.move; exact rfl) | (apply OQ.assign; exact rfl) | (apply OQ.fld; exact rfl; exact rfl; exact rfl; exact (by decide); exact rfl)) rfl ?_ | refine JC.seq ?_ | refine JC.region ?_ | refine JL.nil ?_ | refine JE.next ?_ | refine JL.gon rfl rfl ?_)
    exact JC.ret (JE.ret1 rfl (RV.tmp rfl) fun w' hw => ⟨rfl, hw.chg⟩)
  · rw [decide_eq_false h1]
    repeat (first | refine JL.q (by first | (apply OQ.load_agg (cs := k.chain.map U8); exact k32a; exact k32s; exact rfl; exact .here; exact l1; exact (Row.cells (kpc_chain hk))) | (apply OQ.load_agg (cs := h.chain.map U8); exact k32a; exact k32s; exact rfl; exact (.there .here); exact l2; exact (Row.cells (hdc_chain hh))) | (apply OQ.eqA_no (r := k.chain) (q := h.chain); exact Tryd.underlying23; exact Tryd.underlying5; exact u8s; exact k32gR; exact rfl; exact rfl; exact hk.c; exact hh; exact h1) | (apply OQ.pick_f; exact rfl; exact rfl) | (apply OQ.move; exact rfl) | (apply OQ.assign; exact rfl) | (apply OQ.fld; exact rfl; exact rfl; exact rfl; exact (by decide); exact rfl)) rfl ?_ | refine JC.seq ?_ | refine JC.region ?_ | refine JL.nil ?_ | refine JE.next ?_ | refine JL.gskip rfl rfl rfl rfl ?_)
    exact JC.ret (JE.ret1 rfl (RV.tmp rfl) fun w' hw => ⟨rfl, hw.chg⟩)
end Go.Proofs.YtbhlcnimjoppeaaDoor

/-
  Of no statement by itself: slices.IndexFunc over kept keys; what the landed ratchet's leaveOut gives.
  Conditions: each theorem's own.
-/
namespace Go.Proofs.YtbhlcnimjoppeaaDoor
set_option maxRecDepth 10000
open Sl Sha Str Crv Rtc
open Dsk (Bk)
theorem SlK.ok.at {w : World} {s : SlK} (h : s.ok w) {i : Nat} (hi : i < s.l.length) : ∃ b j, s.ad = some ⟨b, j, none⟩ ∧ b < w.heap.size ∧ ∀ k u, (kpc (s.l.getD i noK))[k]? = some u → w.cell? ⟨b, j + i * 65 + k, none⟩ = some u := by
  have hl := kpcs_flat h.all
  have h0 : 0 < (kpcs s.l).flatten.length := by omega
  obtain ⟨b, j, e, hc⟩ := h.reads.at h0
  refine ⟨b, j, e, ?_, fun k u hu => ?_⟩
  · obtain ⟨v, hv⟩ : ∃ v, (kpcs s.l).flatten[0]? = some v := ⟨_, List.getElem?_eq_getElem h0⟩
    exact block_lt_of_cell (hc 0 v hv)
  · have hat := chunk_at (i := i) (kpcs_all h.all) (by rw [kpcs_len]; exact hi)
    rw [kpcs_at _ hi] at hat
    rw [← hat, List.getElem?_take] at hu
    split at hu
    · rw [List.getElem?_drop] at hu
      rw [Nat.add_assoc]
      exact hc _ u hu
    · cases hu
theorem SlK.mem {s : SlK} {i : Nat} (hi : i < s.l.length) : s.l.getD i noK ∈ s.l := by
  rw [List.getD_eq_getElem?_getD, List.getElem?_eq_getElem hi]
  exact List.getElem_mem hi
def ixI : Option Nat → Int
  | none => -1
  | some i => (i : Int)
theorem ixK_nil (h : Hd) : ixK h [] = none := rfl
theorem ixK_cons (h : Hd) (k : Kp) (l : List Kp) : ixK h (k :: l) = if hitK h k = true then some 0 else (ixK h l).map (· + 1) := by
  rw [ixK, List.findIdx?_cons]
  rfl
theorem drop_kp {l : List Kp} {i : Nat} (h : i < l.length) : l.drop i = l.getD i noK :: l.drop (i + 1) := by
  rw [List.drop_eq_getElem_cons h, List.getD_eq_getElem?_getD, List.getElem?_eq_getElem h]
  rfl
set_option maxHeartbeats 8000000 in
theorem kix_any (s : SlK) (bh : Nat) (h : Hd) (hh : h.chain.length = 32) (w : World) (hs : s.ok w) (hw : ∃ o, w.heap[bh]? = some o ∧ Row 62 (hdc h) o) (hl : s.l.length < 9223372036854775807) :
    Calls Tryd.prog 92 [s.v, .func (.func 93) #[] [Pt bh 0].toArray].toArray w fun e w' => e = .returned (.int .i64 (ixI (ixK h s.l))) ∧ Ext w w' := by
  obtain ⟨o, ho, hA⟩ := hw
  have hbh := (Array.getElem?_eq_some_iff.1 ho).1
  refine enter (n := 19) Tryd.func92 rfl rfl rfl (Holds.seen (S := []) ho hA) ?_
  repeat (first | refine JL.q (by first | (apply OQ.len (k := s.l.length) (ad := s.ad) (cap := s.cap); exact Tryd.underlying24; exact rfl) | (apply OQ.move; exact rfl) | (apply OQ.assign; exact rfl)) rfl ?_ | refine JC.seq ?_ | refine JC.region ?_ | refine JC.block ?_ | refine JL.nil ?_ | refine JE.next ?_)
  refine JC.loop (fun i : Nat => [(0, s.v), (1, .func (.func 93) #[] [Pt bh 0].toArray), (7, N s.l.length), (8, N i)]) (fun _ => [⟨bh, Row 62 (hdc h), false⟩]) (fun i => s.l.length - i) (fun i => i ≤ s.l.length ∧ ixK h s.l = (ixK h (s.l.drop i)).map (· + i)) 0 ⟨Nat.zero_le _, by rw [List.drop_zero]; cases ixK h s.l <;> rfl⟩ (by repeat (first | exact SubE.nil | refine SubE.cons _ _ _ rfl ?_)) (Less.refl _) ?_
  rintro i ⟨hi, hp⟩
  repeat (first | refine JL.q (by (apply OQ.lssN; exact rfl; exact rfl)) rfl ?_ | refine JC.seq ?_ | refine JC.region ?_ | refine JL.nil ?_ | refine JE.next ?_)
  refine JC.cond rfl (fun hc => ?_) (fun hc => ?_)
  · have hi' : i < s.l.length := of_decide_eq_true (by assumption)
    obtain ⟨ba, ja, eA, la, cA⟩ := hs.at hi'
    have hok := hs.all _ (SlK.mem hi')
    have vA : s.v = .slice (some ⟨ba, ja, none⟩) s.l.length s.cap := by rw [← eA]; rfl
    rw [drop_kp hi', ixK_cons] at hp
    generalize s.l.getD i noK = c at hp cA hok
    rw [vA]
    have hl65 := kpc_len hok
    have hcl := fun (w' : World) (M : List Ent) (hw' : Holds w [] (⟨bh, Row 62 (hdc h), false⟩ :: M) w') => khit_any c hok bh h hh w' (hw'.get .here)
    cases h1 : hitK h c
    · rw [h1] at hp hcl
      repeat (first | refine JL.q (by first | (apply OQ.idxS; exact Tryd.underlying24; exact kpS; exact rfl; exact rfl; exact hi') | (apply OQ.load_agg_old (cs := kpc c); exact kpA; exact rfl; exact (hl65 ▸ kpS); exact la; exact (by simp); exact cA) | (apply OQ.callCl (caps := [Pt bh 0]) (vs := [.agg (kpc c).toArray]); exact goes_khit; exact rfl; exact rfl; exact (fun w' hw' => hcl w' _ hw')) | (apply OQ.move; exact rfl) | (apply OQ.assign; exact rfl)) rfl ?_ | refine JC.seq ?_ | refine JC.region ?_ | refine JC.block ?_ | refine JC.skip ?_ | refine JL.nil ?_ | refine JE.next ?_)
      refine JC.cond_false rfl rfl ?_
      repeat (first | refine JL.q (by first | (apply OQ.move; exact rfl) | (apply OQ.addN; exact rfl; exact rfl; exact (by (try simp only []); omega))) rfl ?_ | refine JC.region ?_ | refine JC.skip ?_ | refine JL.nil ?_ | refine JE.next ?_ | refine JE.blk_normal ?_)
      rw [← vA]
      refine JE.again (i := i) (i + 1) ⟨hi', ?_⟩ (by omega) (by repeat (first | exact SubE.nil | refine SubE.cons _ _ _ rfl ?_)) (Less.refl _)
      rw [hp, if_neg (by decide), Option.map_map]
      congr 1
      funext z
      show z + 1 + i = z + (i + 1)
      omega
    · rw [h1] at hp hcl
      rw [if_pos rfl] at hp
      rw [hp]
      repeat (first | refine JL.q (by first | (apply OQ.idxS; exact Tryd.underlying24; exact kpS; exact rfl; exact rfl; exact hi') | (apply OQ.load_agg_old (cs := kpc c); exact kpA; exact rfl; exact (hl65 ▸ kpS); exact la; exact (by simp); exact cA) | (apply OQ.callCl (caps := [Pt bh 0]) (vs := [.agg (kpc c).toArray]); exact goes_khit; exact rfl; exact rfl; exact (fun w' hw' => hcl w' _ hw')) | (apply OQ.move; exact rfl) | (apply OQ.assign; exact rfl)) rfl ?_ | refine JC.seq ?_ | refine JC.region ?_ | refine JC.block ?_ | refine JC.skip ?_ | refine JL.nil ?_ | refine JE.next ?_)
      refine JC.cond_true rfl rfl ?_
      repeat (first | refine JL.q (by first | (apply OQ.move; exact rfl) | (apply OQ.assign; exact rfl)) rfl ?_ | refine JC.seq ?_ | refine JC.region ?_ | refine JL.nil ?_ | refine JE.next ?_)
      refine JC.ret ?_
      repeat (first | refine JE.then_ret ?_ | refine JE.blk_ret ?_)
      exact JE.ret1 rfl (RV.tmp rfl) fun w' hw => ⟨by rw [show ixI (Option.map (· + i) (some 0)) = ((i : Nat) : Int) by show ((0 + i : Nat) : Int) = _; rw [Nat.zero_add]], hw.chg⟩
  · have hi' : ¬ i < s.l.length := of_decide_eq_false (by assumption)
    rw [List.drop_eq_nil_of_le (by omega), ixK_nil] at hp
    rw [hp]
    repeat (first | refine JL.q (by (apply OQ.assign; exact rfl)) rfl ?_ | refine JC.seq ?_ | refine JC.region ?_ | refine JC.exit ?_ | refine JL.nil ?_ | refine JE.next ?_ | refine JE.then_exit ?_ | refine JE.blk_hit ?_)
    refine JC.ret ?_
    skip
    exact JE.ret1 rfl (RV.tmp rfl) fun w' hw => ⟨rfl, hw.chg⟩
/-- what a call gives that leaves keys out: the code, and where the session is -/
structure LvR (o : Option Ses) where
  q : Acc
  s : Ses
  code : Nat
  ok : s.ok
  nil : q = none → s.kept = []
  is : (o = none ∧ code = 12) ∨ (o = some s ∧ code = 0)
theorem kp_built (c : Bk) (m : Nat) (hc : c.length = 32) : Tryd.prog.built 57 ([0, 1].zip [.agg (c.map U8).toArray, N m]) = some (kpc ⟨c, m, z32⟩).toArray := by
  have h : Tryd.prog.built 57 ([0, 1].zip [.agg (c.map U8).toArray, N m]) = Instr.fill (fun i => #[(0, 32), (32, 1), (33, 32)][i]?) (kpc noK).toArray [(0, .agg (c.map U8).toArray), (1, N m)] := by kernel_rfl
  rw [h, fill_one (off := 0) (sz := 32) (cs := c.map U8) rfl rfl (by simp [hc]) (by simp [kpc, noK]), fill_one (off := 32) (sz := 1) (cs := [N m]) rfl rfl rfl (by simp [kpc, noK, hc])]
  have hp := put3 (a := c.map U8) (b := [N 0]) (c := z32.map U8) (j := 32) (k := 1) [N m] (by simp [hc]) rfl
  exact congrArg (fun l : List Value => some l.toArray) hp
theorem kp_put {c k : Bk} {m : Nat} (hc : c.length = 32) (hk : k.length = 32) : (kpc ⟨c, m, z32⟩).take 33 ++ k.map U8 ++ (kpc ⟨c, m, z32⟩).drop (33 + (k.map U8).length) = kpc ⟨c, m, k⟩ := by
  have := put3 (a := c.map U8 ++ [N m]) (b := z32.map U8) (c := []) (j := 33) (k := 32) (k.map U8) (by simp [hc]) rfl
  rw [List.length_map, hk]
  simpa [kpc, List.append_assoc] using this
theorem lv_step (s : Ses) (i : Nat) : lvS s (i + 1) = { tookN (lvS s i) with kept := (lvS s i).kept ++ [⟨(lvS s i).other, (lvS s i).taken, msB (lvS s i).take⟩] } := by
  show lvS s (i + 1) = { tookN (lvS s i) with kept := (s.kept ++ lvK s.other i s.taken s.take) ++ [⟨s.other, s.taken + i, msB (itr i s.take)⟩] }
  unfold lvS tookN
  rw [itr_succ, lvK_succ, List.append_assoc]
  rfl
theorem kpPre (e : Ent) (A M : List Ent) : ([e] ++ (A ++ [])) ++ M = e :: (A ++ M) := by simp
theorem goes_lvO : Goes Tryd.prog 96 := ⟨_, Tryd.func96, rfl, by kernel_rfl⟩
set_option maxHeartbeats 32000000 in
theorem lvO_any (b : Nat) (q0 : Acc) (s0 : Ses) (hs0 : s0.ok) (hq0 : q0 = none → s0.kept = []) (hk0 : s0.kept.length ≤ 2000) (to : Nat) (hto : to ≤ 2147483647) (ht0 : s0.taken ≤ 2147483648) (w : World) (hT : Tb (keys (seE b q0 s0)) w) (h0 : Holds w (keys (seE b q0 s0)) (seE b q0 s0) w) :
    Calls Tryd.prog 96 [Pt b 0, N to].toArray w fun e w' => ∃ r : LvR (leave s0 to), e = .returned (N r.code) ∧ Holds w (keys (seE b q0 s0)) (seE b r.q r.s) w' := by
  generalize keys (seE b q0 s0) = S at h0 hT ⊢
  have htk : ∀ o, Row 26 (sec s0 (accV q0 s0.kept.length)) o → cellAt o 163 = some (N s0.taken) := Row.cell (sec_taken hs0 _)
  refine enter (n := 67) Tryd.func96 rfl rfl rfl h0 ?_
  unfold seE
  by_cases h1 : to ≤ s0.taken
  · repeat (first | refine JL.q (by first | (apply OQ.load; exact intCr; exact rfl; exact .here; exact htk) | (apply OQ.leqN_t (a := to) (b := s0.taken); exact rfl; exact rfl; exact h1) | (apply OQ.move; exact rfl) | (apply OQ.assign; exact rfl) | (apply OQ.nilc; exact rfl) | (apply OQ.fld; exact rfl; exact rfl; exact rfl; exact (by decide); exact rfl)) rfl ?_ | refine JC.seq ?_ | refine JC.region ?_ | refine JL.nil ?_ | refine JE.next ?_)
    refine JC.cond_true rfl rfl ?_
    repeat (first | refine JL.q (by (apply OQ.assign; exact rfl)) rfl ?_ | refine JC.seq ?_ | refine JC.region ?_ | refine JL.nil ?_ | refine JE.next ?_)
    refine JC.ret ?_
    repeat (refine JE.then_ret ?_)
    exact JE.ret1 rfl (RV.tmp rfl) fun w' hw => ⟨⟨q0, s0, 0, hs0, hq0, .inr ⟨leave_id h1 hk0, rfl⟩⟩, rfl, hw⟩
  repeat (first | refine JL.q (by first | (apply OQ.load; exact intCr; exact rfl; exact .here; exact htk) | (apply OQ.leqN_f (a := to) (b := s0.taken); exact rfl; exact rfl; exact h1) | (apply OQ.move; exact rfl) | (apply OQ.assign; exact rfl) | (apply OQ.nilc; exact rfl) | (apply OQ.fld; exact rfl; exact rfl; exact rfl; exact (by decide); exact rfl)) rfl ?_ | refine JC.seq ?_ | refine JC.region ?_ | refine JL.nil ?_ | refine JE.next ?_)
  refine JC.cond_false rfl rfl ?_
  have hsb : ((BitVec.ofNat 64 to) - (BitVec.ofNat 64 s0.taken) : BitVec 64).toNat = to - s0.taken := by
    rw [BitVec.toNat_sub_of_le (by rw [BitVec.le_def, BitVec.toNat_ofNat, BitVec.toNat_ofNat]; omega), BitVec.toNat_ofNat, BitVec.toNat_ofNat]
    omega
  by_cases h2 : 1000 < to - s0.taken
  · have h3 : decide ((1000 : Int) < ((((BitVec.ofNat 64 to) - (BitVec.ofNat 64 s0.taken) : BitVec 64).toNat : Nat) : Int)) = true := decide_eq_true (by rw [hsb]; omega)
    repeat (first | refine JL.q (by first | (apply OQ.load; exact intCr; exact rfl; exact .here; exact htk) | (apply OQ.convN_64; exact Tryd.underlying3; exact Tryd.underlying102; exact rfl) | (apply OQ.sub64w; exact rfl; exact rfl) | (apply OQ.gtrB (b := 1000); exact rfl; exact rfl; exact h3) | (apply OQ.move; exact rfl) | (apply OQ.nilc; exact rfl) | (apply OQ.fld; exact rfl; exact rfl; exact rfl; exact (by decide); exact rfl)) rfl ?_ | refine JC.seq ?_ | refine JC.region ?_ | refine JC.skip ?_ | refine JL.nil ?_ | refine JE.next ?_)
    refine JC.cond_true rfl rfl ?_
    repeat (first | refine JL.q (by (apply OQ.assign; exact rfl)) rfl ?_ | refine JC.seq ?_ | refine JC.region ?_ | refine JL.nil ?_ | refine JE.next ?_)
    refine JC.ret ?_
    repeat (refine JE.then_ret ?_)
    exact JE.ret1 rfl (RV.tmp rfl) fun w' hw => ⟨⟨q0, s0, 12, hs0, hq0, .inl ⟨leave_none h2, rfl⟩⟩, rfl, hw⟩
  have h3 : decide ((1000 : Int) < ((((BitVec.ofNat 64 to) - (BitVec.ofNat 64 s0.taken) : BitVec 64).toNat : Nat) : Int)) = false := decide_eq_false (by rw [hsb]; omega)
  repeat (first | refine JL.q (by first | (apply OQ.load; exact intCr; exact rfl; exact .here; exact htk) | (apply OQ.convN_64; exact Tryd.underlying3; exact Tryd.underlying102; exact rfl) | (apply OQ.sub64w; exact rfl; exact rfl) | (apply OQ.gtrB (b := 1000); exact rfl; exact rfl; exact h3) | (apply OQ.move; exact rfl) | (apply OQ.nilc; exact rfl) | (apply OQ.fld; exact rfl; exact rfl; exact rfl; exact (by decide); exact rfl)) rfl ?_ | refine JC.seq ?_ | refine JC.region ?_ | refine JC.skip ?_ | refine JL.nil ?_ | refine JE.next ?_)
  refine JC.cond_false rfl rfl ?_
  repeat (first | refine JC.seq ?_ | refine JC.block ?_ | refine JC.skip ?_ | refine JE.next ?_)
  obtain ⟨k0, hk0e⟩ : ∃ k, to - s0.taken = k := ⟨_, rfl⟩
  refine JC.loop (fun z : Nat × Acc => [(0, Pt b 0), (1, N to)]) (fun z => ⟨b, Row 26 (sec (lvS s0 z.1) (accV z.2 (lvS s0 z.1).kept.length)), true⟩ :: kpE z.2 (lvS s0 z.1).kept) (fun z => k0 - z.1) (fun z => z.1 ≤ k0 ∧ (z.2 = none → (lvS s0 z.1).kept = [])) (0, q0) ⟨Nat.zero_le _, by rw [lvS_zero]; exact hq0⟩ (by repeat (first | exact SubE.nil | refine SubE.cons _ _ _ rfl ?_)) (by dsimp only; rw [lvS_zero]; exact Less.refl _) ?_
  rintro ⟨i, q⟩ ⟨hi, hq⟩
  dsimp only at hi hq ⊢
  have hs := lvS_ok hs0 i
  have hst := lv_step s0 i
  have htn : (lvS s0 i).taken = s0.taken + i := rfl
  have hot : (lvS s0 i).other = s0.other := rfl
  have hkl : (lvS s0 i).kept.length = s0.kept.length + i := by show (s0.kept ++ lvK _ i _ _).length = _; rw [List.length_append, lvK_len]
  obtain ⟨s, hse⟩ : ∃ s, lvS s0 i = s := ⟨_, rfl⟩
  rw [hse] at hs hst htn hot hkl hq ⊢
  have htk : ∀ o, Row 26 (sec s (accV q s.kept.length)) o → cellAt o 163 = some (N s.taken) := Row.cell (sec_taken hs _)
  repeat (first | refine JL.q (by first | (apply OQ.load; exact intCr; exact rfl; exact .here; exact htk) | (apply OQ.move; exact rfl) | (apply OQ.nilc; exact rfl) | (apply OQ.lssN; exact rfl; exact rfl) | (apply OQ.fld; exact rfl; exact rfl; exact rfl; exact (by decide); exact rfl)) rfl ?_ | refine JC.seq ?_ | refine JC.region ?_ | refine JL.nil ?_ | refine JE.next ?_)
  refine JC.cond rfl (fun hc => ?_) (fun hc => ?_)
  · have hi' : s.taken < to := of_decide_eq_true hc
    clear hc
    have hlo : (s.other.map U8).length = 32 := by rw [List.length_map]; exact hs.other
    have hkb := kp_built s.other s.taken hs.other
    have hko : (⟨s.other, s.taken, z32⟩ : Kp).ok := ⟨hs.other, rfl⟩
    have hkl65 := kpc_len hko
    repeat (first | refine JC.seq ?_ | refine JC.block ?_ | refine JC.skip ?_ | refine JE.next ?_)
    let vs : Nat → Nat → Value := fun j y => match j with
      | 0 => Pt b 0
      | 1 => Pt b 0
      | 2 => Pt b 64
      | 3 => .agg (s.other.map U8).toArray
      | 4 => Pt b 0
      | 5 => Pt b 0
      | 6 => Pt b 163
      | 7 => N s.taken
      | 8 => .agg (kpc ⟨s.other, s.taken, z32⟩).toArray
      | 9 => Pt y 0
      | _ => N 0
    let Ms : Nat → Nat → List Ent := fun j y => match j with
      | 9 => [⟨y, Row 57 (kpc noK), true⟩]
      | 10 => [⟨y, Row 57 (kpc ⟨s.other, s.taken, z32⟩), true⟩]
      | 11 => [⟨b, Row 26 (sec s (accV q s.kept.length)), true⟩]
      | 12 => kpE q s.kept
      | _ => []
    refine JC.grow (g := ⟨[(0, Pt b 0), (1, N to)], 13, vs, Ms, (fun j => match j with | 1 => [(0, 28)] | 2 => [(1, 29)] | 3 => [(2, 30)] | 5 => [(4, 32)] | 6 => [(5, 33)] | 7 => [(6, 34)] | 8 => [(3, 31), (7, 35)] | 10 => [(9, 5), (8, 36)] | _ => []), (fun j => match j with | 3 => [11] | 7 => [11] | 10 => [9] | _ => []), (fun j => match j with | 10 => [9] | _ => []), (fun j => match j with | 10 => some 9 | _ => none)⟩) [(9, 5)] [11, 12, 10] mixT (by repeat (first | exact SubE.nil | refine SubE.cons _ _ _ rfl ?_)) ?_ (by kernel_rfl) (by kernel_rfl) (by kernel_rfl) ?_ ?_
    · show Less ([_] ++ (kpE q s.kept ++ [])) _; rw [List.append_nil]; exact Less.refl _
    · refine ⟨?_, ?_, ?_, ?_, ?_, ?_, ?_, ?_, ?_, ?_, ?_, trivial⟩
      · (intro xx EF MF Q kk; (try refine JL.gon rfl rfl ?_); exact JL.q (OQ.move rfl) rfl (JL.nil (kk default nofun)))
      · (intro xx EF MF Q kk; (try refine JL.gon rfl rfl ?_); exact JL.q (OQ.nilc rfl) rfl (JL.nil (kk default nofun)))
      · (intro xx EF MF Q kk; (try refine JL.gon rfl rfl ?_); exact JL.q (OQ.fld rfl rfl rfl (by decide) rfl) rfl (JL.nil (kk default nofun)))
      · (intro xx EF MF Q kk; (try refine JL.gon rfl rfl ?_); exact JL.q (OQ.load_agg (cs := s.other.map U8) k32a k32s rfl .here hlo (Row.cells (sec_other hs _))) rfl (JL.nil (kk default nofun)))
      · (intro xx EF MF Q kk; (try refine JL.gon rfl rfl ?_); exact JL.q (OQ.move rfl) rfl (JL.nil (kk default nofun)))
      · (intro xx EF MF Q kk; (try refine JL.gon rfl rfl ?_); exact JL.q (OQ.nilc rfl) rfl (JL.nil (kk default nofun)))
      · (intro xx EF MF Q kk; (try refine JL.gon rfl rfl ?_); exact JL.q (OQ.fld rfl rfl rfl (by decide) rfl) rfl (JL.nil (kk default nofun)))
      · (intro xx EF MF Q kk; (try refine JL.gon rfl rfl ?_); exact JL.q (OQ.load intCr rfl .here htk) rfl (JL.nil (kk default nofun)))
      · (intro xx EF MF Q kk; (try refine JL.gon rfl rfl ?_); exact JL.q (OQ.buildK [0, 1] [.tmp 31, .tmp 35] rfl rfl hkb) rfl (JL.nil (kk default nofun)))
      · (intro xx EF MF Q kk; exact JL.alloc kpZ rfl fun b9 _ => JL.nil (kk b9 nofun))
      · (intro xx EF MF Q kk; exact JL.store_all (cs := kpc ⟨s.other, s.taken, z32⟩) kpS rfl rfl hkl65 (kpc_one _) .here (kpc_len ⟨rfl, rfl⟩) (JL.nil (kk (xx 9) (fun k h => by cases h; rfl))))
    · intro xx hx
      have e1 := hx 10 9 (by decide) rfl
      show JE _ _ _ _ _ [(5, Pt (xx 9) 0), (0, Pt b 0), (1, N to)] (seE b q s ++ [⟨xx 10, Row 57 (kpc ⟨s.other, s.taken, z32⟩), true⟩])
      rw [e1]
      generalize xx 9 = b5
      clear hx e1 xx vs Ms
      repeat (first | refine JL.q (by (apply OQ.move; exact rfl)) rfl ?_ | refine JC.seq ?_ | refine JC.region ?_ | refine JE.next ?_)
      refine JL.callV (ι := Unit) (vs := [Pt b 0]) (fun _ => .agg ((msB s.take).map U8).toArray) (fun _ => seE b q (tookN s)) goes_nextT rfl rfl (seE_wr _ _ _) (fun _ => seE_wr _ _ _) (fun w' hw' hx' => (nextT_any b q s hs (by omega) w' (hT.own hw' (seE_wr _ _ _)) hx').mono fun e w2 ⟨g1, g2⟩ => ⟨(), g1, g2⟩) fun _ => ?_
      have hsn := tookN_ok hs
      have hlm : ((msB s.take).map U8).length = 32 := rfl
      refine JL.permS (M' := ⟨b5, Row 57 (kpc ⟨s.other, s.taken, z32⟩), true⟩ :: ⟨b, Row 26 (sec (tookN s) (accV q s.kept.length)), true⟩ :: kpE q s.kept) (by exact List.perm_append_comm (l₂ := [_])) ?_
      repeat (refine JL.q (by (apply OQ.fld; exact rfl; exact rfl; exact rfl; exact (by decide); exact rfl)) rfl ?_)
      refine JL.store_part (r := kpc ⟨s.other, s.taken, z32⟩) (r' := kpc ⟨s.other, s.taken, msB s.take⟩) k32s rfl rfl hlm (Y_cell _) .here (by rw [hkl65, hlm]; decide) (kp_put hs.other rfl) ?_
      have hkl66 := kpc_len (k := ⟨s.other, s.taken, msB s.take⟩) ⟨hs.other, rfl⟩
      have hk1 := kpc_one ⟨s.other, s.taken, msB s.take⟩
      have hrr : lvS s0 (i + 1) = { tookN s with kept := s.kept ++ [⟨s.other, s.taken, msB s.take⟩] } := hst
      generalize (⟨s.other, s.taken, msB s.take⟩ : Kp) = kp1 at *
      have hkp : ∀ o, Row 26 (sec (tookN s) (accV q s.kept.length)) o → cellAt o 165 = some (accV q (kpcs s.kept).length) := by rw [kpcs_len]; exact Row.cell (sec_kept hsn _)
      have hset : ∀ v', (sec (tookN s) (accV q s.kept.length)).set 165 v' = sec { tookN s with kept := s.kept ++ [kp1] } v' := fun v' => sec_set_kept hsn _ _ v'
      have hl166 := sec_len hsn (accV q s.kept.length)
      have hqL : q = none → kpcs s.kept = [] := fun e => by rw [hq e]; rfl
      have hLl : (kpcs s.kept).length < 10000 := by rw [kpcs_len]; omega
      repeat (first | refine JL.nil ?_ | refine JE.next ?_)
      let vs : Nat → Nat × Nat → Value := fun j y => match j with
        | 0 => Pt b 0
        | 1 => Pt b 0
        | 2 => Pt b 0
        | 3 => Pt b 165
        | 4 => accV q (kpcs s.kept).length
        | 5 => .agg (kpc kp1).toArray
        | 6 => .slice (some ⟨y.1, 0, none⟩) 1 1
        | 7 => accV (some y) (kpcs s.kept ++ [kpc kp1]).length
        | 8 => Pt b 0
        | 9 => Pt b 165
        | _ => N 0
      let Ms : Nat → Nat × Nat → List Ent := fun j y => match j with
        | 6 => [⟨y.1, Row 57 (kpc kp1), true⟩]
        | 7 => accC 57 65 (some y) (kpcs s.kept ++ [kpc kp1])
        | 10 => [⟨b, Row 26 (sec { tookN s with kept := s.kept ++ [kp1] } (accV (some y) (kpcs s.kept ++ [kpc kp1]).length)), true⟩]
        | 11 => [⟨b5, Row 57 (kpc kp1), true⟩]
        | 12 => [⟨b, Row 26 (sec (tookN s) (accV q s.kept.length)), true⟩]
        | 13 => kpE q s.kept
        | _ => []
      refine JC.grow (g := ⟨[(0, Pt b 0), (1, N to), (5, Pt b5 0)], 14, vs, Ms, (fun j => match j with | 2 => [(1, 41)] | 3 => [(2, 42)] | 4 => [(3, 43)] | 6 => [(5, 45)] | 7 => [(4, 44), (6, 46)] | 8 => [(0, 40)] | 9 => [(8, 48)] | 10 => [(9, 49), (7, 47)] | _ => []), (fun j => match j with | 4 => [12] | 5 => [11] | 7 => [6, 13] | 10 => [12] | _ => []), (fun j => match j with | 7 => [6, 13] | 10 => [12] | _ => []), (fun j => match j with | 10 => some 7 | _ => none)⟩) [] [10, 7] mixT (by repeat (first | exact SubE.nil | refine SubE.cons _ _ _ rfl ?_)) ?_ (by kernel_rfl) (by kernel_rfl) (by kernel_rfl) ?_ ?_
      · show Less ([_] ++ ([_] ++ (kpE q s.kept ++ []))) _; rw [List.append_nil]; exact Less.refl _
      · refine ⟨?_, ?_, ?_, ?_, ?_, ?_, ?_, ?_, ?_, ?_, ?_, trivial⟩
        · (intro xx EF MF Q kk; (try refine JL.gon rfl rfl ?_); exact JL.q (OQ.move rfl) rfl (JL.nil (kk default nofun)))
        · (intro xx EF MF Q kk; (try refine JL.gon rfl rfl ?_); exact JL.q (OQ.move rfl) rfl (JL.nil (kk default nofun)))
        · (intro xx EF MF Q kk; (try refine JL.gon rfl rfl ?_); exact JL.q (OQ.nilc rfl) rfl (JL.nil (kk default nofun)))
        · (intro xx EF MF Q kk; (try refine JL.gon rfl rfl ?_); exact JL.q (OQ.fld rfl rfl rfl (by decide) rfl) rfl (JL.nil (kk default nofun)))
        · (intro xx EF MF Q kk; (try refine JL.gon rfl rfl ?_); exact JL.q (OQ.load slkC rfl .here hkp) rfl (JL.nil (kk default nofun)))
        · (intro xx EF MF Q kk; (try refine JL.gon rfl rfl ?_); exact JL.q (OQ.load_agg (cs := kpc kp1) kpA kpS rfl .here hkl66 Row.all) rfl (JL.nil (kk default nofun)))
        · (intro xx EF MF Q kk; exact JL.litA Tryd.underlying24 kpI rfl (by decide) (by decide) rfl hkl66 rfl fun b9 _ => JL.nil (kk (b9, 0) nofun))
        · (intro xx EF MF Q kk; refine JL.permS (M' := ⟨(xx 6).1, Row 57 (kpc kp1), true⟩ :: (accC 57 65 q (kpcs s.kept) ++ MF)) (List.Perm.of_eq (kpPre _ _ MF)) ?_; exact JL.appendC (z := .agg (kpc noK).toArray) (c := kpc kp1) (L := kpcs s.kept) q Tryd.underlying24 kpI hqL rfl rfl hkl66 (fun v hv => List.all_eq_true.1 hk1 v hv) rfl (by decide) (by omega) (by omega) rfl fun b9 cap9 => JL.nil (kk (b9, cap9) nofun))
        · (intro xx EF MF Q kk; (try refine JL.gon rfl rfl ?_); exact JL.q (OQ.nilc rfl) rfl (JL.nil (kk default nofun)))
        · (intro xx EF MF Q kk; (try refine JL.gon rfl rfl ?_); exact JL.q (OQ.fld rfl rfl rfl (by decide) rfl) rfl (JL.nil (kk default nofun)))
        · (intro xx EF MF Q kk; exact JL.store_eq (r := sec (tookN s) (accV q s.kept.length)) (r' := sec { tookN s with kept := s.kept ++ [kp1] } (accV (some (xx 7)) (kpcs s.kept ++ [kpc kp1]).length)) (v := accV (some (xx 7)) (kpcs s.kept ++ [kpc kp1]).length) slkS rfl rfl (accV_one _ _) (accV_cells _ _) .here (by rw [hl166]; decide) (hset _) (JL.nil (kk (xx 7) (fun k h => by cases h; rfl))))
      · intro xx hx
        have e1 := hx 10 7 (by decide) rfl
        show JE _ _ _ _ _ [(0, Pt b 0), (1, N to), (5, Pt b5 0)] ([⟨b, Row 26 (sec { tookN s with kept := s.kept ++ [kp1] } (accV (some (xx 10)) (kpcs s.kept ++ [kpc kp1]).length)), true⟩] ++ (accC 57 65 (some (xx 7)) (kpcs s.kept ++ [kpc kp1]) ++ []))
        rw [e1, List.append_nil]
        generalize xx 7 = r
        clear hx e1 xx vs Ms
        rw [show kpcs s.kept ++ [kpc kp1] = kpcs (s.kept ++ [kp1]) by simp [kpcs], kpcs_len]
        repeat (refine JE.blk_normal ?_)
        exact JE.again (ι := Nat × Acc) (i := (i, q)) (i + 1, some r) ⟨by dsimp only; omega, nofun⟩ (by dsimp only; omega) (by repeat (first | exact SubE.nil | refine SubE.cons _ _ _ rfl ?_)) (by dsimp only; rw [hrr]; exact Less.refl _)
  · have hi' : i = k0 := by have := of_decide_eq_false hc; omega
    subst hi'
    clear hc
    have hl : leave s0 to = some (trim s) := by rw [leave_some h2, hk0e, hse]
    have hto := trim_ok hs
    have hkp : ∀ o, Row 26 (sec s (accV q s.kept.length)) o → cellAt o 165 = some (accV q s.kept.length) := Row.cell (sec_kept hs _)
    by_cases hm : 2000 < s.kept.length
    · cases q with
      | none => rw [hq rfl] at hm; exact absurd hm (by decide)
      | some r =>
      have hcu : kpE (some r) s.kept = kpE (some (r.1, r.2)) s.kept := rfl
      have htr : trim s = { s with kept := s.kept.take 0 ++ s.kept.drop (s.kept.length - 2000) } := by rw [trim, keep_eq]; rfl
      have hset : ∀ l v', (sec s (accV (some r) s.kept.length)).set 165 v' = sec { s with kept := l } v' := fun l v' => sec_set_kept hs _ _ v'
      have hl166 := sec_len hs (accV (some r) s.kept.length)
      have hdl := fun (w' : World) (hx' : Holds w' [r.1] (kpE (some (r.1, r.2)) s.kept) w') => kdel_any r.1 r.2 s.kept 0 (s.kept.length - 2000) (by omega) (by omega) hs.kept (by omega) w' hx'
      repeat (first | refine JL.q (by first | (apply OQ.load; exact slkC; exact rfl; exact .here; exact hkp) | (apply OQ.lenA (q := some r) (k := s.kept.length); exact Tryd.underlying24; exact nofun; exact rfl) | (apply OQ.subN (a := s.kept.length) (b := 2000); exact rfl; exact rfl; exact (by omega); exact (by omega)) | (apply OQ.gtrN_t (a := s.kept.length - 2000) (b := 0); exact rfl; exact rfl; exact (by omega)) | (apply OQ.move; exact rfl) | (apply OQ.assign; exact rfl) | (apply OQ.nilc; exact rfl) | (apply OQ.fld; exact rfl; exact rfl; exact rfl; exact (by decide); exact rfl)) rfl ?_ | refine JC.seq ?_ | refine JC.region ?_ | refine JC.exit ?_ | refine JL.nil ?_ | refine JE.next ?_ | refine JE.then_exit ?_ | refine JE.blk_hit ?_)
      refine JC.cond_true rfl rfl ?_
      repeat (first | refine JL.q (by first | (apply OQ.load; exact slkC; exact rfl; exact .here; exact hkp) | (apply OQ.move; exact rfl) | (apply OQ.nilc; exact rfl) | (apply OQ.fld; exact rfl; exact rfl; exact rfl; exact (by decide); exact rfl)) rfl ?_ | refine JC.region ?_)
      refine JL.permS (M' := kpE (some r) s.kept ++ [⟨b, Row 26 (sec s (accV (some r) s.kept.length)), true⟩]) (by exact List.perm_append_comm (l₁ := [_])) ?_
      refine JL.callV (ι := Unit) (vs := [.slice (some ⟨r.1, 0, none⟩) s.kept.length r.2, N 0, N (s.kept.length - 2000)]) (fun _ => .slice (some ⟨r.1, 0, none⟩) (s.kept.take 0 ++ s.kept.drop (s.kept.length - 2000)).length r.2) (fun _ => kpE (some (r.1, r.2)) (s.kept.take 0 ++ s.kept.drop (s.kept.length - 2000))) goes_kdel rfl rfl (kpE_wr _ _) (fun _ => kpE_wr _ _) (fun w' hw' hx' => (hdl w' hx').mono fun e w2 ⟨g1, g2⟩ => ⟨(), g1, g2⟩) fun _ => ?_
      generalize s.kept.take 0 ++ s.kept.drop (s.kept.length - 2000) = lk at *
      refine JL.permS (M' := ⟨b, Row 26 (sec s (accV (some r) s.kept.length)), true⟩ :: kpE (some (r.1, r.2)) lk) (by exact List.perm_append_comm (l₂ := [_])) ?_
      repeat (refine JL.q (by first | (apply OQ.nilc; exact rfl) | (apply OQ.fld; exact rfl; exact rfl; exact rfl; exact (by decide); exact rfl)) rfl ?_)
      refine JL.store_eq (r := sec s (accV (some r) s.kept.length)) (r' := sec { s with kept := lk } (accV (some r) lk.length)) (v := accV (some (r.1, r.2)) lk.length) slkS rfl rfl (accV_one _ _) (accV_cells _ _) .here (by rw [hl166]; decide) (hset lk _) ?_
      repeat (first | refine JL.q (by (apply OQ.assign; exact rfl)) rfl ?_ | refine JC.seq ?_ | refine JC.region ?_ | refine JL.nil ?_ | refine JE.next ?_)
      refine JC.ret ?_
      skip
      exact JE.ret1 rfl (RV.tmp rfl) fun w' hw => ⟨⟨some r, { s with kept := lk }, 0, htr ▸ hto, nofun, .inr ⟨by rw [hl, htr], rfl⟩⟩, rfl, hw⟩
    · have htr : trim s = s := trim_id (by omega)
      have hgt : decide ((0 : Int) < ((s.kept.length : Nat) : Int) - (2000 : Int)) = false := decide_eq_false (by omega)
      have hne : q = none → s.kept.length = 0 := fun e => by rw [hq e]; rfl
      repeat (first | refine JL.q (by first | (apply OQ.load; exact slkC; exact rfl; exact .here; exact hkp) | (apply OQ.lenA (q := q) (k := s.kept.length); exact Tryd.underlying24; exact hne; exact rfl) | (apply OQ.subI (a := ((s.kept.length : Nat) : Int)) (b := 2000); exact rfl; exact rfl; exact (by omega); exact (by omega)) | (apply OQ.gtrB (a := ((s.kept.length : Nat) : Int) - (2000 : Int)) (b := 0); exact rfl; exact rfl; exact hgt) | (apply OQ.move; exact rfl) | (apply OQ.assign; exact rfl) | (apply OQ.nilc; exact rfl) | (apply OQ.fld; exact rfl; exact rfl; exact rfl; exact (by decide); exact rfl)) rfl ?_ | refine JC.seq ?_ | refine JC.region ?_ | refine JC.exit ?_ | refine JL.nil ?_ | refine JE.next ?_ | refine JE.then_exit ?_ | refine JE.blk_hit ?_)
      refine JC.cond_false rfl rfl ?_
      repeat (first | refine JL.q (by (apply OQ.assign; exact rfl)) rfl ?_ | refine JC.seq ?_ | refine JC.region ?_ | refine JC.skip ?_ | refine JL.nil ?_ | refine JE.next ?_)
      refine JC.ret ?_
      skip
      exact JE.ret1 rfl (RV.tmp rfl) fun w' hw => ⟨⟨q, s, 0, hs, hq, .inr ⟨by rw [hl, htr], rfl⟩⟩, rfl, hw⟩
end Go.Proofs.YtbhlcnimjoppeaaDoor
