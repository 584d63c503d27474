/-
  Of no statement by itself: the texts CuvD, CuvE, CuvF, CrvS, CuvG, CuvN, RatP, RatQ, Slhn, RatC, Slcv, KdfB, RatM, RatN, Slin, RatD, RatE, RatF, RatG, LinB, RatH, SealC, SealO, RatI, RatJ, RatR in one.
  Conditions: each theorem's own.
-/
import Derived.Test.YtkfeolclllhfpaaDoorRc
import Derived.Laws.Tables
import Derived.Great.FillDense
import Derived.Laws.Cover3
import Derived.Laws.StructEq
set_option linter.unusedSimpArgs false
set_option linter.unusedVariables false
namespace Go.Proofs.YtkfeolclllhfpaaDoor
section
set_option maxRecDepth 10000
open Sl cV
set_option maxHeartbeats 64000000 in
set_option maxRecDepth 4000 in
theorem sw (n : N5) (w : World) : Calls Tryd.prog 77 [.agg (n.l.map ai).toArray].toArray w fun e w'=>e=.returned (.agg ((nT n).l.map ai).toArray)∧Ext w w':=by
  have c_two:=bX n 1 (by decide)
  generalize h_two : iX n 1=two at c_two
  have c_q2:=bX two 2 (by decide)
  generalize h_q2 : iX two 2=q2 at c_q2
  have c_nine:=aK q2 n
  generalize h_nine : bQ q2 n=nine at c_nine
  have c_elv:=aK nine two
  generalize h_elv : bQ nine two=elv at c_elv
  have c_q4:=bX elv 1 (by decide)
  generalize h_q4 : iX elv 1=q4 at c_q4
  have c_o5:=aK q4 nine
  generalize h_o5 : bQ q4 nine=o5 at c_o5
  have c_q5:=bX o5 5 (by decide)
  generalize h_q5 : iX o5 5=q5 at c_q5
  have c_o10:=aK q5 o5
  generalize h_o10 : bQ q5 o5=gm at c_o10
  have c_q6:=bX gm 10 (by decide)
  generalize h_q6 : iX gm 10=q6 at c_q6
  have c_o20:=aK q6 gm
  generalize h_o20 : bQ q6 gm=jn at c_o20
  have c_q7:=bX jn 20 (by decide)
  generalize h_q7 : iX jn 20=q7 at c_q7
  have c_o40:=aK q7 jn
  generalize h_o40 : bQ q7 jn=nS at c_o40
  have c_q8:=bX nS 10 (by decide)
  generalize h_q8 : iX nS 10=q8 at c_q8
  have c_o50:=aK q8 gm
  generalize h_o50 : bQ q8 gm=ir at c_o50
  have c_q9:=bX ir 50 (by decide)
  generalize h_q9 : iX ir 50=q9 at c_q9
  have c_o100:=aK q9 ir
  generalize h_o100 : bQ q9 ir=eH at c_o100
  have c_q10:=bX eH 100 (by decide)
  generalize h_q10 : iX eH 100=q10 at c_q10
  have c_o200:=aK q10 eH
  generalize h_o200 : bQ q10 eH=iu at c_o200
  have c_q11:=bX iu 50 (by decide)
  generalize h_q11 : iX iu 50=q11 at c_q11
  have c_o250:=aK q11 ir
  generalize h_o250 : bQ q11 ir=ki at c_o250
  have c_q12:=bX ki 5 (by decide)
  generalize h_q12 : iX ki 5=q12 at c_q12
  have c_fin:=aK q12 elv
  generalize h_fin : bQ q12 elv=fin at c_fin
  have eI : nT n=fin:=by
    subst h_fin h_q12 h_o250 h_q11 h_o200 h_q10 h_o100 h_q9 h_o50 h_q8 h_o40 h_q7 h_o20 h_q6 h_o10 h_q5 h_o5 h_q4 h_elv h_nine h_q2 h_two
    rfl
  rw [eI]
  clear eI h_two h_q2 h_nine h_elv h_q4 h_o5 h_q5 h_o10 h_q6 h_o20 h_q7 h_o40 h_q8 h_o50 h_q9 h_o100 h_q10 h_o200 h_q11 h_o250 h_q12 h_fin
  refine enter (n:=59) Tryd.func77 rfl rfl rfl (ah.start w []) ?_
  repeat (first | refine JC.seq ?_ | refine JC.region ?_)
  refine JL.box (r:=n.l.map ai) rfl rfl rfl fun b1 _=>?_
  refine JL.alloc iP rfl fun b2 _=>?_
  repeat (first | refine JL.q (by first|(apply OQ.af (cs:=n.l.map ai);exact dh;exact bM;rfl;exact (by repeat (first | exact Has.here | apply Has.there));rfl;exact Row.all)|(apply OQ.an (vs:=[.agg (n.l.map ai).toArray,N 1]);exact bN;rfl;exact (fun w' _=>c_two w'))) rfl ?_ | refine JC.seq ?_ | refine JC.region ?_ | refine JL.nil ?_ | refine JE.next ?_)
  refine JL.alloc iP rfl fun b3 _=>?_
  refine JL.ag (cs:=two.l.map ai) bM rfl rfl rfl (aP _) .here rfl ?_
  repeat (first | refine JC.seq ?_ | refine JL.nil ?_ | refine JE.next ?_)
  let vs : Nat→Nat→Value:=fun j x=>match j with
    | 0=>.agg (two.l.map ai).toArray
    | 1=>.agg (q2.l.map ai).toArray
    | 2=>.agg (n.l.map ai).toArray
    | 3=>.agg (nine.l.map ai).toArray
    | _=>Pt x 0
  let Ms : Nat→Nat→List aJ:=fun j x=>match j with
    | 4=>[⟨x,Row 117 (aX.l.map ai),true⟩]
    | 5=>[⟨x,Row 117 (nine.l.map ai),true⟩]
    | 6=>[⟨b3,Row 117 (two.l.map ai),true⟩]
    | 7=>[⟨b2,Row 117 (aX.l.map ai),true⟩]
    | 8=>[⟨b1,Row 117 (n.l.map ai),true⟩]
    | _=>[]
  refine JC.grow (g:=⟨[(1,Pt b1 0),(2,Pt b2 0),(3,Pt b3 0)],9,vs,Ms,(fun j=>match j with | 1=>[(0,16)] | 3=>[(1,17),(2,18)] | 5=>[(4,4),(3,19)] | _=>[]),(fun j=>match j with | 0=>[6] | 2=>[8] | 5=>[4] | _=>[]),(fun j=>match j with | 5=>[4] | _=>[]),(fun j=>match j with | 5=>some 4 | _=>none)⟩) [(4,4)] [5,6,7,8] eG (by repeat (first | exact aj.nil | refine aj.cons _ _ _ rfl ?_)) (ax.refl _) (by kernel_rfl) (by kernel_rfl) (by kernel_rfl) ?_ ?_
  · refine ⟨?_,?_,?_,?_,?_,?_,trivial⟩
    · (intro x EF MF Q kk;exact JL.q (OQ.af (cs:=two.l.map ai) dh bM rfl .here rfl Row.all) rfl (JL.nil (kk default nofun)))
    · (intro x EF MF Q kk;exact JL.q (OQ.an (vs:=[.agg (two.l.map ai).toArray,N 2]) bN rfl fun w' _=>c_q2 w') rfl (JL.nil (kk default nofun)))
    · (intro x EF MF Q kk;exact JL.q (OQ.af (cs:=n.l.map ai) dh bM rfl .here rfl Row.all) rfl (JL.nil (kk default nofun)))
    · (intro x EF MF Q kk;exact JL.q (OQ.an (vs:=[.agg (q2.l.map ai).toArray,.agg (n.l.map ai).toArray]) aF rfl fun w' _=>c_nine w') rfl (JL.nil (kk default nofun)))
    · (intro x EF MF Q kk;exact JL.alloc iP rfl fun b _=>JL.nil (kk b nofun))
    · (intro x EF MF Q kk;exact JL.ag (cs:=nine.l.map ai) bM rfl rfl rfl (aP _) .here rfl (JL.nil (kk (x 4) (fun k h=>by cases h;rfl))))
  · intro x hx
    have h5:=hx 5 4 (by decide) rfl
    show JE _ _ _ _ _ [(4,Pt (x 4) 0),(1,Pt b1 0),(2,Pt b2 0),(3,Pt b3 0)] [⟨(x 5),Row 117 (nine.l.map ai),true⟩,⟨b3,Row 117 (two.l.map ai),true⟩,⟨b2,Row 117 (aX.l.map ai),true⟩,⟨b1,Row 117 (n.l.map ai),true⟩]
    rw [h5]
    generalize x 4=b4
    clear hx h5 x vs Ms
    repeat (first | refine JC.seq ?_ | refine JC.region ?_ | refine JE.next ?_)
    repeat (refine JL.q (by first|(apply OQ.af (cs:=nine.l.map ai);exact dh;exact bM;rfl;exact (by repeat (first | exact Has.here | apply Has.there));rfl;exact Row.all)|(apply OQ.af (cs:=two.l.map ai);exact dh;exact bM;rfl;exact (by repeat (first | exact Has.here | apply Has.there));rfl;exact Row.all)|(apply OQ.an (vs:=[.agg (nine.l.map ai).toArray,.agg (two.l.map ai).toArray]);exact aF;rfl;exact (fun w' _=>c_elv w'))) rfl ?_)
    refine JL.alloc iP rfl fun b5 _=>?_
    refine JL.ag (cs:=elv.l.map ai) bM rfl rfl rfl (aP _) .here rfl ?_
    repeat (first | refine JC.seq ?_ | refine JL.nil ?_ | refine JE.next ?_)
    let vs : Nat→Nat→Value:=fun j x=>match j with
      | 0=>.agg (elv.l.map ai).toArray
      | 1=>.agg (q4.l.map ai).toArray
      | 2=>.agg (nine.l.map ai).toArray
      | 3=>.agg (o5.l.map ai).toArray
      | _=>Pt x 0
    let Ms : Nat→Nat→List aJ:=fun j x=>match j with
      | 4=>[⟨x,Row 117 (aX.l.map ai),true⟩]
      | 5=>[⟨x,Row 117 (o5.l.map ai),true⟩]
      | 6=>[⟨b5,Row 117 (elv.l.map ai),true⟩]
      | 7=>[⟨b4,Row 117 (nine.l.map ai),true⟩]
      | 8=>[⟨b3,Row 117 (two.l.map ai),true⟩]
      | 9=>[⟨b2,Row 117 (aX.l.map ai),true⟩]
      | 10=>[⟨b1,Row 117 (n.l.map ai),true⟩]
      | _=>[]
    refine JC.grow (g:=⟨[(5,Pt b5 0),(4,Pt b4 0),(1,Pt b1 0),(2,Pt b2 0),(3,Pt b3 0)],11,vs,Ms,(fun j=>match j with | 1=>[(0,23)] | 3=>[(1,24),(2,25)] | 5=>[(4,6),(3,26)] | _=>[]),(fun j=>match j with | 0=>[6] | 2=>[7] | 5=>[4] | _=>[]),(fun j=>match j with | 5=>[4] | _=>[]),(fun j=>match j with | 5=>some 4 | _=>none)⟩) [(4,6)] [5,6,7,8,9,10] eG (by repeat (first | exact aj.nil | refine aj.cons _ _ _ rfl ?_)) (ax.refl _) (by kernel_rfl) (by kernel_rfl) (by kernel_rfl) ?_ ?_
    · refine ⟨?_,?_,?_,?_,?_,?_,trivial⟩
      · (intro x EF MF Q kk;exact JL.q (OQ.af (cs:=elv.l.map ai) dh bM rfl .here rfl Row.all) rfl (JL.nil (kk default nofun)))
      · (intro x EF MF Q kk;exact JL.q (OQ.an (vs:=[.agg (elv.l.map ai).toArray,N 1]) bN rfl fun w' _=>c_q4 w') rfl (JL.nil (kk default nofun)))
      · (intro x EF MF Q kk;exact JL.q (OQ.af (cs:=nine.l.map ai) dh bM rfl .here rfl Row.all) rfl (JL.nil (kk default nofun)))
      · (intro x EF MF Q kk;exact JL.q (OQ.an (vs:=[.agg (q4.l.map ai).toArray,.agg (nine.l.map ai).toArray]) aF rfl fun w' _=>c_o5 w') rfl (JL.nil (kk default nofun)))
      · (intro x EF MF Q kk;exact JL.alloc iP rfl fun b _=>JL.nil (kk b nofun))
      · (intro x EF MF Q kk;exact JL.ag (cs:=o5.l.map ai) bM rfl rfl rfl (aP _) .here rfl (JL.nil (kk (x 4) (fun k h=>by cases h;rfl))))
    · intro x hx
      have h5:=hx 5 4 (by decide) rfl
      show JE _ _ _ _ _ [(6,Pt (x 4) 0),(5,Pt b5 0),(4,Pt b4 0),(1,Pt b1 0),(2,Pt b2 0),(3,Pt b3 0)] [⟨(x 5),Row 117 (o5.l.map ai),true⟩,⟨b5,Row 117 (elv.l.map ai),true⟩,⟨b4,Row 117 (nine.l.map ai),true⟩,⟨b3,Row 117 (two.l.map ai),true⟩,⟨b2,Row 117 (aX.l.map ai),true⟩,⟨b1,Row 117 (n.l.map ai),true⟩]
      rw [h5]
      generalize x 4=b6
      clear hx h5 x vs Ms
      repeat (first | refine JC.seq ?_ | refine JE.next ?_)
      let vs : Nat→Nat→Value:=fun j x=>match j with
        | 0=>.agg (o5.l.map ai).toArray
        | 1=>.agg (q5.l.map ai).toArray
        | 2=>.agg (o5.l.map ai).toArray
        | 3=>.agg (gm.l.map ai).toArray
        | _=>Pt x 0
      let Ms : Nat→Nat→List aJ:=fun j x=>match j with
        | 4=>[⟨x,Row 117 (aX.l.map ai),true⟩]
        | 5=>[⟨x,Row 117 (gm.l.map ai),true⟩]
        | 6=>[⟨b6,Row 117 (o5.l.map ai),true⟩]
        | 7=>[⟨b5,Row 117 (elv.l.map ai),true⟩]
        | 8=>[⟨b4,Row 117 (nine.l.map ai),true⟩]
        | 9=>[⟨b3,Row 117 (two.l.map ai),true⟩]
        | 10=>[⟨b2,Row 117 (aX.l.map ai),true⟩]
        | 11=>[⟨b1,Row 117 (n.l.map ai),true⟩]
        | _=>[]
      refine JC.grow (g:=⟨[(6,Pt b6 0),(5,Pt b5 0),(4,Pt b4 0),(1,Pt b1 0),(2,Pt b2 0),(3,Pt b3 0)],12,vs,Ms,(fun j=>match j with | 1=>[(0,27)] | 3=>[(1,28),(2,29)] | 5=>[(4,7),(3,30)] | _=>[]),(fun j=>match j with | 0=>[6] | 2=>[6] | 5=>[4] | _=>[]),(fun j=>match j with | 5=>[4] | _=>[]),(fun j=>match j with | 5=>some 4 | _=>none)⟩) [(4,7)] [5,6,7,8,9,10,11] eG (by repeat (first | exact aj.nil | refine aj.cons _ _ _ rfl ?_)) (ax.refl _) (by kernel_rfl) (by kernel_rfl) (by kernel_rfl) ?_ ?_
      · refine ⟨?_,?_,?_,?_,?_,?_,trivial⟩
        · (intro x EF MF Q kk;exact JL.q (OQ.af (cs:=o5.l.map ai) dh bM rfl .here rfl Row.all) rfl (JL.nil (kk default nofun)))
        · (intro x EF MF Q kk;exact JL.q (OQ.an (vs:=[.agg (o5.l.map ai).toArray,N 5]) bN rfl fun w' _=>c_q5 w') rfl (JL.nil (kk default nofun)))
        · (intro x EF MF Q kk;exact JL.q (OQ.af (cs:=o5.l.map ai) dh bM rfl .here rfl Row.all) rfl (JL.nil (kk default nofun)))
        · (intro x EF MF Q kk;exact JL.q (OQ.an (vs:=[.agg (q5.l.map ai).toArray,.agg (o5.l.map ai).toArray]) aF rfl fun w' _=>c_o10 w') rfl (JL.nil (kk default nofun)))
        · (intro x EF MF Q kk;exact JL.alloc iP rfl fun b _=>JL.nil (kk b nofun))
        · (intro x EF MF Q kk;exact JL.ag (cs:=gm.l.map ai) bM rfl rfl rfl (aP _) .here rfl (JL.nil (kk (x 4) (fun k h=>by cases h;rfl))))
      · intro x hx
        have h5:=hx 5 4 (by decide) rfl
        show JE _ _ _ _ _ [(7,Pt (x 4) 0),(6,Pt b6 0),(5,Pt b5 0),(4,Pt b4 0),(1,Pt b1 0),(2,Pt b2 0),(3,Pt b3 0)] [⟨(x 5),Row 117 (gm.l.map ai),true⟩,⟨b6,Row 117 (o5.l.map ai),true⟩,⟨b5,Row 117 (elv.l.map ai),true⟩,⟨b4,Row 117 (nine.l.map ai),true⟩,⟨b3,Row 117 (two.l.map ai),true⟩,⟨b2,Row 117 (aX.l.map ai),true⟩,⟨b1,Row 117 (n.l.map ai),true⟩]
        rw [h5]
        generalize x 4=b7
        clear hx h5 x vs Ms
        repeat (first | refine JC.seq ?_ | refine JE.next ?_)
        let vs : Nat→Nat→Value:=fun j x=>match j with
          | 0=>.agg (gm.l.map ai).toArray
          | 1=>.agg (q6.l.map ai).toArray
          | 2=>.agg (gm.l.map ai).toArray
          | 3=>.agg (jn.l.map ai).toArray
          | _=>Pt x 0
        let Ms : Nat→Nat→List aJ:=fun j x=>match j with
          | 4=>[⟨x,Row 117 (aX.l.map ai),true⟩]
          | 5=>[⟨x,Row 117 (jn.l.map ai),true⟩]
          | 6=>[⟨b7,Row 117 (gm.l.map ai),true⟩]
          | 7=>[⟨b6,Row 117 (o5.l.map ai),true⟩]
          | 8=>[⟨b5,Row 117 (elv.l.map ai),true⟩]
          | 9=>[⟨b4,Row 117 (nine.l.map ai),true⟩]
          | 10=>[⟨b3,Row 117 (two.l.map ai),true⟩]
          | 11=>[⟨b2,Row 117 (aX.l.map ai),true⟩]
          | 12=>[⟨b1,Row 117 (n.l.map ai),true⟩]
          | _=>[]
        refine JC.grow (g:=⟨[(7,Pt b7 0),(6,Pt b6 0),(5,Pt b5 0),(4,Pt b4 0),(1,Pt b1 0),(2,Pt b2 0),(3,Pt b3 0)],13,vs,Ms,(fun j=>match j with | 1=>[(0,31)] | 3=>[(1,32),(2,33)] | 5=>[(4,8),(3,34)] | _=>[]),(fun j=>match j with | 0=>[6] | 2=>[6] | 5=>[4] | _=>[]),(fun j=>match j with | 5=>[4] | _=>[]),(fun j=>match j with | 5=>some 4 | _=>none)⟩) [(4,8)] [5,6,7,8,9,10,11,12] eG (by repeat (first | exact aj.nil | refine aj.cons _ _ _ rfl ?_)) (ax.refl _) (by kernel_rfl) (by kernel_rfl) (by kernel_rfl) ?_ ?_
        · refine ⟨?_,?_,?_,?_,?_,?_,trivial⟩
          · (intro x EF MF Q kk;exact JL.q (OQ.af (cs:=gm.l.map ai) dh bM rfl .here rfl Row.all) rfl (JL.nil (kk default nofun)))
          · (intro x EF MF Q kk;exact JL.q (OQ.an (vs:=[.agg (gm.l.map ai).toArray,N 10]) bN rfl fun w' _=>c_q6 w') rfl (JL.nil (kk default nofun)))
          · (intro x EF MF Q kk;exact JL.q (OQ.af (cs:=gm.l.map ai) dh bM rfl .here rfl Row.all) rfl (JL.nil (kk default nofun)))
          · (intro x EF MF Q kk;exact JL.q (OQ.an (vs:=[.agg (q6.l.map ai).toArray,.agg (gm.l.map ai).toArray]) aF rfl fun w' _=>c_o20 w') rfl (JL.nil (kk default nofun)))
          · (intro x EF MF Q kk;exact JL.alloc iP rfl fun b _=>JL.nil (kk b nofun))
          · (intro x EF MF Q kk;exact JL.ag (cs:=jn.l.map ai) bM rfl rfl rfl (aP _) .here rfl (JL.nil (kk (x 4) (fun k h=>by cases h;rfl))))
        · intro x hx
          have h5:=hx 5 4 (by decide) rfl
          show JE _ _ _ _ _ [(8,Pt (x 4) 0),(7,Pt b7 0),(6,Pt b6 0),(5,Pt b5 0),(4,Pt b4 0),(1,Pt b1 0),(2,Pt b2 0),(3,Pt b3 0)] [⟨(x 5),Row 117 (jn.l.map ai),true⟩,⟨b7,Row 117 (gm.l.map ai),true⟩,⟨b6,Row 117 (o5.l.map ai),true⟩,⟨b5,Row 117 (elv.l.map ai),true⟩,⟨b4,Row 117 (nine.l.map ai),true⟩,⟨b3,Row 117 (two.l.map ai),true⟩,⟨b2,Row 117 (aX.l.map ai),true⟩,⟨b1,Row 117 (n.l.map ai),true⟩]
          rw [h5]
          generalize x 4=b8
          clear hx h5 x vs Ms
          repeat (first | refine JC.seq ?_ | refine JE.next ?_)
          let vs : Nat→Nat→Value:=fun j x=>match j with
            | 0=>.agg (jn.l.map ai).toArray
            | 1=>.agg (q7.l.map ai).toArray
            | 2=>.agg (jn.l.map ai).toArray
            | 3=>.agg (nS.l.map ai).toArray
            | _=>Pt x 0
          let Ms : Nat→Nat→List aJ:=fun j x=>match j with
            | 4=>[⟨x,Row 117 (aX.l.map ai),true⟩]
            | 5=>[⟨x,Row 117 (nS.l.map ai),true⟩]
            | 6=>[⟨b8,Row 117 (jn.l.map ai),true⟩]
            | 7=>[⟨b7,Row 117 (gm.l.map ai),true⟩]
            | 8=>[⟨b6,Row 117 (o5.l.map ai),true⟩]
            | 9=>[⟨b5,Row 117 (elv.l.map ai),true⟩]
            | 10=>[⟨b4,Row 117 (nine.l.map ai),true⟩]
            | 11=>[⟨b3,Row 117 (two.l.map ai),true⟩]
            | 12=>[⟨b2,Row 117 (aX.l.map ai),true⟩]
            | 13=>[⟨b1,Row 117 (n.l.map ai),true⟩]
            | _=>[]
          refine JC.grow (g:=⟨[(8,Pt b8 0),(7,Pt b7 0),(6,Pt b6 0),(5,Pt b5 0),(4,Pt b4 0),(1,Pt b1 0),(2,Pt b2 0),(3,Pt b3 0)],14,vs,Ms,(fun j=>match j with | 1=>[(0,35)] | 3=>[(1,36),(2,37)] | 5=>[(4,9),(3,38)] | _=>[]),(fun j=>match j with | 0=>[6] | 2=>[6] | 5=>[4] | _=>[]),(fun j=>match j with | 5=>[4] | _=>[]),(fun j=>match j with | 5=>some 4 | _=>none)⟩) [(4,9)] [5,6,7,8,9,10,11,12,13] eG (by repeat (first | exact aj.nil | refine aj.cons _ _ _ rfl ?_)) (ax.refl _) (by kernel_rfl) (by kernel_rfl) (by kernel_rfl) ?_ ?_
          · refine ⟨?_,?_,?_,?_,?_,?_,trivial⟩
            · (intro x EF MF Q kk;exact JL.q (OQ.af (cs:=jn.l.map ai) dh bM rfl .here rfl Row.all) rfl (JL.nil (kk default nofun)))
            · (intro x EF MF Q kk;exact JL.q (OQ.an (vs:=[.agg (jn.l.map ai).toArray,N 20]) bN rfl fun w' _=>c_q7 w') rfl (JL.nil (kk default nofun)))
            · (intro x EF MF Q kk;exact JL.q (OQ.af (cs:=jn.l.map ai) dh bM rfl .here rfl Row.all) rfl (JL.nil (kk default nofun)))
            · (intro x EF MF Q kk;exact JL.q (OQ.an (vs:=[.agg (q7.l.map ai).toArray,.agg (jn.l.map ai).toArray]) aF rfl fun w' _=>c_o40 w') rfl (JL.nil (kk default nofun)))
            · (intro x EF MF Q kk;exact JL.alloc iP rfl fun b _=>JL.nil (kk b nofun))
            · (intro x EF MF Q kk;exact JL.ag (cs:=nS.l.map ai) bM rfl rfl rfl (aP _) .here rfl (JL.nil (kk (x 4) (fun k h=>by cases h;rfl))))
          · intro x hx
            have h5:=hx 5 4 (by decide) rfl
            show JE _ _ _ _ _ [(9,Pt (x 4) 0),(8,Pt b8 0),(7,Pt b7 0),(6,Pt b6 0),(5,Pt b5 0),(4,Pt b4 0),(1,Pt b1 0),(2,Pt b2 0),(3,Pt b3 0)] [⟨(x 5),Row 117 (nS.l.map ai),true⟩,⟨b8,Row 117 (jn.l.map ai),true⟩,⟨b7,Row 117 (gm.l.map ai),true⟩,⟨b6,Row 117 (o5.l.map ai),true⟩,⟨b5,Row 117 (elv.l.map ai),true⟩,⟨b4,Row 117 (nine.l.map ai),true⟩,⟨b3,Row 117 (two.l.map ai),true⟩,⟨b2,Row 117 (aX.l.map ai),true⟩,⟨b1,Row 117 (n.l.map ai),true⟩]
            rw [h5]
            generalize x 4=b9
            clear hx h5 x vs Ms
            repeat (first | refine JC.seq ?_ | refine JE.next ?_)
            let vs : Nat→Nat→Value:=fun j x=>match j with
              | 0=>.agg (nS.l.map ai).toArray
              | 1=>.agg (q8.l.map ai).toArray
              | 2=>.agg (gm.l.map ai).toArray
              | 3=>.agg (ir.l.map ai).toArray
              | _=>Pt x 0
            let Ms : Nat→Nat→List aJ:=fun j x=>match j with
              | 4=>[⟨x,Row 117 (aX.l.map ai),true⟩]
              | 5=>[⟨x,Row 117 (ir.l.map ai),true⟩]
              | 6=>[⟨b9,Row 117 (nS.l.map ai),true⟩]
              | 7=>[⟨b8,Row 117 (jn.l.map ai),true⟩]
              | 8=>[⟨b7,Row 117 (gm.l.map ai),true⟩]
              | 9=>[⟨b6,Row 117 (o5.l.map ai),true⟩]
              | 10=>[⟨b5,Row 117 (elv.l.map ai),true⟩]
              | 11=>[⟨b4,Row 117 (nine.l.map ai),true⟩]
              | 12=>[⟨b3,Row 117 (two.l.map ai),true⟩]
              | 13=>[⟨b2,Row 117 (aX.l.map ai),true⟩]
              | 14=>[⟨b1,Row 117 (n.l.map ai),true⟩]
              | _=>[]
            refine JC.grow (g:=⟨[(9,Pt b9 0),(8,Pt b8 0),(7,Pt b7 0),(6,Pt b6 0),(5,Pt b5 0),(4,Pt b4 0),(1,Pt b1 0),(2,Pt b2 0),(3,Pt b3 0)],15,vs,Ms,(fun j=>match j with | 1=>[(0,39)] | 3=>[(1,40),(2,41)] | 5=>[(4,10),(3,42)] | _=>[]),(fun j=>match j with | 0=>[6] | 2=>[8] | 5=>[4] | _=>[]),(fun j=>match j with | 5=>[4] | _=>[]),(fun j=>match j with | 5=>some 4 | _=>none)⟩) [(4,10)] [5,6,7,8,9,10,11,12,13,14] eG (by repeat (first | exact aj.nil | refine aj.cons _ _ _ rfl ?_)) (ax.refl _) (by kernel_rfl) (by kernel_rfl) (by kernel_rfl) ?_ ?_
            · refine ⟨?_,?_,?_,?_,?_,?_,trivial⟩
              · (intro x EF MF Q kk;exact JL.q (OQ.af (cs:=nS.l.map ai) dh bM rfl .here rfl Row.all) rfl (JL.nil (kk default nofun)))
              · (intro x EF MF Q kk;exact JL.q (OQ.an (vs:=[.agg (nS.l.map ai).toArray,N 10]) bN rfl fun w' _=>c_q8 w') rfl (JL.nil (kk default nofun)))
              · (intro x EF MF Q kk;exact JL.q (OQ.af (cs:=gm.l.map ai) dh bM rfl .here rfl Row.all) rfl (JL.nil (kk default nofun)))
              · (intro x EF MF Q kk;exact JL.q (OQ.an (vs:=[.agg (q8.l.map ai).toArray,.agg (gm.l.map ai).toArray]) aF rfl fun w' _=>c_o50 w') rfl (JL.nil (kk default nofun)))
              · (intro x EF MF Q kk;exact JL.alloc iP rfl fun b _=>JL.nil (kk b nofun))
              · (intro x EF MF Q kk;exact JL.ag (cs:=ir.l.map ai) bM rfl rfl rfl (aP _) .here rfl (JL.nil (kk (x 4) (fun k h=>by cases h;rfl))))
            · intro x hx
              have h5:=hx 5 4 (by decide) rfl
              show JE _ _ _ _ _ [(10,Pt (x 4) 0),(9,Pt b9 0),(8,Pt b8 0),(7,Pt b7 0),(6,Pt b6 0),(5,Pt b5 0),(4,Pt b4 0),(1,Pt b1 0),(2,Pt b2 0),(3,Pt b3 0)] [⟨(x 5),Row 117 (ir.l.map ai),true⟩,⟨b9,Row 117 (nS.l.map ai),true⟩,⟨b8,Row 117 (jn.l.map ai),true⟩,⟨b7,Row 117 (gm.l.map ai),true⟩,⟨b6,Row 117 (o5.l.map ai),true⟩,⟨b5,Row 117 (elv.l.map ai),true⟩,⟨b4,Row 117 (nine.l.map ai),true⟩,⟨b3,Row 117 (two.l.map ai),true⟩,⟨b2,Row 117 (aX.l.map ai),true⟩,⟨b1,Row 117 (n.l.map ai),true⟩]
              rw [h5]
              generalize x 4=b10
              clear hx h5 x vs Ms
              repeat (first | refine JC.seq ?_ | refine JE.next ?_)
              let vs : Nat→Nat→Value:=fun j x=>match j with
                | 0=>.agg (ir.l.map ai).toArray
                | 1=>.agg (q9.l.map ai).toArray
                | 2=>.agg (ir.l.map ai).toArray
                | 3=>.agg (eH.l.map ai).toArray
                | _=>Pt x 0
              let Ms : Nat→Nat→List aJ:=fun j x=>match j with
                | 4=>[⟨x,Row 117 (aX.l.map ai),true⟩]
                | 5=>[⟨x,Row 117 (eH.l.map ai),true⟩]
                | 6=>[⟨b10,Row 117 (ir.l.map ai),true⟩]
                | 7=>[⟨b9,Row 117 (nS.l.map ai),true⟩]
                | 8=>[⟨b8,Row 117 (jn.l.map ai),true⟩]
                | 9=>[⟨b7,Row 117 (gm.l.map ai),true⟩]
                | 10=>[⟨b6,Row 117 (o5.l.map ai),true⟩]
                | 11=>[⟨b5,Row 117 (elv.l.map ai),true⟩]
                | 12=>[⟨b4,Row 117 (nine.l.map ai),true⟩]
                | 13=>[⟨b3,Row 117 (two.l.map ai),true⟩]
                | 14=>[⟨b2,Row 117 (aX.l.map ai),true⟩]
                | 15=>[⟨b1,Row 117 (n.l.map ai),true⟩]
                | _=>[]
              refine JC.grow (g:=⟨[(10,Pt b10 0),(9,Pt b9 0),(8,Pt b8 0),(7,Pt b7 0),(6,Pt b6 0),(5,Pt b5 0),(4,Pt b4 0),(1,Pt b1 0),(2,Pt b2 0),(3,Pt b3 0)],16,vs,Ms,(fun j=>match j with | 1=>[(0,43)] | 3=>[(1,44),(2,45)] | 5=>[(4,11),(3,46)] | _=>[]),(fun j=>match j with | 0=>[6] | 2=>[6] | 5=>[4] | _=>[]),(fun j=>match j with | 5=>[4] | _=>[]),(fun j=>match j with | 5=>some 4 | _=>none)⟩) [(4,11)] [5,6,7,8,9,10,11,12,13,14,15] eG (by repeat (first | exact aj.nil | refine aj.cons _ _ _ rfl ?_)) (ax.refl _) (by kernel_rfl) (by kernel_rfl) (by kernel_rfl) ?_ ?_
              · refine ⟨?_,?_,?_,?_,?_,?_,trivial⟩
                · (intro x EF MF Q kk;exact JL.q (OQ.af (cs:=ir.l.map ai) dh bM rfl .here rfl Row.all) rfl (JL.nil (kk default nofun)))
                · (intro x EF MF Q kk;exact JL.q (OQ.an (vs:=[.agg (ir.l.map ai).toArray,N 50]) bN rfl fun w' _=>c_q9 w') rfl (JL.nil (kk default nofun)))
                · (intro x EF MF Q kk;exact JL.q (OQ.af (cs:=ir.l.map ai) dh bM rfl .here rfl Row.all) rfl (JL.nil (kk default nofun)))
                · (intro x EF MF Q kk;exact JL.q (OQ.an (vs:=[.agg (q9.l.map ai).toArray,.agg (ir.l.map ai).toArray]) aF rfl fun w' _=>c_o100 w') rfl (JL.nil (kk default nofun)))
                · (intro x EF MF Q kk;exact JL.alloc iP rfl fun b _=>JL.nil (kk b nofun))
                · (intro x EF MF Q kk;exact JL.ag (cs:=eH.l.map ai) bM rfl rfl rfl (aP _) .here rfl (JL.nil (kk (x 4) (fun k h=>by cases h;rfl))))
              · intro x hx
                have h5:=hx 5 4 (by decide) rfl
                show JE _ _ _ _ _ [(11,Pt (x 4) 0),(10,Pt b10 0),(9,Pt b9 0),(8,Pt b8 0),(7,Pt b7 0),(6,Pt b6 0),(5,Pt b5 0),(4,Pt b4 0),(1,Pt b1 0),(2,Pt b2 0),(3,Pt b3 0)] [⟨(x 5),Row 117 (eH.l.map ai),true⟩,⟨b10,Row 117 (ir.l.map ai),true⟩,⟨b9,Row 117 (nS.l.map ai),true⟩,⟨b8,Row 117 (jn.l.map ai),true⟩,⟨b7,Row 117 (gm.l.map ai),true⟩,⟨b6,Row 117 (o5.l.map ai),true⟩,⟨b5,Row 117 (elv.l.map ai),true⟩,⟨b4,Row 117 (nine.l.map ai),true⟩,⟨b3,Row 117 (two.l.map ai),true⟩,⟨b2,Row 117 (aX.l.map ai),true⟩,⟨b1,Row 117 (n.l.map ai),true⟩]
                rw [h5]
                generalize x 4=b11
                clear hx h5 x vs Ms
                repeat (first | refine JC.seq ?_ | refine JE.next ?_)
                let vs : Nat→Nat→Value:=fun j x=>match j with
                  | 0=>.agg (eH.l.map ai).toArray
                  | 1=>.agg (q10.l.map ai).toArray
                  | 2=>.agg (eH.l.map ai).toArray
                  | 3=>.agg (iu.l.map ai).toArray
                  | _=>Pt x 0
                let Ms : Nat→Nat→List aJ:=fun j x=>match j with
                  | 4=>[⟨x,Row 117 (aX.l.map ai),true⟩]
                  | 5=>[⟨x,Row 117 (iu.l.map ai),true⟩]
                  | 6=>[⟨b11,Row 117 (eH.l.map ai),true⟩]
                  | 7=>[⟨b10,Row 117 (ir.l.map ai),true⟩]
                  | 8=>[⟨b9,Row 117 (nS.l.map ai),true⟩]
                  | 9=>[⟨b8,Row 117 (jn.l.map ai),true⟩]
                  | 10=>[⟨b7,Row 117 (gm.l.map ai),true⟩]
                  | 11=>[⟨b6,Row 117 (o5.l.map ai),true⟩]
                  | 12=>[⟨b5,Row 117 (elv.l.map ai),true⟩]
                  | 13=>[⟨b4,Row 117 (nine.l.map ai),true⟩]
                  | 14=>[⟨b3,Row 117 (two.l.map ai),true⟩]
                  | 15=>[⟨b2,Row 117 (aX.l.map ai),true⟩]
                  | 16=>[⟨b1,Row 117 (n.l.map ai),true⟩]
                  | _=>[]
                refine JC.grow (g:=⟨[(11,Pt b11 0),(10,Pt b10 0),(9,Pt b9 0),(8,Pt b8 0),(7,Pt b7 0),(6,Pt b6 0),(5,Pt b5 0),(4,Pt b4 0),(1,Pt b1 0),(2,Pt b2 0),(3,Pt b3 0)],17,vs,Ms,(fun j=>match j with | 1=>[(0,47)] | 3=>[(1,48),(2,49)] | 5=>[(4,12),(3,50)] | _=>[]),(fun j=>match j with | 0=>[6] | 2=>[6] | 5=>[4] | _=>[]),(fun j=>match j with | 5=>[4] | _=>[]),(fun j=>match j with | 5=>some 4 | _=>none)⟩) [(4,12)] [5,6,7,8,9,10,11,12,13,14,15,16] eG (by repeat (first | exact aj.nil | refine aj.cons _ _ _ rfl ?_)) (ax.refl _) (by kernel_rfl) (by kernel_rfl) (by kernel_rfl) ?_ ?_
                · refine ⟨?_,?_,?_,?_,?_,?_,trivial⟩
                  · (intro x EF MF Q kk;exact JL.q (OQ.af (cs:=eH.l.map ai) dh bM rfl .here rfl Row.all) rfl (JL.nil (kk default nofun)))
                  · (intro x EF MF Q kk;exact JL.q (OQ.an (vs:=[.agg (eH.l.map ai).toArray,N 100]) bN rfl fun w' _=>c_q10 w') rfl (JL.nil (kk default nofun)))
                  · (intro x EF MF Q kk;exact JL.q (OQ.af (cs:=eH.l.map ai) dh bM rfl .here rfl Row.all) rfl (JL.nil (kk default nofun)))
                  · (intro x EF MF Q kk;exact JL.q (OQ.an (vs:=[.agg (q10.l.map ai).toArray,.agg (eH.l.map ai).toArray]) aF rfl fun w' _=>c_o200 w') rfl (JL.nil (kk default nofun)))
                  · (intro x EF MF Q kk;exact JL.alloc iP rfl fun b _=>JL.nil (kk b nofun))
                  · (intro x EF MF Q kk;exact JL.ag (cs:=iu.l.map ai) bM rfl rfl rfl (aP _) .here rfl (JL.nil (kk (x 4) (fun k h=>by cases h;rfl))))
                · intro x hx
                  have h5:=hx 5 4 (by decide) rfl
                  show JE _ _ _ _ _ [(12,Pt (x 4) 0),(11,Pt b11 0),(10,Pt b10 0),(9,Pt b9 0),(8,Pt b8 0),(7,Pt b7 0),(6,Pt b6 0),(5,Pt b5 0),(4,Pt b4 0),(1,Pt b1 0),(2,Pt b2 0),(3,Pt b3 0)] [⟨(x 5),Row 117 (iu.l.map ai),true⟩,⟨b11,Row 117 (eH.l.map ai),true⟩,⟨b10,Row 117 (ir.l.map ai),true⟩,⟨b9,Row 117 (nS.l.map ai),true⟩,⟨b8,Row 117 (jn.l.map ai),true⟩,⟨b7,Row 117 (gm.l.map ai),true⟩,⟨b6,Row 117 (o5.l.map ai),true⟩,⟨b5,Row 117 (elv.l.map ai),true⟩,⟨b4,Row 117 (nine.l.map ai),true⟩,⟨b3,Row 117 (two.l.map ai),true⟩,⟨b2,Row 117 (aX.l.map ai),true⟩,⟨b1,Row 117 (n.l.map ai),true⟩]
                  rw [h5]
                  generalize x 4=b12
                  clear hx h5 x vs Ms
                  repeat (first | refine JC.seq ?_ | refine JE.next ?_)
                  let vs : Nat→Nat→Value:=fun j x=>match j with
                    | 0=>.agg (iu.l.map ai).toArray
                    | 1=>.agg (q11.l.map ai).toArray
                    | 2=>.agg (ir.l.map ai).toArray
                    | 3=>.agg (ki.l.map ai).toArray
                    | _=>Pt x 0
                  let Ms : Nat→Nat→List aJ:=fun j x=>match j with
                    | 4=>[⟨x,Row 117 (aX.l.map ai),true⟩]
                    | 5=>[⟨x,Row 117 (ki.l.map ai),true⟩]
                    | 6=>[⟨b12,Row 117 (iu.l.map ai),true⟩]
                    | 7=>[⟨b11,Row 117 (eH.l.map ai),true⟩]
                    | 8=>[⟨b10,Row 117 (ir.l.map ai),true⟩]
                    | 9=>[⟨b9,Row 117 (nS.l.map ai),true⟩]
                    | 10=>[⟨b8,Row 117 (jn.l.map ai),true⟩]
                    | 11=>[⟨b7,Row 117 (gm.l.map ai),true⟩]
                    | 12=>[⟨b6,Row 117 (o5.l.map ai),true⟩]
                    | 13=>[⟨b5,Row 117 (elv.l.map ai),true⟩]
                    | 14=>[⟨b4,Row 117 (nine.l.map ai),true⟩]
                    | 15=>[⟨b3,Row 117 (two.l.map ai),true⟩]
                    | 16=>[⟨b2,Row 117 (aX.l.map ai),true⟩]
                    | 17=>[⟨b1,Row 117 (n.l.map ai),true⟩]
                    | _=>[]
                  refine JC.grow (g:=⟨[(12,Pt b12 0),(11,Pt b11 0),(10,Pt b10 0),(9,Pt b9 0),(8,Pt b8 0),(7,Pt b7 0),(6,Pt b6 0),(5,Pt b5 0),(4,Pt b4 0),(1,Pt b1 0),(2,Pt b2 0),(3,Pt b3 0)],18,vs,Ms,(fun j=>match j with | 1=>[(0,51)] | 3=>[(1,52),(2,53)] | 5=>[(4,13),(3,54)] | _=>[]),(fun j=>match j with | 0=>[6] | 2=>[8] | 5=>[4] | _=>[]),(fun j=>match j with | 5=>[4] | _=>[]),(fun j=>match j with | 5=>some 4 | _=>none)⟩) [(4,13)] [5,6,7,8,9,10,11,12,13,14,15,16,17] eG (by repeat (first | exact aj.nil | refine aj.cons _ _ _ rfl ?_)) (ax.refl _) (by kernel_rfl) (by kernel_rfl) (by kernel_rfl) ?_ ?_
                  · refine ⟨?_,?_,?_,?_,?_,?_,trivial⟩
                    · (intro x EF MF Q kk;exact JL.q (OQ.af (cs:=iu.l.map ai) dh bM rfl .here rfl Row.all) rfl (JL.nil (kk default nofun)))
                    · (intro x EF MF Q kk;exact JL.q (OQ.an (vs:=[.agg (iu.l.map ai).toArray,N 50]) bN rfl fun w' _=>c_q11 w') rfl (JL.nil (kk default nofun)))
                    · (intro x EF MF Q kk;exact JL.q (OQ.af (cs:=ir.l.map ai) dh bM rfl .here rfl Row.all) rfl (JL.nil (kk default nofun)))
                    · (intro x EF MF Q kk;exact JL.q (OQ.an (vs:=[.agg (q11.l.map ai).toArray,.agg (ir.l.map ai).toArray]) aF rfl fun w' _=>c_o250 w') rfl (JL.nil (kk default nofun)))
                    · (intro x EF MF Q kk;exact JL.alloc iP rfl fun b _=>JL.nil (kk b nofun))
                    · (intro x EF MF Q kk;exact JL.ag (cs:=ki.l.map ai) bM rfl rfl rfl (aP _) .here rfl (JL.nil (kk (x 4) (fun k h=>by cases h;rfl))))
                  · intro x hx
                    have h5:=hx 5 4 (by decide) rfl
                    show JE _ _ _ _ _ [(13,Pt (x 4) 0),(12,Pt b12 0),(11,Pt b11 0),(10,Pt b10 0),(9,Pt b9 0),(8,Pt b8 0),(7,Pt b7 0),(6,Pt b6 0),(5,Pt b5 0),(4,Pt b4 0),(1,Pt b1 0),(2,Pt b2 0),(3,Pt b3 0)] [⟨(x 5),Row 117 (ki.l.map ai),true⟩,⟨b12,Row 117 (iu.l.map ai),true⟩,⟨b11,Row 117 (eH.l.map ai),true⟩,⟨b10,Row 117 (ir.l.map ai),true⟩,⟨b9,Row 117 (nS.l.map ai),true⟩,⟨b8,Row 117 (jn.l.map ai),true⟩,⟨b7,Row 117 (gm.l.map ai),true⟩,⟨b6,Row 117 (o5.l.map ai),true⟩,⟨b5,Row 117 (elv.l.map ai),true⟩,⟨b4,Row 117 (nine.l.map ai),true⟩,⟨b3,Row 117 (two.l.map ai),true⟩,⟨b2,Row 117 (aX.l.map ai),true⟩,⟨b1,Row 117 (n.l.map ai),true⟩]
                    rw [h5]
                    generalize x 4=b13
                    clear hx h5 x vs Ms
                    repeat (first | refine JC.seq ?_ | refine JE.next ?_)
                    refine JC.tail 4 eG (by kernel_rfl) ?_
                    simp only [List.take_succ_cons,List.take_zero,List.drop_succ_cons,List.drop_zero]
                    repeat (first | refine JQ.q (by first|(apply OQ.af (cs:=ki.l.map ai);exact dh;exact bM;rfl;exact (by repeat (first | exact Has.here | apply Has.there));rfl;exact Row.all)|(apply OQ.af (cs:=elv.l.map ai);exact dh;exact bM;rfl;exact (by repeat (first | exact Has.here | apply Has.there));rfl;exact Row.all)|(apply OQ.an (vs:=[.agg (ki.l.map ai).toArray,N 5]);exact bN;rfl;exact (fun w' _=>c_q12 w'))|(apply OQ.an (vs:=[.agg (q12.l.map ai).toArray,.agg (elv.l.map ai).toArray]);exact aF;rfl;exact (fun w' _=>c_fin w'))) rfl ?_ | refine JQ.cH ?_)
                    refine JL.ag (cs:=fin.l.map ai) bM rfl rfl rfl (aP _) (by repeat (first | exact fy.here | apply fy.there)) rfl ?_
                    repeat (first | refine JL.nil ?_ | refine JE.next ?_)
                    refine JC.ret (JE.aM rfl (RV.av dh bM rfl (by repeat (first | exact Has.here | apply Has.there)) rfl Row.all) ?_)
                    exact fun w' hw=>⟨rfl,hw.aH⟩
end
section
set_option maxRecDepth 10000
open Sl cV
theorem zj {l : List cU} {i : Nat} (h : i<l.length) : (l.map ai)[i]?=some (ai (l.getD i 0)):=by
  simp [h]
theorem zk (l : List cU) (i : Nat) (x : cU) : (l.map ai).set i (ai x)=(l.set i x).map ai:=by rw [List.map_set]
theorem uB : aR Tryd.prog 107:=⟨_,Tryd.func107,rfl,by kernel_rfl⟩
theorem wV : aR Tryd.prog 78:=⟨_,Tryd.func78,rfl,by kernel_rfl⟩
theorem jo : aR Tryd.prog 100:=⟨_,Tryd.func100,rfl,by kernel_rfl⟩
theorem iy : aR Tryd.prog 74:=⟨_,Tryd.func74,rfl,by kernel_rfl⟩
set_option maxHeartbeats 16000000 in
theorem wW (n : N5) (w : World) : Calls Tryd.prog 107 [.agg (n.l.map ai).toArray].toArray w fun e w'=>e=.returned (.agg ((qn n).l.map ai).toArray)∧Ext w w':=by
  have eL:=A5 n
  have hll : ∀ c i,(An n.l c i).length=5:=fun c i=>vN n.l c i
  refine enter (n:=36) Tryd.func107 rfl rfl rfl (ah.start w []) ?_
  repeat (first | refine JC.seq ?_ | refine JC.region ?_)
  refine JL.box (r:=n.l.map ai) rfl rfl rfl fun b1 _=>?_
  refine JL.alloc iP rfl fun b2 _=>?_
  repeat (first | refine JL.q (by first|(apply OQ.af (cs:=n.l.map ai);exact dh;exact bM;rfl;exact (.there .here);rfl;exact Row.all)|(apply OQ.move;rfl)|(apply OQ.assign;rfl)) rfl ?_ | refine JC.seq ?_ | refine JC.region ?_ | refine JC.block ?_ | refine JL.nil ?_ | refine JE.next ?_)
  refine JC.loop (fun i : Nat=>[(1,Pt b1 0),(2,Pt b2 0),(3,ai (eZ n.l 19#64 i)),(9,.agg (n.l.map ai).toArray),(10,N i)])
    (fun _=>[⟨b2,Row 117 (aX.l.map ai),true⟩,⟨b1,Row 117 (n.l.map ai),true⟩])
    (fun i=>5 - i) (fun i=>i≤5) 0 (by omega) (by repeat (first | exact aj.nil | refine aj.cons _ _ _ rfl ?_)) (ax.refl _) ?_
  intro i hi
  repeat (first | refine JL.q (by (apply OQ.cF;rfl;rfl)) rfl ?_ | refine JC.seq ?_ | refine JC.region ?_ | refine JL.nil ?_ | refine JE.next ?_)
  refine JC.cond rfl (fun h=>?_) (fun h=>?_)
  · have hi' : i<5:=of_decide_eq_true h
    clear h hi
    have hc : (n.l.map ai)[i]?=some (ai (n.l.getD i 0)):=zj hi'
    have eR : eZ n.l 19#64 (i+1)=(n.l.getD i 0+eZ n.l 19#64 i) >>> 51:=rfl
    generalize n.l.getD i 0=y at hc eR
    repeat (first | refine JL.q (by first|(apply OQ.index;exact Tryd.underlying117;exact sr;exact dU;rfl;rfl;exact hi';exact hc)|(apply OQ.move;rfl)|(apply OQ.assign;rfl)|(apply OQ.gU;rfl;rfl)|(apply OQ.gV;rfl;rfl)|(apply OQ.bH;rfl;rfl;exact (by (try simp only []);omega))) rfl ?_ | refine JC.seq ?_ | refine JC.region ?_ | refine JC.block ?_ | refine JC.skip ?_ | refine JL.nil ?_ | refine JE.next ?_ | refine JE.az ?_)
    refine JE.again (i:=i) (i+1) (by omega) (by omega) ?_ (ax.refl _)
    rw [eR]
    exact (by repeat (first | exact aj.nil | refine aj.cons _ _ _ rfl ?_))
  · have hi' : ¬ i<5:=of_decide_eq_false h
    obtain rfl : i=5:=by omega
    clear h hi hi'
    generalize eZ n.l 19#64 5=ov at eL ⊢
    repeat (first | refine JL.q (by first|(apply OQ.af (cs:=n.l.map ai);exact dh;exact bM;rfl;exact (.there .here);rfl;exact Row.all)|(apply OQ.jR (a:=19#64);rfl;rfl)|(apply OQ.move;rfl)|(apply OQ.assign;rfl)) rfl ?_ | refine JC.seq ?_ | refine JC.region ?_ | refine JC.block ?_ | refine JC.exit ?_ | refine JL.nil ?_ | refine JE.next ?_ | refine JE.aB ?_ | refine JE.aG ?_)
    generalize 19#64 * ov=C at eL ⊢
    refine JC.loop (fun i : Nat=>[(1,Pt b1 0),(2,Pt b2 0),(6,ai (eZ n.l C i)),(20,.agg (n.l.map ai).toArray),(21,N i)])
      (fun i=>[⟨b2,Row 117 (aX.l.map ai),true⟩,⟨b1,Row 117 ((An n.l C i).map ai),true⟩])
      (fun i=>5 - i) (fun i=>i≤5) 0 (by omega) (by repeat (first | exact aj.nil | refine aj.cons _ _ _ rfl ?_)) (ax.refl _) ?_
    intro i hi
    repeat (first | refine JL.q (by (apply OQ.cF;rfl;rfl)) rfl ?_ | refine JC.seq ?_ | refine JC.region ?_ | refine JL.nil ?_ | refine JE.next ?_)
    refine JC.cond rfl (fun h=>?_) (fun h=>?_)
    · have hi' : i<5:=of_decide_eq_true h
      clear h hi
      have hc : (n.l.map ai)[i]?=some (ai (n.l.getD i 0)):=zj hi'
      have eR : eZ n.l C (i+1)=(n.l.getD i 0+eZ n.l C i) >>> 51:=rfl
      have eS : An n.l C (i+1)=(An n.l C i).set i ((n.l.getD i 0+eZ n.l C i) &&& 2251799813685247#64):=rfl
      have hlen:=hll C i
      generalize An n.l C i=X at eS hlen ⊢
      generalize n.l.getD i 0=y at hc eR eS
      repeat (first | refine JL.q (by first|(apply OQ.index;exact Tryd.underlying117;exact sr;exact dU;rfl;rfl;exact hi';exact hc)|(apply OQ.jd (b:=2251799813685247#64);rfl;rfl)|(apply OQ.aW;exact Tryd.underlying117;exact sr;rfl;rfl;exact hi')|(apply OQ.move;rfl)|(apply OQ.assign;rfl)|(apply OQ.gU;rfl;rfl)|(apply OQ.gV;rfl;rfl)) rfl ?_ | refine JC.seq ?_ | refine JC.region ?_ | refine JC.block ?_ | refine JC.skip ?_ | refine JL.nil ?_ | refine JE.next ?_)
      refine JL.aU (r':=(An n.l C (i+1)).map ai) sr rfl rfl rfl rfl (.there .here) (by rw [List.length_map,hlen];exact hi') (by rw [eS];exact zk _ _ _) ?_
      repeat (first | refine JL.q (by first|(apply OQ.move;rfl)|(apply OQ.assign;rfl)|(apply OQ.bH;rfl;rfl;exact (by (try simp only []);omega))) rfl ?_ | refine JC.region ?_ | refine JL.nil ?_ | refine JE.next ?_ | refine JE.az ?_)
      refine JE.again (i:=i) (i+1) (by omega) (by omega) ?_ (ax.refl _)
      rw [eR]
      exact (by repeat (first | exact aj.nil | refine aj.cons _ _ _ rfl ?_))
    · have hi' : ¬ i<5:=of_decide_eq_false h
      obtain rfl : i=5:=by omega
      clear h hi hi'
      rw [eL]
      generalize qn n=X
      repeat (first | refine JL.q (by (apply OQ.af (cs:=X.l.map ai);exact dh;exact bM;rfl;exact (.there .here);rfl;exact Row.all)) rfl ?_ | refine JC.seq ?_ | refine JC.region ?_ | refine JC.exit ?_ | refine JE.next ?_ | refine JE.aB ?_ | refine JE.aG ?_)
      refine JL.ag (cs:=X.l.map ai) bM rfl rfl rfl (aP _) .here rfl ?_
      repeat (first | refine JL.nil ?_ | refine JE.next ?_)
      refine JC.ret (JE.aM rfl (RV.av dh bM rfl .here rfl Row.all) ?_)
      exact fun w' hw=>⟨rfl,hw.aH⟩
theorem Hp : dm Tryd.prog 156=some 4:=by kernel_rfl
theorem Hq : zc Tryd.prog 156=some (([0,0,0,0] : List cU).map ai):=by kernel_rfl
set_option maxHeartbeats 16000000 in
theorem zl (n : N5) (w : World) : Calls Tryd.prog 78 [.agg (n.l.map ai).toArray].toArray w fun e w'=>e=.returned (.agg ((Eb n).map U8).toArray)∧Ext w w':=by
  have cl:=wW n
  have eK : Eb n=vO (si (qn n)) 32:=rfl
  rw [eK]
  clear eK
  generalize qn n=m at cl ⊢
  have c0 : (m.l.map ai)[0]?=some (ai m.a0):=rfl
  have c1 : (m.l.map ai)[1]?=some (ai m.a1):=rfl
  have c2 : (m.l.map ai)[2]?=some (ai m.a2):=rfl
  have c3 : (m.l.map ai)[3]?=some (ai m.a3):=rfl
  have c4 : (m.l.map ai)[4]?=some (ai m.a4):=rfl
  refine enter (n:=52) Tryd.func78 rfl rfl rfl (ah.start w []) ?_
  repeat (first | refine JC.seq ?_ | refine JC.region ?_)
  refine JL.box (r:=n.l.map ai) rfl rfl rfl fun b1 _=>?_
  refine JL.alloc iW rfl fun b2 _=>?_
  repeat (first | refine JL.q (by first|(apply OQ.af (cs:=n.l.map ai);exact dh;exact bM;rfl;exact (.there .here);rfl;exact Row.all)|(apply OQ.an;exact uB;rfl;exact (fun w' _=>cl w'))) rfl ?_ | refine JC.seq ?_ | refine JC.region ?_ | refine JL.nil ?_ | refine JE.next ?_)
  refine JL.ag (cs:=m.l.map ai) bM rfl rfl rfl (aP _) (.there .here) rfl ?_
  repeat (first | refine JL.q (by first|(apply OQ.aW;exact Tryd.underlying117;exact sr;rfl;rfl;exact (by decide))|(apply OQ.load;exact dU;rfl;exact (.there .here);exact (Row.cell c0))|(apply OQ.load;exact dU;rfl;exact (.there .here);exact (Row.cell c1))|(apply OQ.load;exact dU;rfl;exact (.there .here);exact (Row.cell c2))|(apply OQ.load;exact dU;rfl;exact (.there .here);exact (Row.cell c3))|(apply OQ.load;exact dU;rfl;exact (.there .here);exact (Row.cell c4))|(apply OQ.oM;rfl;rfl)|(apply OQ.v9;rfl;rfl)|(apply OQ.gV;rfl;rfl)) rfl ?_ | refine JC.seq ?_ | refine JC.region ?_ | refine JL.nil ?_ | refine JE.next ?_)
  refine JL.q (OQ.pure (v:=.agg ((si m).map ai).toArray) rfl rfl (by kernel_rfl)) rfl ?_
  refine JL.alloc Hq rfl fun b3 _=>?_
  refine JL.ag (cs:=(si m).map ai) Hp rfl rfl rfl (aP _) .here rfl ?_
  have hw4 : (si m).length=4:=rfl
  generalize si m=W at hw4 ⊢
  repeat (first | refine JC.seq ?_ | refine JC.region ?_ | refine JL.nil ?_ | refine JE.next ?_)
  refine JL.alloc iW rfl fun b4 _=>?_
  repeat (first | refine JL.q (by (apply OQ.move;rfl)) rfl ?_ | refine JC.seq ?_ | refine JC.region ?_ | refine JC.block ?_ | refine JL.nil ?_ | refine JE.next ?_)
  refine JC.loop (fun i : Nat=>[(1,Pt b1 0),(2,Pt b2 0),(3,Pt b3 0),(4,Pt b4 0),(36,N i)])
    (fun i=>[⟨b4,Row 23 ((vO W i).map U8),true⟩,⟨b3,Row 156 (W.map ai),true⟩,⟨b2,Row 23 ((List.replicate 32 (0 : By)).map U8),true⟩])
    (fun i=>32 - i) (fun i=>i≤32) 0 (by omega) (by repeat (first | exact aj.nil | refine aj.cons _ _ _ rfl ?_)) (.keep _ _ _ _ _ _ (fun _ h=>h) (.keep _ _ _ _ _ _ (fun _ h=>h) (.keep _ _ _ _ _ _ (fun _ h=>h) (.nil _)))) ?_
  intro i hi
  have hlen:=vP W i
  repeat (first | refine JL.q (by (apply OQ.cF;rfl;rfl)) rfl ?_ | refine JC.seq ?_ | refine JC.region ?_ | refine JL.nil ?_ | refine JE.next ?_)
  refine JC.cond rfl (fun h=>?_) (fun h=>?_)
  · have hi' : i<32:=of_decide_eq_true h
    clear h hi
    have hc:=zj (l:=W) (i:=i / 8) (by omega)
    have eS : vO W (i+1)=(vO W i).set i ((W.getD (i / 8) 0 >>> (i % 8 * 8)).setWidth 8):=rfl
    generalize vO W i=X at eS hlen ⊢
    repeat (first | refine JL.q (by first|(apply OQ.aW;exact Tryd.underlying156;exact sr;rfl;rfl;exact (by (try simp only []);omega))|(apply OQ.load;exact dU;rfl;exact (.there .here);exact (Row.cell hc))|(apply OQ.aW;exact Tryd.underlying23;exact Cf;rfl;rfl;exact hi')|(apply OQ.move;rfl)|(apply OQ.assign;rfl)|(apply OQ.gV;rfl;rfl)|(apply OQ.gN;rfl;rfl;exact (by (try simp only []);omega))|(apply OQ.xG;rfl;rfl;exact (by (try simp only []);omega))|(apply OQ.tg;rfl;rfl;exact (by (try simp only []);omega);exact (by (try simp only []);omega))|(apply OQ.ng;rfl;rfl;rfl)) rfl ?_ | refine JC.seq ?_ | refine JC.region ?_ | refine JC.block ?_ | refine JC.skip ?_ | refine JL.nil ?_ | refine JE.next ?_)
    refine JL.aU (r':=(vO W (i+1)).map U8) Cf rfl rfl rfl rfl .here (by rw [List.length_map,hlen];exact hi') (by rw [eS];exact yR _ _ _) ?_
    repeat (first | refine JL.q (by first|(apply OQ.move;rfl)|(apply OQ.bH;rfl;rfl;exact (by (try simp only []);omega))) rfl ?_ | refine JC.region ?_ | refine JL.nil ?_ | refine JE.next ?_ | refine JE.az ?_)
    exact JE.again (i:=i) (i+1) (by omega) (by omega) (by repeat (first | exact aj.nil | refine aj.cons _ _ _ rfl ?_)) (ax.refl _)
  · have hi' : ¬ i<32:=of_decide_eq_false h
    obtain rfl : i=32:=by omega
    clear h hi hi'
    have hl' : ((vO W 32).map U8).length=32:=by rw [List.length_map,hlen]
    generalize vO W 32=X at hl' ⊢
    repeat (first | refine JL.q (by (apply OQ.af (cs:=X.map U8);exact bB;exact aO;rfl;exact .here;exact hl';exact Row.all)) rfl ?_ | refine JC.seq ?_ | refine JC.region ?_ | refine JC.exit ?_ | refine JE.next ?_ | refine JE.aB ?_ | refine JE.aG ?_)
    refine JL.ag (cs:=X.map U8) aO rfl rfl hl' (cQ _) (.there (.there .here)) (by simp) ?_
    repeat (first | refine JL.nil ?_ | refine JE.next ?_)
    refine JC.ret (JE.aM rfl (RV.av bB aO rfl (.there (.there .here)) hl' Row.all) ?_)
    exact fun w' hw=>⟨rfl,hw.aH⟩
set_option maxHeartbeats 16000000 in
theorem ku (c : Bool) (a b : N5) (w : World) : Calls Tryd.prog 100 [.agg (a.l.map ai).toArray,.agg (b.l.map ai).toArray,U8 (bt c)].toArray w
    fun e w'=>e=.returned (.tuple #[.agg ((if c then b else a).l.map ai).toArray,.agg ((if c then a else b).l.map ai).toArray])∧Ext w w':=by
  have hm:=Bd c
  have hab : a.l.length=b.l.length:=rfl
  have eX : fC c a.l b.l 5=(if c then b else a).l:=by cases c <;> rfl
  have eY : fC c b.l a.l 5=(if c then a else b).l:=by cases c <;> rfl
  have z1 : fC c a.l b.l 0=a.l:=by cases c <;> rfl
  have z2 : fC c b.l a.l 0=b.l:=by cases c <;> rfl
  have lX : ∀ i,(fC c a.l b.l i).length=5:=fun i=>sk c hab i
  have lY : ∀ i,(fC c b.l a.l i).length=5:=fun i=>sk c hab.symm i
  have gX : ∀ i,i<5→((fC c a.l b.l i).map ai)[i]?=some (ai (a.l.getD i 0)):=fun i hi=>by rw [List.getElem?_map,sn c hab hi];rfl
  have gY : ∀ i,i<5→((fC c b.l a.l i).map ai)[i]?=some (ai (b.l.getD i 0)):=fun i hi=>by rw [List.getElem?_map,sn c hab.symm hi];rfl
  have sX : ∀ i,i<5→(fC c a.l b.l i).set i (a.l.getD i 0 ^^^ (wS c &&& (a.l.getD i 0 ^^^ b.l.getD i 0)))=fC c a.l b.l (i+1):=fun i hi=>so c hab hi (zf c _ _)
  have sY : ∀ i,i<5→(fC c b.l a.l i).set i (b.l.getD i 0 ^^^ (wS c &&& (a.l.getD i 0 ^^^ b.l.getD i 0)))=fC c b.l a.l (i+1):=fun i hi=>so c hab.symm hi (Du c _ _)
  generalize (if c then b else a).l=A at eX ⊢
  generalize (if c then a else b).l=B at eY ⊢
  refine enter (n:=41) Tryd.func100 rfl rfl rfl (ah.start w []) ?_
  repeat (first | refine JC.seq ?_ | refine JC.region ?_)
  refine JL.box (r:=a.l.map ai) rfl rfl rfl fun b3 _=>?_
  refine JL.box (r:=b.l.map ai) rfl rfl rfl fun b4 _=>?_
  refine JL.alloc iP rfl fun b6 _=>?_
  refine JL.alloc iP rfl fun b7 _=>?_
  repeat (first | refine JL.q (by first|(apply OQ.nu;rfl;rfl;rfl)|(apply OQ.Es;rfl)|(apply OQ.move;rfl)|(apply OQ.assign;rfl)) rfl ?_ | refine JC.seq ?_ | refine JC.region ?_ | refine JC.block ?_ | refine JL.nil ?_ | refine JE.next ?_)
  rw [hm]
  refine JC.loop (fun i : Nat=>[(3,Pt b3 0),(4,Pt b4 0),(6,Pt b6 0),(7,Pt b7 0),(8,ai (wS c)),(14,N i)])
    (fun i=>[⟨b7,Row 117 (aX.l.map ai),true⟩,⟨b6,Row 117 (aX.l.map ai),true⟩,⟨b4,Row 117 ((fC c b.l a.l i).map ai),true⟩,⟨b3,Row 117 ((fC c a.l b.l i).map ai),true⟩])
    (fun i=>5 - i) (fun i=>i≤5) 0 (by omega) (by repeat (first | exact aj.nil | refine aj.cons _ _ _ rfl ?_)) (.keep _ _ _ _ _ _ (fun _ h=>h) (.keep _ _ _ _ _ _ (fun _ h=>h) (.keep _ _ _ _ _ _ (fun _ h=>by rw [z2];exact h) (.keep _ _ _ _ _ _ (fun _ h=>by rw [z1];exact h) (.nil _))))) ?_
  intro i hi
  repeat (first | refine JL.q (by (apply OQ.cF;rfl;rfl)) rfl ?_ | refine JC.seq ?_ | refine JC.region ?_ | refine JL.nil ?_ | refine JE.next ?_)
  refine JC.cond rfl (fun h=>?_) (fun h=>?_)
  · have hi' : i<5:=of_decide_eq_true h
    clear h hi eX eY z1 z2
    have hX:=gX i hi'
    have hY:=gY i hi'
    have tX:=sX i hi'
    have tY:=sY i hi'
    have kX:=lX i
    have kY:=lY i
    clear gX gY sX sY lX lY
    generalize fC c a.l b.l i=X at hX tX kX ⊢
    generalize fC c b.l a.l i=Y at hY tY kY ⊢
    generalize a.l.getD i 0=x at hX tX tY
    generalize b.l.getD i 0=y at hY tX tY
    repeat (first | refine JL.q (by first|(apply OQ.move;rfl)|(apply OQ.assign;rfl)) rfl ?_ | refine JC.seq ?_ | refine JC.region ?_ | refine JC.block ?_ | refine JC.skip ?_ | refine JL.nil ?_ | refine JE.next ?_)
    refine JC.quiet eG (by kernel_rfl) ?_
    repeat (first | refine JL.q (by first|(apply OQ.aW;exact Tryd.underlying117;exact sr;rfl;rfl;exact hi')|(apply OQ.load;exact dU;rfl;exact (by repeat (first | exact Has.here | apply Has.there));exact (Row.cell hX))|(apply OQ.load;exact dU;rfl;exact (by repeat (first | exact Has.here | apply Has.there));exact (Row.cell hY))|(apply OQ.xS;rfl;rfl)|(apply OQ.jd;rfl;rfl)|(apply OQ.move;rfl)|(apply OQ.assign;rfl)) rfl ?_ | refine JQ.q (by first|(apply OQ.aW;exact Tryd.underlying117;exact sr;rfl;rfl;exact hi')|(apply OQ.load;exact dU;rfl;exact (by repeat (first | exact Has.here | apply Has.there));exact (Row.cell hX))|(apply OQ.load;exact dU;rfl;exact (by repeat (first | exact Has.here | apply Has.there));exact (Row.cell hY))|(apply OQ.xS;rfl;rfl)|(apply OQ.jd;rfl;rfl)|(apply OQ.move;rfl)|(apply OQ.assign;rfl)) rfl ?_ | refine JC.seq ?_ | refine JC.region ?_ | refine JQ.nil ?_ | refine JE.next ?_)
    refine JL.aU (r':=(fC c a.l b.l (i+1)).map ai) sr rfl rfl rfl rfl (by repeat (first | exact fy.here | apply fy.there)) (by rw [List.length_map,kX];exact hi') (by rw [← tX];exact zk _ _ _) ?_
    repeat (first | refine JL.q (by first|(apply OQ.aW;exact Tryd.underlying117;exact sr;rfl;rfl;exact hi')|(apply OQ.load;exact dU;rfl;exact (by repeat (first | exact Has.here | apply Has.there));exact (Row.cell hY))|(apply OQ.xS;rfl;rfl)|(apply OQ.move;rfl)) rfl ?_ | refine JC.region ?_ | refine JL.nil ?_ | refine JE.next ?_)
    refine JL.aU (r':=(fC c b.l a.l (i+1)).map ai) sr rfl rfl rfl rfl (by repeat (first | exact fy.here | apply fy.there)) (by rw [List.length_map,kY];exact hi') (by rw [← tY];exact zk _ _ _) ?_
    repeat (first | refine JL.q (by first|(apply OQ.move;rfl)|(apply OQ.bH;rfl;rfl;exact (by (try simp only []);omega))) rfl ?_ | refine JC.region ?_ | refine JL.nil ?_ | refine JE.next ?_ | refine JE.az ?_)
    exact JE.again (i:=i) (i+1) (by omega) (by omega) (by repeat (first | exact aj.nil | refine aj.cons _ _ _ rfl ?_)) (ax.refl _)
  · have hi' : ¬ i<5:=of_decide_eq_false h
    obtain rfl : i=5:=by omega
    clear h hi hi'
    have hX:=lX 5
    have hY:=lY 5
    clear gX gY sX sY lX lY
    rw [eX] at hX ⊢
    rw [eY] at hY ⊢
    generalize A=X at *
    generalize B=Y at *
    repeat (first | refine JC.seq ?_ | refine JC.exit ?_ | refine JE.next ?_ | refine JE.aB ?_ | refine JE.aG ?_)
    let vs : Nat→Nat→Value:=fun j x=>match j with
      | 0=>.agg (X.map ai).toArray
      | 1=>.agg (Y.map ai).toArray
      | _=>Pt x 0
    let Ms : Nat→Nat→List aJ:=fun j x=>match j with
      | 2=>[⟨b6,Row 117 (X.map ai),true⟩]
      | 3=>[⟨b7,Row 117 (Y.map ai),true⟩]
      | 4=>[⟨b7,Row 117 (aX.l.map ai),true⟩]
      | 5=>[⟨b6,Row 117 (aX.l.map ai),true⟩]
      | 6=>[⟨b4,Row 117 (Y.map ai),true⟩]
      | 7=>[⟨b3,Row 117 (X.map ai),true⟩]
      | _=>[]
    refine JC.grow (g:=⟨[(3,Pt b3 0),(4,Pt b4 0),(6,Pt b6 0),(7,Pt b7 0)],8,vs,Ms,(fun j=>match j with | 2=>[(0,39)] | 3=>[(1,40)] | _=>[]),(fun j=>match j with | 0=>[7] | 1=>[6] | 2=>[5] | 3=>[4] | _=>[]),(fun j=>match j with | 2=>[5] | 3=>[4] | _=>[]),(fun j=>match j with | _=>none)⟩) [] [2,3,6,7] eG (by repeat (first | exact aj.nil | refine aj.cons _ _ _ rfl ?_)) (ax.refl _) (by kernel_rfl) (by kernel_rfl) (by kernel_rfl) ?_ ?_
    · refine ⟨?_,?_,?_,?_,trivial⟩
      · (intro x EF MF Q kk;exact JL.q (OQ.af (cs:=X.map ai) dh bM rfl .here (by rw [List.length_map];exact hX) Row.all) rfl (JL.nil (kk default nofun)))
      · (intro x EF MF Q kk;exact JL.q (OQ.af (cs:=Y.map ai) dh bM rfl .here (by rw [List.length_map];exact hY) Row.all) rfl (JL.nil (kk default nofun)))
      · (intro x EF MF Q kk;exact JL.ag (cs:=X.map ai) bM rfl rfl (by rw [List.length_map];exact hX) (aP _) .here rfl (JL.nil (kk default nofun)))
      · (intro x EF MF Q kk;exact JL.ag (cs:=Y.map ai) bM rfl rfl (by rw [List.length_map];exact hY) (aP _) .here rfl (JL.nil (kk default nofun)))
    · intro x hx
      show JE _ _ _ _ _ [(3,Pt b3 0),(4,Pt b4 0),(6,Pt b6 0),(7,Pt b7 0)] [⟨b6,Row 117 (X.map ai),true⟩,⟨b7,Row 117 (Y.map ai),true⟩,⟨b4,Row 117 (Y.map ai),true⟩,⟨b3,Row 117 (X.map ai),true⟩]
      clear hx x vs Ms
      have kX : (X.map ai).length=5:=by rw [List.length_map];exact hX
      have kY : (Y.map ai).length=5:=by rw [List.length_map];exact hY
      refine JE.next ?_
      refine JC.ret ?_
      refine JE.fQ rfl (RV.av dh bM rfl (by repeat (first | exact Has.here | apply Has.there)) kX Row.all) (RV.av dh bM rfl (by repeat (first | exact Has.here | apply Has.there)) kY Row.all) ?_
      exact fun w' hw=>⟨rfl,hw.aH⟩
end
section
set_option maxRecDepth 10000
open Sl cV
def iz : L5:=⟨aX,aX,aX,aX⟩
theorem sx : dm Tryd.prog 120=some 20:=by kernel_rfl
theorem Bg : ei Tryd.prog 120=true:=by kernel_rfl
theorem DD : zc Tryd.prog 120=some (iz.l.map ai):=by kernel_rfl
theorem qw : aR Tryd.prog 75:=⟨_,Tryd.func75,rfl,by kernel_rfl⟩
set_option maxHeartbeats 16000000 in
theorem jq (c : Bool) (s : L5) (w : World) : Calls Tryd.prog 74 [.agg (s.l.map ai).toArray,U8 (bt c)].toArray w fun e w'=>e=.returned (.agg ((za c s).l.map ai).toArray)∧Ext w w':=by
  obtain ⟨x2,z2,x3,z3⟩:=s
  have cx:=ku c x2 x3
  have cz:=ku c z2 z3
  have e : za c ⟨x2,z2,x3,z3⟩=⟨if c then x3 else x2,if c then z3 else z2,if c then x2 else x3,if c then z2 else z3⟩:=by cases c <;> rfl
  rw [e]
  clear e
  generalize (if c then x3 else x2)=X2 at cx ⊢
  generalize (if c then x2 else x3)=X3 at cx ⊢
  generalize (if c then z3 else z2)=Z2 at cz ⊢
  generalize (if c then z2 else z3)=Z3 at cz ⊢
  refine enter (n:=28) Tryd.func74 rfl rfl rfl (ah.start w []) ?_
  repeat (first | refine JC.seq ?_ | refine JC.region ?_)
  refine JL.box (r:=(x2.l++z2.l++x3.l++z3.l).map ai) rfl rfl rfl fun b2 _=>?_
  refine JL.alloc DD rfl fun b4 _=>?_
  repeat (first | refine JL.q (by first|(apply OQ.af (cs:=x2.l.map ai);exact dh;exact bM;rfl;exact (.there .here);rfl;exact (Row.cells rfl))|(apply OQ.af (cs:=x3.l.map ai);exact dh;exact bM;rfl;exact (.there .here);rfl;exact (Row.cells rfl))|(apply OQ.an (vs:=[.agg (x2.l.map ai).toArray,.agg (x3.l.map ai).toArray,U8 (bt c)]);exact jo;rfl;exact (fun w' _=>cx w'))|(apply OQ.extract;rfl;rfl)|(apply OQ.move;rfl)|(apply OQ.cw;rfl;rfl;rfl;exact (by decide);rfl)) rfl ?_ | refine JC.seq ?_ | refine JC.region ?_ | refine JL.nil ?_ | refine JE.next ?_)
  refine JL.cK (cs:=X2.l.map ai) (r':=(X2.l++z2.l++x3.l++z3.l).map ai) bM rfl rfl rfl (aP _) (.there .here) (Nat.le_of_ble_eq_true rfl) rfl ?_
  repeat (refine JL.q (by (apply OQ.cw;rfl;rfl;rfl;exact (by decide);rfl)) rfl ?_)
  refine JL.cK (cs:=X3.l.map ai) (r':=(X2.l++z2.l++X3.l++z3.l).map ai) bM rfl rfl rfl (aP _) (.there .here) (Nat.le_of_ble_eq_true rfl) rfl ?_
  repeat (first | refine JL.q (by first|(apply OQ.af (cs:=z2.l.map ai);exact dh;exact bM;rfl;exact (.there .here);rfl;exact (Row.cells rfl))|(apply OQ.af (cs:=z3.l.map ai);exact dh;exact bM;rfl;exact (.there .here);rfl;exact (Row.cells rfl))|(apply OQ.an (vs:=[.agg (z2.l.map ai).toArray,.agg (z3.l.map ai).toArray,U8 (bt c)]);exact jo;rfl;exact (fun w' _=>cz w'))|(apply OQ.extract;rfl;rfl)|(apply OQ.move;rfl)|(apply OQ.cw;rfl;rfl;rfl;exact (by decide);rfl)) rfl ?_ | refine JC.seq ?_ | refine JC.region ?_ | refine JL.nil ?_ | refine JE.next ?_)
  refine JL.cK (cs:=Z2.l.map ai) (r':=(X2.l++Z2.l++X3.l++z3.l).map ai) bM rfl rfl rfl (aP _) (.there .here) (Nat.le_of_ble_eq_true rfl) rfl ?_
  repeat (refine JL.q (by (apply OQ.cw;rfl;rfl;rfl;exact (by decide);rfl)) rfl ?_)
  refine JL.cK (cs:=Z3.l.map ai) (r':=(X2.l++Z2.l++X3.l++Z3.l).map ai) bM rfl rfl rfl (aP _) (.there .here) (Nat.le_of_ble_eq_true rfl) rfl ?_
  repeat (first | refine JL.q (by (apply OQ.af (cs:=(X2.l++Z2.l++X3.l++Z3.l).map ai);exact Bg;exact sx;rfl;exact (.there .here);rfl;exact Row.all)) rfl ?_ | refine JC.seq ?_ | refine JC.region ?_ | refine JL.nil ?_ | refine JE.next ?_)
  refine JL.ag (cs:=(X2.l++Z2.l++X3.l++Z3.l).map ai) sx rfl rfl rfl (aP _) .here rfl ?_
  repeat (first | refine JL.nil ?_ | refine JE.next ?_)
  refine JC.ret (JE.aM rfl (RV.av Bg sx rfl .here rfl Row.all) ?_)
  exact fun w' hw=>⟨rfl,hw.aH⟩
set_option maxHeartbeats 64000000 in
set_option maxRecDepth 4000 in
theorem sy (x1 : N5) (s : L5) (w : World) : Calls Tryd.prog 75 [.agg (s.l.map ai).toArray,.agg (x1.l.map ai).toArray].toArray w fun e w'=>e=.returned (.agg ((qp x1 s).l.map ai).toArray)∧Ext w w':=by
  obtain ⟨X2,Z2,X3,Z3⟩:=s
  have c_A:=mW X2 Z2
  generalize h_A : lF X2 Z2=A at c_A
  have c_B:=dY X2 Z2
  generalize h_B : jB X2 Z2=B at c_B
  have c_C:=mW X3 Z3
  generalize h_C : lF X3 Z3=C at c_C
  have c_D:=dY X3 Z3
  generalize h_D : jB X3 Z3=D at c_D
  have c_AA:=aK A A
  generalize h_AA : bQ A A=AA at c_AA
  have c_BB:=aK B B
  generalize h_BB : bQ B B=BB at c_BB
  have c_DA:=aK D A
  generalize h_DA : bQ D A=DA at c_DA
  have c_CB:=aK C B
  generalize h_CB : bQ C B=CB at c_CB
  have c_E:=dY AA BB
  generalize h_E : jB AA BB=E at c_E
  have c_M:=mW DA CB
  generalize h_M : lF DA CB=M at c_M
  have c_S:=dY DA CB
  generalize h_S : jB DA CB=S at c_S
  have c_R1:=aK AA BB
  generalize h_R1 : bQ AA BB=R1 at c_R1
  have c_F:=aK cN E
  generalize h_F : bQ cN E=F at c_F
  have c_G:=mW AA F
  generalize h_G : lF AA F=G at c_G
  have c_R2:=aK E G
  generalize h_R2 : bQ E G=R2 at c_R2
  have c_R3:=aK M M
  generalize h_R3 : bQ M M=R3 at c_R3
  have c_SS:=aK S S
  generalize h_SS : bQ S S=SS at c_SS
  have c_R4:=aK x1 SS
  generalize h_R4 : bQ x1 SS=R4 at c_R4
  have eS : qp x1 ⟨X2,Z2,X3,Z3⟩=⟨R1,R2,R3,R4⟩:=by
    subst h_R4 h_SS h_R3 h_R2 h_G h_F h_R1 h_S h_M h_E h_CB h_DA h_BB h_AA h_D h_C h_B h_A
    rfl
  rw [eS]
  clear eS h_A h_B h_C h_D h_AA h_BB h_DA h_CB h_E h_M h_S h_R1 h_F h_G h_R2 h_R3 h_SS h_R4
  refine enter (n:=76) Tryd.func75 rfl rfl rfl (ah.start w []) ?_
  repeat (first | refine JC.seq ?_ | refine JC.region ?_)
  refine JL.box (r:=(X2.l++Z2.l++X3.l++Z3.l).map ai) rfl rfl rfl fun b2 _=>?_
  refine JL.box (r:=x1.l.map ai) rfl rfl rfl fun b3 _=>?_
  refine JL.alloc DD rfl fun b4 _=>?_
  repeat (first | refine JC.seq ?_ | refine JL.nil ?_ | refine JE.next ?_)
  let vs : Nat→Nat→Value:=fun j x=>match j with
    | 0=>Pt b2 0
    | 1=>.agg (X2.l.map ai).toArray
    | 2=>Pt b2 5
    | 3=>.agg (Z2.l.map ai).toArray
    | 4=>.agg (A.l.map ai).toArray
    | 5=>Pt b2 0
    | 6=>.agg (X2.l.map ai).toArray
    | 7=>Pt b2 5
    | 8=>.agg (Z2.l.map ai).toArray
    | 9=>.agg (B.l.map ai).toArray
    | _=>Pt x 0
  let Ms : Nat→Nat→List aJ:=fun j x=>match j with
    | 10=>[⟨x,Row 117 (aX.l.map ai),true⟩]
    | 11=>[⟨x,Row 117 (aX.l.map ai),true⟩]
    | 12=>[⟨x,Row 117 (A.l.map ai),true⟩]
    | 13=>[⟨x,Row 117 (B.l.map ai),true⟩]
    | 14=>[⟨b4,Row 120 (iz.l.map ai),true⟩]
    | 15=>[⟨b3,Row 117 (x1.l.map ai),true⟩]
    | 16=>[⟨b2,Row 120 ((X2.l++Z2.l++X3.l++Z3.l).map ai),true⟩]
    | _=>[]
  refine JC.grow (g:=⟨[(2,Pt b2 0),(3,Pt b3 0),(4,Pt b4 0)],17,vs,Ms,(fun j=>match j with | 1=>[(0,16)] | 3=>[(2,18)] | 4=>[(1,17),(3,19)] | 6=>[(5,21)] | 8=>[(7,23)] | 9=>[(6,22),(8,24)] | 12=>[(10,5),(4,20)] | 13=>[(11,6),(9,25)] | _=>[]),(fun j=>match j with | 1=>[16] | 3=>[16] | 6=>[16] | 8=>[16] | 12=>[10] | 13=>[11] | _=>[]),(fun j=>match j with | 12=>[10] | 13=>[11] | _=>[]),(fun j=>match j with | 12=>some 10 | 13=>some 11 | _=>none)⟩) [(10,5),(11,6)] [12,13,14,15,16] eG (by repeat (first | exact aj.nil | refine aj.cons _ _ _ rfl ?_)) (ax.refl _) (by kernel_rfl) (by kernel_rfl) (by kernel_rfl) ?_ ?_
  · refine ⟨?_,?_,?_,?_,?_,?_,?_,?_,?_,?_,?_,?_,?_,?_,trivial⟩
    · (intro x EF MF Q kk;exact JL.q (OQ.ru (o:=0) rfl rfl rfl (by decide) rfl rfl) rfl (JL.nil (kk default nofun)))
    · (intro x EF MF Q kk;exact JL.q (OQ.af (cs:=X2.l.map ai) dh bM rfl .here rfl (Row.cells rfl)) rfl (JL.nil (kk default nofun)))
    · (intro x EF MF Q kk;exact JL.q (OQ.ru (o:=5) rfl rfl rfl (by decide) rfl rfl) rfl (JL.nil (kk default nofun)))
    · (intro x EF MF Q kk;exact JL.q (OQ.af (cs:=Z2.l.map ai) dh bM rfl .here rfl (Row.cells rfl)) rfl (JL.nil (kk default nofun)))
    · (intro x EF MF Q kk;exact JL.q (OQ.an (vs:=[.agg (X2.l.map ai).toArray,.agg (Z2.l.map ai).toArray]) ko rfl fun w' _=>c_A w') rfl (JL.nil (kk default nofun)))
    · (intro x EF MF Q kk;exact JL.q (OQ.ru (o:=0) rfl rfl rfl (by decide) rfl rfl) rfl (JL.nil (kk default nofun)))
    · (intro x EF MF Q kk;exact JL.q (OQ.af (cs:=X2.l.map ai) dh bM rfl .here rfl (Row.cells rfl)) rfl (JL.nil (kk default nofun)))
    · (intro x EF MF Q kk;exact JL.q (OQ.ru (o:=5) rfl rfl rfl (by decide) rfl rfl) rfl (JL.nil (kk default nofun)))
    · (intro x EF MF Q kk;exact JL.q (OQ.af (cs:=Z2.l.map ai) dh bM rfl .here rfl (Row.cells rfl)) rfl (JL.nil (kk default nofun)))
    · (intro x EF MF Q kk;exact JL.q (OQ.an (vs:=[.agg (X2.l.map ai).toArray,.agg (Z2.l.map ai).toArray]) dP rfl fun w' _=>c_B w') rfl (JL.nil (kk default nofun)))
    · (intro x EF MF Q kk;exact JL.alloc iP rfl fun b _=>JL.nil (kk b nofun))
    · (intro x EF MF Q kk;exact JL.alloc iP rfl fun b _=>JL.nil (kk b nofun))
    · (intro x EF MF Q kk;exact JL.ag (cs:=A.l.map ai) bM rfl rfl rfl (aP _) .here rfl (JL.nil (kk (x 10) (fun k h=>by cases h;rfl))))
    · (intro x EF MF Q kk;exact JL.ag (cs:=B.l.map ai) bM rfl rfl rfl (aP _) .here rfl (JL.nil (kk (x 11) (fun k h=>by cases h;rfl))))
  · intro x hx
    have h12:=hx 12 10 (by decide) rfl
    have h13:=hx 13 11 (by decide) rfl
    show JE _ _ _ _ _ [(5,Pt (x 10) 0),(6,Pt (x 11) 0),(2,Pt b2 0),(3,Pt b3 0),(4,Pt b4 0)] [⟨(x 12),Row 117 (A.l.map ai),true⟩,⟨(x 13),Row 117 (B.l.map ai),true⟩,⟨b4,Row 120 (iz.l.map ai),true⟩,⟨b3,Row 117 (x1.l.map ai),true⟩,⟨b2,Row 120 ((X2.l++Z2.l++X3.l++Z3.l).map ai),true⟩]
    rw [h12,h13]
    generalize x 10=b5
    generalize x 11=b6
    clear hx h12 h13 x vs Ms
    repeat (first | refine JC.seq ?_ | refine JE.next ?_)
    let vs : Nat→Nat→Value:=fun j x=>match j with
      | 0=>Pt b2 10
      | 1=>.agg (X3.l.map ai).toArray
      | 2=>Pt b2 15
      | 3=>.agg (Z3.l.map ai).toArray
      | 4=>.agg (C.l.map ai).toArray
      | 5=>Pt b2 10
      | 6=>.agg (X3.l.map ai).toArray
      | 7=>Pt b2 15
      | 8=>.agg (Z3.l.map ai).toArray
      | 9=>.agg (D.l.map ai).toArray
      | _=>Pt x 0
    let Ms : Nat→Nat→List aJ:=fun j x=>match j with
      | 10=>[⟨x,Row 117 (aX.l.map ai),true⟩]
      | 11=>[⟨x,Row 117 (aX.l.map ai),true⟩]
      | 12=>[⟨x,Row 117 (C.l.map ai),true⟩]
      | 13=>[⟨x,Row 117 (D.l.map ai),true⟩]
      | 14=>[⟨b5,Row 117 (A.l.map ai),true⟩]
      | 15=>[⟨b6,Row 117 (B.l.map ai),true⟩]
      | 16=>[⟨b4,Row 120 (iz.l.map ai),true⟩]
      | 17=>[⟨b3,Row 117 (x1.l.map ai),true⟩]
      | 18=>[⟨b2,Row 120 ((X2.l++Z2.l++X3.l++Z3.l).map ai),true⟩]
      | _=>[]
    refine JC.grow (g:=⟨[(5,Pt b5 0),(6,Pt b6 0),(2,Pt b2 0),(3,Pt b3 0),(4,Pt b4 0)],19,vs,Ms,(fun j=>match j with | 1=>[(0,26)] | 3=>[(2,28)] | 4=>[(1,27),(3,29)] | 6=>[(5,31)] | 8=>[(7,33)] | 9=>[(6,32),(8,34)] | 12=>[(10,7),(4,30)] | 13=>[(11,8),(9,35)] | _=>[]),(fun j=>match j with | 1=>[18] | 3=>[18] | 6=>[18] | 8=>[18] | 12=>[10] | 13=>[11] | _=>[]),(fun j=>match j with | 12=>[10] | 13=>[11] | _=>[]),(fun j=>match j with | 12=>some 10 | 13=>some 11 | _=>none)⟩) [(10,7),(11,8)] [12,13,14,15,16,17,18] eG (by repeat (first | exact aj.nil | refine aj.cons _ _ _ rfl ?_)) (ax.refl _) (by kernel_rfl) (by kernel_rfl) (by kernel_rfl) ?_ ?_
    · refine ⟨?_,?_,?_,?_,?_,?_,?_,?_,?_,?_,?_,?_,?_,?_,trivial⟩
      · (intro x EF MF Q kk;exact JL.q (OQ.ru (o:=10) rfl rfl rfl (by decide) rfl rfl) rfl (JL.nil (kk default nofun)))
      · (intro x EF MF Q kk;exact JL.q (OQ.af (cs:=X3.l.map ai) dh bM rfl .here rfl (Row.cells rfl)) rfl (JL.nil (kk default nofun)))
      · (intro x EF MF Q kk;exact JL.q (OQ.ru (o:=15) rfl rfl rfl (by decide) rfl rfl) rfl (JL.nil (kk default nofun)))
      · (intro x EF MF Q kk;exact JL.q (OQ.af (cs:=Z3.l.map ai) dh bM rfl .here rfl (Row.cells rfl)) rfl (JL.nil (kk default nofun)))
      · (intro x EF MF Q kk;exact JL.q (OQ.an (vs:=[.agg (X3.l.map ai).toArray,.agg (Z3.l.map ai).toArray]) ko rfl fun w' _=>c_C w') rfl (JL.nil (kk default nofun)))
      · (intro x EF MF Q kk;exact JL.q (OQ.ru (o:=10) rfl rfl rfl (by decide) rfl rfl) rfl (JL.nil (kk default nofun)))
      · (intro x EF MF Q kk;exact JL.q (OQ.af (cs:=X3.l.map ai) dh bM rfl .here rfl (Row.cells rfl)) rfl (JL.nil (kk default nofun)))
      · (intro x EF MF Q kk;exact JL.q (OQ.ru (o:=15) rfl rfl rfl (by decide) rfl rfl) rfl (JL.nil (kk default nofun)))
      · (intro x EF MF Q kk;exact JL.q (OQ.af (cs:=Z3.l.map ai) dh bM rfl .here rfl (Row.cells rfl)) rfl (JL.nil (kk default nofun)))
      · (intro x EF MF Q kk;exact JL.q (OQ.an (vs:=[.agg (X3.l.map ai).toArray,.agg (Z3.l.map ai).toArray]) dP rfl fun w' _=>c_D w') rfl (JL.nil (kk default nofun)))
      · (intro x EF MF Q kk;exact JL.alloc iP rfl fun b _=>JL.nil (kk b nofun))
      · (intro x EF MF Q kk;exact JL.alloc iP rfl fun b _=>JL.nil (kk b nofun))
      · (intro x EF MF Q kk;exact JL.ag (cs:=C.l.map ai) bM rfl rfl rfl (aP _) .here rfl (JL.nil (kk (x 10) (fun k h=>by cases h;rfl))))
      · (intro x EF MF Q kk;exact JL.ag (cs:=D.l.map ai) bM rfl rfl rfl (aP _) .here rfl (JL.nil (kk (x 11) (fun k h=>by cases h;rfl))))
    · intro x hx
      have h12:=hx 12 10 (by decide) rfl
      have h13:=hx 13 11 (by decide) rfl
      show JE _ _ _ _ _ [(7,Pt (x 10) 0),(8,Pt (x 11) 0),(5,Pt b5 0),(6,Pt b6 0),(2,Pt b2 0),(3,Pt b3 0),(4,Pt b4 0)] [⟨(x 12),Row 117 (C.l.map ai),true⟩,⟨(x 13),Row 117 (D.l.map ai),true⟩,⟨b5,Row 117 (A.l.map ai),true⟩,⟨b6,Row 117 (B.l.map ai),true⟩,⟨b4,Row 120 (iz.l.map ai),true⟩,⟨b3,Row 117 (x1.l.map ai),true⟩,⟨b2,Row 120 ((X2.l++Z2.l++X3.l++Z3.l).map ai),true⟩]
      rw [h12,h13]
      generalize x 10=b7
      generalize x 11=b8
      clear hx h12 h13 x vs Ms
      repeat (first | refine JC.seq ?_ | refine JE.next ?_)
      let vs : Nat→Nat→Value:=fun j x=>match j with
        | 0=>.agg (A.l.map ai).toArray
        | 1=>.agg (A.l.map ai).toArray
        | 2=>.agg (AA.l.map ai).toArray
        | 3=>.agg (B.l.map ai).toArray
        | 4=>.agg (B.l.map ai).toArray
        | 5=>.agg (BB.l.map ai).toArray
        | _=>Pt x 0
      let Ms : Nat→Nat→List aJ:=fun j x=>match j with
        | 6=>[⟨x,Row 117 (aX.l.map ai),true⟩]
        | 7=>[⟨x,Row 117 (aX.l.map ai),true⟩]
        | 8=>[⟨x,Row 117 (AA.l.map ai),true⟩]
        | 9=>[⟨x,Row 117 (BB.l.map ai),true⟩]
        | 10=>[⟨b7,Row 117 (C.l.map ai),true⟩]
        | 11=>[⟨b8,Row 117 (D.l.map ai),true⟩]
        | 12=>[⟨b5,Row 117 (A.l.map ai),true⟩]
        | 13=>[⟨b6,Row 117 (B.l.map ai),true⟩]
        | 14=>[⟨b4,Row 120 (iz.l.map ai),true⟩]
        | 15=>[⟨b3,Row 117 (x1.l.map ai),true⟩]
        | 16=>[⟨b2,Row 120 ((X2.l++Z2.l++X3.l++Z3.l).map ai),true⟩]
        | _=>[]
      refine JC.grow (g:=⟨[(7,Pt b7 0),(8,Pt b8 0),(5,Pt b5 0),(6,Pt b6 0),(2,Pt b2 0),(3,Pt b3 0),(4,Pt b4 0)],17,vs,Ms,(fun j=>match j with | 2=>[(0,36),(1,37)] | 5=>[(3,39),(4,40)] | 8=>[(6,9),(2,38)] | 9=>[(7,10),(5,41)] | _=>[]),(fun j=>match j with | 0=>[12] | 1=>[12] | 3=>[13] | 4=>[13] | 8=>[6] | 9=>[7] | _=>[]),(fun j=>match j with | 8=>[6] | 9=>[7] | _=>[]),(fun j=>match j with | 8=>some 6 | 9=>some 7 | _=>none)⟩) [(6,9),(7,10)] [8,9,10,11,12,13,14,15,16] eG (by repeat (first | exact aj.nil | refine aj.cons _ _ _ rfl ?_)) (ax.refl _) (by kernel_rfl) (by kernel_rfl) (by kernel_rfl) ?_ ?_
      · refine ⟨?_,?_,?_,?_,?_,?_,?_,?_,?_,?_,trivial⟩
        · (intro x EF MF Q kk;exact JL.q (OQ.af (cs:=A.l.map ai) dh bM rfl .here rfl Row.all) rfl (JL.nil (kk default nofun)))
        · (intro x EF MF Q kk;exact JL.q (OQ.af (cs:=A.l.map ai) dh bM rfl .here rfl Row.all) rfl (JL.nil (kk default nofun)))
        · (intro x EF MF Q kk;exact JL.q (OQ.an (vs:=[.agg (A.l.map ai).toArray,.agg (A.l.map ai).toArray]) aF rfl fun w' _=>c_AA w') rfl (JL.nil (kk default nofun)))
        · (intro x EF MF Q kk;exact JL.q (OQ.af (cs:=B.l.map ai) dh bM rfl .here rfl Row.all) rfl (JL.nil (kk default nofun)))
        · (intro x EF MF Q kk;exact JL.q (OQ.af (cs:=B.l.map ai) dh bM rfl .here rfl Row.all) rfl (JL.nil (kk default nofun)))
        · (intro x EF MF Q kk;exact JL.q (OQ.an (vs:=[.agg (B.l.map ai).toArray,.agg (B.l.map ai).toArray]) aF rfl fun w' _=>c_BB w') rfl (JL.nil (kk default nofun)))
        · (intro x EF MF Q kk;exact JL.alloc iP rfl fun b _=>JL.nil (kk b nofun))
        · (intro x EF MF Q kk;exact JL.alloc iP rfl fun b _=>JL.nil (kk b nofun))
        · (intro x EF MF Q kk;exact JL.ag (cs:=AA.l.map ai) bM rfl rfl rfl (aP _) .here rfl (JL.nil (kk (x 6) (fun k h=>by cases h;rfl))))
        · (intro x EF MF Q kk;exact JL.ag (cs:=BB.l.map ai) bM rfl rfl rfl (aP _) .here rfl (JL.nil (kk (x 7) (fun k h=>by cases h;rfl))))
      · intro x hx
        have h8:=hx 8 6 (by decide) rfl
        have h9:=hx 9 7 (by decide) rfl
        show JE _ _ _ _ _ [(9,Pt (x 6) 0),(10,Pt (x 7) 0),(7,Pt b7 0),(8,Pt b8 0),(5,Pt b5 0),(6,Pt b6 0),(2,Pt b2 0),(3,Pt b3 0),(4,Pt b4 0)] [⟨(x 8),Row 117 (AA.l.map ai),true⟩,⟨(x 9),Row 117 (BB.l.map ai),true⟩,⟨b7,Row 117 (C.l.map ai),true⟩,⟨b8,Row 117 (D.l.map ai),true⟩,⟨b5,Row 117 (A.l.map ai),true⟩,⟨b6,Row 117 (B.l.map ai),true⟩,⟨b4,Row 120 (iz.l.map ai),true⟩,⟨b3,Row 117 (x1.l.map ai),true⟩,⟨b2,Row 120 ((X2.l++Z2.l++X3.l++Z3.l).map ai),true⟩]
        rw [h8,h9]
        generalize x 6=b9
        generalize x 7=b10
        clear hx h8 h9 x vs Ms
        repeat (first | refine JC.seq ?_ | refine JE.next ?_)
        let vs : Nat→Nat→Value:=fun j x=>match j with
          | 0=>.agg (D.l.map ai).toArray
          | 1=>.agg (A.l.map ai).toArray
          | 2=>.agg (DA.l.map ai).toArray
          | 3=>.agg (C.l.map ai).toArray
          | 4=>.agg (B.l.map ai).toArray
          | 5=>.agg (CB.l.map ai).toArray
          | _=>Pt x 0
        let Ms : Nat→Nat→List aJ:=fun j x=>match j with
          | 6=>[⟨x,Row 117 (aX.l.map ai),true⟩]
          | 7=>[⟨x,Row 117 (aX.l.map ai),true⟩]
          | 8=>[⟨x,Row 117 (DA.l.map ai),true⟩]
          | 9=>[⟨x,Row 117 (CB.l.map ai),true⟩]
          | 10=>[⟨b9,Row 117 (AA.l.map ai),true⟩]
          | 11=>[⟨b10,Row 117 (BB.l.map ai),true⟩]
          | 12=>[⟨b7,Row 117 (C.l.map ai),true⟩]
          | 13=>[⟨b8,Row 117 (D.l.map ai),true⟩]
          | 14=>[⟨b5,Row 117 (A.l.map ai),true⟩]
          | 15=>[⟨b6,Row 117 (B.l.map ai),true⟩]
          | 16=>[⟨b4,Row 120 (iz.l.map ai),true⟩]
          | 17=>[⟨b3,Row 117 (x1.l.map ai),true⟩]
          | 18=>[⟨b2,Row 120 ((X2.l++Z2.l++X3.l++Z3.l).map ai),true⟩]
          | _=>[]
        refine JC.grow (g:=⟨[(9,Pt b9 0),(10,Pt b10 0),(7,Pt b7 0),(8,Pt b8 0),(5,Pt b5 0),(6,Pt b6 0),(2,Pt b2 0),(3,Pt b3 0),(4,Pt b4 0)],19,vs,Ms,(fun j=>match j with | 2=>[(0,42),(1,43)] | 5=>[(3,45),(4,46)] | 8=>[(6,11),(2,44)] | 9=>[(7,12),(5,47)] | _=>[]),(fun j=>match j with | 0=>[13] | 1=>[14] | 3=>[12] | 4=>[15] | 8=>[6] | 9=>[7] | _=>[]),(fun j=>match j with | 8=>[6] | 9=>[7] | _=>[]),(fun j=>match j with | 8=>some 6 | 9=>some 7 | _=>none)⟩) [(6,11),(7,12)] [8,9,10,11,12,13,14,15,16,17,18] eG (by repeat (first | exact aj.nil | refine aj.cons _ _ _ rfl ?_)) (ax.refl _) (by kernel_rfl) (by kernel_rfl) (by kernel_rfl) ?_ ?_
        · refine ⟨?_,?_,?_,?_,?_,?_,?_,?_,?_,?_,trivial⟩
          · (intro x EF MF Q kk;exact JL.q (OQ.af (cs:=D.l.map ai) dh bM rfl .here rfl Row.all) rfl (JL.nil (kk default nofun)))
          · (intro x EF MF Q kk;exact JL.q (OQ.af (cs:=A.l.map ai) dh bM rfl .here rfl Row.all) rfl (JL.nil (kk default nofun)))
          · (intro x EF MF Q kk;exact JL.q (OQ.an (vs:=[.agg (D.l.map ai).toArray,.agg (A.l.map ai).toArray]) aF rfl fun w' _=>c_DA w') rfl (JL.nil (kk default nofun)))
          · (intro x EF MF Q kk;exact JL.q (OQ.af (cs:=C.l.map ai) dh bM rfl .here rfl Row.all) rfl (JL.nil (kk default nofun)))
          · (intro x EF MF Q kk;exact JL.q (OQ.af (cs:=B.l.map ai) dh bM rfl .here rfl Row.all) rfl (JL.nil (kk default nofun)))
          · (intro x EF MF Q kk;exact JL.q (OQ.an (vs:=[.agg (C.l.map ai).toArray,.agg (B.l.map ai).toArray]) aF rfl fun w' _=>c_CB w') rfl (JL.nil (kk default nofun)))
          · (intro x EF MF Q kk;exact JL.alloc iP rfl fun b _=>JL.nil (kk b nofun))
          · (intro x EF MF Q kk;exact JL.alloc iP rfl fun b _=>JL.nil (kk b nofun))
          · (intro x EF MF Q kk;exact JL.ag (cs:=DA.l.map ai) bM rfl rfl rfl (aP _) .here rfl (JL.nil (kk (x 6) (fun k h=>by cases h;rfl))))
          · (intro x EF MF Q kk;exact JL.ag (cs:=CB.l.map ai) bM rfl rfl rfl (aP _) .here rfl (JL.nil (kk (x 7) (fun k h=>by cases h;rfl))))
        · intro x hx
          have h8:=hx 8 6 (by decide) rfl
          have h9:=hx 9 7 (by decide) rfl
          show JE _ _ _ _ _ [(11,Pt (x 6) 0),(12,Pt (x 7) 0),(9,Pt b9 0),(10,Pt b10 0),(7,Pt b7 0),(8,Pt b8 0),(5,Pt b5 0),(6,Pt b6 0),(2,Pt b2 0),(3,Pt b3 0),(4,Pt b4 0)] [⟨(x 8),Row 117 (DA.l.map ai),true⟩,⟨(x 9),Row 117 (CB.l.map ai),true⟩,⟨b9,Row 117 (AA.l.map ai),true⟩,⟨b10,Row 117 (BB.l.map ai),true⟩,⟨b7,Row 117 (C.l.map ai),true⟩,⟨b8,Row 117 (D.l.map ai),true⟩,⟨b5,Row 117 (A.l.map ai),true⟩,⟨b6,Row 117 (B.l.map ai),true⟩,⟨b4,Row 120 (iz.l.map ai),true⟩,⟨b3,Row 117 (x1.l.map ai),true⟩,⟨b2,Row 120 ((X2.l++Z2.l++X3.l++Z3.l).map ai),true⟩]
          rw [h8,h9]
          generalize x 6=b11
          generalize x 7=b12
          clear hx h8 h9 x vs Ms
          repeat (first | refine JC.seq ?_ | refine JC.region ?_ | refine JE.next ?_)
          repeat (refine JL.q (by first|(apply OQ.af (cs:=AA.l.map ai);exact dh;exact bM;rfl;exact (by repeat (first | exact Has.here | apply Has.there));rfl;exact Row.all)|(apply OQ.af (cs:=BB.l.map ai);exact dh;exact bM;rfl;exact (by repeat (first | exact Has.here | apply Has.there));rfl;exact Row.all)|(apply OQ.an (vs:=[.agg (AA.l.map ai).toArray,.agg (BB.l.map ai).toArray]);exact dP;rfl;exact (fun w' _=>c_E w'))) rfl ?_)
          refine JL.alloc iP rfl fun b13 _=>?_
          refine JL.ag (cs:=E.l.map ai) bM rfl rfl rfl (aP _) .here rfl ?_
          repeat (first | refine JC.seq ?_ | refine JL.nil ?_ | refine JE.next ?_)
          let vs : Nat→Nat→Value:=fun j x=>match j with
            | 0=>.agg (DA.l.map ai).toArray
            | 1=>.agg (CB.l.map ai).toArray
            | 2=>.agg (M.l.map ai).toArray
            | 3=>.agg (DA.l.map ai).toArray
            | 4=>.agg (CB.l.map ai).toArray
            | 5=>.agg (S.l.map ai).toArray
            | _=>Pt x 0
          let Ms : Nat→Nat→List aJ:=fun j x=>match j with
            | 6=>[⟨x,Row 117 (aX.l.map ai),true⟩]
            | 7=>[⟨x,Row 117 (aX.l.map ai),true⟩]
            | 8=>[⟨x,Row 117 (M.l.map ai),true⟩]
            | 9=>[⟨x,Row 117 (S.l.map ai),true⟩]
            | 10=>[⟨b13,Row 117 (E.l.map ai),true⟩]
            | 11=>[⟨b11,Row 117 (DA.l.map ai),true⟩]
            | 12=>[⟨b12,Row 117 (CB.l.map ai),true⟩]
            | 13=>[⟨b9,Row 117 (AA.l.map ai),true⟩]
            | 14=>[⟨b10,Row 117 (BB.l.map ai),true⟩]
            | 15=>[⟨b7,Row 117 (C.l.map ai),true⟩]
            | 16=>[⟨b8,Row 117 (D.l.map ai),true⟩]
            | 17=>[⟨b5,Row 117 (A.l.map ai),true⟩]
            | 18=>[⟨b6,Row 117 (B.l.map ai),true⟩]
            | 19=>[⟨b4,Row 120 (iz.l.map ai),true⟩]
            | 20=>[⟨b3,Row 117 (x1.l.map ai),true⟩]
            | 21=>[⟨b2,Row 120 ((X2.l++Z2.l++X3.l++Z3.l).map ai),true⟩]
            | _=>[]
          refine JC.grow (g:=⟨[(13,Pt b13 0),(11,Pt b11 0),(12,Pt b12 0),(9,Pt b9 0),(10,Pt b10 0),(7,Pt b7 0),(8,Pt b8 0),(5,Pt b5 0),(6,Pt b6 0),(2,Pt b2 0),(3,Pt b3 0),(4,Pt b4 0)],22,vs,Ms,(fun j=>match j with | 2=>[(0,51),(1,52)] | 5=>[(3,54),(4,55)] | 8=>[(6,14),(2,53)] | 9=>[(7,15),(5,56)] | _=>[]),(fun j=>match j with | 0=>[11] | 1=>[12] | 3=>[11] | 4=>[12] | 8=>[6] | 9=>[7] | _=>[]),(fun j=>match j with | 8=>[6] | 9=>[7] | _=>[]),(fun j=>match j with | 8=>some 6 | 9=>some 7 | _=>none)⟩) [(6,14),(7,15)] [8,9,10,11,12,13,14,15,16,17,18,19,20,21] eG (by repeat (first | exact aj.nil | refine aj.cons _ _ _ rfl ?_)) (ax.refl _) (by kernel_rfl) (by kernel_rfl) (by kernel_rfl) ?_ ?_
          · refine ⟨?_,?_,?_,?_,?_,?_,?_,?_,?_,?_,trivial⟩
            · (intro x EF MF Q kk;exact JL.q (OQ.af (cs:=DA.l.map ai) dh bM rfl .here rfl Row.all) rfl (JL.nil (kk default nofun)))
            · (intro x EF MF Q kk;exact JL.q (OQ.af (cs:=CB.l.map ai) dh bM rfl .here rfl Row.all) rfl (JL.nil (kk default nofun)))
            · (intro x EF MF Q kk;exact JL.q (OQ.an (vs:=[.agg (DA.l.map ai).toArray,.agg (CB.l.map ai).toArray]) ko rfl fun w' _=>c_M w') rfl (JL.nil (kk default nofun)))
            · (intro x EF MF Q kk;exact JL.q (OQ.af (cs:=DA.l.map ai) dh bM rfl .here rfl Row.all) rfl (JL.nil (kk default nofun)))
            · (intro x EF MF Q kk;exact JL.q (OQ.af (cs:=CB.l.map ai) dh bM rfl .here rfl Row.all) rfl (JL.nil (kk default nofun)))
            · (intro x EF MF Q kk;exact JL.q (OQ.an (vs:=[.agg (DA.l.map ai).toArray,.agg (CB.l.map ai).toArray]) dP rfl fun w' _=>c_S w') rfl (JL.nil (kk default nofun)))
            · (intro x EF MF Q kk;exact JL.alloc iP rfl fun b _=>JL.nil (kk b nofun))
            · (intro x EF MF Q kk;exact JL.alloc iP rfl fun b _=>JL.nil (kk b nofun))
            · (intro x EF MF Q kk;exact JL.ag (cs:=M.l.map ai) bM rfl rfl rfl (aP _) .here rfl (JL.nil (kk (x 6) (fun k h=>by cases h;rfl))))
            · (intro x EF MF Q kk;exact JL.ag (cs:=S.l.map ai) bM rfl rfl rfl (aP _) .here rfl (JL.nil (kk (x 7) (fun k h=>by cases h;rfl))))
          · intro x hx
            have h8:=hx 8 6 (by decide) rfl
            have h9:=hx 9 7 (by decide) rfl
            show JE _ _ _ _ _ [(14,Pt (x 6) 0),(15,Pt (x 7) 0),(13,Pt b13 0),(11,Pt b11 0),(12,Pt b12 0),(9,Pt b9 0),(10,Pt b10 0),(7,Pt b7 0),(8,Pt b8 0),(5,Pt b5 0),(6,Pt b6 0),(2,Pt b2 0),(3,Pt b3 0),(4,Pt b4 0)] [⟨(x 8),Row 117 (M.l.map ai),true⟩,⟨(x 9),Row 117 (S.l.map ai),true⟩,⟨b13,Row 117 (E.l.map ai),true⟩,⟨b11,Row 117 (DA.l.map ai),true⟩,⟨b12,Row 117 (CB.l.map ai),true⟩,⟨b9,Row 117 (AA.l.map ai),true⟩,⟨b10,Row 117 (BB.l.map ai),true⟩,⟨b7,Row 117 (C.l.map ai),true⟩,⟨b8,Row 117 (D.l.map ai),true⟩,⟨b5,Row 117 (A.l.map ai),true⟩,⟨b6,Row 117 (B.l.map ai),true⟩,⟨b4,Row 120 (iz.l.map ai),true⟩,⟨b3,Row 117 (x1.l.map ai),true⟩,⟨b2,Row 120 ((X2.l++Z2.l++X3.l++Z3.l).map ai),true⟩]
            rw [h8,h9]
            generalize x 6=b14
            generalize x 7=b15
            clear hx h8 h9 x vs Ms
            repeat (first | refine JC.seq ?_ | refine JE.next ?_)
            refine JC.tail 19 eG (by kernel_rfl) ?_
            simp only [List.take_succ_cons,List.take_zero,List.drop_succ_cons,List.drop_zero]
            repeat (refine JQ.q (by first|(apply OQ.af (cs:=AA.l.map ai);exact dh;exact bM;rfl;exact (by repeat (first | exact Has.here | apply Has.there));rfl;exact Row.all)|(apply OQ.af (cs:=BB.l.map ai);exact dh;exact bM;rfl;exact (by repeat (first | exact Has.here | apply Has.there));rfl;exact Row.all)|(apply OQ.af (cs:=E.l.map ai);exact dh;exact bM;rfl;exact (by repeat (first | exact Has.here | apply Has.there));rfl;exact Row.all)|(apply OQ.an (vs:=[.agg (AA.l.map ai).toArray,.agg (BB.l.map ai).toArray]);exact aF;rfl;exact (fun w' _=>c_R1 w'))) rfl ?_)
            refine JQ.q (OQ.pure (v:=.agg (cN.l.map ai).toArray) rfl rfl (by kernel_rfl)) rfl ?_
            repeat (refine JQ.q (by first|(apply OQ.af (cs:=E.l.map ai);exact dh;exact bM;rfl;exact (by repeat (first | exact Has.here | apply Has.there));rfl;exact Row.all)|(apply OQ.af (cs:=M.l.map ai);exact dh;exact bM;rfl;exact (by repeat (first | exact Has.here | apply Has.there));rfl;exact Row.all)|(apply OQ.af (cs:=S.l.map ai);exact dh;exact bM;rfl;exact (by repeat (first | exact Has.here | apply Has.there));rfl;exact Row.all)|(apply OQ.af (cs:=x1.l.map ai);exact dh;exact bM;rfl;exact (by repeat (first | exact Has.here | apply Has.there));rfl;exact Row.all)|(apply OQ.an (vs:=[.agg (cN.l.map ai).toArray,.agg (E.l.map ai).toArray]);exact aF;rfl;exact (fun w' _=>c_F w'))|(apply OQ.an (vs:=[.agg (AA.l.map ai).toArray,.agg (F.l.map ai).toArray]);exact ko;rfl;exact (fun w' _=>c_G w'))|(apply OQ.an (vs:=[.agg (E.l.map ai).toArray,.agg (G.l.map ai).toArray]);exact aF;rfl;exact (fun w' _=>c_R2 w'))|(apply OQ.an (vs:=[.agg (M.l.map ai).toArray,.agg (M.l.map ai).toArray]);exact aF;rfl;exact (fun w' _=>c_R3 w'))|(apply OQ.an (vs:=[.agg (S.l.map ai).toArray,.agg (S.l.map ai).toArray]);exact aF;rfl;exact (fun w' _=>c_SS w'))|(apply OQ.an (vs:=[.agg (x1.l.map ai).toArray,.agg (SS.l.map ai).toArray]);exact aF;rfl;exact (fun w' _=>c_R4 w'))) rfl ?_)
            refine JQ.q (OQ.pure (v:=.agg ((R1.l++R2.l++R3.l++R4.l).map ai).toArray) rfl rfl (by kernel_rfl)) rfl ?_
            repeat (refine JQ.cH ?_)
            refine JL.ag (cs:=(R1.l++R2.l++R3.l++R4.l).map ai) sx rfl rfl rfl (aP _) (by repeat (first | exact fy.here | apply fy.there)) rfl ?_
            repeat (first | refine JL.nil ?_ | refine JE.next ?_)
            refine JC.ret (JE.aM rfl (RV.av Bg sx rfl (by repeat (first | exact Has.here | apply Has.there)) rfl Row.all) ?_)
            exact fun w' hw=>⟨rfl,hw.aH⟩
end
section
namespace cV
def mJ (x : By) : List By:=x::List.replicate 31 0
end cV
end
section
set_option maxRecDepth 10000
open Sl cV
theorem sA : aR Tryd.prog 72:=⟨_,Tryd.func72,rfl,by kernel_rfl⟩
theorem nW : aR Tryd.prog 47:=⟨_,Tryd.func47,rfl,by kernel_rfl⟩
theorem kz : aR Tryd.prog 25:=⟨_,Tryd.func25,rfl,by kernel_rfl⟩
theorem iQ (k u : List By) : (cu k u).length=32:=kg _
section
variable {P : Program} {n : Nat} {E : Env} {C : World→Prop} {dst : Option Tmp} {ty t t' : TypeId} {pos : String} {aft : Array Edge} {g : Option (Nat × Bool)} {x y : Operand}
theorem OQ.Fa {a b r : BitVec 8} (hx : ev E x=some (U8 a)) (hy : ev E y=some (U8 b)) (h : a &&& b=r) : OQ P n E C ⟨dst,.binOp .and t x y t',ty,pos,aft,g⟩ (U8 r):=h ▸ OQ.xR hx hy
end
theorem DE : ∀ x : By,x &&& 248#8=x / 8 * 8:=by decide +kernel
theorem Bh : ∀ x : By,x &&& 127#8 ||| 64#8=x % 64+64:=by decide +kernel
set_option maxHeartbeats 8000000 in
theorem uC (k : List By) (hk : k.length=32) (w : World) : Calls Tryd.prog 72 [.agg (k.map U8).toArray].toArray w fun e w'=>e=.returned (.agg ((dB k).map U8).toArray)∧Ext w w':=by
  have hc0:=qk (l:=k) (i:=0) (by omega)
  have hc31:=qk (l:=k.set 0 (k.getD 0 0 / 8 * 8)) (i:=31) (by rw [List.length_set];omega)
  have hlK : ((dB k).map U8).length=32:=by rw [List.length_map,nN];exact hk
  refine enter (n:=16) Tryd.func72 rfl rfl rfl (ah.start w []) ?_
  repeat (first | refine JC.seq ?_ | refine JC.region ?_)
  refine JL.box (r:=k.map U8) rfl rfl rfl fun b1 _=>?_
  refine JL.alloc iW rfl fun b2 _=>?_
  repeat (first | refine JL.q (by first|(apply OQ.aW;exact Tryd.underlying23;exact Cf;rfl;rfl;exact (by decide))|(apply OQ.load;exact Ft;rfl;exact (.there .here);exact (Row.cell hc0))|(apply OQ.xR (b:=248#8);rfl;rfl)|(apply OQ.assign;rfl)) rfl ?_ | refine JC.seq ?_ | refine JC.region ?_ | refine JL.nil ?_ | refine JE.next ?_)
  refine JL.aU (r':=(k.set 0 (k.getD 0 0 / 8 * 8)).map U8) Cf rfl rfl rfl rfl (.there .here) (by rw [List.length_map,hk];decide) (by rw [DE];exact yR _ _ _) ?_
  repeat (first | refine JL.q (by first|(apply OQ.aW;exact Tryd.underlying23;exact Cf;rfl;rfl;exact (by decide))|(apply OQ.load;exact Ft;rfl;exact (.there .here);exact (Row.cell hc31))|(apply OQ.xR (b:=127#8);rfl;rfl)|(apply OQ.G7 (b:=64#8);rfl;rfl)|(apply OQ.move;rfl)) rfl ?_ | refine JC.seq ?_ | refine JC.region ?_ | refine JL.nil ?_ | refine JE.next ?_)
  refine JL.aU (r':=(dB k).map U8) Cf rfl rfl rfl rfl (.there .here) (by rw [List.length_map,List.length_set,hk];decide) (by rw [Bh];exact yR _ _ _) ?_
  generalize dB k=K at hlK ⊢
  repeat (first | refine JL.q (by (apply OQ.af (cs:=K.map U8);exact bB;exact aO;rfl;exact (.there .here);exact hlK;exact Row.all)) rfl ?_ | refine JC.seq ?_ | refine JC.region ?_ | refine JL.nil ?_ | refine JE.next ?_)
  refine JL.ag (cs:=K.map U8) aO rfl rfl hlK (cQ _) .here (by simp) ?_
  repeat (first | refine JL.nil ?_ | refine JE.next ?_)
  refine JC.ret (JE.aM rfl (RV.av bB aO rfl .here hlK Row.all) ?_)
  exact fun w' hw=>⟨rfl,hw.aH⟩
set_option maxHeartbeats 32000000 in
set_option maxRecDepth 4000 in
theorem pg (k u : List By) (hk : k.length=32) (hu : u.length=32) (w : World) : Calls Tryd.prog 47 [.agg (k.map U8).toArray,.agg (u.map U8).toArray].toArray w fun e w'=>e=.returned (.agg ((cu k u).map U8).toArray)∧Ext w w':=by
  have cC:=uC k hk
  have cN:=qq u hu
  have eM:=Bc k u hu
  have lM:=iQ k u
  unfold Dt at eM
  have hK : (dB k).length=32:=by rw [nN];exact hk
  have hlk : (k.map U8).length=32:=by rw [List.length_map];exact hk
  have hlu : (u.map U8).length=32:=by rw [List.length_map];exact hu
  have hlK : ((dB k).map U8).length=32:=by rw [List.length_map];exact hK
  generalize dB k=K at cC eM hK hlK
  generalize bP u=x1 at cN eM
  generalize cu k u=R at eM lM ⊢
  refine enter (n:=47) Tryd.func47 rfl rfl rfl (ah.start w []) ?_
  repeat (first | refine JC.seq ?_ | refine JC.region ?_)
  refine JL.box (r:=k.map U8) rfl rfl rfl fun b2 _=>?_
  refine JL.box (r:=u.map U8) rfl rfl rfl fun b3 _=>?_
  refine JL.alloc iW rfl fun b4 _=>?_
  repeat (first | refine JC.seq ?_ | refine JL.nil ?_ | refine JE.next ?_)
  let vs : Nat→Nat→Value:=fun j x=>match j with
    | 0=>.agg (k.map U8).toArray
    | 1=>.agg (K.map U8).toArray
    | 2=>.agg (u.map U8).toArray
    | 3=>.agg (x1.l.map ai).toArray
    | _=>Pt x 0
  let Ms : Nat→Nat→List aJ:=fun j x=>match j with
    | 4=>[⟨x,Row 23 ((List.replicate 32 (0 : By)).map U8),true⟩]
    | 5=>[⟨x,Row 117 (aX.l.map ai),true⟩]
    | 6=>[⟨x,Row 23 (K.map U8),true⟩]
    | 7=>[⟨x,Row 117 (x1.l.map ai),true⟩]
    | 8=>[⟨b4,Row 23 ((List.replicate 32 (0 : By)).map U8),true⟩]
    | 9=>[⟨b3,Row 23 (u.map U8),true⟩]
    | 10=>[⟨b2,Row 23 (k.map U8),true⟩]
    | _=>[]
  refine JC.grow (g:=⟨[(2,Pt b2 0),(3,Pt b3 0),(4,Pt b4 0)],11,vs,Ms,(fun j=>match j with | 1=>[(0,11)] | 3=>[(2,13)] | 6=>[(4,5),(1,12)] | 7=>[(5,6),(3,14)] | _=>[]),(fun j=>match j with | 0=>[10] | 2=>[9] | 6=>[4] | 7=>[5] | _=>[]),(fun j=>match j with | 6=>[4] | 7=>[5] | _=>[]),(fun j=>match j with | 6=>some 4 | 7=>some 5 | _=>none)⟩) [(4,5),(5,6)] [6,7,8,9,10] eG (by repeat (first | exact aj.nil | refine aj.cons _ _ _ rfl ?_)) (ax.refl _) (by kernel_rfl) (by kernel_rfl) (by kernel_rfl) ?_ ?_
  · refine ⟨?_,?_,?_,?_,?_,?_,?_,?_,trivial⟩
    · (intro x EF MF Q kk;exact JL.q (OQ.af (cs:=k.map U8) bB aO rfl .here hlk Row.all) rfl (JL.nil (kk default nofun)))
    · (intro x EF MF Q kk;exact JL.q (OQ.an (vs:=[.agg (k.map U8).toArray]) sA rfl fun w' _=>cC w') rfl (JL.nil (kk default nofun)))
    · (intro x EF MF Q kk;exact JL.q (OQ.af (cs:=u.map U8) bB aO rfl .here hlu Row.all) rfl (JL.nil (kk default nofun)))
    · (intro x EF MF Q kk;exact JL.q (OQ.an (vs:=[.agg (u.map U8).toArray]) oA rfl fun w' _=>cN w') rfl (JL.nil (kk default nofun)))
    · (intro x EF MF Q kk;exact JL.alloc iW rfl fun b _=>JL.nil (kk b nofun))
    · (intro x EF MF Q kk;exact JL.alloc iP rfl fun b _=>JL.nil (kk b nofun))
    · (intro x EF MF Q kk;exact JL.ag (cs:=K.map U8) aO rfl rfl hlK (cQ _) .here rfl (JL.nil (kk (x 4) (fun k h=>by cases h;rfl))))
    · (intro x EF MF Q kk;exact JL.ag (cs:=x1.l.map ai) bM rfl rfl rfl (aP _) .here rfl (JL.nil (kk (x 5) (fun k h=>by cases h;rfl))))
  · intro x hx
    have h6:=hx 6 4 (by decide) rfl
    have h7:=hx 7 5 (by decide) rfl
    show JE _ _ _ _ _ [(5,Pt (x 4) 0),(6,Pt (x 5) 0),(2,Pt b2 0),(3,Pt b3 0),(4,Pt b4 0)] [⟨(x 6),Row 23 (K.map U8),true⟩,⟨(x 7),Row 117 (x1.l.map ai),true⟩,⟨b4,Row 23 ((List.replicate 32 (0 : By)).map U8),true⟩,⟨b3,Row 23 (u.map U8),true⟩,⟨b2,Row 23 (k.map U8),true⟩]
    rw [h6,h7]
    generalize x 4=b5
    generalize x 5=b6
    clear hx h6 h7 x vs Ms
    repeat (first | refine JC.seq ?_ | refine JC.region ?_ | refine JE.next ?_)
    refine JL.q (OQ.pure (v:=.agg (sj.l.map ai).toArray) rfl rfl (by kernel_rfl)) rfl ?_
    repeat (refine JL.q (by (apply OQ.af (cs:=x1.l.map ai);exact dh;exact bM;rfl;exact (by repeat (first | exact Has.here | apply Has.there));rfl;exact Row.all)) rfl ?_)
    refine JL.q (OQ.pure (v:=.agg (sj.l.map ai).toArray) rfl rfl (by kernel_rfl)) rfl ?_
    refine JL.q (OQ.pure (v:=.agg ((fW x1 (le K) 0).l.map ai).toArray) rfl rfl (by kernel_rfl)) rfl ?_
    refine JL.alloc DD rfl fun b7 _=>?_
    refine JL.ag (cs:=(fW x1 (le K) 0).l.map ai) sx rfl rfl rfl (aP _) .here rfl ?_
    repeat (first | refine JL.q (by (apply OQ.move;rfl)) rfl ?_ | refine JC.seq ?_ | refine JC.region ?_ | refine JC.block ?_ | refine JL.nil ?_ | refine JE.next ?_)
    refine JC.loop (fun n : Nat=>[(4,Pt b4 0),(5,Pt b5 0),(6,Pt b6 0),(7,Pt b7 0),(19,N n)])
      (fun n=>[⟨b7,Row 120 ((fW x1 (le K) n).l.map ai),true⟩,⟨b5,Row 23 (K.map U8),true⟩,⟨b6,Row 117 (x1.l.map ai),true⟩,⟨b4,Row 23 ((List.replicate 32 (0 : By)).map U8),true⟩])
      (fun n=>255 - n) (fun n=>n≤255) 0 (by omega) (by repeat (first | exact aj.nil | refine aj.cons _ _ _ rfl ?_)) (.keep _ _ _ _ _ _ (fun _ h=>h) (.keep _ _ _ _ _ _ (fun _ h=>h) (.keep _ _ _ _ _ _ (fun _ h=>h) (.keep _ _ _ _ _ _ (fun _ h=>h) (.nil _))))) ?_
    intro n hn
    repeat (first | refine JL.q (by (apply OQ.cF;rfl;rfl)) rfl ?_ | refine JC.seq ?_ | refine JC.region ?_ | refine JL.nil ?_ | refine JE.next ?_)
    refine JC.cond rfl (fun h=>?_) (fun h=>?_)
    · have hn' : n<255:=of_decide_eq_true h
      clear h hn eM
      have eN : fW x1 (le K) (n+1)=za ((le K).testBit (254 - n)) (qp x1 (za ((le K).testBit (254 - n)) (fW x1 (le K) n))):=rfl
      have hcb:=qk (l:=K) (i:=(254 - n) / 8) (by omega)
      have hbit : (K.getD ((254 - n) / 8) 0 >>> ((254 - n) % 8)) &&& 1#8=bt ((le K).testBit (254 - n)):=by rw [E9 _ _ (by omega),yS]
      have b32 : (254 - n) / 8<32:=by omega
      generalize (le K).testBit (254 - n)=c at eN hbit
      generalize fW x1 (le K) n=s at eN ⊢
      have c1:=jq c s
      generalize za c s=s1 at eN c1
      have c2:=sy x1 s1
      generalize qp x1 s1=s2 at eN c2
      have c3:=jq c s2
      rw [← eN] at c3
      have e3 : fW x1 (le K) (n+1)=fW x1 (le K) (n+1):=rfl
      generalize hs3 : fW x1 (le K) (n+1)=s3 at c3
      clear eN e3
      repeat (first | refine JL.q (by first|(apply OQ.aW;exact Tryd.underlying23;exact Cf;rfl;rfl;exact b32)|(apply OQ.load;exact Ft;rfl;exact (.there .here);exact (Row.cell hcb))|(apply OQ.FO;rfl;rfl)|(apply OQ.Fa (b:=1#8) (r:=bt c);rfl;rfl;exact hbit)|(apply OQ.move;rfl)|(apply OQ.assign;rfl)|(apply OQ.mG;rfl;rfl;exact (by (try simp only []);omega);exact (by (try simp only []);omega))|(apply OQ.xG;rfl;rfl;exact (by (try simp only []);omega))|(apply OQ.tg;rfl;rfl;exact (by (try simp only []);omega);exact (by (try simp only []);omega))) rfl ?_ | refine JC.seq ?_ | refine JC.region ?_ | refine JC.block ?_ | refine JC.skip ?_ | refine JL.nil ?_ | refine JE.next ?_)
      refine JC.tail 7 eG (by kernel_rfl) ?_
      simp only [List.take_succ_cons,List.take_zero,List.drop_succ_cons,List.drop_zero]
      repeat (first | refine JQ.q (by first|(apply OQ.af (cs:=s.l.map ai);exact Bg;exact sx;rfl;exact .here;rfl;exact Row.all)|(apply OQ.af (cs:=x1.l.map ai);exact dh;exact bM;rfl;exact (by repeat (first | exact Has.here | apply Has.there));rfl;exact Row.all)|(apply OQ.an (vs:=[.agg (s.l.map ai).toArray,U8 (bt c)]);exact iy;rfl;exact (fun w' _=>c1 w'))|(apply OQ.an (vs:=[.agg (s1.l.map ai).toArray,.agg (x1.l.map ai).toArray]);exact qw;rfl;exact (fun w' _=>c2 w'))|(apply OQ.an (vs:=[.agg (s2.l.map ai).toArray,U8 (bt c)]);exact iy;rfl;exact (fun w' _=>c3 w'))|(apply OQ.move;rfl)) rfl ?_ | refine JQ.cH ?_)
      refine JL.ag (cs:=s3.l.map ai) sx rfl rfl rfl (aP _) .here rfl ?_
      rw [← hs3]
      repeat (first | refine JL.q (by first|(apply OQ.move;rfl)|(apply OQ.bH;rfl;rfl;exact (by (try simp only []);omega))) rfl ?_ | refine JC.region ?_ | refine JL.nil ?_ | refine JE.next ?_ | refine JE.az ?_)
      exact JE.again (i:=n) (n+1) (by omega) (by omega) (by repeat (first | exact aj.nil | refine aj.cons _ _ _ rfl ?_)) (ax.refl _)
    · have hn' : ¬ n<255:=of_decide_eq_false h
      obtain rfl : n=255:=by omega
      clear h hn hn'
      generalize fW x1 (le K) 255=s at eM ⊢
      obtain ⟨x2,z2,x3,z3⟩:=s
      have c1:=sw z2
      have c2:=aK x2 (nT z2)
      have c3:=zl (bQ x2 (nT z2))
      have eM' : Eb (bQ x2 (nT z2))=R:=eM
      rw [eM'] at c3
      clear eM eM'
      generalize bQ x2 (nT z2)=q at c2 c3
      generalize nT z2=v at c1 c2
      have hR : (R.map U8).length=32:=by rw [List.length_map];exact lM
      repeat (first | refine JC.seq ?_ | refine JC.exit ?_ | refine JE.next ?_ | refine JE.aB ?_ | refine JE.aG ?_)
      refine JC.tail 7 eG (by kernel_rfl) ?_
      simp only [List.take_succ_cons,List.take_zero,List.drop_succ_cons,List.drop_zero]
      repeat (first | refine JQ.q (by first|(apply OQ.af (cs:=x2.l.map ai);exact dh;exact bM;rfl;exact .here;rfl;exact (Row.cells rfl))|(apply OQ.af (cs:=z2.l.map ai);exact dh;exact bM;rfl;exact .here;rfl;exact (Row.cells rfl))|(apply OQ.an (vs:=[.agg (z2.l.map ai).toArray]);exact qv;rfl;exact (fun w' _=>c1 w'))|(apply OQ.an (vs:=[.agg (x2.l.map ai).toArray,.agg (v.l.map ai).toArray]);exact aF;rfl;exact (fun w' _=>c2 w'))|(apply OQ.an (vs:=[.agg (q.l.map ai).toArray]);exact wV;rfl;exact (fun w' _=>c3 w'))|(apply OQ.cw;rfl;rfl;rfl;exact (by decide);rfl)) rfl ?_ | refine JQ.cH ?_)
      refine JL.ag (cs:=R.map U8) aO rfl rfl hR (cQ _) (by repeat (first | exact fy.here | apply fy.there)) (by simp) ?_
      repeat (first | refine JL.nil ?_ | refine JE.next ?_)
      refine JC.ret (JE.aM rfl (RV.av bB aO rfl (by repeat (first | exact Has.here | apply Has.there)) hR Row.all) ?_)
      exact fun w' hw=>⟨rfl,hw.aH⟩
set_option maxHeartbeats 8000000 in
theorem mA (k : List By) (hk : k.length=32) (w : World) : Calls Tryd.prog 25 [.agg (k.map U8).toArray].toArray w fun e w'=>e=.returned (.agg ((cu k (mJ 9)).map U8).toArray)∧Ext w w':=by
  have c:=pg k (mJ 9) hk rfl
  have hlk : (k.map U8).length=32:=by rw [List.length_map];exact hk
  have hly : ((cu k (mJ 9)).map U8).length=32:=by rw [List.length_map];exact iQ _ _
  generalize cu k (mJ 9)=Y at c hly ⊢
  refine enter (n:=6) Tryd.func25 rfl rfl rfl (ah.start w []) ?_
  repeat (first | refine JC.seq ?_ | refine JC.region ?_)
  refine JL.box (r:=k.map U8) rfl rfl rfl fun b1 _=>?_
  refine JL.alloc iW rfl fun b2 _=>?_
  repeat (first | refine JL.q (by (apply OQ.af (cs:=k.map U8);exact bB;exact aO;rfl;exact (.there .here);exact hlk;exact Row.all)) rfl ?_ | refine JC.seq ?_ | refine JC.region ?_ | refine JL.nil ?_ | refine JE.next ?_)
  refine JL.q (OQ.pure (v:=.agg ((mJ 9).map U8).toArray) rfl rfl (by kernel_rfl)) rfl ?_
  repeat (refine JL.q (by (apply OQ.an (vs:=[.agg (k.map U8).toArray,.agg ((mJ 9).map U8).toArray]);exact nW;rfl;exact (fun w' _=>c w'))) rfl ?_)
  refine JL.ag (cs:=Y.map U8) aO rfl rfl hly (cQ _) .here (by simp) ?_
  repeat (first | refine JL.nil ?_ | refine JE.next ?_)
  refine JC.ret (JE.aM rfl (RV.av bB aO rfl .here hly Row.all) ?_)
  exact fun w' hw=>⟨rfl,hw.aH⟩
end
section
set_option maxRecDepth 10000
open Sl cV
section
variable {P : Program} {n : Nat} {E : Env} {C : World→Prop} {dst : Option Tmp} {ty t t' : TypeId} {pos : String} {aft : Array Edge} {g : Option (Nat × Bool)} {x y : Operand} {v u : Value} {cs : List Value}
theorem OQ.DF (hx : ev E x=some v) (hy : ev E y=some u) (h : P.built t [(0,v),(1,u)]=some cs.toArray) : OQ P n E C ⟨dst,.build t #[(0,x),(1,y)],ty,pos,aft,g⟩ (.agg cs.toArray):=
  OQ.run fun a ha w _=>by
    have h1:=ha.eval hx
    have h2:=ha.eval hy
    have r:=run_build w t #[(0,v),(1,u)] cs.toArray (by simpa using h)
    simp [execOp,h1,h2,r]
end
theorem Fb (place : Nat→Option (Nat × Nat)) (h0 : place 0=some (0,32)) (h1 : place 1=some (32,32)) (a b : List By) (ha : a.length=32) (hb : b.length=32) :
    Instr.fill place (((List.replicate 64 (0 : By)).map U8).toArray) [(0,.agg (a.map U8).toArray),(1,.agg (b.map U8).toArray)]=some ((a++b).map U8).toArray:=by
  have e : Instr.fill place (((List.replicate 64 (0 : By)).map U8).toArray) [(0,.agg (a.map U8).toArray),(1,.agg (b.map U8).toArray)] =
      Instr.fill (fun i=>some (i * 32,32)) (((List.replicate 64 (0 : By)).map U8).toArray) [(0,.agg (a.map U8).toArray),(1,.agg (b.map U8).toArray)]:=by
    simp [Instr.fill,h0,h1]
  rw [e]
  obtain ⟨r,h6,h7,h8⟩:=Great.fill_dense (s:=32) (by decide) [.agg (a.map U8).toArray,.agg (b.map U8).toArray] 0 (((List.replicate 64 (0 : By)).map U8).toArray) (by simp [Value.cells,ha,hb]) (by simp)
  simp only [List.zipIdx_cons,List.zipIdx_nil,List.map_cons,List.map_nil] at h6
  have hr : r=((a++b).map U8).toArray:=by
    apply Array.ext_getElem?
    intro k
    rw [h8 k]
    by_cases hk : k<32
    · rw [if_pos (by simp;omega)]
      simp [Nat.div_eq_of_lt hk,Nat.mod_eq_of_lt hk,Value.cells,List.getElem?_append,ha,hk]
    · by_cases hk2 : k<64
      · rw [if_pos (by simp;omega)]
        have d : k / 32=1:=by omega
        have m : k % 32=k - 32:=by omega
        simp [d,m,Value.cells,List.getElem?_append,ha,hk]
      · rw [if_neg (by simp;omega),Array.getElem?_eq_none (by simp;omega),Array.getElem?_eq_none (by simp;omega)]
  rw [← hr]
  exact h6
theorem wX : dm Tryd.prog 39=some 64:=by kernel_rfl
theorem Bi : ei Tryd.prog 39=true:=by kernel_rfl
theorem Fc : zc Tryd.prog 39=some ((List.replicate 64 (0 : By)).map U8):=by kernel_rfl
theorem uD (a b : List By) (ha : a.length=32) (hb : b.length=32) : Tryd.prog.built 39 [(0,.agg (a.map U8).toArray),(1,.agg (b.map U8).toArray)]=some ((a++b).map U8).toArray:=by
  have h : Tryd.prog.built 39 [(0,.agg (a.map U8).toArray),(1,.agg (b.map U8).toArray)]=Instr.fill (fun i=>#[(0,32),(32,32)][i]?) (((List.replicate 64 (0 : By)).map U8).toArray) [(0,.agg (a.map U8).toArray),(1,.agg (b.map U8).toArray)]:=by kernel_rfl
  rw [h]
  exact Fb _ rfl rfl a b ha hb
theorem wY : aR Tryd.prog 20:=⟨_,Tryd.func20,rfl,by kernel_rfl⟩
theorem qx : aR Tryd.prog 35:=⟨_,Tryd.func35,rfl,by kernel_rfl⟩
set_option maxHeartbeats 8000000 in
theorem zm (k : List By) (hk : k.length=32) (w : World) : Calls Tryd.prog 20 [.agg (k.map U8).toArray].toArray w fun e w'=>e=.returned (.agg ((k++cu k (mJ 9)).map U8).toArray)∧Ext w w':=by
  have c:=mA k hk
  have hY:=iQ k (mJ 9)
  generalize cu k (mJ 9)=Y at c hY ⊢
  have hlk : (k.map U8).length=32:=by rw [List.length_map];exact hk
  have hlp : ((k++Y).map U8).length=64:=by rw [List.length_map,List.length_append,hk,hY]
  have bt:=uD k Y hk hY
  refine enter (n:=7) Tryd.func20 rfl rfl rfl (ah.start w []) ?_
  repeat (first | refine JC.seq ?_ | refine JC.region ?_)
  refine JL.box (r:=k.map U8) rfl rfl rfl fun b1 _=>?_
  refine JL.alloc Fc rfl fun b2 _=>?_
  repeat (first | refine JC.seq ?_ | refine JL.nil ?_ | refine JE.next ?_)
  refine JC.tail 4 eG (by kernel_rfl) ?_
  simp only [List.take_succ_cons,List.take_zero,List.drop_succ_cons,List.drop_zero]
  repeat (first | refine JQ.q (by first|(apply OQ.af (cs:=k.map U8);exact bB;exact aO;rfl;exact (by repeat (first | exact Has.here | apply Has.there));exact hlk;exact Row.all)|(apply OQ.an (vs:=[.agg (k.map U8).toArray]);exact kz;rfl;exact (fun w' _=>c w'))|(apply OQ.DF;rfl;rfl;exact bt)) rfl ?_ | refine JQ.cH ?_)
  refine JL.ag (cs:=(k++Y).map U8) wX rfl rfl hlp (cQ _) .here (by simp) ?_
  repeat (first | refine JL.nil ?_ | refine JE.next ?_)
  refine JC.ret (JE.aM rfl (RV.av Bi wX rfl .here hlp Row.all) ?_)
  exact fun w' hw=>⟨rfl,hw.aH⟩
theorem zn {a b : List By} (_ha : a.length=32) : (((a++b).map U8).drop 0).take (a.map U8).length=a.map U8:=by
  simp [List.map_append]
theorem Fe {a b : List By} (ha : a.length=32) : (((a++b).map U8).drop 32).take (b.map U8).length=b.map U8:=by
  rw [List.map_append,List.drop_left' (by rw [List.length_map];exact ha),List.take_of_length_le (Nat.le_refl _)]
set_option maxHeartbeats 8000000 in
theorem sB (a Y u : List By) (ha : a.length=32) (hY : Y.length=32) (hu : u.length=32) (w : World) : Calls Tryd.prog 35 [.agg ((a++Y).map U8).toArray,.agg (u.map U8).toArray].toArray w
    fun e w'=>e=.returned (.agg ((cu a u).map U8).toArray)∧Ext w w':=by
  have c:=pg a u ha hu
  have hla : (a.map U8).length=32:=by rw [List.length_map];exact ha
  have hlu : (u.map U8).length=32:=by rw [List.length_map];exact hu
  have hR : ((cu a u).map U8).length=32:=by rw [List.length_map];exact iQ _ _
  have h0:=zn (b:=Y) ha
  generalize cu a u=R at c hR ⊢
  refine enter (n:=9) Tryd.func35 rfl rfl rfl (ah.start w []) ?_
  repeat (first | refine JC.seq ?_ | refine JC.region ?_)
  refine JL.box (r:=(a++Y).map U8) rfl rfl rfl fun b2 _=>?_
  refine JL.box (r:=u.map U8) rfl rfl rfl fun b3 _=>?_
  refine JL.alloc iW rfl fun b4 _=>?_
  repeat (first | refine JL.q (by first|(apply OQ.af (cs:=a.map U8);exact bB;exact aO;rfl;exact (by repeat (first | exact Has.here | apply Has.there));exact hla;exact (Row.cells h0))|(apply OQ.af (cs:=u.map U8);exact bB;exact aO;rfl;exact (by repeat (first | exact Has.here | apply Has.there));exact hlu;exact Row.all)|(apply OQ.an (vs:=[.agg (a.map U8).toArray,.agg (u.map U8).toArray]);exact nW;rfl;exact (fun w' _=>c w'))|(apply OQ.cw;rfl;rfl;rfl;exact (by decide);rfl)) rfl ?_ | refine JC.seq ?_ | refine JC.region ?_ | refine JL.nil ?_ | refine JE.next ?_)
  refine JL.ag (cs:=R.map U8) aO rfl rfl hR (cQ _) .here (by simp) ?_
  repeat (first | refine JL.nil ?_ | refine JE.next ?_)
  refine JC.ret (JE.aM rfl (RV.av bB aO rfl .here hR Row.all) ?_)
  exact fun w' hw=>⟨rfl,hw.aH⟩
end
section
open Sl ec gE cV
namespace gB
open iZ fF
def Bj : ByteArray:=⟨#[114,97,116,99,104,101,116]⟩
def nX (root sh : Bk) : Bk:=nE (cY root sh) (bytesOf Bj) (2 * 32)
def gp (root sh : Bk) : Bk:=(nX root sh).take 32
def gM (root sh : Bk) : Bk:=(nX root sh).drop 32
theorem lG (a b : Bk) : (nX a b).length=64:=eE _ _ _
theorem lH (a b : Bk) : (gp a b).length=32:=by simp [gp,lG]
theorem lI (a b : Bk) : (gM a b).length=32:=by simp [gM,lG]
def Bl (c : Bk) : Bk:=cY c [2]
def DG (c : Bk) : Bk:=cY c [1]
def bO : Bk:=List.replicate 32 0
def Ec : Bk:=List.replicate 12 0
def wZ (k : Bk) : Bk:=cu k (mJ 9)
theorem nY (k : Bk) : (wZ k).length=32:=kg _
theorem Bm (k u : Bk) : (cu k u).length=32:=kg _
def eO (root own other : Bk) : bC:=⟨gp root (cu own other),own,other,true,false,gM root (cu own other),bO,0,0,0,[]⟩
def ew (root own : Bk) : bC:=⟨root,own,bO,false,false,bO,bO,0,0,0,[]⟩
theorem pn (root own other : Bk) (h2 : own.length=32) (h3 : other.length=32) : (eO root own other).ok:=
  ⟨lH _ _,h2,h3,lI _ _,rfl,nofun⟩
theorem nZ (root own : Bk) (h1 : root.length=32) (h2 : own.length=32) : (ew root own).ok:=⟨h1,h2,rfl,rfl,rfl,nofun⟩
def qy (s : bC) : Hd:=⟨wZ s.own,s.prev,s.sent⟩
def jj (key side p : Bk) : Bk:=mz (k1 key) (k2 key) Ec side p
def uE (s : bC) : bC:={ s with send:=Bl s.send,sent:=s.sent+1 }
def uF (s : bC) (side p : Bk) : Bk:=eW (qy s)++jj (DG s.send) (side++eW (qy s)) p
def gr (s : bC) (side p : Bk) : bC × Bk × Nat:=
  if s.ay=false then (s,[],13) else if 2147483647≤s.sent then (s,[],12) else (uE s,uF s side p,0)
theorem n5 (s : bC) : (qy s).chain.length=32:=nY _
theorem vS {s : bC} (h : s.ok) : (uE s).ok:=⟨h.root,h.own,h.other,rfl,h.take,h.kept⟩
def GV : Nat→Bk→Bk
  | 0,c=>c
  | k+1,c=>GV k (Bl c)
def GW (o : Bk) : Nat→Nat→Bk→List Kp
  | 0,_,_=>[]
  | k+1,t,c=>⟨o,t,DG c⟩::GW o k (t+1) (Bl c)
def keep (l : List Kp) : List Kp:=(l.reverse.take 2000).reverse
def trim (s : bC) : bC:={ s with kept:=keep s.kept }
def Hr (s : bC) (k : Nat) : bC:={ s with take:=GV k s.take,taken:=s.taken+k,kept:=s.kept++GW s.other k s.taken s.take }
def leave (s : bC) (to : Nat) : Option bC:=
  if 1000<to - s.taken then none else some (trim (Hr s (to - s.taken)))
def uG (n : bC) (ch fresh : Bk) : bC:=
  ⟨gp (gp n.root (cu n.own ch)) (cu fresh ch),fresh,ch,true,true,gM (gp n.root (cu n.own ch)) (cu fresh ch),gM n.root (cu n.own ch),0,0,n.sent,n.kept⟩
def Gj (s : bC) (h : Hd) (fresh : Bk) : Option bC:=
  if s.takes=true then (leave s h.prev).map fun n=>uG n h.chain fresh else some (uG s h.chain fresh)
def Hs (s : bC) (h : Hd) (fresh : Bk) : Option bC:=if h.chain=s.other∧s.takes=true then some s else Gj s h fresh
end gB
end
section
open Sl ec gE cV
namespace gB
open iZ fF
end gB
end
section
set_option maxRecDepth 10000
namespace Sl
section
variable {P : Program} {t tx e : TypeId}
theorem mK (w : World) (ty : TypeId) (i : TypeInfo) (ht : P.underlying t=some (.slice e)) (hk : P.underlying tx=some (.int .i64)) (hi : P.info? e=some i) (hz : i.zero=some (.int .u8 0)) (hs : i.size=1) (hb : i.bytes=1)
    (m : Nat) (hm : m≤281474976710656) (h0 : 0<m) (hfit : Builtin.nextslicecap m 0 * i.bytes≤281474976710656) :
    (Builtin.append_ #[t,tx] ty #[.slice none 0 0,N m]).run P w =
      .ok (.slice (some ⟨w.heap.size,0,none⟩) m (grownCap w m 0 e))
        (w.drew.alloc (.cells ((List.replicate m (Value.int .u8 0)).toArray++Builtin.zeroCells #[.int .u8 0] (grownCap w m 0 e - m)) e)):=by
  have h48' : ¬ (281474976710656<Builtin.nextslicecap m 0):=by rw [hb] at hfit;omega
  have hw : IntKind.i64.wrap (m : Int)=m:=mg (by omega) (by omega)
  have h1 : ¬ ((m : Int)<0):=by omega
  have h2 : ¬ ((281474976710656 : Int)<(m : Int)):=by omega
  have h3 : ¬ (m=0):=by omega
  have h63' : ¬ (9223372036854775807<(m : Int)):=by omega
  have hz' : (Value.int .u8 0).cells=#[Value.int .u8 0]:=rfl
  simp [Builtin.append_,Builtin.firstCells,run_underlying ht,run_underlying hk,sizeOf,typeInfo,zeroValue,hi,hz,hs,hb,asInt,asIntOf,N,hw,h1,h2,h3,h63',h48',Question.forced,newRow,grownCap,hz',pV]
variable {n : Nat} {w0 : World} {S : List Nat} {ops : Array Oper} {Q : Exit→Act→World→Prop} {l : List Oper} {E : Env} {M : List aJ} {d b : Nat} {ty : TypeId} {pos : String} {aft : Array Edge} {x y : Operand}
theorem JL.zo {m : Nat} (hu : P.underlying t=some (.slice e)) (hk : P.underlying tx=some (.int .i64)) (hi : EI P e (.int .u8 0) 1 1) (hx : ev E x=some (.slice none 0 0)) (hy : ev E y=some (N m)) (h0 : 0<m)
    (hsm : m≤140737488355328) (hd : Nat.blt d n=true)
    (kk : ∀ b' cap',JL P n w0 S ops Q l ((d,.slice (some ⟨b',0,none⟩) m cap')::E) (⟨b',Sl.cJ e 1 m cap' (List.replicate m (Value.int .u8 0)),true⟩::M)) : JL P n w0 S ops Q (⟨some d,.call ⟨.builtin .append,#[x,y],#[t,tx]⟩,ty,pos,aft,none⟩::l) E M:=
  ⟨fun a w ha hw=>wpList_plain rfl fun K hK=>by
    obtain ⟨i,hi1,hi2,hi3,hi4⟩:=hi.get
    unfold Oper.wp
    simp only [execOp,resolve,invoke,builtin,Sem.run_bind,Sem.run_pure,Result.andThen_ok,List.map_toArray,List.map_cons,List.map_nil,ha.eval hx,ha.eval hy]
    have hfit:=growslice_fits (need:=m) (old:=0) (bytes:=1) (by omega) (by omega)
    rw [mK w ty i hu hk hi1 hi2 hi3 hi4 m (by omega) h0 (by rw [hi4];exact hfit)]
    have hge:=grownCap_ge w m 0 e
    generalize grownCap w m 0 e=nc at hge
    refine hK _ _ ((kk w.heap.size nc).go _ _ (ha.put d _ hd) (hw.push (.cells ((List.replicate m (Value.int .u8 0)).toArray++Builtin.zeroCells #[.int .u8 0] (nc - m)) e) ?_ rfl rfl rfl rfl))
    refine ⟨(Builtin.zeroCells #[.int .u8 0] (nc - m)).toList,by simp,?_,by rw [List.length_replicate,Nat.mul_one],hge⟩
    have h8 : (Builtin.zeroCells #[.int .u8 0] (nc - m)).size=nc - m:=by simp [Builtin.zeroCells]
    simp only [List.length_append,Array.length_toList,h8,List.length_replicate]
    omega⟩
end
end Sl
end
section
set_option maxRecDepth 10000
open Sl
theorem Ff : fP Tryd.prog 27=true:=by kernel_rfl
theorem Bn : dm Tryd.prog 27=some 1:=by kernel_rfl
theorem uH : aR Tryd.prog 52:=⟨_,Tryd.func52,rfl,by kernel_rfl⟩
theorem kC : aR Tryd.prog 28:=⟨_,Tryd.func28,rfl,by kernel_rfl⟩
theorem zp {e : TypeId} {k cap : Nat} {xs : List Value} : ∀ o,Sl.cJ e 1 k cap xs o→Sl.cJ e 1 0 cap [] o:=by
  rintro o ⟨sp,rfl,h1,h2,h3⟩
  exact ⟨xs++sp,rfl,by simpa using h1,rfl,Nat.zero_le _⟩
set_option maxHeartbeats 4000000 in
theorem w5 (m : Nat) (h0 : 0<m) (hm : m≤1000000000) (w : World) :
    Calls Tryd.prog 52 [.slice none 0 0,N m].toArray w fun e w'=>∃ x : Nat × Nat,e=.returned (.slice (some ⟨x.1,0,none⟩) 0 x.2)∧ah w [] [⟨x.1,Sl.cJ 5 1 0 x.2 [],true⟩] w':=by
  refine enter (n:=27) Tryd.func52 rfl rfl rfl (ah.start w []) ?_
  repeat (first | refine JL.q (by first|(apply OQ.gW (a:=m) (b:=0);rfl;rfl;exact (by omega))|(apply OQ.move;rfl)|(apply OQ.assign;rfl)) rfl ?_ | refine JC.seq ?_ | refine JC.region ?_ | refine JL.nil ?_ | refine JE.next ?_)
  refine JC.cond_false rfl rfl ?_
  repeat (first | refine JL.q (by first|(apply OQ.Eu (k:=0) (cap:=0) (ad:=none);exact Tryd.underlying27;rfl)|(apply OQ.len (k:=0) (cap:=0) (ad:=none);exact Tryd.underlying27;rfl)|(apply OQ.mG (a:=0) (b:=0);rfl;rfl;exact (by decide);exact (by decide))|(apply OQ.mG (a:=m) (b:=0);rfl;rfl;exact (by omega);exact (by omega))|(apply OQ.Cy (a:=m - 0) (b:=0);rfl;rfl;exact (by omega))|(apply OQ.move;rfl)|(apply OQ.assign;rfl)) rfl ?_ | refine JC.seq ?_ | refine JC.region ?_ | refine JC.skip ?_ | refine JL.nil ?_ | refine JE.next ?_)
  refine JC.cond_true rfl rfl ?_
  repeat (first | refine JL.q (by first|(apply OQ.Eu (k:=0) (cap:=0) (ad:=none);exact Tryd.underlying27;rfl)|(apply OQ.tn (hi:=0) (len:=0) (cap:=0) (ad:=none);exact Tryd.underlying27;exact dH;rfl;rfl;exact (by decide))|(apply OQ.move;rfl)) rfl ?_ | refine JC.region ?_)
  refine JL.zo (m:=m - 0) Tryd.underlying27 Tryd.underlying3 qN rfl rfl (by omega) (by omega) rfl fun b cap=>?_
  rw [Nat.sub_zero]
  refine JL.Et (b:=b) .here (fun ob hA=>by obtain ⟨sp,_,_,_,h3⟩:=hA;exact h3) fun hcap=>?_
  repeat (first | refine JL.q (by first|(apply OQ.len (k:=0) (cap:=0) (ad:=none);exact Tryd.underlying27;rfl)|(apply OQ.to;exact (OQ.tn (ad:=some ⟨b,0,none⟩) (len:=m) (cap:=cap) (hi:=0) Tryd.underlying27 dH rfl rfl (Nat.zero_le _));exact xX)|(apply OQ.move;rfl)|(apply OQ.assign;rfl)) rfl ?_ | refine JC.seq ?_ | refine JC.region ?_ | refine JL.nil ?_ | refine JE.next ?_)
  exact JC.ret (JE.aM rfl (RV.tmp rfl) fun w' hw=>⟨(b,cap),rfl,hw.weak (.keep _ _ _ _ _ _ zp (.nil _))⟩)
def iA (a b : aT) : Nat→List Bt
  | 0=>[]
  | 1=>a.l
  | _=>a.l++b.l
def DH (a b : aT) : Nat→aT
  | 0=>a
  | _=>b
theorem uI {i : Nat} (h : i<2) : i=0∨i=1:=by omega
theorem pq (a b : aT) {i : Nat} (h : i<2) : iA a b (i+1)=iA a b i++(DH a b i).l:=by
  rcases uI h with rfl | rfl <;> rfl
theorem zq (a b : aT) {i : Nat} (h : i<2) : [a.v,b.v][i]?=some (DH a b i).v:=by
  rcases uI h with rfl | rfl <;> rfl
theorem vT (a b : aT) (i : Nat) : (iA a b i).length≤a.l.length+b.l.length:=by
  match i with
  | 0=>exact Nat.zero_le _
  | 1=>exact Nat.le_add_right _ _
  | i+2=>exact Nat.le_of_eq List.length_append
set_option maxHeartbeats 8000000 in
theorem mB (a b : aT) (bs : Nat) (w : World) (ha : a.ok w) (hb : b.ok w) (hs : ∃ o,w.heap[bs]?=some o∧Row 27 [a.v,b.v] o) (h0 : 0<a.l.length+b.l.length) (hl : a.l.length+b.l.length≤1000000000) :
    Calls Tryd.prog 28 [.slice (some ⟨bs,0,none⟩) 2 2].toArray w fun e w'=>∃ x : Nat × Nat,e=.returned (.slice (some ⟨x.1,0,none⟩) (a.l++b.l).length x.2)∧ah w [] [⟨x.1,Sl.cJ 5 1 (a.l++b.l).length x.2 ((a.l++b.l).map U8),true⟩] w':=by
  obtain ⟨o,ho,hA⟩:=hs
  have hok : ∀ i,i<2→(DH a b i).ok w:=fun i h=>by rcases uI h with rfl | rfl <;> assumption
  refine enter (n:=36) Tryd.func28 rfl rfl rfl (ah.seen (S:=[]) ho hA) ?_
  repeat (first | refine JL.q (by first|(apply OQ.len (k:=2);exact Tryd.underlying88;rfl)|(apply OQ.move;rfl)|(apply OQ.assign;rfl)) rfl ?_ | refine JC.seq ?_ | refine JC.region ?_ | refine JC.block ?_ | refine JL.nil ?_ | refine JE.next ?_)
  refine JC.loop (fun i : Nat=>[(0,.slice (some ⟨bs,0,none⟩) 2 2),(3,N (iA a b i).length),(9,.slice (some ⟨bs,0,none⟩) 2 2),(10,N 2),(11,N i)]) (fun _=>[⟨bs,Row 27 [a.v,b.v],false⟩]) (fun i=>2 - i) (fun i=>i≤2) 0 (by decide) (by repeat (first | exact aj.nil | refine aj.cons _ _ _ rfl ?_)) (ax.refl _) ?_
  intro i hi
  repeat (first | refine JL.q (by (apply OQ.cF (a:=i) (b:=2);rfl;rfl)) rfl ?_ | refine JC.seq ?_ | refine JC.region ?_ | refine JL.nil ?_ | refine JE.next ?_)
  refine JC.cond rfl (fun h=>?_) (fun h=>?_)
  · have hi' : i<2:=of_decide_eq_true h
    clear h
    have hv:=zq a b hi'
    have hcs:=pq a b hi'
    have hle:=vT a b (i+1)
    have hln : (iA a b (i+1)).length=(iA a b i).length+(DH a b i).l.length:=by rw [hcs,List.length_append]
    generalize DH a b i=s at hv hln
    have hcell : ∀ o,Row 27 [a.v,b.v] o→cellAt o (0+i)=some s.v:=by rw [Nat.zero_add];exact Row.cell hv
    repeat (first | refine JL.q (by first|(apply OQ.eC (i:=i) (b:=bs) (j:=0);exact Tryd.underlying88;exact Bn;rfl;rfl;exact hi')|(apply OQ.load (v:=s.v);exact Ff;rfl;exact .here;exact hcell)|(apply OQ.len (k:=s.l.length) (ad:=s.ad) (cap:=s.cap);exact Tryd.underlying27;rfl)|(apply OQ.bH (a:=(iA a b i).length) (b:=s.l.length);rfl;rfl;exact (by omega))|(apply OQ.gW (a:=(iA a b i).length+s.l.length) (b:=0);rfl;rfl;exact (by omega))|(apply OQ.move;rfl)|(apply OQ.assign;rfl)) rfl ?_ | refine JC.seq ?_ | refine JC.region ?_ | refine JC.block ?_ | refine JC.skip ?_ | refine JL.nil ?_ | refine JE.next ?_)
    refine JC.cond_false rfl rfl ?_
    repeat (first | refine JL.q (by first|(apply OQ.bH (a:=i) (b:=1);rfl;rfl;exact (by omega))|(apply OQ.move;rfl)) rfl ?_ | refine JC.region ?_ | refine JC.skip ?_ | refine JL.nil ?_ | refine JE.next ?_ | refine JE.az ?_)
    rw [← hln]
    exact JE.again (i:=i) (i+1) hi' (by omega) (by repeat (first | exact aj.nil | refine aj.cons _ _ _ rfl ?_)) (ax.refl _)
  · have hi' : i=2:=by have:=of_decide_eq_false h;omega
    subst hi'
    clear h hi
    have hcl : (iA a b 2).length=a.l.length+b.l.length:=List.length_append
    repeat (first | refine JL.q (by (apply OQ.move;rfl)) rfl ?_ | refine JC.seq ?_ | refine JC.region ?_ | refine JC.exit ?_ | refine JE.next ?_ | refine JE.aB ?_ | refine JE.aG ?_)
    refine JL.dK (ι:=Nat × Nat) (vs:=[.slice none 0 0,N (iA a b 2).length]) (fun x=>.slice (some ⟨x.1,0,none⟩) 0 x.2) (fun x=>[⟨x.1,Sl.cJ 5 1 0 x.2 [],true⟩]) uH rfl rfl (fun i=>by simp) (fun w' hw'=>w5 _ (by omega) (by omega) w') ?_
    rintro ⟨bx,cap⟩
    try dsimp only
    repeat (first | refine JL.q (by first|(apply OQ.len (k:=2);exact Tryd.underlying88;rfl)|(apply OQ.move;rfl)|(apply OQ.assign;rfl)) rfl ?_ | refine JC.seq ?_ | refine JC.region ?_ | refine JC.block ?_ | refine JL.nil ?_ | refine JE.next ?_)
    refine JC.loop (fun z : Nat × Nat × Nat=>[(0,.slice (some ⟨bs,0,none⟩) 2 2),(6,.slice (some ⟨z.2.1,0,none⟩) (iA a b z.1).length z.2.2),(25,.slice (some ⟨bs,0,none⟩) 2 2),(26,N 2),(27,N z.1)]) (fun z=>[⟨z.2.1,Sl.cJ 5 1 (iA a b z.1).length z.2.2 ((iA a b z.1).map U8),true⟩,⟨bs,Row 27 [a.v,b.v],false⟩]) (fun z=>2 - z.1) (fun z=>z.1≤2) (0,bx,cap) (Nat.zero_le _) (by repeat (first | exact aj.nil | refine aj.cons _ _ _ rfl ?_)) (ax.refl _) ?_
    rintro ⟨i,bx,cap⟩ hi
    dsimp only at hi ⊢
    repeat (first | refine JL.q (by (apply OQ.cF (a:=i) (b:=2);rfl;rfl)) rfl ?_ | refine JC.seq ?_ | refine JC.region ?_ | refine JL.nil ?_ | refine JE.next ?_)
    refine JC.cond rfl (fun h=>?_) (fun h=>?_)
    · have hi' : i<2:=of_decide_eq_true h
      clear h
      have hv:=zq a b hi'
      have hso:=hok i hi'
      have hcs:=pq a b hi'
      have hle:=vT a b (i+1)
      have hln : (iA a b (i+1)).length=(iA a b i).length+(DH a b i).l.length:=by rw [hcs,List.length_append]
      generalize DH a b i=s at hv hln hcs hso
      have hcell : ∀ o,Row 27 [a.v,b.v] o→cellAt o (0+i)=some s.v:=by rw [Nat.zero_add];exact Row.cell hv
      repeat (first | refine JL.q (by first|(apply OQ.eC (i:=i) (b:=bs) (j:=0);exact Tryd.underlying88;exact Bn;rfl;rfl;exact hi')|(apply OQ.load (v:=s.v);exact Ff;rfl;exact (.there .here);exact hcell)|(apply OQ.move;rfl)|(apply OQ.assign;rfl)) rfl ?_ | refine JC.seq ?_ | refine JC.region ?_ | refine JC.block ?_ | refine JC.skip ?_ | refine JL.nil ?_ | refine JE.next ?_)
      refine JL.append (cs:=s.l.map U8) (m:=s.l.length) (ad:=s.ad) (sc:=s.cap) (fun b' cap'=>[⟨b',Sl.cJ 5 1 ((iA a b i).length+s.l.length) cap' ((iA a b i).map U8++s.l.map U8),true⟩,⟨bs,Row 27 [a.v,b.v],false⟩]) Tryd.underlying27 qN rfl rfl (by intro _ _;repeat (first | exact c9.here | apply c9.there)) (by rw [List.length_map,Nat.mul_one]) (fun w' hw'=>(hso.holds hw' rfl).reads) (fun v hv=>by obtain ⟨q,_,rfl⟩:=List.mem_map.1 hv;rfl) rfl (by decide) (by omega) (by omega) rfl fun b' cap'=>?_
      rw [← List.map_append,← hcs,← hln]
      repeat (first | refine JL.q (by first|(apply OQ.bH (a:=i) (b:=1);rfl;rfl;exact (by omega))|(apply OQ.move;rfl)|(apply OQ.assign;rfl)) rfl ?_ | refine JC.region ?_ | refine JL.nil ?_ | refine JE.next ?_ | refine JE.az ?_)
      exact JE.again (ι:=Nat × Nat × Nat) (i:=(i,bx,cap)) (i+1,b',cap') hi' (by dsimp only;omega) (by repeat (first | exact aj.nil | refine aj.cons _ _ _ rfl ?_)) (ax.refl _)
    · have hi' : i=2:=by have:=of_decide_eq_false h;omega
      subst hi'
      clear h hi
      repeat (first | refine JL.q (by first|(apply OQ.move;rfl)|(apply OQ.assign;rfl)) rfl ?_ | refine JC.seq ?_ | refine JC.region ?_ | refine JC.exit ?_ | refine JL.nil ?_ | refine JE.next ?_ | refine JE.aB ?_ | refine JE.aG ?_)
      refine JC.ret (JE.aM rfl (RV.tmp rfl) fun w' hw=>⟨(bx,cap),rfl,hw.weak (.keep _ _ _ _ _ _ (fun _ h=>h) (.nil _))⟩)
end
section
set_option maxRecDepth 10000
open Sl
section
variable {P : Program} {n : Nat} {w0 : World} {S : List Nat} {ops : Array Oper} {Q : Exit→Act→World→Prop} {l : List Oper} {E : Env} {M : List aJ} {C : World→Prop}
variable {dst : Option Tmp} {d : Nat} {t t' e ty : TypeId} {pos : String} {aft : Array Edge} {g : Option (Nat × Bool)} {x y : Operand}
theorem JL.pA {ι : Type} {X M0 : List aJ} (vf : ι→Value) (Yf : ι→List aJ) {f : FuncId} {xs : List Operand} {ats : Array TypeId} {vs : List Value} (hg : aR P f) (hx : kQ E xs=some vs) (hd : Nat.blt d n=true) (hX : ∀ e ∈ X,e.wr=true) (hY : ∀ i,∀ e ∈ Yf i,e.wr=true)
    (hc : ∀ w,ah w0 S (X++M0) w→ah w (keys X) X w→Calls P f vs.toArray w fun e w'=>∃ i,e=.returned (vf i)∧ah w (keys X) (Yf i) w')
    (k : ∀ i,JL P n w0 S ops Q l ((d,vf i)::E) (Yf i++M0)) : JL P n w0 S ops Q (⟨some d,.call ⟨.value (.func f),xs.toArray,ats⟩,ty,pos,aft,none⟩::l) E (X++M0):=
  JL.call (ι:=ι) vf (fun i=>Yf i++M0) hg hx hd (fun w hw=>(hc w hw (hw.own.weak (fh _ _))).mono fun _ _ ⟨i,h1,h2⟩=>⟨i,h1,hw.B2 h2 hX (hY i)⟩) k
theorem OQ.zu {ad : Option Addr} {k cap : Nat} (hu : P.underlying t=some (.slice e)) (hx : ev E x=some (.slice ad k cap)) (hy : ev E y=some (.slice none 0 0)) :
    OQ P n E C ⟨dst,.binOp .eql t x y t',ty,pos,aft,g⟩ (.bool ad.isNone):=
  OQ.run fun c ha w _=>by
    have h1:=ha.eval hx
    have h2:=ha.eval hy
    have h4 : (binOp .eql t (.slice ad k cap) (.slice none 0 0)).run P w=.ok (.bool ad.isNone) w:=by
      show (do pure (.bool (← Op.equal t (.slice ad k cap) (.slice none 0 0))) : Sem Value).run P w=_
      simp [Sem.run_bind,run_equal_slice_nil w t e ad k cap hu]
    simp [execOp,h1,h2,eqGuard,h4]
end
end
section
set_option maxRecDepth 10000
open Sl ec
def Fg : Nat→List (Nat × Nat)
  | 2=>[(1,5)]
  | 3=>[(0,4),(2,6)]
  | 6=>[(5,9)]
  | 7=>[(4,8),(6,10)]
  | 8=>[(3,7)]
  | 9=>[(7,11)]
  | _=>[]
def Gk : Nat→List Nat
  | 2=>[1]
  | 3=>[2,12]
  | 6=>[5]
  | 7=>[6,12]
  | 8=>[11]
  | 9=>[10]
  | _=>[]
def Gl : Nat→List Nat
  | 2=>[1]
  | 6=>[5]
  | 8=>[11]
  | 9=>[10]
  | _=>[]
theorem zw {c : List B} (hc : c.length=32) {w' : World} {b b6 b5 : Nat} {u : B} (h1 : ∃ o,w'.heap[b]?=some o∧Row 23 (c.map U8) o) (h2 : ∃ o,w'.heap[b6]?=some o∧Row 27 [.slice (some ⟨b5,0,none⟩) 1 1] o) (h3 : ∃ o,w'.heap[b5]?=some o∧Row 5 [U8 u] o) (hG : fI w') :
    Calls Tryd.prog 48 [.slice (some ⟨b,0,none⟩) 32 32,.slice (some ⟨b6,0,none⟩) 1 1].toArray w' fun e w''=>e=.returned (.agg ((cY c [u]).map U8).toArray)∧Ext w' w'':=by
  obtain ⟨o1,ho1,hA1⟩:=h1
  obtain ⟨o2,ho2,hA2⟩:=h2
  obtain ⟨o3,ho3,hA3⟩:=h3
  have h4 : aT.ok w' ⟨some ⟨b5,0,none⟩,1,[u]⟩:=⟨by simp,Reads.block ho3 (Row.all _ hA3)⟩
  have:=ke ⟨some ⟨b,0,none⟩,32,c⟩ (some ⟨b6,0,none⟩) 1 [⟨some ⟨b5,0,none⟩,1,[u]⟩] w' hG ⟨Nat.le_of_eq hc,Reads.block ho1 (Row.all _ hA1)⟩ (Reads.block ho2 (Row.all _ hA2)) (by simpa using h4) (show c.length<4611686018427387904 by omega) (by simp) (by simp [total])
  simpa [aT.v,hc] using this
set_option maxHeartbeats 8000000 in
theorem w6 (c : List B) (hc : c.length=32) (w : World) (hG : fI w) :
    Calls Tryd.prog 26 [.agg (c.map U8).toArray].toArray w fun e w'=>e=.returned (.tuple #[.agg ((cY c [2]).map U8).toArray,.agg ((cY c [1]).map U8).toArray])∧Ext w w':=by
  refine enter (n:=12) Tryd.func26 rfl rfl rfl (ah.start w []) ?_
  repeat (first | refine JC.seq ?_ | refine JC.region ?_)
  refine JL.box (r:=c.map U8) rfl rfl rfl fun b1 _=>?_
  refine JL.alloc ie rfl fun b2 _=>?_
  refine JL.alloc ie rfl fun b3 _=>?_
  repeat (first | refine JC.seq ?_ | refine JL.nil ?_ | refine JE.next ?_)
  let vs : Nat→X→Value:=fun i x=>match i with
    | 0=>.slice (some ⟨b1,0,none⟩) 32 32
    | 1=>.slice (some ⟨x.1,0,none⟩) 1 1
    | 2=>.slice (some ⟨x.1,0,none⟩) 1 1
    | 3=>.agg ((cY c [2]).map U8).toArray
    | 4=>.slice (some ⟨b1,0,none⟩) 32 32
    | 5=>.slice (some ⟨x.1,0,none⟩) 1 1
    | 6=>.slice (some ⟨x.1,0,none⟩) 1 1
    | _=>.agg ((cY c [1]).map U8).toArray
  let Ms : Nat→X→List aJ:=fun i x=>match i with
    | 1=>[⟨x.1,Row 5 [U8 2],true⟩]
    | 2=>[⟨x.1,Row 27 [.slice (some ⟨x.2,0,none⟩) 1 1],true⟩,⟨x.2,Row 5 [U8 2],true⟩]
    | 5=>[⟨x.1,Row 5 [U8 1],true⟩]
    | 6=>[⟨x.1,Row 27 [.slice (some ⟨x.2,0,none⟩) 1 1],true⟩,⟨x.2,Row 5 [U8 1],true⟩]
    | 8=>[⟨b2,Row 23 ((cY c [2]).map U8),true⟩]
    | 9=>[⟨b3,Row 23 ((cY c [1]).map U8),true⟩]
    | 12=>[⟨b1,Row 23 (c.map U8),true⟩]
    | 11=>[⟨b2,Row 23 ((List.replicate 32 (0 : B)).map U8),true⟩]
    | 10=>[⟨b3,Row 23 ((List.replicate 32 (0 : B)).map U8),true⟩]
    | _=>[]
  refine JC.grow (g:=⟨[(1,Pt b1 0),(2,Pt b2 0),(3,Pt b3 0)],13,vs,Ms,Fg,Gk,Gl,fun _=>none⟩) [] [8,9] mixed (by repeat (first | exact aj.nil | refine aj.cons _ _ _ rfl ?_)) ?_ ?_ ?_ ?_ ?_ ?_
  · exact ax.refl _
  · rfl
  · rfl
  · rfl
  · refine ⟨?_,?_,?_,?_,?_,?_,?_,?_,?_,?_,trivial⟩
    · intro x EF MF Q kk
      exact JL.q (OQ.iT Tryd.underlying23 s5 rfl) rfl (JL.nil (kk (0,0) nofun))
    · intro x EF MF Q kk
      exact JL.gy Tryd.underlying27 e5 rfl rfl rfl rfl fun b _=>JL.nil (kk (b,0) nofun)
    · intro x EF MF Q kk
      exact JL.gy Tryd.underlying88 tV rfl rfl rfl rfl fun b _=>JL.nil (kk (b,(x 1).1) nofun)
    · intro x EF MF Q kk
      refine JL.q (OQ.an (vs:=[.slice (some ⟨b1,0,none⟩) 32 32,.slice (some ⟨(x 2).1,0,none⟩) 1 1]) ep rfl fun w' hw'=>zw hc (hw'.get (.there (.there .here))) (hw'.get .here) (hw'.get (.there .here)) (hG.aH hw'.aH (by simp))) rfl (JL.nil (kk (0,0) nofun))
    · intro x EF MF Q kk
      exact JL.q (OQ.iT Tryd.underlying23 s5 rfl) rfl (JL.nil (kk (0,0) nofun))
    · intro x EF MF Q kk
      exact JL.gy Tryd.underlying27 e5 rfl rfl rfl rfl fun b _=>JL.nil (kk (b,0) nofun)
    · intro x EF MF Q kk
      exact JL.gy Tryd.underlying88 tV rfl rfl rfl rfl fun b _=>JL.nil (kk (b,(x 5).1) nofun)
    · intro x EF MF Q kk
      refine JL.q (OQ.an (vs:=[.slice (some ⟨b1,0,none⟩) 32 32,.slice (some ⟨(x 6).1,0,none⟩) 1 1]) ep rfl fun w' hw'=>zw hc (hw'.get (.there (.there .here))) (hw'.get .here) (hw'.get (.there .here)) (hG.aH hw'.aH (by simp))) rfl (JL.nil (kk (0,0) nofun))
    · intro x EF MF Q kk
      exact JL.ag fA rfl rfl (dW _) (ee _) .here (by simp) (JL.nil (kk (0,0) nofun))
    · intro x EF MF Q kk
      exact JL.ag fA rfl rfl (dW _) (ee _) .here (by simp) (JL.nil (kk (0,0) nofun))
  · intro x _
    repeat (refine JE.next ?_)
    refine JC.ret ?_
    skip
    refine JE.fQ rfl (RV.av ow fA rfl .here (dW _) Row.all) (RV.av ow fA rfl (.there .here) (dW _) Row.all) fun w' hw=>⟨rfl,hw.aH⟩
end
section
set_option maxRecDepth 10000
open Sl ec gE cV gB
open iZ (Bk)
open fF
theorem dn : dm Tryd.prog 26=some 166:=by kernel_rfl
theorem fL : ei Tryd.prog 26=true:=by kernel_rfl
theorem qz : dm Tryd.prog 57=some 65:=by kernel_rfl
theorem Fv : ei Tryd.prog 57=true:=by kernel_rfl
theorem Ed : EI Tryd.prog 57 (.agg (c6 oN).toArray) 65 72:=by unfold EI;kernel_rfl
theorem GX : zc Tryd.prog 57=some (c6 oN):=by kernel_rfl
def aD : bC:=⟨bO,bO,bO,false,false,bO,bO,0,0,0,[]⟩
theorem aC : aD.ok:=⟨rfl,rfl,rfl,rfl,rfl,nofun⟩
theorem qQ : zc Tryd.prog 26=some (sec aD (.slice none 0 0)):=by kernel_rfl
def pB : Hd:=⟨bO,0,0⟩
theorem bg : fP Tryd.prog 3=true:=by kernel_rfl
theorem zx : dm Tryd.prog 3=some 1:=by kernel_rfl
theorem cg : fP Tryd.prog 4=true:=by kernel_rfl
theorem ef : fP Tryd.prog 24=true:=by kernel_rfl
theorem DI : dm Tryd.prog 24=some 1:=by kernel_rfl
theorem n6 : Tryd.prog.eqGuardType Tryd.prog.depth 23=false:=by kernel_rfl
structure fX where
  ad : Option Addr
  cap : Nat
  l : List Kp
def fX.v (s : fX) : Value:=.slice s.ad s.l.length s.cap
structure fX.ok (w : World) (s : fX) : Prop where
  len : s.l.length≤s.cap
  reads : Reads w s.ad (bS s.l).flatten
  all : ∀ k ∈ s.l,k.ok
theorem fX.ok.holds {w0 w : World} {S : List Nat} {M : List aJ} {s : fX} (h : s.ok w0) (hw : ah w0 S M w) (hS : S=[]) : s.ok w:=⟨h.len,hw.reads h.reads (fun _ a _=>by rw [hS];simp),h.all⟩
def Fh : fX:=⟨none,0,[]⟩
theorem Bo (w : World) : Fh.ok w:=⟨Nat.le_refl _,Reads.nil _ _,nofun⟩
def lJ (q : Acc) (l : List Kp) : fX:=match q with
  | none=>Fh
  | some p=>⟨some ⟨p.1,0,none⟩,p.2,l⟩
theorem lK (q : Acc) (l : List Kp) : (lJ q l).v=aA q l.length:=by cases q <;> rfl
theorem lN {q : Acc} {l : List Kp} (h : q=none→l=[]) : (lJ q l).l=l:=by
  cases q with
  | none=>exact (h rfl).symm
  | some p=>rfl
def fD (q : Acc) (l : List Kp) : List aJ:=mH 57 65 q (bS l)
theorem jD (q : Acc) (l : List Kp) : ∀ x ∈ fD q l,x.wr=true:=Ax _ _ _ _
theorem iR {w0 w : World} {S : List Nat} {M : List aJ} {q : Acc} {l : List Kp} (hl : ∀ k ∈ l,k.ok) (hw : ah w0 S (fD q l++M) w) : (lJ q l).ok w:=by
  cases q with
  | none=>exact Bo w
  | some p=>
    have hw : ah w0 S (⟨p.1,Sl.cJ 57 65 (bS l).length p.2 (bS l).flatten,true⟩::M) w:=hw
    obtain ⟨o,ho,hA⟩:=hw.get .here
    have hh:=Sl.cJ.cells _ hA
    obtain ⟨sp,rfl,h2,h3,h4⟩:=hA
    exact ⟨by rw [dM] at h4;exact h4,Reads.block ho hh,hl⟩
theorem dj (q : Acc) (k : Nat) : (aA q k).oneCell'=true:=by cases q <;> rfl
theorem jE (q : Acc) (k : Nat) : (aA q k).cells=#[aA q k]:=by cases q <;> rfl
def Tb (S : List Nat) (w : World) : Prop:=(fI w∧1 ∉ S)∧(GQ w∧0 ∉ S)
theorem Tb.g {w0 w : World} {S : List Nat} {M : List aJ} (h : Tb S w0) (hw : ah w0 S M w) : fI w:=h.1.1.aH hw.aH h.1.2
theorem Tb.q {w0 w : World} {S : List Nat} {M : List aJ} (h : Tb S w0) (hw : ah w0 S M w) : GQ w:=h.2.1.aH hw.aH h.2.2
theorem Tb.own {w0 w : World} {S : List Nat} {X M : List aJ} (h : Tb S w0) (hw : ah w0 S (X++M) w) (hX : ∀ e ∈ X,e.wr=true) : Tb (keys X) w:=by
  have hk : ∀ g,g<w0.heap.size→g ∉ S→g ∉ keys X:=fun g hg hS hm=>by
    obtain ⟨e,he,rfl⟩:=List.mem_map.1 hm
    rcases (hw.all e (List.mem_append_left _ he)).2 (hX e he) with h1 | h1
    · exact hS h1
    · omega
  exact ⟨⟨h.g hw,hk _ h.1.1.lt h.1.2⟩,⟨h.q hw,hk _ h.2.1.lt h.2.2⟩⟩
theorem Tb.nil {w : World} (h1 : fI w) (h2 : GQ w) : Tb [] w:=⟨⟨h1,by simp⟩,⟨h2,by simp⟩⟩
theorem Tb.same {S : List Nat} {w0 w : World} {M : List aJ} (h : Tb S w0) (hw : ah w0 S M w) : Tb S w:=⟨⟨h.g hw,h.1.2⟩,⟨h.q hw,h.2.2⟩⟩
def kD (a : Int) : Bool:=decide (0≤a) && decide (a≤2147483647)
theorem cX : aR Tryd.prog 64:=⟨_,Tryd.func64,rfl,by kernel_rfl⟩
set_option maxHeartbeats 4000000 in
theorem kE (a : Int) (w : World) : Calls Tryd.prog 64 [I a].toArray w fun e w'=>e=.returned (.bool (kD a))∧Ext w w':=by
  refine enter (n:=9) Tryd.func64 rfl rfl rfl (ah.start w []) ?_
  unfold kD
  obtain ⟨c1,h1⟩ : ∃ c,decide ((0 : Int)≤a)=c:=⟨_,rfl⟩
  obtain ⟨c2,h2⟩ : ∃ c,decide (a≤2147483647)=c:=⟨_,rfl⟩
  rw [h1,h2]
  cases c1
  · repeat (first | refine JL.q (by first|(apply OQ.we (b:=0);rfl;rfl;exact h1)|(apply OQ.bG;rfl;rfl)|(apply OQ.move;rfl)|(apply OQ.assign;rfl)) rfl ?_ | refine JC.seq ?_ | refine JC.region ?_ | refine JL.nil ?_ | refine JE.next ?_ | refine JL.dJ rfl rfl rfl rfl ?_)
    exact JC.ret (JE.aM rfl (RV.tmp rfl) fun w' hw=>⟨rfl,hw.aH⟩)
  · repeat (first | refine JL.q (by first|(apply OQ.we (b:=0);rfl;rfl;exact h1)|(apply OQ.Av (b:=2147483647);rfl;rfl;exact h2)|(apply OQ.bV;rfl;rfl)|(apply OQ.move;rfl)|(apply OQ.assign;rfl)) rfl ?_ | refine JC.seq ?_ | refine JC.region ?_ | refine JL.nil ?_ | refine JE.next ?_ | refine JL.bn rfl rfl ?_)
    exact JC.ret (JE.aM rfl (RV.tmp rfl) fun w' hw=>⟨rfl,hw.aH⟩)
theorem w7 : aR Tryd.prog 39:=⟨_,Tryd.func39,rfl,by kernel_rfl⟩
set_option maxHeartbeats 4000000 in
theorem zy (q : Acc) (xs : Bk) (m : Nat) (hq : q=none→xs=[]) (hl : xs.length≤70000000000) (hm : m<9223372036854775808) (w : World) (hw : ah w (keys (aZ 5 q (xs.map U8))) (aZ 5 q (xs.map U8)) w) :
    Calls Tryd.prog 39 [aA q xs.length,N m].toArray w fun e w'=>∃ r : Nat × Nat,e=.returned (aA (some r) (xs++b4 m).length)∧ah w (keys (aZ 5 q (xs.map U8))) (aZ 5 (some r) ((xs++b4 m).map U8)) w':=by
  generalize hS : keys (aZ 5 q (xs.map U8))=S at hw ⊢
  refine enter (n:=9) Tryd.func39 rfl rfl rfl hw ?_
  repeat (first | refine JL.q (by first|(apply OQ.gf;exact Tryd.underlying3;exact Tryd.underlying76;rfl)|(apply OQ.move;rfl)|(apply OQ.assign;rfl)) rfl ?_ | refine JC.seq ?_ | refine JC.region ?_ | refine JL.nil ?_ | refine JE.next ?_)
  refine JL.gj (M':=aZ 5 q (xs.map U8)++[]) (by rw [List.append_nil];exact ax.refl _) ?_
  refine JL.yq (m:=BitVec.ofNat 64 m) (by decide) (by decide) hq (by omega) rfl rfl rfl rfl fun r=>?_
  rw [List.append_nil]
  repeat (first | refine JL.q (by (apply OQ.assign;rfl)) rfl ?_ | refine JL.nil ?_ | refine JE.next ?_)
  exact JC.ret (JE.aM rfl (RV.tmp rfl) fun w' hw=>⟨r,rfl,hw⟩)
theorem JL.Bp {n : Nat} {w0 : World} {S : List Nat} {ops : Array Oper} {Q : Exit→Act→World→Prop} {l : List Oper} {E : Env} {M : List aJ} {d : Nat} {ty : TypeId} {pos : String} {aft : Array Edge} {x1 x2 : Operand} {ats : Array TypeId} {q : Acc} {xs : Bk} {m : Nat} (hq : q=none→xs=[]) (hl : xs.length≤70000000000) (hm : m<9223372036854775808) (e1 : ev E x1=some (aA q xs.length)) (e2 : ev E x2=some (N m)) (hd : Nat.blt d n=true)
    (kk : ∀ r : Nat × Nat,JL Tryd.prog n w0 S ops Q l ((d,aA (some r) (xs++b4 m).length)::E) (aZ 5 (some r) ((xs++b4 m).map U8)++M)) : JL Tryd.prog n w0 S ops Q (⟨some d,.call ⟨.value (.func 39),#[x1,x2],ats⟩,ty,pos,aft,none⟩::l) E (aZ 5 q (xs.map U8)++M):=
  JL.xW (ι:=Nat × Nat) (xs:=[x1,x2]) (vs:=[aA q xs.length,N m]) (fun r=>aA (some r) (xs++b4 m).length) (fun r=>aZ 5 (some r) ((xs++b4 m).map U8)) w7 (by simp [kQ,e1,e2]) hd (eT _ _ _) (fun _=>eT _ _ _)
    (fun w hw=>zy q xs m hq hl hm w (hw.weak (fh _ _))) kk
theorem zz : aR Tryd.prog 24:=⟨_,Tryd.func24,rfl,by kernel_rfl⟩
set_option maxHeartbeats 8000000 in
theorem Bq (h : Hd) (hl : h.chain.length=32) (h1 : h.prev<9223372036854775808) (h2 : h.num<9223372036854775808) (w : World) :
    Calls Tryd.prog 24 [.agg (hdc h).toArray].toArray w fun e w'=>∃ x : Nat × Nat,e=.returned (.slice (some ⟨x.1,0,none⟩) 40 x.2)∧ah w [] [⟨x.1,Sl.cJ 5 1 40 x.2 ((eW h).map U8),true⟩] w':=by
  have hL:=pY hl
  have hcl : (h.chain.map U8).length=32:=by rw [List.length_map];exact hl
  refine enter (n:=17) Tryd.func24 rfl rfl rfl (ah.start w []) ?_
  repeat (first | refine JC.seq ?_ | refine JC.region ?_)
  refine JL.box (r:=hdc h) rfl rfl rfl fun b1 _=>?_
  repeat (first | refine JL.q (by (apply OQ.assign;rfl)) rfl ?_ | refine JC.seq ?_ | refine JC.region ?_ | refine JL.nil ?_ | refine JE.next ?_)
  refine JL.vi (c:=40) Tryd.underlying27 qN rfl rfl (by decide) rfl fun b3 _=>?_
  repeat (first | refine JL.q (by first|(apply OQ.iT;exact Tryd.underlying23;exact dH;rfl)|(apply OQ.move;rfl)|(apply OQ.assign;rfl)|(apply OQ.cw;rfl;rfl;rfl;exact (by decide);rfl)) rfl ?_ | refine JC.seq ?_ | refine JC.region ?_ | refine JL.nil ?_ | refine JE.next ?_)
  refine JL.append (cs:=h.chain.map U8) (m:=32) (fun b' cap'=>[⟨b',Sl.cJ 5 1 (0+32) cap' ([]++h.chain.map U8),true⟩,⟨b1,Row 62 (hdc h),true⟩]) Tryd.underlying27 qN rfl rfl (by intro _ _;repeat (first | exact c9.here | apply c9.there)) hcl (fun w' hw'=>?_) (fun v hv=>List.all_eq_true.1 (ee h.chain) v hv) rfl (by decide) (by decide) (by decide) rfl fun b4' cap=>?_
  · obtain ⟨o,ho,hA⟩:=hw'.get (.there .here)
    exact Reads.block ho (Row.cells (wk hl) _ hA)
  rw [List.nil_append,Nat.zero_add]
  have hp : ∀ o,Row 62 (hdc h) o→cellAt o 32=some (N h.prev):=Row.cell (xY hl)
  have hn : ∀ o,Row 62 (hdc h) o→cellAt o 33=some (N h.num):=Row.cell (Az hl)
  have ev1 : Value.slice (some ⟨b4',0,none⟩) 32 cap=aA (some (b4',cap)) h.chain.length:=by rw [hl];rfl
  rw [ev1]
  refine JL.gj (M':=aZ 5 (some (b4',cap)) (h.chain.map U8)++[⟨b1,Row 62 (hdc h),true⟩]) (.keep _ _ _ _ _ _ (fun o ho=>by dsimp only;rw [hcl];exact ho) (ax.refl _)) ?_
  have hH : ∀ xs : List Value,Has (aZ 5 (some (b4',cap)) xs++[(⟨b1,Row 62 (hdc h),true⟩ : aJ)]) b1 (Row 62 (hdc h)) true:=fun _=>.there .here
  repeat (first | refine JL.q (by first|(apply OQ.load;exact bg;rfl;exact (hH _);exact hp)|(apply OQ.move;rfl)|(apply OQ.assign;rfl)|(apply OQ.cw;rfl;rfl;rfl;exact (by decide);rfl)) rfl ?_ | refine JC.seq ?_ | refine JC.region ?_ | refine JL.nil ?_ | refine JE.next ?_)
  refine JL.Bp (q:=some (b4',cap)) (xs:=h.chain) (m:=h.prev) nofun (by omega) h1 rfl rfl rfl fun r=>?_
  have hH2 : ∀ xs : List Value,Has (aZ 5 (some r) xs++[(⟨b1,Row 62 (hdc h),true⟩ : aJ)]) b1 (Row 62 (hdc h)) true:=fun _=>.there .here
  repeat (first | refine JL.q (by first|(apply OQ.load;exact bg;rfl;exact (hH2 _);exact hn)|(apply OQ.move;rfl)|(apply OQ.assign;rfl)|(apply OQ.cw;rfl;rfl;rfl;exact (by decide);rfl)) rfl ?_ | refine JC.seq ?_ | refine JC.region ?_ | refine JL.nil ?_ | refine JE.next ?_)
  refine JL.Bp (q:=some r) (xs:=h.chain++b4 h.prev) (m:=h.num) nofun (by rw [List.length_append,eo];omega) h2 rfl rfl rfl fun r2=>?_
  have e2 : h.chain++b4 h.prev++b4 h.num=eW h:=rfl
  rw [e2]
  repeat (first | refine JL.q (by (apply OQ.assign;rfl)) rfl ?_ | refine JL.nil ?_ | refine JE.next ?_)
  refine JC.ret (JE.aM rfl (RV.tmp rfl) fun w' hw=>⟨r2,by rw [hL];rfl,hw.weak (.keep _ _ _ _ _ _ (fun o ho=>?_) (.nil _))⟩)
  rw [List.length_map,hL] at ho
  exact ho
end
section
set_option maxRecDepth 10000
open Sl ec gE cV gB
open iZ (Bk)
theorem Gm {a : Bk} (h : a.length=64) : ((a.map U8).drop (0+0 * 32)).take ((a.take 32).map U8).length=(a.take 32).map U8:=by
  rw [List.length_map,List.length_take,h,List.map_take]
  rfl
theorem Fi {a : Bk} (h : a.length=64) : ((a.map U8).drop (0+1 * 32)).take ((a.drop 32).map U8).length=(a.drop 32).map U8:=by
  rw [List.length_map,List.length_drop,h,← List.map_drop,Nat.zero_add,Nat.one_mul,List.take_of_length_le (by simp [h])]
theorem zA : aR Tryd.prog 34:=⟨_,Tryd.func34,rfl,by kernel_rfl⟩
set_option maxHeartbeats 8000000 in
theorem Br (root sh : Bk) (h1 : root.length=32) (h2 : sh.length=32) (w : World) (hG : fI w) :
    Calls Tryd.prog 34 [.agg (root.map U8).toArray,.agg (sh.map U8).toArray].toArray w fun e w'=>e=.returned (.tuple #[.agg ((gp root sh).map U8).toArray,.agg ((gM root sh).map U8).toArray])∧Ext w w':=by
  have hk : ∀ (b1 b2 : Nat) (w : World),fI w→aT.ok w ⟨some ⟨b1,0,none⟩,32,root⟩→aT.ok w ⟨some ⟨b2,0,none⟩,32,sh⟩→Calls Tryd.prog 63 [.slice (some ⟨b1,0,none⟩) 32 32,.slice (some ⟨b2,0,none⟩) 32 32,.string Bj,N 2].toArray w fun e w'=>∃ bq,e=.returned (.tuple #[.slice (some ⟨bq,0,none⟩) 2 2,N 0])∧ah w [] [⟨bq,Row 23 ((nX root sh).map U8),true⟩] w':=fun b1 b2 w hG ho1 ho2=>by
    have:=rQ ⟨some ⟨b1,0,none⟩,32,root⟩ ⟨some ⟨b2,0,none⟩,32,sh⟩ Bj 2 (by decide) w hG ho1 ho2 (by rw [h1];decide) (by rw [h2];decide) (by decide)
    rwa [show aT.v ⟨some ⟨b1,0,none⟩,32,root⟩=.slice (some ⟨b1,0,none⟩) 32 32 by simp [aT.v,h1],show aT.v ⟨some ⟨b2,0,none⟩,32,sh⟩=.slice (some ⟨b2,0,none⟩) 32 32 by simp [aT.v,h2]] at this
  have hlT:=lG root sh
  have hlA : ((gp root sh).map U8).length=32:=by rw [List.length_map];exact lH _ _
  have hlC : ((gM root sh).map U8).length=32:=by rw [List.length_map];exact lI _ _
  have r0 : (((nX root sh).map U8).drop (0+0 * 32)).take ((gp root sh).map U8).length=(gp root sh).map U8:=Gm hlT
  have r1 : (((nX root sh).map U8).drop (0+1 * 32)).take ((gM root sh).map U8).length=(gM root sh).map U8:=Fi hlT
  generalize gp root sh=tA at *
  generalize gM root sh=tC at *
  generalize nX root sh=tB at *
  have hl1 : (root.map U8).length=32:=by rw [List.length_map];exact h1
  have hl2 : (sh.map U8).length=32:=by rw [List.length_map];exact h2
  refine enter (n:=20) Tryd.func34 rfl rfl rfl (ah.start w []) ?_
  repeat (first | refine JC.seq ?_ | refine JC.region ?_)
  refine JL.box (r:=root.map U8) rfl rfl rfl fun b2 _=>?_
  refine JL.box (r:=sh.map U8) rfl rfl rfl fun b3 _=>?_
  refine JL.alloc iW rfl fun b4 _=>?_
  refine JL.alloc iW rfl fun b5 _=>?_
  repeat (first | refine JC.seq ?_ | refine JL.nil ?_ | refine JE.next ?_)
  let vs : Nat→Nat→Value:=fun j y=>match j with
    | 0=>.slice (some ⟨b2,0,none⟩) 32 32
    | 1=>.slice (some ⟨b3,0,none⟩) 32 32
    | 2=>.tuple #[.slice (some ⟨y,0,none⟩) 2 2,N 0]
    | 3=>.tuple #[.slice (some ⟨y,0,none⟩) 2 2,N 0]
    | 4=>.slice (some ⟨y,0,none⟩) 2 2
    | 5=>N 0
    | 6=>.slice (some ⟨y,0,none⟩) 2 2
    | 7=>N 0
    | _=>N 0
  let Ms : Nat→Nat→List aJ:=fun j y=>match j with
    | 2=>[⟨y,Row 23 (tB.map U8),true⟩]
    | 8=>[⟨b5,Row 23 ((List.replicate 32 (0 : B)).map U8),true⟩]
    | 9=>[⟨b4,Row 23 ((List.replicate 32 (0 : B)).map U8),true⟩]
    | 10=>[⟨b3,Row 23 (sh.map U8),true⟩]
    | 11=>[⟨b2,Row 23 (root.map U8),true⟩]
    | _=>[]
  refine JC.grow (g:=⟨[(2,Pt b2 0),(3,Pt b3 0),(4,Pt b4 0),(5,Pt b5 0)],12,vs,Ms,(fun j=>match j with | 2=>[(0,9),(1,10)] | 3=>[(2,11)] | 4=>[(3,8)] | 5=>[(3,8)] | 6=>[(4,12)] | 7=>[(5,13)] | _=>[]),(fun j=>match j with | 2=>[11,10] | _=>[]),(fun j=>match j with | _=>[]),(fun j=>match j with | 3=>some 2 | 4=>some 3 | 6=>some 4 | _=>none)⟩) [(6,6)] [2,9,8] iV (by repeat (first | exact aj.nil | refine aj.cons _ _ _ rfl ?_)) ?_ (by kernel_rfl) (by kernel_rfl) (by kernel_rfl) ?_ ?_
  · exact ax.refl _
  · refine ⟨?_,?_,?_,?_,?_,?_,?_,?_,trivial⟩
    · (intro xx EF MF Q kk;(try refine JL.bn rfl rfl ?_);exact JL.q (OQ.iT Tryd.underlying23 dH rfl) rfl (JL.nil (kk default nofun)))
    · (intro xx EF MF Q kk;(try refine JL.bn rfl rfl ?_);exact JL.q (OQ.iT Tryd.underlying23 dH rfl) rfl (JL.nil (kk default nofun)))
    · (intro xx EF MF Q kk;exact JL.dK (ι:=Nat) (vs:=[.slice (some ⟨b2,0,none⟩) 32 32,.slice (some ⟨b3,0,none⟩) 32 32,.string Bj,N 2]) (fun b=>.tuple #[.slice (some ⟨b,0,none⟩) 2 2,N 0]) (fun b=>[⟨b,Row 23 (tB.map U8),true⟩]) oV rfl rfl (fun i=>by simp) (fun w' hw'=>hk b2 b3 w' (hG.aH hw'.aH (by simp)) (ju hw' .here rfl (Nat.le_of_eq h1)) (ju hw' (.there .here) rfl (Nat.le_of_eq h2))) fun b=>JL.nil (kk b nofun))
    · (intro xx EF MF Q kk;(try refine JL.bn rfl rfl ?_);exact JL.q (OQ.move rfl) rfl (JL.nil (kk (xx 2) (fun k h=>by cases h;rfl))))
    · (intro xx EF MF Q kk;(try refine JL.bn rfl rfl ?_);exact JL.q (OQ.extract rfl rfl) rfl (JL.nil (kk (xx 3) (fun k h=>by cases h;rfl))))
    · (intro xx EF MF Q kk;(try refine JL.bn rfl rfl ?_);exact JL.q (OQ.extract rfl rfl) rfl (JL.nil (kk default nofun)))
    · (intro xx EF MF Q kk;(try refine JL.bn rfl rfl ?_);exact JL.q (OQ.assign rfl) rfl (JL.nil (kk (xx 4) (fun k h=>by cases h;rfl))))
    · (intro xx EF MF Q kk;(try refine JL.bn rfl rfl ?_);exact JL.q (OQ.assign rfl) rfl (JL.nil (kk default nofun)))
  · intro xx hx
    have e1:=hx 6 4 (by decide) rfl
    have e2:=hx 4 3 (by decide) rfl
    have e3:=hx 3 2 (by decide) rfl
    show JE _ _ _ _ _ [(6,.slice (some ⟨xx 6,0,none⟩) 2 2),(2,Pt b2 0),(3,Pt b3 0),(4,Pt b4 0),(5,Pt b5 0)] [⟨xx 2,Row 23 (tB.map U8),true⟩,⟨b4,Row 23 ((List.replicate 32 (0 : B)).map U8),true⟩,⟨b5,Row 23 ((List.replicate 32 (0 : B)).map U8),true⟩]
    rw [e1,e2,e3]
    generalize xx 2=bk
    clear hx e1 e2 e3 xx vs Ms
    repeat (first | refine JC.seq ?_ | refine JE.next ?_)
    let vs : Nat→Nat→Value:=fun j y=>match j with
      | 0=>.slice (some ⟨bk,0,none⟩) 2 2
      | 1=>Pt bk 0
      | 2=>.agg (tA.map U8).toArray
      | 3=>.slice (some ⟨bk,0,none⟩) 2 2
      | 4=>Pt bk (0+1 * 32)
      | 5=>.agg (tC.map U8).toArray
      | _=>N 0
    let Ms : Nat→Nat→List aJ:=fun j y=>match j with
      | 6=>[⟨b4,Row 23 (tA.map U8),true⟩]
      | 7=>[⟨b5,Row 23 (tC.map U8),true⟩]
      | 8=>[⟨bk,Row 23 (tB.map U8),true⟩]
      | 9=>[⟨b4,Row 23 ((List.replicate 32 (0 : B)).map U8),true⟩]
      | 10=>[⟨b5,Row 23 ((List.replicate 32 (0 : B)).map U8),true⟩]
      | _=>[]
    refine JC.grow (g:=⟨[(4,Pt b4 0),(5,Pt b5 0),(6,.slice (some ⟨bk,0,none⟩) 2 2)],11,vs,Ms,(fun j=>match j with | 1=>[(0,14)] | 2=>[(1,15)] | 4=>[(3,17)] | 5=>[(4,18)] | 6=>[(2,16)] | 7=>[(5,19)] | _=>[]),(fun j=>match j with | 2=>[8] | 5=>[8] | 6=>[9] | 7=>[10] | _=>[]),(fun j=>match j with | 6=>[9] | 7=>[10] | _=>[]),(fun j=>match j with | _=>none)⟩) [] [6,7] iV (by repeat (first | exact aj.nil | refine aj.cons _ _ _ rfl ?_)) ?_ (by kernel_rfl) (by kernel_rfl) (by kernel_rfl) ?_ ?_
    · exact ax.refl _
    · refine ⟨?_,?_,?_,?_,?_,?_,?_,?_,trivial⟩
      · (intro xx EF MF Q kk;(try refine JL.bn rfl rfl ?_);exact JL.q (OQ.move rfl) rfl (JL.nil (kk default nofun)))
      · (intro xx EF MF Q kk;(try refine JL.bn rfl rfl ?_);exact JL.q (OQ.gw (sz:=32) (i:=0) Tryd.underlying96 aO rfl rfl (by decide)) rfl (JL.nil (kk default nofun)))
      · (intro xx EF MF Q kk;(try refine JL.bn rfl rfl ?_);exact JL.q (OQ.af (cs:=tA.map U8) bB aO rfl .here hlA (Row.cells r0)) rfl (JL.nil (kk default nofun)))
      · (intro xx EF MF Q kk;(try refine JL.bn rfl rfl ?_);exact JL.q (OQ.move rfl) rfl (JL.nil (kk default nofun)))
      · (intro xx EF MF Q kk;(try refine JL.bn rfl rfl ?_);exact JL.q (OQ.gw (sz:=32) (i:=1) Tryd.underlying96 aO rfl rfl (by decide)) rfl (JL.nil (kk default nofun)))
      · (intro xx EF MF Q kk;(try refine JL.bn rfl rfl ?_);exact JL.q (OQ.af (cs:=tC.map U8) bB aO rfl .here hlC (Row.cells r1)) rfl (JL.nil (kk default nofun)))
      · (intro xx EF MF Q kk;exact JL.ag (cs:=tA.map U8) aO rfl rfl hlA (cQ _) .here (by simp) (JL.nil (kk default nofun)))
      · (intro xx EF MF Q kk;exact JL.ag (cs:=tC.map U8) aO rfl rfl hlC (cQ _) .here (by simp) (JL.nil (kk default nofun)))
    · intro xx hx
      show JE _ _ _ _ _ [(4,Pt b4 0),(5,Pt b5 0),(6,.slice (some ⟨bk,0,none⟩) 2 2)] [⟨b4,Row 23 (tA.map U8),true⟩,⟨b5,Row 23 (tC.map U8),true⟩]
      repeat (refine JE.next ?_)
      refine JC.ret (JE.fQ rfl (RV.av bB aO rfl .here hlA Row.all) (RV.av bB aO rfl (.there .here) hlC Row.all) ?_)
      exact fun w' hw=>⟨rfl,hw.aH⟩
theorem sC : aR Tryd.prog 46:=⟨_,Tryd.func46,rfl,by kernel_rfl⟩
theorem w8 (l : List Kp) : ∀ v ∈ (bS l).flatten,v.oneCell'=true:=by
  intro v hv
  obtain ⟨c,hc,hv⟩:=List.mem_flatten.1 hv
  obtain ⟨k,_,rfl⟩:=List.mem_map.1 hc
  exact List.all_eq_true.1 (mR k) v hv
theorem pC {l : List Kp} (h : ∀ k ∈ l,k.ok) : (bS l).flatten.length=l.length * 65:=by rw [e6 (rC h),dM]
abbrev qA (l : List Kp):={ q : Acc // q=none→l=[] }
set_option maxHeartbeats 4000000 in
theorem uJ (s : fX) (w : World) (hs : s.ok w) (hl : s.l.length≤1000000) : Calls Tryd.prog 46 [s.v].toArray w fun e w'=>∃ q : qA s.l,e=.returned (aA q.1 s.l.length)∧ah w [] (fD q.1 s.l) w':=by
  refine enter (n:=8) Tryd.func46 rfl rfl rfl (ah.start w []) ?_
  have hfl:=pC hs.all
  obtain ⟨ad,cap,l⟩:=s
  cases ad with
  | none=>
    have h0 : l=[]:=by
      cases l with
      | nil=>rfl
      | cons c l=>
        obtain ⟨b,j,h1,_⟩:=hs.reads.at (by simp only [] at hfl;rw [hfl];simp)
        cases h1
    subst h0
    repeat (first | refine JL.q (by first|(apply OQ.zu (ad:=none) (k:=0) (cap:=cap);exact Tryd.underlying24;rfl;rfl)|(apply OQ.move;rfl)|(apply OQ.assign;rfl)) rfl ?_ | refine JC.seq ?_ | refine JC.region ?_ | refine JL.nil ?_ | refine JE.next ?_)
    refine JC.cond_true rfl rfl ?_
    repeat (first | refine JL.q (by (apply OQ.assign;rfl)) rfl ?_ | refine JC.seq ?_ | refine JC.region ?_ | refine JL.nil ?_ | refine JE.next ?_)
    refine JC.ret ?_
    repeat (refine JE.aN ?_)
    exact JE.aM rfl (RV.tmp rfl) fun w' hw=>⟨⟨none,fun _=>rfl⟩,rfl,hw⟩
  | some ad=>
    repeat (first | refine JL.q (by first|(apply OQ.zu (ad:=some ad) (k:=l.length) (cap:=cap);exact Tryd.underlying24;rfl;rfl)|(apply OQ.move;rfl)|(apply OQ.assign;rfl)) rfl ?_ | refine JC.seq ?_ | refine JC.region ?_ | refine JL.nil ?_ | refine JE.next ?_)
    refine JC.cond_false rfl rfl ?_
    repeat (first | refine JC.seq ?_ | refine JC.region ?_ | refine JC.skip ?_ | refine JE.next ?_)
    refine JL.FK Tryd.underlying24 Ed rfl fun b0 _=>?_
    repeat (refine JL.q (by (apply OQ.move;rfl)) rfl ?_)
    refine JL.append (cs:=(bS l).flatten) (m:=l.length) (ad:=some ad) (sc:=cap) (xs:=[]) (fun b' cap'=>[⟨b',Sl.cJ 57 65 (0+l.length) cap' ([]++(bS l).flatten),true⟩]) Tryd.underlying24 Ed rfl rfl (by intro _ _;repeat (first | exact c9.here | apply c9.there)) hfl (fun w' hw'=>(hs.holds hw' rfl).reads) (w8 l) rfl (by decide) (by simp only [] at hl;omega) (by simp only [] at hl;omega) rfl fun b1 cap1=>?_
    rw [Nat.zero_add,List.nil_append]
    repeat (first | refine JL.q (by (apply OQ.assign;rfl)) rfl ?_ | refine JL.nil ?_ | refine JE.next ?_)
    refine JC.ret (JE.aM rfl (RV.tmp rfl) fun w' hw=>⟨⟨some (b1,cap1),nofun⟩,rfl,?_⟩)
    show ah w [] [⟨b1,Sl.cJ 57 65 (bS l).length cap1 (bS l).flatten,true⟩] w'
    rw [dM]
    exact hw
theorem sE : aR Tryd.prog 23:=⟨_,Tryd.func23,rfl,by kernel_rfl⟩
set_option maxHeartbeats 4000000 in
theorem uK (s : bC) (k : fX) (hs : s.ok) (w : World) (hk : k.ok w) (he : k.l=s.kept) (hl : s.kept.length≤1000000) : Calls Tryd.prog 23 [.agg (sec s k.v).toArray].toArray w fun e w'=>∃ q : qA s.kept,e=.returned (.agg (sec s (aA q.1 s.kept.length)).toArray)∧ah w [] (fD q.1 s.kept) w':=by
  have hv1 : k.v.oneCell'=true:=rfl
  have hl1:=au hs k.v
  refine enter (n:=8) Tryd.func23 rfl rfl rfl (ah.start w []) ?_
  repeat (first | refine JC.seq ?_ | refine JC.region ?_)
  refine JL.box (r:=sec s k.v) rfl rfl rfl fun b1 _=>?_
  refine JL.alloc qQ rfl fun b2 _=>?_
  repeat (first | refine JL.q (by first|(apply OQ.load;exact ef;rfl;exact (.there .here);exact (Row.cell (fk hs k.v)))|(apply OQ.cw;rfl;rfl;rfl;exact (by decide);rfl)) rfl ?_ | refine JC.seq ?_ | refine JC.region ?_ | refine JL.nil ?_ | refine JE.next ?_)
  rw [← he] at hl
  refine JL.dK (ι:=qA k.l) (vs:=[k.v]) (fun q=>aA q.1 k.l.length) (fun q=>fD q.1 k.l) sC rfl rfl (fun q=>jD _ _) (fun w' hw'=>uJ k w' (hk.holds hw' rfl) hl) ?_
  rintro ⟨q,hq⟩
  try dsimp only
  rw [he] at hq ⊢
  have hl2:=au hs (aA q s.kept.length)
  refine JL.perm (M':=⟨b2,Row 26 (sec aD (.slice none 0 0)),true⟩::⟨b1,Row 26 (sec s k.v),true⟩::fD q s.kept) ?_ (by exact List.perm_append_comm (l₂:=[_,_]))
  repeat (refine JL.q (by (apply OQ.cw;rfl;rfl;rfl;exact (by decide);rfl)) rfl ?_)
  refine JL.aU (r:=sec s k.v) (r':=sec s (aA q s.kept.length)) DI rfl rfl (dj _ _) (jE _ _) (.there .here) (by rw [hl1];decide) (gD hs _ _ _) ?_
  repeat (first | refine JL.q (by (apply OQ.af (cs:=sec s (aA q s.kept.length));exact fL;exact dn;rfl;exact (.there .here);exact hl2;exact Row.all)) rfl ?_ | refine JC.seq ?_ | refine JC.region ?_ | refine JL.nil ?_ | refine JE.next ?_)
  refine JL.ag (cs:=sec s (aA q s.kept.length)) dn rfl rfl hl2 (bA (dj _ _)) .here (au aC _) ?_
  repeat (first | refine JL.nil ?_ | refine JE.next ?_)
  refine JC.ret (JE.aM rfl (RV.av fL dn rfl .here hl2 Row.all) ?_)
  exact fun w' hw=>⟨⟨q,hq⟩,rfl,hw.weak (.drop _ _ _ (.drop _ _ _ (ax.refl _)))⟩
end
section
set_option maxRecDepth 10000
open Sl
namespace Sl
section
variable {P : Program} {n : Nat} {w0 : World} {S : List Nat} {ops : Array Oper} {Q : Exit→Act→World→Prop} {l : List Oper} {E : Env} {M M' : List aJ} {C : World→Prop}
variable {dst : Option Tmp} {d b : Nat} {t e ty : TypeId} {pos : String} {aft : Array Edge} {g : Option (Nat × Bool)} {x y z u : Operand} {cs : List Value}
theorem zip_map {a : Act} (hk : bD n E a) : ∀ {is : List Nat} {xs : List Operand} {vs : List Value},kQ E xs=some vs→(is.zip xs).map (fun p=>(p.1,a.eval p.2))=is.zip vs
  | [],xs,vs,_=>by simp
  | i::is,[],vs,h=>by
    simp only [kQ,Option.some.injEq] at h
    subst h
    rfl
  | i::is,x::xs,vs,h=>by
    simp only [kQ] at h
    cases h1 : ev E x with
    | none=>simp [h1] at h
    | some v=>
      cases h2 : kQ E xs with
      | none=>simp [h1,h2] at h
      | some us=>
        simp only [h1,h2,Option.some.injEq] at h
        subst h
        simp [hk.eval h1,zip_map hk h2]
theorem OQ.dZ {ps : Array (Nat × Operand)} (is : List Nat) (xs : List Operand) {vs : List Value} (hps : ps=(is.zip xs).toArray) (hx : kQ E xs=some vs) (h : P.built t (is.zip vs)=some cs.toArray) : OQ P n E C ⟨dst,.build t ps,ty,pos,aft,g⟩ (.agg cs.toArray):=
  OQ.run fun a ha w _=>by
    have hm : ps.map (fun (i,x)=>(i,a.eval x))=(is.zip vs).toArray:=by
      rw [hps,List.map_toArray,← zip_map ha hx]
    have r:=run_build w t (is.zip vs).toArray cs.toArray (by simpa using h)
    simp only [execOp,hm,Sem.run_bind,r,Result.andThen_ok]
    rfl
end
end Sl
end
section
set_option maxRecDepth 10000
open Sl ec gE cV gB
open iZ (Bk)
theorem lO {k : Kp} (h : k.ok) : ((c6 k).drop 0).take (k.chain.map U8).length=k.chain.map U8:=by simp [c6]
theorem qB {k : Kp} (h : k.ok) : (c6 k)[32]?=some (N k.num):=by simp [c6,h.c]
theorem qC {k : Kp} (h : k.ok) : ((c6 k).drop 33).take (k.key.map U8).length=k.key.map U8:=by
  rw [c6,show (33 : Nat)=(k.chain.map U8).length+1 by simp [h.c],← List.drop_drop,List.drop_left,List.drop_one,List.tail_cons,List.take_of_length_le (Nat.le_refl _)]
end
section
set_option maxRecDepth 10000
open Sl ec gE cV gB
open iZ (Bk)
theorem fX.ok.at {w : World} {s : fX} (h : s.ok w) {i : Nat} (hi : i<s.l.length) : ∃ b j,s.ad=some ⟨b,j,none⟩∧b<w.heap.size∧∀ k u,(c6 (s.l.getD i oN))[k]?=some u→w.cell? ⟨b,j+i * 65+k,none⟩=some u:=by
  have hl:=pC h.all
  have h0 : 0<(bS s.l).flatten.length:=by omega
  obtain ⟨b,j,e,hc⟩:=h.reads.at h0
  refine ⟨b,j,e,?_,fun k u hu=>?_⟩
  · obtain ⟨v,hv⟩ : ∃ v,(bS s.l).flatten[0]?=some v:=⟨_,List.getElem?_eq_getElem h0⟩
    exact block_lt_of_cell (hc 0 v hv)
  · have hat:=jZ (i:=i) (rC h.all) (by rw [dM];exact hi)
    rw [Ay _ hi] at hat
    rw [← hat,List.getElem?_take] at hu
    split at hu
    · rw [List.getElem?_drop] at hu
      rw [Nat.add_assoc]
      exact hc _ u hu
    · cases hu
theorem fX.mem {s : fX} {i : Nat} (hi : i<s.l.length) : s.l.getD i oN ∈ s.l:=by
  rw [List.getD_eq_getElem?_getD,List.getElem?_eq_getElem hi]
  exact List.getElem_mem hi
structure Hy (o : Option bC) where
  q : Acc
  s : bC
  code : Nat
  ok : s.ok
  nil : q=none→s.kept=[]
  is : (o=none∧code=12)∨(o=some s∧code=0)
theorem DJ {c k : Bk} {m : Nat} (hc : c.length=32) (hk : k.length=32) : (c6 ⟨c,m,bO⟩).take 33++k.map U8++(c6 ⟨c,m,bO⟩).drop (33+(k.map U8).length)=c6 ⟨c,m,k⟩:=by
  have:=jv (a:=c.map U8++[N m]) (b:=bO.map U8) (c:=[]) (j:=33) (k:=32) (k.map U8) (by simp [hc]) rfl
  rw [List.length_map,hk]
  simpa [c6,List.append_assoc] using this
end
section
set_option maxRecDepth 10000
open Sl ec gE cV gB
open iZ (Bk)
structure Ht (o : Option bC) (ch fresh : Bk) where
  q : Acc
  s : bC
  ok : s.ok
  nil : q=none→s.kept=[]
  is : o=some (uG s ch fresh)
end
section
set_option maxRecDepth 10000
open Sl ec gE cV gB
open iZ (Bk)
section
variable {n : Nat} {w0 : World} {S : List Nat} {ops : Array Oper} {Q : Exit→Act→World→Prop} {l : List Oper} {E : Env} {M : List aJ} {d : Nat} {ty : TypeId} {pos : String} {aft : Array Edge} {x1 x2 x3 : Operand} {ats : Array TypeId} {b : Nat} {q : Acc} {s : bC}
end
structure Hz (o : Nat ⊕ (bC × Bk)) where
  q : Acc
  s : bC
  key : Bk
  code : Nat
  ok : s.ok
  nil : q=none→s.kept=[]
  kl : key.length=32
  is : (o=.inl code∧(code=11∨code=12))∨(o=.inr (s,key)∧code=0)
structure HA (o : Option bC) where
  q : Acc
  s : bC
  ok : s.ok
  nil : q=none→s.kept=[]
  is : o=some s
  kl : s.kept.length≤2000
  tk : s.taken≤2147483648
end
section
set_option maxRecDepth 10000
open Sl
end
section
set_option maxRecDepth 10000
open Sl ec gE cV gB
open iZ (Bk)
def Cl (s : aT) (S : List Nat) : Prop:=s.l≠[]→∀ a,s.ad=some a→a.block ∉ S
theorem aT.ok.off {w0 w : World} {S : List Nat} {M : List aJ} {s : aT} (h : s.ok w0) (hw : ah w0 S M w) (ha : Cl s S) : s.ok w:=
  ⟨h.len,hw.reads h.reads fun h0 a e=>ha (fun h1=>h0 (by rw [h1];rfl)) a e⟩
theorem Cl.snd {s : aT} {S : List Nat} (h : Cl s S) (m : Nat) : Cl (s.snd m) S:=by
  intro h0 a ha
  have h1 : s.l≠[]:=fun e=>h0 (by show s.l.drop m=[];rw [e,List.drop_nil])
  cases hs : s.ad with
  | none=>
    simp only [aT.snd,hs] at ha
    split at ha <;> cases ha
  | some p=>
    have h2:=h h1 p hs
    simp only [aT.snd,hs] at ha
    split at ha
    · cases ha;exact h2
    · cases ha
      obtain ⟨pb,po,ps⟩:=p
      by_cases hm : m=0 <;> cases ps <;> simpa [Addr.add,hm] using h2
theorem OQ.DK {n : Nat} {w0 : World} {S : List Nat} {M : List aJ} {E : Env} {dst : Option Tmp} {ty t : TypeId} {pos : String} {aft : Array Edge} {g : Option (Nat × Bool)} {x : Operand} {s : aT} {m : Nat} (hs : s.ok w0) (ho : Cl s S) (hl : m≤s.l.length) (h0 : 0<m) (hz : dm Tryd.prog t=some m) (ha : ei Tryd.prog t=true) (hx : ev E x=some (.pointer s.ad)) :
    OQ Tryd.prog n E (ah w0 S M) ⟨dst,.load t x,ty,pos,aft,g⟩ (.agg ((s.l.take m).map U8).toArray):=by
  obtain ⟨b,j,hae,hca⟩:=hs.reads.at (by simp;omega)
  rw [hae] at hx
  have hlm : ((s.l.take m).map U8).length=m:=by rw [List.length_map,List.length_take,Nat.min_eq_left hl]
  refine OQ.bJ ha hx (by rw [hlm];exact hz) (block_lt_of_cell (hca 0 _ (dx U8 0 (by omega)))) (ho (fun e=>by rw [e] at hl;simp at hl;omega) _ hae) fun i u hu=>?_
  rw [List.map_take,List.getElem?_take] at hu
  split at hu
  · exact hca i u hu
  · cases hu
theorem DL (s : aT) (m : Nat) : (s.fst m).ad=s.ad:=by
  unfold aT.fst
  dsimp only
  split
  · rfl
  · cases s.ad with
    | none=>rfl
    | some a=>rw [Option.map_some,Addr.add_zero']
theorem DM : fP Tryd.prog 27=true:=by kernel_rfl
theorem Gn : dm Tryd.prog 104=some 1:=by kernel_rfl
theorem Gp : zc Tryd.prog 104=some [.slice none 0 0]:=by kernel_rfl
theorem lQ : aR Tryd.prog 67:=⟨_,Tryd.func67,rfl,by kernel_rfl⟩
theorem lR : aR Tryd.prog 68:=⟨_,Tryd.func68,rfl,by kernel_rfl⟩
set_option maxHeartbeats 8000000 in
theorem n7 (bc : Nat) (s : aT) (hl : 32≤s.l.length) (w : World) (hs : s.ok w) (ho : Cl s [bc]) (h0 : ah w [bc] [⟨bc,Row 104 [s.v],true⟩] w) :
    Calls Tryd.prog 67 [Pt bc 0].toArray w fun e w'=>e=.returned (.agg ((s.l.take 32).map U8).toArray)∧ah w [bc] [⟨bc,Row 104 [(s.snd 32).v],true⟩] w':=by
  have hlm : ((s.l.take 32).map U8).length=32:=by rw [List.length_map,List.length_take,Nat.min_eq_left hl]
  have had:=DL s 32
  refine enter (n:=20) Tryd.func67 rfl rfl rfl h0 ?_
  refine JC.seq (JC.region (JL.alloc iW rfl fun b2 _=>?_))
  repeat (first | refine JL.q (by first|(apply OQ.load (v:=s.v);exact DM;rfl;exact (.there .here);exact (Row.cell rfl))|(apply OQ.fst (s:=s) (m:=32);exact Tryd.underlying27;exact dH;rfl;rfl;exact hl;exact hs.len)|(apply OQ.arr (k:=32) (ad:=(s.fst 32).ad) (len:=(s.fst 32).l.length) (cap:=(s.fst 32).cap);exact Tryd.underlying23;rfl;exact (by show 32≤(s.l.take 32).length;rw [List.length_take];omega))|(apply OQ.move;rfl)|(apply OQ.kR;rfl)|(apply OQ.cw;rfl;rfl;rfl;exact (by decide);rfl)) rfl ?_ | refine JC.seq ?_ | refine JC.region ?_ | refine JL.nil ?_ | refine JE.next ?_)
  rw [had]
  repeat (refine JL.q (by (apply OQ.DK (s:=s) (m:=32);exact hs;exact ho;exact hl;exact (by decide);exact aO;exact bB;rfl)) rfl ?_)
  refine JL.alloc iW rfl fun b3 _=>?_
  refine JL.ag (cs:=(s.l.take 32).map U8) aO rfl rfl hlm (cQ _) .here (by simp) ?_
  repeat (first | refine JL.q (by first|(apply OQ.load (v:=s.v);exact DM;rfl;exact (.there (.there .here));exact (Row.cell rfl))|(apply OQ.snd (s:=s) (m:=32);exact Tryd.underlying27;exact dH;rfl;rfl;exact hl)|(apply OQ.move;rfl)|(apply OQ.kR;rfl)|(apply OQ.cw;rfl;rfl;rfl;exact (by decide);rfl)) rfl ?_ | refine JC.seq ?_ | refine JC.region ?_ | refine JL.nil ?_ | refine JE.next ?_)
  refine JL.aU (r:=[s.v]) (r':=[(s.snd 32).v]) Bn rfl rfl rfl rfl (.there (.there .here)) (show 0<1 from Nat.zero_lt_one) rfl ?_
  repeat (first | refine JL.q (by (apply OQ.af (cs:=(s.l.take 32).map U8);exact bB;exact aO;rfl;exact .here;exact hlm;exact Row.all)) rfl ?_ | refine JC.seq ?_ | refine JC.region ?_ | refine JL.nil ?_ | refine JE.next ?_)
  refine JL.ag (cs:=(s.l.take 32).map U8) aO rfl rfl hlm (cQ _) (.there .here) (by simp) ?_
  repeat (first | refine JL.nil ?_ | refine JE.next ?_)
  refine JC.ret (JE.aM rfl (RV.av bB aO rfl (.there .here) hlm Row.all) ?_)
  exact fun w' hw=>⟨rfl,hw.weak (.drop _ _ _ (.drop _ _ _ (ax.refl _)))⟩
set_option maxHeartbeats 8000000 in
theorem n8 (bc : Nat) (s : aT) (hl : 4≤s.l.length) (w : World) (hs : s.ok w) (ho : Cl s [bc]) (h0 : ah w [bc] [⟨bc,Row 104 [s.v],true⟩] w) :
    Calls Tryd.prog 68 [Pt bc 0].toArray w fun e w'=>e=.returned (N (fF.bP (s.l.take 4)))∧ah w [bc] [⟨bc,Row 104 [(s.snd 4).v],true⟩] w':=by
  have hlt : (s.l.take 4).length=4:=by rw [List.length_take,Nat.min_eq_left hl]
  have hn:=fF.l9 (l:=s.l.take 4) (by omega)
  have hlt2:=fF.qR (l:=s.l.take 4) (by omega)
  rw [hlt] at hlt2
  have cN:=fun (w' : World) (M : List aJ) (hw' : ah w [bc] M w')=>mw (s.fst 4) w' ((hs.off hw' ho).fst 4) (by show (s.l.take 4).length≤_;omega)
  rw [show (s.fst 4).l=s.l.take 4 from rfl] at cN
  refine enter (n:=20) Tryd.func68 rfl rfl rfl h0 ?_
  repeat (first | refine JL.q (by first|(apply OQ.load (v:=s.v);exact DM;rfl;exact .here;exact (Row.cell rfl))|(apply OQ.fst (s:=s) (m:=4);exact Tryd.underlying27;exact dH;rfl;rfl;exact hl;exact hs.len)|(apply OQ.an (vs:=[(s.fst 4).v]);exact gF;rfl;exact (fun w' hw'=>cN w' _ hw'))|(apply OQ.snd (s:=s) (m:=4);exact Tryd.underlying27;exact dH;rfl;rfl;exact hl)|(apply OQ.move;rfl)|(apply OQ.assign;rfl)|(apply OQ.kR;rfl)|(apply OQ.cw;rfl;rfl;rfl;exact (by decide);rfl)) rfl ?_ | refine JC.seq ?_ | refine JC.region ?_ | refine JL.nil ?_ | refine JE.next ?_)
  refine JL.aU (r:=[s.v]) (r':=[(s.snd 4).v]) Bn rfl rfl rfl rfl .here (show 0<1 from Nat.zero_lt_one) rfl ?_
  repeat (first | refine JL.q (by first|(apply OQ.to;exact (OQ.jS Tryd.underlying76 Tryd.underlying3 rfl (by rw [hn];omega));exact (congrArg N hn))|(apply OQ.move;rfl)|(apply OQ.assign;rfl)) rfl ?_ | refine JC.seq ?_ | refine JC.region ?_ | refine JL.nil ?_ | refine JE.next ?_)
  refine JC.ret (JE.aM rfl (RV.tmp rfl) ?_)
  exact fun w' hw=>⟨rfl,hw⟩
theorem zB (c : Bk) (p m : Nat) (hc : c.length=32) : Tryd.prog.built 62 ([0,1,2].zip [.agg (c.map U8).toArray,N p,N m])=some (hdc ⟨c,p,m⟩).toArray:=by
  have h : Tryd.prog.built 62 ([0,1,2].zip [.agg (c.map U8).toArray,N p,N m])=Instr.fill (fun i=>#[(0,32),(32,1),(33,1)][i]?) (hdc pB).toArray [(0,.agg (c.map U8).toArray),(1,N p),(2,N m)]:=by kernel_rfl
  rw [h,aQ (off:=0) (sz:=32) (cs:=c.map U8) rfl rfl (by simp [hc]) (by simp [hdc,pB,bO]),aQ (off:=32) (sz:=1) (cs:=[N p]) rfl rfl rfl (by simp [hdc,pB,bO,hc]),aQ (off:=33) (sz:=1) (cs:=[N m]) rfl rfl rfl (by simp [hdc,pB,bO,hc])]
  have h1:=jv (a:=c.map U8) (b:=[N 0]) (c:=[N 0]) (j:=32) (k:=1) [N p] (by simp [hc]) rfl
  have h2:=jv (a:=c.map U8++[N p]) (b:=[N 0]) (c:=[]) (j:=33) (k:=1) [N m] (by simp [hc]) rfl
  have h3 : ((hdc pB).take 0++c.map U8++(hdc pB).drop (0+32))=c.map U8++([N 0]++[N 0]):=rfl
  rw [h3,h1,← List.append_assoc]
  show some _=some _
  rw [show (c.map U8++[N p]++[N 0] : List Value)=c.map U8++[N p]++([N 0]++[]) from rfl,h2]
  simp [hdc]
end
section
set_option maxRecDepth 10000
open Sl ec gE
end
section
set_option maxRecDepth 10000
open Sl ec gE
theorem w9 {key nonce : List B} {s p : aT} {vs vp : Value} {m : Nat} {o : List B} (hvs : s.v=vs) (hvp : p.v=vp) (ho : mz (k1 key) (k2 key) nonce s.l p.l=o) (hm : p.l.length=m) (hk : key.length=32) (hn : nonce.length=12) {w : World} (hG : fI w) (hQ : GQ w) (hs : s.ok w) (hp : p.ok w) (hsl : s.l.length<100000000) (hpl : p.l.length<100000000) :
    Calls Tryd.prog 27 [.agg (key.map U8).toArray,.agg (nonce.map U8).toArray,vs,vp].toArray w fun e w'=>∃ x : Nat × Nat,e=.returned (.slice (some ⟨x.1,0,none⟩) (m+32) x.2)∧ah w [] [⟨x.1,Sl.cJ 5 1 (m+32) x.2 (o.map U8),true⟩] w':=by
  subst hvs hvp ho hm
  exact yz key nonce s p hk hn w hG hQ hs hp hsl hpl
end
section
set_option maxRecDepth 10000
open Sl ec gE cV gB
open iZ (Bk)
abbrev GY (l : Bk):={s : aT // CD s l s.cap}
structure HB (o : bC × Bk × Nat) where
  q : Acc
  s : bC
  x : GY o.2.1
  ok : s.ok
  nil : q=none→s.kept=[]
  is : o.2.2=0→s=o.1
structure HC (o : bC × Bk × Nat) where
  q : Acc
  x : GY o.2.1
  nil : q=none→o.1.kept=[]
end
section
set_option maxRecDepth 10000
open Sl ec gE cV gB
open iZ (Bk)
abbrev aq : Value:=.slice none 0 0
theorem fM {l : List Value} {i : Nat} {v : Value} (h : i<l.length) : l.take i++[v]++l.drop (i+1)=l.set i v:=by
  rw [List.set_eq_take_append_cons_drop,if_pos h,List.append_assoc]
  rfl
theorem xb (own other : Bk) (h1 : own.length=32) (h2 : other.length=32) : Tryd.prog.built 26 ([1,2,3].zip [.agg (own.map U8).toArray,.agg (other.map U8).toArray,.bool true])=some (sec ⟨bO,own,other,true,false,bO,bO,0,0,0,[]⟩ aq).toArray:=by
  have h : Tryd.prog.built 26 ([1,2,3].zip [.agg (own.map U8).toArray,.agg (other.map U8).toArray,.bool true])=Instr.fill (fun i=>#[(0,32),(32,32),(64,32),(96,1),(97,1),(98,32),(130,32),(162,1),(163,1),(164,1),(165,1)][i]?) (sec aD aq).toArray [(1,.agg (own.map U8).toArray),(2,.agg (other.map U8).toArray),(3,.bool true)]:=by kernel_rfl
  have k1 : ({ aD with own:=own } : bC).ok:=⟨rfl,h1,rfl,rfl,rfl,nofun⟩
  have k2 : ({ aD with own:=own,other:=other } : bC).ok:=⟨rfl,h1,h2,rfl,rfl,nofun⟩
  have p1:=fH aC aq own h1
  have p2:=fR k1 aq other h2
  have p3:=fS k2 aq true
  rw [List.length_map,h1] at p1
  rw [List.length_map,h2] at p2
  rw [h,aQ (off:=32) (sz:=32) (cs:=own.map U8) rfl rfl (by simp [h1]) (by rw [au aC];decide),p1,aQ (off:=64) (sz:=32) (cs:=other.map U8) rfl rfl (by simp [h2]) (by rw [au k1];decide),p2,aQ (off:=96) (sz:=1) (cs:=[.bool true]) rfl rfl rfl (by rw [au k2];decide),fM (by rw [au k2];decide),p3]
  rfl
theorem uL (root own : Bk) (h1 : root.length=32) (h2 : own.length=32) : Tryd.prog.built 26 ([0,1].zip [.agg (root.map U8).toArray,.agg (own.map U8).toArray])=some (sec (ew root own) aq).toArray:=by
  have h : Tryd.prog.built 26 ([0,1].zip [.agg (root.map U8).toArray,.agg (own.map U8).toArray])=Instr.fill (fun i=>#[(0,32),(32,32),(64,32),(96,1),(97,1),(98,32),(130,32),(162,1),(163,1),(164,1),(165,1)][i]?) (sec aD aq).toArray [(0,.agg (root.map U8).toArray),(1,.agg (own.map U8).toArray)]:=by kernel_rfl
  have k1 : ({ aD with root:=root } : bC).ok:=⟨h1,rfl,rfl,rfl,rfl,nofun⟩
  have p1:=eU aC aq root h1
  have p2:=fH k1 aq own h2
  rw [List.length_map,h1] at p1
  rw [List.length_map,h2] at p2
  rw [h,aQ (off:=0) (sz:=32) (cs:=root.map U8) rfl rfl (by simp [h1]) (by rw [au aC];decide),p1,aQ (off:=32) (sz:=32) (cs:=own.map U8) rfl rfl (by simp [h2]) (by rw [au k1];decide),p2]
  rfl
theorem uM : aR Tryd.prog 13:=⟨_,Tryd.func13,rfl,by kernel_rfl⟩
theorem sF : aR Tryd.prog 15:=⟨_,Tryd.func15,rfl,by kernel_rfl⟩
set_option maxHeartbeats 8000000 in
theorem uN (root own Y : Bk) (h1 : root.length=32) (h2 : own.length=32) (h3 : Y.length=32) (w : World) : Calls Tryd.prog 15 [.agg (root.map U8).toArray,.agg ((own++Y).map U8).toArray].toArray w fun e w'=>e=.returned (.agg (sec (ew root own) aq).toArray)∧Ext w w':=by
  have l1 : (root.map U8).length=32:=by rw [List.length_map];exact h1
  have l2 : (own.map U8).length=32:=by rw [List.length_map];exact h2
  have i0:=zn (b:=Y) h2
  have hb:=uL root own h1 h2
  have hn:=au (nZ root own h1 h2) aq
  refine enter (n:=9) Tryd.func15 rfl rfl rfl (ah.start w []) ?_
  repeat (first | refine JC.seq ?_ | refine JC.region ?_)
  refine JL.box (r:=root.map U8) rfl rfl rfl fun b2 _=>?_
  refine JL.box (r:=(own++Y).map U8) rfl rfl rfl fun b3 _=>?_
  refine JL.alloc qQ rfl fun b4 _=>?_
  repeat (first | refine JL.q (by first|(apply OQ.af (cs:=root.map U8);exact bB;exact aO;rfl;exact (.there (.there .here));exact l1;exact Row.all)|(apply OQ.af (cs:=own.map U8);exact bB;exact aO;rfl;exact (.there .here);exact l2;exact (Row.cells i0))|(apply OQ.cw;rfl;rfl;rfl;exact (by decide);rfl)) rfl ?_ | refine JC.seq ?_ | refine JC.region ?_ | refine JL.nil ?_ | refine JE.next ?_)
  refine JL.q (OQ.dZ (cs:=sec (ew root own) aq) [0,1] [.tmp 5,.tmp 7] (vs:=[.agg (root.map U8).toArray,.agg (own.map U8).toArray]) rfl rfl hb) rfl ?_
  refine JL.ag (cs:=sec (ew root own) aq) dn rfl rfl hn (bA rfl) .here (au aC _) ?_
  repeat (first | refine JL.nil ?_ | refine JE.next ?_)
  refine JC.ret (JE.aM rfl (RV.av fL dn rfl .here hn Row.all) ?_)
  exact fun w' hw=>⟨rfl,hw.aH⟩
set_option maxHeartbeats 16000000 in
theorem xd (root own Y other : Bk) (h1 : root.length=32) (h2 : own.length=32) (h3 : Y.length=32) (h4 : other.length=32) (w : World) (hG : fI w) : Calls Tryd.prog 13 [.agg (root.map U8).toArray,.agg ((own++Y).map U8).toArray,.agg (other.map U8).toArray].toArray w fun e w'=>e=.returned (.agg (sec (eO root own other) aq).toArray)∧Ext w w':=by
  have l1 : (root.map U8).length=32:=by rw [List.length_map];exact h1
  have l2 : (own.map U8).length=32:=by rw [List.length_map];exact h2
  have l4 : (other.map U8).length=32:=by rw [List.length_map];exact h4
  have lp : ((own++Y).map U8).length=64:=by rw [List.length_map,List.length_append,h2,h3]
  have i0:=zn (b:=Y) h2
  have hb:=xb own other h2 h4
  have hok:=pn root own other h2 h4
  have hn:=au hok aq
  have hm:=Bm own other
  have cS:=fun (w' : World)=>sB own Y other h2 h3 h4 w'
  have cT:=fun (w' : World) (hG : fI w')=>Br root (cu own other) h1 hm w' hG
  have hfd : eO root own other=⟨gp root (cu own other),own,other,true,false,gM root (cu own other),bO,0,0,0,[]⟩:=rfl
  have la:=lH root (cu own other)
  have lc:=lI root (cu own other)
  rw [hfd] at hn hok ⊢
  clear hfd
  generalize gp root (cu own other)=tA at *
  generalize gM root (cu own other)=tC at *
  generalize cu own other=m at *
  have lA : (tA.map U8).length=32:=by rw [List.length_map];exact la
  have lC : (tC.map U8).length=32:=by rw [List.length_map];exact lc
  have k0 : (⟨bO,own,other,true,false,bO,bO,0,0,0,[]⟩ : bC).ok:=⟨rfl,h2,h4,rfl,rfl,nofun⟩
  have k1 : (⟨tA,own,other,true,false,bO,bO,0,0,0,[]⟩ : bC).ok:=⟨la,h2,h4,rfl,rfl,nofun⟩
  have p0:=eU k0 aq tA la
  have p1:=eV k1 aq tC lc
  have n0:=au k0 aq
  have n1:=au k1 aq
  refine enter (n:=23) Tryd.func13 rfl rfl rfl (ah.start w []) ?_
  repeat (first | refine JC.seq ?_ | refine JC.region ?_)
  refine JL.box (r:=root.map U8) rfl rfl rfl fun b3 _=>?_
  refine JL.box (r:=(own++Y).map U8) rfl rfl rfl fun b4 _=>?_
  refine JL.box (r:=other.map U8) rfl rfl rfl fun b5 _=>?_
  refine JL.alloc qQ rfl fun b6 _=>?_
  repeat (first | refine JL.q (by first|(apply OQ.af (cs:=own.map U8);exact bB;exact aO;rfl;exact (.there (.there .here));exact l2;exact (Row.cells i0))|(apply OQ.af (cs:=other.map U8);exact bB;exact aO;rfl;exact (.there .here);exact l4;exact Row.all)|(apply OQ.cw;rfl;rfl;rfl;exact (by decide);rfl)) rfl ?_ | refine JC.seq ?_ | refine JC.region ?_ | refine JL.nil ?_ | refine JE.next ?_)
  refine JL.q (OQ.dZ (cs:=sec ⟨bO,own,other,true,false,bO,bO,0,0,0,[]⟩ aq) [1,2,3] [.tmp 9,.tmp 10,.const (.bool true)] (vs:=[.agg (own.map U8).toArray,.agg (other.map U8).toArray,.bool true]) rfl rfl hb) rfl ?_
  refine JL.alloc qQ rfl fun b7 _=>?_
  refine JL.ag (cs:=sec ⟨bO,own,other,true,false,bO,bO,0,0,0,[]⟩ aq) dn rfl rfl n0 (bA rfl) .here (au aC _) ?_
  repeat (first | refine JC.seq ?_ | refine JL.nil ?_ | refine JE.next ?_)
  let vs : Nat→Nat→Value:=fun j y=>match j with
    | 0=>.agg (root.map U8).toArray
    | 1=>.agg ((own++Y).map U8).toArray
    | 2=>.agg (other.map U8).toArray
    | 3=>.agg (m.map U8).toArray
    | 4=>.tuple #[.agg (tA.map U8).toArray,.agg (tC.map U8).toArray]
    | 5=>.tuple #[.agg (tA.map U8).toArray,.agg (tC.map U8).toArray]
    | 6=>.agg (tA.map U8).toArray
    | 7=>.agg (tC.map U8).toArray
    | 8=>Pt b7 0
    | 10=>Pt b7 98
    | _=>N 0
  let Ms : Nat→Nat→List aJ:=fun j y=>match j with
    | 9=>[⟨b7,Row 26 (sec ⟨tA,own,other,true,false,bO,bO,0,0,0,[]⟩ aq),true⟩]
    | 11=>[⟨b7,Row 26 (sec ⟨tA,own,other,true,false,tC,bO,0,0,0,[]⟩ aq),true⟩]
    | 12=>[⟨b7,Row 26 (sec ⟨bO,own,other,true,false,bO,bO,0,0,0,[]⟩ aq),true⟩]
    | 13=>[⟨b6,Row 26 (sec aD aq),true⟩]
    | 14=>[⟨b5,Row 23 (other.map U8),true⟩]
    | 15=>[⟨b4,Row 39 ((own++Y).map U8),true⟩]
    | 16=>[⟨b3,Row 23 (root.map U8),true⟩]
    | _=>[]
  refine JC.grow (g:=⟨[(3,Pt b3 0),(4,Pt b4 0),(5,Pt b5 0),(6,Pt b6 0),(7,Pt b7 0)],17,vs,Ms,(fun j=>match j with | 3=>[(1,14),(2,15)] | 4=>[(0,13),(3,16)] | 5=>[(4,17)] | 6=>[(5,12)] | 7=>[(5,12)] | 9=>[(8,20),(6,18)] | 11=>[(10,21),(7,19)] | _=>[]),(fun j=>match j with | 0=>[16] | 1=>[15] | 2=>[14] | 9=>[12] | 11=>[9] | _=>[]),(fun j=>match j with | 9=>[12] | 11=>[9] | _=>[]),(fun j=>match j with | _=>none)⟩) [] [11,13] iV (by repeat (first | exact aj.nil | refine aj.cons _ _ _ rfl ?_)) ?_ (by kernel_rfl) (by kernel_rfl) (by kernel_rfl) ?_ ?_
  · exact ax.refl _
  · refine ⟨?_,?_,?_,?_,?_,?_,?_,?_,?_,?_,?_,?_,trivial⟩
    · (intro xx EF MF Q kk;(try refine JL.bn rfl rfl ?_);exact JL.q (OQ.af (cs:=root.map U8) bB aO rfl .here l1 Row.all) rfl (JL.nil (kk default nofun)))
    · (intro xx EF MF Q kk;(try refine JL.bn rfl rfl ?_);exact JL.q (OQ.af (cs:=(own++Y).map U8) Bi wX rfl .here lp Row.all) rfl (JL.nil (kk default nofun)))
    · (intro xx EF MF Q kk;(try refine JL.bn rfl rfl ?_);exact JL.q (OQ.af (cs:=other.map U8) bB aO rfl .here l4 Row.all) rfl (JL.nil (kk default nofun)))
    · (intro xx EF MF Q kk;(try refine JL.bn rfl rfl ?_);exact JL.q (OQ.an (vs:=[.agg ((own++Y).map U8).toArray,.agg (other.map U8).toArray]) qx rfl fun w' _=>cS w') rfl (JL.nil (kk default nofun)))
    · (intro xx EF MF Q kk;(try refine JL.bn rfl rfl ?_);exact JL.q (OQ.an (vs:=[.agg (root.map U8).toArray,.agg (m.map U8).toArray]) zA rfl fun w' hw'=>cT w' (hG.aH hw'.aH (by simp))) rfl (JL.nil (kk default nofun)))
    · (intro xx EF MF Q kk;(try refine JL.bn rfl rfl ?_);exact JL.q (OQ.move rfl) rfl (JL.nil (kk default nofun)))
    · (intro xx EF MF Q kk;(try refine JL.bn rfl rfl ?_);exact JL.q (OQ.extract rfl rfl) rfl (JL.nil (kk default nofun)))
    · (intro xx EF MF Q kk;(try refine JL.bn rfl rfl ?_);exact JL.q (OQ.extract rfl rfl) rfl (JL.nil (kk default nofun)))
    · (intro xx EF MF Q kk;(try refine JL.bn rfl rfl ?_);exact JL.q (OQ.cw rfl rfl rfl (by decide) rfl) rfl (JL.nil (kk default nofun)))
    · (intro xx EF MF Q kk;exact JL.cK (r:=sec ⟨bO,own,other,true,false,bO,bO,0,0,0,[]⟩ aq) (r':=sec ⟨tA,own,other,true,false,bO,bO,0,0,0,[]⟩ aq) aO rfl rfl lA (cQ _) .here (by rw [n0,lA];decide) p0 (JL.nil (kk default nofun)))
    · (intro xx EF MF Q kk;(try refine JL.bn rfl rfl ?_);exact JL.q (OQ.cw rfl rfl rfl (by decide) rfl) rfl (JL.nil (kk default nofun)))
    · (intro xx EF MF Q kk;exact JL.cK (r:=sec ⟨tA,own,other,true,false,bO,bO,0,0,0,[]⟩ aq) (r':=sec ⟨tA,own,other,true,false,tC,bO,0,0,0,[]⟩ aq) aO rfl rfl lC (cQ _) .here (by rw [n1,lC];decide) p1 (JL.nil (kk default nofun)))
  · intro xx hx
    show JE _ _ _ _ _ [(3,Pt b3 0),(4,Pt b4 0),(5,Pt b5 0),(6,Pt b6 0),(7,Pt b7 0)] [⟨b7,Row 26 (sec ⟨tA,own,other,true,false,tC,bO,0,0,0,[]⟩ aq),true⟩,⟨b6,Row 26 (sec aD aq),true⟩]
    clear hx xx vs Ms
    repeat (first | refine JL.q (by (apply OQ.af (cs:=sec ⟨tA,own,other,true,false,tC,bO,0,0,0,[]⟩ aq);exact fL;exact dn;rfl;exact .here;exact hn;exact Row.all)) rfl ?_ | refine JC.seq ?_ | refine JC.region ?_ | refine JE.next ?_)
    refine JL.ag (cs:=sec ⟨tA,own,other,true,false,tC,bO,0,0,0,[]⟩ aq) dn rfl rfl hn (bA rfl) (.there .here) (au aC _) ?_
    repeat (first | refine JL.nil ?_ | refine JE.next ?_)
    refine JC.ret (JE.aM rfl (RV.av fL dn rfl (.there .here) hn Row.all) ?_)
    exact fun w' hw=>⟨rfl,hw.aH⟩
structure Fw (o : bC × Bk × Nat) where
  q : Acc
  x : Acc
  nil : q=none→o.1.kept=[]
  xn : x=none→o.2.1=[]
theorem pD : aR Tryd.prog 9:=⟨_,Tryd.func9,rfl,by kernel_rfl⟩
theorem zC {s : bC} (h : s.ay=false) (side p : Bk) : gr s side p=(s,[],13):=by rw [gr,if_pos h]
theorem Bu {s : bC} (h : s.ay=true) (h2 : 2147483647≤s.sent) (side p : Bk) : gr s side p=(s,[],12):=by rw [gr,if_neg (by rw [h];decide),if_pos h2]
theorem vU {s : bC} (h : s.ay=true) (h2 : ¬ 2147483647≤s.sent) (side p : Bk) : gr s side p=(uE s,uF s side p,0):=by rw [gr,if_neg (by rw [h];decide),if_neg h2]
set_option maxHeartbeats 32000000 in
theorem zD (s : bC) (k : fX) (hs : s.ok) (he : k.l=s.kept) (hk0 : s.kept.length≤1000000) (hst : s.sent≤2147483648) (hpv : s.prev≤2147483648) (side p : aT) (hsl : side.l.length≤1000000) (hpl : p.l.length≤1000000) (w : World) (hG : fI w) (hQ : GQ w) (hk : k.ok w) (hside : side.ok w) (hp : p.ok w) :
    Calls Tryd.prog 9 [.agg (sec s k.v).toArray,side.v,p.v].toArray w fun e w'=>∃ r : Fw (gr s side.l p.l),e=.returned (.tuple #[.agg (sec (gr s side.l p.l).1 (aA r.q (gr s side.l p.l).1.kept.length)).toArray,aA r.x (gr s side.l p.l).2.1.length,N (gr s side.l p.l).2.2])∧ah w [] (aZ 5 r.x ((gr s side.l p.l).2.1.map U8)++fD r.q (gr s side.l p.l).1.kept) w':=by
  have hn:=au hs k.v
  refine enter (n:=55) Tryd.func9 rfl rfl rfl (ah.start w []) ?_
  repeat (first | refine JC.seq ?_ | refine JC.region ?_)
  refine JL.box (r:=sec s k.v) rfl rfl rfl fun b3 _=>?_
  refine JL.alloc qQ rfl fun b6 _=>?_
  repeat (first | refine JL.q (by first|(apply OQ.af (cs:=sec s k.v);exact fL;exact dn;rfl;exact (.there .here);exact hn;exact Row.all)|(apply OQ.assign;rfl)) rfl ?_ | refine JC.seq ?_ | refine JC.region ?_ | refine JL.nil ?_ | refine JE.next ?_)
  refine JL.dK (ι:=qA s.kept) (vs:=[.agg (sec s k.v).toArray]) (fun q=>.agg (sec s (aA q.1 s.kept.length)).toArray) (fun q=>fD q.1 s.kept) sE rfl rfl (fun q=>jD _ _) (fun w' hw'=>uK s k hs w' (hk.holds hw' rfl) he hk0) ?_
  rintro ⟨q,hq⟩
  try dsimp only
  obtain ⟨kv,hkv⟩ : ∃ kv,aA q s.kept.length=kv:=⟨_,rfl⟩
  have hkv1 : kv.oneCell'=true:=by rw [← hkv];exact dj _ _
  rw [hkv]
  have hn2:=au hs kv
  refine JL.jk (M':=⟨b6,Row 26 (sec aD (.slice none 0 0)),true⟩::⟨b3,Row 26 (sec s k.v),true⟩::fD q s.kept) (by exact List.perm_append_comm (l₂:=[_,_])) ?_
  refine JL.ag (cs:=sec s kv) dn rfl rfl hn2 (bA hkv1) .here (au aC _) ?_
  cases hse : s.ay
  · have hd:=zC hse side.l p.l
    have hld : ∀ o,Row 26 (sec s k.v) o→cellAt o 96=some (.bool false):=by rw [← hse];exact Row.cell (e7 hs _)
    rw [hd]
    repeat (first | refine JL.q (by first|(apply OQ.load;exact cg;rfl;exact (.there .here);exact hld)|(apply OQ.not;rfl)|(apply OQ.cw;rfl;rfl;rfl;exact (by decide);rfl)) rfl ?_ | refine JC.seq ?_ | refine JC.region ?_ | refine JL.nil ?_ | refine JE.next ?_)
    refine JC.cond_true rfl rfl ?_
    repeat (first | refine JL.q (by (apply OQ.af (cs:=sec s kv);exact fL;exact dn;rfl;exact .here;exact hn2;exact Row.all)) rfl ?_ | refine JC.seq ?_ | refine JC.region ?_)
    refine JL.ag (cs:=sec s kv) dn rfl rfl hn2 (bA hkv1) .here hn2 ?_
    repeat (first | refine JL.q (by (apply OQ.assign;rfl)) rfl ?_ | refine JL.nil ?_ | refine JE.next ?_)
    refine JC.ret ?_
    repeat (refine JE.aN ?_)
    exact JE.CH rfl (RV.av fL dn rfl .here hn2 Row.all) (RV.tmp rfl) (RV.tmp rfl) fun w' hw=>⟨⟨q,none,hq,fun _=>rfl⟩,by rw [← hkv];rfl,hw.weak (.drop _ _ _ (.drop _ _ _ (ax.refl _)))⟩
  have hld : ∀ o,Row 26 (sec s k.v) o→cellAt o 96=some (.bool true):=by rw [← hse];exact Row.cell (e7 hs _)
  have hsn : ∀ o,Row 26 (sec s k.v) o→cellAt o 162=some (N s.sent):=Row.cell (gh hs _)
  by_cases hmx : 2147483647≤s.sent
  · have hd:=Bu hse hmx side.l p.l
    have hge : decide ((2147483647 : Int)≤((s.sent : Nat) : Int))=true:=decide_eq_true (by omega)
    rw [hd]
    repeat (first | refine JL.q (by first|(apply OQ.load;exact cg;rfl;exact (.there .here);exact hld)|(apply OQ.not;rfl)|(apply OQ.cw;rfl;rfl;rfl;exact (by decide);rfl)) rfl ?_ | refine JC.seq ?_ | refine JC.region ?_ | refine JL.nil ?_ | refine JE.next ?_)
    refine JC.cond_false rfl rfl ?_
    repeat (first | refine JL.q (by first|(apply OQ.load;exact bg;rfl;exact (.there .here);exact hsn)|(apply OQ.we (a:=((s.sent : Nat) : Int)) (b:=2147483647);rfl;rfl;exact hge)|(apply OQ.cw;rfl;rfl;rfl;exact (by decide);rfl)) rfl ?_ | refine JC.seq ?_ | refine JC.region ?_ | refine JC.skip ?_ | refine JL.nil ?_ | refine JE.next ?_)
    refine JC.cond_true rfl rfl ?_
    repeat (first | refine JL.q (by (apply OQ.af (cs:=sec s kv);exact fL;exact dn;rfl;exact .here;exact hn2;exact Row.all)) rfl ?_ | refine JC.seq ?_ | refine JC.region ?_)
    refine JL.ag (cs:=sec s kv) dn rfl rfl hn2 (bA hkv1) .here hn2 ?_
    repeat (first | refine JL.q (by (apply OQ.assign;rfl)) rfl ?_ | refine JL.nil ?_ | refine JE.next ?_)
    refine JC.ret ?_
    repeat (refine JE.aN ?_)
    exact JE.CH rfl (RV.av fL dn rfl .here hn2 Row.all) (RV.tmp rfl) (RV.tmp rfl) fun w' hw=>⟨⟨q,none,hq,fun _=>rfl⟩,by rw [← hkv];rfl,hw.weak (.drop _ _ _ (.drop _ _ _ (ax.refl _)))⟩
  have hd:=vU hse hmx side.l p.l
  have hge : decide ((2147483647 : Int)≤((s.sent : Nat) : Int))=false:=decide_eq_false (by omega)
  rw [hd]
  repeat (first | refine JL.q (by first|(apply OQ.load;exact cg;rfl;exact (.there .here);exact hld)|(apply OQ.not;rfl)|(apply OQ.cw;rfl;rfl;rfl;exact (by decide);rfl)) rfl ?_ | refine JC.seq ?_ | refine JC.region ?_ | refine JL.nil ?_ | refine JE.next ?_)
  refine JC.cond_false rfl rfl ?_
  repeat (first | refine JL.q (by first|(apply OQ.load;exact bg;rfl;exact (.there .here);exact hsn)|(apply OQ.we (a:=((s.sent : Nat) : Int)) (b:=2147483647);rfl;rfl;exact hge)|(apply OQ.cw;rfl;rfl;rfl;exact (by decide);rfl)) rfl ?_ | refine JC.seq ?_ | refine JC.region ?_ | refine JC.skip ?_ | refine JL.nil ?_ | refine JE.next ?_)
  refine JC.cond_false rfl rfl ?_
  have hlo : (s.own.map U8).length=32:=by rw [List.length_map];exact hs.own
  have hls : (s.send.map U8).length=32:=by rw [List.length_map];exact hs.send
  have hpl1:=n5 s
  have hH:=n5 s
  have hBl:=pY hH
  have hhb:=zB (wZ s.own) s.prev s.sent (nY _)
  have cP:=fun (w' : World)=>mA s.own hs.own w'
  have cB:=fun (w' : World)=>Bq (qy s) hH (show s.prev<_ by omega) (show s.sent<_ by omega) w'
  have hpr : ∀ o,Row 26 (sec s k.v) o→cellAt o 164=some (N s.prev):=Row.cell (hO hs _)
  have cP2 : ∀ w',Calls Tryd.prog 25 [.agg (s.own.map U8).toArray].toArray w' fun e w''=>e=.returned (.agg ((wZ s.own).map U8).toArray)∧Ext w' w'':=cP
  clear cP
  have hEe : uF s side.l p.l=eW (qy s)++gB.jj (DG s.send) (side.l++eW (qy s)) p.l:=rfl
  rw [hEe]
  have hEq : qy s=⟨wZ s.own,s.prev,s.sent⟩:=rfl
  rw [← hEq] at hhb
  generalize wZ s.own=pk at *
  generalize hHe : qy s=h at *
  repeat (first | refine JC.seq ?_ | refine JC.skip ?_ | refine JE.next ?_)
  refine JC.tail 8 iV (by kernel_rfl) ?_
  simp only [List.take_succ_cons,List.take_zero,List.drop_succ_cons,List.drop_zero]
  repeat (refine JQ.q (by first|(apply OQ.af (cs:=s.own.map U8);exact bB;exact aO;rfl;exact (.there .here);exact hlo;exact (Row.cells (j4 hs _)))|(apply OQ.an (vs:=[.agg (s.own.map U8).toArray]);exact kz;rfl;exact (fun w' _=>cP2 w'))|(apply OQ.load;exact bg;rfl;exact (.there .here);exact hpr)|(apply OQ.load;exact bg;rfl;exact (.there .here);exact hsn)|(apply OQ.cw;rfl;rfl;rfl;exact (by decide);rfl)) rfl ?_)
  refine JQ.q (OQ.dZ (cs:=hdc h) [0,1,2] [.tmp 24,.tmp 26,.tmp 28] (vs:=[.agg (pk.map U8).toArray,N s.prev,N s.sent]) rfl rfl hhb) rfl ?_
  repeat (refine JQ.cH ?_)
  refine JL.dK (ι:=Nat × Nat) (vs:=[.agg (hdc h).toArray]) (fun x=>.slice (some ⟨x.1,0,none⟩) 40 x.2) (fun x=>[⟨x.1,Sl.cJ 5 1 40 x.2 ((eW h).map U8),true⟩]) zz rfl rfl (fun i=>by simp) (fun w' hw'=>cB w') ?_
  rintro ⟨bh,ch⟩
  try dsimp only
  repeat (first | refine JL.q (by (apply OQ.assign;rfl)) rfl ?_ | refine JC.seq ?_ | refine JC.region ?_ | refine JL.nil ?_ | refine JE.next ?_)
  refine JL.alloc iW rfl fun b10 _=>?_
  have hst2 : ∀ (w' : World) (M : List aJ) (hw : ah w [] M w'),Calls Tryd.prog 26 [.agg (s.send.map U8).toArray].toArray w' fun e w''=>e=.returned (.tuple #[.agg ((Bl s.send).map U8).toArray,.agg ((DG s.send).map U8).toArray])∧Ext w' w'':=fun w' M hw=>w6 s.send hs.send w' (hG.aH hw.aH (by simp))
  have k1 : ({ s with send:=Bl s.send } : bC).ok:=⟨hs.root,hs.own,hs.other,rfl,hs.take,hs.kept⟩
  have p1:=eV hs kv (Bl s.send) rfl
  have k2:=vS hs
  have p2:=gC k1 kv (s.sent+1)
  have hn3:=au k1 kv
  have hn4:=au k2 kv
  have hR : uE s={ s with send:=Bl s.send,sent:=s.sent+1 }:=rfl
  rw [hR] at hn4 ⊢
  have hl5 : ((Bl s.send).map U8).length=32:=rfl
  have hl6 : ((DG s.send).map U8).length=32:=rfl
  have hkm : (DG s.send).length=32:=rfl
  clear hR k2
  generalize Bl s.send=nx at *
  generalize DG s.send=ms at *
  have hse2 : ∀ o,Row 26 (sec { s with send:=nx } kv) o→cellAt o 162=some (N s.sent):=Row.cell (gh k1 _)
  repeat (first | refine JL.q (by first|(apply OQ.af (cs:=s.send.map U8);exact bB;exact aO;rfl;exact (.there (.there (.there .here)));exact hls;exact (Row.cells (hJ hs _)))|(apply OQ.an (vs:=[.agg (s.send.map U8).toArray]);exact tZ;rfl;exact (fun w' hw'=>hst2 w' _ hw'))|(apply OQ.extract;rfl;rfl)|(apply OQ.move;rfl)|(apply OQ.cw;rfl;rfl;rfl;exact (by decide);rfl)) rfl ?_ | refine JC.seq ?_ | refine JC.region ?_ | refine JL.nil ?_ | refine JE.next ?_)
  refine JL.cK (r:=sec s kv) (r':=sec { s with send:=nx } kv) aO rfl rfl hl5 (cQ _) (.there (.there .here)) (by rw [hn2,hl5];decide) p1 ?_
  refine JL.ag (cs:=ms.map U8) aO rfl rfl hl6 (cQ _) .here (by simp) ?_
  repeat (first | refine JL.q (by first|(apply OQ.load;exact bg;rfl;exact (.there (.there .here));exact hse2)|(apply OQ.bH (a:=s.sent) (b:=1);rfl;rfl;exact (by omega))|(apply OQ.cw;rfl;rfl;rfl;exact (by decide);rfl)) rfl ?_ | refine JC.seq ?_ | refine JC.region ?_ | refine JL.nil ?_ | refine JE.next ?_)
  refine JL.aU (r:=sec { s with send:=nx } kv) (r':=sec { s with send:=nx,sent:=s.sent+1 } kv) zx rfl rfl rfl rfl (.there (.there .here)) (by rw [hn3];decide) p2 ?_
  repeat (first | refine JC.seq ?_ | refine JL.nil ?_ | refine JE.next ?_)
  have hsK : mz (Go.Proofs.YtkfeolclllhfpaaDoor.k1 ms) (Go.Proofs.YtkfeolclllhfpaaDoor.k2 ms) Ec (side.l++eW h) p.l=gB.jj ms (side.l++eW h) p.l:=rfl
  have hsKl : (gB.jj ms (side.l++eW h) p.l).length=p.l.length+32:=kf _ _ _ _ _
  have hWl : (side.l++eW h).length=side.l.length+40:=by rw [List.length_append,hBl]
  have cC:=fun (bs : Nat) (w' : World) (M : List aJ) (hw' : ah w [] M w') (hb : aT.ok w' ⟨some ⟨bh,0,none⟩,ch,eW h⟩) (hrow : ∃ ob,w'.heap[bs]?=some ob∧Row 27 [side.v,aT.v ⟨some ⟨bh,0,none⟩,ch,eW h⟩] ob)=>mB side ⟨some ⟨bh,0,none⟩,ch,eW h⟩ bs w' (hside.holds hw' rfl) hb hrow (by show 0<side.l.length+(eW h).length;omega) (by show side.l.length+(eW h).length≤_;omega)
  have hbv : aT.v ⟨some ⟨bh,0,none⟩,ch,eW h⟩=.slice (some ⟨bh,0,none⟩) 40 ch:=by simp [aT.v,hBl]
  rw [hbv] at cC
  generalize gB.jj ms (side.l++eW h) p.l=Z at *
  let vs : Nat→(Nat × Nat)→Value:=fun j y=>match j with
    | 0=>.agg (ms.map U8).toArray
    | 1=>.agg (Ec.map U8).toArray
    | 2=>side.v
    | 3=>.slice (some ⟨bh,0,none⟩) 40 ch
    | 4=>.slice (some ⟨y.1,0,none⟩) 2 2
    | 5=>.slice (some ⟨y.1,0,none⟩) (side.l++eW h).length y.2
    | 6=>p.v
    | 7=>.slice (some ⟨y.1,0,none⟩) (p.l.length+32) y.2
    | 8=>.slice (some ⟨y.1,0,none⟩) (p.l.length+32) y.2
    | _=>N 0
  let Ms : Nat→(Nat × Nat)→List aJ:=fun j y=>match j with
    | 4=>[⟨y.1,Row 27 [side.v,.slice (some ⟨bh,0,none⟩) 40 ch],true⟩]
    | 5=>[⟨y.1,Sl.cJ 5 1 (side.l++eW h).length y.2 ((side.l++eW h).map U8),true⟩]
    | 7=>[⟨y.1,Sl.cJ 5 1 (p.l.length+32) y.2 (Z.map U8),true⟩]
    | 9=>[⟨b10,Row 23 (ms.map U8),true⟩]
    | 10=>[⟨bh,Sl.cJ 5 1 40 ch ((eW h).map U8),true⟩]
    | 11=>[⟨b6,Row 26 (sec { s with send:=nx,sent:=s.sent+1 } kv),true⟩]
    | 12=>[⟨b3,Row 26 (sec s k.v),true⟩]
    | 13=>fD q s.kept
    | _=>[]
  refine JC.grow (g:=⟨[(1,side.v),(2,p.v),(6,Pt b6 0),(9,.slice (some ⟨bh,0,none⟩) 40 ch),(10,Pt b10 0)],14,vs,Ms,(fun j=>match j with | 4=>[(2,44),(3,45)] | 5=>[(4,46)] | 7=>[(0,42),(1,43),(5,47),(6,48)] | 8=>[(7,49)] | _=>[]),(fun j=>match j with | 0=>[9] | 5=>[4,10] | 7=>[5] | _=>[]),(fun j=>match j with | _=>[]),(fun j=>match j with | 8=>some 7 | _=>none)⟩) [(8,11)] [7,10,11,13] iV (by repeat (first | exact aj.nil | refine aj.cons _ _ _ rfl ?_)) ?_ (by kernel_rfl) (by kernel_rfl) (by kernel_rfl) ?_ ?_
  · show ax (_::_::_::_::(fD q s.kept++[])) _;rw [List.append_nil];exact ax.refl _
  · refine ⟨?_,?_,?_,?_,?_,?_,?_,?_,?_,trivial⟩
    · (intro xx EF MF Q kk;(try refine JL.bn rfl rfl ?_);exact JL.q (OQ.af (cs:=ms.map U8) bB aO rfl .here hl6 Row.all) rfl (JL.nil (kk default nofun)))
    · (intro xx EF MF Q kk;exact JL.q (OQ.pure (v:=.agg (Ec.map U8).toArray) rfl rfl (by kernel_rfl)) rfl (JL.nil (kk default nofun)))
    · (intro xx EF MF Q kk;(try refine JL.bn rfl rfl ?_);exact JL.q (OQ.move rfl) rfl (JL.nil (kk default nofun)))
    · (intro xx EF MF Q kk;(try refine JL.bn rfl rfl ?_);exact JL.q (OQ.move rfl) rfl (JL.nil (kk default nofun)))
    · (intro xx EF MF Q kk;exact JL.CE (xs:=[.tmp 44,.tmp 45]) (vs:=[side.v,.slice (some ⟨bh,0,none⟩) 40 ch]) Tryd.underlying88 tV rfl rfl rfl rfl (by intro v hv;simp only [List.mem_cons,List.mem_nil_iff,or_false] at hv;rcases hv with rfl | rfl <;> rfl) rfl (by decide) (by decide) rfl fun b9 _=>JL.nil (kk (b9,0) nofun))
    · (intro xx EF MF Q kk;exact JL.dK (ι:=Nat × Nat) (vs:=[.slice (some ⟨(xx 4).1,0,none⟩) 2 2]) (fun x=>.slice (some ⟨x.1,0,none⟩) (side.l++eW h).length x.2) (fun x=>[⟨x.1,Sl.cJ 5 1 (side.l++eW h).length x.2 ((side.l++eW h).map U8),true⟩]) kC rfl rfl (fun i=>by simp) (fun w' hw'=>cC (xx 4).1 w' _ hw' (dN hw' (.there .here)) (hw'.get .here)) fun x=>JL.nil (kk (x.1,x.2) nofun))
    · (intro xx EF MF Q kk;(try refine JL.bn rfl rfl ?_);exact JL.q (OQ.move rfl) rfl (JL.nil (kk default nofun)))
    · (intro xx EF MF Q kk;exact JL.dK (ι:=Nat × Nat) (vs:=[.agg (ms.map U8).toArray,.agg (Ec.map U8).toArray,.slice (some ⟨(xx 5).1,0,none⟩) (side.l++eW h).length (xx 5).2,p.v]) (fun x=>.slice (some ⟨x.1,0,none⟩) (p.l.length+32) x.2) (fun x=>[⟨x.1,Sl.cJ 5 1 (p.l.length+32) x.2 (Z.map U8),true⟩]) wJ rfl rfl (fun i=>by simp) (fun w' hw'=>w9 (s:=⟨some ⟨(xx 5).1,0,none⟩,(xx 5).2,side.l++eW h⟩) (p:=p) rfl rfl hsK rfl hkm rfl (hG.aH hw'.aH (by simp)) (hQ.aH hw'.aH (by simp)) (dN hw' .here) (hp.holds hw' rfl) (by show (side.l++eW h).length<_;omega) (by omega)) fun x=>JL.nil (kk (x.1,x.2) nofun))
    · (intro xx EF MF Q kk;(try refine JL.bn rfl rfl ?_);exact JL.q (OQ.assign rfl) rfl (JL.nil (kk (xx 7) (fun k h=>by cases h;rfl))))
  · intro xx hx
    have e1:=hx 8 7 (by decide) rfl
    show JE _ _ _ _ _ [(11,.slice (some ⟨(xx 8).1,0,none⟩) (p.l.length+32) (xx 8).2),(1,side.v),(2,p.v),(6,Pt b6 0),(9,.slice (some ⟨bh,0,none⟩) 40 ch),(10,Pt b10 0)] (⟨(xx 7).1,Sl.cJ 5 1 (p.l.length+32) (xx 7).2 (Z.map U8),true⟩::⟨bh,Sl.cJ 5 1 40 ch ((eW h).map U8),true⟩::⟨b6,Row 26 (sec { s with send:=nx,sent:=s.sent+1 } kv),true⟩::(fD q s.kept++[]))
    rw [e1,List.append_nil]
    generalize xx 7=xz
    obtain ⟨bz,cz⟩:=xz
    clear hx e1 xx vs Ms
    try dsimp only
    repeat (first | refine JC.seq ?_ | refine JE.next ?_)
    have cD:=fun (bs : Nat) (w' : World) (hb : aT.ok w' ⟨some ⟨bh,0,none⟩,ch,eW h⟩) (hb2 : aT.ok w' ⟨some ⟨bz,0,none⟩,cz,Z⟩) (hrow : ∃ ob,w'.heap[bs]?=some ob∧Row 27 [aT.v ⟨some ⟨bh,0,none⟩,ch,eW h⟩,aT.v ⟨some ⟨bz,0,none⟩,cz,Z⟩] ob)=>mB ⟨some ⟨bh,0,none⟩,ch,eW h⟩ ⟨some ⟨bz,0,none⟩,cz,Z⟩ bs w' hb hb2 hrow (by show 0<(eW h).length+Z.length;omega) (by show (eW h).length+Z.length≤_;omega)
    have hzv : aT.v ⟨some ⟨bz,0,none⟩,cz,Z⟩=.slice (some ⟨bz,0,none⟩) (p.l.length+32) cz:=by simp [aT.v,hsKl]
    rw [hbv,hzv] at cD
    let vs : Nat→(Nat × Nat)→Value:=fun j y=>match j with
      | 0=>.agg (sec { s with send:=nx,sent:=s.sent+1 } kv).toArray
      | 1=>.slice (some ⟨bh,0,none⟩) 40 ch
      | 2=>.slice (some ⟨bz,0,none⟩) (p.l.length+32) cz
      | 3=>.slice (some ⟨y.1,0,none⟩) 2 2
      | 4=>.slice (some ⟨y.1,0,none⟩) (eW h++Z).length y.2
      | 6=>.slice (some ⟨y.1,0,none⟩) (eW h++Z).length y.2
      | 7=>N 0
      | _=>N 0
    let Ms : Nat→(Nat × Nat)→List aJ:=fun j y=>match j with
      | 3=>[⟨y.1,Row 27 [.slice (some ⟨bh,0,none⟩) 40 ch,.slice (some ⟨bz,0,none⟩) (p.l.length+32) cz],true⟩]
      | 4=>[⟨y.1,Sl.cJ 5 1 (eW h++Z).length y.2 ((eW h++Z).map U8),true⟩]
      | 5=>[⟨b6,Row 26 (sec { s with send:=nx,sent:=s.sent+1 } kv),true⟩]
      | 8=>[⟨bz,Sl.cJ 5 1 (p.l.length+32) cz (Z.map U8),true⟩]
      | 9=>[⟨bh,Sl.cJ 5 1 40 ch ((eW h).map U8),true⟩]
      | 10=>[⟨b6,Row 26 (sec { s with send:=nx,sent:=s.sent+1 } kv),true⟩]
      | 11=>fD q s.kept
      | _=>[]
    refine JC.grow (g:=⟨[(6,Pt b6 0),(9,.slice (some ⟨bh,0,none⟩) 40 ch),(11,.slice (some ⟨bz,0,none⟩) (p.l.length+32) cz)],12,vs,Ms,(fun j=>match j with | 3=>[(1,51),(2,52)] | 4=>[(3,53)] | 5=>[(0,50)] | 6=>[(4,54)] | _=>[]),(fun j=>match j with | 0=>[10] | 4=>[3,9,8] | 5=>[10] | _=>[]),(fun j=>match j with | 5=>[10] | _=>[]),(fun j=>match j with | 6=>some 4 | _=>none)⟩) [(6,7),(7,8)] [5,4,11] iV (by repeat (first | exact aj.nil | refine aj.cons _ _ _ rfl ?_)) ?_ (by kernel_rfl) (by kernel_rfl) (by kernel_rfl) ?_ ?_
    · show ax (_::_::_::(fD q s.kept++[])) _;rw [List.append_nil];exact ax.refl _
    · refine ⟨?_,?_,?_,?_,?_,?_,?_,?_,trivial⟩
      · (intro xx EF MF Q kk;(try refine JL.bn rfl rfl ?_);exact JL.q (OQ.af (cs:=sec { s with send:=nx,sent:=s.sent+1 } kv) fL dn rfl .here hn4 Row.all) rfl (JL.nil (kk default nofun)))
      · (intro xx EF MF Q kk;(try refine JL.bn rfl rfl ?_);exact JL.q (OQ.move rfl) rfl (JL.nil (kk default nofun)))
      · (intro xx EF MF Q kk;(try refine JL.bn rfl rfl ?_);exact JL.q (OQ.move rfl) rfl (JL.nil (kk default nofun)))
      · (intro xx EF MF Q kk;exact JL.CE (xs:=[.tmp 51,.tmp 52]) (vs:=[.slice (some ⟨bh,0,none⟩) 40 ch,.slice (some ⟨bz,0,none⟩) (p.l.length+32) cz]) Tryd.underlying88 tV rfl rfl rfl rfl (by intro v hv;simp only [List.mem_cons,List.mem_nil_iff,or_false] at hv;rcases hv with rfl | rfl <;> rfl) rfl (by decide) (by decide) rfl fun b9 _=>JL.nil (kk (b9,0) nofun))
      · (intro xx EF MF Q kk;exact JL.dK (ι:=Nat × Nat) (vs:=[.slice (some ⟨(xx 3).1,0,none⟩) 2 2]) (fun x=>.slice (some ⟨x.1,0,none⟩) (eW h++Z).length x.2) (fun x=>[⟨x.1,Sl.cJ 5 1 (eW h++Z).length x.2 ((eW h++Z).map U8),true⟩]) kC rfl rfl (fun i=>by simp) (fun w' hw'=>cD (xx 3).1 w' (dN hw' (.there .here)) (dN hw' (.there (.there .here))) (hw'.get .here)) fun x=>JL.nil (kk (x.1,x.2) nofun))
      · (intro xx EF MF Q kk;exact JL.ag (cs:=sec { s with send:=nx,sent:=s.sent+1 } kv) dn rfl rfl hn4 (bA hkv1) .here hn4 (JL.nil (kk default nofun)))
      · (intro xx EF MF Q kk;(try refine JL.bn rfl rfl ?_);exact JL.q (OQ.assign rfl) rfl (JL.nil (kk (xx 4) (fun k h=>by cases h;rfl))))
      · (intro xx EF MF Q kk;(try refine JL.bn rfl rfl ?_);exact JL.q (OQ.assign rfl) rfl (JL.nil (kk default nofun)))
    · intro xx hx
      have e1:=hx 6 4 (by decide) rfl
      show JE _ _ _ _ _ [(7,.slice (some ⟨(xx 6).1,0,none⟩) (eW h++Z).length (xx 6).2),(8,N 0),(6,Pt b6 0),(9,.slice (some ⟨bh,0,none⟩) 40 ch),(11,.slice (some ⟨bz,0,none⟩) (p.l.length+32) cz)] (⟨b6,Row 26 (sec { s with send:=nx,sent:=s.sent+1 } kv),true⟩::⟨(xx 4).1,Sl.cJ 5 1 (eW h++Z).length (xx 4).2 ((eW h++Z).map U8),true⟩::(fD q s.kept++[]))
      rw [e1,List.append_nil]
      generalize xx 4=xz
      obtain ⟨bx,cx⟩:=xz
      clear hx e1 xx vs Ms
      try dsimp only
      repeat (refine JE.next ?_)
      refine JC.ret ?_
      skip
      refine JE.CH rfl (RV.av fL dn rfl .here hn4 Row.all) (RV.tmp rfl) (RV.tmp rfl) fun w' hw=>⟨⟨q,some (bx,cx),hq,nofun⟩,by rw [← hkv];rfl,?_⟩
      show ah w [] (⟨bx,Sl.cJ 5 1 ((eW h++Z).map U8).length cx ((eW h++Z).map U8),true⟩::fD q s.kept) w'
      rw [List.length_map]
      exact hw.weak (.drop _ _ _ (ax.refl _))
end
section
set_option maxRecDepth 10000
open Sl ec gE cV gB
open iZ (Bk)
theorem Hu : Tryd.prog.underlying 57=some (.struct (Tryd.prog.fieldsOf 57)):=by kernel_rfl
theorem DN : Tryd.prog.stoodInHeld 57=false:=by kernel_rfl
theorem Gq : Tryd.prog.eqGuardType Tryd.prog.depth 57=false:=by kernel_rfl
def uO (P : Program) (t a b c : TypeId) (o : Nat) : Bool:=match (P.fieldsOf t).toList with
  | [f0,f1,f2]=>f0.type == a && f1.type == b && f2.type == c && f0.offset == 0 && f1.offset == 32 && f2.offset == o && f0.name != "_" && f1.name != "_" && f2.name != "_"
  | _=>false
theorem xe {P : Program} {t a b c : TypeId} {o : Nat} (h : uO P t a b c o=true) : ∃ f0 f1 f2,(P.fieldsOf t).toList=[f0,f1,f2]∧f0.type=a∧f1.type=b∧f2.type=c∧f0.offset=0∧f1.offset=32∧f2.offset=o∧¬ f0.name = "_" ∧ ¬ f1.name = "_" ∧ ¬ f2.name = "_" := by
  unfold uO at h
  split at h
  · next f0 f1 f2 e=>
    simp only [Bool.and_eq_true,beq_iff_eq,bne_iff_ne,ne_eq] at h
    obtain ⟨⟨⟨⟨⟨⟨⟨⟨h1,h2⟩,h3⟩,h4⟩,h5⟩,h6⟩,h7⟩,h8⟩,h9⟩:=h
    exact ⟨f0,f1,f2,e,h1,h2,h3,h4,h5,h6,h7,h8,h9⟩
  · cases h
theorem sG (a : Bk) (w : World) (d : Nat) (ha : a.length=32) : (Op.equalIn (d+2) 23 (.agg (a.map U8).toArray) (.agg (a.map U8).toArray)).run Tryd.prog w=.ok true w:=by
  rw [jU,run_equalIn_bytes w d 23 5 32 Tryd.underlying23 Tryd.underlying5 (fun w=>aE dH w) _ _ (by simpa using ha) (by simpa using ha)]
  simp
theorem Bv (k : Kp) (hk : k.ok) (w : World) : (Op.equalIn 10000 57 (.agg (c6 k).toArray) (.agg (c6 k).toArray)).run Tryd.prog w=.ok true w:=by
  obtain ⟨f0,f1,f2,hf,t0,t1,t2,o0,o1,o2,b0,b1,b2⟩:=xe (show uO Tryd.prog 57 23 3 23 33=true by kernel_rfl)
  have p0 : ∀ w,(Go.part 23 (c6 k).toArray 0).run Tryd.prog w=.ok (.agg (k.chain.map U8).toArray) w:=fun w=>by
    have:=lO hk
    rw [List.length_map,hk.c] at this
    simp [Go.part,fZ bB,aE aO]
    simpa using this
  have p1 : ∀ w,(Go.part 3 (c6 k).toArray 32).run Tryd.prog w=.ok (N k.num) w:=fun w=>by
    have:=qB hk
    simp [Go.part,isAgg,run_underlying Tryd.underlying3,this]
  have p2 : ∀ w,(Go.part 23 (c6 k).toArray 33).run Tryd.prog w=.ok (.agg (k.key.map U8).toArray) w:=fun w=>by
    have:=qC hk
    rw [List.length_map,hk.k] at this
    simp [Go.part,fZ bB,aE aO]
    simpa using this
  have q0:=fun w=>sG k.chain w 9997 hk.c
  have q2:=fun w=>sG k.key w 9997 hk.k
  have q1:=fun w=>run_equalIn_int (P:=Tryd.prog) w 9998 3 .i64 .i64 (k.num : Int) (k.num : Int) Tryd.underlying3
  rw [show (10000 : Nat)=9999+1 from rfl,run_equalIn_struct w 9999 57 _ _ Hu DN,hf]
  simp [Op.eqFields,t0,t1,t2,o0,o1,o2,b0,b1,b2,p0,p1,p2,q0,q1,q2]
section
variable {n : Nat} {E : Env} {C : World→Prop} {dst : Option Tmp} {t t' ty : TypeId} {pos : String} {aft : Array Edge} {g : Option (Nat × Bool)} {x y : Operand}
theorem OQ.Gr {k : Kp} (hk : k.ok) (hx : ev E x=some (.agg (c6 k).toArray)) (hy : ev E y=some (.agg (c6 k).toArray)) : OQ Tryd.prog n E C ⟨dst,.binOp .neq 57 x y t',ty,pos,aft,g⟩ (.bool false):=
  OQ.run fun a ha w _=>by
    have h1:=ha.eval hx
    have h2:=ha.eval hy
    have h4:=fun w=>run_eqGuard_agg (P:=Tryd.prog) (w:=w) .neq 57 x y (c6 k).toArray (c6 k).toArray Gq
    have h5:=fun w=>run_neq_struct (P:=Tryd.prog) (w:=w) 57 (c6 k).toArray (c6 k).toArray
    simp only [execOp,h1,h2,Sem.run_bind,h4,Result.andThen_ok,h5,Bv k hk]
    rfl
end
theorem mC : aR Tryd.prog 11:=⟨_,Tryd.func11,rfl,by kernel_rfl⟩
set_option maxHeartbeats 32000000 in
theorem mD (s : bC) (ka kb : fX) (hs : s.ok) (w : World) (hka : ka.ok w) (hkb : kb.ok w) (ea : ka.l=s.kept) (eb : kb.l=s.kept) (hl : s.kept.length<9223372036854775807) : Calls Tryd.prog 11 [.agg (sec s ka.v).toArray,.agg (sec s kb.v).toArray].toArray w fun e w'=>e=.returned (.bool true)∧Ext w w':=by
  have l1 : (s.root.map U8).length=32:=by rw [List.length_map];exact hs.root
  have l2 : (s.own.map U8).length=32:=by rw [List.length_map];exact hs.own
  have l3 : (s.other.map U8).length=32:=by rw [List.length_map];exact hs.other
  have l4 : (s.send.map U8).length=32:=by rw [List.length_map];exact hs.send
  have l5 : (s.take.map U8).length=32:=by rw [List.length_map];exact hs.take
  have ha : ∀ o,Row 26 (sec s ka.v) o→cellAt o 165=some ka.v:=Row.cell (fk hs _)
  have hb : ∀ o,Row 26 (sec s kb.v) o→cellAt o 165=some kb.v:=Row.cell (fk hs _)
  refine enter (n:=101) Tryd.func11 rfl rfl rfl (ah.start w []) ?_
  repeat (first | refine JC.seq ?_ | refine JC.region ?_)
  refine JL.box (r:=sec s ka.v) rfl rfl rfl fun b2 _=>?_
  refine JL.box (r:=sec s kb.v) rfl rfl rfl fun b3 _=>?_
  repeat (first | refine JL.q (by first|(apply OQ.assign;rfl)|(apply OQ.cw;rfl;rfl;rfl;exact (by decide);rfl)) rfl ?_ | refine JC.seq ?_ | refine JC.region ?_ | refine JL.nil ?_ | refine JE.next ?_)
  simp only [List.append]
  repeat (first | refine JL.q (by first|(apply OQ.af (cs:=s.root.map U8);exact bB;exact aO;rfl;exact (.there .here);exact l1;exact (Row.cells (j3 hs _)))|(apply OQ.af (cs:=s.root.map U8);exact bB;exact aO;rfl;exact .here;exact l1;exact (Row.cells (j3 hs _)))|(apply OQ.rj (r:=s.root) (q:=s.root);exact Tryd.underlying23;exact Tryd.underlying5;exact dH;exact n6;rfl;rfl;exact hs.root;exact hs.root;rfl)|(apply OQ.af (cs:=s.own.map U8);exact bB;exact aO;rfl;exact (.there .here);exact l2;exact (Row.cells (j4 hs _)))|(apply OQ.af (cs:=s.own.map U8);exact bB;exact aO;rfl;exact .here;exact l2;exact (Row.cells (j4 hs _)))|(apply OQ.rj (r:=s.own) (q:=s.own);exact Tryd.underlying23;exact Tryd.underlying5;exact dH;exact n6;rfl;rfl;exact hs.own;exact hs.own;rfl)|(apply OQ.af (cs:=s.other.map U8);exact bB;exact aO;rfl;exact (.there .here);exact l3;exact (Row.cells (iI hs _)))|(apply OQ.af (cs:=s.other.map U8);exact bB;exact aO;rfl;exact .here;exact l3;exact (Row.cells (iI hs _)))|(apply OQ.rj (r:=s.other) (q:=s.other);exact Tryd.underlying23;exact Tryd.underlying5;exact dH;exact n6;rfl;rfl;exact hs.other;exact hs.other;rfl)|(apply OQ.af (cs:=s.send.map U8);exact bB;exact aO;rfl;exact (.there .here);exact l4;exact (Row.cells (hJ hs _)))|(apply OQ.af (cs:=s.send.map U8);exact bB;exact aO;rfl;exact .here;exact l4;exact (Row.cells (hJ hs _)))|(apply OQ.rj (r:=s.send) (q:=s.send);exact Tryd.underlying23;exact Tryd.underlying5;exact dH;exact n6;rfl;rfl;exact hs.send;exact hs.send;rfl)|(apply OQ.af (cs:=s.take.map U8);exact bB;exact aO;rfl;exact (.there .here);exact l5;exact (Row.cells (j5 hs _)))|(apply OQ.af (cs:=s.take.map U8);exact bB;exact aO;rfl;exact .here;exact l5;exact (Row.cells (j5 hs _)))|(apply OQ.rj (r:=s.take) (q:=s.take);exact Tryd.underlying23;exact Tryd.underlying5;exact dH;exact n6;rfl;rfl;exact hs.take;exact hs.take;rfl)|(apply OQ.load;exact cg;rfl;exact (.there .here);exact (Row.cell (e7 hs _)))|(apply OQ.load;exact cg;rfl;exact .here;exact (Row.cell (e7 hs _)))|(apply OQ.load;exact cg;rfl;exact (.there .here);exact (Row.cell (iJ hs _)))|(apply OQ.load;exact cg;rfl;exact .here;exact (Row.cell (iJ hs _)))|(apply OQ.Ep;exact Tryd.underlying4;rfl;rfl)|(apply OQ.load;exact bg;rfl;exact (.there .here);exact (Row.cell (gh hs _)))|(apply OQ.load;exact bg;rfl;exact .here;exact (Row.cell (gh hs _)))|(apply OQ.load;exact bg;rfl;exact (.there .here);exact (Row.cell (iK hs _)))|(apply OQ.load;exact bg;rfl;exact .here;exact (Row.cell (iK hs _)))|(apply OQ.load;exact bg;rfl;exact (.there .here);exact (Row.cell (hO hs _)))|(apply OQ.load;exact bg;rfl;exact .here;exact (Row.cell (hO hs _)))|(apply OQ.xJ;rfl;rfl;rfl)|(apply OQ.load;exact ef;rfl;exact (.there .here);exact ha)|(apply OQ.load;exact ef;rfl;exact .here;exact hb)|(apply OQ.len (k:=ka.l.length) (ad:=ka.ad) (cap:=ka.cap);exact Tryd.underlying24;rfl)|(apply OQ.len (k:=kb.l.length) (ad:=kb.ad) (cap:=kb.cap);exact Tryd.underlying24;rfl)|(apply OQ.xJ (a:=((ka.l.length : Nat) : Int)) (b:=((kb.l.length : Nat) : Int));rfl;rfl;exact (by rw [ea,eb]))|(apply OQ.bG;rfl;rfl)|(apply OQ.move;rfl)|(apply OQ.cw;rfl;rfl;rfl;exact (by decide);rfl)) rfl ?_ | refine JL.nil ?_ | refine JE.next ?_ | refine JL.bn rfl rfl ?_)
  refine JC.cond_false rfl rfl ?_
  repeat (first | refine JL.q (by (apply OQ.assign;rfl)) rfl ?_ | refine JC.seq ?_ | refine JC.region ?_ | refine JC.block ?_ | refine JC.skip ?_ | refine JL.nil ?_ | refine JE.next ?_)
  refine JC.loop (fun i : Nat=>[(2,Pt b2 0),(3,Pt b3 0),(5,N i)]) (fun _=>[⟨b3,Row 26 (sec s kb.v),true⟩,⟨b2,Row 26 (sec s ka.v),true⟩]) (fun i=>s.kept.length - i) (fun i=>i≤s.kept.length) 0 (Nat.zero_le _) (by repeat (first | exact aj.nil | refine aj.cons _ _ _ rfl ?_)) (ax.refl _) ?_
  intro i hi
  rw [← ea] at hi
  repeat (first | refine JL.q (by first|(apply OQ.load;exact ef;rfl;exact (.there .here);exact ha)|(apply OQ.len (k:=ka.l.length) (ad:=ka.ad) (cap:=ka.cap);exact Tryd.underlying24;rfl)|(apply OQ.cF (a:=i) (b:=ka.l.length);rfl;rfl)|(apply OQ.move;rfl)|(apply OQ.cw;rfl;rfl;rfl;exact (by decide);rfl)) rfl ?_ | refine JC.seq ?_ | refine JC.region ?_ | refine JL.nil ?_ | refine JE.next ?_)
  refine JC.cond rfl (fun hc=>?_) (fun hc=>?_)
  · have hi' : i<ka.l.length:=of_decide_eq_true hc
    clear hc
    have hi2 : i<kb.l.length:=by rw [eb,← ea];exact hi'
    obtain ⟨ba,ja,eA,la,cA⟩:=hka.at hi'
    obtain ⟨bb,jb,eB,lb,cB⟩:=hkb.at hi2
    have hok:=hka.all _ (fX.mem hi')
    have hkk : kb.l.getD i oN=ka.l.getD i oN:=by rw [ea,eb]
    rw [hkk] at cB
    have vA : ka.v=.slice (some ⟨ba,ja,none⟩) ka.l.length ka.cap:=by rw [← eA];rfl
    have vB : kb.v=.slice (some ⟨bb,jb,none⟩) kb.l.length kb.cap:=by rw [← eB];rfl
    generalize ka.l.getD i oN=c at cA cB hok
    have hl65:=j0 hok
    have ha2:=ha
    have hb2:=hb
    rw [vA] at ha2
    rw [vB] at hb2
    have ha3 : ∀ o,Row 26 (sec s ka.v) o→cellAt o 165=some (.slice (some ⟨ba,ja,none⟩) ka.l.length ka.cap):=by rw [vA];exact ha2
    have hb3 : ∀ o,Row 26 (sec s kb.v) o→cellAt o 165=some (.slice (some ⟨bb,jb,none⟩) kb.l.length kb.cap):=by rw [vB];exact hb2
    repeat (first | refine JC.seq ?_ | refine JC.block ?_ | refine JC.skip ?_ | refine JE.next ?_)
    refine JC.quiet iV (by kernel_rfl) ?_
    repeat (first | refine JQ.q (by first|(apply OQ.load;exact ef;rfl;exact (.there .here);exact ha3)|(apply OQ.load;exact ef;rfl;exact .here;exact hb3)|(apply OQ.gw (i:=i) (len:=ka.l.length) (cap:=ka.cap) (b:=ba) (j:=ja);exact Tryd.underlying24;exact qz;rfl;rfl;exact hi')|(apply OQ.gw (i:=i) (len:=kb.l.length) (cap:=kb.cap) (b:=bb) (j:=jb);exact Tryd.underlying24;exact qz;rfl;rfl;exact hi2)|(apply OQ.bJ (cs:=c6 c);exact Fv;rfl;exact (hl65 ▸ qz);exact la;exact (by simp);exact cA)|(apply OQ.bJ (cs:=c6 c);exact Fv;rfl;exact (hl65 ▸ qz);exact lb;exact (by simp);exact cB)|(apply OQ.Gr;exact hok;rfl;rfl)|(apply OQ.move;rfl)|(apply OQ.cw;rfl;rfl;rfl;exact (by decide);rfl)) rfl ?_ | refine JQ.nil ?_ | refine JE.next ?_)
    refine JC.cond_false rfl rfl ?_
    repeat (first | refine JL.q (by first|(apply OQ.bH (a:=i) (b:=1);rfl;rfl;exact (by rw [ea] at hi';omega))|(apply OQ.move;rfl)|(apply OQ.assign;rfl)) rfl ?_ | refine JC.region ?_ | refine JC.skip ?_ | refine JL.nil ?_ | refine JE.next ?_ | refine JE.az ?_)
    exact JE.again (i:=i) (i+1) (by rw [ea] at hi';exact hi') (by rw [ea] at hi';omega) (by repeat (first | exact aj.nil | refine aj.cons _ _ _ rfl ?_)) (ax.refl _)
  · repeat (first | refine JL.q (by (apply OQ.assign;rfl)) rfl ?_ | refine JC.seq ?_ | refine JC.region ?_ | refine JC.exit ?_ | refine JL.nil ?_ | refine JE.next ?_ | refine JE.aB ?_ | refine JE.aG ?_)
    refine JC.ret ?_
    skip
    exact JE.aM rfl (RV.tmp rfl) fun w' hw=>⟨rfl,hw.aH⟩
end
end Go.Proofs.YtkfeolclllhfpaaDoor
