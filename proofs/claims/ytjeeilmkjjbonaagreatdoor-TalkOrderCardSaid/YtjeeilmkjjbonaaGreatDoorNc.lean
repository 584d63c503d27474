/-
  Of no statement by itself: the texts TalC, FieW, FibA, TalD, LinB, LinK, LinC, LinW, LinA, LinH, LinY, Slfl, LinI, LinM, LinX, LinZ, LinU, Slal, LinD, TalU, TalO, TalQ, TalV, TalE, LsB, TalF, TalG, TalH, Same, Slzq, TalI in one.
  Conditions: each theorem's own.
-/
import Derived.Test.YtjeeilmkjjbonaaGreatDoorNb
import Derived.Laws.Cover3
import Derived.Lib.IndexMore
import Derived.Shelf.Bytes.SlCut
import Derived.Laws.ComplexArith
import Derived.Shelf.Bytes.SlIndexAt
import Derived.Lib.BytesEntry
set_option linter.unusedSimpArgs false
set_option linter.unusedVariables false
namespace Go.Proofs.YtjeeilmkjjbonaaGreatDoor
section
set_option maxRecDepth 10000
open Sl
namespace de
def Pw.qT (z : Pw) (k : Nat) : Pw:={ z with st:=k }
theorem Pw.sO {z : Pw} (h : z.ok) (k : Nat) : (z.qT k).ok:=⟨h.t,h.l,h.d,h.m⟩
theorem eJ {S : Po} (hn : S.ln=[]) {z : Pw} (h : z.is S) (T : Po) (hT : T.ln=[]) : z.ln=ku T:=h.ln.trans ((ec hn).trans (ec hT).symm)
set_option maxHeartbeats 4000000
theorem mG (b : Nat) (z : Pw) (S : Po) (ok : z.ok) (hs : z.is S) (hn : S.ln=[]) (t : List Bt) (w : World) (h0 : aa w (keys (z.E b)) (z.E b) w) : Calls Tryz.prog 143 [Pt b 0,Z t].toArray w (cj (keys (z.E b)) b (cY S t) w):=by
  generalize hS : keys (z.E b)=S0 at h0 ⊢
  unfold cY
  cases h1 : decide (t=[]) with
  | false=>
    rw [if_neg (of_decide_eq_false h1)]
    refine enter (n:=17) Tryz.func143 rfl rfl rfl h0 ?_
    repeat (first | refine JL.q (by first|(apply OQ.ez (r:=[]);rfl;rfl;exact h1)|(apply OQ.move;rfl)|(apply OQ.assign;rfl)) rfl ?_ | refine JC.seq ?_ | refine JC.region ?_ | refine JC.block ?_ | refine JL.nil ?_ | refine JE.next ?_)
    refine JC.cond_true rfl rfl ?_
    repeat (first | refine JL.q (by (apply OQ.assign;rfl)) rfl ?_ | refine JC.seq ?_ | refine JC.region ?_ | refine JL.nil ?_ | refine JE.next ?_)
    refine JC.ret ?_
    repeat (first | refine JE.ag ?_ | refine JE.aJ ?_)
    exact JE.av rfl (RV.tmp rfl) fun w' hw=>⟨z,⟨ok,hs⟩,rfl,hw⟩
  | true=>
    rw [if_pos (of_decide_eq_true h1)]
    cases h2 : decide (z.st=3) with
    | false=>
      rw [if_neg (fun e=>of_decide_eq_false h2 (hs.st.trans e))]
      refine enter (n:=17) Tryz.func143 rfl rfl rfl h0 ?_
      repeat (first | refine JL.q (by first|(apply OQ.ez (r:=[]);rfl;rfl;exact h1)|(apply OQ.move;rfl)|(apply OQ.assign;rfl)) rfl ?_ | refine JC.seq ?_ | refine JC.region ?_ | refine JC.block ?_ | refine JL.nil ?_ | refine JE.next ?_)
      refine JC.cond_false rfl rfl ?_
      repeat (first | refine JL.q (by first|(apply OQ.load;exact bN;rfl;exact .here;exact (Row.cell (v:=N z.st) rfl))|(apply OQ.c5;rfl;rfl;exact h2)|(apply OQ.move;rfl)|(apply OQ.assign;rfl)|(apply OQ.aI;rfl)|(apply OQ.br;rfl;rfl;rfl;exact (by decide);rfl)) rfl ?_ | refine JC.seq ?_ | refine JC.region ?_ | refine JL.nil ?_ | refine JE.next ?_)
      refine JC.cond_true rfl rfl ?_
      repeat (first | refine JL.q (by (apply OQ.assign;rfl)) rfl ?_ | refine JC.seq ?_ | refine JC.region ?_ | refine JL.nil ?_ | refine JE.next ?_)
      refine JC.ret ?_
      repeat (first | refine JE.ag ?_ | refine JE.aJ ?_)
      exact JE.av rfl (RV.tmp rfl) fun w' hw=>⟨z,⟨ok,hs⟩,rfl,hw⟩
    | true=>
      rw [if_pos (hs.st.symm.trans (of_decide_eq_true h2))]
      refine enter (n:=17) Tryz.func143 rfl rfl rfl h0 ?_
      repeat (first | refine JL.q (by first|(apply OQ.ez (r:=[]);rfl;rfl;exact h1)|(apply OQ.move;rfl)|(apply OQ.assign;rfl)) rfl ?_ | refine JC.seq ?_ | refine JC.region ?_ | refine JC.block ?_ | refine JL.nil ?_ | refine JE.next ?_)
      refine JC.cond_false rfl rfl ?_
      repeat (first | refine JL.q (by first|(apply OQ.load;exact bN;rfl;exact .here;exact (Row.cell (v:=N z.st) rfl))|(apply OQ.c5;rfl;rfl;exact h2)|(apply OQ.move;rfl)|(apply OQ.assign;rfl)|(apply OQ.aI;rfl)|(apply OQ.br;rfl;rfl;rfl;exact (by decide);rfl)) rfl ?_ | refine JC.seq ?_ | refine JC.region ?_ | refine JL.nil ?_ | refine JE.next ?_)
      refine JC.cond_false rfl rfl ?_
      repeat (first | refine JL.q (by first|(apply OQ.move;rfl)|(apply OQ.aI;rfl)|(apply OQ.br;rfl;rfl;rfl;exact (by decide);rfl)) rfl ?_ | refine JC.seq ?_ | refine JC.region ?_ | refine JC.skip ?_ | refine JE.next ?_ | refine JE.an ?_)
      refine JL.fL 4 rfl rfl ?_
      repeat (first | refine JL.q (by (apply OQ.assign;rfl)) rfl ?_ | refine JC.seq ?_ | refine JC.region ?_ | refine JL.nil ?_ | refine JE.next ?_)
      refine JC.ret ?_
      skip
      exact JE.av rfl (RV.tmp rfl) fun w' hw=>⟨z.qT 4,⟨Pw.sO ok 4,⟨rfl,hs.fr,hs.to,eJ hn hs _ hn,hs.dt,hs.ms⟩⟩,rfl,hw⟩
theorem mH (b : Nat) (z : Pw) (S : Po) (ok : z.ok) (hs : z.is S) (hn : S.ln=[]) (t : List Bt) (w : World) (h0 : aa w (keys (z.E b)) (z.E b) w) : Calls Tryz.prog 144 [Pt b 0,Z t].toArray w (cj (keys (z.E b)) b (cZ S t) w):=by
  generalize hS : keys (z.E b)=S0 at h0 ⊢
  unfold cZ
  cases h1 : decide (t=[]) with
  | false=>
    rw [if_neg (of_decide_eq_false h1)]
    refine enter (n:=14) Tryz.func144 rfl rfl rfl h0 ?_
    repeat (first | refine JL.q (by first|(apply OQ.ez (r:=[]);rfl;rfl;exact h1)|(apply OQ.move;rfl)|(apply OQ.assign;rfl)) rfl ?_ | refine JC.seq ?_ | refine JC.region ?_ | refine JL.nil ?_ | refine JE.next ?_)
    refine JC.cond_true rfl rfl ?_
    repeat (first | refine JL.q (by (apply OQ.assign;rfl)) rfl ?_ | refine JC.seq ?_ | refine JC.region ?_ | refine JL.nil ?_ | refine JE.next ?_)
    refine JC.ret ?_
    repeat (refine JE.ag ?_)
    exact JE.av rfl (RV.tmp rfl) fun w' hw=>⟨z,⟨ok,hs⟩,rfl,hw⟩
  | true=>
    rw [if_pos (of_decide_eq_true h1)]
    cases h2 : decide (z.st=0) with
    | true=>
      rw [if_pos (hs.st.symm.trans (of_decide_eq_true h2))]
      refine enter (n:=14) Tryz.func144 rfl rfl rfl h0 ?_
      repeat (first | refine JL.q (by first|(apply OQ.ez (r:=[]);rfl;rfl;exact h1)|(apply OQ.move;rfl)|(apply OQ.assign;rfl)) rfl ?_ | refine JC.seq ?_ | refine JC.region ?_ | refine JL.nil ?_ | refine JE.next ?_)
      refine JC.cond_false rfl rfl ?_
      repeat (first | refine JL.q (by first|(apply OQ.load;exact bN;rfl;exact .here;exact (Row.cell (v:=N z.st) rfl))|(apply OQ.c5;rfl;rfl;exact h2)|(apply OQ.move;rfl)|(apply OQ.aI;rfl)|(apply OQ.br;rfl;rfl;rfl;exact (by decide);rfl)) rfl ?_ | refine JC.seq ?_ | refine JC.region ?_ | refine JC.skip ?_ | refine JL.nil ?_ | refine JE.next ?_)
      refine JC.cond_false rfl rfl ?_
      repeat (first | refine JL.q (by (apply OQ.assign;rfl)) rfl ?_ | refine JC.seq ?_ | refine JC.region ?_ | refine JC.skip ?_ | refine JL.nil ?_ | refine JE.next ?_)
      refine JC.ret ?_
      skip
      exact JE.av rfl (RV.tmp rfl) fun w' hw=>⟨z,⟨ok,hs⟩,rfl,hw⟩
    | false=>
      rw [if_neg (fun e=>of_decide_eq_false h2 (hs.st.trans e))]
      refine enter (n:=14) Tryz.func144 rfl rfl rfl h0 ?_
      repeat (first | refine JL.q (by first|(apply OQ.ez (r:=[]);rfl;rfl;exact h1)|(apply OQ.move;rfl)|(apply OQ.assign;rfl)) rfl ?_ | refine JC.seq ?_ | refine JC.region ?_ | refine JL.nil ?_ | refine JE.next ?_)
      refine JC.cond_false rfl rfl ?_
      repeat (first | refine JL.q (by first|(apply OQ.load;exact bN;rfl;exact .here;exact (Row.cell (v:=N z.st) rfl))|(apply OQ.c5;rfl;rfl;exact h2)|(apply OQ.move;rfl)|(apply OQ.aI;rfl)|(apply OQ.br;rfl;rfl;rfl;exact (by decide);rfl)) rfl ?_ | refine JC.seq ?_ | refine JC.region ?_ | refine JC.skip ?_ | refine JL.nil ?_ | refine JE.next ?_)
      refine JC.cond_true rfl rfl ?_
      repeat (first | refine JL.q (by (apply OQ.move;rfl)) rfl ?_ | refine JC.region ?_)
      refine JL.iI rfl rfl ?_
      repeat (first | refine JL.q (by (apply OQ.assign;rfl)) rfl ?_ | refine JC.seq ?_ | refine JC.region ?_ | refine JL.nil ?_ | refine JE.next ?_)
      refine JC.ret ?_
      skip
      exact JE.av rfl (RV.tmp rfl) fun w' hw=>⟨z.bH 1,⟨Pw.iG ok 1,Pw.iH hs hn 1⟩,rfl,hw⟩
theorem oz (b : Nat) (z : Pw) (S : Po) (ok : z.ok) (hs : z.is S) (hn : S.ln=[]) (t : List Bt) (w : World) (h0 : aa w (keys (z.E b)) (z.E b) w) : Calls Tryz.prog 145 [Pt b 0,Z t].toArray w (cj (keys (z.E b)) b (eS S t) w):=by
  generalize hS : keys (z.E b)=S0 at h0 ⊢
  unfold eS
  cases h1 : decide (t=[]) with
  | false=>
    rw [if_neg (of_decide_eq_false h1)]
    refine enter (n:=12) Tryz.func145 rfl rfl rfl h0 ?_
    repeat (first | refine JL.q (by first|(apply OQ.ez (r:=[]);rfl;rfl;exact h1)|(apply OQ.move;rfl)|(apply OQ.assign;rfl)) rfl ?_ | refine JC.seq ?_ | refine JC.region ?_ | refine JL.nil ?_ | refine JE.next ?_)
    refine JC.cond_true rfl rfl ?_
    repeat (first | refine JL.q (by (apply OQ.assign;rfl)) rfl ?_ | refine JC.seq ?_ | refine JC.region ?_ | refine JL.nil ?_ | refine JE.next ?_)
    refine JC.ret ?_
    repeat (refine JE.ag ?_)
    exact JE.av rfl (RV.tmp rfl) fun w' hw=>⟨z,⟨ok,hs⟩,rfl,hw⟩
  | true=>
    rw [if_pos (of_decide_eq_true h1)]
    refine enter (n:=12) Tryz.func145 rfl rfl rfl h0 ?_
    repeat (first | refine JL.q (by first|(apply OQ.ez (r:=[]);rfl;rfl;exact h1)|(apply OQ.move;rfl)|(apply OQ.assign;rfl)) rfl ?_ | refine JC.seq ?_ | refine JC.region ?_ | refine JL.nil ?_ | refine JE.next ?_)
    refine JC.cond_false rfl rfl ?_
    repeat (first | refine JL.q (by (apply OQ.move;rfl)) rfl ?_ | refine JC.seq ?_ | refine JC.region ?_ | refine JC.skip ?_ | refine JE.next ?_)
    refine JL.iI rfl rfl ?_
    repeat (first | refine JL.q (by first|(apply OQ.move;rfl)|(apply OQ.aI;rfl)|(apply OQ.br;rfl;rfl;rfl;exact (by decide);rfl)) rfl ?_ | refine JC.seq ?_ | refine JC.region ?_ | refine JL.nil ?_ | refine JE.next ?_)
    refine JL.fL (z:=z.bH 1) 5 rfl rfl ?_
    repeat (first | refine JL.q (by (apply OQ.assign;rfl)) rfl ?_ | refine JC.seq ?_ | refine JC.region ?_ | refine JL.nil ?_ | refine JE.next ?_)
    refine JC.ret ?_
    skip
    exact JE.av rfl (RV.tmp rfl) fun w' hw=>⟨z.bH 5,⟨Pw.iG ok 5,Pw.iH hs hn 5⟩,rfl,hw⟩
theorem mI (s : List Bt) (w : World) (hl : s.length<1000000) : Calls Tryz.prog 106 [Z s].toArray w fun e w'=>e=.returned (.bool (lq s))∧Ext w w':=by
  have hc:=fun w'=>mA s w' hl
  unfold lq
  generalize (Tok.fE s).1=a at hc ⊢
  generalize (Tok.fE s).2=k at hc ⊢
  refine enter (n:=17) Tryz.func106 rfl rfl rfl (aa.start w []) ?_
  cases h1 : decide (k=0) with
  | false=>
    repeat (first | refine JL.q (by first|(apply OQ.ah (vs:=[Z s]);exact dJ;rfl;exact (fun w' _=>hc w'))|(apply OQ.extract;rfl;rfl)|(apply OQ.fZ (b:=0);rfl;rfl;exact h1)|(apply OQ.aH;rfl;rfl)|(apply OQ.move;rfl)|(apply OQ.assign;rfl)) rfl ?_ | refine JC.seq ?_ | refine JC.region ?_ | refine JL.nil ?_ | refine JE.next ?_ | refine JL.bh rfl rfl rfl rfl ?_)
    refine JC.ret ?_
    skip
    exact JE.av rfl (RV.tmp rfl) fun w' hw=>⟨rfl,hw.aE⟩
  | true=>
    cases h2 : decide (a=s)
    all_goals (repeat (first | refine JL.q (by first|(apply OQ.ah (vs:=[Z s]);exact dJ;rfl;exact (fun w' _=>hc w'))|(apply OQ.extract;rfl;rfl)|(apply OQ.fZ (b:=0);rfl;rfl;exact h1)|(apply OQ.gu;rfl;rfl;exact h2)|(apply OQ.aN;rfl;rfl)|(apply OQ.move;rfl)|(apply OQ.assign;rfl)) rfl ?_ | refine JC.seq ?_ | refine JC.region ?_ | refine JL.nil ?_ | refine JE.next ?_ | refine JL.aV rfl rfl ?_))
    all_goals refine JC.ret ?_
    all_goals (skip)
    all_goals exact JE.av rfl (RV.tmp rfl) fun w' hw=>⟨rfl,hw.aE⟩
def gb (s : List Bt) : Value:=match dY s with
  | none=>.tuple #[Z [],.bool false]
  | some a=>.tuple #[Z a,.bool true]
theorem gV (s : List Bt) (w : World) (hl : s.length<1000000) : Calls Tryz.prog 175 [Z s].toArray w fun e w'=>e=.returned (gb s)∧Ext w w':=by
  have c1:=fun w'=>qk s 60 w'
  unfold sM at c1
  have tl : s.tail.length<1000000:=by rw [List.length_tail];omega
  by_cases h1 : s.head?=some 60
  · simp only [h1,if_true] at c1
    have c2:=fun w'=>iF s.tail 62 w' (by omega)
    unfold qR at c2
    by_cases h2 : s.tail.getLast?=some 62
    · simp only [h2,if_true] at c2
      have c3:=fun w'=>mI s.tail.dropLast w' (by rw [List.length_dropLast];omega)
      cases h3 : lq s.tail.dropLast with
      | true=>
        simp only [h3] at c3
        rw [show gb s=.tuple #[Z s.tail.dropLast,.bool true] by unfold gb dY;rw [if_pos ⟨h1,h2,h3⟩]]
        refine enter (n:=30) Tryz.func175 rfl rfl rfl (aa.start w []) ?_
        repeat (first | refine JL.q (by first|(apply OQ.ah (vs:=[Z s,Z [60]]);exact dj;rfl;exact (fun w' _=>c1 w'))|(apply OQ.ah (vs:=[Z s.tail,Z [62]]);exact dm;rfl;exact (fun w' _=>c2 w'))|(apply OQ.ah (vs:=[Z s.tail.dropLast]);exact fY;rfl;exact (fun w' _=>c3 w'))|(apply OQ.extract;rfl;rfl)|(apply OQ.not;rfl)|(apply OQ.aH;rfl;rfl)|(apply OQ.move;rfl)|(apply OQ.assign;rfl)) rfl ?_ | refine JC.seq ?_ | refine JC.region ?_ | refine JL.nil ?_ | refine JE.next ?_ | refine JL.aV rfl rfl ?_)
        refine JC.cond_false rfl rfl ?_
        repeat (first | refine JL.q (by first|(apply OQ.move;rfl)|(apply OQ.assign;rfl)) rfl ?_ | refine JC.seq ?_ | refine JC.region ?_ | refine JC.skip ?_ | refine JL.nil ?_ | refine JE.next ?_)
        refine JC.ret ?_
        skip
        exact JE.bz rfl (RV.tmp rfl) (RV.tmp rfl) fun w' hw=>⟨rfl,hw.aE⟩
      | false=>
        simp only [h3] at c3
        rw [show gb s=.tuple #[Z [],.bool false] by unfold gb dY;rw [if_neg (by rw [h3];simp)]]
        refine enter (n:=30) Tryz.func175 rfl rfl rfl (aa.start w []) ?_
        repeat (first | refine JL.q (by first|(apply OQ.ah (vs:=[Z s,Z [60]]);exact dj;rfl;exact (fun w' _=>c1 w'))|(apply OQ.ah (vs:=[Z s.tail,Z [62]]);exact dm;rfl;exact (fun w' _=>c2 w'))|(apply OQ.ah (vs:=[Z s.tail.dropLast]);exact fY;rfl;exact (fun w' _=>c3 w'))|(apply OQ.extract;rfl;rfl)|(apply OQ.not;rfl)|(apply OQ.aH;rfl;rfl)|(apply OQ.move;rfl)|(apply OQ.assign;rfl)) rfl ?_ | refine JC.seq ?_ | refine JC.region ?_ | refine JL.nil ?_ | refine JE.next ?_ | refine JL.aV rfl rfl ?_)
        refine JC.cond_true rfl rfl ?_
        repeat (first | refine JL.q (by (apply OQ.assign;rfl)) rfl ?_ | refine JC.seq ?_ | refine JC.region ?_ | refine JL.nil ?_ | refine JE.next ?_)
        refine JC.ret ?_
        repeat (refine JE.ag ?_)
        exact JE.bz rfl (RV.tmp rfl) (RV.tmp rfl) fun w' hw=>⟨rfl,hw.aE⟩
    · simp only [h2,if_false] at c2
      rw [show gb s=.tuple #[Z [],.bool false] by unfold gb dY;rw [if_neg (fun e=>h2 e.2.1)]]
      refine enter (n:=30) Tryz.func175 rfl rfl rfl (aa.start w []) ?_
      repeat (first | refine JL.q (by first|(apply OQ.ah (vs:=[Z s,Z [60]]);exact dj;rfl;exact (fun w' _=>c1 w'))|(apply OQ.ah (vs:=[Z s.tail,Z [62]]);exact dm;rfl;exact (fun w' _=>c2 w'))|(apply OQ.extract;rfl;rfl)|(apply OQ.not;rfl)|(apply OQ.aH;rfl;rfl)|(apply OQ.aN;rfl;rfl)|(apply OQ.move;rfl)|(apply OQ.assign;rfl)) rfl ?_ | refine JC.seq ?_ | refine JC.region ?_ | refine JL.nil ?_ | refine JE.next ?_ | refine JL.aV rfl rfl ?_ | refine JL.bh rfl rfl rfl rfl ?_)
      refine JC.cond_true rfl rfl ?_
      repeat (first | refine JL.q (by (apply OQ.assign;rfl)) rfl ?_ | refine JC.seq ?_ | refine JC.region ?_ | refine JL.nil ?_ | refine JE.next ?_)
      refine JC.ret ?_
      repeat (refine JE.ag ?_)
      exact JE.bz rfl (RV.tmp rfl) (RV.tmp rfl) fun w' hw=>⟨rfl,hw.aE⟩
  · simp only [h1,if_false] at c1
    have c2:=fun w'=>iF s 62 w' (by omega)
    have hcs : ∃ u k,qR 62 s=.tuple #[Z u,.bool k]:=by unfold qR;split <;> exact ⟨_,_,rfl⟩
    obtain ⟨u,k,hcs⟩:=hcs
    rw [hcs] at c2
    rw [show gb s=.tuple #[Z [],.bool false] by unfold gb dY;rw [if_neg (fun e=>h1 e.1)]]
    refine enter (n:=30) Tryz.func175 rfl rfl rfl (aa.start w []) ?_
    repeat (first | refine JL.q (by first|(apply OQ.ah (vs:=[Z s,Z [60]]);exact dj;rfl;exact (fun w' _=>c1 w'))|(apply OQ.ah (vs:=[Z s,Z [62]]);exact dm;rfl;exact (fun w' _=>c2 w'))|(apply OQ.extract;rfl;rfl)|(apply OQ.not;rfl)|(apply OQ.aN;rfl;rfl)|(apply OQ.move;rfl)|(apply OQ.assign;rfl)) rfl ?_ | refine JC.seq ?_ | refine JC.region ?_ | refine JL.nil ?_ | refine JE.next ?_ | refine JL.bh rfl rfl rfl rfl ?_)
    refine JC.cond_true rfl rfl ?_
    repeat (first | refine JL.q (by (apply OQ.assign;rfl)) rfl ?_ | refine JC.seq ?_ | refine JC.region ?_ | refine JL.nil ?_ | refine JE.next ?_)
    refine JC.ret ?_
    repeat (refine JE.ag ?_)
    exact JE.bz rfl (RV.tmp rfl) (RV.tmp rfl) fun w' hw=>⟨rfl,hw.aE⟩
theorem kJ (b : Nat) (z : Pw) (S : Po) (ok : z.ok) (hs : z.is S) (hn : S.ln=[]) (t : List Bt) (hl : t.length<1000000) (w : World) (h0 : aa w (keys (z.E b)) (z.E b) w) : Calls Tryz.prog 141 [Pt b 0,Z t].toArray w (cj (keys (z.E b)) b (bF S t) w):=by
  generalize hS : keys (z.E b)=S0 at h0 ⊢
  have ca:=fun w'=>gV t w' hl
  unfold gb at ca
  unfold bF
  cases ha : dY t with
  | none=>
    simp only [ha] at ca
    dsimp only
    refine enter (n:=28) Tryz.func141 rfl rfl rfl h0 ?_
    repeat (first | refine JL.q (by first|(apply OQ.ah (vs:=[Z t]);exact bg;rfl;exact (fun w' _=>ca w'))|(apply OQ.extract;rfl;rfl)|(apply OQ.not;rfl)|(apply OQ.move;rfl)|(apply OQ.assign;rfl)) rfl ?_ | refine JC.seq ?_ | refine JC.region ?_ | refine JC.block ?_ | refine JL.nil ?_ | refine JE.next ?_)
    refine JC.cond_true rfl rfl ?_
    repeat (first | refine JL.q (by (apply OQ.assign;rfl)) rfl ?_ | refine JC.seq ?_ | refine JC.region ?_ | refine JL.nil ?_ | refine JE.next ?_)
    refine JC.ret ?_
    repeat (first | refine JE.ag ?_ | refine JE.aJ ?_)
    exact JE.av rfl (RV.tmp rfl) fun w' hw=>⟨z,⟨ok,hs⟩,rfl,hw⟩
  | some a=>
    simp only [ha] at ca
    dsimp only
    cases h2 : decide (z.st=1) with
    | false=>
      rw [if_neg (fun e=>of_decide_eq_false h2 (hs.st.trans e))]
      refine enter (n:=28) Tryz.func141 rfl rfl rfl h0 ?_
      repeat (first | refine JL.q (by first|(apply OQ.ah (vs:=[Z t]);exact bg;rfl;exact (fun w' _=>ca w'))|(apply OQ.extract;rfl;rfl)|(apply OQ.not;rfl)|(apply OQ.move;rfl)|(apply OQ.assign;rfl)) rfl ?_ | refine JC.seq ?_ | refine JC.region ?_ | refine JC.block ?_ | refine JL.nil ?_ | refine JE.next ?_)
      refine JC.cond_false rfl rfl ?_
      repeat (first | refine JL.q (by first|(apply OQ.load;exact bN;rfl;exact .here;exact (Row.cell (v:=N z.st) rfl))|(apply OQ.c5;rfl;rfl;exact h2)|(apply OQ.move;rfl)|(apply OQ.assign;rfl)|(apply OQ.aI;rfl)|(apply OQ.br;rfl;rfl;rfl;exact (by decide);rfl)) rfl ?_ | refine JC.seq ?_ | refine JC.region ?_ | refine JL.nil ?_ | refine JE.next ?_)
      refine JC.cond_true rfl rfl ?_
      repeat (first | refine JL.q (by (apply OQ.assign;rfl)) rfl ?_ | refine JC.seq ?_ | refine JC.region ?_ | refine JL.nil ?_ | refine JE.next ?_)
      refine JC.ret ?_
      repeat (first | refine JE.ag ?_ | refine JE.aJ ?_)
      exact JE.av rfl (RV.tmp rfl) fun w' hw=>⟨z,⟨ok,hs⟩,rfl,hw⟩
    | true=>
      rw [if_pos (hs.st.symm.trans (of_decide_eq_true h2))]
      refine enter (n:=28) Tryz.func141 rfl rfl rfl h0 ?_
      repeat (first | refine JL.q (by first|(apply OQ.ah (vs:=[Z t]);exact bg;rfl;exact (fun w' _=>ca w'))|(apply OQ.extract;rfl;rfl)|(apply OQ.not;rfl)|(apply OQ.move;rfl)|(apply OQ.assign;rfl)) rfl ?_ | refine JC.seq ?_ | refine JC.region ?_ | refine JC.block ?_ | refine JL.nil ?_ | refine JE.next ?_)
      refine JC.cond_false rfl rfl ?_
      repeat (first | refine JL.q (by first|(apply OQ.load;exact bN;rfl;exact .here;exact (Row.cell (v:=N z.st) rfl))|(apply OQ.c5;rfl;rfl;exact h2)|(apply OQ.move;rfl)|(apply OQ.assign;rfl)|(apply OQ.aI;rfl)|(apply OQ.br;rfl;rfl;rfl;exact (by decide);rfl)) rfl ?_ | refine JC.seq ?_ | refine JC.region ?_ | refine JL.nil ?_ | refine JE.next ?_)
      refine JC.cond_false rfl rfl ?_
      repeat (first | refine JL.q (by first|(apply OQ.move;rfl)|(apply OQ.aI;rfl)|(apply OQ.br;rfl;rfl;rfl;exact (by decide);rfl)) rfl ?_ | refine JC.seq ?_ | refine JC.region ?_ | refine JC.skip ?_ | refine JE.next ?_ | refine JE.an ?_)
      refine JL.nQ a rfl rfl ?_
      repeat (first | refine JL.q (by first|(apply OQ.move;rfl)|(apply OQ.aI;rfl)|(apply OQ.br;rfl;rfl;rfl;exact (by decide);rfl)) rfl ?_ | refine JC.seq ?_ | refine JC.region ?_ | refine JL.nil ?_ | refine JE.next ?_)
      refine JL.fL 2 rfl rfl ?_
      repeat (first | refine JL.q (by (apply OQ.assign;rfl)) rfl ?_ | refine JC.seq ?_ | refine JC.region ?_ | refine JL.nil ?_ | refine JE.next ?_)
      refine JC.ret ?_
      skip
      exact JE.av rfl (RV.tmp rfl) fun w' hw=>⟨⟨2,a,z.qt,z.to,z.ql,z.ln,z.qd,z.dt,z.qm,z.zs⟩,⟨⟨ok.t,ok.l,ok.d,ok.m⟩,⟨rfl,rfl,hs.to,eJ hn hs _ hn,hs.dt,hs.ms⟩⟩,rfl,hw⟩
theorem oA (b : Nat) (z : Pw) (S : Po) (ok : z.ok) (hs : z.is S) (hn : S.ln=[]) (h10 : S.to.length≤10) (t : List Bt) (hl : t.length<1000000) (w : World) (h0 : aa w (keys (z.E b)) (z.E b) w) : Calls Tryz.prog 142 [Pt b 0,Z t].toArray w (cj (keys (z.E b)) b (cX S t) w):=by
  generalize hS : keys (z.E b)=S0 at h0 ⊢
  have ca:=fun w'=>gV t w' hl
  unfold gb at ca
  unfold cX
  cases ha : dY t with
  | none=>
    simp only [ha] at ca
    dsimp only
    refine enter (n:=48) Tryz.func142 rfl rfl rfl h0 ?_
    repeat (first | refine JL.q (by first|(apply OQ.ah (vs:=[Z t]);exact bg;rfl;exact (fun w' _=>ca w'))|(apply OQ.extract;rfl;rfl)|(apply OQ.not;rfl)|(apply OQ.move;rfl)|(apply OQ.assign;rfl)) rfl ?_ | refine JC.seq ?_ | refine JC.region ?_ | refine JC.block ?_ | refine JL.nil ?_ | refine JE.next ?_)
    refine JC.cond_true rfl rfl ?_
    repeat (first | refine JL.q (by (apply OQ.assign;rfl)) rfl ?_ | refine JC.seq ?_ | refine JC.region ?_ | refine JL.nil ?_ | refine JE.next ?_)
    refine JC.ret ?_
    repeat (first | refine JE.ag ?_ | refine JE.aJ ?_)
    exact JE.av rfl (RV.tmp rfl) fun w' hw=>⟨z,⟨ok,hs⟩,rfl,hw⟩
  | some a=>
    simp only [ha] at ca
    dsimp only
    cases h2 : decide (z.st=2) with
    | true=>
      rw [if_pos (.inl (hs.st.symm.trans (of_decide_eq_true h2)))]
      cases h4 : decide (z.to.length=10) with
      | true=>
        rw [if_pos (by rw [← hs.to];exact of_decide_eq_true h4)]
        refine enter (n:=48) Tryz.func142 rfl rfl rfl h0 ?_
        repeat (first | refine JL.q (by first|(apply OQ.ah (vs:=[Z t]);exact bg;rfl;exact (fun w' _=>ca w'))|(apply OQ.extract;rfl;rfl)|(apply OQ.not;rfl)|(apply OQ.move;rfl)|(apply OQ.assign;rfl)) rfl ?_ | refine JC.seq ?_ | refine JC.region ?_ | refine JC.block ?_ | refine JL.nil ?_ | refine JE.next ?_)
        refine JC.cond_false rfl rfl ?_
        repeat (first | refine JL.q (by first|(apply OQ.load;exact bN;rfl;exact .here;exact (Row.cell (v:=N z.st) rfl))|(apply OQ.c5 (b:=2);rfl;rfl;exact h2)|(apply OQ.aH;rfl;rfl)|(apply OQ.move;rfl)|(apply OQ.assign;rfl)|(apply OQ.aI;rfl)|(apply OQ.br;rfl;rfl;rfl;exact (by decide);rfl)) rfl ?_ | refine JC.seq ?_ | refine JC.region ?_ | refine JL.nil ?_ | refine JE.next ?_ | refine JL.bh rfl rfl rfl rfl ?_)
        refine JC.cond_false rfl rfl ?_
        repeat (first | refine JL.q (by first|(apply OQ.load;exact fK;rfl;exact .here;exact (Row.cell (v:=af z.qt z.to.length) rfl))|(apply OQ.e7;exact Tryz.underlying30;exact (fun h=>congrArg List.length (ok.t h));rfl)|(apply OQ.fZ (b:=10);rfl;rfl;exact h4)|(apply OQ.move;rfl)|(apply OQ.assign;rfl)|(apply OQ.aI;rfl)|(apply OQ.br;rfl;rfl;rfl;exact (by decide);rfl)) rfl ?_ | refine JC.seq ?_ | refine JC.region ?_ | refine JL.nil ?_ | refine JE.next ?_)
        refine JC.cond_true rfl rfl ?_
        repeat (first | refine JL.q (by (apply OQ.assign;rfl)) rfl ?_ | refine JC.seq ?_ | refine JC.region ?_ | refine JL.nil ?_ | refine JE.next ?_)
        refine JC.ret ?_
        repeat (first | refine JE.ag ?_ | refine JE.aJ ?_)
        exact JE.av rfl (RV.tmp rfl) fun w' hw=>⟨z,⟨ok,hs⟩,rfl,hw⟩
      | false=>
        rw [if_neg (by rw [← hs.to];exact of_decide_eq_false h4)]
        have htl : z.to.length≤10:=by rw [hs.to];exact h10
        refine enter (n:=48) Tryz.func142 rfl rfl rfl h0 ?_
        repeat (first | refine JL.q (by first|(apply OQ.ah (vs:=[Z t]);exact bg;rfl;exact (fun w' _=>ca w'))|(apply OQ.extract;rfl;rfl)|(apply OQ.not;rfl)|(apply OQ.move;rfl)|(apply OQ.assign;rfl)) rfl ?_ | refine JC.seq ?_ | refine JC.region ?_ | refine JC.block ?_ | refine JL.nil ?_ | refine JE.next ?_)
        refine JC.cond_false rfl rfl ?_
        repeat (first | refine JL.q (by first|(apply OQ.load;exact bN;rfl;exact .here;exact (Row.cell (v:=N z.st) rfl))|(apply OQ.c5 (b:=2);rfl;rfl;exact h2)|(apply OQ.aH;rfl;rfl)|(apply OQ.move;rfl)|(apply OQ.assign;rfl)|(apply OQ.aI;rfl)|(apply OQ.br;rfl;rfl;rfl;exact (by decide);rfl)) rfl ?_ | refine JC.seq ?_ | refine JC.region ?_ | refine JL.nil ?_ | refine JE.next ?_ | refine JL.bh rfl rfl rfl rfl ?_)
        refine JC.cond_false rfl rfl ?_
        repeat (first | refine JL.q (by first|(apply OQ.load;exact fK;rfl;exact .here;exact (Row.cell (v:=af z.qt z.to.length) rfl))|(apply OQ.e7;exact Tryz.underlying30;exact (fun h=>congrArg List.length (ok.t h));rfl)|(apply OQ.fZ (b:=10);rfl;rfl;exact h4)|(apply OQ.move;rfl)|(apply OQ.assign;rfl)|(apply OQ.aI;rfl)|(apply OQ.br;rfl;rfl;rfl;exact (by decide);rfl)) rfl ?_ | refine JC.seq ?_ | refine JC.region ?_ | refine JL.nil ?_ | refine JE.next ?_)
        refine JC.cond_false rfl rfl ?_
        repeat (first | refine JL.q (by first|(apply OQ.load;exact fK;rfl;exact .here;exact (Row.cell (v:=af z.qt z.to.length) rfl))|(apply OQ.move;rfl)|(apply OQ.aI;rfl)|(apply OQ.br;rfl;rfl;rfl;exact (by decide);rfl)) rfl ?_ | refine JC.seq ?_ | refine JC.region ?_ | refine JC.skip ?_ | refine JE.next ?_ | refine JE.an ?_)
        refine JL.ny (v:=Z a) Tryz.underlying30 nK rfl rfl rfl rfl fun bl _=>?_
        refine JL.perm (M':=⟨bl,Row 9 [Z a],true⟩::(z.T++(⟨b,Row 75 z.cs,true⟩::(z.L++(z.D++z.M))))) ?_ (List.Perm.cons _ (by exact (List.perm_middle (l₁:=z.T)).symm))
        refine JL.lf (p:=a) z.qt Tryz.underlying30 nK ok.t rfl rfl rfl (by omega) (by omega) rfl fun b1 cap1=>?_
        refine JL.perm (M':=⟨b,Row 75 z.cs,true⟩::(aA 9 (some (b1,cap1)) ((z.to++[a]).map Z)++(z.L++(z.D++z.M)))) ?_ (by exact List.perm_middle)
        repeat (refine JL.q (by first|(apply OQ.aI;rfl)|(apply OQ.br;rfl;rfl;rfl;exact (by decide);rfl)) rfl ?_)
        refine JL.lz (some (b1,cap1)) (z.to++[a]) rfl rfl ?_
        repeat (first | refine JL.q (by first|(apply OQ.move;rfl)|(apply OQ.aI;rfl)|(apply OQ.br;rfl;rfl;rfl;exact (by decide);rfl)) rfl ?_ | refine JC.seq ?_ | refine JC.region ?_ | refine JL.nil ?_ | refine JE.next ?_)
        refine JL.fL 3 rfl rfl ?_
        repeat (first | refine JL.q (by (apply OQ.assign;rfl)) rfl ?_ | refine JC.seq ?_ | refine JC.region ?_ | refine JL.nil ?_ | refine JE.next ?_)
        refine JC.ret ?_
        skip
        exact JE.av rfl (RV.tmp rfl) fun w' hw=>⟨⟨3,z.fr,some (b1,cap1),z.to++[a],z.ql,z.ln,z.qd,z.dt,z.qm,z.zs⟩,⟨⟨nofun,ok.l,ok.d,ok.m⟩,⟨rfl,hs.fr,congrArg (·++[a]) hs.to,eJ hn hs _ hn,hs.dt,hs.ms⟩⟩,rfl,hw⟩
    | false=>
      cases h3 : decide (z.st=3) with
      | true=>
        rw [if_pos (.inr (hs.st.symm.trans (of_decide_eq_true h3)))]
        cases h4 : decide (z.to.length=10) with
        | true=>
          rw [if_pos (by rw [← hs.to];exact of_decide_eq_true h4)]
          refine enter (n:=48) Tryz.func142 rfl rfl rfl h0 ?_
          repeat (first | refine JL.q (by first|(apply OQ.ah (vs:=[Z t]);exact bg;rfl;exact (fun w' _=>ca w'))|(apply OQ.extract;rfl;rfl)|(apply OQ.not;rfl)|(apply OQ.move;rfl)|(apply OQ.assign;rfl)) rfl ?_ | refine JC.seq ?_ | refine JC.region ?_ | refine JC.block ?_ | refine JL.nil ?_ | refine JE.next ?_)
          refine JC.cond_false rfl rfl ?_
          repeat (first | refine JL.q (by first|(apply OQ.load;exact bN;rfl;exact .here;exact (Row.cell (v:=N z.st) rfl))|(apply OQ.c5 (b:=2);rfl;rfl;exact h2)|(apply OQ.c5 (b:=3);rfl;rfl;exact h3)|(apply OQ.aN;rfl;rfl)|(apply OQ.move;rfl)|(apply OQ.assign;rfl)|(apply OQ.aI;rfl)|(apply OQ.br;rfl;rfl;rfl;exact (by decide);rfl)) rfl ?_ | refine JC.seq ?_ | refine JC.region ?_ | refine JL.nil ?_ | refine JE.next ?_ | refine JL.aV rfl rfl ?_)
          refine JC.cond_false rfl rfl ?_
          repeat (first | refine JL.q (by first|(apply OQ.load;exact fK;rfl;exact .here;exact (Row.cell (v:=af z.qt z.to.length) rfl))|(apply OQ.e7;exact Tryz.underlying30;exact (fun h=>congrArg List.length (ok.t h));rfl)|(apply OQ.fZ (b:=10);rfl;rfl;exact h4)|(apply OQ.move;rfl)|(apply OQ.assign;rfl)|(apply OQ.aI;rfl)|(apply OQ.br;rfl;rfl;rfl;exact (by decide);rfl)) rfl ?_ | refine JC.seq ?_ | refine JC.region ?_ | refine JL.nil ?_ | refine JE.next ?_)
          refine JC.cond_true rfl rfl ?_
          repeat (first | refine JL.q (by (apply OQ.assign;rfl)) rfl ?_ | refine JC.seq ?_ | refine JC.region ?_ | refine JL.nil ?_ | refine JE.next ?_)
          refine JC.ret ?_
          repeat (first | refine JE.ag ?_ | refine JE.aJ ?_)
          exact JE.av rfl (RV.tmp rfl) fun w' hw=>⟨z,⟨ok,hs⟩,rfl,hw⟩
        | false=>
          rw [if_neg (by rw [← hs.to];exact of_decide_eq_false h4)]
          have htl : z.to.length≤10:=by rw [hs.to];exact h10
          refine enter (n:=48) Tryz.func142 rfl rfl rfl h0 ?_
          repeat (first | refine JL.q (by first|(apply OQ.ah (vs:=[Z t]);exact bg;rfl;exact (fun w' _=>ca w'))|(apply OQ.extract;rfl;rfl)|(apply OQ.not;rfl)|(apply OQ.move;rfl)|(apply OQ.assign;rfl)) rfl ?_ | refine JC.seq ?_ | refine JC.region ?_ | refine JC.block ?_ | refine JL.nil ?_ | refine JE.next ?_)
          refine JC.cond_false rfl rfl ?_
          repeat (first | refine JL.q (by first|(apply OQ.load;exact bN;rfl;exact .here;exact (Row.cell (v:=N z.st) rfl))|(apply OQ.c5 (b:=2);rfl;rfl;exact h2)|(apply OQ.c5 (b:=3);rfl;rfl;exact h3)|(apply OQ.aN;rfl;rfl)|(apply OQ.move;rfl)|(apply OQ.assign;rfl)|(apply OQ.aI;rfl)|(apply OQ.br;rfl;rfl;rfl;exact (by decide);rfl)) rfl ?_ | refine JC.seq ?_ | refine JC.region ?_ | refine JL.nil ?_ | refine JE.next ?_ | refine JL.aV rfl rfl ?_)
          refine JC.cond_false rfl rfl ?_
          repeat (first | refine JL.q (by first|(apply OQ.load;exact fK;rfl;exact .here;exact (Row.cell (v:=af z.qt z.to.length) rfl))|(apply OQ.e7;exact Tryz.underlying30;exact (fun h=>congrArg List.length (ok.t h));rfl)|(apply OQ.fZ (b:=10);rfl;rfl;exact h4)|(apply OQ.move;rfl)|(apply OQ.assign;rfl)|(apply OQ.aI;rfl)|(apply OQ.br;rfl;rfl;rfl;exact (by decide);rfl)) rfl ?_ | refine JC.seq ?_ | refine JC.region ?_ | refine JL.nil ?_ | refine JE.next ?_)
          refine JC.cond_false rfl rfl ?_
          repeat (first | refine JL.q (by first|(apply OQ.load;exact fK;rfl;exact .here;exact (Row.cell (v:=af z.qt z.to.length) rfl))|(apply OQ.move;rfl)|(apply OQ.aI;rfl)|(apply OQ.br;rfl;rfl;rfl;exact (by decide);rfl)) rfl ?_ | refine JC.seq ?_ | refine JC.region ?_ | refine JC.skip ?_ | refine JE.next ?_ | refine JE.an ?_)
          refine JL.ny (v:=Z a) Tryz.underlying30 nK rfl rfl rfl rfl fun bl _=>?_
          refine JL.perm (M':=⟨bl,Row 9 [Z a],true⟩::(z.T++(⟨b,Row 75 z.cs,true⟩::(z.L++(z.D++z.M))))) ?_ (List.Perm.cons _ (by exact (List.perm_middle (l₁:=z.T)).symm))
          refine JL.lf (p:=a) z.qt Tryz.underlying30 nK ok.t rfl rfl rfl (by omega) (by omega) rfl fun b1 cap1=>?_
          refine JL.perm (M':=⟨b,Row 75 z.cs,true⟩::(aA 9 (some (b1,cap1)) ((z.to++[a]).map Z)++(z.L++(z.D++z.M)))) ?_ (by exact List.perm_middle)
          repeat (refine JL.q (by first|(apply OQ.aI;rfl)|(apply OQ.br;rfl;rfl;rfl;exact (by decide);rfl)) rfl ?_)
          refine JL.lz (some (b1,cap1)) (z.to++[a]) rfl rfl ?_
          repeat (first | refine JL.q (by first|(apply OQ.move;rfl)|(apply OQ.aI;rfl)|(apply OQ.br;rfl;rfl;rfl;exact (by decide);rfl)) rfl ?_ | refine JC.seq ?_ | refine JC.region ?_ | refine JL.nil ?_ | refine JE.next ?_)
          refine JL.fL 3 rfl rfl ?_
          repeat (first | refine JL.q (by (apply OQ.assign;rfl)) rfl ?_ | refine JC.seq ?_ | refine JC.region ?_ | refine JL.nil ?_ | refine JE.next ?_)
          refine JC.ret ?_
          skip
          exact JE.av rfl (RV.tmp rfl) fun w' hw=>⟨⟨3,z.fr,some (b1,cap1),z.to++[a],z.ql,z.ln,z.qd,z.dt,z.qm,z.zs⟩,⟨⟨nofun,ok.l,ok.d,ok.m⟩,⟨rfl,hs.fr,congrArg (·++[a]) hs.to,eJ hn hs _ hn,hs.dt,hs.ms⟩⟩,rfl,hw⟩
      | false=>
        rw [if_neg (fun e=>e.elim (fun e=>of_decide_eq_false h2 (hs.st.trans e)) (fun e=>of_decide_eq_false h3 (hs.st.trans e)))]
        refine enter (n:=48) Tryz.func142 rfl rfl rfl h0 ?_
        repeat (first | refine JL.q (by first|(apply OQ.ah (vs:=[Z t]);exact bg;rfl;exact (fun w' _=>ca w'))|(apply OQ.extract;rfl;rfl)|(apply OQ.not;rfl)|(apply OQ.move;rfl)|(apply OQ.assign;rfl)) rfl ?_ | refine JC.seq ?_ | refine JC.region ?_ | refine JC.block ?_ | refine JL.nil ?_ | refine JE.next ?_)
        refine JC.cond_false rfl rfl ?_
        repeat (first | refine JL.q (by first|(apply OQ.load;exact bN;rfl;exact .here;exact (Row.cell (v:=N z.st) rfl))|(apply OQ.c5 (b:=2);rfl;rfl;exact h2)|(apply OQ.c5 (b:=3);rfl;rfl;exact h3)|(apply OQ.aN;rfl;rfl)|(apply OQ.move;rfl)|(apply OQ.assign;rfl)|(apply OQ.aI;rfl)|(apply OQ.br;rfl;rfl;rfl;exact (by decide);rfl)) rfl ?_ | refine JC.seq ?_ | refine JC.region ?_ | refine JL.nil ?_ | refine JE.next ?_ | refine JL.aV rfl rfl ?_)
        refine JC.cond_true rfl rfl ?_
        repeat (first | refine JL.q (by (apply OQ.assign;rfl)) rfl ?_ | refine JC.seq ?_ | refine JC.region ?_ | refine JL.nil ?_ | refine JE.next ?_)
        refine JC.ret ?_
        repeat (first | refine JE.ag ?_ | refine JE.aJ ?_)
        exact JE.av rfl (RV.tmp rfl) fun w' hw=>⟨z,⟨ok,hs⟩,rfl,hw⟩
end de
end
section
set_option maxRecDepth 10000
open Sl aq
theorem qU {s : List aq.By} {i : Nat} (h : i<s.length) {n : Nat} {E : Env} {C : World→Prop} {dst : Option Tmp} {ty : TypeId} {pos : String} {aft : Array Edge} {g : Option (Nat × Bool)} {x y : Operand} (hx : ev E x=some (Z s)) (hy : ev E y=some (N i)) : OQ Tryz.prog n E C ⟨dst,.index 9 x y,ty,pos,aft,g⟩ (U8 (s.getD i 0)):=OQ.jb Tryz.underlying9 hx hy h
theorem jN (a b : List aq.By) {i : Nat} (ha : i<a.length) (hb : i<b.length) (h : (a.take i).map small=(b.take i).map small) (k : small (a.getD i 0)=small (b.getD i 0)) : (a.take (i+1)).map small=(b.take (i+1)).map small:=by
  rw [bq a ha,bq b hb,List.map_append,List.map_append,h,List.map_singleton,List.map_singleton,k]
theorem mJ (a b : List aq.By) {i : Nat} (ha : i<a.length) (hb : i<b.length) (k : ¬ small (a.getD i 0)=small (b.getD i 0)) : dX a b=false:=by
  refine decide_eq_false fun h=>k ?_
  have:=congrArg (fun l=>l[i]?) h
  simp only [List.getElem?_map,List.getElem?_eq_getElem ha,List.getElem?_eq_getElem hb,Option.map_some,Option.some.injEq] at this
  rw [List.getD_eq_getElem?_getD,List.getD_eq_getElem?_getD,List.getElem?_eq_getElem ha,List.getElem?_eq_getElem hb]
  exact this
end
section
set_option maxRecDepth 10000
open Sl aq
theorem ck : aC Tryz.prog 94:=⟨_,Tryz.func94,rfl,by kernel_rfl⟩
theorem OQ.sP {P : Program} {n : Nat} {E : Env} {C : World→Prop} {dst : Option Tmp} {t t' ty : TypeId} {pos : String} {aft : Array Edge} {g : Option (Nat × Bool)} {x y : Operand} {a b : BitVec 8} (hx : ev E x=some (U8 a)) (hy : ev E y=some (U8 b)) (h : b.toNat≤a.toNat) : OQ P n E C ⟨dst,.binOp .sub t x y t',ty,pos,aft,g⟩ (U8 (a - b)):=
  OQ.bin hx hy rfl fun _=>gD (k:=.u8) (show IntKind.u8.wrap ((a.toNat : Int) - b.toNat)=((a - b).toNat : Int) by
    rw [BitVec.toNat_sub_of_le (by simpa [BitVec.le_def] using h),← Int.ofNat_sub h,qD,Nat.mod_eq_of_lt (by have:=a.isLt;omega)])
theorem mK : ∀ c : aq.By,65≤c.toNat→c.toNat≤90→c - 65+97=small c:=by
  have h : ∀ c : Fin 256,65≤(BitVec.ofNat 8 c.val).toNat→(BitVec.ofNat 8 c.val).toNat≤90→BitVec.ofNat 8 c.val - 65+97=small (BitVec.ofNat 8 c.val):=by decide +kernel
  intro c
  simpa using h ⟨c.toNat,c.isLt⟩
set_option maxHeartbeats 4000000 in
theorem cG (c : Bt) (w : World) : Calls Tryz.prog 94 [U8 c].toArray w fun e w'=>e=.returned (U8 (small c))∧Ext w w':=by
  refine enter (n:=13) Tryz.func94 rfl rfl rfl (aa.start w []) ?_
  by_cases hb : 65≤c.toNat∧c.toNat≤90
  · have h1 : decide ((65 : Int)≤(c.toNat : Int))=true:=decide_eq_true (by omega)
    have h2 : decide ((c.toNat : Int)≤90)=true:=decide_eq_true (by omega)
    repeat (first | refine JL.q (by first|(apply OQ.bK (b:=65);rfl;rfl;exact h1)|(apply OQ.pV (b:=90);rfl;rfl;exact h2)|(apply OQ.aN;rfl;rfl)|(apply OQ.move;rfl)|(apply OQ.assign;rfl)) rfl ?_ | refine JC.seq ?_ | refine JC.region ?_ | refine JL.nil ?_ | refine JE.next ?_ | refine JL.aV rfl rfl ?_)
    refine JC.cond rfl (fun _=>?_) (fun h=>by cases h)
    repeat (first | refine JL.q (by first|(apply OQ.sP (b:=65);rfl;rfl;exact hb.1)|(apply OQ.td (b:=97);rfl;rfl)|(apply OQ.move;rfl)|(apply OQ.assign;rfl)) rfl ?_ | refine JC.seq ?_ | refine JC.region ?_ | refine JL.nil ?_ | refine JE.next ?_)
    refine JC.ret ?_
    repeat (refine JE.ag ?_)
    exact JE.av rfl (RV.tmp rfl) fun w' hw=>⟨by rw [mK c hb.1 hb.2],hw.aE⟩
  · have hs : small c=c:=if_neg hb
    rw [hs]
    cases h1 : decide ((65 : Int)≤(c.toNat : Int)) <;> cases h2 : decide ((c.toNat : Int)≤90)
    all_goals try (exfalso;have:=of_decide_eq_true h1;have:=of_decide_eq_true h2;omega)
    all_goals (repeat (first | refine JL.q (by first|(apply OQ.bK (b:=65);rfl;rfl;exact h1)|(apply OQ.pV (b:=90);rfl;rfl;exact h2)|(apply OQ.aN;rfl;rfl)|(apply OQ.aH;rfl;rfl)|(apply OQ.move;rfl)|(apply OQ.assign;rfl)) rfl ?_ | refine JC.seq ?_ | refine JC.region ?_ | refine JL.nil ?_ | refine JE.next ?_ | refine JL.aV rfl rfl ?_ | refine JL.bh rfl rfl rfl rfl ?_))
    all_goals refine JC.cond rfl (fun h=>by cases h) (fun _=>?_)
    all_goals (repeat (first | refine JL.q (by first|(apply OQ.move;rfl)|(apply OQ.assign;rfl)) rfl ?_ | refine JC.seq ?_ | refine JC.region ?_ | refine JC.skip ?_ | refine JL.nil ?_ | refine JE.next ?_))
    all_goals exact JC.ret (JE.av rfl (RV.tmp rfl) fun w' hw=>⟨rfl,hw.aE⟩)
set_option maxHeartbeats 8000000 in
theorem mL (a b : List aq.By) (w : World) (hl : a.length<9223372036854775808) : Calls Tryz.prog 62 [Z a,Z b].toArray w fun e w'=>e=.returned (.bool (dX a b))∧Ext w w':=by
  refine enter (n:=26) Tryz.func62 rfl rfl rfl (aa.start w []) ?_
  cases h0 : decide ((a.length : Int)=(b.length : Int))
  · have hne : dX a b=false:=decide_eq_false fun h=>by
      have:=congrArg List.length h
      simp only [List.length_map] at this
      exact of_decide_eq_false h0 (by omega)
    rw [hne]
    repeat (first | refine JL.q (by first|(apply OQ.bu;exact Tryz.underlying9;rfl)|(apply OQ.ru;rfl;rfl;exact h0)|(apply OQ.move;rfl)|(apply OQ.assign;rfl)) rfl ?_ | refine JC.seq ?_ | refine JC.region ?_ | refine JL.nil ?_ | refine JE.next ?_)
    refine JC.cond rfl (fun _=>?_) (fun h=>by cases h)
    repeat (first | refine JL.q (by (apply OQ.assign;rfl)) rfl ?_ | refine JC.seq ?_ | refine JC.region ?_ | refine JL.nil ?_ | refine JE.next ?_)
    refine JC.ret ?_
    repeat (refine JE.ag ?_)
    exact JE.av rfl (RV.tmp rfl) fun w' hw=>⟨rfl,hw.aE⟩
  · have hab : a.length=b.length:=by have:=of_decide_eq_true h0;omega
    repeat (first | refine JL.q (by first|(apply OQ.bu;exact Tryz.underlying9;rfl)|(apply OQ.ru;rfl;rfl;exact h0)|(apply OQ.move;rfl)|(apply OQ.assign;rfl)) rfl ?_ | refine JC.seq ?_ | refine JC.region ?_ | refine JL.nil ?_ | refine JE.next ?_)
    refine JC.cond rfl (fun h=>by cases h) (fun _=>?_)
    repeat (first | refine JL.q (by first|(apply OQ.bu;exact Tryz.underlying9;rfl)|(apply OQ.move;rfl)) rfl ?_ | refine JC.seq ?_ | refine JC.region ?_ | refine JC.block ?_ | refine JC.skip ?_ | refine JL.nil ?_ | refine JE.next ?_)
    refine JC.loop (fun i : Nat=>[(0,Z a),(1,Z b),(12,N a.length),(13,N i)]) (fun _=>[]) (fun i=>a.length - i) (fun i=>i≤a.length∧(a.take i).map small=(b.take i).map small) 0 ⟨Nat.zero_le _,rfl⟩ (by repeat (first | exact ai.nil | refine ai.cons _ _ _ rfl ?_)) (ak.refl _) ?_
    rintro i ⟨hi,ha⟩
    repeat (first | refine JL.q (by (apply OQ.gp;rfl;rfl)) rfl ?_ | refine JC.seq ?_ | refine JC.region ?_ | refine JL.nil ?_ | refine JE.next ?_)
    refine JC.cond rfl (fun h=>?_) (fun h=>?_)
    · have hi' : i<a.length:=of_decide_eq_true h
      have hi2 : i<b.length:=by omega
      clear h hi
      have hx:=jN a b hi' hi2 ha
      have hbad:=mJ a b hi' hi2
      have i0:=fun {n : Nat} {E : Env} {C : World→Prop} {dst : Option Tmp} {ty : TypeId} {pos : String} {aft : Array Edge} {g : Option (Nat × Bool)} {x y : Operand}=>qU hi' (n:=n) (E:=E) (C:=C) (dst:=dst) (ty:=ty) (pos:=pos) (aft:=aft) (g:=g) (x:=x) (y:=y)
      have i1:=fun {n : Nat} {E : Env} {C : World→Prop} {dst : Option Tmp} {ty : TypeId} {pos : String} {aft : Array Edge} {g : Option (Nat × Bool)} {x y : Operand}=>qU hi2 (n:=n) (E:=E) (C:=C) (dst:=dst) (ty:=ty) (pos:=pos) (aft:=aft) (g:=g) (x:=x) (y:=y)
      generalize a.getD i 0=c at hx hbad i0
      generalize b.getD i 0=d at hx hbad i1
      cases h1 : decide (small c=small d)
      · rw [hbad (of_decide_eq_false h1)]
        repeat (first | refine JL.q (by first|(apply OQ.move;rfl)|(apply OQ.assign;rfl)) rfl ?_ | refine JC.seq ?_ | refine JC.region ?_ | refine JC.block ?_ | refine JC.skip ?_ | refine JL.nil ?_ | refine JE.next ?_)
        refine JC.quiet ey (by kernel_rfl) ?_
        repeat (first | refine JQ.q (by first|(apply i0;rfl;rfl)|(apply i1;rfl;rfl)|(apply OQ.ah (vs:=[U8 c]);exact ck;rfl;exact (fun w' _=>cG c w'))|(apply OQ.ah (vs:=[U8 d]);exact ck;rfl;exact (fun w' _=>cG d w'))|(apply OQ.so;rfl;rfl;exact h1)|(apply OQ.move;rfl)) rfl ?_ | refine JQ.nil ?_ | refine JE.next ?_)
        refine JC.cond rfl (fun _=>?_) (fun h=>by cases h)
        repeat (first | refine JL.q (by (apply OQ.assign;rfl)) rfl ?_ | refine JC.seq ?_ | refine JC.region ?_ | refine JL.nil ?_ | refine JE.next ?_)
        refine JC.ret ?_
        repeat (first | refine JE.ag ?_ | refine JE.aJ ?_)
        exact JE.av rfl (RV.tmp rfl) fun w' hw=>⟨rfl,hw.aE⟩
      · repeat (first | refine JL.q (by first|(apply OQ.move;rfl)|(apply OQ.assign;rfl)) rfl ?_ | refine JC.seq ?_ | refine JC.region ?_ | refine JC.block ?_ | refine JC.skip ?_ | refine JL.nil ?_ | refine JE.next ?_)
        refine JC.quiet ey (by kernel_rfl) ?_
        repeat (first | refine JQ.q (by first|(apply i0;rfl;rfl)|(apply i1;rfl;rfl)|(apply OQ.ah (vs:=[U8 c]);exact ck;rfl;exact (fun w' _=>cG c w'))|(apply OQ.ah (vs:=[U8 d]);exact ck;rfl;exact (fun w' _=>cG d w'))|(apply OQ.so;rfl;rfl;exact h1)|(apply OQ.move;rfl)) rfl ?_ | refine JQ.nil ?_ | refine JE.next ?_)
        refine JC.cond rfl (fun h=>by cases h) (fun _=>?_)
        repeat (first | refine JL.q (by first|(apply OQ.move;rfl)|(apply OQ.cr;rfl;rfl;exact (by (try simp only []);omega))) rfl ?_ | refine JC.region ?_ | refine JC.skip ?_ | refine JL.nil ?_ | refine JE.next ?_ | refine JE.an ?_)
        exact JE.again (i:=i) (i+1) ⟨hi',hx (of_decide_eq_true h1)⟩ (by omega) (by repeat (first | exact ai.nil | refine ai.cons _ _ _ rfl ?_)) (ak.refl _)
    · have hi' : ¬ i<a.length:=of_decide_eq_false h
      obtain rfl : i=a.length:=by omega
      clear h hi hi'
      rw [List.take_length,List.take_of_length_le (by omega)] at ha
      rw [show dX a b=true from decide_eq_true ha]
      repeat (first | refine JL.q (by (apply OQ.assign;rfl)) rfl ?_ | refine JC.seq ?_ | refine JC.region ?_ | refine JC.exit ?_ | refine JL.nil ?_ | refine JE.next ?_ | refine JE.aU ?_ | refine JE.bt ?_)
      refine JC.ret ?_
      exact JE.av rfl (RV.tmp rfl) fun w' hw=>⟨rfl,hw.aE⟩
end
section
set_option maxRecDepth 10000
open Sl
namespace de
theorem mM : aC Tryz.prog 104:=⟨_,Tryz.func104,rfl,by kernel_rfl⟩
theorem mN : aC Tryz.prog 72:=⟨_,Tryz.func72,rfl,by kernel_rfl⟩
theorem eZ : aC Tryz.prog 62:=⟨_,Tryz.func62,rfl,by kernel_rfl⟩
theorem ue : EI Tryz.prog 167 (.agg #[Z [],.nilFunc]) 2 24:=by unfold EI;kernel_rfl
theorem tu : lS Tryz.prog 167=true:=by kernel_rfl
theorem tv : dM Tryz.prog 167=some 2:=by kernel_rfl
theorem uf : zc Tryz.prog 167=some [Z [],.nilFunc]:=by kernel_rfl
theorem tw : dO Tryz.prog 68=true:=by kernel_rfl
def aZ : Nat→List Bt
  | 0=>bM
  | 1=>bQ
  | 2=>bY
  | 3=>cc
  | 4=>gJ
  | _=>jj
def mO : Nat→FuncId
  | 0=>140
  | 1=>141
  | 2=>142
  | 3=>143
  | 4=>144
  | _=>145
def qs : Nat→Po→List Bt→Po × List Bt
  | 0=>cz
  | 1=>bF
  | 2=>cX
  | 3=>cY
  | 4=>cZ
  | _=>eS
def mv (i b : Nat) : Value:=.func (.func (mO i)) [Pt b 0].toArray ([] : List Value).toArray
def iJ (b i : Nat) : List Value:=[Z (aZ i),mv i b]
def rW (b : Nat) : List (List Value):=[iJ b 0,iJ b 1,iJ b 2,iJ b 3,iJ b 4,iJ b 5]
theorem cu (b i : Nat) : Program.built Tryz.prog 167 [(0,Z (aZ i)),(1,mv i b)]=some (iJ b i).toArray:=by
  unfold iJ mv
  generalize aZ i=ww
  generalize mO i=ff
  generalize hpp : Pt b 0=pp
  rfl
set_option maxHeartbeats 8000000 in
theorem oB (b : Nat) (w : World) : Calls Tryz.prog 104 [Pt b 0].toArray w fun e w'=>∃ c : Nat,e=.returned (.slice (some ⟨c,0,none⟩) 6 6)∧aa w [] [⟨c,Row 167 (rW b).flatten,true⟩] w':=by
  refine enter (n:=22) Tryz.func104 rfl rfl rfl (aa.start w []) ?_
  repeat (first | refine JL.q (by first|(apply OQ.tY (rs:=[Pt b 0]) (caps:=[]);rfl;rfl)|(apply OQ.cW (cs:=iJ b 0) (is:=[0,1]) (xs:=[.const (Z (aZ 0)),.tmp 4]);rfl;rfl;exact (cu b 0))|(apply OQ.cW (cs:=iJ b 1) (is:=[0,1]) (xs:=[.const (Z (aZ 1)),.tmp 7]);rfl;rfl;exact (cu b 1))|(apply OQ.cW (cs:=iJ b 2) (is:=[0,1]) (xs:=[.const (Z (aZ 2)),.tmp 10]);rfl;rfl;exact (cu b 2))|(apply OQ.cW (cs:=iJ b 3) (is:=[0,1]) (xs:=[.const (Z (aZ 3)),.tmp 13]);rfl;rfl;exact (cu b 3))|(apply OQ.cW (cs:=iJ b 4) (is:=[0,1]) (xs:=[.const (Z (aZ 4)),.tmp 16]);rfl;rfl;exact (cu b 4))|(apply OQ.cW (cs:=iJ b 5) (is:=[0,1]) (xs:=[.const (Z (aZ 5)),.tmp 19]);rfl;rfl;exact (cu b 5))|(apply OQ.move;rfl)|(apply OQ.assign;rfl)) rfl ?_ | refine JC.seq ?_ | refine JC.region ?_ | refine JL.nil ?_ | refine JE.next ?_)
  refine JL.su (xs:=[.tmp 5,.tmp 8,.tmp 11,.tmp 14,.tmp 17,.tmp 20]) (css:=rW b) (sz:=2) (m:=6) Tryz.underlying164 ue rfl (by decide) rfl rfl (by unfold rW iJ;simp) rfl (by decide) (by decide) rfl fun c _=>?_
  repeat (first | refine JL.q (by (apply OQ.assign;rfl)) rfl ?_ | refine JL.nil ?_ | refine JE.next ?_)
  refine JC.ret ?_
  skip
  exact JE.av rfl (RV.tmp rfl) fun w' hw=>⟨c,rfl,hw⟩
theorem oC (i : Nat) : aC Tryz.prog (mO i):=by
  rcases i with _ | _ | _ | _ | _ | i
  · exact kG
  · exact jL
  · exact mC
  · exact kH
  · exact kI
  · exact mD
theorem qu (i b : Nat) (z : Pw) (S : Po) (ok : z.ok) (hs : z.is S) (hn : S.ln=[]) (h10 : S.to.length≤10) (t : List Bt) (hl : t.length<1000000) (w : World) (h0 : aa w (keys (z.E b)) (z.E b) w) : Calls Tryz.prog (mO i) [Pt b 0,Z t].toArray w (cj (keys (z.E b)) b (qs i S t) w):=by
  rcases i with _ | _ | _ | _ | _ | i
  · exact mF b z S ok hs hn t w h0
  · exact kJ b z S ok hs hn t hl w h0
  · exact oA b z S ok hs hn h10 t hl w h0
  · exact mG b z S ok hs hn t w h0
  · exact mH b z S ok hs hn t w h0
  · exact oz b z S ok hs hn t w h0
theorem oD {S : Po} {l : List Bt} (h5 : ¬ 512<l.length) {i : Nat} (hi : i<6) (hno : ∀ j,j<i→au (aZ j) l=false) (hy : au (aZ i) l=true) : aO S l=qs i S (l.drop (aZ i).length):=by
  have n0:=fun h=>hno 0 h
  have n1:=fun h=>hno 1 h
  have n2:=fun h=>hno 2 h
  have n3:=fun h=>hno 3 h
  have n4:=fun h=>hno 4 h
  unfold aO
  rw [if_neg h5]
  obtain rfl | rfl | rfl | rfl | rfl | rfl : i=0∨i=1∨i=2∨i=3∨i=4∨i=5:=by omega
  · rw [if_pos (show au bM l=true from hy)];rfl
  · rw [if_neg (by rw [show au bM l=false from n0 (by omega)];simp),if_pos (show au bQ l=true from hy)];rfl
  · rw [if_neg (by rw [show au bM l=false from n0 (by omega)];simp),if_neg (by rw [show au bQ l=false from n1 (by omega)];simp),if_pos (show au bY l=true from hy)];rfl
  · rw [if_neg (by rw [show au bM l=false from n0 (by omega)];simp),if_neg (by rw [show au bQ l=false from n1 (by omega)];simp),if_neg (by rw [show au bY l=false from n2 (by omega)];simp),if_pos (show au cc l=true from hy)];rfl
  · rw [if_neg (by rw [show au bM l=false from n0 (by omega)];simp),if_neg (by rw [show au bQ l=false from n1 (by omega)];simp),if_neg (by rw [show au bY l=false from n2 (by omega)];simp),if_neg (by rw [show au cc l=false from n3 (by omega)];simp),if_pos (show au gJ l=true from hy)];rfl
  · rw [if_neg (by rw [show au bM l=false from n0 (by omega)];simp),if_neg (by rw [show au bQ l=false from n1 (by omega)];simp),if_neg (by rw [show au bY l=false from n2 (by omega)];simp),if_neg (by rw [show au cc l=false from n3 (by omega)];simp),if_neg (by rw [show au gJ l=false from n4 (by omega)];simp),if_pos (show au jj l=true from hy)];rfl
theorem mP {S : Po} {l : List Bt} (h5 : ¬ 512<l.length) (hno : ∀ j,j<6→au (aZ j) l=false) : aO S l=(S,jl):=by
  have n0:=hno 0 (by omega)
  have n1:=hno 1 (by omega)
  have n2:=hno 2 (by omega)
  have n3:=hno 3 (by omega)
  have n4:=hno 4 (by omega)
  have n5:=hno 5 (by omega)
  unfold aO
  rw [if_neg h5,if_neg (by rw [show au bM l=false from n0];simp),if_neg (by rw [show au bQ l=false from n1];simp),if_neg (by rw [show au bY l=false from n2];simp),if_neg (by rw [show au cc l=false from n3];simp),if_neg (by rw [show au gJ l=false from n4];simp),if_neg (by rw [show au jj l=false from n5];simp)]
theorem rJ (b i : Nat) (hi : i<6) : ((rW b).flatten.drop (0+i * 2)).take (iJ b i).length=iJ b i:=by
  obtain rfl | rfl | rfl | rfl | rfl | rfl : i=0∨i=1∨i=2∨i=3∨i=4∨i=5:=by omega
  all_goals rfl
theorem oE (i : Nat) : (aZ i).length≤10:=by
  rcases i with _ | _ | _ | _ | _ | i
  · show bM.length≤10;decide
  · show bQ.length≤10;decide
  · show bY.length≤10;decide
  · show cc.length≤10;decide
  · show gJ.length≤10;decide
  · show jj.length≤10;decide
set_option maxHeartbeats 8000000 in
theorem oF (b : Nat) (z : Pw) (S : Po) (ok : z.ok) (hs : z.is S) (hn : S.ln=[]) (h10 : S.to.length≤10) (l : List Bt) (hl : l.length<1000000) (w : World) (h0 : aa w (keys (z.E b)) (z.E b) w) : Calls Tryz.prog 72 [Pt b 0,Z l].toArray w (cj (keys (z.E b)) b (aO S l) w):=by
  have hall : ∀ (i : Nat) (w : World),aa w (keys (z.E b)) (z.E b) w→Calls Tryz.prog (mO i) [Pt b 0,Z (l.drop (aZ i).length)].toArray w (cj (keys (z.E b)) b (qs i S (l.drop (aZ i).length)) w):=fun i w hw=>qu i b z S ok hs hn h10 _ (by rw [List.length_drop];omega) w hw
  generalize hS : keys (z.E b)=S0 at h0 ⊢
  refine enter (n:=40) Tryz.func72 rfl rfl rfl h0 ?_
  repeat (first | refine JL.q (by first|(apply OQ.bu;exact Tryz.underlying9;rfl)|(apply OQ.move;rfl)|(apply OQ.assign;rfl)|(apply OQ.hU;rfl;rfl)) rfl ?_ | refine JC.seq ?_ | refine JC.region ?_ | refine JL.nil ?_ | refine JE.next ?_)
  cases h5 : decide (512<l.length) with
  | true=>
    rw [show aO S l=(S,jl) from if_pos (of_decide_eq_true h5)]
    refine JC.cond_true rfl rfl ?_
    repeat (first | refine JL.q (by (apply OQ.assign;rfl)) rfl ?_ | refine JC.seq ?_ | refine JC.region ?_ | refine JL.nil ?_ | refine JE.next ?_)
    refine JC.ret ?_
    repeat (refine JE.ag ?_)
    exact JE.av rfl (RV.tmp rfl) fun w' hw=>⟨z,⟨ok,hs⟩,rfl,hw⟩
  | false=>
    refine JC.cond_false rfl rfl ?_
    have h5':=of_decide_eq_false h5
    repeat (first | refine JL.q (by (apply OQ.move;rfl)) rfl ?_ | refine JC.seq ?_ | refine JC.region ?_ | refine JC.skip ?_ | refine JE.next ?_)
    refine JL.dy (ι:=Nat) (vs:=[Pt b 0]) (fun c=>.slice (some ⟨c,0,none⟩) 6 6) (fun c=>[⟨c,Row 167 (rW b).flatten,true⟩]) mM rfl rfl (fun c e he=>by rw [List.mem_singleton.1 he]) (fun w' _=>oB b w') fun c=>?_
    repeat (first | refine JL.q (by first|(apply OQ.len (k:=6) (ad:=some ⟨c,0,none⟩) (cap:=6);exact Tryz.underlying164;rfl)|(apply OQ.move;rfl)) rfl ?_ | refine JC.block ?_ | refine JL.nil ?_ | refine JE.next ?_)
    refine JC.loop (fun i : Nat=>[(0,Pt b 0),(1,Z l),(12,.slice (some ⟨c,0,none⟩) 6 6),(13,N 6),(14,N i)]) (fun _=>⟨c,Row 167 (rW b).flatten,true⟩::z.E b) (fun i=>6 - i) (fun i=>i≤6∧∀ j,j<i→au (aZ j) l=false) 0 ⟨Nat.zero_le _,fun j hj=>absurd hj (Nat.not_lt_zero _)⟩ (by repeat (first | exact ai.nil | refine ai.cons _ _ _ rfl ?_)) (ak.refl _) ?_
    rintro i ⟨hi,hno⟩
    repeat (first | refine JL.q (by (apply OQ.gp (a:=i) (b:=6);rfl;rfl)) rfl ?_ | refine JC.seq ?_ | refine JC.region ?_ | refine JL.nil ?_ | refine JE.next ?_)
    refine JC.cond rfl (fun hh=>?_) (fun hh=>?_)
    · have hi' : i<6:=of_decide_eq_true hh
      clear hh
      have hwl:=oE i
      repeat (first | refine JL.q (by first|(apply OQ.jo (k:=.i64) (i:=i) (sz:=2);exact Tryz.underlying164;exact tv;rfl;rfl;exact hi')|(apply OQ.iW (cs:=iJ b i);exact tu;exact tv;rfl;exact .here;rfl;exact (Row.cells (rJ b i hi')))) rfl ?_ | refine JC.seq ?_ | refine JC.region ?_ | refine JC.block ?_ | refine JC.skip ?_ | refine JE.next ?_)
      refine JL.alloc (r:=[Z [],.nilFunc]) uf rfl fun bc _=>?_
      refine JL.gC (cs:=iJ b i) tv rfl rfl rfl rfl .here rfl ?_
      repeat (first | refine JL.q (by first|(apply OQ.load;exact eV;rfl;exact .here;exact (Row.cell (v:=Z (aZ i)) rfl))|(apply OQ.bu;exact Tryz.underlying9;rfl)|(apply OQ.assign;rfl)|(apply OQ.br;rfl;rfl;rfl;exact (by decide);rfl)) rfl ?_ | refine JC.seq ?_ | refine JC.region ?_ | refine JL.nil ?_ | refine JE.next ?_)
      cases hge : decide (((aZ i).length : Int)≤(l.length : Int)) with
      | false=>
        have hst : au (aZ i) l=false:=by
          unfold au
          rw [decide_eq_false (by have:=of_decide_eq_false hge;omega),Bool.false_and]
        refine JC.quiet ey (by kernel_rfl) ?_
        repeat (first | refine JQ.q (by first|(apply OQ.bu;exact Tryz.underlying9;rfl)|(apply OQ.bK;rfl;rfl;exact hge)|(apply OQ.aH;rfl;rfl)|(apply OQ.move;rfl)) rfl ?_ | refine JQ.nil ?_ | refine JE.next ?_ | refine JQ.bh rfl rfl rfl rfl ?_)
        refine JC.cond_false rfl rfl ?_
        repeat (first | refine JL.q (by first|(apply OQ.move;rfl)|(apply OQ.cr;rfl;rfl;exact (by (try simp only []);omega))) rfl ?_ | refine JC.region ?_ | refine JC.skip ?_ | refine JL.nil ?_ | refine JE.next ?_ | refine JE.an ?_)
        refine JE.again (i+1) ⟨by omega,fun j hj=>?_⟩ (by omega) (by repeat (first | exact ai.nil | refine ai.cons _ _ _ rfl ?_)) (.drop _ _ _ (ak.refl _))
        rcases Nat.lt_or_eq_of_le (Nat.le_of_lt_succ hj) with h | rfl
        · exact hno j h
        · exact hst
      | true=>
        have hge' : (aZ i).length≤l.length:=by have:=of_decide_eq_true hge;omega
        have hst : au (aZ i) l=aq.dX (l.take (aZ i).length) (aZ i):=by
          unfold au
          rw [decide_eq_true hge',Bool.true_and]
        have cF:=fun w'=>mL (l.take (aZ i).length) (aZ i) w' (by rw [List.length_take];omega)
        refine JC.quiet ey (by kernel_rfl) ?_
        cases hsb : aq.dX (l.take (aZ i).length) (aZ i) with
        | false=>
          simp only [hsb] at cF
          repeat (first | refine JQ.q (by first|(apply OQ.bu;exact Tryz.underlying9;rfl)|(apply OQ.bK;rfl;rfl;exact hge)|(apply OQ.aN;rfl;rfl)|(apply OQ.bI (j:=(aZ i).length);exact Tryz.underlying9;rfl;rfl;exact hge')|(apply OQ.load;exact eV;rfl;exact .here;exact (Row.cell (v:=Z (aZ i)) rfl))|(apply OQ.ah (vs:=[Z (l.take (aZ i).length),Z (aZ i)]);exact eZ;rfl;exact (fun w' _=>cF w'))|(apply OQ.move;rfl)|(apply OQ.br;rfl;rfl;rfl;exact (by decide);rfl)) rfl ?_ | refine JQ.nil ?_ | refine JE.next ?_ | refine JQ.aV rfl rfl ?_)
          refine JC.cond_false rfl rfl ?_
          repeat (first | refine JL.q (by first|(apply OQ.move;rfl)|(apply OQ.cr;rfl;rfl;exact (by (try simp only []);omega))) rfl ?_ | refine JC.region ?_ | refine JC.skip ?_ | refine JL.nil ?_ | refine JE.next ?_ | refine JE.an ?_)
          refine JE.again (i+1) ⟨by omega,fun j hj=>?_⟩ (by omega) (by repeat (first | exact ai.nil | refine ai.cons _ _ _ rfl ?_)) (.drop _ _ _ (ak.refl _))
          rcases Nat.lt_or_eq_of_le (Nat.le_of_lt_succ hj) with h | rfl
          · exact hno j h
          · exact hst.trans hsb
        | true=>
          simp only [hsb] at cF
          repeat (first | refine JQ.q (by first|(apply OQ.bu;exact Tryz.underlying9;rfl)|(apply OQ.bK;rfl;rfl;exact hge)|(apply OQ.aN;rfl;rfl)|(apply OQ.bI (j:=(aZ i).length);exact Tryz.underlying9;rfl;rfl;exact hge')|(apply OQ.load;exact eV;rfl;exact .here;exact (Row.cell (v:=Z (aZ i)) rfl))|(apply OQ.ah (vs:=[Z (l.take (aZ i).length),Z (aZ i)]);exact eZ;rfl;exact (fun w' _=>cF w'))|(apply OQ.move;rfl)|(apply OQ.br;rfl;rfl;rfl;exact (by decide);rfl)) rfl ?_ | refine JQ.nil ?_ | refine JE.next ?_ | refine JQ.aV rfl rfl ?_)
          refine JC.cond_true rfl rfl ?_
          repeat (refine JC.seq ?_)
          refine JC.tail 5 ey (by kernel_rfl) ?_
          simp only [List.take_succ_cons,List.take_zero,List.drop_succ_cons,List.drop_zero]
          repeat (first | refine JQ.q (by first|(apply OQ.load;exact tw;rfl;exact .here;exact (Row.cell (v:=mv i b) rfl))|(apply OQ.b9 (i:=(aZ i).length);exact Tryz.underlying9;rfl;rfl;exact hge')|(apply OQ.move;rfl)|(apply OQ.br;rfl;rfl;rfl;exact (by decide);rfl)) rfl ?_ | refine JQ.nv ?_)
          rw [oD h5' hi' hno (hst.trans hsb)]
          have hcc:=hall i
          rw [hS] at hcc
          generalize hr : qs i S (l.drop (aZ i).length)=r at hcc ⊢
          refine JL.cR (M':=z.E b++[]) ?_ (.drop _ _ _ (.drop _ _ _ (by rw [List.append_nil];exact ak.refl _)))
          refine JL.sr (f:=mO i) (ι:={y : Pw // y.ok∧y.is r.1}) (vs:=[Pt b 0,Z (l.drop (aZ i).length)]) (fun _=>Z r.2) (fun y=>y.1.E b) (fun a ha w1=>kn (rs:=[Pt b 0]) (caps:=[]) (vs:=[Z (l.drop (aZ i).length)]) (oC i) ha rfl rfl w1) rfl (z.wr b) (fun y=>Pw.wr b _) (fun w' _ hx=>by
            rw [hS] at hx ⊢
            exact (hcc w' hx).mono fun e w2 ⟨y,h1,h2,h3⟩=>⟨⟨y,h1⟩,h2,h3⟩) fun y=>?_
          rw [List.append_nil]
          repeat (first | refine JL.q (by (apply OQ.assign;rfl)) rfl ?_ | refine JL.nil ?_ | refine JE.next ?_)
          refine JC.ret ?_
          repeat (first | refine JE.ag ?_ | refine JE.aJ ?_)
          exact JE.av rfl (RV.tmp rfl) fun w' hw=>⟨y.1,y.2,rfl,hw⟩
    · have hi' : i=6:=by have:=of_decide_eq_false hh;omega
      subst hi'
      rw [mP h5' hno]
      repeat (first | refine JL.q (by (apply OQ.assign;rfl)) rfl ?_ | refine JC.seq ?_ | refine JC.region ?_ | refine JC.exit ?_ | refine JL.nil ?_ | refine JE.next ?_ | refine JE.aU ?_ | refine JE.bt ?_)
      refine JC.ret ?_
      skip
      exact JE.av rfl (RV.tmp rfl) fun w' hw=>⟨z,⟨ok,hs⟩,rfl,hw.weak (.drop _ _ _ (ak.refl _))⟩
end de
end
section
set_option maxRecDepth 10000
open Sl
theorem gd : aC Tryz.prog 103:=⟨_,Tryz.func103,rfl,by kernel_rfl⟩
theorem jO : aC Tryz.prog 149:=⟨_,Tryz.func149,rfl,by kernel_rfl⟩
theorem jP : aC Tryz.prog 71:=⟨_,Tryz.func71,rfl,by kernel_rfl⟩
def preB (s d : List Bt) : Bool:=decide ((d.length : Int)≤(s.length : Int)) && decide (s.take d.length=d)
def kK (s d : List Bt) : Bool:=decide ((d.length : Int)≤(s.length : Int)) && decide (s.drop (s.length - d.length)=d)
theorem OQ.isNil {P : Program} {n : Nat} {E : Env} {C : World→Prop} {dst : Option Tmp} {t t' ty e : TypeId} {pos : String} {aft : Array Edge} {g : Option (Nat × Bool)} {x y : Operand} {ad : Option Addr} {k cap : Nat} (hu : P.underlying t=some (.slice e)) (hx : ev E x=some (.slice ad k cap)) (hy : ev E y=some (.slice none 0 0)) :
    OQ P n E C ⟨dst,.binOp .eql t x y t',ty,pos,aft,g⟩ (.bool ad.isNone):=
  OQ.run fun c ha w _=>by
    have h1:=ha.eval hx
    have h2:=ha.eval hy
    have h4 : (binOp .eql t (.slice ad k cap) (.slice none 0 0)).run P w=.ok (.bool ad.isNone) w:=by
      show (do pure (.bool (← Op.equal t (.slice ad k cap) (.slice none 0 0))) : Sem Value).run P w=_
      simp [Sem.run_bind,run_equal_slice_nil w t e ad k cap hu]
    simp [execOp,h1,h2,eqGuard,h4]
set_option maxHeartbeats 2000000 in
theorem gW (a b : aM) (w : World) (ha : a.ok w) (hb : b.ok w) : Calls Tryz.prog 103 [a.v,b.v].toArray w fun e w'=>e=.returned (.bool (decide (a.l=b.l)))∧Ext w w':=by
  refine enter (n:=10) Tryz.func103 rfl rfl rfl (aa.start w []) ?_
  repeat (first | refine JL.q (by first|(apply OQ.nq (s:=a);exact Tryz.underlying22;exact Tryz.underlying5;exact Tryz.underlying9;rfl;exact (fun w' hw'=>ha.holds hw' rfl))|(apply OQ.nq (s:=b);exact Tryz.underlying22;exact Tryz.underlying5;exact Tryz.underlying9;rfl;exact (fun w' hw'=>hb.holds hw' rfl))|(apply OQ.sV;rfl;rfl)|(apply OQ.move;rfl)|(apply OQ.assign;rfl)) rfl ?_ | refine JC.seq ?_ | refine JC.region ?_ | refine JL.nil ?_ | refine JE.next ?_)
  exact JC.ret (JE.av rfl (RV.tmp rfl) fun w' hw=>⟨rfl,hw.aE⟩)
set_option maxHeartbeats 4000000 in
theorem lJ (s d : aM) (w : World) (hs : s.ok w) (hd : d.ok w) : Calls Tryz.prog 149 [s.v,d.v].toArray w fun e w'=>e=.returned (.bool (preB s.l d.l))∧Ext w w':=by
  refine enter (n:=18) Tryz.func149 rfl rfl rfl (aa.start w []) ?_
  have hcap:=hs.len
  unfold preB
  cases h : decide ((d.l.length : Int)≤(s.l.length : Int))
  · repeat (first | refine JL.q (by first|(apply OQ.bK;rfl;rfl;exact h)|(apply OQ.aH;rfl;rfl)|(apply OQ.move;rfl)|(apply OQ.assign;rfl)|(apply OQ.len;rfl;rfl)) rfl ?_ | refine JC.seq ?_ | refine JC.region ?_ | refine JL.nil ?_ | refine JE.next ?_ | refine JL.bh rfl rfl rfl rfl ?_)
    exact JC.ret (JE.av rfl (RV.tmp rfl) fun w' hw=>⟨rfl,hw.aE⟩)
  · have hle : d.l.length≤s.l.length:=by have:=of_decide_eq_true h;omega
    repeat (first | refine JL.q (by first|(apply OQ.bK;rfl;rfl;exact h)|(apply OQ.fst (s:=s);exact Tryz.underlying22;exact bx;rfl;rfl;exact hle;exact hcap)|(apply OQ.ah (vs:=[(s.fst d.l.length).v,d.v]);exact gd;rfl;exact (fun w' hw'=>gW (s.fst d.l.length) d w' ((hs.holds hw' rfl).fst _) (hd.holds hw' rfl)))|(apply OQ.aN;rfl;rfl)|(apply OQ.move;rfl)|(apply OQ.assign;rfl)|(apply OQ.len;rfl;rfl)) rfl ?_ | refine JC.seq ?_ | refine JC.region ?_ | refine JL.nil ?_ | refine JE.next ?_ | refine JL.aV rfl rfl ?_)
    exact JC.ret (JE.av rfl (RV.tmp rfl) fun w' hw=>⟨rfl,hw.aE⟩)
set_option maxHeartbeats 4000000 in
theorem qv (s d : aM) (w : World) (hs : s.ok w) (hd : d.ok w) (hl : s.l.length≤4611686018427387904) : Calls Tryz.prog 71 [s.v,d.v].toArray w fun e w'=>e=.returned (.bool (kK s.l d.l))∧Ext w w':=by
  refine enter (n:=21) Tryz.func71 rfl rfl rfl (aa.start w []) ?_
  unfold kK
  cases h : decide ((d.l.length : Int)≤(s.l.length : Int))
  · repeat (first | refine JL.q (by first|(apply OQ.bK;rfl;rfl;exact h)|(apply OQ.aH;rfl;rfl)|(apply OQ.move;rfl)|(apply OQ.assign;rfl)|(apply OQ.len;rfl;rfl)) rfl ?_ | refine JC.seq ?_ | refine JC.region ?_ | refine JL.nil ?_ | refine JE.next ?_ | refine JL.bh rfl rfl rfl rfl ?_)
    exact JC.ret (JE.av rfl (RV.tmp rfl) fun w' hw=>⟨rfl,hw.aE⟩)
  · have hle : d.l.length≤s.l.length:=by have:=of_decide_eq_true h;omega
    have hsub : s.l.length - d.l.length≤s.l.length:=Nat.sub_le _ _
    repeat (first | refine JL.q (by first|(apply OQ.bK;rfl;rfl;exact h)|(apply OQ.snd (s:=s);exact Tryz.underlying22;exact bx;rfl;rfl;exact hsub)|(apply OQ.ah (vs:=[(s.snd (s.l.length - d.l.length)).v,d.v]);exact gd;rfl;exact (fun w' hw'=>gW (s.snd (s.l.length - d.l.length)) d w' ((hs.holds hw' rfl).snd _ hsub) (hd.holds hw' rfl)))|(apply OQ.aN;rfl;rfl)|(apply OQ.move;rfl)|(apply OQ.assign;rfl)|(apply OQ.len;rfl;rfl)|(apply OQ.hO;rfl;rfl;exact (by (try simp only []);omega);exact (by (try simp only []);omega))) rfl ?_ | refine JC.seq ?_ | refine JC.region ?_ | refine JL.nil ?_ | refine JE.next ?_ | refine JL.aV rfl rfl ?_)
    exact JC.ret (JE.av rfl (RV.tmp rfl) fun w' hw=>⟨rfl,hw.aE⟩)
theorem mQ : aC Tryz.prog 110:=⟨_,Tryz.func110,rfl,by kernel_rfl⟩
def trimS (s d : aM) : aM:=if preB s.l d.l then s.snd d.l.length else s
theorem oG {s d : aM} {w : World} (h : s.ok w) : (trimS s d).ok w:=by
  unfold trimS
  split
  · rename_i hp
    unfold preB at hp
    rw [Bool.and_eq_true] at hp
    have:=of_decide_eq_true hp.1
    exact h.snd _ (by omega)
  · exact h
set_option maxHeartbeats 4000000 in
theorem oH (s d : aM) (w : World) (hs : s.ok w) (hd : d.ok w) : Calls Tryz.prog 110 [s.v,d.v].toArray w fun e w'=>e=.returned (trimS s d).v∧Ext w w':=by
  refine enter (n:=13) Tryz.func110 rfl rfl rfl (aa.start w []) ?_
  unfold trimS
  cases h : preB s.l d.l
  · repeat (first | refine JL.q (by first|(apply OQ.move;rfl)|(apply OQ.assign;rfl)) rfl ?_ | refine JC.seq ?_ | refine JC.region ?_ | refine JL.nil ?_ | refine JE.next ?_)
    refine JL.q (OQ.ah (vs:=[s.v,d.v]) jO rfl (fun w' hw'=>h ▸ lJ s d w' (hs.holds hw' rfl) (hd.holds hw' rfl))) rfl ?_
    repeat (first | refine JL.nil ?_ | refine JE.next ?_)
    refine JC.cond_false rfl rfl ?_
    repeat (first | refine JL.q (by first|(apply OQ.move;rfl)|(apply OQ.assign;rfl)) rfl ?_ | refine JC.seq ?_ | refine JC.region ?_ | refine JC.skip ?_ | refine JL.nil ?_ | refine JE.next ?_)
    exact JC.ret (JE.av rfl (RV.tmp rfl) fun w' hw=>⟨rfl,hw.aE⟩)
  · have hle : d.l.length≤s.l.length:=by
      unfold preB at h
      rw [Bool.and_eq_true] at h
      have:=of_decide_eq_true h.1
      omega
    repeat (first | refine JL.q (by first|(apply OQ.move;rfl)|(apply OQ.assign;rfl)) rfl ?_ | refine JC.seq ?_ | refine JC.region ?_ | refine JL.nil ?_ | refine JE.next ?_)
    refine JL.q (OQ.ah (vs:=[s.v,d.v]) jO rfl (fun w' hw'=>h ▸ lJ s d w' (hs.holds hw' rfl) (hd.holds hw' rfl))) rfl ?_
    repeat (first | refine JL.nil ?_ | refine JE.next ?_)
    refine JC.cond_true rfl rfl ?_
    repeat (first | refine JL.q (by first|(apply OQ.snd (s:=s);exact Tryz.underlying22;exact bx;rfl;rfl;exact hle)|(apply OQ.move;rfl)|(apply OQ.assign;rfl)|(apply OQ.len;rfl;rfl)) rfl ?_ | refine JC.seq ?_ | refine JC.region ?_ | refine JL.nil ?_ | refine JE.next ?_)
    refine JC.ret ?_
    repeat (refine JE.ag ?_)
    exact JE.av rfl (RV.tmp rfl) fun w' hw=>⟨rfl,hw.aE⟩
theorem kL : aC Tryz.prog 37:=⟨_,Tryz.func37,rfl,by kernel_rfl⟩
set_option maxHeartbeats 4000000 in
theorem mR (s : aM) (w : World) (hs : s.ok w) (hl : s.l.length≤4294967296) : Calls Tryz.prog 37 [s.v].toArray w fun e w'=>∃ q : Acc,e=.returned (af q s.l.length)∧(q=none→s.l=[])∧aa w [] (aA 5 q (s.l.map U8)) w':=by
  refine enter (n:=8) Tryz.func37 rfl rfl rfl (aa.start w []) ?_
  obtain ⟨ad,cap,l⟩:=s
  cases ad with
  | none=>
    have h0 : l=[]:=by
      cases l with
      | nil=>rfl
      | cons c l=>
        obtain ⟨b,j,h1,_⟩:=hs.reads.at (by simp)
        cases h1
    repeat (first | refine JL.q (by first|(apply OQ.isNil;exact Tryz.underlying22;rfl;rfl)|(apply OQ.move;rfl)|(apply OQ.assign;rfl)) rfl ?_ | refine JC.seq ?_ | refine JC.region ?_ | refine JL.nil ?_ | refine JE.next ?_)
    refine JC.cond_true rfl rfl ?_
    repeat (first | refine JL.q (by (apply OQ.assign;rfl)) rfl ?_ | refine JC.seq ?_ | refine JC.region ?_ | refine JL.nil ?_ | refine JE.next ?_)
    refine JC.ret ?_
    repeat (refine JE.ag ?_)
    exact JE.av rfl (RV.tmp rfl) fun w' hw=>⟨none,rfl,fun _=>h0,hw⟩
  | some ad=>
    repeat (first | refine JL.q (by first|(apply OQ.isNil;exact Tryz.underlying22;rfl;rfl)|(apply OQ.move;rfl)|(apply OQ.assign;rfl)) rfl ?_ | refine JC.seq ?_ | refine JC.region ?_ | refine JL.nil ?_ | refine JE.next ?_)
    refine JC.cond_false rfl rfl ?_
    repeat (first | refine JC.seq ?_ | refine JC.region ?_ | refine JC.skip ?_ | refine JE.next ?_)
    refine JL.qG Tryz.underlying22 fB rfl fun b0 _=>?_
    repeat (refine JL.q (by (apply OQ.move;rfl)) rfl ?_)
    refine JL.append (cs:=l.map U8) (m:=l.length) (ad:=some ad) (sc:=cap) (xs:=[]) (fun b' cap'=>[⟨b',Sl.aY 5 1 (0+l.length) cap' ([]++l.map U8),true⟩]) Tryz.underlying22 fB rfl rfl (by intro _ _;repeat (first | exact bG.here | apply bG.there)) (by simp) (fun w' hw'=>(hs.holds hw' rfl).reads) (fz _) rfl (by decide) (by simp only [] at hl;omega) (by simp only [] at hl;omega) rfl fun b1 cap1=>?_
    rw [Nat.zero_add,List.nil_append]
    repeat (first | refine JL.q (by (apply OQ.assign;rfl)) rfl ?_ | refine JL.nil ?_ | refine JE.next ?_)
    refine JC.ret (JE.av rfl (RV.tmp rfl) fun w' hw=>⟨some (b1,cap1),rfl,(fun h=>by cases h),?_⟩)
    show aa w [] [⟨b1,Sl.aY 5 1 (l.map U8).length cap1 (l.map U8),true⟩] w'
    rw [List.length_map]
    exact hw
end
section
namespace b6
def bE (l : List By) (i : Nat) : Prop:=l[i]?=some 13∧l[i+1]?=some 10
def cw (l : List By) : Prop:=∀ i,¬ bE l i
theorem jQ (p : List (List By)) : ∀ (l : List By) (s : List (List By) × List By),l.foldl sp (p++s.1,s.2)=(p++(l.foldl sp s).1,(l.foldl sp s).2)
  | [],_=>rfl
  | c::l,s=>by
    rw [List.foldl_cons,List.foldl_cons]
    have e : sp (p++s.1,s.2) c=(p++(sp s c).1,(sp s c).2):=by
      unfold sp
      simp only
      split
      · rw [List.append_assoc]
      · rfl
    rw [e]
    exact jQ p l (sp s c)
theorem iK : ∀ (l : List By) (L : List (List By)) (x : List By),cw (x++l)→l.foldl sp (L,x)=(L,x++l)
  | [],L,x,_=>by rw [List.append_nil];rfl
  | c::l,L,x,h=>by
    rw [List.foldl_cons]
    have e : sp (L,x) c=(L,x++[c]):=by
      unfold sp
      simp only
      rw [if_neg]
      rintro ⟨rfl,h13⟩
      have hx : x≠[]:=by rintro rfl;cases h13
      have hp : 0<x.length:=List.length_pos_iff.2 hx
      refine h (x.length - 1) ⟨?_,?_⟩
      · rw [List.getElem?_append_left (by omega),← List.getLast?_eq_getElem?];exact h13
      · rw [show x.length - 1+1=x.length by omega,List.getElem?_append_right (Nat.le_refl _)];simp
    rw [e,iK l L (x++[c]) (by rw [List.append_assoc];exact h),List.append_assoc]
    rfl
theorem iL {l : List By} (h : cw l) : bA l=([],l):=by
  have:=iK l [] [] (by simpa using h)
  simpa [bA] using this
theorem dn {l : List By} {i : Nat} (h : bE l i) (hn : ∀ j,j<i→¬ bE l j) : bA l=(l.take i::(bA (l.drop (i+2))).1,(bA (l.drop (i+2))).2):=by
  have hl : i+1<l.length:=(List.getElem?_eq_some_iff.1 h.2).1
  have e : l=l.take i++([13,10]++l.drop (i+2)):=by
    have e1 : l.drop i=13::l.drop (i+1):=by
      rw [List.drop_eq_getElem_cons (by omega)]
      congr 1
      exact (List.getElem?_eq_some_iff.1 h.1).2
    have e2 : l.drop (i+1)=10::l.drop (i+2):=by
      rw [List.drop_eq_getElem_cons hl]
      congr 1
      exact (List.getElem?_eq_some_iff.1 h.2).2
    calc l=l.take i++l.drop i:=(List.take_append_drop i l).symm
      _=_:=by rw [e1,e2];rfl
  have hno : cw ([]++(l.take i++[13])):=by
    intro j hj
    rw [List.nil_append] at hj
    have h2 : j+1<(l.take i++[13]).length:=(List.getElem?_eq_some_iff.1 hj.2).1
    rw [List.length_append,List.length_take,List.length_singleton] at h2
    have hji : j<i:=by omega
    refine hn j hji ⟨?_,?_⟩
    · have:=hj.1
      rwa [List.getElem?_append_left (by rw [List.length_take];omega),List.getElem?_take,if_pos hji] at this
    · have h3:=hj.2
      by_cases e1 : j+1<i
      · rwa [List.getElem?_append_left (by rw [List.length_take];omega),List.getElem?_take,if_pos e1] at h3
      · rw [List.getElem?_append_right (by rw [List.length_take];omega),List.length_take] at h3
        rw [show j+1 - min i l.length=0 by omega] at h3
        cases h3
  have e13:=iK (l.take i++[13]) [] [] hno
  have e10 : sp ([],[]++(l.take i++[13])) 10=([l.take i],[]):=by
    unfold sp
    rw [if_pos ⟨rfl,by simp⟩]
    simp
  have hs:=jQ [l.take i] (l.drop (i+2)) ([],[])
  have e0 : bA l=bA (l.take i++[13]++([10]++l.drop (i+2))):=by
    congr 1
    rw [List.append_assoc]
    exact e
  rw [e0]
  show (l.take i++[13]++([10]++l.drop (i+2))).foldl sp ([],[])=_
  rw [List.foldl_append,e13,List.foldl_append]
  show (l.drop (i+2)).foldl sp (sp ([],[]++(l.take i++[13])) 10)=_
  rw [e10]
  exact hs
def lK (l : List By) : List UInt8:=l.map UInt8.ofBitVec
theorem oI (l : List By) (i : Nat) : (lK l)[i]?=l[i]?.map UInt8.ofBitVec:=by unfold lK;rw [List.getElem?_map]
theorem fh (l : List By) (i : Nat) : Go.Lib.occAt (lK l) (lK [13,10]) i=true↔bE l i:=by
  unfold Go.Lib.occAt
  have h : ∀ r : List UInt8,(lK [13,10]).isPrefixOf r=true↔r[0]?=some 13∧r[1]?=some 10:=by
    intro r
    match r with
    | []=>simp [lK]
    | [a]=>simp [lK]
    | a::b::r=>
      show ((UInt8.ofBitVec 13 == a) && ((UInt8.ofBitVec 10 == b) && true))=true↔_
      rw [Bool.and_eq_true,Bool.and_true,beq_iff_eq,beq_iff_eq]
      simp only [List.getElem?_cons_zero,List.getElem?_cons_succ,Option.some.injEq]
      exact ⟨fun ⟨h1,h2⟩=>⟨h1.symm,h2.symm⟩,fun ⟨h1,h2⟩=>⟨h1.symm,h2.symm⟩⟩
  rw [h,List.getElem?_drop,List.getElem?_drop,oI,oI,Nat.add_zero]
  unfold bE
  have inj : ∀ (o : Option By) (c : By),o.map UInt8.ofBitVec=some (UInt8.ofBitVec c)↔o=some c:=by
    intro o c
    cases o with
    | none=>simp
    | some a=>simp
  exact and_congr (inj _ 13) (inj _ 10)
def oJ (l : List By) : Int:=Go.Lib.index (lK l) (lK [13,10])
theorem gX (l : List By) : (oJ l=-1∧cw l)∨∃ i : Nat,oJ l=i∧i+2≤l.length∧bE l i∧∀ j,j<i→¬ bE l j:=by
  rcases Go.Lib.index_spec (lK l) (lK [13,10]) with ⟨h1,h2⟩ | ⟨i,h1,h2,h3,h4⟩
  · refine .inl ⟨h1,fun i hi=>?_⟩
    have hl : i+1<l.length:=(List.getElem?_eq_some_iff.1 hi.2).1
    have:=h2 i (by unfold lK;rw [List.length_map];omega)
    rw [(fh l i).2 hi] at this
    cases this
  · refine .inr ⟨i,h1,?_,(fh l i).1 h3,fun j hj hc=>?_⟩
    · have hl : i+1<l.length:=(List.getElem?_eq_some_iff.1 ((fh l i).1 h3).2).1
      omega
    · have:=h4 j hj
      rw [(fh l j).2 hc] at this
      cases this
end b6
end
section
set_option maxRecDepth 10000
open Sl b6 Go.Shelf
def oK : Ren:=⟨fun | 4=>109 | 5=>148 | 6=>70 | 7=>103 | 8=>183 | 9=>184 | 10=>185 | 11=>102 | 12=>226 | n=>n,
  fun | 22=>22 | 4=>4 | 3=>3 | 0=>0 | 5=>5 | 29=>189 | 9=>9 | 31=>246 | 30=>176 | n=>n,
  fun | 0=>0 | n=>n⟩
theorem iM : SlLaysT.n4 Tryz.prog oK:={
  mixed:=by kernel_rfl
  f4:=Tryz.func109.trans (congrArg some (by kernel_rfl))
  f5:=Tryz.func148.trans (congrArg some (by kernel_rfl))
  f6:=Tryz.func70.trans (congrArg some (by kernel_rfl))
  f7:=Tryz.func103.trans (congrArg some (by kernel_rfl))
  f8:=Tryz.func183.trans (congrArg some (by kernel_rfl))
  f9:=Tryz.func184.trans (congrArg some (by kernel_rfl))
  f10:=Tryz.func185.trans (congrArg some (by kernel_rfl))
  f11:=Tryz.func102.trans (congrArg some (by kernel_rfl))
  f12:=Tryz.func226.trans (congrArg some (by kernel_rfl))
  t0:=Tryz.underlying0
  a0:=Tryz.isAgg0
  z0:=Tryz.sizeOf0
  v0:=Tryz.zeroValue0
  t3:=Tryz.underlying3
  a3:=Tryz.isAgg3
  z3:=Tryz.sizeOf3
  v3:=Tryz.zeroValue3
  t4:=Tryz.underlying4
  a4:=Tryz.isAgg4
  z4:=Tryz.sizeOf4
  v4:=Tryz.zeroValue4
  t5:=Tryz.underlying5
  a5:=Tryz.isAgg5
  z5:=Tryz.sizeOf5
  v5:=Tryz.zeroValue5
  t9:=Tryz.underlying9
  a9:=Tryz.isAgg9
  z9:=Tryz.sizeOf9
  v9:=Tryz.zeroValue9
  t22:=Tryz.underlying22
  a22:=Tryz.isAgg22
  z22:=Tryz.sizeOf22
  v22:=Tryz.zeroValue22
  t29:=Tryz.underlying189
  a29:=Tryz.isAgg189
  z29:=Tryz.sizeOf189
  v29:=Tryz.zeroValue189
  t30:=Tryz.underlying176
  a30:=Tryz.isAgg176
  z30:=Tryz.sizeOf176
  v30:=Tryz.zeroValue176
  t31:=Tryz.underlying246
  a31:=Tryz.isAgg246
  z31:=Tryz.sizeOf246
  v31:=Tryz.zeroValue246
  g0:=by kernel_rfl }
def c6 (w : World) : Prop:=∃ m,w.cell? ⟨0,0,none⟩=some (.int .i64 m)
theorem c6.ext {w w' : World} (h : c6 w) (hx : Ext w w') : c6 w':=by
  obtain ⟨m,hm⟩:=h
  refine ⟨m,?_⟩
  have hlt:=block_lt_of_cell hm
  have:=hx.block _ hlt (by simp)
  rw [← hm]
  simp only [World.cell?,this]
theorem jR : aC Tryz.prog 109:=⟨_,Tryz.func109,rfl,by kernel_rfl⟩
def qw (l : List Bt) : List Int:=l.map fun c=>(c.toNat : Int)
theorem oL {s : aM} {w : World} (h : s.ok w) : Go.Lib.BytesIn w s.ad s.l.length (qw s.l):=by
  intro h0
  obtain ⟨b,j,h1,h2⟩:=h.reads.at (by simpa using h0)
  refine ⟨b,j,h1,fun i hi=>?_⟩
  rw [h2 i _ (fo U8 0 hi)]
  unfold qw
  rw [List.getD_eq_getElem?_getD,List.getD_eq_getElem?_getD,List.getElem?_map,List.getElem?_eq_getElem hi]
  rfl
theorem oM (l : List Bt) : ∀ x ∈ qw l,0≤x∧x<256:=by
  intro x hx
  obtain ⟨c,_,rfl⟩:=List.mem_map.1 hx
  omega
theorem oN (l : List Bt) : Go.Lib.bytesOf (qw l)=lK l:=by
  unfold Go.Lib.bytesOf qw lK
  rw [List.map_map]
  refine List.map_congr_left fun c _=>?_
  show UInt8.ofNat ((c.toNat : Int)).toNat=_
  rw [Int.toNat_natCast]
  apply UInt8.toBitVec_inj.1
  exact BitVec.eq_of_toNat_eq (by simp)
def aM.cut (s : aM) (i : Nat) : aM:=⟨s.ad,s.cap,s.l.take i⟩
theorem aM.ok.cut {s : aM} {w : World} (h : s.ok w) (i : Nat) : (s.cut i).ok w:=by
  refine ⟨?_,?_⟩
  · show (s.l.take i).length≤s.cap
    have:=h.len
    rw [List.length_take]
    omega
  · show Reads w s.ad ((s.l.take i).map U8)
    rw [List.map_take]
    exact h.reads.take i
theorem oO (s : aM) {i : Nat} (hi : i+2≤s.l.length) : Go.Lib.cutV s.ad s.l.length s.cap 2 (i : Int)=.tuple #[(s.cut i).v,(s.snd (i+2)).v,.bool true]:=by
  unfold Go.Lib.cutV Go.Lib.fromV
  rw [if_pos (by omega)]
  simp [aM.v,aM.cut,aM.snd,List.length_take,Nat.min_eq_left (by omega : i≤s.l.length)]
theorem gY (w : World) (q : Nat) : Ext w (w.drewN q):=⟨rfl,rfl,rfl,Nat.le_refl _,fun _ _ _=>rfl⟩
theorem qx (s d : aM) (w : World) (hs : s.ok w) (hd : d.ok w) (hdl : d.l=[13,10]) (hl : s.l.length<4294967281) (hm : c6 w) :
    Calls Tryz.prog 109 [s.v,d.v].toArray w fun e w'=>e=.returned (Go.Lib.cutV s.ad s.l.length s.cap 2 (oJ s.l))∧Ext w w':=by
  obtain ⟨m,hm⟩:=hm
  have hd2 : d.l.length=2:=by rw [hdl];rfl
  by_cases h0 : s.l.length<2
  · have hidx : Calls Tryz.prog (oK.f 5) #[.slice s.ad s.l.length s.cap,.slice d.ad 2 d.cap] w fun e w'=>e=.returned (.int .i64 (-1))∧∃ q,w'=w.drewN q:=
      (Any.bytes_Index_longer iM.index s.ad d.ad s.l.length s.cap 2 d.cap w (Nat.le_refl _) h0 (by decide)).mono fun e w' ⟨h1,h2⟩=>⟨h1,0,h2⟩
    have e1 : oJ s.l=-1:=by
      rcases gX s.l with h | ⟨i,_,h,_⟩
      · exact h.1
      · omega
    rw [e1]
    have h:=Any.bytes_Cut_of iM s.ad d.ad s.l.length s.cap 2 d.cap (-1) w hs.len (by omega) (fun h=>by omega) (by omega) hidx
    have e2 : d.v=.slice d.ad 2 d.cap:=by unfold aM.v;rw [hd2]
    rw [e2]
    exact h.mono fun e w' ⟨h1,q,h2⟩=>⟨h1,h2 ▸ gY w q⟩
  · have h1 : s.ad=none→s.cap=0:=fun h=>by
      obtain ⟨b,j,h1,_⟩:=hs.reads.at (by simp;omega)
      rw [h] at h1;cases h1
    have h:=Any.bytes_Cut_all iM s.ad d.ad s.l.length s.cap 2 d.cap (qw s.l) (qw d.l) m w (by unfold qw;rw [List.length_map]) (by unfold qw;rw [List.length_map,hd2]) (oM _) (oM _) (oL hs) (hd2 ▸ oL hd) h1 hs.len hl (by decide) hm
    rw [oN,oN,hdl] at h
    have e2 : d.v=.slice d.ad 2 d.cap:=by unfold aM.v;rw [hd2]
    rw [e2]
    exact h.mono fun e w' ⟨h1,q,h2⟩=>⟨h1,h2 ▸ gY w q⟩
theorem lM (s d : aM) (w : World) (hs : s.ok w) (hd : d.ok w) (hdl : d.l=[13,10]) (hl : s.l.length<4294967281) (hm : c6 w) {i : Nat} (hi : oJ s.l=i) (h2 : i+2≤s.l.length) :
    Calls Tryz.prog 109 [s.v,d.v].toArray w fun e w'=>e=.returned (.tuple #[(s.cut i).v,(s.snd (i+2)).v,.bool true])∧Ext w w':=by
  have:=qx s d w hs hd hdl hl hm
  rwa [hi,oO s h2] at this
end
section
set_option maxRecDepth 10000
open Sl b6
end
section
set_option maxRecDepth 10000
open Sl b6
end
section
set_option maxRecDepth 10000
open Sl b6
def w1 (l : List b6.By) (i : Nat) : List b6.By:=if ((l.getD i 0).toNat : Int)=10∧kK (l.take i) [13]=false then [13] else []
def w2 (l : List b6.By) (i : Nat) : List b6.By:=if ((l.getD i 0).toNat : Int)=13∧preB (l.drop (i+1)) [10]=false then [10] else []
theorem lp (l : List b6.By) (i : Nat) (h : i<l.length) : preB (l.drop (i+1)) [10]=true↔¬ i+1=l.length∧l.getD (i+1) 0=10:=by
  unfold preB
  by_cases hi : i+1=l.length
  · rw [List.drop_eq_nil_of_le (by omega)]
    simp [hi]
  · have hl : i+1<l.length:=by omega
    rw [List.drop_eq_getElem_cons hl,List.getD_eq_getElem?_getD,List.getElem?_eq_getElem hl,Bool.and_eq_true,decide_eq_true_eq,decide_eq_true_eq]
    constructor
    · rintro ⟨_,h2⟩
      exact ⟨hi,List.head_eq_of_cons_eq h2⟩
    · rintro ⟨_,h2⟩
      have h2 : l[i+1]=10:=h2
      rw [h2]
      refine ⟨?_,rfl⟩
      simp only [List.length_cons,List.length_nil]
      omega
end
section
set_option maxRecDepth 10000
open Sl b6
end
section
namespace Sl
section
open Ieee
end
section
variable {P : Program} {n : Nat} {E : Env} {C : World→Prop} {dst : Option Tmp} {t t' ty : TypeId} {pos : String} {aft : Array Edge} {g : Option (Nat × Bool)} {x y : Operand}
end
end Sl
end
section
set_option maxRecDepth 10000
open Sl b6
end
section
set_option maxRecDepth 10000
open Sl b6
theorem gf {w0 w : World} {S : List Nat} {M : List az} {b cap : Nat} {e : TypeId} {l : List Bt} {wr : Bool} (hw : aa w0 S M w) (hM : Has M b (iY e (l.map U8)) wr) (hc : l.length≤cap) : aM.ok w ⟨some ⟨b,0,none⟩,cap,l⟩:=by
  obtain ⟨o,ho,hA⟩:=hw.get hM
  exact ⟨hc,Reads.block ho (iY.all _ hA)⟩
end
section
set_option maxRecDepth 10000
open Sl b6
end
section
set_option maxRecDepth 10000
open Sl b6
end
section
set_option maxRecDepth 10000
open Sl b6
def tl (ls : List (List b6.By)) (i j : Nat) : List b6.By:=aX ((ls.take j).drop (i+1))
def sQ (b : List b6.By) : List b6.By × List b6.By × Nat:=match fD b with
  | some p=>(p.1,p.2,0)
  | none=>([],[],7)
end
section
open Sl
theorem JL.upon {P : Program} {n : Nat} {w0 : World} {S : List Nat} {ops : Array Oper} {Q : Exit→Act→World→Prop} {l : List Oper} {E : Env} {M M' : List az} (hp : M.Perm M') (h : JL P n w0 S ops Q l E M') : JL P n w0 S ops Q l E M:=
  ⟨fun a w ha hw=>h.go a w ha ⟨hw.aE,(hp.map az.b).nodup_iff.1 hw.nodup,fun e he=>hw.all e (hp.mem_iff.2 he)⟩⟩
theorem JL.less {P : Program} {n : Nat} {w0 : World} {S : List Nat} {ops : Array Oper} {Q : Exit→Act→World→Prop} {l : List Oper} {E : Env} {M M' : List az} (hM : ak M' M) (h : JL P n w0 S ops Q l E M') : JL P n w0 S ops Q l E M:=
  ⟨fun a w ha hw=>h.go a w ha (hw.weak hM)⟩
end
section
set_option maxRecDepth 10000
open Sl b6
theorem qy : ∀ v ∈ ([U8 13,U8 10] : List Value),v.cells=#[v]:=by
  intro v hv
  simp only [List.mem_cons,List.not_mem_nil,or_false] at hv
  rcases hv with rfl | rfl <;> rfl
def pP (A r : List b6.By) : List b6.By × List b6.By × Nat:=match ij (bA r).1 with
  | some p=>(A++aX p.1,aX p.2++(bA r).2,0)
  | none=>([],[],7)
theorem mS (r : List b6.By) : sQ r=pP [] r:=by
  unfold sQ fD pP
  cases ij (bA r).1 <;> rfl
theorem rK {A r : List b6.By} (h : cw r) : pP A r=([],[],7):=by
  unfold pP
  rw [iL h]
  rfl
theorem mT {A r : List b6.By} {i : Nat} (h : bE r i) (hn : ∀ j,j<i→¬ bE r j) (hp : r.take i=[46]) : pP A r=(A,r.drop (i+2),0):=by
  unfold pP
  rw [dn h hn,hp]
  have e : ij ([46]::(bA (r.drop (i+2))).1)=some ([],(bA (r.drop (i+2))).1):=by
    show (if ([46] : List b6.By)=[46] then _ else _)=_
    rw [if_pos rfl]
  simp only [e]
  rw [eB]
  show (A++[],_,_)=_
  rw [List.append_nil]
theorem oP {A r : List b6.By} {i : Nat} (h : bE r i) (hn : ∀ j,j<i→¬ bE r j) (hp : ¬ r.take i=[46]) : pP A r=pP (A++gG (r.take i)++[13,10]) (r.drop (i+2)):=by
  unfold pP
  rw [dn h hn]
  have e : ij (r.take i::(bA (r.drop (i+2))).1)=(ij (bA (r.drop (i+2))).1).map fun p=>(gG (r.take i)::p.1,p.2):=by
    show (if r.take i=[46] then _ else _)=_
    rw [if_neg hp]
  simp only [e]
  cases ij (bA (r.drop (i+2))).1 with
  | none=>rfl
  | some p=>
    show (A++((gG (r.take i)++[13,10])++aX p.1),_,_)=_
    simp only [List.append_assoc]
theorem qV (l : List b6.By) : preB l [46]=true↔l.head?=some 46:=by
  unfold preB
  cases l with
  | nil=>simp
  | cons c l=>
    rw [Bool.and_eq_true,decide_eq_true_eq,decide_eq_true_eq]
    simp only [List.length_cons,List.length_nil,List.take_succ_cons,List.take_zero,List.head?_cons,Option.some.injEq,List.cons.injEq,and_true]
    exact ⟨fun h=>h.2,fun h=>⟨by omega,h⟩⟩
theorem rL (x d : aM) (hd : d.l=[46]) : (trimS x d).l=gG x.l:=by
  unfold trimS gG
  rw [hd]
  by_cases h : x.l.head?=some 46
  · rw [if_pos ((qV _).2 h),if_pos h]
    show x.l.drop 1=_
    rw [List.drop_one]
  · rw [if_neg (fun e=>h ((qV _).1 e)),if_neg h]
theorem rM (l : List b6.By) : (gG l).length≤l.length:=by unfold gG;split <;> simp
end
section
set_option maxRecDepth 10000
open Sl b6
set_option maxHeartbeats 16000000 in
theorem oQ (s : aM) (w : World) (hs : s.ok w) (hl : s.l.length≤4000000) (hm : c6 w) {mm rr : List Bt} (hu : fD s.l=some (mm,rr)) : Calls Tryz.prog 76 [s.v].toArray w
    fun e w'=>∃ q : {q : Acc × aM // q.1=none→mm=[]},e=.returned (.tuple #[af q.1.1 mm.length,q.1.2.v,N 0])∧aa w [] (aA 5 q.1.1 (mm.map U8)) w':=by
  have hu' : sQ s.l=(mm,rr,0):=by unfold sQ;rw [hu]
  refine enter (n:=35) Tryz.func76 rfl rfl rfl (aa.start w []) ?_
  repeat (first | refine JL.q (by (apply OQ.assign;rfl)) rfl ?_ | refine JC.seq ?_ | refine JC.region ?_ | refine JC.block ?_ | refine JL.nil ?_ | refine JE.next ?_)
  refine JC.loop (fun z : aM × List b6.By × Acc=>[(0,z.1.v),(2,af z.2.2 (z.2.1.map U8).length)]) (fun z=>aA 5 z.2.2 (z.2.1.map U8)) (fun z=>z.1.l.length)
    (fun z=>z.1.ok w∧(z.2.2=none→z.2.1=[])∧z.2.1.length+z.1.l.length≤s.l.length∧sQ s.l=pP z.2.1 z.1.l) (s,[],none)
    ⟨hs,fun _=>rfl,by simp,mS _⟩ (by repeat (first | exact ai.nil | refine ai.cons _ _ _ rfl ?_)) (ak.refl _) ?_
  rintro ⟨y,A,q⟩ ⟨hy,hq,hrl,hsp⟩
  dsimp only at hy hq hrl hsp ⊢
  have hyl : y.l.length≤4000000:=by omega
  repeat (first | refine JL.q (by (apply OQ.move;rfl)) rfl ?_ | refine JC.seq ?_ | refine JC.region ?_ | refine JC.block ?_)
  refine JL.pU (xs:=[.const (U8 13),.const (U8 10)]) (vs:=[U8 13,U8 10]) Tryz.underlying22 fB rfl rfl rfl rfl qy rfl (by decide) (by decide) rfl fun bl _=>?_
  refine JL.mark (r:=[U8 13,U8 10]) (te:=5) Tryz.underlying22 Tryz.underlying5 rfl .here rfl ?_
  rcases gX y.l with ⟨hc,hno⟩ | ⟨i,hc,hi2,hat,hnb⟩
  · rw [rK hno] at hsp
    rw [hu'] at hsp
    cases hsp
  · have hlc : (y.cut i).l.length=i:=by show (y.l.take i).length=i;rw [List.length_take];omega
    have hcl : (y.cut i).l=y.l.take i:=rfl
    by_cases h46 : y.l.take i=[46]
    · rw [mT hat hnb h46] at hsp
      repeat (first | refine JL.q (by first|(apply OQ.ah (vs:=[y.v,aM.v ⟨some ⟨bl,0,none⟩,2,[13,10]⟩]);exact jR;rfl;exact (fun w' hw'=>lM y ⟨some ⟨bl,0,none⟩,2,[13,10]⟩ w' (hy.holds hw' rfl) (gf (l:=[13,10]) hw' .here (Nat.le_refl _)) rfl (by omega) (hm.ext hw'.aE) hc hi2))|(apply OQ.extract;rfl;rfl)|(apply OQ.not;rfl)|(apply OQ.move;rfl)|(apply OQ.assign;rfl)) rfl ?_ | refine JC.seq ?_ | refine JC.region ?_ | refine JC.block ?_ | refine JL.nil ?_ | refine JE.next ?_)
      refine JC.cond_false rfl rfl ?_
      repeat (first | refine JL.q (by first|(apply OQ.nq (s:=y.cut i);exact Tryz.underlying22;exact Tryz.underlying5;exact Tryz.underlying9;rfl;exact (fun w' hw'=>(hy.holds hw' rfl).cut i))|(apply OQ.qH (r:=[46]);rfl;rfl;exact h46)|(apply OQ.move;rfl)|(apply OQ.assign;rfl)) rfl ?_ | refine JC.seq ?_ | refine JC.region ?_ | refine JL.nil ?_ | refine JE.next ?_)
      refine JC.cond_true rfl rfl ?_
      have hdl : (y.snd (i+2)).l=y.l.drop (i+2):=rfl
      have hdn : (y.snd (i+2)).l.length≤4000000:=by rw [hdl,List.length_drop];omega
      repeat (first | refine JL.q (by (apply OQ.move;rfl)) rfl ?_ | refine JC.seq ?_ | refine JC.region ?_)
      refine JL.dy (ι:={ q : Acc // q=none→(y.snd (i+2)).l=[] }) (fun q=>af q.1 (y.snd (i+2)).l.length) (fun q=>aA 5 q.1 ((y.snd (i+2)).l.map U8)) kL rfl rfl (fun q=>b8 _ _ _) (fun w' hw'=>(mR (y.snd (i+2)) w' ((hy.holds hw' rfl).snd _ hi2) (by omega)).mono fun e w2 ⟨q,h1,h2,h3⟩=>⟨⟨q,h2⟩,h1,h3⟩) ?_
      rintro ⟨q2,hq2⟩
      dsimp only
      repeat (first | refine JL.q (by (apply OQ.assign;rfl)) rfl ?_ | refine JL.nil ?_ | refine JE.next ?_)
      refine JC.ret ?_
      repeat (first | refine JE.ag ?_ | refine JE.aJ ?_)
      refine JE.nG rfl (RV.tmp rfl) (RV.tmp rfl) (RV.tmp rfl) ?_
      intro w' hw
      rw [hu'] at hsp
      obtain ⟨rfl,hr,-⟩ : mm=A∧rr=y.l.drop (i+2)∧True:=by
        have h1:=Prod.mk.inj hsp
        exact ⟨h1.1,(Prod.mk.inj h1.2).1,trivial⟩
      refine ⟨⟨(q,bP q2 (y.snd (i+2)).l),hq⟩,?_,hw.weak (fy _ (.drop _ _ _ (ak.refl _)))⟩
      show _=Ending.returned (.tuple #[af q mm.length,(bP q2 _).v,_])
      rw [fA,List.length_map]
      rfl
    · rw [oP hat hnb h46] at hsp
      repeat (first | refine JL.q (by first|(apply OQ.ah (vs:=[y.v,aM.v ⟨some ⟨bl,0,none⟩,2,[13,10]⟩]);exact jR;rfl;exact (fun w' hw'=>lM y ⟨some ⟨bl,0,none⟩,2,[13,10]⟩ w' (hy.holds hw' rfl) (gf (l:=[13,10]) hw' .here (Nat.le_refl _)) rfl (by omega) (hm.ext hw'.aE) hc hi2))|(apply OQ.extract;rfl;rfl)|(apply OQ.not;rfl)|(apply OQ.move;rfl)|(apply OQ.assign;rfl)) rfl ?_ | refine JC.seq ?_ | refine JC.region ?_ | refine JC.block ?_ | refine JL.nil ?_ | refine JE.next ?_)
      refine JC.cond_false rfl rfl ?_
      repeat (first | refine JL.q (by first|(apply OQ.nq (s:=y.cut i);exact Tryz.underlying22;exact Tryz.underlying5;exact Tryz.underlying9;rfl;exact (fun w' hw'=>(hy.holds hw' rfl).cut i))|(apply OQ.sn (r:=[46]);rfl;rfl;exact h46)|(apply OQ.move;rfl)|(apply OQ.assign;rfl)) rfl ?_ | refine JC.seq ?_ | refine JC.region ?_ | refine JL.nil ?_ | refine JE.next ?_)
      refine JC.cond_false rfl rfl ?_
      repeat (first | refine JL.q (by (apply OQ.move;rfl)) rfl ?_ | refine JC.seq ?_ | refine JC.region ?_ | refine JC.skip ?_ | refine JE.next ?_ | refine JE.an ?_)
      refine JL.ny (v:=U8 46) Tryz.underlying22 fB rfl rfl rfl rfl fun bp _=>?_
      refine JL.mark (r:=[U8 46]) (te:=5) Tryz.underlying22 Tryz.underlying5 rfl .here rfl ?_
      have htl:=rL (y.cut i) ⟨some ⟨bp,0,none⟩,1,[46]⟩ rfl
      have htn:=rM (y.cut i).l
      rw [hlc] at htn
      refine JL.q (OQ.ah (vs:=[(y.cut i).v,aM.v ⟨some ⟨bp,0,none⟩,1,[46]⟩]) mQ rfl (fun w' hw'=>oH (y.cut i) ⟨some ⟨bp,0,none⟩,1,[46]⟩ w' ((hy.holds hw' rfl).cut i) (gf (l:=[46]) hw' .here (Nat.le_refl _)))) rfl ?_
      have htok : ∀ w',w'.heap.size=w'.heap.size→(y.cut i).ok w'→(trimS (y.cut i) ⟨some ⟨bp,0,none⟩,1,[46]⟩).ok w':=fun w' _ h=>oG h
      generalize trimS (y.cut i) ⟨some ⟨bp,0,none⟩,1,[46]⟩=x at htl htok ⊢
      rw [hcl] at htl htn
      rw [← htl] at htn hsp
      refine JL.upon (M':=aA 5 q (A.map U8)++[⟨bp,iY 5 [U8 46],true⟩,⟨bl,iY 5 [U8 13,U8 10],true⟩]) (List.perm_append_comm (l₁:=([⟨bp,iY 5 [U8 46],true⟩,⟨bl,iY 5 [U8 13,U8 10],true⟩] : List az))) ?_
      refine JL.dV (cs:=x.l.map U8) (m:=x.l.length) (ad:=x.ad) (sc:=x.cap) q Tryz.underlying22 fB (fun h=>by rw [hq h];rfl) rfl rfl (by rw [List.length_map]) (fun w' hw'=>(htok w' rfl ((hy.holds hw' rfl).cut i)).reads) (fz _) rfl (by rw [List.length_map];omega) (by rw [List.length_map];omega) rfl fun q3 hq3=>?_
      rw [← List.map_append]
      repeat (first | refine JL.q (by first|(apply OQ.move;rfl)|(apply OQ.assign;rfl)) rfl ?_ | refine JC.seq ?_ | refine JC.region ?_ | refine JL.nil ?_ | refine JE.next ?_)
      refine JL.c8 (r:=[13,10]) q3 Tryz.underlying22 Tryz.underlying9 fB (fun h=>by rw [List.map_append];exact hq3 h) rfl rfl (by simp) (by rw [List.length_map,List.length_append];show _+2≤_;omega) rfl fun p4=>?_
      rw [← List.map_append]
      repeat (first | refine JL.q (by first|(apply OQ.move;rfl)|(apply OQ.assign;rfl)) rfl ?_ | refine JC.region ?_ | refine JL.nil ?_ | refine JE.next ?_ | refine JE.an ?_)
      refine JE.again (i:=(y,A,q)) (y.snd (i+2),A++x.l++[13,10],some p4) ⟨hy.snd _ hi2,(fun h=>by cases h),?_,hsp⟩ ?_ (by repeat (first | exact ai.nil | refine ai.cons _ _ _ rfl ?_)) ?_
      · show (A++x.l++[13,10]).length+(y.l.drop (i+2)).length≤_
        rw [List.length_append,List.length_append,List.length_drop]
        show A.length+x.l.length+2+_≤_
        omega
      · show (y.l.drop (i+2)).length<y.l.length
        rw [List.length_drop]
        omega
      · exact cO _ _
end
section
namespace de
def dK : Nat→List By
  | 0=>bM
  | 1=>bQ
  | 2=>bY
  | _=>cc
theorem oR {k : Nat} (hk : k≤3) {S : Po} (hst : S.st≤k) {l : List By} (hno : au (dK k) l=false) : ((aO S l).1.st=5∨(aO S l).1.st≤k)∧(aO S l).1.ms=S.ms∧3≤(aO S l).2.length:=by
  have h0 : ∀ y : List By,3≤y.length→((S,y).1.st=5∨(S,y).1.st≤k)∧(S,y).1.ms=S.ms∧3≤(S,y).2.length:=fun y hy=>⟨.inr hst,rfl,hy⟩
  have k4 : k=0∨k=1∨k=2∨k=3:=by omega
  unfold aO
  split
  · exact h0 _ (by decide)
  split
  · rename_i hs
    have hk1 : 1≤k:=by
      rcases Nat.eq_zero_or_pos k with rfl | h
      · rw [show dK 0=bM from rfl,hs] at hno;cases hno
      · exact h
    unfold cz
    split
    · exact ⟨.inr hk1,rfl,(by decide : 3≤jk.length)⟩
    · exact h0 _ (by decide)
  split
  · rename_i hs
    unfold bF
    split
    · exact h0 _ (by decide)
    · split
      · rename_i h1
        refine ⟨.inr ?_,rfl,(by decide : 3≤jk.length)⟩
        show 2≤k
        rcases k4 with rfl | rfl | rfl | rfl
        · omega
        · rw [show dK 1=bQ from rfl,hs] at hno;cases hno
        · omega
        · omega
      · exact h0 _ (by decide)
  split
  · rename_i hs
    unfold cX
    split
    · exact h0 _ (by decide)
    · split
      · rename_i h1
        split
        · exact h0 _ (by decide)
        · refine ⟨.inr ?_,rfl,(by decide : 3≤jk.length)⟩
          show 3≤k
          rcases k4 with rfl | rfl | rfl | rfl
          · omega
          · omega
          · rw [show dK 2=bY from rfl,hs] at hno;cases hno
          · omega
      · exact h0 _ (by decide)
  split
  · rename_i hs
    unfold cY
    split
    · split
      · rename_i h1
        exfalso
        rcases k4 with rfl | rfl | rfl | rfl
        · omega
        · omega
        · omega
        · rw [show dK 3=cc from rfl,hs] at hno;cases hno
      · exact h0 _ (by decide)
    · exact h0 _ (by decide)
  split
  · unfold cZ
    split
    · split
      · exact h0 _ (by decide)
      · exact ⟨.inr (by show 1≤k;omega),rfl,(by decide : 3≤jk.length)⟩
    · exact h0 _ (by decide)
  split
  · unfold eS
    split
    · exact ⟨.inl rfl,rfl,(by decide : 3≤rA.length)⟩
    · exact h0 _ (by decide)
  · exact h0 _ (by decide)
structure Inv (k : Nat) (S : Po) : Prop where
  ms : S.ms=[]
  ln : S.ln=[]
  st : S.st=5∨S.st≤k
theorem gZ {S : Po} (h5 : S.st≠5) (h4 : S.st≠4) (hn : S.ln=[]) (l : List By) (hl : ∀ c ∈ l,c≠10) : ay S (l++[13,10])=((aO S l).1,(aO S l).2++[13,10]):=by
  rw [dH (l++[13,10]) S h5 (by simp) (by
    rw [show l++[(13 : By),10]=(l++[13])++[10] by simp,List.dropLast_concat]
    intro c hc
    rcases List.mem_append.1 hc with h | h
    · exact hl c h
    · rw [List.mem_singleton.1 h];decide)]
  unfold aS
  rw [hn,List.nil_append,eT,if_pos rfl,sA]
  have : (⟨S.st,S.fr,S.to,[],S.dt,S.ms⟩ : Po)=S:=by rw [← hn]
  rw [this]
  unfold aP
  rw [if_neg h4]
theorem Inv.line {k : Nat} (hk : k≤3) {S : Po} (h : Inv k S) (h5 : S.st≠5) (to : S.to.length≤10) (l : List By) (hl : ∀ c ∈ l,c≠10) (hno : au (dK k) l=false) :
    Inv k (ay S (l++[13,10])).1∧∃ o,(ay S (l++[13,10])).2=o++[13,10]∧3≤o.length∧o=(aO S l).2:=by
  have hs : S.st≤k:=h.st.resolve_left h5
  have hf:=gZ h5 (by omega) h.ln l hl
  obtain ⟨h1,h2,h3⟩:=oR hk hs hno
  rw [hf]
  exact ⟨⟨h2.trans h.ms,(jm S l to).2.2.trans h.ln,h1⟩,_,rfl,h3,rfl⟩
def c7 (c : By) : By:=if 97≤c.toNat∧c.toNat≤122 then c - 32 else c
theorem mU : ∀ c : By,∀ d ∈ ([32,58,65,67,68,69,70,72,73,76,77,79,80,81,82,83,84,85] : List By),(aq.small c=aq.small d↔c7 c=d):=by
  have h : ∀ c : Fin 256,∀ d ∈ ([32,58,65,67,68,69,70,72,73,76,77,79,80,81,82,83,84,85] : List By),(aq.small (BitVec.ofNat 8 c.val)=aq.small d↔c7 (BitVec.ofNat 8 c.val)=d):=by decide +kernel
  intro c
  simpa using h ⟨c.toNat,c.isLt⟩
theorem oS : ∀ (x w : List By),(∀ d ∈ w,d ∈ ([32,58,65,67,68,69,70,72,73,76,77,79,80,81,82,83,84,85] : List By))→(aq.dX x w=decide (x.map c7=w)):=by
  intro x w hw
  unfold aq.dX
  refine decide_eq_decide.2 ?_
  induction x generalizing w with
  | nil=>cases w <;> simp
  | cons c x ih=>
    cases w with
    | nil=>simp
    | cons d w=>
      rw [List.map_cons,List.map_cons,List.map_cons,List.cons.injEq,List.cons.injEq,ih w fun e he=>hw e (List.mem_cons_of_mem _ he),mU c d (hw d List.mem_cons_self)]
theorem kM (k : Nat) (l : List By) : au (dK k) l=(decide ((dK k).length≤l.length) && decide ((l.take (dK k).length).map c7=dK k)):=by
  unfold au
  rw [oS]
  rcases k with _ | _ | _ | k
  · show ∀ d ∈ bM,_
    decide
  · show ∀ d ∈ bQ,_
    decide
  · show ∀ d ∈ bY,_
    decide
  · show ∀ d ∈ cc,_
    decide
end de
end
section
namespace de
open b6 (bE cw bA aX ij fD gG dn iL)
theorem mV {S : Po} (hn : S.ln=[]) (l : List By) (to : S.to.length≤10) : (aP S l).1.ln=[]:=(fI S l S.sz ⟨Nat.le_refl _,to⟩).2.trans hn
theorem oT {b : List By} {i : Nat} (h : bE b i) (hno : ∀ j,j<i→¬ bE b j) (hp : ¬ b.take i=[46]) : fD b=(fD (b.drop (i+2))).map fun p=>(gG (b.take i)++[13,10]++p.1,p.2):=by
  unfold fD
  rw [dn h hno]
  show (ij (b.take i::(bA (b.drop (i+2))).1)).map _=_
  rw [show ij (b.take i::(bA (b.drop (i+2))).1)=(ij (bA (b.drop (i+2))).1).map fun p=>(gG (b.take i)::p.1,p.2) from if_neg hp]
  rw [Option.map_map,Option.map_map]
  congr 1
theorem eK {b : List By} {i : Nat} (h : bE b i) (hno : ∀ j,j<i→¬ bE b j) (hp : b.take i=[46]) : fD b=some ([],b.drop (i+2)):=by
  unfold fD
  rw [dn h hno]
  show (ij (b.take i::(bA (b.drop (i+2))).1)).map _=_
  rw [show ij (b.take i::(bA (b.drop (i+2))).1)=some ([],(bA (b.drop (i+2))).1) from if_pos hp]
  show some (([] : List By),aX (bA (b.drop (i+2))).1++(bA (b.drop (i+2))).2)=_
  rw [b6.eB]
def Dl (d : List By) : Prop:=∀ x : List By,fD (d++x)=(fD x).map fun p=>((bB d)++p.1,p.2)
theorem oU : bB []=[]:=by
  have : bE ([46,13,10] : List By) 1:=⟨rfl,rfl⟩
  have:=eK this (fun j hj hh=>by
    obtain rfl : j=0:=by omega
    exact absurd hh.1 (by decide)) (rfl : ([46,13,10] : List By).take 1=[46])
  unfold bB
  rw [List.nil_append,this]
  rfl
theorem Dl.nil : Dl []:=fun x=>by
  rw [oU,List.nil_append]
  cases fD x <;> rfl
theorem Dl.tC {d : List By} (h : Dl d) (l : List By) (i : Nat) (hl : l.length=i) (hno : ∀ x : List By,∀ j,j<i→¬ bE (l++[13,10]++x) j) (hp : ¬ l=[46]) : bB (d++(l++[13,10]))=bB d++(gG l++[13,10])∧Dl (d++(l++[13,10])):=by
  have step : ∀ x : List By,fD (d++(l++[13,10])++x)=(fD x).map fun p=>(bB d++(gG l++[13,10])++p.1,p.2):=fun x=>by
    have ha : bE (l++[13,10]++x) i:=by
      refine ⟨?_,?_⟩
      · rw [List.append_assoc,List.getElem?_append_right (by omega),hl,Nat.sub_self];rfl
      · rw [List.append_assoc,List.getElem?_append_right (by omega),hl,show i+1 - i=1 by omega];rfl
    have ht : (l++[13,10]++x).take i=l:=by rw [List.append_assoc,List.take_append_of_le_length (by omega),List.take_of_length_le (by omega)]
    have hd : (l++[13,10]++x).drop (i+2)=x:=by
      rw [show i+2=(l++[13,10]).length by simp [hl],List.drop_left]
    rw [List.append_assoc,h (l++[13,10]++x),oT ha (hno x) (by rw [ht];exact hp),ht,hd,Option.map_map]
    congr 1
    funext p
    simp
  have hm : bB (d++(l++[13,10]))=bB d++(gG l++[13,10]):=by
    have h0 : fD ([46,13,10] : List By)=some ([],[]):=eK (i:=1) ⟨rfl,rfl⟩ (fun j hj hh=>by
      obtain rfl : j=0:=by omega
      exact absurd hh.1 (by decide)) rfl
    have:=step [46,13,10]
    rw [h0] at this
    show ((fD (d++(l++[13,10])++[46,13,10])).map Prod.fst).getD []=_
    rw [this]
    show bB d++(gG l++[13,10])++[]=_
    rw [List.append_nil]
  exact ⟨hm,fun x=>by rw [step x,hm]⟩
end de
end
section
namespace de
open b6 (bE cw bA aX ij fD gG dn iL)
theorem jS : ∀ (ls : List (List By)) (p : List (List By) × List (List By)),ij ls=some p→(aX p.1).length+(aX p.2).length≤(aX ls).length
  | [],_,h=>by cases h
  | l::ls,p,h=>by
    have e2 : aX (l::ls)=(l++[13,10])++aX ls:=rfl
    have hu : (gG l).length≤l.length:=by unfold gG;split <;> simp
    rw [ij] at h
    rw [e2]
    split at h
    · obtain rfl:=(Option.some.inj h).symm
      simp [aX]
      omega
    · cases h1 : ij ls with
      | none=>rw [h1] at h;cases h
      | some q=>
        rw [h1] at h
        obtain rfl:=(Option.some.inj h).symm
        have ih:=jS ls q h1
        have e1 : aX (gG l::q.1)=(gG l++[13,10])++aX q.1:=rfl
        simp only [e1,List.length_append,List.length_cons,List.length_nil] at *
        omega
theorem oV (d m r : List By) (hb : fD d=some (m,r)) : m.length≤d.length:=by
  have h2:=congrArg List.length (b6.eB d)
  rw [List.length_append] at h2
  unfold fD at hb
  cases h : ij (bA d).1 with
  | none=>rw [h] at hb;cases hb
  | some p=>
    rw [h] at hb
    have:=jS _ _ h
    obtain ⟨rfl,rfl⟩:=Prod.mk.inj (Option.some.inj hb)
    omega
structure Po.wf (S : Po) : Prop where
  dl : Dl S.dt
  ne : cw S.ln
theorem hD : cw []:=fun i h=>by cases h.1
theorem oW : new.wf:=⟨Dl.nil,hD⟩
theorem kN {a y : List By} (h : cw a) (hy : ∀ c ∈ y,c≠10) : cw (a++y):=by
  rintro i ⟨h1,h2⟩
  by_cases hi : i+1<a.length
  · rw [List.getElem?_append_left (by omega)] at h1
    rw [List.getElem?_append_left hi] at h2
    exact h i ⟨h1,h2⟩
  · rw [List.getElem?_append_right (by omega)] at h2
    exact hy 10 (List.mem_of_getElem? h2) rfl
theorem qz (S : Po) (l : List By) : (aO S l).1.dt=S.dt∨(aO S l).1.dt=[]:=by
  unfold aO
  split
  · exact .inl rfl
  split
  · unfold cz
    split
    · exact .inr rfl
    · exact .inl rfl
  split
  · unfold bF
    repeat' split
    all_goals exact .inl rfl
  split
  · unfold cX
    repeat' split
    all_goals exact .inl rfl
  split
  · unfold cY
    repeat' split
    all_goals exact .inl rfl
  split
  · unfold cZ
    repeat' split
    all_goals first | exact .inl rfl | exact .inr rfl
  split
  · unfold eS
    split
    · exact .inr rfl
    · exact .inl rfl
  · exact .inl rfl
theorem qA {d : List By} (h : Dl d) : fD (d++[46,13,10])=some (bB d,[]):=by
  have h0 : fD ([46,13,10] : List By)=some ([],[]):=eK (i:=1) ⟨rfl,rfl⟩ (fun j hj hh=>by
    obtain rfl : j=0:=by omega
    exact absurd hh.1 (by decide)) rfl
  rw [h [46,13,10],h0]
  show some (bB d++[],[])=_
  rw [List.append_nil]
theorem jT {S : Po} (h : S.wf) (to : S.to.length≤10) {x : List By} (h0 : x≠[]) (hx : ∀ c ∈ x.dropLast,c≠10) : (aS S x).1.wf:=by
  obtain ⟨y,c,rfl⟩:=(List.eq_nil_or_concat x).resolve_left h0
  rw [List.concat_eq_append] at *
  rw [List.dropLast_concat] at hx
  have hne : cw (S.ln++y):=kN h.ne hx
  unfold aS
  cases he : ends (S.ln++(y++[c])) with
  | false=>
    refine ⟨h.dl,?_⟩
    show cw (S.ln++(y++[c]))
    rintro i ⟨h1,h2⟩
    have hl2:=(List.getElem?_eq_some_iff.1 h2).1
    rw [← List.append_assoc] at h1 h2 hl2
    rw [List.length_append,List.length_singleton] at hl2
    by_cases hi : i+1<(S.ln++y).length
    · rw [List.getElem?_append_left (by omega)] at h1
      rw [List.getElem?_append_left hi] at h2
      exact hne i ⟨h1,h2⟩
    · have hi1 : i+1=(S.ln++y).length:=by omega
      rw [List.getElem?_append_right (by omega),hi1,Nat.sub_self] at h2
      obtain rfl : c=10:=by simpa using h2
      have h13 : (S.ln++y).getLast?=some 13:=by
        rw [List.getElem?_append_left (by omega)] at h1
        rw [List.getLast?_eq_getElem?,← hi1,Nat.add_sub_cancel]
        exact h1
      have : ends (S.ln++(y++[10]))=true:=by
        unfold ends
        rw [← List.append_assoc,List.dropLast_concat,h13,List.getLast?_concat]
        rfl
      rw [this] at he
      cases he
  | true=>
    rw [if_pos rfl]
    have hi:=iu he
    have hln:=mV (S:=⟨S.st,S.fr,S.to,[],S.dt,S.ms⟩) rfl (S.ln++(y++[c])).dropLast.dropLast to
    generalize (S.ln++(y++[c])).dropLast.dropLast=l at hi hln ⊢
    have e13 : S.ln++y=l++[13]:=by
      have h1 : (S.ln++y)++[c]=(l++[13])++[10]:=by simpa using hi
      exact (List.append_inj' h1 rfl).1
    rw [e13] at hne
    refine ⟨?_,by rw [hln];exact hD⟩
    unfold aP
    split
    · split
      · exact Dl.nil
      · rename_i h46
        refine (h.dl.tC l l.length rfl (fun x j hj hh=>?_) h46).2
        refine hne j ⟨?_,?_⟩
        · have:=hh.1
          rw [List.append_assoc,List.getElem?_append_left hj] at this
          rw [List.getElem?_append_left hj]
          exact this
        · have h2:=hh.2
          by_cases hj1 : j+1<l.length
          · rw [List.append_assoc,List.getElem?_append_left hj1] at h2
            rw [List.getElem?_append_left hj1]
            exact h2
          · rw [List.append_assoc,List.getElem?_append_right (by omega),show j+1 - l.length=0 by omega] at h2
            cases h2
    · rcases qz ⟨S.st,S.fr,S.to,[],S.dt,S.ms⟩ l with e | e
      · show Dl (aO _ l).1.dt
        rw [e]
        exact h.dl
      · show Dl (aO _ l).1.dt
        rw [e]
        exact Dl.nil
end de
end
section
set_option maxRecDepth 10000
open Sl
namespace de
theorem aG {α : Type} {a b : List α} (h : ∀ (_ : BEq α) (_ : LawfulBEq α) (x : α),a.count x=b.count x) : a.Perm b:=by
  classical
  exact List.perm_iff_count.2 fun x=>h inferInstance inferInstance x
structure en (w : World) (S : List Nat) : Prop where
  m : c6 w
  no : 0 ∉ S
theorem en.lt {w : World} {S : List Nat} (h : en w S) : 0<w.heap.size:=by
  obtain ⟨m,hm⟩:=h.m
  exact block_lt_of_cell hm
theorem en.at {w w' : World} {S : List Nat} {M : List az} (h : en w S) (hw : aa w S M w') : c6 w':=by
  have hlt:=h.lt
  obtain ⟨m,hm⟩:=h.m
  refine ⟨m,?_⟩
  have:=hw.aE.block _ hlt h.no
  rw [← hm]
  simp only [World.cell?,this]
theorem en.sub {w w' : World} {S : List Nat} {X M : List az} (h : en w S) (hw : aa w S (X++M) w') (hX : ∀ e ∈ X,e.wr=true) : en w' (keys X):=by
  refine ⟨h.at hw,fun hm=>?_⟩
  have hlt:=h.lt
  obtain ⟨e,he,hb⟩:=List.mem_map.1 hm
  rcases (hw.all e (List.mem_append_left _ he)).2 (hX e he) with k | k
  · exact h.no (hb ▸ k)
  · omega
theorem mW : aC Tryz.prog 73:=⟨_,Tryz.func73,rfl,by kernel_rfl⟩
theorem mX : aC Tryz.prog 76:=⟨_,Tryz.func76,rfl,by kernel_rfl⟩
theorem JC.oX {P : Program} {n : Nat} {w0 : World} {S : List Nat} {Q : Exit→Act→World→Prop} {c : Code} {E : Env} {M M' : List az} (h : JC P n w0 S Q c E M') (hp : M.Perm M') : JC P n w0 S Q c E M:=⟨fun a w ha hw=>h.go a w ha (hw.perm' hp)⟩
theorem jU (b : Nat) (z : Pw) (w : World) (h0 : aa w [b] [⟨b,Row 75 z.cs,true⟩] w) : Calls Tryz.prog 105 [Pt b 0].toArray w fun e w'=>e=.returned (.tuple #[])∧aa w [b] [⟨b,Row 75 (z.bH 1).cs,true⟩] w':=by
  refine enter (n:=14) Tryz.func105 rfl rfl rfl h0 ?_
  repeat (first | refine JL.q (by first|(apply OQ.move;rfl)|(apply OQ.aI;rfl)|(apply OQ.br;rfl;rfl;rfl;exact (by decide);rfl)) rfl ?_ | refine JC.seq ?_ | refine JC.region ?_)
  refine JL.fL 1 rfl rfl ?_
  repeat (first | refine JL.q (by first|(apply OQ.move;rfl)|(apply OQ.aI;rfl)|(apply OQ.br;rfl;rfl;rfl;exact (by decide);rfl)) rfl ?_ | refine JC.region ?_ | refine JL.nil ?_ | refine JE.next ?_)
  refine JL.nQ [] rfl rfl ?_
  repeat (refine JL.q (by first|(apply OQ.aI;rfl)|(apply OQ.br;rfl;rfl;rfl;exact (by decide);rfl)) rfl ?_)
  refine JL.lz none [] rfl rfl ?_
  repeat (refine JL.q (by first|(apply OQ.aI;rfl)|(apply OQ.br;rfl;rfl;rfl;exact (by decide);rfl)) rfl ?_)
  refine JL.lA none [] rfl rfl ?_
  repeat (refine JL.nil ?_)
  exact JE.rX rfl fun w' hw=>⟨rfl,hw⟩
theorem JL.oY {n : Nat} {w0 : World} {S : List Nat} {ops : Array Oper} {Q : Exit→Act→World→Prop} {l : List Oper} {E : Env} {d : Nat} {ty : TypeId} {pos : String} {aft : Array Edge} {x : Operand} {ats : Array TypeId} {b : Nat} {z : Pw} {M0 : List az}
    (hx : ev E x=some (Pt b 0)) (hd : Nat.blt d n=true) (kk : JL Tryz.prog n w0 S ops Q l ((d,.tuple #[])::E) (⟨b,Row 75 (z.bH 1).cs,true⟩::M0)) : JL Tryz.prog n w0 S ops Q (⟨some d,.call ⟨.value (.func 105),#[x],ats⟩,ty,pos,aft,none⟩::l) E (⟨b,Row 75 z.cs,true⟩::M0):=
  JL.fM (X:=[⟨b,Row 75 z.cs,true⟩]) (M0:=M0) (xs:=[x]) (ι:=Unit) (vs:=[Pt b 0]) (fun _=>.tuple #[]) (fun _=>[⟨b,Row 75 (z.bH 1).cs,true⟩]) ek (by simp [dw,hx]) hd (fun e he=>by rw [List.mem_singleton.1 he]) (fun _ e he=>by rw [List.mem_singleton.1 he]) (fun w' _ hx=>(jU b z w' hx).mono fun e w2 ⟨h1,h2⟩=>⟨(),h1,h2⟩) fun _=>kk
theorem oZ (f : List Bt) (q q2 : Acc) (k k2 : Nat) : Program.built Tryz.prog 38 [(0,Z f),(1,af q k),(2,af q2 k2)]=some [Z f,af q k,af q2 k2].toArray:=by
  cases q <;> cases q2 <;> rfl
theorem o3 (z : Mz) : ∀ v ∈ z.cs,v.oneCell'=true:=by
  intro v hv
  unfold Mz.cs at hv
  simp only [List.mem_cons,List.not_mem_nil,or_false] at hv
  rcases hv with rfl | rfl | rfl
  · rfl
  · exact ef _ _
  · exact ef _ _
theorem rN (z : Mz) : z.cs.all (fun v=>v.oneCell')=true:=List.all_eq_true.2 (o3 z)
theorem ug : zc Tryz.prog 38=some [Z [],.slice none 0 0,.slice none 0 0]:=by kernel_rfl
theorem tP : dM Tryz.prog 38=some 3:=by kernel_rfl
set_option maxHeartbeats 16000000 in
theorem o4 (b : Nat) (z : Pw) (S : Po) (ok : z.ok) (hs : z.is S) (hn : S.ln=[]) (hsz : S.dt.length+S.ms.length≤1000000) {mm rr : List Bt} (hu : b6.fD (S.dt++[46,13,10])=some (mm,rr)) (w : World) (hm : en w (keys (z.E b))) (h0 : aa w (keys (z.E b)) (z.E b) w) : Calls Tryz.prog 73 [Pt b 0].toArray w (cj (keys (z.E b)) b (dB S) w):=by
  have hmo : bB S.dt=mm:=by unfold bB;rw [hu];rfl
  have hml : mm.length≤S.dt.length+3:=by simpa using oV _ _ _ hu
  have hdl : z.dt.length=S.dt.length:=by rw [hs.dt]
  have hzl : z.zs.length=S.ms.length:=by rw [← hs.ms,List.length_map]
  rw [show S.dt=z.dt from hs.dt.symm] at hu
  generalize hS : keys (z.E b)=S0 at h0 hm ⊢
  refine enter (n:=42) Tryz.func73 rfl rfl rfl h0 ?_
  repeat (first | refine JL.q (by first|(apply OQ.load;exact b5;rfl;exact .here;exact (Row.cell (v:=af z.qd z.dt.length) rfl))|(apply OQ.move;rfl)|(apply OQ.assign;rfl)|(apply OQ.aI;rfl)|(apply OQ.br;rfl;rfl;rfl;exact (by decide);rfl)) rfl ?_ | refine JC.seq ?_ | refine JC.region ?_ | refine JL.nil ?_ | refine JE.next ?_)
  refine JL.perm (M':=aA 5 z.qd (z.dt.map U8)++(⟨b,Row 75 z.cs,true⟩::(z.T++(z.L++z.M)))) ?_ (aG fun _ _ y=>by simp only [Pw.E,Pw.R,Pw.M,Pw.D,List.count_append,List.count_cons,List.count_nil];omega)
  refine JL.c8 (r:=[46,13,10]) z.qd Tryz.underlying22 Tryz.underlying9 fB (fun h=>by rw [ok.d h];rfl) (by rw [List.length_map];rfl) rfl (by simp) (by rw [List.length_map];show _+3≤_;omega) rfl fun p4=>?_
  rw [← List.map_append]
  have hv : aM.v ⟨some ⟨p4.1,0,none⟩,p4.2,z.dt++[46,13,10]⟩=af (some p4) ((z.dt++[46,13,10]).map U8).length:=by rw [List.length_map];rfl
  have hcu : ∀ w',aa w S0 (aA 5 (some p4) ((z.dt++[46,13,10]).map U8)++(⟨b,Row 75 z.cs,true⟩::(z.T++(z.L++z.M)))) w'→Calls Tryz.prog 76 [af (some p4) ((z.dt++[46,13,10]).map U8).length].toArray w' fun e w2=>∃ q : {q : Acc × aM // q.1=none→mm=[]},e=.returned (.tuple #[af q.1.1 mm.length,q.1.2.v,N 0])∧aa w' [] (aA 5 q.1.1 (mm.map U8)) w2:=fun w' hw'=>by
    have:=oQ ⟨some ⟨p4.1,0,none⟩,p4.2,z.dt++[46,13,10]⟩ w' (cP (q:=some p4) hw') (by simp;omega) (hm.at hw') hu
    rw [hv] at this
    exact this
  refine JL.dy (ι:={q : Acc × aM // q.1=none→mm=[]}) (vs:=[af (some p4) ((z.dt++[46,13,10]).map U8).length]) (fun q=>.tuple #[af q.1.1 mm.length,q.1.2.v,N 0]) (fun q=>aA 5 q.1.1 (mm.map U8)) mX rfl rfl ?_ ?_ ?_
  · exact fun q=>b8 _ _ _
  · intro w1 hw1
    exact hcu w1 hw1
  rintro ⟨⟨q,q2⟩,hq⟩
  dsimp only at hq ⊢
  repeat (first | refine JL.q (by first|(apply OQ.extract;rfl;rfl)|(apply OQ.move;rfl)|(apply OQ.assign;rfl)) rfl ?_ | refine JC.seq ?_ | refine JL.nil ?_ | refine JE.next ?_)
  refine JC.cR (M':=aA 5 q (mm.map U8)++(⟨b,Row 75 z.cs,true⟩::(z.T++(z.L++z.M)))) ?_ (cV (ak.refl _) (fy _ (ak.refl _)))
  refine JC.oX (M':=⟨b,Row 75 z.cs,true⟩::(aA 5 q (mm.map U8)++(z.T++(z.L++z.M)))) ?_ (aG fun _ _ y=>by simp only [Pw.E,Pw.R,Pw.M,Pw.D,List.count_append,List.count_cons,List.count_nil];omega)
  obtain ⟨mz,hmz⟩ : ∃ mz : Mz,mz=⟨z.qt,q,⟨z.fr,z.to,mm⟩,ok.t,hq⟩:=⟨_,rfl⟩
  have hb : Program.built Tryz.prog 38 [(0,Z z.fr),(1,af z.qt z.to.length),(2,af q mm.length)]=some mz.cs.toArray:=by rw [hmz];exact oZ _ _ _ _ _
  have hm3 : mz.cs.length=3:=by rw [hmz];rfl
  have hE : mz.E=z.T++aA 5 q (mm.map U8):=by rw [hmz];rfl
  let vs : Nat→Nat→Value:=fun j y=>match j with
    | 0=>Pt b 0
    | 1=>Pt b 0
    | 2=>Pt b 1
    | 3=>Z z.fr
    | 4=>Pt b 0
    | 5=>Pt b 0
    | 6=>Pt b 2
    | 7=>af z.qt z.to.length
    | 8=>af q mm.length
    | 9=>.agg mz.cs.toArray
    | 10=>Pt y 0
    | _=>N 0
  let Ms : Nat→Nat→List az:=fun j y=>match j with
    | 10=>[⟨y,Row 38 [Z [],.slice none 0 0,.slice none 0 0],true⟩]
    | 11=>[⟨y,Row 38 mz.cs,true⟩]
    | 12=>[⟨b,Row 75 z.cs,true⟩]
    | 13=>aA 5 q (mm.map U8)
    | 14=>z.T++(z.L++z.M)
    | _=>[]
  refine JC.grow (g:=⟨[(0,Pt b 0),(3,af q mm.length)],15,vs,Ms,(fun j=>match j with | 1=>[(0,17)] | 2=>[(1,18)] | 3=>[(2,19)] | 5=>[(4,21)] | 6=>[(5,22)] | 7=>[(6,23)] | 9=>[(3,20),(7,24),(8,25)] | 11=>[(10,6),(9,26)] | _=>[]),(fun j=>match j with | 3=>[12] | 7=>[12] | 11=>[10] | _=>[]),(fun j=>match j with | 11=>[10] | _=>[]),(fun j=>match j with | 11=>some 10 | _=>none)⟩) [(10,6)] [12,11,13,14] ey (by repeat (first | exact ai.nil | refine ai.cons _ _ _ rfl ?_)) ?_ (by kernel_rfl) (by kernel_rfl) (by kernel_rfl) ?_ ?_
  · show ak (Ms 12 default++(Ms 13 default++(Ms 14 default++[]))) _;rw [List.append_nil];exact ak.refl _
  · refine ⟨?_,?_,?_,?_,?_,?_,?_,?_,?_,?_,?_,?_,trivial⟩
    · (intro xx EF MF Q kk;(try refine JL.aV rfl rfl ?_);exact JL.q (OQ.move rfl) rfl (JL.nil (kk default nofun)))
    · (intro xx EF MF Q kk;(try refine JL.aV rfl rfl ?_);exact JL.q (OQ.aI rfl) rfl (JL.nil (kk default nofun)))
    · (intro xx EF MF Q kk;(try refine JL.aV rfl rfl ?_);exact JL.q (OQ.br rfl rfl rfl (by decide) rfl) rfl (JL.nil (kk default nofun)))
    · (intro xx EF MF Q kk;(try refine JL.aV rfl rfl ?_);exact JL.q (OQ.load eV rfl .here (Row.cell (v:=Z z.fr) rfl)) rfl (JL.nil (kk default nofun)))
    · (intro xx EF MF Q kk;(try refine JL.aV rfl rfl ?_);exact JL.q (OQ.move rfl) rfl (JL.nil (kk default nofun)))
    · (intro xx EF MF Q kk;(try refine JL.aV rfl rfl ?_);exact JL.q (OQ.aI rfl) rfl (JL.nil (kk default nofun)))
    · (intro xx EF MF Q kk;(try refine JL.aV rfl rfl ?_);exact JL.q (OQ.br rfl rfl rfl (by decide) rfl) rfl (JL.nil (kk default nofun)))
    · (intro xx EF MF Q kk;(try refine JL.aV rfl rfl ?_);exact JL.q (OQ.load fK rfl .here (Row.cell (v:=af z.qt z.to.length) rfl)) rfl (JL.nil (kk default nofun)))
    · (intro xx EF MF Q kk;(try refine JL.aV rfl rfl ?_);exact JL.q (OQ.move rfl) rfl (JL.nil (kk default nofun)))
    · (intro xx EF MF Q kk;(try refine JL.aV rfl rfl ?_);exact JL.q (OQ.cW (cs:=mz.cs) (vs:=[Z z.fr,af z.qt z.to.length,af q mm.length]) [0,1,2] [.tmp 20,.tmp 24,.tmp 25] rfl rfl hb) rfl (JL.nil (kk default nofun)))
    · (intro xx EF MF Q kk;exact JL.alloc (r:=[Z [],.slice none 0 0,.slice none 0 0]) ug rfl fun b1 _=>JL.nil (kk b1 nofun))
    · (intro xx EF MF Q kk;exact JL.gC (cs:=mz.cs) tP rfl rfl hm3 (rN mz) .here rfl (JL.nil (kk (xx 10) (fun k h=>by cases h;rfl))))
  · intro xx hx
    have e11:=hx 11 10 (by decide) rfl
    show JE _ _ _ _ _ [(6,Pt (xx 10) 0),(0,Pt b 0),(3,af q mm.length)] (⟨b,Row 75 z.cs,true⟩::(⟨xx 11,Row 38 mz.cs,true⟩::(aA 5 q (mm.map U8)++((z.T++(z.L++z.M))++[]))))
    rw [e11,List.append_nil]
    generalize xx 10=ba
    clear hx e11 xx vs Ms
    repeat (first | refine JL.q (by (apply OQ.move;rfl)) rfl ?_ | refine JC.seq ?_ | refine JC.region ?_ | refine JE.next ?_)
    refine JL.oY rfl rfl ?_
    repeat (first | refine JL.q (by first|(apply OQ.e7;exact Tryz.underlying22;exact (fun h=>congrArg List.length (hq h));rfl)|(apply OQ.q7 (a:=mm.length) (b:=2097152);rfl;rfl;exact (by omega))|(apply OQ.move;rfl)) rfl ?_ | refine JC.seq ?_ | refine JC.region ?_ | refine JL.nil ?_ | refine JE.next ?_)
    refine JC.cond_false rfl rfl ?_
    repeat (first | refine JC.seq ?_ | refine JC.skip ?_ | refine JE.next ?_)
    have hq7 : af z.qm z.zs.length=af z.qm (z.zs.map Mz.cs).length:=by rw [List.length_map]
    refine JC.oX (M':=⟨b,Row 75 (z.bH 1).cs,true⟩::(⟨ba,Row 38 mz.cs,true⟩::(dr 38 3 z.qm (z.zs.map Mz.cs)++(aA 5 q (mm.map U8)++(z.T++(z.L++z.zs.flatMap Mz.E)))))) ?_ (aG fun _ _ y=>by simp only [Pw.E,Pw.R,Pw.M,Pw.D,List.count_append,List.count_cons,List.count_nil];omega)
    let vs : Nat→Nat × Nat→Value:=fun j y=>match j with
      | 0=>Pt b 0
      | 1=>Pt b 0
      | 2=>Pt b 0
      | 3=>Pt b 5
      | 4=>af z.qm (z.zs.map Mz.cs).length
      | 5=>.agg mz.cs.toArray
      | 6=>.slice (some ⟨y.1,0,none⟩) 1 1
      | 7=>af (some y) (z.zs.map Mz.cs++[mz.cs]).length
      | 8=>Pt b 0
      | 9=>Pt b 5
      | _=>N 0
    let Ms : Nat→Nat × Nat→List az:=fun j y=>match j with
      | 6=>[⟨y.1,Row 38 mz.cs,true⟩]
      | 7=>dr 38 3 (some y) (z.zs.map Mz.cs++[mz.cs])
      | 10=>[⟨b,Row 75 [N 1,Z [],.slice none 0 0,af z.ql z.ln.length,.slice none 0 0,af (some y) (z.zs.map Mz.cs++[mz.cs]).length],true⟩]
      | 11=>[⟨b,Row 75 (z.bH 1).cs,true⟩]
      | 12=>[⟨ba,Row 38 mz.cs,true⟩]
      | 13=>dr 38 3 z.qm (z.zs.map Mz.cs)
      | 14=>aA 5 q (mm.map U8)++(z.T++(z.L++z.zs.flatMap Mz.E))
      | _=>[]
    refine JC.grow (g:=⟨[(0,Pt b 0),(6,Pt ba 0)],15,vs,Ms,(fun j=>match j with | 2=>[(1,33)] | 3=>[(2,34)] | 4=>[(3,35)] | 6=>[(5,37)] | 7=>[(4,36),(6,38)] | 8=>[(0,32)] | 9=>[(8,40)] | 10=>[(9,41),(7,39)] | _=>[]),(fun j=>match j with | 4=>[11] | 5=>[12] | 7=>[6,13] | 10=>[11] | _=>[]),(fun j=>match j with | 7=>[6,13] | 10=>[11] | _=>[]),(fun j=>match j with | 10=>some 7 | _=>none)⟩) [] [10,7,12,14] ey (by repeat (first | exact ai.nil | refine ai.cons _ _ _ rfl ?_)) ?_ (by kernel_rfl) (by kernel_rfl) (by kernel_rfl) ?_ ?_
    · show ak (Ms 11 default++(Ms 12 default++(Ms 13 default++(Ms 14 default++[])))) _;rw [List.append_nil];exact ak.refl _
    · refine ⟨?_,?_,?_,?_,?_,?_,?_,?_,?_,?_,?_,trivial⟩
      · (intro xx EF MF Q kk;(try refine JL.aV rfl rfl ?_);exact JL.q (OQ.move rfl) rfl (JL.nil (kk default nofun)))
      · (intro xx EF MF Q kk;(try refine JL.aV rfl rfl ?_);exact JL.q (OQ.move rfl) rfl (JL.nil (kk default nofun)))
      · (intro xx EF MF Q kk;(try refine JL.aV rfl rfl ?_);exact JL.q (OQ.aI rfl) rfl (JL.nil (kk default nofun)))
      · (intro xx EF MF Q kk;(try refine JL.aV rfl rfl ?_);exact JL.q (OQ.br rfl rfl rfl (by decide) rfl) rfl (JL.nil (kk default nofun)))
      · (intro xx EF MF Q kk;(try refine JL.aV rfl rfl ?_);exact JL.q (OQ.to (OQ.load qM rfl .here (Row.cell (v:=af z.qm z.zs.length) rfl)) hq7) rfl (JL.nil (kk default nofun)))
      · (intro xx EF MF Q kk;(try refine JL.aV rfl rfl ?_);exact JL.q (OQ.iW (cs:=mz.cs) tj tP rfl .here hm3 Row.all) rfl (JL.nil (kk default nofun)))
      · (intro xx EF MF Q kk;exact JL.s6 (cs:=mz.cs) Tryz.underlying31 sW rfl (by decide) (by decide) rfl hm3 rfl fun b1 _=>JL.nil (kk (b1,0) nofun))
      · (intro xx EF MF Q kk;refine JL.perm (M':=⟨(xx 6).1,Row 38 mz.cs,true⟩::(dr 38 3 z.qm (z.zs.map Mz.cs)++MF)) ?_ (List.Perm.of_eq (by show (Ms 6 (xx 6)++(Ms 13 (xx 13)++[]))++MF=_;simp [Ms]));exact JL.pY (c:=mz.cs) z.qm Tryz.underlying31 sW (fun h=>by rw [ok.m h];rfl) rfl rfl hm3 (o3 mz) rfl (by decide) (by rw [List.length_map];omega) (by rw [List.length_map];omega) rfl fun b' cap'=>JL.nil (kk (b',cap') nofun))
      · (intro xx EF MF Q kk;(try refine JL.aV rfl rfl ?_);exact JL.q (OQ.aI rfl) rfl (JL.nil (kk default nofun)))
      · (intro xx EF MF Q kk;(try refine JL.aV rfl rfl ?_);exact JL.q (OQ.br rfl rfl rfl (by decide) rfl) rfl (JL.nil (kk default nofun)))
      · (intro xx EF MF Q kk;exact JL.bJ (b:=b) (r:=(z.bH 1).cs) (r':=[N 1,Z [],.slice none 0 0,af z.ql z.ln.length,.slice none 0 0,af (some (xx 7)) (z.zs.map Mz.cs++[mz.cs]).length]) sE rfl rfl rfl rfl .here (show 5<6 by decide) rfl (JL.nil (kk (xx 7) (fun k h=>by cases h;rfl))))
    · intro xx hx
      have e10:=hx 10 7 (by decide) rfl
      show JE _ _ _ _ _ [(0,Pt b 0),(6,Pt ba 0)] (⟨b,Row 75 [N 1,Z [],.slice none 0 0,af z.ql z.ln.length,.slice none 0 0,af (some (xx 10)) (z.zs.map Mz.cs++[mz.cs]).length],true⟩::(⟨(xx 7).1,Sl.aY 38 3 (z.zs.map Mz.cs++[mz.cs]).length (xx 7).2 (z.zs.map Mz.cs++[mz.cs]).flatten,true⟩::(⟨ba,Row 38 mz.cs,true⟩::((aA 5 q (mm.map U8)++(z.T++(z.L++z.zs.flatMap Mz.E)))++[]))))
      rw [e10,List.append_nil]
      generalize xx 7=y
      clear hx e10 xx vs Ms
      rw [show z.zs.map Mz.cs++[mz.cs]=(z.zs++[mz]).map Mz.cs by simp]
      rw [List.length_map]
      repeat (first | refine JL.q (by (apply OQ.assign;rfl)) rfl ?_ | refine JC.seq ?_ | refine JC.region ?_ | refine JL.nil ?_ | refine JE.next ?_)
      refine JC.ret ?_
      skip
      refine JE.av rfl (RV.tmp rfl) fun w' hw=>⟨⟨1,[],none,[],z.ql,z.ln,none,[],some y,z.zs++[mz]⟩,⟨⟨fun _=>rfl,ok.l,fun _=>rfl,nofun⟩,⟨rfl,rfl,rfl,eJ hn hs _ hn,rfl,?_⟩⟩,rfl,?_⟩
      · rw [List.map_append,hs.ms,hmz]
        show S.ms++[⟨z.fr,z.to,mm⟩]=S.ms++[⟨S.fr,S.to,bB S.dt⟩]
        rw [hs.fr,hs.to,hmo]
      · have hw2 : aa w S0 (⟨b,Row 75 (Pw.cs ⟨1,[],none,[],z.ql,z.ln,none,[],some y,z.zs++[mz]⟩),true⟩::(dr 38 3 (some y) ((z.zs++[mz]).map Mz.cs)++(⟨ba,Row 38 mz.cs,true⟩::(aA 5 q (mm.map U8)++(z.T++(z.L++z.zs.flatMap Mz.E)))))) w':=by
          unfold dr
          rw [List.length_map]
          exact hw
        refine (hw2.perm' (M':=⟨ba,Row 38 mz.cs,true⟩::(Pw.E b ⟨1,[],none,[],z.ql,z.ln,none,[],some y,z.zs++[mz]⟩)) ?_).weak (.drop _ _ _ (ak.refl _))
        have hF : (z.zs++[mz]).flatMap Mz.E=z.zs.flatMap Mz.E++(z.T++aA 5 q (mm.map U8)):=by rw [List.flatMap_append,← hE];simp
        have hR : Pw.R ⟨1,[],none,[],z.ql,z.ln,none,[],some y,z.zs++[mz]⟩=z.L++(dr 38 3 (some y) ((z.zs++[mz]).map Mz.cs)++(z.zs++[mz]).flatMap Mz.E):=rfl
        unfold Pw.E
        rw [hR,hF]
        exact aG fun _ _ x=>by simp only [List.count_append,List.count_cons];omega
end de
end
section
set_option maxRecDepth 10000
open Sl aq
def sR (l : List Bt) : List Int:=l.map fun c=>(c.toNat : Int)
theorem rO (l : List Bt) : Go.Lib.bytesOf (sR l)=aq.bx l:=by
  unfold Go.Lib.bytesOf sR aq.bx
  rw [List.map_map]
  refine List.map_congr_left fun c _=>?_
  show UInt8.ofNat ((c.toNat : Int)).toNat=_
  rw [Int.toNat_natCast]
  apply UInt8.toBitVec_inj.1
  exact BitVec.eq_of_toNat_eq (by simp)
theorem o5 (c : aq.By) : ∀ l : List aq.By,Go.Lib.indexByte (aq.bx l) (UInt8.ofBitVec c)=ep c l
  | []=>rfl
  | d::r=>by
    show (if (UInt8.ofBitVec d == UInt8.ofBitVec c) then 0 else if Go.Lib.indexByte (aq.bx r) (UInt8.ofBitVec c) == -1 then -1 else Go.Lib.indexByte (aq.bx r) (UInt8.ofBitVec c)+1 : Int)=_
    rw [o5 c r]
    unfold ep
    rw [bR]
    have hb : (UInt8.ofBitVec d == UInt8.ofBitVec c)=decide (d=c):=by
      by_cases h : d=c
      · subst h;simp
      · rw [decide_eq_false h]
        exact beq_eq_false_iff_ne.2 fun k=>h (congrArg UInt8.toBitVec k)
    rw [hb]
    by_cases hd : d=c
    · simp [hd]
    · simp only [hd,decide_false,Bool.false_eq_true,if_false,List.length_cons,Nat.add_lt_add_iff_right]
      by_cases h : fi c r<r.length
      · simp only [h,if_true]
        rw [if_neg (by rw [beq_iff_eq];omega)]
        omega
      · simp only [h,if_false]
        rfl
theorem OQ.tD {P : Program} {n : Nat} {E : Env} {w0 : World} {S : List Nat} {M : List az} {dst : Option Tmp} {ty : TypeId} {pos : String} {aft : Array Edge} {g : Option (Nat × Bool)} {f : FuncId} {ats : Array TypeId} {x y : Operand} {s : aM} {c : Bt} (hf : iy P f) (hx : ev E x=some s.v) (hy : ev E y=some (U8 c)) (hs : ∀ w,aa w0 S M w→s.ok w) :
    OQ P n E (aa w0 S M) ⟨dst,.call ⟨.value (.func f),#[x,y],ats⟩,ty,pos,aft,g⟩ (I (ep c s.l)):=by
  refine ⟨fun ac hk w hw=>?_⟩
  obtain ⟨fn,h1,h2,h3,h4,h5⟩:=hf.go
  have hc : ((c.toNat : Int)).toNat.toUInt8=UInt8.ofBitVec c:=by
    rw [Int.toNat_natCast]
    apply UInt8.toBitVec_inj.1
    apply BitVec.eq_of_toNat_eq
    simp [Nat.toUInt8,UInt8.ofNat]
  have hr : (Extern.BytealgIndexByte.indexByte #[s.v,U8 c]).run P w=.ok (I (ep c s.l)) w:=by
    have ok:=hs w hw
    obtain ⟨ad,cap,l⟩:=s
    cases ad with
    | none=>
      have h0 : l=[]:=by
        cases l with
        | nil=>rfl
        | cons d l=>
          obtain ⟨b,j,k1,_⟩:=ok.reads.at (by simp)
          cases k1
      subst h0
      exact Lib.run_indexByteNil w 0 cap (c.toNat : Int)
    | some a=>
      have:=Lib.run_indexByteAt (P:=P) w a l.length cap (sR l) (by unfold sR;rw [List.length_map]) (fun i hi=>by
        obtain ⟨b,j,k1,k2⟩:=ok.reads _ _ (fo U8 0 hi)
        cases k1
        rw [bf,k2]
        unfold sR
        rw [List.getD_eq_getElem?_getD,List.getD_eq_getElem?_getD,List.getElem?_map,List.getElem?_eq_getElem hi]
        rfl) (c.toNat : Int)
      rw [rO,hc,o5] at this
      exact this
  have r:=run_callFunc_extern h1 h2 h3 h4 h5 #[s.v,U8 c] w
  rw [hr] at r
  unfold Oper.quietAt
  have r' : (execOp ac.eval ⟨dst,.call ⟨.value (.func f),#[x,y],ats⟩,ty,pos,aft,g⟩).run P w=.ok (.value (I (ep c s.l))) w:=by
    simp only [Result.andThen] at r
    have k1:=hk.eval hx
    have k2:=hk.eval hy
    have e : (.ok (.value (I (ep c s.l))) w : Result Next)=(callFunc f #[s.v,U8 c]).run P w:=r.symm
    rw [e]
    simp [execOp,resolve,Sem.run_bind,Act.eval,Deferred.ofValue,invoke,k1,k2]
    simp [Act.eval] at k1 k2
    simp [k1,k2]
  rw [r']
  exact ⟨rfl,rfl⟩
theorem qB : iy Tryz.prog 102:=⟨_,Tryz.func102,rfl,rfl,by kernel_rfl,by kernel_rfl⟩
theorem o6 (s : aM) (c : Bt) (w : World) (hs : s.ok w) : Calls Tryz.prog 70 [s.v,U8 c].toArray w fun e w'=>e=.returned (I (ep c s.l))∧Ext w w':=by
  refine enter (n:=8) Tryz.func70 rfl rfl rfl (aa.start w []) ?_
  repeat (first | refine JL.q (by first|(apply OQ.tD;exact qB;rfl;rfl;exact (fun w' hw'=>hs.holds hw' rfl))|(apply OQ.move;rfl)|(apply OQ.assign;rfl)) rfl ?_ | refine JC.seq ?_ | refine JC.region ?_ | refine JL.nil ?_ | refine JE.next ?_)
  exact JC.ret (JE.av rfl (RV.tmp rfl) fun w' hw=>⟨rfl,hw.aE⟩)
end
section
set_option maxRecDepth 10000
open Sl aq
namespace de
theorem JC.o7 {P : Program} {n : Nat} {w0 : World} {S : List Nat} {Q : Exit→Act→World→Prop} {E : Env} {M : List az} {F : Prop} {c : Code} (h : ∀ w,aa w0 S M w→F) (k : F→JC P n w0 S Q c E M) : JC P n w0 S Q c E M:=⟨fun a w ha hw=>(k (h w hw)).go a w ha hw⟩
def cl (s : aM) (S : List Nat) : Prop:=s.l≠[]→∀ a,s.ad=some a→a.block ∉ S
theorem qW {w0 w : World} {S : List Nat} {M : List az} {s : aM} (h : s.ok w0) (hw : aa w0 S M w) (ha : cl s S) : s.ok w:=
  ⟨h.len,hw.reads h.reads fun h0 a e=>ha (fun h1=>h0 (by rw [h1];rfl)) a e⟩
theorem o8 (l : List Bt) : (tr l).length≤l.length:=by
  unfold tr
  split
  · rw [List.length_append,List.length_take,List.length_drop];omega
  · exact Nat.le_refl _
theorem rP (l x : List Bt) : tr (tr l++x)=tr (l++x):=by
  by_cases h : 515<l.length
  · have e : tr l=l.take 513++l.drop (l.length - 2):=if_pos h
    rw [e]
    have h1 : (l.take 513).length=513:=by rw [List.length_take];omega
    have h2 : (l.drop (l.length - 2)).length=2:=by rw [List.length_drop];omega
    have hl : l=l.take (l.length - 2)++l.drop (l.length - 2):=(List.take_append_drop _ _).symm
    unfold tr
    rw [if_pos (show 515<(l++x).length by rw [List.length_append];omega)]
    have h3 : (l++x).take 513=l.take 513:=by rw [List.take_append_of_le_length (by omega)]
    have h4 : (l++x).drop ((l++x).length - 2)=(l.drop (l.length - 2)++x).drop x.length:=by
      have e2 : (l++x).length - 2=(l.take (l.length - 2)).length+x.length:=by rw [List.length_append,List.length_take];omega
      rw [e2]
      have e3 : l++x=l.take (l.length - 2)++(l.drop (l.length - 2)++x):=by rw [← List.append_assoc,← hl]
      rw [e3,← List.drop_drop,List.drop_left]
    rw [h3,h4]
    by_cases hx : x=[]
    · subst hx
      rw [if_neg (by simp only [List.length_append,h1,h2,List.length_nil];omega)]
      simp
    · have hx1 : 0<x.length:=List.length_pos_iff.2 hx
      rw [if_pos (by simp only [List.length_append,h1,h2];omega)]
      have h5 : (l.take 513++l.drop (l.length - 2)++x).take 513=l.take 513:=by
        rw [List.append_assoc,List.take_append_of_le_length (by omega),List.take_of_length_le (by omega)]
      have h6 : (l.take 513++l.drop (l.length - 2)++x).drop ((l.take 513++l.drop (l.length - 2)++x).length - 2)=(l.drop (l.length - 2)++x).drop x.length:=by
        have e2 : (l.take 513++l.drop (l.length - 2)++x).length - 2=(l.take 513).length+x.length:=by simp only [List.length_append,h1,h2];omega
        rw [e2,List.append_assoc,← List.drop_drop,List.drop_left]
      rw [h5,h6]
  · rw [show tr l=l from if_neg h]
def mo (st : Nat) : Nat:=if st=4 then 4194304 else 513
def kw (M : Nat) (l : List Bt) : Nat:=if fi 10 (l.take (min l.length M))<(l.take (min l.length M)).length then fi 10 (l.take (min l.length M))+1 else (l.take (min l.length M)).length
theorem qX (M : Nat) (l : List Bt) : kw M l≤min l.length M:=by
  have:=jt 10 (l.take (min l.length M))
  have h2 : (l.take (min l.length M)).length=min l.length M:=by rw [List.length_take];omega
  unfold kw
  split <;> omega
theorem qY (M : Nat) (l : List Bt) : kw M l≤l.length:=by have:=qX M l;omega
theorem rQ {M : Nat} {l : List Bt} (h : 0<l.length) (hM : 0<M) : 0<kw M l:=by
  have h2 : (l.take (min l.length M)).length=min l.length M:=by rw [List.length_take];omega
  unfold kw
  split <;> omega
theorem sS (M : Nat) (l : List Bt) : ∀ c ∈ (l.take (kw M l)).dropLast,c≠10:=by
  have hk:=qX M l
  have h2 : (l.take (min l.length M)).length=min l.length M:=by rw [List.length_take];omega
  have e : l.take (kw M l)=(l.take (min l.length M)).take (kw M l):=by rw [List.take_take,Nat.min_eq_left hk]
  rw [e]
  unfold kw at hk ⊢
  generalize l.take (min l.length M)=p at hk h2 ⊢
  by_cases hf : fi 10 p<p.length
  · rw [if_pos hf,List.dropLast_eq_take,List.length_take,Nat.min_eq_left (by omega),Nat.add_sub_cancel,List.take_take,Nat.min_eq_left (by omega)]
    intro c hc
    obtain ⟨j,hj⟩:=List.getElem?_of_mem hc
    have hlt:=(List.getElem?_eq_some_iff.1 hj).1
    rw [List.length_take] at hlt
    rw [List.getElem?_take_of_lt (by omega)] at hj
    have:=dh 10 p (j:=j) (by omega)
    rw [List.getD_eq_getElem?_getD,hj] at this
    exact this
  · rw [if_neg hf]
    intro c hc e10
    rw [List.take_length] at hc
    have hm : c ∈ p:=List.dropLast_subset _ hc
    rw [e10] at hm
    exact hf ((qN 10 p).2 hm)
theorem mY : aC Tryz.prog 32:=⟨_,Tryz.func32,rfl,by kernel_rfl⟩
theorem gh : aC Tryz.prog 70:=⟨_,Tryz.func70,rfl,by kernel_rfl⟩
theorem eO : dM Tryz.prog 5=some 1:=by kernel_rfl
theorem o9 {n lc : Nat} {L : List Bt} (h : 515<L.length) (hn : L.length=n) : ∀ o,Sl.aY 5 1 n lc ((L.map U8).take (513 * 1)++(L.map U8).drop (n - 2)++(L.map U8).drop (513 * 1+2 * 1)) o→Sl.aY 5 1 515 lc ((tr L).map U8) o:=by
  intro o ho
  have:=nN (j:=515) (by omega) o ho
  rw [show tr L=L.take 513++L.drop (L.length - 2) from if_pos h,hn,List.map_append,List.map_take,List.map_drop]
  rw [List.take_append_of_le_length (by simp only [List.length_append,List.length_take,List.length_drop,List.length_map];omega),List.take_of_length_le (by simp only [List.length_append,List.length_take,List.length_drop,List.length_map];omega)] at this
  exact this
theorem pe (lb lc : Nat) (L : List Bt) (m : Nat) (h : m<lc) : aM.v (aM.snd ⟨some ⟨lb,0,none⟩,lc,L⟩ m)=.slice (some ⟨lb,m,none⟩) (L.length - m) (lc - m):=by
  unfold aM.v aM.snd
  rw [if_neg (by show ¬ lc=m;omega),List.length_drop]
  simp [Addr.add]
  intro h
  exact h.symm
theorem pg (lb lc : Nat) (L : List Bt) (m : Nat) (h : m≤L.length) : aM.v (aM.fst ⟨some ⟨lb,0,none⟩,lc,L⟩ m)=.slice (some ⟨lb,0,none⟩) m lc:=by
  unfold aM.v aM.fst
  rw [List.length_take,Nat.min_eq_left h]
  by_cases h0 : lc=0
  · rw [if_pos h0]
  · rw [if_neg h0];simp [Addr.add]
def pn (b : Nat) (S : Po) (s : aM) (S0 : List Nat) (w : World) : Ending→World→Prop:=fun e w'=>∃ z : Pw,(z.ok∧z.is ⟨S.st,S.fr,S.to,S.ln++s.l.take (kw (mo S.st) s.l),S.dt,S.ms⟩)∧e=.returned (s.snd (kw (mo S.st) s.l)).v∧aa w S0 (z.E b) w'
set_option maxHeartbeats 16000000 in
theorem pq (b : Nat) (z : Pw) (S : Po) (ok : z.ok) (hs : z.is S) (s : aM) (hpos : 0<s.l.length) (hsz : S.ln.length+s.l.length≤1000000) (w : World) (hok : s.ok w) (haw : cl s (keys (z.E b))) (h0 : aa w (keys (z.E b)) (z.E b) w) : Calls Tryz.prog 32 [Pt b 0,s.v].toArray w (pn b S s (keys (z.E b)) w):=by
  have hlen:=hok.len
  have hzl : z.ln.length≤S.ln.length:=by
    rw [hs.ln]
    unfold ku
    split
    · exact Nat.le_refl _
    · exact o8 _
  have cmo : ∀ (S1 : List Nat) (w' : World),aa w S1 (z.E b) w'→Calls Tryz.prog 69 [Pt b 0].toArray w' fun e w2=>e=.returned (N (mo S.st))∧Ext w' w2:=fun S1 w' hw'=>by
    have:=qq b z w' ((dU hw').weak (.keep _ _ _ _ _ _ (fun _ h=>h) (.nil _)))
    rw [hs.st] at this
    exact this
  have hln : ∀ x : List Bt,(S.st=4→z.ln++x=ku ⟨S.st,S.fr,S.to,S.ln++x,S.dt,S.ms⟩)∧(¬ S.st=4→tr (z.ln++x)=ku ⟨S.st,S.fr,S.to,S.ln++x,S.dt,S.ms⟩):=fun x=>by
    refine ⟨fun h=>?_,fun h=>?_⟩
    · rw [hs.ln]
      unfold ku
      rw [if_pos h,if_pos h]
    · rw [hs.ln]
      unfold ku
      rw [if_neg h,if_neg h]
      exact rP _ _
  have hM4 : S.st=4→mo S.st=4194304:=fun h=>if_pos h
  have hM5 : ¬ S.st=4→mo S.st=513:=fun h=>if_neg h
  have hMp : 513≤mo S.st∧mo S.st≤4194304:=by unfold mo;split <;> omega
  generalize hS : keys (z.E b)=S0 at h0 haw ⊢
  unfold pn
  have hkl:=qY (mo S.st) s.l
  have hkd : kw (mo S.st) s.l=if fi 10 (s.fst (min s.l.length (mo S.st))).l<(s.fst (min s.l.length (mo S.st))).l.length then fi 10 (s.fst (min s.l.length (mo S.st))).l+1 else (s.fst (min s.l.length (mo S.st))).l.length:=rfl
  generalize kw (mo S.st) s.l=k at hkl hkd ⊢
  generalize mo S.st=M at cmo hM4 hM5 hMp hkd ⊢
  have cmo':=cmo S0
  have hfl : (s.fst (min s.l.length M)).l.length=min s.l.length M:=by show (s.l.take _).length=_;rw [List.length_take];omega
  refine enter (n:=63) Tryz.func32 rfl rfl rfl h0 ?_
  repeat (first | refine JL.q (by first|(apply OQ.ah (vs:=[Pt b 0]);exact oy;rfl;exact (fun w' hw'=>cmo' w' hw'))|(apply OQ.len (k:=s.l.length) (ad:=s.ad) (cap:=s.cap);exact Tryz.underlying22;rfl)|(apply OQ.s8 (a:=s.l.length) (c:=M);rfl;rfl)|(apply OQ.fst (s:=s) (m:=min s.l.length M);exact Tryz.underlying22;exact eO;rfl;rfl;exact (Nat.min_le_left _ _);exact hlen)|(apply OQ.move;rfl)|(apply OQ.assign;rfl)) rfl ?_ | refine JC.seq ?_ | refine JC.region ?_ | refine JL.nil ?_ | refine JE.next ?_)
  have hy0 : ∀ w',s.ok w'→(s.fst (min s.l.length M)).ok w':=fun w' h=>h.fst _
  have hy0l : (s.fst (min s.l.length M)).l=s.l.take (min s.l.length M):=rfl
  generalize s.fst (min s.l.length M)=y0 at hkd hfl hy0 hy0l ⊢
  have hix0 : ∀ w',aa w S0 (z.E b) w'→Calls Tryz.prog 70 [y0.v,U8 10].toArray w' fun e w2=>e=.returned (I (ep 10 y0.l))∧Ext w' w2:=fun w' hw'=>o6 y0 10 w' (hy0 w' (qW hok hw' haw))
  by_cases hf : fi 10 y0.l<y0.l.length
  · rw [if_pos hf] at hkd
    rw [show ep 10 y0.l=(fi 10 y0.l : Nat) from if_pos hf] at hix0
    have hge : decide ((0 : Int)≤((fi 10 y0.l : Nat) : Int))=true:=decide_eq_true (by omega)
    generalize fi 10 y0.l=kf at hf hkd hix0 hge ⊢
    repeat (first | refine JL.q (by first|(apply OQ.ah (vs:=[y0.v,U8 10]);exact gh;rfl;exact hix0)|(apply OQ.bK (a:=(kf : Int)) (b:=0);rfl;rfl;exact hge)|(apply OQ.move;rfl)|(apply OQ.assign;rfl)) rfl ?_ | refine JC.seq ?_ | refine JC.region ?_ | refine JL.nil ?_ | refine JE.next ?_)
    refine JC.cond_true rfl rfl ?_
    repeat (first | refine JL.q (by first|(apply OQ.cr (a:=kf) (b:=1);rfl;rfl;exact (by omega))|(apply OQ.fst (s:=y0) (m:=kf+1);exact Tryz.underlying22;exact eO;rfl;rfl;exact (by omega);exact (hy0 w hok).len)|(apply OQ.move;rfl)|(apply OQ.assign;rfl)|(apply OQ.aI;rfl)|(apply OQ.br;rfl;rfl;rfl;exact (by decide);rfl)) rfl ?_ | refine JC.seq ?_ | refine JC.region ?_ | refine JL.nil ?_ | refine JE.next ?_)
    have hy1 : ∀ w',s.ok w'→(y0.fst (kf+1)).ok w':=fun w' h=>(hy0 w' h).fst _
    have hy1l : (y0.fst (kf+1)).l=s.l.take k:=by show y0.l.take (kf+1)=_;rw [hy0l,List.take_take,hkd,Nat.min_eq_left (by omega)]
    generalize y0.fst (kf+1)=y at hy1 hy1l ⊢
    have hyn : y.l.length=k:=by rw [hy1l,List.length_take];omega
    repeat (refine JL.q (by first|(apply OQ.load;exact b5;rfl;exact .here;exact (Row.cell (v:=af z.ql z.ln.length) rfl))|(apply OQ.move;rfl)) rfl ?_)
    refine JL.perm (M':=aA 5 z.ql (z.ln.map U8)++(⟨b,Row 75 z.cs,true⟩::(z.T++(z.D++z.M)))) ?_ (aG fun _ _ y=>by simp only [Pw.E,Pw.R,Pw.L,List.count_append,List.count_cons,List.count_nil];omega)
    refine JL.dV (cs:=y.l.map U8) (m:=y.l.length) (ad:=y.ad) (sc:=y.cap) z.ql Tryz.underlying22 fB (fun h=>by rw [ok.l h];rfl) (by rw [List.length_map];rfl) rfl (by rw [List.length_map]) (fun w' hw'=>(hy1 w' (qW hok hw' haw)).reads) (fz _) rfl (by rw [List.length_map];omega) (by rw [List.length_map];omega) rfl fun q3 hq3=>?_
    have hq3' : q3=none→z.ln++y.l=[]:=fun h=>by
      have:=hq3 h
      rw [← List.map_append] at this
      exact List.map_eq_nil_iff.1 this
    clear hq3
    rw [← List.map_append,List.length_map]
    have hLl : (z.ln++y.l).length≤1000000:=by rw [List.length_append];omega
    have hlx:=hln y.l
    rw [hy1l] at hlx
    generalize hL : z.ln++y.l=L at hq3' hLl ⊢
    rw [← hy1l,hL,hy1l] at hlx
    have hq3:=hq3'
    refine JL.perm (M':=⟨b,Row 75 z.cs,true⟩::(aA 5 q3 (L.map U8)++(z.T++(z.D++z.M)))) ?_ (aG fun _ _ y=>by simp only [Pw.E,Pw.R,Pw.L,List.count_append,List.count_cons,List.count_nil];omega)
    repeat (refine JL.q (by first|(apply OQ.aI;rfl)|(apply OQ.br;rfl;rfl;rfl;exact (by decide);rfl)) rfl ?_)
    refine JL.nR q3 L rfl rfl ?_
    by_cases hbig : M<L.length - 2
    · have h4 : ¬ S.st=4:=fun h=>by have:=hM4 h;omega
      have hM:=hM5 h4
      subst hM
      repeat (first | refine JL.q (by first|(apply OQ.load;exact b5;rfl;exact .here;exact (Row.cell (v:=af q3 L.length) rfl))|(apply OQ.e7;exact Tryz.underlying22;exact (fun h=>congrArg List.length (hq3 h));rfl)|(apply OQ.hO (a:=L.length) (b:=2);rfl;rfl;exact (by omega);exact (by omega))|(apply OQ.nA (a:=L.length - 2) (b:=513);rfl;rfl;exact hbig)|(apply OQ.move;rfl)|(apply OQ.assign;rfl)|(apply OQ.aI;rfl)|(apply OQ.br;rfl;rfl;rfl;exact (by decide);rfl)) rfl ?_ | refine JC.seq ?_ | refine JC.region ?_ | refine JL.nil ?_ | refine JE.next ?_)
      refine JC.cond_true rfl rfl ?_
      obtain ⟨⟨lb,lc⟩,rfl⟩ : ∃ p,q3=some p:=by
        cases q3 with
        | none=>rw [hq3 rfl] at hbig;simp at hbig
        | some p=>exact ⟨p,rfl⟩
      obtain ⟨n,hn⟩ : ∃ n,L.length=n:=⟨_,rfl⟩
      refine JC.o7 (F:=n≤lc) (fun w' hw'=>?_) fun hlc=>?_
      · obtain ⟨o,_,sp,_,_,_,h3⟩:=hw'.get (b:=lb) (A:=Sl.aY 5 1 (L.map U8).length lc (L.map U8)) (wr:=true) (.there .here)
        rw [List.length_map,hn] at h3
        exact h3
      have hv6 : aM.v (aM.fst ⟨some ⟨lb,0,none⟩,lc,L⟩ 513)=.slice (some ⟨lb,0,none⟩) 513 lc:=pg lb lc L 513 (by omega)
      have hv12 : aM.v (aM.snd ⟨some ⟨lb,0,none⟩,lc,L⟩ (n - 2))=.slice (some ⟨lb,n - 2,none⟩) 2 (lc - (n - 2)):=by
        rw [pe lb lc L (n - 2) (by omega),hn,show n - (n - 2)=2 by omega]
      have hvL : aM.v ⟨some ⟨lb,0,none⟩,lc,L⟩=af (some (lb,lc)) L.length:=rfl
      have hd2 : ((L.map U8).drop (n - 2)).length=2 * 1:=by rw [List.length_drop,List.length_map,hn];omega
      have hbn : 513<n - 2:=by omega
      rw [hn]
      have hrd : ∀ {u w1 : World} {S1 : List Nat} {M1 : List az},aa u S1 (⟨lb,Sl.aY 5 1 n lc (L.map U8),true⟩::M1) w1→Reads w1 (some ⟨lb,n - 2,none⟩) ((L.map U8).drop (n - 2)):=fun {u w1 S1 M1} hw=>by
        have h1 : aM.ok w1 ⟨some ⟨lb,0,none⟩,lc,L⟩:=cP (q:=some (lb,lc)) (M:=M1) (by show aa _ _ (⟨lb,Sl.aY 5 1 (L.map U8).length lc (L.map U8),true⟩::M1) _;rw [List.length_map,hn];exact hw)
        have h2:=(h1.snd (n - 2) (by show n - 2≤L.length;omega)).reads
        have h3 : (aM.snd ⟨some ⟨lb,0,none⟩,lc,L⟩ (n - 2)).ad=some ⟨lb,n - 2,none⟩:=by
          have:=hv12
          unfold aM.v at this
          injection this
        rw [h3] at h2
        show Reads w1 _ _
        rw [← List.map_drop]
        exact h2
      let vs : Nat→Nat→Value:=fun j y=>match j with
        | 0=>Pt b 0
        | 1=>Pt b 0
        | 2=>Pt b 0
        | 3=>Pt b 3
        | 4=>.slice (some ⟨lb,0,none⟩) n lc
        | 5=>N 513
        | 6=>.slice (some ⟨lb,0,none⟩) 513 lc
        | 7=>Pt b 0
        | 8=>Pt b 0
        | 9=>Pt b 3
        | 10=>.slice (some ⟨lb,0,none⟩) n lc
        | 11=>N (n - 2)
        | 12=>.slice (some ⟨lb,n - 2,none⟩) 2 (lc - (n - 2))
        | 13=>.slice (some ⟨lb,0,none⟩) 515 lc
        | 14=>Pt b 0
        | 15=>Pt b 3
        | _=>N 0
      let Ms : Nat→Nat→List az:=fun j y=>match j with
        | 13=>[⟨lb,Sl.aY 5 1 n lc ((L.map U8).take (513 * 1)++(L.map U8).drop (n - 2)++(L.map U8).drop (513 * 1+2 * 1)),true⟩]
        | 16=>[⟨b,Row 75 [N z.st,Z z.fr,af z.qt z.to.length,af (some (lb,lc)) 515,af z.qd z.dt.length,af z.qm z.zs.length],true⟩]
        | 17=>[⟨b,Row 75 [N z.st,Z z.fr,af z.qt z.to.length,af (some (lb,lc)) n,af z.qd z.dt.length,af z.qm z.zs.length],true⟩]
        | 18=>[⟨lb,Sl.aY 5 1 n lc (L.map U8),true⟩]
        | 19=>(z.T++(z.D++z.M))
        | _=>[]
      refine JC.grow (g:=⟨[(0,Pt b 0),(5,N 513),(8,N (n - 2)),(1,s.v),(6,y.v)],20,vs,Ms,(fun j=>match j with | 2=>[(1,44)] | 3=>[(2,45)] | 4=>[(3,46)] | 6=>[(4,47),(5,48)] | 8=>[(7,50)] | 9=>[(8,51)] | 10=>[(9,52)] | 12=>[(10,53),(11,54)] | 13=>[(6,49),(12,55)] | 14=>[(0,43)] | 15=>[(14,57)] | 16=>[(15,58),(13,56)] | _=>[]),(fun j=>match j with | 4=>[17] | 10=>[17] | 13=>[18] | 16=>[17] | _=>[]),(fun j=>match j with | 13=>[18] | 16=>[17] | _=>[]),(fun j=>match j with | _=>none)⟩) [] [16,13,19] ey (by repeat (first | exact ai.nil | refine ai.cons _ _ _ rfl ?_)) ?_ (by kernel_rfl) (by kernel_rfl) (by kernel_rfl) ?_ ?_
      · show ak (⟨b,Row 75 [N z.st,Z z.fr,af z.qt z.to.length,af (some (lb,lc)) n,af z.qd z.dt.length,af z.qm z.zs.length],true⟩::(⟨lb,Sl.aY 5 1 n lc (L.map U8),true⟩::((z.T++(z.D++z.M))++[]))) _;rw [List.append_nil,← hn];show ak _ (⟨b,Row 75 [N z.st,Z z.fr,af z.qt z.to.length,af (some (lb,lc)) L.length,af z.qd z.dt.length,af z.qm z.zs.length],true⟩::(⟨lb,Sl.aY 5 1 (L.map U8).length lc (L.map U8),true⟩::(z.T++(z.D++z.M))));rw [List.length_map];exact ak.refl _
      · refine ⟨?_,?_,?_,?_,?_,?_,?_,?_,?_,?_,?_,?_,?_,?_,?_,?_,?_,trivial⟩
        · (intro xx EF MF Q kk;(try refine JL.aV rfl rfl ?_);exact JL.q (OQ.move rfl) rfl (JL.nil (kk default nofun)))
        · (intro xx EF MF Q kk;(try refine JL.aV rfl rfl ?_);exact JL.q (OQ.move rfl) rfl (JL.nil (kk default nofun)))
        · (intro xx EF MF Q kk;(try refine JL.aV rfl rfl ?_);exact JL.q (OQ.aI rfl) rfl (JL.nil (kk default nofun)))
        · (intro xx EF MF Q kk;(try refine JL.aV rfl rfl ?_);exact JL.q (OQ.br rfl rfl rfl (by decide) rfl) rfl (JL.nil (kk default nofun)))
        · (intro xx EF MF Q kk;(try refine JL.aV rfl rfl ?_);exact JL.q (OQ.load b5 rfl .here (Row.cell (v:=.slice (some ⟨lb,0,none⟩) n lc) rfl)) rfl (JL.nil (kk default nofun)))
        · (intro xx EF MF Q kk;(try refine JL.aV rfl rfl ?_);exact JL.q (OQ.move rfl) rfl (JL.nil (kk default nofun)))
        · (intro xx EF MF Q kk;(try refine JL.aV rfl rfl ?_);exact JL.q (OQ.to (OQ.fst (s:=⟨some ⟨lb,0,none⟩,lc,L⟩) (m:=513) Tryz.underlying22 eO (by rw [hvL,hn];rfl) rfl (by show 513≤L.length;omega) (by show L.length≤lc;omega)) hv6) rfl (JL.nil (kk default nofun)))
        · (intro xx EF MF Q kk;(try refine JL.aV rfl rfl ?_);exact JL.q (OQ.move rfl) rfl (JL.nil (kk default nofun)))
        · (intro xx EF MF Q kk;(try refine JL.aV rfl rfl ?_);exact JL.q (OQ.aI rfl) rfl (JL.nil (kk default nofun)))
        · (intro xx EF MF Q kk;(try refine JL.aV rfl rfl ?_);exact JL.q (OQ.br rfl rfl rfl (by decide) rfl) rfl (JL.nil (kk default nofun)))
        · (intro xx EF MF Q kk;(try refine JL.aV rfl rfl ?_);exact JL.q (OQ.load b5 rfl .here (Row.cell (v:=.slice (some ⟨lb,0,none⟩) n lc) rfl)) rfl (JL.nil (kk default nofun)))
        · (intro xx EF MF Q kk;(try refine JL.aV rfl rfl ?_);exact JL.q (OQ.move rfl) rfl (JL.nil (kk default nofun)))
        · (intro xx EF MF Q kk;(try refine JL.aV rfl rfl ?_);exact JL.q (OQ.to (OQ.snd (s:=⟨some ⟨lb,0,none⟩,lc,L⟩) (m:=n - 2) Tryz.underlying22 eO (by rw [hvL,hn];rfl) rfl (by show n - 2≤L.length;omega)) hv12) rfl (JL.nil (kk default nofun)))
        · (intro xx EF MF Q kk;exact JL.je (b:=lb) (i:=513) (m:=2) (k:=n) (xs:=L.map U8) (cs:=(L.map U8).drop (n - 2)) Tryz.underlying22 fB rfl rfl .here hd2 (fun w1 hw1=>hrd hw1) (fun v hv=>fz _ v (List.drop_subset _ _ hv)) (by decide) (by omega) rfl rfl (JL.nil (kk 0 nofun)))
        · (intro xx EF MF Q kk;(try refine JL.aV rfl rfl ?_);exact JL.q (OQ.aI rfl) rfl (JL.nil (kk default nofun)))
        · (intro xx EF MF Q kk;(try refine JL.aV rfl rfl ?_);exact JL.q (OQ.br rfl rfl rfl (by decide) rfl) rfl (JL.nil (kk default nofun)))
        · (intro xx EF MF Q kk;exact JL.bJ (b:=b) (v:=.slice (some ⟨lb,0,none⟩) 515 lc) (r:=[N z.st,Z z.fr,af z.qt z.to.length,af (some (lb,lc)) n,af z.qd z.dt.length,af z.qm z.zs.length]) (r':=[N z.st,Z z.fr,af z.qt z.to.length,af (some (lb,lc)) 515,af z.qd z.dt.length,af z.qm z.zs.length]) lu rfl rfl rfl rfl .here (show 3<6 by decide) rfl (JL.nil (kk 0 nofun)))
      · intro xx hx
        show JE _ _ _ _ _ [(0,Pt b 0),(5,N 513),(8,N (n - 2)),(1,s.v),(6,y.v)] (⟨b,Row 75 [N z.st,Z z.fr,af z.qt z.to.length,af (some (lb,lc)) 515,af z.qd z.dt.length,af z.qm z.zs.length],true⟩::(⟨lb,Sl.aY 5 1 n lc ((L.map U8).take (513 * 1)++(L.map U8).drop (n - 2)++(L.map U8).drop (513 * 1+2 * 1)),true⟩::((z.T++(z.D++z.M))++[])))
        rw [List.append_nil]
        clear hx xx vs Ms
        repeat (first | refine JL.q (by first|(apply OQ.len (k:=y.l.length) (ad:=y.ad) (cap:=y.cap);exact Tryz.underlying22;rfl)|(apply OQ.snd (s:=s) (m:=y.l.length);exact Tryz.underlying22;exact eO;rfl;rfl;exact (by omega))|(apply OQ.move;rfl)|(apply OQ.assign;rfl)) rfl ?_ | refine JC.seq ?_ | refine JC.region ?_ | refine JL.nil ?_ | refine JE.next ?_)
        rw [hyn]
        refine JC.ret ?_
        skip
        refine JE.av rfl (RV.tmp rfl) fun w' hw=>⟨{ z with ql:=some (lb,lc),ln:=tr L },⟨⟨ok.t,nofun,ok.d,ok.m⟩,⟨hs.st,hs.fr,hs.to,?_,hs.dt,hs.ms⟩⟩,rfl,?_⟩
        · exact (hlx.2 h4)
        · have h515 : 515<L.length:=by omega
          have htl : (tr L).length=515:=by rw [show tr L=L.take 513++L.drop (L.length - 2) from if_pos h515,List.length_append,List.length_take,List.length_drop];omega
          have hwz:=hw.weak (.keep b (Row 75 [N z.st,Z z.fr,af z.qt z.to.length,af (some (lb,lc)) 515,af z.qd z.dt.length,af z.qm z.zs.length]) (Row 75 [N z.st,Z z.fr,af z.qt z.to.length,af (some (lb,lc)) 515,af z.qd z.dt.length,af z.qm z.zs.length]) true _ _ (fun _ h=>h) (.keep lb _ (Sl.aY 5 1 515 lc ((tr L).map U8)) true (z.T++(z.D++z.M)) (z.T++(z.D++z.M)) (o9 h515 hn) (ak.refl _)))
          refine hwz.perm' ?_
          unfold Pw.E
          have e1 : Pw.cs { z with ql:=some (lb,lc),ln:=tr L }=[N z.st,Z z.fr,af z.qt z.to.length,af (some (lb,lc)) 515,af z.qd z.dt.length,af z.qm z.zs.length]:=by show [_,_,_,af (some (lb,lc)) (tr L).length,_,_]=_;rw [htl]
          have e2 : Pw.R { z with ql:=some (lb,lc),ln:=tr L }=z.T++([⟨lb,Sl.aY 5 1 515 lc ((tr L).map U8),true⟩]++(z.D++z.M)):=by
            show z.T++(aA 5 (some (lb,lc)) ((tr L).map U8)++(z.D++z.M))=_
            unfold aA
            rw [List.length_map,htl]
          rw [e1,e2]
          exact aG fun _ _ x=>by simp only [List.count_append,List.count_cons,List.count_nil];omega
    · have hno : decide ((M : Int)<((L.length : Nat) : Int) - 2)=false:=decide_eq_false (by omega)
      repeat (first | refine JL.q (by first|(apply OQ.load;exact b5;rfl;exact .here;exact (Row.cell (v:=af q3 L.length) rfl))|(apply OQ.e7;exact Tryz.underlying22;exact (fun h=>congrArg List.length (hq3 h));rfl)|(apply OQ.pQ (a:=((L.length : Nat) : Int)) (b:=2);rfl;rfl;exact (by omega);exact (by omega))|(apply OQ.kg (a:=((L.length : Nat) : Int) - 2) (b:=(M : Int));rfl;rfl;exact hno)|(apply OQ.move;rfl)|(apply OQ.assign;rfl)|(apply OQ.aI;rfl)|(apply OQ.br;rfl;rfl;rfl;exact (by decide);rfl)) rfl ?_ | refine JC.seq ?_ | refine JC.region ?_ | refine JL.nil ?_ | refine JE.next ?_)
      refine JC.cond_false rfl rfl ?_
      repeat (first | refine JL.q (by first|(apply OQ.len (k:=y.l.length) (ad:=y.ad) (cap:=y.cap);exact Tryz.underlying22;rfl)|(apply OQ.snd (s:=s) (m:=y.l.length);exact Tryz.underlying22;exact eO;rfl;rfl;exact (by omega))|(apply OQ.move;rfl)|(apply OQ.assign;rfl)) rfl ?_ | refine JC.seq ?_ | refine JC.region ?_ | refine JC.skip ?_ | refine JL.nil ?_ | refine JE.next ?_)
      rw [hyn]
      refine JC.ret ?_
      skip
      refine JE.av rfl (RV.tmp rfl) fun w' hw=>⟨{ z with ql:=q3,ln:=L },⟨⟨ok.t,hq3,ok.d,ok.m⟩,⟨hs.st,hs.fr,hs.to,?_,hs.dt,hs.ms⟩⟩,rfl,?_⟩
      · show L=_
        by_cases h4 : S.st=4
        · exact hlx.1 h4
        · rw [← hlx.2 h4]
          have:=hM5 h4
          exact (if_neg (by omega)).symm
      · refine hw.perm' ?_
        exact aG fun _ _ x=>by simp only [Pw.E,Pw.R,Pw.L,List.count_append,List.count_cons,List.count_nil];simp only [Pw.T,Pw.D,Pw.M];omega
  · rw [if_neg hf] at hkd
    rw [show ep 10 y0.l=(-1 : Int) from if_neg hf] at hix0
    have hge : decide ((0 : Int)≤(-1 : Int))=false:=rfl
    repeat (first | refine JL.q (by first|(apply OQ.ah (vs:=[y0.v,U8 10]);exact gh;rfl;exact hix0)|(apply OQ.bK (a:=(-1 : Int)) (b:=0);rfl;rfl;exact hge)|(apply OQ.move;rfl)|(apply OQ.assign;rfl)) rfl ?_ | refine JC.seq ?_ | refine JC.region ?_ | refine JL.nil ?_ | refine JE.next ?_)
    refine JC.cond_false rfl rfl ?_
    repeat (first | refine JL.q (by first|(apply OQ.move;rfl)|(apply OQ.aI;rfl)|(apply OQ.br;rfl;rfl;rfl;exact (by decide);rfl)) rfl ?_ | refine JC.seq ?_ | refine JC.region ?_ | refine JC.skip ?_ | refine JE.next ?_)
    have hy1:=hy0
    have hy1l : y0.l=s.l.take k:=by rw [hy0l,hkd,hfl]
    generalize y0=y at hy1 hy1l ⊢
    have hyn : y.l.length=k:=by rw [hy1l,List.length_take];omega
    repeat (refine JL.q (by first|(apply OQ.load;exact b5;rfl;exact .here;exact (Row.cell (v:=af z.ql z.ln.length) rfl))|(apply OQ.move;rfl)) rfl ?_)
    refine JL.perm (M':=aA 5 z.ql (z.ln.map U8)++(⟨b,Row 75 z.cs,true⟩::(z.T++(z.D++z.M)))) ?_ (aG fun _ _ y=>by simp only [Pw.E,Pw.R,Pw.L,List.count_append,List.count_cons,List.count_nil];omega)
    refine JL.dV (cs:=y.l.map U8) (m:=y.l.length) (ad:=y.ad) (sc:=y.cap) z.ql Tryz.underlying22 fB (fun h=>by rw [ok.l h];rfl) (by rw [List.length_map];rfl) rfl (by rw [List.length_map]) (fun w' hw'=>(hy1 w' (qW hok hw' haw)).reads) (fz _) rfl (by rw [List.length_map];omega) (by rw [List.length_map];omega) rfl fun q3 hq3=>?_
    have hq3' : q3=none→z.ln++y.l=[]:=fun h=>by
      have:=hq3 h
      rw [← List.map_append] at this
      exact List.map_eq_nil_iff.1 this
    clear hq3
    rw [← List.map_append,List.length_map]
    have hLl : (z.ln++y.l).length≤1000000:=by rw [List.length_append];omega
    have hlx:=hln y.l
    rw [hy1l] at hlx
    generalize hL : z.ln++y.l=L at hq3' hLl ⊢
    rw [← hy1l,hL,hy1l] at hlx
    have hq3:=hq3'
    refine JL.perm (M':=⟨b,Row 75 z.cs,true⟩::(aA 5 q3 (L.map U8)++(z.T++(z.D++z.M)))) ?_ (aG fun _ _ y=>by simp only [Pw.E,Pw.R,Pw.L,List.count_append,List.count_cons,List.count_nil];omega)
    repeat (refine JL.q (by first|(apply OQ.aI;rfl)|(apply OQ.br;rfl;rfl;rfl;exact (by decide);rfl)) rfl ?_)
    refine JL.nR q3 L rfl rfl ?_
    by_cases hbig : M<L.length - 2
    · have h4 : ¬ S.st=4:=fun h=>by have:=hM4 h;omega
      have hM:=hM5 h4
      subst hM
      repeat (first | refine JL.q (by first|(apply OQ.load;exact b5;rfl;exact .here;exact (Row.cell (v:=af q3 L.length) rfl))|(apply OQ.e7;exact Tryz.underlying22;exact (fun h=>congrArg List.length (hq3 h));rfl)|(apply OQ.hO (a:=L.length) (b:=2);rfl;rfl;exact (by omega);exact (by omega))|(apply OQ.nA (a:=L.length - 2) (b:=513);rfl;rfl;exact hbig)|(apply OQ.move;rfl)|(apply OQ.assign;rfl)|(apply OQ.aI;rfl)|(apply OQ.br;rfl;rfl;rfl;exact (by decide);rfl)) rfl ?_ | refine JC.seq ?_ | refine JC.region ?_ | refine JL.nil ?_ | refine JE.next ?_)
      refine JC.cond_true rfl rfl ?_
      obtain ⟨⟨lb,lc⟩,rfl⟩ : ∃ p,q3=some p:=by
        cases q3 with
        | none=>rw [hq3 rfl] at hbig;simp at hbig
        | some p=>exact ⟨p,rfl⟩
      obtain ⟨n,hn⟩ : ∃ n,L.length=n:=⟨_,rfl⟩
      refine JC.o7 (F:=n≤lc) (fun w' hw'=>?_) fun hlc=>?_
      · obtain ⟨o,_,sp,_,_,_,h3⟩:=hw'.get (b:=lb) (A:=Sl.aY 5 1 (L.map U8).length lc (L.map U8)) (wr:=true) (.there .here)
        rw [List.length_map,hn] at h3
        exact h3
      have hv6 : aM.v (aM.fst ⟨some ⟨lb,0,none⟩,lc,L⟩ 513)=.slice (some ⟨lb,0,none⟩) 513 lc:=pg lb lc L 513 (by omega)
      have hv12 : aM.v (aM.snd ⟨some ⟨lb,0,none⟩,lc,L⟩ (n - 2))=.slice (some ⟨lb,n - 2,none⟩) 2 (lc - (n - 2)):=by
        rw [pe lb lc L (n - 2) (by omega),hn,show n - (n - 2)=2 by omega]
      have hvL : aM.v ⟨some ⟨lb,0,none⟩,lc,L⟩=af (some (lb,lc)) L.length:=rfl
      have hd2 : ((L.map U8).drop (n - 2)).length=2 * 1:=by rw [List.length_drop,List.length_map,hn];omega
      have hbn : 513<n - 2:=by omega
      rw [hn]
      have hrd : ∀ {u w1 : World} {S1 : List Nat} {M1 : List az},aa u S1 (⟨lb,Sl.aY 5 1 n lc (L.map U8),true⟩::M1) w1→Reads w1 (some ⟨lb,n - 2,none⟩) ((L.map U8).drop (n - 2)):=fun {u w1 S1 M1} hw=>by
        have h1 : aM.ok w1 ⟨some ⟨lb,0,none⟩,lc,L⟩:=cP (q:=some (lb,lc)) (M:=M1) (by show aa _ _ (⟨lb,Sl.aY 5 1 (L.map U8).length lc (L.map U8),true⟩::M1) _;rw [List.length_map,hn];exact hw)
        have h2:=(h1.snd (n - 2) (by show n - 2≤L.length;omega)).reads
        have h3 : (aM.snd ⟨some ⟨lb,0,none⟩,lc,L⟩ (n - 2)).ad=some ⟨lb,n - 2,none⟩:=by
          have:=hv12
          unfold aM.v at this
          injection this
        rw [h3] at h2
        show Reads w1 _ _
        rw [← List.map_drop]
        exact h2
      let vs : Nat→Nat→Value:=fun j y=>match j with
        | 0=>Pt b 0
        | 1=>Pt b 0
        | 2=>Pt b 0
        | 3=>Pt b 3
        | 4=>.slice (some ⟨lb,0,none⟩) n lc
        | 5=>N 513
        | 6=>.slice (some ⟨lb,0,none⟩) 513 lc
        | 7=>Pt b 0
        | 8=>Pt b 0
        | 9=>Pt b 3
        | 10=>.slice (some ⟨lb,0,none⟩) n lc
        | 11=>N (n - 2)
        | 12=>.slice (some ⟨lb,n - 2,none⟩) 2 (lc - (n - 2))
        | 13=>.slice (some ⟨lb,0,none⟩) 515 lc
        | 14=>Pt b 0
        | 15=>Pt b 3
        | _=>N 0
      let Ms : Nat→Nat→List az:=fun j y=>match j with
        | 13=>[⟨lb,Sl.aY 5 1 n lc ((L.map U8).take (513 * 1)++(L.map U8).drop (n - 2)++(L.map U8).drop (513 * 1+2 * 1)),true⟩]
        | 16=>[⟨b,Row 75 [N z.st,Z z.fr,af z.qt z.to.length,af (some (lb,lc)) 515,af z.qd z.dt.length,af z.qm z.zs.length],true⟩]
        | 17=>[⟨b,Row 75 [N z.st,Z z.fr,af z.qt z.to.length,af (some (lb,lc)) n,af z.qd z.dt.length,af z.qm z.zs.length],true⟩]
        | 18=>[⟨lb,Sl.aY 5 1 n lc (L.map U8),true⟩]
        | 19=>(z.T++(z.D++z.M))
        | _=>[]
      refine JC.grow (g:=⟨[(0,Pt b 0),(5,N 513),(8,N (n - 2)),(1,s.v),(6,y.v)],20,vs,Ms,(fun j=>match j with | 2=>[(1,44)] | 3=>[(2,45)] | 4=>[(3,46)] | 6=>[(4,47),(5,48)] | 8=>[(7,50)] | 9=>[(8,51)] | 10=>[(9,52)] | 12=>[(10,53),(11,54)] | 13=>[(6,49),(12,55)] | 14=>[(0,43)] | 15=>[(14,57)] | 16=>[(15,58),(13,56)] | _=>[]),(fun j=>match j with | 4=>[17] | 10=>[17] | 13=>[18] | 16=>[17] | _=>[]),(fun j=>match j with | 13=>[18] | 16=>[17] | _=>[]),(fun j=>match j with | _=>none)⟩) [] [16,13,19] ey (by repeat (first | exact ai.nil | refine ai.cons _ _ _ rfl ?_)) ?_ (by kernel_rfl) (by kernel_rfl) (by kernel_rfl) ?_ ?_
      · show ak (⟨b,Row 75 [N z.st,Z z.fr,af z.qt z.to.length,af (some (lb,lc)) n,af z.qd z.dt.length,af z.qm z.zs.length],true⟩::(⟨lb,Sl.aY 5 1 n lc (L.map U8),true⟩::((z.T++(z.D++z.M))++[]))) _;rw [List.append_nil,← hn];show ak _ (⟨b,Row 75 [N z.st,Z z.fr,af z.qt z.to.length,af (some (lb,lc)) L.length,af z.qd z.dt.length,af z.qm z.zs.length],true⟩::(⟨lb,Sl.aY 5 1 (L.map U8).length lc (L.map U8),true⟩::(z.T++(z.D++z.M))));rw [List.length_map];exact ak.refl _
      · refine ⟨?_,?_,?_,?_,?_,?_,?_,?_,?_,?_,?_,?_,?_,?_,?_,?_,?_,trivial⟩
        · (intro xx EF MF Q kk;(try refine JL.aV rfl rfl ?_);exact JL.q (OQ.move rfl) rfl (JL.nil (kk default nofun)))
        · (intro xx EF MF Q kk;(try refine JL.aV rfl rfl ?_);exact JL.q (OQ.move rfl) rfl (JL.nil (kk default nofun)))
        · (intro xx EF MF Q kk;(try refine JL.aV rfl rfl ?_);exact JL.q (OQ.aI rfl) rfl (JL.nil (kk default nofun)))
        · (intro xx EF MF Q kk;(try refine JL.aV rfl rfl ?_);exact JL.q (OQ.br rfl rfl rfl (by decide) rfl) rfl (JL.nil (kk default nofun)))
        · (intro xx EF MF Q kk;(try refine JL.aV rfl rfl ?_);exact JL.q (OQ.load b5 rfl .here (Row.cell (v:=.slice (some ⟨lb,0,none⟩) n lc) rfl)) rfl (JL.nil (kk default nofun)))
        · (intro xx EF MF Q kk;(try refine JL.aV rfl rfl ?_);exact JL.q (OQ.move rfl) rfl (JL.nil (kk default nofun)))
        · (intro xx EF MF Q kk;(try refine JL.aV rfl rfl ?_);exact JL.q (OQ.to (OQ.fst (s:=⟨some ⟨lb,0,none⟩,lc,L⟩) (m:=513) Tryz.underlying22 eO (by rw [hvL,hn];rfl) rfl (by show 513≤L.length;omega) (by show L.length≤lc;omega)) hv6) rfl (JL.nil (kk default nofun)))
        · (intro xx EF MF Q kk;(try refine JL.aV rfl rfl ?_);exact JL.q (OQ.move rfl) rfl (JL.nil (kk default nofun)))
        · (intro xx EF MF Q kk;(try refine JL.aV rfl rfl ?_);exact JL.q (OQ.aI rfl) rfl (JL.nil (kk default nofun)))
        · (intro xx EF MF Q kk;(try refine JL.aV rfl rfl ?_);exact JL.q (OQ.br rfl rfl rfl (by decide) rfl) rfl (JL.nil (kk default nofun)))
        · (intro xx EF MF Q kk;(try refine JL.aV rfl rfl ?_);exact JL.q (OQ.load b5 rfl .here (Row.cell (v:=.slice (some ⟨lb,0,none⟩) n lc) rfl)) rfl (JL.nil (kk default nofun)))
        · (intro xx EF MF Q kk;(try refine JL.aV rfl rfl ?_);exact JL.q (OQ.move rfl) rfl (JL.nil (kk default nofun)))
        · (intro xx EF MF Q kk;(try refine JL.aV rfl rfl ?_);exact JL.q (OQ.to (OQ.snd (s:=⟨some ⟨lb,0,none⟩,lc,L⟩) (m:=n - 2) Tryz.underlying22 eO (by rw [hvL,hn];rfl) rfl (by show n - 2≤L.length;omega)) hv12) rfl (JL.nil (kk default nofun)))
        · (intro xx EF MF Q kk;exact JL.je (b:=lb) (i:=513) (m:=2) (k:=n) (xs:=L.map U8) (cs:=(L.map U8).drop (n - 2)) Tryz.underlying22 fB rfl rfl .here hd2 (fun w1 hw1=>hrd hw1) (fun v hv=>fz _ v (List.drop_subset _ _ hv)) (by decide) (by omega) rfl rfl (JL.nil (kk 0 nofun)))
        · (intro xx EF MF Q kk;(try refine JL.aV rfl rfl ?_);exact JL.q (OQ.aI rfl) rfl (JL.nil (kk default nofun)))
        · (intro xx EF MF Q kk;(try refine JL.aV rfl rfl ?_);exact JL.q (OQ.br rfl rfl rfl (by decide) rfl) rfl (JL.nil (kk default nofun)))
        · (intro xx EF MF Q kk;exact JL.bJ (b:=b) (v:=.slice (some ⟨lb,0,none⟩) 515 lc) (r:=[N z.st,Z z.fr,af z.qt z.to.length,af (some (lb,lc)) n,af z.qd z.dt.length,af z.qm z.zs.length]) (r':=[N z.st,Z z.fr,af z.qt z.to.length,af (some (lb,lc)) 515,af z.qd z.dt.length,af z.qm z.zs.length]) lu rfl rfl rfl rfl .here (show 3<6 by decide) rfl (JL.nil (kk 0 nofun)))
      · intro xx hx
        show JE _ _ _ _ _ [(0,Pt b 0),(5,N 513),(8,N (n - 2)),(1,s.v),(6,y.v)] (⟨b,Row 75 [N z.st,Z z.fr,af z.qt z.to.length,af (some (lb,lc)) 515,af z.qd z.dt.length,af z.qm z.zs.length],true⟩::(⟨lb,Sl.aY 5 1 n lc ((L.map U8).take (513 * 1)++(L.map U8).drop (n - 2)++(L.map U8).drop (513 * 1+2 * 1)),true⟩::((z.T++(z.D++z.M))++[])))
        rw [List.append_nil]
        clear hx xx vs Ms
        repeat (first | refine JL.q (by first|(apply OQ.len (k:=y.l.length) (ad:=y.ad) (cap:=y.cap);exact Tryz.underlying22;rfl)|(apply OQ.snd (s:=s) (m:=y.l.length);exact Tryz.underlying22;exact eO;rfl;rfl;exact (by omega))|(apply OQ.move;rfl)|(apply OQ.assign;rfl)) rfl ?_ | refine JC.seq ?_ | refine JC.region ?_ | refine JL.nil ?_ | refine JE.next ?_)
        rw [hyn]
        refine JC.ret ?_
        skip
        refine JE.av rfl (RV.tmp rfl) fun w' hw=>⟨{ z with ql:=some (lb,lc),ln:=tr L },⟨⟨ok.t,nofun,ok.d,ok.m⟩,⟨hs.st,hs.fr,hs.to,?_,hs.dt,hs.ms⟩⟩,rfl,?_⟩
        · exact (hlx.2 h4)
        · have h515 : 515<L.length:=by omega
          have htl : (tr L).length=515:=by rw [show tr L=L.take 513++L.drop (L.length - 2) from if_pos h515,List.length_append,List.length_take,List.length_drop];omega
          have hwz:=hw.weak (.keep b (Row 75 [N z.st,Z z.fr,af z.qt z.to.length,af (some (lb,lc)) 515,af z.qd z.dt.length,af z.qm z.zs.length]) (Row 75 [N z.st,Z z.fr,af z.qt z.to.length,af (some (lb,lc)) 515,af z.qd z.dt.length,af z.qm z.zs.length]) true _ _ (fun _ h=>h) (.keep lb _ (Sl.aY 5 1 515 lc ((tr L).map U8)) true (z.T++(z.D++z.M)) (z.T++(z.D++z.M)) (o9 h515 hn) (ak.refl _)))
          refine hwz.perm' ?_
          unfold Pw.E
          have e1 : Pw.cs { z with ql:=some (lb,lc),ln:=tr L }=[N z.st,Z z.fr,af z.qt z.to.length,af (some (lb,lc)) 515,af z.qd z.dt.length,af z.qm z.zs.length]:=by show [_,_,_,af (some (lb,lc)) (tr L).length,_,_]=_;rw [htl]
          have e2 : Pw.R { z with ql:=some (lb,lc),ln:=tr L }=z.T++([⟨lb,Sl.aY 5 1 515 lc ((tr L).map U8),true⟩]++(z.D++z.M)):=by
            show z.T++(aA 5 (some (lb,lc)) ((tr L).map U8)++(z.D++z.M))=_
            unfold aA
            rw [List.length_map,htl]
          rw [e1,e2]
          exact aG fun _ _ x=>by simp only [List.count_append,List.count_cons,List.count_nil];omega
    · have hno : decide ((M : Int)<((L.length : Nat) : Int) - 2)=false:=decide_eq_false (by omega)
      repeat (first | refine JL.q (by first|(apply OQ.load;exact b5;rfl;exact .here;exact (Row.cell (v:=af q3 L.length) rfl))|(apply OQ.e7;exact Tryz.underlying22;exact (fun h=>congrArg List.length (hq3 h));rfl)|(apply OQ.pQ (a:=((L.length : Nat) : Int)) (b:=2);rfl;rfl;exact (by omega);exact (by omega))|(apply OQ.kg (a:=((L.length : Nat) : Int) - 2) (b:=(M : Int));rfl;rfl;exact hno)|(apply OQ.move;rfl)|(apply OQ.assign;rfl)|(apply OQ.aI;rfl)|(apply OQ.br;rfl;rfl;rfl;exact (by decide);rfl)) rfl ?_ | refine JC.seq ?_ | refine JC.region ?_ | refine JL.nil ?_ | refine JE.next ?_)
      refine JC.cond_false rfl rfl ?_
      repeat (first | refine JL.q (by first|(apply OQ.len (k:=y.l.length) (ad:=y.ad) (cap:=y.cap);exact Tryz.underlying22;rfl)|(apply OQ.snd (s:=s) (m:=y.l.length);exact Tryz.underlying22;exact eO;rfl;rfl;exact (by omega))|(apply OQ.move;rfl)|(apply OQ.assign;rfl)) rfl ?_ | refine JC.seq ?_ | refine JC.region ?_ | refine JC.skip ?_ | refine JL.nil ?_ | refine JE.next ?_)
      rw [hyn]
      refine JC.ret ?_
      skip
      refine JE.av rfl (RV.tmp rfl) fun w' hw=>⟨{ z with ql:=q3,ln:=L },⟨⟨ok.t,hq3,ok.d,ok.m⟩,⟨hs.st,hs.fr,hs.to,?_,hs.dt,hs.ms⟩⟩,rfl,?_⟩
      · show L=_
        by_cases h4 : S.st=4
        · exact hlx.1 h4
        · rw [← hlx.2 h4]
          have:=hM5 h4
          exact (if_neg (by omega)).symm
      · refine hw.perm' ?_
        exact aG fun _ _ x=>by simp only [Pw.E,Pw.R,Pw.L,List.count_append,List.count_cons,List.count_nil];simp only [Pw.T,Pw.D,Pw.M];omega
end de
end
section
set_option maxRecDepth 10000
open Sl
namespace de
theorem jV : aC Tryz.prog 34:=⟨_,Tryz.func34,rfl,by kernel_rfl⟩
theorem iN (S : Po) (l : List By) : (aO S l).2.length≤9:=by
  have h0 : ∀ y : List By,y.length≤9→(S,y).2.length≤9:=fun y h=>h
  unfold aO
  split
  · exact h0 _ (by decide)
  split
  · unfold cz
    split
    · exact (by decide : jk.length≤9)
    · exact h0 _ (by decide)
  split
  · unfold bF
    split
    · exact h0 _ (by decide)
    · split
      · exact (by decide : jk.length≤9)
      · exact h0 _ (by decide)
  split
  · unfold cX
    split
    · exact h0 _ (by decide)
    · split
      · split
        · exact h0 _ (by decide)
        · exact (by decide : jk.length≤9)
      · exact h0 _ (by decide)
  split
  · unfold cY
    split
    · split
      · exact (by decide : tO.length≤9)
      · exact h0 _ (by decide)
    · exact h0 _ (by decide)
  split
  · unfold cZ
    split
    · split
      · exact h0 _ (by decide)
      · exact (by decide : jk.length≤9)
    · exact h0 _ (by decide)
  split
  · unfold eS
    split
    · exact (by decide : rA.length≤9)
    · exact h0 _ (by decide)
  · exact h0 _ (by decide)
set_option maxHeartbeats 16000000 in
theorem kO (b : Nat) (z : Pw) (S : Po) (ok : z.ok) (hs : z.is S) (hn : S.ln=[]) (h10 : S.to.length≤10) (wf : Dl S.dt) (line : aM) (hsz : line.l.length+S.dt.length+S.ms.length≤999000) (w : World) (hm : en w (keys (z.E b))) (hok : line.ok w) (haw : cl line (keys (z.E b))) (h0 : aa w (keys (z.E b)) (z.E b) w) : Calls Tryz.prog 34 [Pt b 0,line.v].toArray w (cj (keys (z.E b)) b (aP S line.l) w):=by
  have hob : ∀ w',aa w' (keys (z.E b)) (z.E b) w'→Calls Tryz.prog 72 [Pt b 0,Z line.l].toArray w' (cj (keys (z.E b)) b (aO S line.l) w'):=fun w' h=>oF b z S ok hs hn h10 line.l (by omega) w' h
  have hta : ∀ w',en w' (keys (z.E b))→aa w' (keys (z.E b)) (z.E b) w'→Calls Tryz.prog 73 [Pt b 0].toArray w' (cj (keys (z.E b)) b (dB S) w'):=fun w' hm h=>o4 b z S ok hs hn (by omega) (qA wf) w' hm h
  have hms : ∀ w',aa w (keys (z.E b)) (z.E b++[]) w'→en w' (keys (z.E b)):=fun w' h=>hm.sub h (z.wr b)
  have hdl : z.dt.length=S.dt.length:=by rw [hs.dt]
  generalize hS : keys (z.E b)=S0 at h0 hm haw hob hta hms ⊢
  cases h4 : decide (z.st=4) with
  | false=>
    have e : aP S line.l=((aO S line.l).1,(aO S line.l).2++[13,10]):=if_neg (fun e=>of_decide_eq_false h4 (hs.st.trans e))
    have hol:=iN S line.l
    rw [e]
    generalize aO S line.l=r at hob hol ⊢
    refine enter (n:=44) Tryz.func34 rfl rfl rfl h0 ?_
    repeat (first | refine JL.q (by first|(apply OQ.load;exact bN;rfl;exact .here;exact (Row.cell (v:=N z.st) rfl))|(apply OQ.c5 (b:=4);rfl;rfl;exact h4)|(apply OQ.move;rfl)|(apply OQ.assign;rfl)|(apply OQ.aI;rfl)|(apply OQ.br;rfl;rfl;rfl;exact (by decide);rfl)) rfl ?_ | refine JC.seq ?_ | refine JC.region ?_ | refine JL.nil ?_ | refine JE.next ?_)
    refine JC.cond_true rfl rfl ?_
    repeat (first | refine JL.q (by first|(apply OQ.nq (s:=line);exact Tryz.underlying22;exact Tryz.underlying5;exact Tryz.underlying9;rfl;exact (fun w' hw'=>qW hok hw' haw))|(apply OQ.move;rfl)) rfl ?_ | refine JC.seq ?_ | refine JC.region ?_)
    refine JL.perm ?_ (List.Perm.of_eq (List.append_nil _).symm)
    refine JL.fM (ι:={y : Pw // y.ok∧y.is r.1}) (vs:=[Pt b 0,Z line.l]) (fun _=>Z r.2) (fun y=>y.1.E b) mN rfl rfl (z.wr b) (fun y=>Pw.wr b _) (fun w' _ hx=>by
      rw [hS] at hx ⊢
      exact (hob w' hx).mono fun e w2 ⟨y,h1,h2,h3⟩=>⟨⟨y,h1⟩,h2,h3⟩) fun y=>?_
    rw [List.append_nil]
    repeat (first | refine JL.q (by first|(apply OQ.jc (l:=r.2) (r:=[13,10]);rfl;rfl;exact (by show r.2.length+2<_;omega))|(apply OQ.assign;rfl)) rfl ?_ | refine JL.nil ?_ | refine JE.next ?_)
    refine JC.ret ?_
    repeat (refine JE.ag ?_)
    exact JE.av rfl (RV.tmp rfl) fun w' hw=>⟨y.1,y.2,rfl,hw⟩
  | true=>
    have h4' : S.st=4:=hs.st.symm.trans (of_decide_eq_true h4)
    cases h46 : decide (line.l=[46]) with
    | true=>
      have e : aP S line.l=((dB S).1,(dB S).2++[13,10]):=(if_pos h4').trans (if_pos (of_decide_eq_true h46))
      have hol : (dB S).2.length≤9:=(by decide : jk.length≤9)
      rw [e]
      generalize dB S=r at hta hol ⊢
      refine enter (n:=44) Tryz.func34 rfl rfl rfl h0 ?_
      repeat (first | refine JL.q (by first|(apply OQ.load;exact bN;rfl;exact .here;exact (Row.cell (v:=N z.st) rfl))|(apply OQ.c5 (b:=4);rfl;rfl;exact h4)|(apply OQ.move;rfl)|(apply OQ.assign;rfl)|(apply OQ.aI;rfl)|(apply OQ.br;rfl;rfl;rfl;exact (by decide);rfl)) rfl ?_ | refine JC.seq ?_ | refine JC.region ?_ | refine JL.nil ?_ | refine JE.next ?_)
      refine JC.cond_false rfl rfl ?_
      repeat (first | refine JL.q (by first|(apply OQ.nq (s:=line);exact Tryz.underlying22;exact Tryz.underlying5;exact Tryz.underlying9;rfl;exact (fun w' hw'=>qW hok hw' haw))|(apply OQ.gu (r:=[46]);rfl;rfl;exact h46)|(apply OQ.move;rfl)) rfl ?_ | refine JC.seq ?_ | refine JC.region ?_ | refine JC.skip ?_ | refine JL.nil ?_ | refine JE.next ?_)
      refine JC.cond_true rfl rfl ?_
      repeat (first | refine JL.q (by (apply OQ.move;rfl)) rfl ?_ | refine JC.seq ?_ | refine JC.region ?_)
      refine JL.perm ?_ (List.Perm.of_eq (List.append_nil _).symm)
      refine JL.fM (ι:={y : Pw // y.ok∧y.is r.1}) (vs:=[Pt b 0]) (fun _=>Z r.2) (fun y=>y.1.E b) mW rfl rfl (z.wr b) (fun y=>Pw.wr b _) (fun w' hw' hx=>by
        rw [hS] at hx ⊢
        exact (hta w' (hms w' hw') hx).mono fun e w2 ⟨y,h1,h2,h3⟩=>⟨⟨y,h1⟩,h2,h3⟩) fun y=>?_
      rw [List.append_nil]
      repeat (first | refine JL.q (by first|(apply OQ.jc (l:=r.2) (r:=[13,10]);rfl;rfl;exact (by show r.2.length+2<_;omega))|(apply OQ.assign;rfl)) rfl ?_ | refine JL.nil ?_ | refine JE.next ?_)
      refine JC.ret ?_
      repeat (refine JE.ag ?_)
      exact JE.av rfl (RV.tmp rfl) fun w' hw=>⟨y.1,y.2,rfl,hw⟩
    | false=>
      have e : aP S line.l=(⟨S.st,S.fr,S.to,S.ln,S.dt++(line.l++[13,10]),S.ms⟩,[]):=(if_pos h4').trans (if_neg (of_decide_eq_false h46))
      rw [e]
      refine enter (n:=44) Tryz.func34 rfl rfl rfl h0 ?_
      repeat (first | refine JL.q (by first|(apply OQ.load;exact bN;rfl;exact .here;exact (Row.cell (v:=N z.st) rfl))|(apply OQ.c5 (b:=4);rfl;rfl;exact h4)|(apply OQ.move;rfl)|(apply OQ.assign;rfl)|(apply OQ.aI;rfl)|(apply OQ.br;rfl;rfl;rfl;exact (by decide);rfl)) rfl ?_ | refine JC.seq ?_ | refine JC.region ?_ | refine JL.nil ?_ | refine JE.next ?_)
      refine JC.cond_false rfl rfl ?_
      repeat (first | refine JL.q (by first|(apply OQ.nq (s:=line);exact Tryz.underlying22;exact Tryz.underlying5;exact Tryz.underlying9;rfl;exact (fun w' hw'=>qW hok hw' haw))|(apply OQ.gu (r:=[46]);rfl;rfl;exact h46)|(apply OQ.move;rfl)) rfl ?_ | refine JC.seq ?_ | refine JC.region ?_ | refine JC.skip ?_ | refine JL.nil ?_ | refine JE.next ?_)
      refine JC.cond_false rfl rfl ?_
      repeat (first | refine JL.q (by first|(apply OQ.load;exact b5;rfl;exact .here;exact (Row.cell (v:=af z.qd z.dt.length) rfl))|(apply OQ.e7;exact Tryz.underlying22;exact (fun h=>congrArg List.length (ok.d h));rfl)|(apply OQ.q8 (a:=z.dt.length) (b:=4194304);rfl;rfl;exact (by omega))|(apply OQ.move;rfl)|(apply OQ.aI;rfl)|(apply OQ.br;rfl;rfl;rfl;exact (by decide);rfl)) rfl ?_ | refine JC.seq ?_ | refine JC.region ?_ | refine JC.skip ?_ | refine JL.nil ?_ | refine JE.next ?_)
      refine JC.cond_true rfl rfl ?_
      repeat (first | refine JL.q (by first|(apply OQ.load;exact b5;rfl;exact .here;exact (Row.cell (v:=af z.qd z.dt.length) rfl))|(apply OQ.move;rfl)|(apply OQ.aI;rfl)|(apply OQ.br;rfl;rfl;rfl;exact (by decide);rfl)) rfl ?_ | refine JC.seq ?_ | refine JC.region ?_)
      refine JL.perm (M':=aA 5 z.qd (z.dt.map U8)++(⟨b,Row 75 z.cs,true⟩::(z.T++(z.L++z.M)))) ?_ (aG fun _ _ y=>by simp only [Pw.E,Pw.R,Pw.D,List.count_append,List.count_cons,List.count_nil];omega)
      refine JL.dV (cs:=line.l.map U8) (m:=line.l.length) (ad:=line.ad) (sc:=line.cap) z.qd Tryz.underlying22 fB (fun h=>by rw [ok.d h];rfl) (by rw [List.length_map];rfl) rfl (by rw [List.length_map]) (fun w' hw'=>(qW hok hw' haw).reads) (fz _) rfl (by rw [List.length_map];omega) (by rw [List.length_map];omega) rfl fun q1 hq1=>?_
      rw [← List.map_append,List.length_map]
      rw [← List.map_append] at hq1
      refine JL.perm (M':=⟨b,Row 75 z.cs,true⟩::(aA 5 q1 ((z.dt++line.l).map U8)++(z.T++(z.L++z.M)))) ?_ (aG fun _ _ y=>by simp only [Pw.E,Pw.R,Pw.D,List.count_append,List.count_cons,List.count_nil];omega)
      repeat (refine JL.q (by first|(apply OQ.aI;rfl)|(apply OQ.br;rfl;rfl;rfl;exact (by decide);rfl)) rfl ?_)
      refine JL.lA q1 (z.dt++line.l) rfl rfl ?_
      have hl2 : (z.dt++line.l).length=z.dt.length+line.l.length:=List.length_append
      repeat (first | refine JL.q (by first|(apply OQ.load;exact b5;rfl;exact .here;exact (Row.cell (v:=af q1 (z.dt++line.l).length) rfl))|(apply OQ.move;rfl)|(apply OQ.aI;rfl)|(apply OQ.br;rfl;rfl;rfl;exact (by decide);rfl)) rfl ?_ | refine JC.region ?_ | refine JL.nil ?_ | refine JE.next ?_)
      refine JL.perm (M':=aA 5 q1 ((z.dt++line.l).map U8)++(⟨b,Row 75 (Pw.cs { z with qd:=q1,dt:=z.dt++line.l }),true⟩::(z.T++(z.L++z.M)))) ?_ (aG fun _ _ y=>by simp only [Pw.E,Pw.R,Pw.D,List.count_append,List.count_cons,List.count_nil];omega)
      refine JL.c8 (r:=[13,10]) q1 Tryz.underlying22 Tryz.underlying9 fB hq1 (by rw [List.length_map];rfl) rfl (by simp) (by rw [List.length_map];show _+2≤_;omega) rfl fun p4=>?_
      rw [← List.map_append,List.length_map]
      refine JL.perm (M':=⟨b,Row 75 (Pw.cs { z with qd:=q1,dt:=z.dt++line.l }),true⟩::(aA 5 (some p4) ((z.dt++line.l++[13,10]).map U8)++(z.T++(z.L++z.M)))) ?_ (aG fun _ _ y=>by simp only [Pw.E,Pw.R,Pw.D,List.count_append,List.count_cons,List.count_nil];omega)
      repeat (refine JL.q (by first|(apply OQ.aI;rfl)|(apply OQ.br;rfl;rfl;rfl;exact (by decide);rfl)) rfl ?_)
      refine JL.lA (z:={ z with qd:=q1,dt:=z.dt++line.l }) (some p4) (z.dt++line.l++[13,10]) rfl rfl ?_
      repeat (first | refine JL.q (by (apply OQ.assign;rfl)) rfl ?_ | refine JC.seq ?_ | refine JC.region ?_ | refine JL.nil ?_ | refine JE.next ?_)
      refine JC.ret ?_
      skip
      refine JE.av rfl (RV.tmp rfl) fun w' hw=>⟨{ z with qd:=some p4,dt:=z.dt++line.l++[13,10] },⟨⟨ok.t,ok.l,nofun,ok.m⟩,⟨hs.st,hs.fr,hs.to,eJ hn hs _ hn,?_,hs.ms⟩⟩,rfl,?_⟩
      · show z.dt++line.l++[13,10]=S.dt++(line.l++[13,10])
        rw [hs.dt,List.append_assoc]
      · refine hw.perm' ?_
        exact aG fun _ _ x=>by simp only [Pw.E,Pw.R,Pw.D,List.count_append,List.count_cons,List.count_nil];simp only [Pw.T,Pw.L,Pw.M];omega
end de
end
section
set_option maxRecDepth 10000
open Sl
namespace de
theorem mZ : aC Tryz.prog 10:=⟨_,Tryz.func10,rfl,by kernel_rfl⟩
theorem gi : aC Tryz.prog 33:=⟨_,Tryz.func33,rfl,by kernel_rfl⟩
theorem pz (l : List Bt) : kK l [13,10]=ends l:=by
  cases he : ends l with
  | true=>
    have h1:=iu he
    have h2:=dZ he
    unfold kK
    rw [show ([13,10] : List Bt).length=2 from rfl,decide_eq_true (by omega),Bool.true_and,decide_eq_true_iff]
    have h3 : l.length - 2=l.dropLast.dropLast.length:=by omega
    rw [h3]
    exact (congrArg (List.drop l.dropLast.dropLast.length) h1).trans List.drop_left
  | false=>
    cases hs : kK l [13,10] with
    | false=>rfl
    | true=>
      unfold kK at hs
      rw [Bool.and_eq_true,decide_eq_true_iff,decide_eq_true_iff] at hs
      have h1 : l=l.take (l.length - 2)++[13,10]:=by
        have:=(List.take_append_drop (l.length - 2) l).symm
        rw [show ([13,10] : List Bt).length=2 from rfl] at hs
        rw [hs.2] at this
        exact this
      rw [h1,eT] at he
      cases he
theorem ng (s d : aM) (w : World) (hs : s.ok w) (hd : d.ok w) (hdl : d.l=[13,10]) (hl : s.l.length≤4611686018427387904) :
    Calls Tryz.prog 33 [s.v,d.v].toArray w fun e w'=>e=.returned (.tuple #[(if ends s.l=true then s.fst (s.l.length - 2) else s).v,.bool (ends s.l)])∧Ext w w':=by
  have hsf:=fun (w' : World) (h1 : s.ok w') (h2 : d.ok w')=>qv s d w' h1 h2 hl
  rw [hdl,pz] at hsf
  have hdn : d.l.length=2:=by rw [hdl];rfl
  refine enter (n:=18) Tryz.func33 rfl rfl rfl (aa.start w []) ?_
  cases h : ends s.l
  · rw [h] at hsf
    rw [if_neg (by simp)]
    repeat (first | refine JL.q (by first|(apply OQ.ah (vs:=[s.v,d.v]);exact jP;rfl;exact (fun w' hw'=>hsf w' (hs.holds hw' rfl) (hd.holds hw' rfl)))|(apply OQ.not;rfl)|(apply OQ.move;rfl)|(apply OQ.assign;rfl)) rfl ?_ | refine JC.seq ?_ | refine JC.region ?_ | refine JL.nil ?_ | refine JE.next ?_)
    refine JC.cond_true rfl rfl ?_
    repeat (first | refine JL.q (by first|(apply OQ.move;rfl)|(apply OQ.assign;rfl)) rfl ?_ | refine JC.seq ?_ | refine JC.region ?_ | refine JL.nil ?_ | refine JE.next ?_)
    refine JC.ret ?_
    repeat (refine JE.ag ?_)
    exact JE.bz rfl (RV.tmp rfl) (RV.tmp rfl) fun w' hw=>⟨rfl,hw.aE⟩
  · rw [h] at hsf
    have hpos:=dZ h
    rw [if_pos rfl]
    have he : s.l.length - d.l.length=s.l.length - 2:=by rw [hdn]
    rw [← he]
    repeat (first | refine JL.q (by first|(apply OQ.ah (vs:=[s.v,d.v]);exact jP;rfl;exact (fun w' hw'=>hsf w' (hs.holds hw' rfl) (hd.holds hw' rfl)))|(apply OQ.not;rfl)|(apply OQ.move;rfl)|(apply OQ.assign;rfl)) rfl ?_ | refine JC.seq ?_ | refine JC.region ?_ | refine JL.nil ?_ | refine JE.next ?_)
    refine JC.cond_false rfl rfl ?_
    repeat (first | refine JL.q (by first|(apply OQ.len (k:=s.l.length) (ad:=s.ad) (cap:=s.cap);exact Tryz.underlying22;rfl)|(apply OQ.len (k:=d.l.length) (ad:=d.ad) (cap:=d.cap);exact Tryz.underlying22;rfl)|(apply OQ.hO (a:=s.l.length) (b:=d.l.length);rfl;rfl;exact (by omega);exact (by omega))|(apply OQ.fst (s:=s) (m:=s.l.length - d.l.length);exact Tryz.underlying22;exact eO;rfl;rfl;exact (by omega);exact hs.len)|(apply OQ.move;rfl)|(apply OQ.assign;rfl)) rfl ?_ | refine JC.seq ?_ | refine JC.region ?_ | refine JC.skip ?_ | refine JL.nil ?_ | refine JE.next ?_)
    refine JC.ret ?_
    skip
    exact JE.bz rfl (RV.tmp rfl) (RV.tmp rfl) fun w' hw=>⟨rfl,hw.aE⟩
theorem lN (l : List Bt) : ends (tr l)=ends l:=by
  unfold tr
  split
  · rename_i h
    have hl : l=l.take (l.length - 2)++l.drop (l.length - 2):=(List.take_append_drop _ _).symm
    have h2 : (l.drop (l.length - 2)).length=2:=by rw [List.length_drop];omega
    generalize l.drop (l.length - 2)=q at hl h2 ⊢
    obtain ⟨a,c,rfl⟩ : ∃ a c,q=[a,c]:=by
      match q,h2 with
      | [a,c],_=>exact ⟨a,c,rfl⟩
    have key : ∀ p : List Bt,ends (p++[a,c])=(decide (c=10) && decide (a=13)):=fun p=>by
      unfold ends
      rw [show p++[a,c]=(p++[a])++[c] by simp,List.dropLast_concat,List.getLast?_concat,List.getLast?_concat]
      simp
    conv=>rhs;rw [hl]
    rw [key,key]
  · rfl
theorem nh {S : Po} {l : List Bt} (he : ends l=true) (h4 : ¬ S.st=4) : aP S (tr l).dropLast.dropLast=aP S l.dropLast.dropLast:=by
  by_cases h : 515<l.length
  · have h1 : (tr l).length=515:=by
      unfold tr
      rw [if_pos h,List.length_append,List.length_take,List.length_drop];omega
    have h2 : (tr l).dropLast.dropLast.length=513:=by rw [List.length_dropLast,List.length_dropLast,h1]
    have h3 : 513<l.dropLast.dropLast.length:=by rw [List.length_dropLast,List.length_dropLast];omega
    unfold aP
    rw [if_neg h4,if_neg h4]
    have e : ∀ x : List Bt,512<x.length→aO S x=(S,jl):=fun x hx=>if_pos hx
    rw [e _ (by omega),e _ (by omega)]
  · rw [show tr l=l from if_neg h]
theorem ni {w0 w : World} {S : List Nat} {X M : List az} {s : aM} (hw : aa w0 S (X++M) w) (hX : ∀ e ∈ X,e.wr=true) (hs : s.ok w0) (ha : cl s S) : cl s (keys X):=by
  intro h0 a e hm
  obtain ⟨y,he,hb⟩:=List.mem_map.1 hm
  have h1:=hs.lt h0 a e
  rcases (hw.all y (List.mem_append_left _ he)).2 (hX y he) with h | h
  · exact ha h0 a e (hb ▸ h)
  · omega
theorem nj {s : aM} {S : List Nat} (ha : cl s S) (m : Nat) : cl (s.snd m) S:=by
  intro h0 a e
  have h1 : s.l≠[]:=fun h=>h0 (by show s.l.drop m=[];rw [h];simp)
  have e' : (if s.cap=m then s.ad else s.ad.map (·.add (m * 1)))=some a:=e
  split at e'
  · exact ha h1 a e'
  · cases had : s.ad with
    | none=>rw [had] at e';cases e'
    | some a2=>
      rw [had] at e'
      have:=ha h1 a2 had
      obtain rfl:=Option.some.inj e'
      have hb : (a2.add (m * 1)).block=a2.block:=by unfold Addr.add;split <;> rfl
      show ¬ (a2.add (m * 1)).block ∈ S
      rw [hb]
      exact this
end de
end
section
set_option maxRecDepth 10000
open Sl
section
variable {P : Program} {n : Nat} {E : Env} {C : World→Prop} {dst : Option Tmp} {t t' ty : TypeId} {pos : String} {aft : Array Edge} {g : Option (Nat × Bool)} {x y : Operand}
end
end
section
namespace Sl
section
variable {P : Program} {n : Nat} {w0 : World} {S : List Nat} {ops : Array Oper} {Q : Exit→Act→World→Prop} {l : List Oper} {E : Env} {M : List az} {d : Nat} {t tx e ty : TypeId} {pos : String} {aft : Array Edge} {x y : Operand}
theorem iO {w : World} {i : TypeInfo} (hu : P.underlying t=some (.slice e)) (hk : P.underlying tx=some .string) (hi : P.info? e=some i) :
    (Builtin.append_ #[t,tx] ty #[.slice none 0 0,Z []]).run P w=.ok (.slice none 0 0) w:=by
  simp [Builtin.append_,Z,aD,run_underlying hu,run_underlying hk,sizeOf,typeInfo,hi,Builtin.lenOf,Builtin.firstCells,storeCells]
  rw [if_pos (show (⟨#[]⟩ : ByteArray)=ByteArray.empty from rfl)]
  rfl
theorem JL.pE {r : List Bt} {xs : List Value} (q : Acc) (hu : P.underlying t=some (.slice e)) (hk : P.underlying tx=some .string) (hi : EI P e (.int .u8 0) 1 1) (hq : q=none→xs=[]) (hx : ev E x=some (af q xs.length)) (hy : ev E y=some (Z r))
    (hsm : (xs.length+r.length)≤140737488355328) (hd : Nat.blt d n=true)
    (kk : ∀ q' : Acc,(q'=none→xs++r.map U8=[])→JL P n w0 S ops Q l ((d,af q' (xs++r.map U8).length)::E) (aA e q' (xs++r.map U8)++M)) : JL P n w0 S ops Q (⟨some d,.call ⟨.builtin .append,#[x,y],#[t,tx]⟩,ty,pos,aft,none⟩::l) E (aA e q xs++M):=by
  by_cases h0 : r=[]
  · subst h0
    cases q with
    | none=>
      obtain rfl:=hq rfl
      refine ⟨fun a w ha hw=>wpList_plain rfl fun K hK=>?_⟩
      obtain ⟨i,hi1,_⟩:=hi.get
      have hx' : a.eval x=.slice none 0 0:=ha.eval hx
      unfold Oper.wp
      simp only [execOp,resolve,invoke,builtin,Sem.run_bind,Sem.run_pure,Result.andThen_ok,List.map_toArray,List.map_cons,List.map_nil,hx',ha.eval hy]
      rw [iO hu hk hi1]
      exact hK _ _ ((kk none fun _=>rfl).go _ _ (ha.put d _ hd) hw)
    | some p=>
      have e1 : (xs++([] : List Bt).map U8).length=xs.length+([] : List Bt).length:=by simp
      refine JL.ld (b:=p.1) (cap:=p.2) (k:=xs.length) (xs:=xs) (fun b' cap'=>aA e (some (b',cap')) (xs++([] : List Bt).map U8)++M) hu hk hi hx hy (fun b' cap'=>?_) hsm hd fun b' cap'=>?_
      · show bG (⟨p.1,Sl.aY e 1 xs.length p.2 xs,true⟩::M) _ _ _ _ (⟨b',Sl.aY e 1 (xs++([] : List Bt).map U8).length cap' (xs++([] : List Bt).map U8),true⟩::M)
        rw [e1]
        exact .here
      · have:=kk (some (b',cap')) nofun
        rw [e1] at this
        exact this
  · exact JL.c8 q hu hk hi hq hx hy h0 hsm hd fun p=>kk (some p) nofun
end
end Sl
end
section
set_option maxRecDepth 10000
open Sl
namespace de
theorem JC.rR {P : Program} {n : Nat} {w0 : World} {S : List Nat} {Q : Exit→Act→World→Prop} {E : Env} {M : List az} {ι : Type} (l : Nat) (Ei : ι→Env) (Mi : ι→List az) (μ : ι→Nat) (I : ι→Prop) {c rest : Code} (hf : findLabel c l=some (.seq .skip rest))
    (pass : ∀ i,I i→JC P n w0 S (Exit.jump l (pX n w0 S Ei Mi fun j=>I j∧μ j<μ i) Q) rest (Ei i) (Mi i))
    (first : (∀ i,I i→JC P n w0 S (Exit.jump l (pX n w0 S Ei Mi I) Q) rest (Ei i) (Mi i))→JC P n w0 S (Exit.jump l (pX n w0 S Ei Mi I) Q) c E M) : JC P n w0 S Q (.scope c) E M:=
  JC.scope l Ei Mi μ I hf (first fun i hi=>(pass i hi).mono fun e a w hq=>by
    cases e with
    | goto l'=>exact ⟨hq.1,let ⟨j,h1,h2⟩:=hq.2;⟨j,h1.1,h2⟩⟩
    | _=>exact hq) fun i hi=>JC.seq (JC.skip (JE.next (pass i hi)))
structure Fd where
  z : Pw
  S : Po
  r : aM
  q : Acc
  o : List Bt
def pF (b : Nat) (S : Po) (l : List Bt) (S0 : List Nat) (w : World) : Ending→World→Prop:=fun e w'=>∃ i : {p : Pw × Acc // (p.1.ok∧p.1.is (ay S l).1)∧(p.2=none→(ay S l).2=[])},e=.returned (af i.1.2 (ay S l).2.length)∧aa w S0 (i.1.1.E b++aA 5 i.1.2 ((ay S l).2.map U8)) w'
theorem lO {S S1 : Po} {l r o : List Bt} (h : ay S l=((ay S1 r).1,o++(ay S1 r).2)) (h2 : ay S1 r=(S1,[])) : ay S l=(S1,o):=by
  rw [h,h2,List.append_nil]
theorem pG : ∀ v ∈ ([U8 13,U8 10] : List Value),v.cells=#[v]:=by
  intro v hv
  simp only [List.mem_cons,List.not_mem_nil,or_false] at hv
  rcases hv with rfl | rfl <;> rfl
theorem pH (S : Po) (l : List By) : (aP S l).2.length≤11:=by
  unfold aP
  split
  · split
    · show ((dB S).2++[13,10]).length≤11
      exact (by decide : (jk++[13,10]).length≤11)
    · exact Nat.zero_le _
  · have:=iN S l
    show ((aO S l).2++[13,10]).length≤11
    rw [List.length_append]
    show _+2≤11
    omega
set_option maxHeartbeats 32000000 in
theorem pI (b : Nat) (z : Pw) (S : Po) (ok : z.ok) (hs : z.is S) (wf : S.wf) (s : aM) (hsl : s.l.length≤900000) (hft : S.fit (900000 - s.l.length)) (w : World) (hm : en w (keys (z.E b))) (hok : s.ok w) (haw : cl s (keys (z.E b))) (h0 : aa w (keys (z.E b)) (z.E b) w) : Calls Tryz.prog 10 [Pt b 0,s.v].toArray w (pF b S s.l (keys (z.E b)) w):=by
  generalize hS : keys (z.E b)=S0 at h0 hm haw ⊢
  unfold pF
  refine enter (n:=38) Tryz.func10 rfl rfl rfl h0 ?_
  repeat (first | refine JL.q (by (apply OQ.assign;rfl)) rfl ?_ | refine JC.seq ?_ | refine JC.region ?_ | refine JL.nil ?_ | refine JE.next ?_)
  refine JC.rR (ι:=Fd) 0 (fun i=>[(0,Pt b 0),(1,i.r.v),(5,af i.q i.o.length)]) (fun i=>i.z.E b++aA 5 i.q (i.o.map U8)) (fun i=>i.r.l.length)
    (fun i=>(i.z.ok∧i.z.is i.S)∧(i.S.wf∧i.S.fit (900000 - i.r.l.length))∧i.r.l.length≤900000∧(i.r.ok w∧cl i.r S0)∧(i.q=none→i.o=[])∧i.o.length+11 * i.r.l.length≤9900000∧ay S s.l=((ay i.S i.r.l).1,i.o++(ay i.S i.r.l).2)) rfl ?_ ?_
  · rintro ⟨z,T,r,q,o⟩ ⟨⟨zok,zis⟩,⟨Twf,Tfit⟩,hrl,⟨rok,raw⟩,hq,hol,hfe⟩
    dsimp only at zok zis Twf Tfit hrl rok raw hq hol hfe ⊢
    have ccl : ∀ w',aa w S0 (z.E b++aA 5 q (o.map U8)) w'→Calls Tryz.prog 13 [Pt b 0].toArray w' fun e w2=>e=.returned (.bool (decide (z.st=5)))∧Ext w' w2:=fun w' hw'=>ga b z w' ((dU hw').weak (.keep _ _ _ _ _ _ (fun _ h=>h) (.nil _)))
    cases h5 : decide (z.st=5) with
    | true=>
      rw [h5] at ccl
      have h5' : T.st=5:=zis.st.symm.trans (of_decide_eq_true h5)
      have hfe2:=lO hfe (fG h5' r.l)
      rw [hfe2]
      repeat (first | refine JL.q (by first|(apply OQ.ah (vs:=[Pt b 0]);exact bO;rfl;exact (fun w' hw'=>ccl w' hw'))|(apply OQ.aN;rfl;rfl)|(apply OQ.move;rfl)) rfl ?_ | refine JC.seq ?_ | refine JC.region ?_ | refine JL.nil ?_ | refine JE.next ?_ | refine JL.bh rfl rfl rfl rfl ?_)
      refine JC.cond_true rfl rfl ?_
      repeat (first | refine JL.q (by first|(apply OQ.move;rfl)|(apply OQ.assign;rfl)) rfl ?_ | refine JC.seq ?_ | refine JC.region ?_ | refine JL.nil ?_ | refine JE.next ?_)
      refine JC.ret (JE.ag (JE.cU ?_))
      exact JE.av rfl (RV.tmp rfl) fun w' hw=>⟨⟨(z,q),⟨zok,zis⟩,hq⟩,rfl,hw⟩
    | false=>
      rw [h5] at ccl
      have h5' : T.st≠5:=fun e=>of_decide_eq_false h5 (zis.st.trans e)
      cases hr0 : decide (r.l.length=0) with
      | true=>
        have hrn : r.l=[]:=List.eq_nil_of_length_eq_zero (of_decide_eq_true hr0)
        have hfe2:=lO hfe (by rw [hrn];rfl)
        rw [hfe2]
        repeat (first | refine JL.q (by first|(apply OQ.ah (vs:=[Pt b 0]);exact bO;rfl;exact (fun w' hw'=>ccl w' hw'))|(apply OQ.aH;rfl;rfl)|(apply OQ.len (k:=r.l.length) (ad:=r.ad) (cap:=r.cap);exact Tryz.underlying22;rfl)|(apply OQ.fZ (b:=0);rfl;rfl;exact hr0)|(apply OQ.move;rfl)) rfl ?_ | refine JC.seq ?_ | refine JC.region ?_ | refine JL.nil ?_ | refine JE.next ?_ | refine JL.aV rfl rfl ?_)
        refine JC.cond_true rfl rfl ?_
        repeat (first | refine JL.q (by first|(apply OQ.move;rfl)|(apply OQ.assign;rfl)) rfl ?_ | refine JC.seq ?_ | refine JC.region ?_ | refine JL.nil ?_ | refine JE.next ?_)
        refine JC.ret (JE.ag (JE.cU ?_))
        exact JE.av rfl (RV.tmp rfl) fun w' hw=>⟨⟨(z,q),⟨zok,zis⟩,hq⟩,rfl,hw⟩
      | false=>
        have hrp : 0<r.l.length:=Nat.pos_of_ne_zero (of_decide_eq_false hr0)
        repeat (first | refine JL.q (by first|(apply OQ.ah (vs:=[Pt b 0]);exact bO;rfl;exact (fun w' hw'=>ccl w' hw'))|(apply OQ.aH;rfl;rfl)|(apply OQ.len (k:=r.l.length) (ad:=r.ad) (cap:=r.cap);exact Tryz.underlying22;rfl)|(apply OQ.fZ (b:=0);rfl;rfl;exact hr0)|(apply OQ.move;rfl)) rfl ?_ | refine JC.seq ?_ | refine JC.region ?_ | refine JL.nil ?_ | refine JE.next ?_ | refine JL.aV rfl rfl ?_)
        refine JC.cond_false rfl rfl ?_
        repeat (first | refine JL.q (by (apply OQ.move;rfl)) rfl ?_ | refine JC.seq ?_ | refine JC.region ?_ | refine JC.skip ?_ | refine JE.next ?_)
        obtain ⟨k,hk⟩ : ∃ k,kw (mo T.st) r.l=k:=⟨_,rfl⟩
        have hkp : 0<k:=hk ▸ rQ hrp (by unfold mo;split <;> omega)
        have hkl : k≤r.l.length:=hk ▸ qY _ _
        have hkn : ∀ c ∈ (r.l.take k).dropLast,c≠10:=hk ▸ sS _ _
        have hx0 : r.l.take k≠[]:=fun h=>by
          have:=congrArg List.length h
          rw [List.length_take,List.length_nil] at this
          omega
        have hTsz : T.ln.length+r.l.length≤1000000:=by
          have:=Tfit.sz
          unfold Po.sz at this
          omega
        have hpf:=gK T (r.l.take k) _ Tfit
        have hpw:=jT Twf Tfit.to hx0 hkn
        have hpc:=dH (r.l.take k) T h5' hx0 hkn
        have hrs : (r.snd k).l=r.l.drop k:=rfl
        have hrsl : (r.snd k).l.length=r.l.length - k:=by rw [hrs,List.length_drop]
        have hfe3 : ay T r.l=((ay (aS T (r.l.take k)).1 (r.snd k).l).1,(aS T (r.l.take k)).2++(ay (aS T (r.l.take k)).1 (r.snd k).l).2):=by
          rw [← hpc,hrs,← eU,List.take_append_drop]
        have hpf' : (aS T (r.l.take k)).1.fit (900000 - (r.snd k).l.length):=by
          have e1 : 900000 - r.l.length+(r.l.take k).length=900000 - (r.snd k).l.length:=by rw [hrsl,List.length_take];omega
          exact e1 ▸ hpf
        have hfe4 : ay S s.l=((ay (aS T (r.l.take k)).1 (r.snd k).l).1,(o++(aS T (r.l.take k)).2)++(ay (aS T (r.l.take k)).1 (r.snd k).l).2):=by
          rw [hfe,hfe3,List.append_assoc]
        have rok2 : (r.snd k).ok w:=rok.snd k hkl
        have raw2 : cl (r.snd k) S0:=nj raw k
        obtain ⟨x,hx⟩ : ∃ x,r.l.take k=x:=⟨_,rfl⟩
        rw [hx] at hpf' hpw hfe4
        refine JL.fM (X:=z.E b) (M0:=aA 5 q (o.map U8)) (ι:={y : Pw // y.ok∧y.is ⟨T.st,T.fr,T.to,T.ln++x,T.dt,T.ms⟩}) (vs:=[Pt b 0,r.v]) (fun _=>(r.snd k).v) (fun y=>y.1.E b) mY rfl rfl (z.wr b) (fun y=>Pw.wr b _) (fun w' hw' hx'=>by
          refine (pq b z T zok zis r hrp hTsz w' (qW rok hw' raw) (ni hw' (z.wr b) rok raw) hx').mono fun e w2 ⟨y,h1,h2,h3⟩=>?_
          rw [hk] at h1 h2
          rw [hx] at h1
          exact ⟨⟨y,h1⟩,h2,h3⟩) fun y=>?_
        obtain ⟨y,yok,yis⟩:=y
        dsimp only
        repeat (first | refine JL.q (by first|(apply OQ.load;exact b5;rfl;exact .here;exact (Row.cell (v:=af y.ql y.ln.length) rfl))|(apply OQ.move;rfl)|(apply OQ.assign;rfl)|(apply OQ.aI;rfl)|(apply OQ.br;rfl;rfl;rfl;exact (by decide);rfl)) rfl ?_ | refine JC.seq ?_ | refine JC.region ?_ | refine JL.nil ?_ | refine JE.next ?_)
        refine JL.pU (xs:=[.const (U8 13),.const (U8 10)]) (vs:=[U8 13,U8 10]) Tryz.underlying22 fB rfl rfl rfl rfl pG rfl (by decide) (by decide) rfl fun bl _=>?_
        refine JL.mark (r:=[U8 13,U8 10]) (te:=5) Tryz.underlying22 Tryz.underlying5 rfl .here rfl ?_
        have hlv : aM.v (bP y.ql y.ln)=af y.ql y.ln.length:=fA _ _
        have hll : (bP y.ql y.ln).l=y.ln:=ie yok.l
        have hyl : y.ln.length≤1000000:=by
          have h1:=yis.ln
          have h2 : (ku ⟨T.st,T.fr,T.to,T.ln++x,T.dt,T.ms⟩).length≤(T.ln++x).length:=by
            unfold ku
            split
            · exact Nat.le_refl _
            · exact o8 _
          rw [h1]
          rw [List.length_append] at h2
          have : x.length≤r.l.length:=by rw [← hx,List.length_take];omega
          omega
        have hlo : ∀ {w' : World} {N1 : List az},aa w S0 (N1++((y.E b)++aA 5 q (o.map U8))) w'→(bP y.ql y.ln).ok w':=fun {w' N1} hw'=>by
          refine cP (e:=5) (q:=y.ql) (l:=y.ln) (M:=N1++(⟨b,Row 75 y.cs,true⟩::(y.T++(y.D++(y.M++aA 5 q (o.map U8)))))) (w0:=w) (S:=S0) (hw'.perm' ?_)
          exact aG fun _ _ v=>by simp only [Pw.E,Pw.R,Pw.L,List.count_append,List.count_cons];omega
        have hcs : ∀ w',aa w S0 (⟨bl,iY 5 [U8 13,U8 10],true⟩::(y.E b++aA 5 q (o.map U8))) w'→Calls Tryz.prog 33 [af y.ql y.ln.length,aM.v ⟨some ⟨bl,0,none⟩,2,[13,10]⟩].toArray w' fun e w2=>e=.returned (.tuple #[(if ends y.ln=true then (bP y.ql y.ln).fst (y.ln.length - 2) else bP y.ql y.ln).v,.bool (ends y.ln)])∧Ext w' w2:=fun w' hw'=>by
          have h1:=hlo (N1:=[_]) hw'
          have h2:=ng (bP y.ql y.ln) ⟨some ⟨bl,0,none⟩,2,[13,10]⟩ w' h1 (gf (l:=[13,10]) hw' .here (Nat.le_refl _)) rfl (by rw [hll];omega)
          rw [hlv,hll] at h2
          exact h2
        cases hen : ends y.ln with
        | false=>
          rw [hen,if_neg (by simp)] at hcs
          have heT : ends (T.ln++x)=false:=by
            rw [← hen,yis.ln]
            unfold ku
            split
            · rfl
            · exact (lN _).symm
          have hpn : aS T x=(⟨T.st,T.fr,T.to,T.ln++x,T.dt,T.ms⟩,[]):=by unfold aS;rw [heT];rfl
          rw [hpn] at hpf' hpw hfe4
          repeat (first | refine JL.q (by first|(apply OQ.ah (vs:=[af y.ql y.ln.length,aM.v ⟨some ⟨bl,0,none⟩,2,[13,10]⟩]);exact gi;rfl;exact hcs)|(apply OQ.extract;rfl;rfl)|(apply OQ.move;rfl)|(apply OQ.assign;rfl)) rfl ?_ | refine JC.seq ?_ | refine JC.region ?_ | refine JL.nil ?_ | refine JE.next ?_)
          refine JC.cond_false rfl rfl ?_
          repeat (first | refine JC.skip ?_ | refine JE.next ?_)
          refine JC.goto ?_
          refine JE.c9 ⟨y,_,r.snd k,q,o⟩ ⟨⟨⟨yok,yis⟩,⟨hpw,hpf'⟩,by show (r.snd k).l.length≤_;omega,⟨rok2,raw2⟩,hq,?_,?_⟩,?_⟩ (by repeat (first | exact ai.nil | refine ai.cons _ _ _ rfl ?_)) (.drop _ _ _ (ak.refl _))
          · show o.length+11 * (r.snd k).l.length≤_
            omega
          · rw [hfe4,List.append_nil]
          · show (r.snd k).l.length<r.l.length
            omega
        | true=>
          have hle:=dZ hen
          rw [hen,if_pos rfl] at hcs
          have heT : ends (T.ln++x)=true:=by
            rw [← hen,yis.ln]
            unfold ku
            split
            · rfl
            · exact (lN _).symm
          have hlineq : aP ⟨T.st,T.fr,T.to,[],T.dt,T.ms⟩ y.ln.dropLast.dropLast=aP ⟨T.st,T.fr,T.to,[],T.dt,T.ms⟩ (T.ln++x).dropLast.dropLast:=by
            rw [yis.ln]
            unfold ku
            split
            · rfl
            · rename_i h4
              exact nh heT h4
          have hpn : aS T x=aP ⟨T.st,T.fr,T.to,[],T.dt,T.ms⟩ y.ln.dropLast.dropLast:=by unfold aS;rw [heT,if_pos rfl,hlineq]
          rw [hpn] at hpf' hpw hfe4
          obtain ⟨⟨lb,lc⟩,hql⟩ : ∃ p,y.ql=some p:=by
            cases hq2 : y.ql with
            | none=>rw [yok.l hq2] at hen;cases hen
            | some p=>exact ⟨p,rfl⟩
          obtain ⟨line,hline⟩ : ∃ line,(bP y.ql y.ln).fst (y.ln.length - 2)=line:=⟨_,rfl⟩
          have hlnl : line.l=y.ln.dropLast.dropLast:=by
            rw [← hline]
            show (bP y.ql y.ln).l.take (y.ln.length - 2)=_
            rw [hll,List.dropLast_eq_take,List.dropLast_eq_take,List.length_take,List.take_take]
            congr 1
            omega
          have hlad : ∀ a,line.ad=some a→a.block=lb:=fun a ha=>by
            rw [← hline,hql] at ha
            have ha' : (if lc=0 then (some ⟨lb,0,none⟩ : Option Addr) else (some ⟨lb,0,none⟩ : Option Addr).map (·.add 0))=some a:=ha
            split at ha'
            · cases ha';rfl
            · cases ha';rfl
          rw [hline] at hcs
          repeat (first | refine JL.q (by first|(apply OQ.ah (vs:=[af y.ql y.ln.length,aM.v ⟨some ⟨bl,0,none⟩,2,[13,10]⟩]);exact gi;rfl;exact hcs)|(apply OQ.extract;rfl;rfl)|(apply OQ.move;rfl)|(apply OQ.assign;rfl)) rfl ?_ | refine JC.seq ?_ | refine JC.region ?_ | refine JL.nil ?_ | refine JE.next ?_)
          refine JC.cond_true rfl rfl ?_
          refine JC.oX (M':=⟨b,Row 75 y.cs,true⟩::(y.R++(⟨bl,iY 5 [U8 13,U8 10],true⟩::aA 5 q (o.map U8)))) ?_ (by exact aG fun _ _ v=>by simp only [Pw.E,List.count_append,List.count_cons];omega)
          repeat (first | refine JL.q (by first|(apply OQ.move;rfl)|(apply OQ.aI;rfl)|(apply OQ.br;rfl;rfl;rfl;exact (by decide);rfl)) rfl ?_ | refine JC.seq ?_ | refine JC.region ?_)
          refine JL.nR none [] rfl rfl ?_
          repeat (first | refine JL.q (by (apply OQ.move;rfl)) rfl ?_ | refine JC.region ?_ | refine JL.nil ?_ | refine JE.next ?_)
          obtain ⟨y0,hy0⟩ : ∃ y0 : Pw,y0={ y with ql:=none,ln:=[] }:=⟨_,rfl⟩
          have hy0ok : y0.ok:=by rw [hy0];exact ⟨yok.t,fun _=>rfl,yok.d,yok.m⟩
          have hy0is : y0.is ⟨T.st,T.fr,T.to,[],T.dt,T.ms⟩:=by rw [hy0];exact ⟨yis.st,yis.fr,yis.to,(ec rfl).symm,yis.dt,yis.ms⟩
          have hy0R : y0.R=y.T++(y.D++y.M):=by rw [hy0];rfl
          refine JL.perm (M':=y0.E b++(aA 5 y.ql (y.ln.map U8)++(⟨bl,iY 5 [U8 13,U8 10],true⟩::aA 5 q (o.map U8)))) ?_ ?_
          rotate_left
          · unfold Pw.E
            rw [hy0R,hy0]
            exact aG fun _ _ v=>by simp only [Pw.R,Pw.L,List.count_append,List.count_cons];omega
          have hao:=pH ⟨T.st,T.fr,T.to,[],T.dt,T.ms⟩ y.ln.dropLast.dropLast
          have hTs:=Tfit.sz
          have hans : ∀ w',en w' (keys (y0.E b))→line.ok w'→cl line (keys (y0.E b))→aa w' (keys (y0.E b)) (y0.E b) w'→Calls Tryz.prog 34 [Pt b 0,line.v].toArray w' (cj (keys (y0.E b)) b (aP ⟨T.st,T.fr,T.to,[],T.dt,T.ms⟩ y.ln.dropLast.dropLast) w'):=fun w' h1 h2 h3 h4=>by
            have:=kO b y0 ⟨T.st,T.fr,T.to,[],T.dt,T.ms⟩ hy0ok hy0is rfl Tfit.to Twf.dl line (by
              rw [hlnl]
              show _+T.dt.length+T.ms.length≤_
              unfold Po.sz at hTs
              have hyl2 : y.ln.length≤(T.ln++x).length:=by
                rw [yis.ln]
                unfold ku
                split
                · exact Nat.le_refl _
                · exact o8 _
              rw [List.length_append] at hyl2
              have : x.length≤r.l.length:=by rw [← hx,List.length_take];omega
              omega) w' h1 h2 h3 h4
            rw [hlnl] at this
            exact this
          generalize aP ⟨T.st,T.fr,T.to,[],T.dt,T.ms⟩ y.ln.dropLast.dropLast=ar at hpf' hpw hfe4 hao hans
          refine JL.fM (ι:={v : Pw // v.ok∧v.is ar.1}) (vs:=[Pt b 0,line.v]) (fun _=>Z ar.2) (fun v=>v.1.E b) jV rfl rfl (y0.wr b) (fun v=>Pw.wr b _) (fun w' hw' hx'=>by
            have hlk : line.ok w':=by
              have h1 : (bP y.ql y.ln).ok w':=cP (e:=5) (q:=y.ql) (l:=y.ln) (M:=y0.E b++(⟨bl,iY 5 [U8 13,U8 10],true⟩::aA 5 q (o.map U8))) (w0:=w) (S:=S0) (hw'.perm' (aG fun _ _ v=>by simp only [List.count_append,List.count_cons];omega))
              rw [← hline]
              exact h1.fst _
            have hla : cl line (keys (y0.E b)):=fun _ a ha=>by
              rw [hlad a ha]
              refine jq (b:=lb) (A:=Sl.aY 5 1 (y.ln.map U8).length lc (y.ln.map U8)) (M:=aA 5 y.ql (y.ln.map U8)++(⟨bl,iY 5 [U8 13,U8 10],true⟩::aA 5 q (o.map U8))) (wr:=true) hw' ?_
              rw [hql]
              exact .here
            exact (hans w' (hm.sub hw' (y0.wr b)) hlk hla hx').mono fun e w2 ⟨v,h1,h2,h3⟩=>⟨⟨v,h1⟩,h2,h3⟩) fun v=>?_
          obtain ⟨v,vok,vis⟩:=v
          dsimp only
          refine JL.cR (M':=v.E b++aA 5 q (o.map U8)) ?_ (cV (ak.refl _) (fy _ (.drop _ _ _ (ak.refl _))))
          refine JL.perm (M':=aA 5 q (o.map U8)++v.E b) ?_ List.perm_append_comm
          refine JL.pE (r:=ar.2) q Tryz.underlying22 Tryz.underlying9 fB (fun h=>by rw [hq h];rfl) (by rw [List.length_map];rfl) rfl (by rw [List.length_map];omega) rfl fun q2 hq2=>?_
          rw [← List.map_append] at hq2 ⊢
          rw [List.length_map]
          refine JL.perm (M':=v.E b++aA 5 q2 ((o++ar.2).map U8)) ?_ List.perm_append_comm
          repeat (first | refine JL.q (by (apply OQ.assign;rfl)) rfl ?_ | refine JL.nil ?_ | refine JE.next ?_)
          refine JC.goto ?_
          refine JE.c9 ⟨v,ar.1,r.snd k,q2,o++ar.2⟩ ⟨⟨⟨vok,vis⟩,⟨hpw,hpf'⟩,by show (r.snd k).l.length≤_;omega,⟨rok2,raw2⟩,(fun h=>List.map_eq_nil_iff.1 (hq2 h)),?_,hfe4⟩,?_⟩ (by repeat (first | exact ai.nil | refine ai.cons _ _ _ rfl ?_)) (ak.refl _)
          · show (o++ar.2).length+11 * (r.snd k).l.length≤_
            rw [List.length_append]
            omega
          · show (r.snd k).l.length<r.l.length
            omega
  · intro hp
    refine JC.seq (JC.region ?_)
    repeat (refine JL.q (by (apply OQ.assign;rfl)) rfl ?_)
    refine JL.nil (JE.next ?_)
    refine JC.seq (JC.label (JE.next ?_))
    refine (hp ⟨z,S,s,none,[]⟩ ⟨⟨ok,hs⟩,⟨wf,hft⟩,hsl,⟨hok,haw⟩,fun _=>rfl,?_,?_⟩).weak (by repeat (first | exact ai.nil | refine ai.cons _ _ _ rfl ?_)) ?_
    · show 0+11 * s.l.length≤_
      omega
    · show ay S s.l=((ay S s.l).1,[]++(ay S s.l).2)
      rw [List.nil_append]
    · show ak (z.E b++[]) (z.E b)
      rw [List.append_nil]
      exact ak.refl _
end de
end
end Go.Proofs.YtjeeilmkjjbonaaGreatDoor
