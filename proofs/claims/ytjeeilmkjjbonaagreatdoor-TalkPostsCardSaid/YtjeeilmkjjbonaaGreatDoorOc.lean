/-
  Of no statement by itself: the texts TalB, TalC, FieW, FibA, TalD, LinB, LinK, LinC, LinW, LinA, LinH, LinY, Slfl, LinI, LinM, LinX, LinZ, LinU, Slal, LinD, TalU, TalO, TalQ, TalV, TalE, LsB in one.
  Conditions: each theorem's own.
-/
import Derived.Test.YtjeeilmkjjbonaaGreatDoorOb
import Derived.Laws.Cover3
import Derived.Lib.IndexMore
import Derived.Shelf.Bytes.SlCut
import Derived.Laws.ComplexArith
import Derived.Shelf.Bytes.SlIndexAt
import Derived.Lib.BytesEntry
set_option linter.unusedSimpArgs false
set_option linter.unusedVariables false
namespace Go.Proofs.YtjeeilmkjjbonaaGreatDoor
section
set_option maxRecDepth 10000
open Sl
namespace dx
def dP (S0 : List Nat) (b : Nat) (r : Po × List Bt) (w : World) : Ending→World→Prop:=fun e w'=>∃ z : Pw,(z.ok∧z.is r.1)∧e=.returned (Z r.2)∧aa w S0 (z.E b) w'
theorem dQ : aK Tryz.prog 13:=⟨_,Tryz.func13,rfl,by kernel_rfl⟩
theorem sY : aK Tryz.prog 69:=⟨_,Tryz.func69,rfl,by kernel_rfl⟩
theorem gC : aK Tryz.prog 105:=⟨_,Tryz.func105,rfl,by kernel_rfl⟩
theorem ov : aK Tryz.prog 140:=⟨_,Tryz.func140,rfl,by kernel_rfl⟩
theorem mU : aK Tryz.prog 141:=⟨_,Tryz.func141,rfl,by kernel_rfl⟩
theorem qH : aK Tryz.prog 142:=⟨_,Tryz.func142,rfl,by kernel_rfl⟩
theorem ow : aK Tryz.prog 143:=⟨_,Tryz.func143,rfl,by kernel_rfl⟩
theorem ox : aK Tryz.prog 144:=⟨_,Tryz.func144,rfl,by kernel_rfl⟩
theorem qI : aK Tryz.prog 145:=⟨_,Tryz.func145,rfl,by kernel_rfl⟩
theorem jx : aK Tryz.prog 106:=⟨_,Tryz.func106,rfl,by kernel_rfl⟩
theorem bX : aK Tryz.prog 175:=⟨_,Tryz.func175,rfl,by kernel_rfl⟩
theorem ko : aK Tryz.prog 159:=⟨_,Tryz.func159,rfl,by kernel_rfl⟩
theorem fI : aK Tryz.prog 208:=⟨_,Tryz.func208,rfl,by kernel_rfl⟩
theorem fJ : aK Tryz.prog 178:=⟨_,Tryz.func178,rfl,by kernel_rfl⟩
theorem gd : aK Tryz.prog 146:=⟨_,Tryz.func146,rfl,by kernel_rfl⟩
section
variable {P : Program} {n : Nat} {E : Env} {C : World→Prop} {dst : Option Tmp} {t t' ty : TypeId} {pos : String} {aft : Array Edge} {g : Option (Nat × Bool)} {x y : Operand} {c : Bool}
theorem OQ.eX {a b : Nat} (hx : ev E x=some (N a)) (hy : ev E y=some (N b)) (h : decide (a=b)=c) : OQ P n E C ⟨dst,.binOp .eql t x y t',ty,pos,aft,g⟩ (.bool c):=
  OQ.gH hx hy ((decide_eq_decide.2 (by omega)).trans h)
theorem OQ.dI {a b : Nat} (hx : ev E x=some (N a)) (hy : ev E y=some (N b)) (h : decide (a=b)=c) : OQ P n E C ⟨dst,.binOp .neq t x y t',ty,pos,aft,g⟩ (.bool (!c)):=
  OQ.nG hx hy ((decide_eq_decide.2 (by omega)).trans h)
end
theorem jz (b : Nat) (z : Pw) (w : World) (h0 : aa w [] [⟨b,Row 75 z.cs,false⟩] w) : Calls Tryz.prog 13 [Pt b 0].toArray w fun e w'=>e=.returned (.bool (decide (z.st=5)))∧Ext w w':=by
  refine enter (n:=8) Tryz.func13 rfl rfl rfl h0 ?_
  repeat (first | refine JL.q (by first|(apply OQ.load;exact bV;rfl;exact .here;exact (Row.cell (v:=N z.st) rfl))|(apply OQ.move;rfl)|(apply OQ.assign;rfl)|(apply OQ.aJ;rfl)|(apply OQ.yB;rfl;rfl)|(apply OQ.bA;rfl;rfl;rfl;exact (by decide);rfl)) rfl ?_ | refine JC.seq ?_ | refine JC.region ?_ | refine JL.nil ?_ | refine JE.next ?_)
  refine JC.ret ?_
  skip
  exact JE.aE rfl (RV.tmp rfl) fun w' hw=>⟨rfl,hw.aS⟩
theorem u7 (b : Nat) (z : Pw) (w : World) (h0 : aa w [] [⟨b,Row 75 z.cs,false⟩] w) : Calls Tryz.prog 69 [Pt b 0].toArray w fun e w'=>e=.returned (N (if z.st=4 then 4194304 else 513))∧Ext w w':=by
  refine enter (n:=8) Tryz.func69 rfl rfl rfl h0 ?_
  cases h : decide (z.st=4) with
  | true=>
    rw [if_pos (of_decide_eq_true h)]
    repeat (first | refine JL.q (by first|(apply OQ.load;exact bV;rfl;exact .here;exact (Row.cell (v:=N z.st) rfl))|(apply OQ.eX;rfl;rfl;exact h)|(apply OQ.move;rfl)|(apply OQ.assign;rfl)|(apply OQ.aJ;rfl)|(apply OQ.bA;rfl;rfl;rfl;exact (by decide);rfl)) rfl ?_ | refine JC.seq ?_ | refine JC.region ?_ | refine JL.nil ?_ | refine JE.next ?_)
    refine JC.cond_true rfl rfl ?_
    repeat (first | refine JL.q (by (apply OQ.assign;rfl)) rfl ?_ | refine JC.seq ?_ | refine JC.region ?_ | refine JL.nil ?_ | refine JE.next ?_)
    refine JC.ret ?_
    repeat (refine JE.ah ?_)
    exact JE.aE rfl (RV.tmp rfl) fun w' hw=>⟨rfl,hw.aS⟩
  | false=>
    rw [if_neg (of_decide_eq_false h)]
    repeat (first | refine JL.q (by first|(apply OQ.load;exact bV;rfl;exact .here;exact (Row.cell (v:=N z.st) rfl))|(apply OQ.eX;rfl;rfl;exact h)|(apply OQ.move;rfl)|(apply OQ.assign;rfl)|(apply OQ.aJ;rfl)|(apply OQ.bA;rfl;rfl;rfl;exact (by decide);rfl)) rfl ?_ | refine JC.seq ?_ | refine JC.region ?_ | refine JL.nil ?_ | refine JE.next ?_)
    refine JC.cond_false rfl rfl ?_
    repeat (first | refine JL.q (by (apply OQ.assign;rfl)) rfl ?_ | refine JC.seq ?_ | refine JC.region ?_ | refine JC.skip ?_ | refine JL.nil ?_ | refine JE.next ?_)
    refine JC.ret ?_
    skip
    exact JE.aE rfl (RV.tmp rfl) fun w' hw=>⟨rfl,hw.aS⟩
def Pw.bL (z : Pw) (k : Nat) : Pw:=⟨k,[],none,[],z.ql,z.ln,none,[],z.qm,z.zs⟩
theorem Pw.lp {z : Pw} (h : z.ok) (k : Nat) : (z.bL k).ok:=⟨fun _=>rfl,h.l,fun _=>rfl,h.m⟩
theorem Pw.lq {z : Pw} {S : Po} (h : z.is S) (hn : S.ln=[]) (k : Nat) : (z.bL k).is (dx.bL S k):=⟨rfl,rfl,rfl,h.ln.trans ((gy hn).trans (gy (S:=dx.bL S k) hn).symm),rfl,h.ms⟩
theorem qJ (z : Pw) (k : Nat) : av (z.bL k).R z.R:=dF (.nil _) (dF (av.refl _) (dF (.nil _) (av.refl _)))
theorem mV (b : Nat) (z : Pw) (w : World) (h0 : aa w (keys (z.E b)) (z.E b) w) : Calls Tryz.prog 105 [Pt b 0].toArray w fun e w'=>e=.returned (.tuple #[])∧aa w (keys (z.E b)) ((z.bL 1).E b) w':=by
  generalize hS : keys (z.E b)=S0 at h0 ⊢
  refine enter (n:=14) Tryz.func105 rfl rfl rfl h0 ?_
  repeat (first | refine JL.q (by first|(apply OQ.move;rfl)|(apply OQ.aJ;rfl)|(apply OQ.bA;rfl;rfl;rfl;exact (by decide);rfl)) rfl ?_ | refine JC.seq ?_ | refine JC.region ?_)
  refine JL.jj 1 rfl rfl ?_
  repeat (first | refine JL.q (by first|(apply OQ.move;rfl)|(apply OQ.aJ;rfl)|(apply OQ.bA;rfl;rfl;rfl;exact (by decide);rfl)) rfl ?_ | refine JC.region ?_ | refine JL.nil ?_ | refine JE.next ?_)
  refine JL.sw [] rfl rfl ?_
  repeat (refine JL.q (by first|(apply OQ.aJ;rfl)|(apply OQ.bA;rfl;rfl;rfl;exact (by decide);rfl)) rfl ?_)
  refine JL.o9 none [] rfl rfl ?_
  repeat (refine JL.q (by first|(apply OQ.aJ;rfl)|(apply OQ.bA;rfl;rfl;rfl;exact (by decide);rfl)) rfl ?_)
  refine JL.pe none [] rfl rfl ?_
  repeat (refine JL.nil ?_)
  exact JE.uA rfl fun w' hw=>⟨rfl,hw.weak (.keep _ _ _ _ _ _ (fun _ h=>h) (qJ z 1))⟩
theorem JL.lu {n : Nat} {w0 : World} {S : List Nat} {ops : Array Oper} {Q : Exit→Act→World→Prop} {l : List Oper} {E : Env} {d : Nat} {ty : TypeId} {pos : String} {aft : Array Edge} {x : Operand} {ats : Array TypeId} {b : Nat} {z : Pw}
    (hx : ev E x=some (Pt b 0)) (hd : Nat.blt d n=true) (kk : JL Tryz.prog n w0 S ops Q l ((d,.tuple #[])::E) ((z.bL 1).E b)) : JL Tryz.prog n w0 S ops Q (⟨some d,.call ⟨.value (.func 105),#[x],ats⟩,ty,pos,aft,none⟩::l) E (z.E b):=by
  refine JL.perm ?_ (List.Perm.of_eq (List.append_nil _).symm)
  refine JL.fQ (xs:=[x]) (ι:=Unit) (vs:=[Pt b 0]) (fun _=>.tuple #[]) (fun _=>(z.bL 1).E b) gC (by simp [eO,hx]) hd (z.wr b) (fun _=>Pw.wr b _) (fun w' _ hx=>(mV b z w' hx).mono fun e w2 ⟨h1,h2⟩=>⟨(),h1,h2⟩) fun _=>?_
  rw [List.append_nil]
  exact kk
theorem xE (t : List Bt) (c : Bt) : decide (t.take 1=[c])=decide (t.head?=some c):=by
  refine decide_eq_decide.2 ?_
  cases t <;> simp
theorem qK (b : Nat) (z : Pw) (S : Po) (ok : z.ok) (hs : z.is S) (hn : S.ln=[]) (t : List Bt) (w : World) (h0 : aa w (keys (z.E b)) (z.E b) w) : Calls Tryz.prog 140 [Pt b 0,Z t].toArray w (dP (keys (z.E b)) b (cZ S t) w):=by
  generalize hS : keys (z.E b)=S0 at h0 ⊢
  have hc:=fun w'=>sX t [32] w'
  rw [show ([32] : List Bt).length=1 from rfl,xE] at hc
  cases h : decide (t.head?=some 32) with
  | true=>
    rw [h] at hc
    rw [show cZ S t=(bL S 1,er) from if_pos (of_decide_eq_true h)]
    refine enter (n:=10) Tryz.func140 rfl rfl rfl h0 ?_
    repeat (first | refine JL.q (by first|(apply OQ.ak (vs:=[Z t,Z [32]]);exact ko;rfl;exact (fun w' _=>hc w'))|(apply OQ.not;rfl)|(apply OQ.move;rfl)|(apply OQ.assign;rfl)) rfl ?_ | refine JC.seq ?_ | refine JC.region ?_ | refine JL.nil ?_ | refine JE.next ?_)
    refine JC.cond_false rfl rfl ?_
    repeat (first | refine JL.q (by (apply OQ.move;rfl)) rfl ?_ | refine JC.seq ?_ | refine JC.region ?_ | refine JC.skip ?_ | refine JE.next ?_)
    refine JL.lu rfl rfl ?_
    repeat (first | refine JL.q (by (apply OQ.assign;rfl)) rfl ?_ | refine JC.seq ?_ | refine JC.region ?_ | refine JL.nil ?_ | refine JE.next ?_)
    refine JC.ret ?_
    skip
    exact JE.aE rfl (RV.tmp rfl) fun w' hw=>⟨z.bL 1,⟨Pw.lp ok 1,Pw.lq hs hn 1⟩,rfl,hw⟩
  | false=>
    rw [h] at hc
    rw [show cZ S t=(S,cV) from if_neg (of_decide_eq_false h)]
    refine enter (n:=10) Tryz.func140 rfl rfl rfl h0 ?_
    repeat (first | refine JL.q (by first|(apply OQ.ak (vs:=[Z t,Z [32]]);exact ko;rfl;exact (fun w' _=>hc w'))|(apply OQ.not;rfl)|(apply OQ.move;rfl)|(apply OQ.assign;rfl)) rfl ?_ | refine JC.seq ?_ | refine JC.region ?_ | refine JL.nil ?_ | refine JE.next ?_)
    refine JC.cond_true rfl rfl ?_
    repeat (first | refine JL.q (by (apply OQ.assign;rfl)) rfl ?_ | refine JC.seq ?_ | refine JC.region ?_ | refine JL.nil ?_ | refine JE.next ?_)
    refine JC.ret ?_
    repeat (refine JE.ah ?_)
    exact JE.aE rfl (RV.tmp rfl) fun w' hw=>⟨z,⟨ok,hs⟩,rfl,hw⟩
end dx
end
section
set_option maxRecDepth 10000
open Sl
namespace dx
def Pw.vK (z : Pw) (k : Nat) : Pw:={ z with st:=k }
theorem Pw.xF {z : Pw} (h : z.ok) (k : Nat) : (z.vK k).ok:=⟨h.t,h.l,h.d,h.m⟩
theorem hG {S : Po} (hn : S.ln=[]) {z : Pw} (h : z.is S) (T : Po) (hT : T.ln=[]) : z.ln=oe T:=h.ln.trans ((gy hn).trans (gy hT).symm)
set_option maxHeartbeats 4000000
theorem qL (b : Nat) (z : Pw) (S : Po) (ok : z.ok) (hs : z.is S) (hn : S.ln=[]) (t : List Bt) (w : World) (h0 : aa w (keys (z.E b)) (z.E b) w) : Calls Tryz.prog 143 [Pt b 0,Z t].toArray w (dP (keys (z.E b)) b (cx S t) w):=by
  generalize hS : keys (z.E b)=S0 at h0 ⊢
  unfold cx
  cases h1 : decide (t=[]) with
  | false=>
    rw [if_neg (of_decide_eq_false h1)]
    refine enter (n:=17) Tryz.func143 rfl rfl rfl h0 ?_
    repeat (first | refine JL.q (by first|(apply OQ.gv (r:=[]);rfl;rfl;exact h1)|(apply OQ.move;rfl)|(apply OQ.assign;rfl)) rfl ?_ | refine JC.seq ?_ | refine JC.region ?_ | refine JC.block ?_ | refine JL.nil ?_ | refine JE.next ?_)
    refine JC.cond_true rfl rfl ?_
    repeat (first | refine JL.q (by (apply OQ.assign;rfl)) rfl ?_ | refine JC.seq ?_ | refine JC.region ?_ | refine JL.nil ?_ | refine JE.next ?_)
    refine JC.ret ?_
    repeat (first | refine JE.ah ?_ | refine JE.aZ ?_)
    exact JE.aE rfl (RV.tmp rfl) fun w' hw=>⟨z,⟨ok,hs⟩,rfl,hw⟩
  | true=>
    rw [if_pos (of_decide_eq_true h1)]
    cases h2 : decide (z.st=3) with
    | false=>
      rw [if_neg (fun e=>of_decide_eq_false h2 (hs.st.trans e))]
      refine enter (n:=17) Tryz.func143 rfl rfl rfl h0 ?_
      repeat (first | refine JL.q (by first|(apply OQ.gv (r:=[]);rfl;rfl;exact h1)|(apply OQ.move;rfl)|(apply OQ.assign;rfl)) rfl ?_ | refine JC.seq ?_ | refine JC.region ?_ | refine JC.block ?_ | refine JL.nil ?_ | refine JE.next ?_)
      refine JC.cond_false rfl rfl ?_
      repeat (first | refine JL.q (by first|(apply OQ.load;exact bV;rfl;exact .here;exact (Row.cell (v:=N z.st) rfl))|(apply OQ.dI;rfl;rfl;exact h2)|(apply OQ.move;rfl)|(apply OQ.assign;rfl)|(apply OQ.aJ;rfl)|(apply OQ.bA;rfl;rfl;rfl;exact (by decide);rfl)) rfl ?_ | refine JC.seq ?_ | refine JC.region ?_ | refine JL.nil ?_ | refine JE.next ?_)
      refine JC.cond_true rfl rfl ?_
      repeat (first | refine JL.q (by (apply OQ.assign;rfl)) rfl ?_ | refine JC.seq ?_ | refine JC.region ?_ | refine JL.nil ?_ | refine JE.next ?_)
      refine JC.ret ?_
      repeat (first | refine JE.ah ?_ | refine JE.aZ ?_)
      exact JE.aE rfl (RV.tmp rfl) fun w' hw=>⟨z,⟨ok,hs⟩,rfl,hw⟩
    | true=>
      rw [if_pos (hs.st.symm.trans (of_decide_eq_true h2))]
      refine enter (n:=17) Tryz.func143 rfl rfl rfl h0 ?_
      repeat (first | refine JL.q (by first|(apply OQ.gv (r:=[]);rfl;rfl;exact h1)|(apply OQ.move;rfl)|(apply OQ.assign;rfl)) rfl ?_ | refine JC.seq ?_ | refine JC.region ?_ | refine JC.block ?_ | refine JL.nil ?_ | refine JE.next ?_)
      refine JC.cond_false rfl rfl ?_
      repeat (first | refine JL.q (by first|(apply OQ.load;exact bV;rfl;exact .here;exact (Row.cell (v:=N z.st) rfl))|(apply OQ.dI;rfl;rfl;exact h2)|(apply OQ.move;rfl)|(apply OQ.assign;rfl)|(apply OQ.aJ;rfl)|(apply OQ.bA;rfl;rfl;rfl;exact (by decide);rfl)) rfl ?_ | refine JC.seq ?_ | refine JC.region ?_ | refine JL.nil ?_ | refine JE.next ?_)
      refine JC.cond_false rfl rfl ?_
      repeat (first | refine JL.q (by first|(apply OQ.move;rfl)|(apply OQ.aJ;rfl)|(apply OQ.bA;rfl;rfl;rfl;exact (by decide);rfl)) rfl ?_ | refine JC.seq ?_ | refine JC.region ?_ | refine JC.skip ?_ | refine JE.next ?_ | refine JE.ai ?_)
      refine JL.jj 4 rfl rfl ?_
      repeat (first | refine JL.q (by (apply OQ.assign;rfl)) rfl ?_ | refine JC.seq ?_ | refine JC.region ?_ | refine JL.nil ?_ | refine JE.next ?_)
      refine JC.ret ?_
      skip
      exact JE.aE rfl (RV.tmp rfl) fun w' hw=>⟨z.vK 4,⟨Pw.xF ok 4,⟨rfl,hs.fr,hs.to,hG hn hs _ hn,hs.dt,hs.ms⟩⟩,rfl,hw⟩
theorem qM (b : Nat) (z : Pw) (S : Po) (ok : z.ok) (hs : z.is S) (hn : S.ln=[]) (t : List Bt) (w : World) (h0 : aa w (keys (z.E b)) (z.E b) w) : Calls Tryz.prog 144 [Pt b 0,Z t].toArray w (dP (keys (z.E b)) b (ct S t) w):=by
  generalize hS : keys (z.E b)=S0 at h0 ⊢
  unfold ct
  cases h1 : decide (t=[]) with
  | false=>
    rw [if_neg (of_decide_eq_false h1)]
    refine enter (n:=14) Tryz.func144 rfl rfl rfl h0 ?_
    repeat (first | refine JL.q (by first|(apply OQ.gv (r:=[]);rfl;rfl;exact h1)|(apply OQ.move;rfl)|(apply OQ.assign;rfl)) rfl ?_ | refine JC.seq ?_ | refine JC.region ?_ | refine JL.nil ?_ | refine JE.next ?_)
    refine JC.cond_true rfl rfl ?_
    repeat (first | refine JL.q (by (apply OQ.assign;rfl)) rfl ?_ | refine JC.seq ?_ | refine JC.region ?_ | refine JL.nil ?_ | refine JE.next ?_)
    refine JC.ret ?_
    repeat (refine JE.ah ?_)
    exact JE.aE rfl (RV.tmp rfl) fun w' hw=>⟨z,⟨ok,hs⟩,rfl,hw⟩
  | true=>
    rw [if_pos (of_decide_eq_true h1)]
    cases h2 : decide (z.st=0) with
    | true=>
      rw [if_pos (hs.st.symm.trans (of_decide_eq_true h2))]
      refine enter (n:=14) Tryz.func144 rfl rfl rfl h0 ?_
      repeat (first | refine JL.q (by first|(apply OQ.gv (r:=[]);rfl;rfl;exact h1)|(apply OQ.move;rfl)|(apply OQ.assign;rfl)) rfl ?_ | refine JC.seq ?_ | refine JC.region ?_ | refine JL.nil ?_ | refine JE.next ?_)
      refine JC.cond_false rfl rfl ?_
      repeat (first | refine JL.q (by first|(apply OQ.load;exact bV;rfl;exact .here;exact (Row.cell (v:=N z.st) rfl))|(apply OQ.dI;rfl;rfl;exact h2)|(apply OQ.move;rfl)|(apply OQ.aJ;rfl)|(apply OQ.bA;rfl;rfl;rfl;exact (by decide);rfl)) rfl ?_ | refine JC.seq ?_ | refine JC.region ?_ | refine JC.skip ?_ | refine JL.nil ?_ | refine JE.next ?_)
      refine JC.cond_false rfl rfl ?_
      repeat (first | refine JL.q (by (apply OQ.assign;rfl)) rfl ?_ | refine JC.seq ?_ | refine JC.region ?_ | refine JC.skip ?_ | refine JL.nil ?_ | refine JE.next ?_)
      refine JC.ret ?_
      skip
      exact JE.aE rfl (RV.tmp rfl) fun w' hw=>⟨z,⟨ok,hs⟩,rfl,hw⟩
    | false=>
      rw [if_neg (fun e=>of_decide_eq_false h2 (hs.st.trans e))]
      refine enter (n:=14) Tryz.func144 rfl rfl rfl h0 ?_
      repeat (first | refine JL.q (by first|(apply OQ.gv (r:=[]);rfl;rfl;exact h1)|(apply OQ.move;rfl)|(apply OQ.assign;rfl)) rfl ?_ | refine JC.seq ?_ | refine JC.region ?_ | refine JL.nil ?_ | refine JE.next ?_)
      refine JC.cond_false rfl rfl ?_
      repeat (first | refine JL.q (by first|(apply OQ.load;exact bV;rfl;exact .here;exact (Row.cell (v:=N z.st) rfl))|(apply OQ.dI;rfl;rfl;exact h2)|(apply OQ.move;rfl)|(apply OQ.aJ;rfl)|(apply OQ.bA;rfl;rfl;rfl;exact (by decide);rfl)) rfl ?_ | refine JC.seq ?_ | refine JC.region ?_ | refine JC.skip ?_ | refine JL.nil ?_ | refine JE.next ?_)
      refine JC.cond_true rfl rfl ?_
      repeat (first | refine JL.q (by (apply OQ.move;rfl)) rfl ?_ | refine JC.region ?_)
      refine JL.lu rfl rfl ?_
      repeat (first | refine JL.q (by (apply OQ.assign;rfl)) rfl ?_ | refine JC.seq ?_ | refine JC.region ?_ | refine JL.nil ?_ | refine JE.next ?_)
      refine JC.ret ?_
      skip
      exact JE.aE rfl (RV.tmp rfl) fun w' hw=>⟨z.bL 1,⟨Pw.lp ok 1,Pw.lq hs hn 1⟩,rfl,hw⟩
theorem sZ (b : Nat) (z : Pw) (S : Po) (ok : z.ok) (hs : z.is S) (hn : S.ln=[]) (t : List Bt) (w : World) (h0 : aa w (keys (z.E b)) (z.E b) w) : Calls Tryz.prog 145 [Pt b 0,Z t].toArray w (dP (keys (z.E b)) b (eK S t) w):=by
  generalize hS : keys (z.E b)=S0 at h0 ⊢
  unfold eK
  cases h1 : decide (t=[]) with
  | false=>
    rw [if_neg (of_decide_eq_false h1)]
    refine enter (n:=12) Tryz.func145 rfl rfl rfl h0 ?_
    repeat (first | refine JL.q (by first|(apply OQ.gv (r:=[]);rfl;rfl;exact h1)|(apply OQ.move;rfl)|(apply OQ.assign;rfl)) rfl ?_ | refine JC.seq ?_ | refine JC.region ?_ | refine JL.nil ?_ | refine JE.next ?_)
    refine JC.cond_true rfl rfl ?_
    repeat (first | refine JL.q (by (apply OQ.assign;rfl)) rfl ?_ | refine JC.seq ?_ | refine JC.region ?_ | refine JL.nil ?_ | refine JE.next ?_)
    refine JC.ret ?_
    repeat (refine JE.ah ?_)
    exact JE.aE rfl (RV.tmp rfl) fun w' hw=>⟨z,⟨ok,hs⟩,rfl,hw⟩
  | true=>
    rw [if_pos (of_decide_eq_true h1)]
    refine enter (n:=12) Tryz.func145 rfl rfl rfl h0 ?_
    repeat (first | refine JL.q (by first|(apply OQ.gv (r:=[]);rfl;rfl;exact h1)|(apply OQ.move;rfl)|(apply OQ.assign;rfl)) rfl ?_ | refine JC.seq ?_ | refine JC.region ?_ | refine JL.nil ?_ | refine JE.next ?_)
    refine JC.cond_false rfl rfl ?_
    repeat (first | refine JL.q (by (apply OQ.move;rfl)) rfl ?_ | refine JC.seq ?_ | refine JC.region ?_ | refine JC.skip ?_ | refine JE.next ?_)
    refine JL.lu rfl rfl ?_
    repeat (first | refine JL.q (by first|(apply OQ.move;rfl)|(apply OQ.aJ;rfl)|(apply OQ.bA;rfl;rfl;rfl;exact (by decide);rfl)) rfl ?_ | refine JC.seq ?_ | refine JC.region ?_ | refine JL.nil ?_ | refine JE.next ?_)
    refine JL.jj (z:=z.bL 1) 5 rfl rfl ?_
    repeat (first | refine JL.q (by (apply OQ.assign;rfl)) rfl ?_ | refine JC.seq ?_ | refine JC.region ?_ | refine JL.nil ?_ | refine JE.next ?_)
    refine JC.ret ?_
    skip
    exact JE.aE rfl (RV.tmp rfl) fun w' hw=>⟨z.bL 5,⟨Pw.lp ok 5,Pw.lq hs hn 5⟩,rfl,hw⟩
theorem qN (s : List Bt) (w : World) (hl : s.length<1000000) : Calls Tryz.prog 106 [Z s].toArray w fun e w'=>e=.returned (.bool (ig s))∧Ext w w':=by
  have hc:=fun w'=>qF s w' hl
  unfold ig
  generalize (Tok.b6 s).1=a at hc ⊢
  generalize (Tok.b6 s).2=k at hc ⊢
  refine enter (n:=17) Tryz.func106 rfl rfl rfl (aa.start w []) ?_
  cases h1 : decide (k=0) with
  | false=>
    repeat (first | refine JL.q (by first|(apply OQ.ak (vs:=[Z s]);exact gd;rfl;exact (fun w' _=>hc w'))|(apply OQ.extract;rfl;rfl)|(apply OQ.eX (b:=0);rfl;rfl;exact h1)|(apply OQ.aB;rfl;rfl)|(apply OQ.move;rfl)|(apply OQ.assign;rfl)) rfl ?_ | refine JC.seq ?_ | refine JC.region ?_ | refine JL.nil ?_ | refine JE.next ?_ | refine JL.aU rfl rfl rfl rfl ?_)
    refine JC.ret ?_
    skip
    exact JE.aE rfl (RV.tmp rfl) fun w' hw=>⟨rfl,hw.aS⟩
  | true=>
    cases h2 : decide (a=s)
    all_goals (repeat (first | refine JL.q (by first|(apply OQ.ak (vs:=[Z s]);exact gd;rfl;exact (fun w' _=>hc w'))|(apply OQ.extract;rfl;rfl)|(apply OQ.eX (b:=0);rfl;rfl;exact h1)|(apply OQ.en;rfl;rfl;exact h2)|(apply OQ.az;rfl;rfl)|(apply OQ.move;rfl)|(apply OQ.assign;rfl)) rfl ?_ | refine JC.seq ?_ | refine JC.region ?_ | refine JL.nil ?_ | refine JE.next ?_ | refine JL.aT rfl rfl ?_))
    all_goals refine JC.ret ?_
    all_goals (skip)
    all_goals exact JE.aE rfl (RV.tmp rfl) fun w' hw=>⟨rfl,hw.aS⟩
def jA (s : List Bt) : Value:=match dH s with
  | none=>.tuple #[Z [],.bool false]
  | some a=>.tuple #[Z a,.bool true]
theorem kq (s : List Bt) (w : World) (hl : s.length<1000000) : Calls Tryz.prog 175 [Z s].toArray w fun e w'=>e=.returned (jA s)∧Ext w w':=by
  have c1:=fun w'=>uZ s 60 w'
  unfold xC at c1
  have tl : s.tail.length<1000000:=by rw [List.length_tail];omega
  by_cases h1 : s.head?=some 60
  · simp only [h1,if_true] at c1
    have c2:=fun w'=>lg s.tail 62 w' (by omega)
    unfold vI at c2
    by_cases h2 : s.tail.getLast?=some 62
    · simp only [h2,if_true] at c2
      have c3:=fun w'=>qN s.tail.dropLast w' (by rw [List.length_dropLast];omega)
      cases h3 : ig s.tail.dropLast with
      | true=>
        simp only [h3] at c3
        rw [show jA s=.tuple #[Z s.tail.dropLast,.bool true] by unfold jA dH;rw [if_pos ⟨h1,h2,h3⟩]]
        refine enter (n:=30) Tryz.func175 rfl rfl rfl (aa.start w []) ?_
        repeat (first | refine JL.q (by first|(apply OQ.ak (vs:=[Z s,Z [60]]);exact fI;rfl;exact (fun w' _=>c1 w'))|(apply OQ.ak (vs:=[Z s.tail,Z [62]]);exact fJ;rfl;exact (fun w' _=>c2 w'))|(apply OQ.ak (vs:=[Z s.tail.dropLast]);exact jx;rfl;exact (fun w' _=>c3 w'))|(apply OQ.extract;rfl;rfl)|(apply OQ.not;rfl)|(apply OQ.aB;rfl;rfl)|(apply OQ.move;rfl)|(apply OQ.assign;rfl)) rfl ?_ | refine JC.seq ?_ | refine JC.region ?_ | refine JL.nil ?_ | refine JE.next ?_ | refine JL.aT rfl rfl ?_)
        refine JC.cond_false rfl rfl ?_
        repeat (first | refine JL.q (by first|(apply OQ.move;rfl)|(apply OQ.assign;rfl)) rfl ?_ | refine JC.seq ?_ | refine JC.region ?_ | refine JC.skip ?_ | refine JL.nil ?_ | refine JE.next ?_)
        refine JC.ret ?_
        skip
        exact JE.bI rfl (RV.tmp rfl) (RV.tmp rfl) fun w' hw=>⟨rfl,hw.aS⟩
      | false=>
        simp only [h3] at c3
        rw [show jA s=.tuple #[Z [],.bool false] by unfold jA dH;rw [if_neg (by rw [h3];simp)]]
        refine enter (n:=30) Tryz.func175 rfl rfl rfl (aa.start w []) ?_
        repeat (first | refine JL.q (by first|(apply OQ.ak (vs:=[Z s,Z [60]]);exact fI;rfl;exact (fun w' _=>c1 w'))|(apply OQ.ak (vs:=[Z s.tail,Z [62]]);exact fJ;rfl;exact (fun w' _=>c2 w'))|(apply OQ.ak (vs:=[Z s.tail.dropLast]);exact jx;rfl;exact (fun w' _=>c3 w'))|(apply OQ.extract;rfl;rfl)|(apply OQ.not;rfl)|(apply OQ.aB;rfl;rfl)|(apply OQ.move;rfl)|(apply OQ.assign;rfl)) rfl ?_ | refine JC.seq ?_ | refine JC.region ?_ | refine JL.nil ?_ | refine JE.next ?_ | refine JL.aT rfl rfl ?_)
        refine JC.cond_true rfl rfl ?_
        repeat (first | refine JL.q (by (apply OQ.assign;rfl)) rfl ?_ | refine JC.seq ?_ | refine JC.region ?_ | refine JL.nil ?_ | refine JE.next ?_)
        refine JC.ret ?_
        repeat (refine JE.ah ?_)
        exact JE.bI rfl (RV.tmp rfl) (RV.tmp rfl) fun w' hw=>⟨rfl,hw.aS⟩
    · simp only [h2,if_false] at c2
      rw [show jA s=.tuple #[Z [],.bool false] by unfold jA dH;rw [if_neg (fun e=>h2 e.2.1)]]
      refine enter (n:=30) Tryz.func175 rfl rfl rfl (aa.start w []) ?_
      repeat (first | refine JL.q (by first|(apply OQ.ak (vs:=[Z s,Z [60]]);exact fI;rfl;exact (fun w' _=>c1 w'))|(apply OQ.ak (vs:=[Z s.tail,Z [62]]);exact fJ;rfl;exact (fun w' _=>c2 w'))|(apply OQ.extract;rfl;rfl)|(apply OQ.not;rfl)|(apply OQ.aB;rfl;rfl)|(apply OQ.az;rfl;rfl)|(apply OQ.move;rfl)|(apply OQ.assign;rfl)) rfl ?_ | refine JC.seq ?_ | refine JC.region ?_ | refine JL.nil ?_ | refine JE.next ?_ | refine JL.aT rfl rfl ?_ | refine JL.aU rfl rfl rfl rfl ?_)
      refine JC.cond_true rfl rfl ?_
      repeat (first | refine JL.q (by (apply OQ.assign;rfl)) rfl ?_ | refine JC.seq ?_ | refine JC.region ?_ | refine JL.nil ?_ | refine JE.next ?_)
      refine JC.ret ?_
      repeat (refine JE.ah ?_)
      exact JE.bI rfl (RV.tmp rfl) (RV.tmp rfl) fun w' hw=>⟨rfl,hw.aS⟩
  · simp only [h1,if_false] at c1
    have c2:=fun w'=>lg s 62 w' (by omega)
    have hcs : ∃ u k,vI 62 s=.tuple #[Z u,.bool k]:=by unfold vI;split <;> exact ⟨_,_,rfl⟩
    obtain ⟨u,k,hcs⟩:=hcs
    rw [hcs] at c2
    rw [show jA s=.tuple #[Z [],.bool false] by unfold jA dH;rw [if_neg (fun e=>h1 e.1)]]
    refine enter (n:=30) Tryz.func175 rfl rfl rfl (aa.start w []) ?_
    repeat (first | refine JL.q (by first|(apply OQ.ak (vs:=[Z s,Z [60]]);exact fI;rfl;exact (fun w' _=>c1 w'))|(apply OQ.ak (vs:=[Z s,Z [62]]);exact fJ;rfl;exact (fun w' _=>c2 w'))|(apply OQ.extract;rfl;rfl)|(apply OQ.not;rfl)|(apply OQ.az;rfl;rfl)|(apply OQ.move;rfl)|(apply OQ.assign;rfl)) rfl ?_ | refine JC.seq ?_ | refine JC.region ?_ | refine JL.nil ?_ | refine JE.next ?_ | refine JL.aU rfl rfl rfl rfl ?_)
    refine JC.cond_true rfl rfl ?_
    repeat (first | refine JL.q (by (apply OQ.assign;rfl)) rfl ?_ | refine JC.seq ?_ | refine JC.region ?_ | refine JL.nil ?_ | refine JE.next ?_)
    refine JC.ret ?_
    repeat (refine JE.ah ?_)
    exact JE.bI rfl (RV.tmp rfl) (RV.tmp rfl) fun w' hw=>⟨rfl,hw.aS⟩
theorem oy (b : Nat) (z : Pw) (S : Po) (ok : z.ok) (hs : z.is S) (hn : S.ln=[]) (t : List Bt) (hl : t.length<1000000) (w : World) (h0 : aa w (keys (z.E b)) (z.E b) w) : Calls Tryz.prog 141 [Pt b 0,Z t].toArray w (dP (keys (z.E b)) b (bM S t) w):=by
  generalize hS : keys (z.E b)=S0 at h0 ⊢
  have ca:=fun w'=>kq t w' hl
  unfold jA at ca
  unfold bM
  cases ha : dH t with
  | none=>
    simp only [ha] at ca
    dsimp only
    refine enter (n:=28) Tryz.func141 rfl rfl rfl h0 ?_
    repeat (first | refine JL.q (by first|(apply OQ.ak (vs:=[Z t]);exact bX;rfl;exact (fun w' _=>ca w'))|(apply OQ.extract;rfl;rfl)|(apply OQ.not;rfl)|(apply OQ.move;rfl)|(apply OQ.assign;rfl)) rfl ?_ | refine JC.seq ?_ | refine JC.region ?_ | refine JC.block ?_ | refine JL.nil ?_ | refine JE.next ?_)
    refine JC.cond_true rfl rfl ?_
    repeat (first | refine JL.q (by (apply OQ.assign;rfl)) rfl ?_ | refine JC.seq ?_ | refine JC.region ?_ | refine JL.nil ?_ | refine JE.next ?_)
    refine JC.ret ?_
    repeat (first | refine JE.ah ?_ | refine JE.aZ ?_)
    exact JE.aE rfl (RV.tmp rfl) fun w' hw=>⟨z,⟨ok,hs⟩,rfl,hw⟩
  | some a=>
    simp only [ha] at ca
    dsimp only
    cases h2 : decide (z.st=1) with
    | false=>
      rw [if_neg (fun e=>of_decide_eq_false h2 (hs.st.trans e))]
      refine enter (n:=28) Tryz.func141 rfl rfl rfl h0 ?_
      repeat (first | refine JL.q (by first|(apply OQ.ak (vs:=[Z t]);exact bX;rfl;exact (fun w' _=>ca w'))|(apply OQ.extract;rfl;rfl)|(apply OQ.not;rfl)|(apply OQ.move;rfl)|(apply OQ.assign;rfl)) rfl ?_ | refine JC.seq ?_ | refine JC.region ?_ | refine JC.block ?_ | refine JL.nil ?_ | refine JE.next ?_)
      refine JC.cond_false rfl rfl ?_
      repeat (first | refine JL.q (by first|(apply OQ.load;exact bV;rfl;exact .here;exact (Row.cell (v:=N z.st) rfl))|(apply OQ.dI;rfl;rfl;exact h2)|(apply OQ.move;rfl)|(apply OQ.assign;rfl)|(apply OQ.aJ;rfl)|(apply OQ.bA;rfl;rfl;rfl;exact (by decide);rfl)) rfl ?_ | refine JC.seq ?_ | refine JC.region ?_ | refine JL.nil ?_ | refine JE.next ?_)
      refine JC.cond_true rfl rfl ?_
      repeat (first | refine JL.q (by (apply OQ.assign;rfl)) rfl ?_ | refine JC.seq ?_ | refine JC.region ?_ | refine JL.nil ?_ | refine JE.next ?_)
      refine JC.ret ?_
      repeat (first | refine JE.ah ?_ | refine JE.aZ ?_)
      exact JE.aE rfl (RV.tmp rfl) fun w' hw=>⟨z,⟨ok,hs⟩,rfl,hw⟩
    | true=>
      rw [if_pos (hs.st.symm.trans (of_decide_eq_true h2))]
      refine enter (n:=28) Tryz.func141 rfl rfl rfl h0 ?_
      repeat (first | refine JL.q (by first|(apply OQ.ak (vs:=[Z t]);exact bX;rfl;exact (fun w' _=>ca w'))|(apply OQ.extract;rfl;rfl)|(apply OQ.not;rfl)|(apply OQ.move;rfl)|(apply OQ.assign;rfl)) rfl ?_ | refine JC.seq ?_ | refine JC.region ?_ | refine JC.block ?_ | refine JL.nil ?_ | refine JE.next ?_)
      refine JC.cond_false rfl rfl ?_
      repeat (first | refine JL.q (by first|(apply OQ.load;exact bV;rfl;exact .here;exact (Row.cell (v:=N z.st) rfl))|(apply OQ.dI;rfl;rfl;exact h2)|(apply OQ.move;rfl)|(apply OQ.assign;rfl)|(apply OQ.aJ;rfl)|(apply OQ.bA;rfl;rfl;rfl;exact (by decide);rfl)) rfl ?_ | refine JC.seq ?_ | refine JC.region ?_ | refine JL.nil ?_ | refine JE.next ?_)
      refine JC.cond_false rfl rfl ?_
      repeat (first | refine JL.q (by first|(apply OQ.move;rfl)|(apply OQ.aJ;rfl)|(apply OQ.bA;rfl;rfl;rfl;exact (by decide);rfl)) rfl ?_ | refine JC.seq ?_ | refine JC.region ?_ | refine JC.skip ?_ | refine JE.next ?_ | refine JE.ai ?_)
      refine JL.sw a rfl rfl ?_
      repeat (first | refine JL.q (by first|(apply OQ.move;rfl)|(apply OQ.aJ;rfl)|(apply OQ.bA;rfl;rfl;rfl;exact (by decide);rfl)) rfl ?_ | refine JC.seq ?_ | refine JC.region ?_ | refine JL.nil ?_ | refine JE.next ?_)
      refine JL.jj 2 rfl rfl ?_
      repeat (first | refine JL.q (by (apply OQ.assign;rfl)) rfl ?_ | refine JC.seq ?_ | refine JC.region ?_ | refine JL.nil ?_ | refine JE.next ?_)
      refine JC.ret ?_
      skip
      exact JE.aE rfl (RV.tmp rfl) fun w' hw=>⟨⟨2,a,z.qt,z.to,z.ql,z.ln,z.qd,z.dt,z.qm,z.zs⟩,⟨⟨ok.t,ok.l,ok.d,ok.m⟩,⟨rfl,rfl,hs.to,hG hn hs _ hn,hs.dt,hs.ms⟩⟩,rfl,hw⟩
theorem s3 (b : Nat) (z : Pw) (S : Po) (ok : z.ok) (hs : z.is S) (hn : S.ln=[]) (h10 : S.to.length≤10) (t : List Bt) (hl : t.length<1000000) (w : World) (h0 : aa w (keys (z.E b)) (z.E b) w) : Calls Tryz.prog 142 [Pt b 0,Z t].toArray w (dP (keys (z.E b)) b (c9 S t) w):=by
  generalize hS : keys (z.E b)=S0 at h0 ⊢
  have ca:=fun w'=>kq t w' hl
  unfold jA at ca
  unfold c9
  cases ha : dH t with
  | none=>
    simp only [ha] at ca
    dsimp only
    refine enter (n:=48) Tryz.func142 rfl rfl rfl h0 ?_
    repeat (first | refine JL.q (by first|(apply OQ.ak (vs:=[Z t]);exact bX;rfl;exact (fun w' _=>ca w'))|(apply OQ.extract;rfl;rfl)|(apply OQ.not;rfl)|(apply OQ.move;rfl)|(apply OQ.assign;rfl)) rfl ?_ | refine JC.seq ?_ | refine JC.region ?_ | refine JC.block ?_ | refine JL.nil ?_ | refine JE.next ?_)
    refine JC.cond_true rfl rfl ?_
    repeat (first | refine JL.q (by (apply OQ.assign;rfl)) rfl ?_ | refine JC.seq ?_ | refine JC.region ?_ | refine JL.nil ?_ | refine JE.next ?_)
    refine JC.ret ?_
    repeat (first | refine JE.ah ?_ | refine JE.aZ ?_)
    exact JE.aE rfl (RV.tmp rfl) fun w' hw=>⟨z,⟨ok,hs⟩,rfl,hw⟩
  | some a=>
    simp only [ha] at ca
    dsimp only
    cases h2 : decide (z.st=2) with
    | true=>
      rw [if_pos (.inl (hs.st.symm.trans (of_decide_eq_true h2)))]
      cases h4 : decide (z.to.length=10) with
      | true=>
        rw [if_pos (by rw [← hs.to];exact of_decide_eq_true h4)]
        refine enter (n:=48) Tryz.func142 rfl rfl rfl h0 ?_
        repeat (first | refine JL.q (by first|(apply OQ.ak (vs:=[Z t]);exact bX;rfl;exact (fun w' _=>ca w'))|(apply OQ.extract;rfl;rfl)|(apply OQ.not;rfl)|(apply OQ.move;rfl)|(apply OQ.assign;rfl)) rfl ?_ | refine JC.seq ?_ | refine JC.region ?_ | refine JC.block ?_ | refine JL.nil ?_ | refine JE.next ?_)
        refine JC.cond_false rfl rfl ?_
        repeat (first | refine JL.q (by first|(apply OQ.load;exact bV;rfl;exact .here;exact (Row.cell (v:=N z.st) rfl))|(apply OQ.dI (b:=2);rfl;rfl;exact h2)|(apply OQ.aB;rfl;rfl)|(apply OQ.move;rfl)|(apply OQ.assign;rfl)|(apply OQ.aJ;rfl)|(apply OQ.bA;rfl;rfl;rfl;exact (by decide);rfl)) rfl ?_ | refine JC.seq ?_ | refine JC.region ?_ | refine JL.nil ?_ | refine JE.next ?_ | refine JL.aU rfl rfl rfl rfl ?_)
        refine JC.cond_false rfl rfl ?_
        repeat (first | refine JL.q (by first|(apply OQ.load;exact de;rfl;exact .here;exact (Row.cell (v:=ag z.qt z.to.length) rfl))|(apply OQ.gw;exact Tryz.underlying30;exact (fun h=>congrArg List.length (ok.t h));rfl)|(apply OQ.eX (b:=10);rfl;rfl;exact h4)|(apply OQ.move;rfl)|(apply OQ.assign;rfl)|(apply OQ.aJ;rfl)|(apply OQ.bA;rfl;rfl;rfl;exact (by decide);rfl)) rfl ?_ | refine JC.seq ?_ | refine JC.region ?_ | refine JL.nil ?_ | refine JE.next ?_)
        refine JC.cond_true rfl rfl ?_
        repeat (first | refine JL.q (by (apply OQ.assign;rfl)) rfl ?_ | refine JC.seq ?_ | refine JC.region ?_ | refine JL.nil ?_ | refine JE.next ?_)
        refine JC.ret ?_
        repeat (first | refine JE.ah ?_ | refine JE.aZ ?_)
        exact JE.aE rfl (RV.tmp rfl) fun w' hw=>⟨z,⟨ok,hs⟩,rfl,hw⟩
      | false=>
        rw [if_neg (by rw [← hs.to];exact of_decide_eq_false h4)]
        have htl : z.to.length≤10:=by rw [hs.to];exact h10
        refine enter (n:=48) Tryz.func142 rfl rfl rfl h0 ?_
        repeat (first | refine JL.q (by first|(apply OQ.ak (vs:=[Z t]);exact bX;rfl;exact (fun w' _=>ca w'))|(apply OQ.extract;rfl;rfl)|(apply OQ.not;rfl)|(apply OQ.move;rfl)|(apply OQ.assign;rfl)) rfl ?_ | refine JC.seq ?_ | refine JC.region ?_ | refine JC.block ?_ | refine JL.nil ?_ | refine JE.next ?_)
        refine JC.cond_false rfl rfl ?_
        repeat (first | refine JL.q (by first|(apply OQ.load;exact bV;rfl;exact .here;exact (Row.cell (v:=N z.st) rfl))|(apply OQ.dI (b:=2);rfl;rfl;exact h2)|(apply OQ.aB;rfl;rfl)|(apply OQ.move;rfl)|(apply OQ.assign;rfl)|(apply OQ.aJ;rfl)|(apply OQ.bA;rfl;rfl;rfl;exact (by decide);rfl)) rfl ?_ | refine JC.seq ?_ | refine JC.region ?_ | refine JL.nil ?_ | refine JE.next ?_ | refine JL.aU rfl rfl rfl rfl ?_)
        refine JC.cond_false rfl rfl ?_
        repeat (first | refine JL.q (by first|(apply OQ.load;exact de;rfl;exact .here;exact (Row.cell (v:=ag z.qt z.to.length) rfl))|(apply OQ.gw;exact Tryz.underlying30;exact (fun h=>congrArg List.length (ok.t h));rfl)|(apply OQ.eX (b:=10);rfl;rfl;exact h4)|(apply OQ.move;rfl)|(apply OQ.assign;rfl)|(apply OQ.aJ;rfl)|(apply OQ.bA;rfl;rfl;rfl;exact (by decide);rfl)) rfl ?_ | refine JC.seq ?_ | refine JC.region ?_ | refine JL.nil ?_ | refine JE.next ?_)
        refine JC.cond_false rfl rfl ?_
        repeat (first | refine JL.q (by first|(apply OQ.load;exact de;rfl;exact .here;exact (Row.cell (v:=ag z.qt z.to.length) rfl))|(apply OQ.move;rfl)|(apply OQ.aJ;rfl)|(apply OQ.bA;rfl;rfl;rfl;exact (by decide);rfl)) rfl ?_ | refine JC.seq ?_ | refine JC.region ?_ | refine JC.skip ?_ | refine JE.next ?_ | refine JE.ai ?_)
        refine JL.p9 (v:=Z a) Tryz.underlying30 kQ rfl rfl rfl rfl fun bl _=>?_
        refine JL.perm (M':=⟨bl,Row 9 [Z a],true⟩::(z.T++(⟨b,Row 75 z.cs,true⟩::(z.L++(z.D++z.M))))) ?_ (List.Perm.cons _ (by exact (List.perm_middle (l₁:=z.T)).symm))
        refine JL.kR (p:=a) z.qt Tryz.underlying30 kQ ok.t rfl rfl rfl (by omega) (by omega) rfl fun b1 cap1=>?_
        refine JL.perm (M':=⟨b,Row 75 z.cs,true⟩::(ay 9 (some (b1,cap1)) ((z.to++[a]).map Z)++(z.L++(z.D++z.M)))) ?_ (by exact List.perm_middle)
        repeat (refine JL.q (by first|(apply OQ.aJ;rfl)|(apply OQ.bA;rfl;rfl;rfl;exact (by decide);rfl)) rfl ?_)
        refine JL.o9 (some (b1,cap1)) (z.to++[a]) rfl rfl ?_
        repeat (first | refine JL.q (by first|(apply OQ.move;rfl)|(apply OQ.aJ;rfl)|(apply OQ.bA;rfl;rfl;rfl;exact (by decide);rfl)) rfl ?_ | refine JC.seq ?_ | refine JC.region ?_ | refine JL.nil ?_ | refine JE.next ?_)
        refine JL.jj 3 rfl rfl ?_
        repeat (first | refine JL.q (by (apply OQ.assign;rfl)) rfl ?_ | refine JC.seq ?_ | refine JC.region ?_ | refine JL.nil ?_ | refine JE.next ?_)
        refine JC.ret ?_
        skip
        exact JE.aE rfl (RV.tmp rfl) fun w' hw=>⟨⟨3,z.fr,some (b1,cap1),z.to++[a],z.ql,z.ln,z.qd,z.dt,z.qm,z.zs⟩,⟨⟨nofun,ok.l,ok.d,ok.m⟩,⟨rfl,hs.fr,congrArg (·++[a]) hs.to,hG hn hs _ hn,hs.dt,hs.ms⟩⟩,rfl,hw⟩
    | false=>
      cases h3 : decide (z.st=3) with
      | true=>
        rw [if_pos (.inr (hs.st.symm.trans (of_decide_eq_true h3)))]
        cases h4 : decide (z.to.length=10) with
        | true=>
          rw [if_pos (by rw [← hs.to];exact of_decide_eq_true h4)]
          refine enter (n:=48) Tryz.func142 rfl rfl rfl h0 ?_
          repeat (first | refine JL.q (by first|(apply OQ.ak (vs:=[Z t]);exact bX;rfl;exact (fun w' _=>ca w'))|(apply OQ.extract;rfl;rfl)|(apply OQ.not;rfl)|(apply OQ.move;rfl)|(apply OQ.assign;rfl)) rfl ?_ | refine JC.seq ?_ | refine JC.region ?_ | refine JC.block ?_ | refine JL.nil ?_ | refine JE.next ?_)
          refine JC.cond_false rfl rfl ?_
          repeat (first | refine JL.q (by first|(apply OQ.load;exact bV;rfl;exact .here;exact (Row.cell (v:=N z.st) rfl))|(apply OQ.dI (b:=2);rfl;rfl;exact h2)|(apply OQ.dI (b:=3);rfl;rfl;exact h3)|(apply OQ.az;rfl;rfl)|(apply OQ.move;rfl)|(apply OQ.assign;rfl)|(apply OQ.aJ;rfl)|(apply OQ.bA;rfl;rfl;rfl;exact (by decide);rfl)) rfl ?_ | refine JC.seq ?_ | refine JC.region ?_ | refine JL.nil ?_ | refine JE.next ?_ | refine JL.aT rfl rfl ?_)
          refine JC.cond_false rfl rfl ?_
          repeat (first | refine JL.q (by first|(apply OQ.load;exact de;rfl;exact .here;exact (Row.cell (v:=ag z.qt z.to.length) rfl))|(apply OQ.gw;exact Tryz.underlying30;exact (fun h=>congrArg List.length (ok.t h));rfl)|(apply OQ.eX (b:=10);rfl;rfl;exact h4)|(apply OQ.move;rfl)|(apply OQ.assign;rfl)|(apply OQ.aJ;rfl)|(apply OQ.bA;rfl;rfl;rfl;exact (by decide);rfl)) rfl ?_ | refine JC.seq ?_ | refine JC.region ?_ | refine JL.nil ?_ | refine JE.next ?_)
          refine JC.cond_true rfl rfl ?_
          repeat (first | refine JL.q (by (apply OQ.assign;rfl)) rfl ?_ | refine JC.seq ?_ | refine JC.region ?_ | refine JL.nil ?_ | refine JE.next ?_)
          refine JC.ret ?_
          repeat (first | refine JE.ah ?_ | refine JE.aZ ?_)
          exact JE.aE rfl (RV.tmp rfl) fun w' hw=>⟨z,⟨ok,hs⟩,rfl,hw⟩
        | false=>
          rw [if_neg (by rw [← hs.to];exact of_decide_eq_false h4)]
          have htl : z.to.length≤10:=by rw [hs.to];exact h10
          refine enter (n:=48) Tryz.func142 rfl rfl rfl h0 ?_
          repeat (first | refine JL.q (by first|(apply OQ.ak (vs:=[Z t]);exact bX;rfl;exact (fun w' _=>ca w'))|(apply OQ.extract;rfl;rfl)|(apply OQ.not;rfl)|(apply OQ.move;rfl)|(apply OQ.assign;rfl)) rfl ?_ | refine JC.seq ?_ | refine JC.region ?_ | refine JC.block ?_ | refine JL.nil ?_ | refine JE.next ?_)
          refine JC.cond_false rfl rfl ?_
          repeat (first | refine JL.q (by first|(apply OQ.load;exact bV;rfl;exact .here;exact (Row.cell (v:=N z.st) rfl))|(apply OQ.dI (b:=2);rfl;rfl;exact h2)|(apply OQ.dI (b:=3);rfl;rfl;exact h3)|(apply OQ.az;rfl;rfl)|(apply OQ.move;rfl)|(apply OQ.assign;rfl)|(apply OQ.aJ;rfl)|(apply OQ.bA;rfl;rfl;rfl;exact (by decide);rfl)) rfl ?_ | refine JC.seq ?_ | refine JC.region ?_ | refine JL.nil ?_ | refine JE.next ?_ | refine JL.aT rfl rfl ?_)
          refine JC.cond_false rfl rfl ?_
          repeat (first | refine JL.q (by first|(apply OQ.load;exact de;rfl;exact .here;exact (Row.cell (v:=ag z.qt z.to.length) rfl))|(apply OQ.gw;exact Tryz.underlying30;exact (fun h=>congrArg List.length (ok.t h));rfl)|(apply OQ.eX (b:=10);rfl;rfl;exact h4)|(apply OQ.move;rfl)|(apply OQ.assign;rfl)|(apply OQ.aJ;rfl)|(apply OQ.bA;rfl;rfl;rfl;exact (by decide);rfl)) rfl ?_ | refine JC.seq ?_ | refine JC.region ?_ | refine JL.nil ?_ | refine JE.next ?_)
          refine JC.cond_false rfl rfl ?_
          repeat (first | refine JL.q (by first|(apply OQ.load;exact de;rfl;exact .here;exact (Row.cell (v:=ag z.qt z.to.length) rfl))|(apply OQ.move;rfl)|(apply OQ.aJ;rfl)|(apply OQ.bA;rfl;rfl;rfl;exact (by decide);rfl)) rfl ?_ | refine JC.seq ?_ | refine JC.region ?_ | refine JC.skip ?_ | refine JE.next ?_ | refine JE.ai ?_)
          refine JL.p9 (v:=Z a) Tryz.underlying30 kQ rfl rfl rfl rfl fun bl _=>?_
          refine JL.perm (M':=⟨bl,Row 9 [Z a],true⟩::(z.T++(⟨b,Row 75 z.cs,true⟩::(z.L++(z.D++z.M))))) ?_ (List.Perm.cons _ (by exact (List.perm_middle (l₁:=z.T)).symm))
          refine JL.kR (p:=a) z.qt Tryz.underlying30 kQ ok.t rfl rfl rfl (by omega) (by omega) rfl fun b1 cap1=>?_
          refine JL.perm (M':=⟨b,Row 75 z.cs,true⟩::(ay 9 (some (b1,cap1)) ((z.to++[a]).map Z)++(z.L++(z.D++z.M)))) ?_ (by exact List.perm_middle)
          repeat (refine JL.q (by first|(apply OQ.aJ;rfl)|(apply OQ.bA;rfl;rfl;rfl;exact (by decide);rfl)) rfl ?_)
          refine JL.o9 (some (b1,cap1)) (z.to++[a]) rfl rfl ?_
          repeat (first | refine JL.q (by first|(apply OQ.move;rfl)|(apply OQ.aJ;rfl)|(apply OQ.bA;rfl;rfl;rfl;exact (by decide);rfl)) rfl ?_ | refine JC.seq ?_ | refine JC.region ?_ | refine JL.nil ?_ | refine JE.next ?_)
          refine JL.jj 3 rfl rfl ?_
          repeat (first | refine JL.q (by (apply OQ.assign;rfl)) rfl ?_ | refine JC.seq ?_ | refine JC.region ?_ | refine JL.nil ?_ | refine JE.next ?_)
          refine JC.ret ?_
          skip
          exact JE.aE rfl (RV.tmp rfl) fun w' hw=>⟨⟨3,z.fr,some (b1,cap1),z.to++[a],z.ql,z.ln,z.qd,z.dt,z.qm,z.zs⟩,⟨⟨nofun,ok.l,ok.d,ok.m⟩,⟨rfl,hs.fr,congrArg (·++[a]) hs.to,hG hn hs _ hn,hs.dt,hs.ms⟩⟩,rfl,hw⟩
      | false=>
        rw [if_neg (fun e=>e.elim (fun e=>of_decide_eq_false h2 (hs.st.trans e)) (fun e=>of_decide_eq_false h3 (hs.st.trans e)))]
        refine enter (n:=48) Tryz.func142 rfl rfl rfl h0 ?_
        repeat (first | refine JL.q (by first|(apply OQ.ak (vs:=[Z t]);exact bX;rfl;exact (fun w' _=>ca w'))|(apply OQ.extract;rfl;rfl)|(apply OQ.not;rfl)|(apply OQ.move;rfl)|(apply OQ.assign;rfl)) rfl ?_ | refine JC.seq ?_ | refine JC.region ?_ | refine JC.block ?_ | refine JL.nil ?_ | refine JE.next ?_)
        refine JC.cond_false rfl rfl ?_
        repeat (first | refine JL.q (by first|(apply OQ.load;exact bV;rfl;exact .here;exact (Row.cell (v:=N z.st) rfl))|(apply OQ.dI (b:=2);rfl;rfl;exact h2)|(apply OQ.dI (b:=3);rfl;rfl;exact h3)|(apply OQ.az;rfl;rfl)|(apply OQ.move;rfl)|(apply OQ.assign;rfl)|(apply OQ.aJ;rfl)|(apply OQ.bA;rfl;rfl;rfl;exact (by decide);rfl)) rfl ?_ | refine JC.seq ?_ | refine JC.region ?_ | refine JL.nil ?_ | refine JE.next ?_ | refine JL.aT rfl rfl ?_)
        refine JC.cond_true rfl rfl ?_
        repeat (first | refine JL.q (by (apply OQ.assign;rfl)) rfl ?_ | refine JC.seq ?_ | refine JC.region ?_ | refine JL.nil ?_ | refine JE.next ?_)
        refine JC.ret ?_
        repeat (first | refine JE.ah ?_ | refine JE.aZ ?_)
        exact JE.aE rfl (RV.tmp rfl) fun w' hw=>⟨z,⟨ok,hs⟩,rfl,hw⟩
end dx
end
section
set_option maxRecDepth 10000
open Sl aA
theorem vL {s : List aA.By} {i : Nat} (h : i<s.length) {n : Nat} {E : Env} {C : World→Prop} {dst : Option Tmp} {ty : TypeId} {pos : String} {aft : Array Edge} {g : Option (Nat × Bool)} {x y : Operand} (hx : ev E x=some (Z s)) (hy : ev E y=some (N i)) : OQ Tryz.prog n E C ⟨dst,.index 9 x y,ty,pos,aft,g⟩ (U8 (s.getD i 0)):=OQ.jR Tryz.underlying9 hx hy h
theorem mW (a b : List aA.By) {i : Nat} (ha : i<a.length) (hb : i<b.length) (h : (a.take i).map small=(b.take i).map small) (k : small (a.getD i 0)=small (b.getD i 0)) : (a.take (i+1)).map small=(b.take (i+1)).map small:=by
  rw [bO a ha,bO b hb,List.map_append,List.map_append,h,List.map_singleton,List.map_singleton,k]
theorem qO (a b : List aA.By) {i : Nat} (ha : i<a.length) (hb : i<b.length) (k : ¬ small (a.getD i 0)=small (b.getD i 0)) : eo a b=false:=by
  refine decide_eq_false fun h=>k ?_
  have:=congrArg (fun l=>l[i]?) h
  simp only [List.getElem?_map,List.getElem?_eq_getElem ha,List.getElem?_eq_getElem hb,Option.map_some,Option.some.injEq] at this
  rw [List.getD_eq_getElem?_getD,List.getD_eq_getElem?_getD,List.getElem?_eq_getElem ha,List.getElem?_eq_getElem hb]
  exact this
end
section
set_option maxRecDepth 10000
open Sl aA
theorem dR : aK Tryz.prog 94:=⟨_,Tryz.func94,rfl,by kernel_rfl⟩
theorem OQ.xG {P : Program} {n : Nat} {E : Env} {C : World→Prop} {dst : Option Tmp} {t t' ty : TypeId} {pos : String} {aft : Array Edge} {g : Option (Nat × Bool)} {x y : Operand} {a b : BitVec 8} (hx : ev E x=some (U8 a)) (hy : ev E y=some (U8 b)) (h : b.toNat≤a.toNat) : OQ P n E C ⟨dst,.binOp .sub t x y t',ty,pos,aft,g⟩ (U8 (a - b)):=
  OQ.bin hx hy rfl fun _=>jZ (k:=.u8) (show IntKind.u8.wrap ((a.toNat : Int) - b.toNat)=((a - b).toNat : Int) by
    rw [BitVec.toNat_sub_of_le (by simpa [BitVec.le_def] using h),← Int.ofNat_sub h,vp,Nat.mod_eq_of_lt (by have:=a.isLt;omega)])
theorem qP : ∀ c : aA.By,65≤c.toNat→c.toNat≤90→c - 65+97=small c:=by
  have h : ∀ c : Fin 256,65≤(BitVec.ofNat 8 c.val).toNat→(BitVec.ofNat 8 c.val).toNat≤90→BitVec.ofNat 8 c.val - 65+97=small (BitVec.ofNat 8 c.val):=by decide +kernel
  intro c
  simpa using h ⟨c.toNat,c.isLt⟩
set_option maxHeartbeats 4000000 in
theorem eD (c : Bt) (w : World) : Calls Tryz.prog 94 [U8 c].toArray w fun e w'=>e=.returned (U8 (small c))∧Ext w w':=by
  refine enter (n:=13) Tryz.func94 rfl rfl rfl (aa.start w []) ?_
  by_cases hb : 65≤c.toNat∧c.toNat≤90
  · have h1 : decide ((65 : Int)≤(c.toNat : Int))=true:=decide_eq_true (by omega)
    have h2 : decide ((c.toNat : Int)≤90)=true:=decide_eq_true (by omega)
    repeat (first | refine JL.q (by first|(apply OQ.cJ (b:=65);rfl;rfl;exact h1)|(apply OQ.qh (b:=90);rfl;rfl;exact h2)|(apply OQ.az;rfl;rfl)|(apply OQ.move;rfl)|(apply OQ.assign;rfl)) rfl ?_ | refine JC.seq ?_ | refine JC.region ?_ | refine JL.nil ?_ | refine JE.next ?_ | refine JL.aT rfl rfl ?_)
    refine JC.cond rfl (fun _=>?_) (fun h=>by cases h)
    repeat (first | refine JL.q (by first|(apply OQ.xG (b:=65);rfl;rfl;exact hb.1)|(apply OQ.xe (b:=97);rfl;rfl)|(apply OQ.move;rfl)|(apply OQ.assign;rfl)) rfl ?_ | refine JC.seq ?_ | refine JC.region ?_ | refine JL.nil ?_ | refine JE.next ?_)
    refine JC.ret ?_
    repeat (refine JE.ah ?_)
    exact JE.aE rfl (RV.tmp rfl) fun w' hw=>⟨by rw [qP c hb.1 hb.2],hw.aS⟩
  · have hs : small c=c:=if_neg hb
    rw [hs]
    cases h1 : decide ((65 : Int)≤(c.toNat : Int)) <;> cases h2 : decide ((c.toNat : Int)≤90)
    all_goals try (exfalso;have:=of_decide_eq_true h1;have:=of_decide_eq_true h2;omega)
    all_goals (repeat (first | refine JL.q (by first|(apply OQ.cJ (b:=65);rfl;rfl;exact h1)|(apply OQ.qh (b:=90);rfl;rfl;exact h2)|(apply OQ.az;rfl;rfl)|(apply OQ.aB;rfl;rfl)|(apply OQ.move;rfl)|(apply OQ.assign;rfl)) rfl ?_ | refine JC.seq ?_ | refine JC.region ?_ | refine JL.nil ?_ | refine JE.next ?_ | refine JL.aT rfl rfl ?_ | refine JL.aU rfl rfl rfl rfl ?_))
    all_goals refine JC.cond rfl (fun h=>by cases h) (fun _=>?_)
    all_goals (repeat (first | refine JL.q (by first|(apply OQ.move;rfl)|(apply OQ.assign;rfl)) rfl ?_ | refine JC.seq ?_ | refine JC.region ?_ | refine JC.skip ?_ | refine JL.nil ?_ | refine JE.next ?_))
    all_goals exact JC.ret (JE.aE rfl (RV.tmp rfl) fun w' hw=>⟨rfl,hw.aS⟩)
set_option maxHeartbeats 8000000 in
theorem qQ (a b : List aA.By) (w : World) (hl : a.length<9223372036854775808) : Calls Tryz.prog 62 [Z a,Z b].toArray w fun e w'=>e=.returned (.bool (eo a b))∧Ext w w':=by
  refine enter (n:=26) Tryz.func62 rfl rfl rfl (aa.start w []) ?_
  cases h0 : decide ((a.length : Int)=(b.length : Int))
  · have hne : eo a b=false:=decide_eq_false fun h=>by
      have:=congrArg List.length h
      simp only [List.length_map] at this
      exact of_decide_eq_false h0 (by omega)
    rw [hne]
    repeat (first | refine JL.q (by first|(apply OQ.bw;exact Tryz.underlying9;rfl)|(apply OQ.nG;rfl;rfl;exact h0)|(apply OQ.move;rfl)|(apply OQ.assign;rfl)) rfl ?_ | refine JC.seq ?_ | refine JC.region ?_ | refine JL.nil ?_ | refine JE.next ?_)
    refine JC.cond rfl (fun _=>?_) (fun h=>by cases h)
    repeat (first | refine JL.q (by (apply OQ.assign;rfl)) rfl ?_ | refine JC.seq ?_ | refine JC.region ?_ | refine JL.nil ?_ | refine JE.next ?_)
    refine JC.ret ?_
    repeat (refine JE.ah ?_)
    exact JE.aE rfl (RV.tmp rfl) fun w' hw=>⟨rfl,hw.aS⟩
  · have hab : a.length=b.length:=by have:=of_decide_eq_true h0;omega
    repeat (first | refine JL.q (by first|(apply OQ.bw;exact Tryz.underlying9;rfl)|(apply OQ.nG;rfl;rfl;exact h0)|(apply OQ.move;rfl)|(apply OQ.assign;rfl)) rfl ?_ | refine JC.seq ?_ | refine JC.region ?_ | refine JL.nil ?_ | refine JE.next ?_)
    refine JC.cond rfl (fun h=>by cases h) (fun _=>?_)
    repeat (first | refine JL.q (by first|(apply OQ.bw;exact Tryz.underlying9;rfl)|(apply OQ.move;rfl)) rfl ?_ | refine JC.seq ?_ | refine JC.region ?_ | refine JC.block ?_ | refine JC.skip ?_ | refine JL.nil ?_ | refine JE.next ?_)
    refine JC.loop (fun i : Nat=>[(0,Z a),(1,Z b),(12,N a.length),(13,N i)]) (fun _=>[]) (fun i=>a.length - i) (fun i=>i≤a.length∧(a.take i).map small=(b.take i).map small) 0 ⟨Nat.zero_le _,rfl⟩ (by repeat (first | exact af.nil | refine af.cons _ _ _ rfl ?_)) (av.refl _) ?_
    rintro i ⟨hi,ha⟩
    repeat (first | refine JL.q (by (apply OQ.dV;rfl;rfl)) rfl ?_ | refine JC.seq ?_ | refine JC.region ?_ | refine JL.nil ?_ | refine JE.next ?_)
    refine JC.cond rfl (fun h=>?_) (fun h=>?_)
    · have hi' : i<a.length:=of_decide_eq_true h
      have hi2 : i<b.length:=by omega
      clear h hi
      have hx:=mW a b hi' hi2 ha
      have hbad:=qO a b hi' hi2
      have i0:=fun {n : Nat} {E : Env} {C : World→Prop} {dst : Option Tmp} {ty : TypeId} {pos : String} {aft : Array Edge} {g : Option (Nat × Bool)} {x y : Operand}=>vL hi' (n:=n) (E:=E) (C:=C) (dst:=dst) (ty:=ty) (pos:=pos) (aft:=aft) (g:=g) (x:=x) (y:=y)
      have i1:=fun {n : Nat} {E : Env} {C : World→Prop} {dst : Option Tmp} {ty : TypeId} {pos : String} {aft : Array Edge} {g : Option (Nat × Bool)} {x y : Operand}=>vL hi2 (n:=n) (E:=E) (C:=C) (dst:=dst) (ty:=ty) (pos:=pos) (aft:=aft) (g:=g) (x:=x) (y:=y)
      generalize a.getD i 0=c at hx hbad i0
      generalize b.getD i 0=d at hx hbad i1
      cases h1 : decide (small c=small d)
      · rw [hbad (of_decide_eq_false h1)]
        repeat (first | refine JL.q (by first|(apply OQ.move;rfl)|(apply OQ.assign;rfl)) rfl ?_ | refine JC.seq ?_ | refine JC.region ?_ | refine JC.block ?_ | refine JC.skip ?_ | refine JL.nil ?_ | refine JE.next ?_)
        refine JC.quiet ei (by kernel_rfl) ?_
        repeat (first | refine JQ.q (by first|(apply i0;rfl;rfl)|(apply i1;rfl;rfl)|(apply OQ.ak (vs:=[U8 c]);exact dR;rfl;exact (fun w' _=>eD c w'))|(apply OQ.ak (vs:=[U8 d]);exact dR;rfl;exact (fun w' _=>eD d w'))|(apply OQ.nV;rfl;rfl;exact h1)|(apply OQ.move;rfl)) rfl ?_ | refine JQ.nil ?_ | refine JE.next ?_)
        refine JC.cond rfl (fun _=>?_) (fun h=>by cases h)
        repeat (first | refine JL.q (by (apply OQ.assign;rfl)) rfl ?_ | refine JC.seq ?_ | refine JC.region ?_ | refine JL.nil ?_ | refine JE.next ?_)
        refine JC.ret ?_
        repeat (first | refine JE.ah ?_ | refine JE.aZ ?_)
        exact JE.aE rfl (RV.tmp rfl) fun w' hw=>⟨rfl,hw.aS⟩
      · repeat (first | refine JL.q (by first|(apply OQ.move;rfl)|(apply OQ.assign;rfl)) rfl ?_ | refine JC.seq ?_ | refine JC.region ?_ | refine JC.block ?_ | refine JC.skip ?_ | refine JL.nil ?_ | refine JE.next ?_)
        refine JC.quiet ei (by kernel_rfl) ?_
        repeat (first | refine JQ.q (by first|(apply i0;rfl;rfl)|(apply i1;rfl;rfl)|(apply OQ.ak (vs:=[U8 c]);exact dR;rfl;exact (fun w' _=>eD c w'))|(apply OQ.ak (vs:=[U8 d]);exact dR;rfl;exact (fun w' _=>eD d w'))|(apply OQ.nV;rfl;rfl;exact h1)|(apply OQ.move;rfl)) rfl ?_ | refine JQ.nil ?_ | refine JE.next ?_)
        refine JC.cond rfl (fun h=>by cases h) (fun _=>?_)
        repeat (first | refine JL.q (by first|(apply OQ.move;rfl)|(apply OQ.bh;rfl;rfl;exact (by (try simp only []);omega))) rfl ?_ | refine JC.region ?_ | refine JC.skip ?_ | refine JL.nil ?_ | refine JE.next ?_ | refine JE.ai ?_)
        exact JE.again (i:=i) (i+1) ⟨hi',hx (of_decide_eq_true h1)⟩ (by omega) (by repeat (first | exact af.nil | refine af.cons _ _ _ rfl ?_)) (av.refl _)
    · have hi' : ¬ i<a.length:=of_decide_eq_false h
      obtain rfl : i=a.length:=by omega
      clear h hi hi'
      rw [List.take_length,List.take_of_length_le (by omega)] at ha
      rw [show eo a b=true from decide_eq_true ha]
      repeat (first | refine JL.q (by (apply OQ.assign;rfl)) rfl ?_ | refine JC.seq ?_ | refine JC.region ?_ | refine JC.exit ?_ | refine JL.nil ?_ | refine JE.next ?_ | refine JE.ax ?_ | refine JE.aI ?_)
      refine JC.ret ?_
      exact JE.aE rfl (RV.tmp rfl) fun w' hw=>⟨rfl,hw.aS⟩
end
section
set_option maxRecDepth 10000
open Sl
namespace dx
theorem qR : aK Tryz.prog 104:=⟨_,Tryz.func104,rfl,by kernel_rfl⟩
theorem qS : aK Tryz.prog 72:=⟨_,Tryz.func72,rfl,by kernel_rfl⟩
theorem iw : aK Tryz.prog 62:=⟨_,Tryz.func62,rfl,by kernel_rfl⟩
theorem yL : EI Tryz.prog 167 (.agg #[Z [],.nilFunc]) 2 24:=by unfold EI;kernel_rfl
theorem ya : nJ Tryz.prog 167=true:=by kernel_rfl
theorem yb : e6 Tryz.prog 167=some 2:=by kernel_rfl
theorem yM : zc Tryz.prog 167=some [Z [],.nilFunc]:=by kernel_rfl
theorem yd : eu Tryz.prog 68=true:=by kernel_rfl
def bS : Nat→List Bt
  | 0=>bT
  | 1=>bU
  | 2=>cm
  | 3=>bP
  | 4=>cq
  | _=>cr
def qT : Nat→FuncId
  | 0=>140
  | 1=>141
  | 2=>142
  | 3=>143
  | 4=>144
  | _=>145
def u9 : Nat→Po→List Bt→Po × List Bt
  | 0=>cZ
  | 1=>bM
  | 2=>c9
  | 3=>cx
  | 4=>ct
  | _=>eK
def mv (i b : Nat) : Value:=.func (.func (qT i)) [Pt b 0].toArray ([] : List Value).toArray
def lz (b i : Nat) : List Value:=[Z (bS i),mv i b]
def wW (b : Nat) : List (List Value):=[lz b 0,lz b 1,lz b 2,lz b 3,lz b 4,lz b 5]
theorem ep (b i : Nat) : Program.built Tryz.prog 167 [(0,Z (bS i)),(1,mv i b)]=some (lz b i).toArray:=by
  unfold lz mv
  generalize bS i=ww
  generalize qT i=ff
  generalize hpp : Pt b 0=pp
  rfl
set_option maxHeartbeats 8000000 in
theorem s4 (b : Nat) (w : World) : Calls Tryz.prog 104 [Pt b 0].toArray w fun e w'=>∃ c : Nat,e=.returned (.slice (some ⟨c,0,none⟩) 6 6)∧aa w [] [⟨c,Row 167 (wW b).flatten,true⟩] w':=by
  refine enter (n:=22) Tryz.func104 rfl rfl rfl (aa.start w []) ?_
  repeat (first | refine JL.q (by first|(apply OQ.yH (rs:=[Pt b 0]) (caps:=[]);rfl;rfl)|(apply OQ.dY (cs:=lz b 0) (is:=[0,1]) (xs:=[.const (Z (bS 0)),.tmp 4]);rfl;rfl;exact (ep b 0))|(apply OQ.dY (cs:=lz b 1) (is:=[0,1]) (xs:=[.const (Z (bS 1)),.tmp 7]);rfl;rfl;exact (ep b 1))|(apply OQ.dY (cs:=lz b 2) (is:=[0,1]) (xs:=[.const (Z (bS 2)),.tmp 10]);rfl;rfl;exact (ep b 2))|(apply OQ.dY (cs:=lz b 3) (is:=[0,1]) (xs:=[.const (Z (bS 3)),.tmp 13]);rfl;rfl;exact (ep b 3))|(apply OQ.dY (cs:=lz b 4) (is:=[0,1]) (xs:=[.const (Z (bS 4)),.tmp 16]);rfl;rfl;exact (ep b 4))|(apply OQ.dY (cs:=lz b 5) (is:=[0,1]) (xs:=[.const (Z (bS 5)),.tmp 19]);rfl;rfl;exact (ep b 5))|(apply OQ.move;rfl)|(apply OQ.assign;rfl)) rfl ?_ | refine JC.seq ?_ | refine JC.region ?_ | refine JL.nil ?_ | refine JE.next ?_)
  refine JL.xl (xs:=[.tmp 5,.tmp 8,.tmp 11,.tmp 14,.tmp 17,.tmp 20]) (css:=wW b) (sz:=2) (m:=6) Tryz.underlying164 yL rfl (by decide) rfl rfl (by unfold wW lz;simp) rfl (by decide) (by decide) rfl fun c _=>?_
  repeat (first | refine JL.q (by (apply OQ.assign;rfl)) rfl ?_ | refine JL.nil ?_ | refine JE.next ?_)
  refine JC.ret ?_
  skip
  exact JE.aE rfl (RV.tmp rfl) fun w' hw=>⟨c,rfl,hw⟩
theorem s5 (i : Nat) : aK Tryz.prog (qT i):=by
  rcases i with _ | _ | _ | _ | _ | i
  · exact ov
  · exact mU
  · exact qH
  · exact ow
  · exact ox
  · exact qI
theorem vb (i b : Nat) (z : Pw) (S : Po) (ok : z.ok) (hs : z.is S) (hn : S.ln=[]) (h10 : S.to.length≤10) (t : List Bt) (hl : t.length<1000000) (w : World) (h0 : aa w (keys (z.E b)) (z.E b) w) : Calls Tryz.prog (qT i) [Pt b 0,Z t].toArray w (dP (keys (z.E b)) b (u9 i S t) w):=by
  rcases i with _ | _ | _ | _ | _ | i
  · exact qK b z S ok hs hn t w h0
  · exact oy b z S ok hs hn t hl w h0
  · exact s3 b z S ok hs hn h10 t hl w h0
  · exact qL b z S ok hs hn t w h0
  · exact qM b z S ok hs hn t w h0
  · exact sZ b z S ok hs hn t w h0
theorem s6 {S : Po} {l : List Bt} (h5 : ¬ 512<l.length) {i : Nat} (hi : i<6) (hno : ∀ j,j<i→au (bS j) l=false) (hy : au (bS i) l=true) : aX S l=u9 i S (l.drop (bS i).length):=by
  have n0:=fun h=>hno 0 h
  have n1:=fun h=>hno 1 h
  have n2:=fun h=>hno 2 h
  have n3:=fun h=>hno 3 h
  have n4:=fun h=>hno 4 h
  unfold aX
  rw [if_neg h5]
  obtain rfl | rfl | rfl | rfl | rfl | rfl : i=0∨i=1∨i=2∨i=3∨i=4∨i=5:=by omega
  · rw [if_pos (show au bT l=true from hy)];rfl
  · rw [if_neg (by rw [show au bT l=false from n0 (by omega)];simp),if_pos (show au bU l=true from hy)];rfl
  · rw [if_neg (by rw [show au bT l=false from n0 (by omega)];simp),if_neg (by rw [show au bU l=false from n1 (by omega)];simp),if_pos (show au cm l=true from hy)];rfl
  · rw [if_neg (by rw [show au bT l=false from n0 (by omega)];simp),if_neg (by rw [show au bU l=false from n1 (by omega)];simp),if_neg (by rw [show au cm l=false from n2 (by omega)];simp),if_pos (show au bP l=true from hy)];rfl
  · rw [if_neg (by rw [show au bT l=false from n0 (by omega)];simp),if_neg (by rw [show au bU l=false from n1 (by omega)];simp),if_neg (by rw [show au cm l=false from n2 (by omega)];simp),if_neg (by rw [show au bP l=false from n3 (by omega)];simp),if_pos (show au cq l=true from hy)];rfl
  · rw [if_neg (by rw [show au bT l=false from n0 (by omega)];simp),if_neg (by rw [show au bU l=false from n1 (by omega)];simp),if_neg (by rw [show au cm l=false from n2 (by omega)];simp),if_neg (by rw [show au bP l=false from n3 (by omega)];simp),if_neg (by rw [show au cq l=false from n4 (by omega)];simp),if_pos (show au cr l=true from hy)];rfl
theorem qU {S : Po} {l : List Bt} (h5 : ¬ 512<l.length) (hno : ∀ j,j<6→au (bS j) l=false) : aX S l=(S,dG):=by
  have n0:=hno 0 (by omega)
  have n1:=hno 1 (by omega)
  have n2:=hno 2 (by omega)
  have n3:=hno 3 (by omega)
  have n4:=hno 4 (by omega)
  have n5:=hno 5 (by omega)
  unfold aX
  rw [if_neg h5,if_neg (by rw [show au bT l=false from n0];simp),if_neg (by rw [show au bU l=false from n1];simp),if_neg (by rw [show au cm l=false from n2];simp),if_neg (by rw [show au bP l=false from n3];simp),if_neg (by rw [show au cq l=false from n4];simp),if_neg (by rw [show au cr l=false from n5];simp)]
theorem wD (b i : Nat) (hi : i<6) : ((wW b).flatten.drop (0+i * 2)).take (lz b i).length=lz b i:=by
  obtain rfl | rfl | rfl | rfl | rfl | rfl : i=0∨i=1∨i=2∨i=3∨i=4∨i=5:=by omega
  all_goals rfl
theorem s7 (i : Nat) : (bS i).length≤10:=by
  rcases i with _ | _ | _ | _ | _ | i
  · show bT.length≤10;decide
  · show bU.length≤10;decide
  · show cm.length≤10;decide
  · show bP.length≤10;decide
  · show cq.length≤10;decide
  · show cr.length≤10;decide
set_option maxHeartbeats 8000000 in
theorem s8 (b : Nat) (z : Pw) (S : Po) (ok : z.ok) (hs : z.is S) (hn : S.ln=[]) (h10 : S.to.length≤10) (l : List Bt) (hl : l.length<1000000) (w : World) (h0 : aa w (keys (z.E b)) (z.E b) w) : Calls Tryz.prog 72 [Pt b 0,Z l].toArray w (dP (keys (z.E b)) b (aX S l) w):=by
  have hall : ∀ (i : Nat) (w : World),aa w (keys (z.E b)) (z.E b) w→Calls Tryz.prog (qT i) [Pt b 0,Z (l.drop (bS i).length)].toArray w (dP (keys (z.E b)) b (u9 i S (l.drop (bS i).length)) w):=fun i w hw=>vb i b z S ok hs hn h10 _ (by rw [List.length_drop];omega) w hw
  generalize hS : keys (z.E b)=S0 at h0 ⊢
  refine enter (n:=40) Tryz.func72 rfl rfl rfl h0 ?_
  repeat (first | refine JL.q (by first|(apply OQ.bw;exact Tryz.underlying9;rfl)|(apply OQ.move;rfl)|(apply OQ.assign;rfl)|(apply OQ.kL;rfl;rfl)) rfl ?_ | refine JC.seq ?_ | refine JC.region ?_ | refine JL.nil ?_ | refine JE.next ?_)
  cases h5 : decide (512<l.length) with
  | true=>
    rw [show aX S l=(S,dG) from if_pos (of_decide_eq_true h5)]
    refine JC.cond_true rfl rfl ?_
    repeat (first | refine JL.q (by (apply OQ.assign;rfl)) rfl ?_ | refine JC.seq ?_ | refine JC.region ?_ | refine JL.nil ?_ | refine JE.next ?_)
    refine JC.ret ?_
    repeat (refine JE.ah ?_)
    exact JE.aE rfl (RV.tmp rfl) fun w' hw=>⟨z,⟨ok,hs⟩,rfl,hw⟩
  | false=>
    refine JC.cond_false rfl rfl ?_
    have h5':=of_decide_eq_false h5
    repeat (first | refine JL.q (by (apply OQ.move;rfl)) rfl ?_ | refine JC.seq ?_ | refine JC.region ?_ | refine JC.skip ?_ | refine JE.next ?_)
    refine JL.dD (ι:=Nat) (vs:=[Pt b 0]) (fun c=>.slice (some ⟨c,0,none⟩) 6 6) (fun c=>[⟨c,Row 167 (wW b).flatten,true⟩]) qR rfl rfl (fun c e he=>by rw [List.mem_singleton.1 he]) (fun w' _=>s4 b w') fun c=>?_
    repeat (first | refine JL.q (by first|(apply OQ.len (k:=6) (ad:=some ⟨c,0,none⟩) (cap:=6);exact Tryz.underlying164;rfl)|(apply OQ.move;rfl)) rfl ?_ | refine JC.block ?_ | refine JL.nil ?_ | refine JE.next ?_)
    refine JC.loop (fun i : Nat=>[(0,Pt b 0),(1,Z l),(12,.slice (some ⟨c,0,none⟩) 6 6),(13,N 6),(14,N i)]) (fun _=>⟨c,Row 167 (wW b).flatten,true⟩::z.E b) (fun i=>6 - i) (fun i=>i≤6∧∀ j,j<i→au (bS j) l=false) 0 ⟨Nat.zero_le _,fun j hj=>absurd hj (Nat.not_lt_zero _)⟩ (by repeat (first | exact af.nil | refine af.cons _ _ _ rfl ?_)) (av.refl _) ?_
    rintro i ⟨hi,hno⟩
    repeat (first | refine JL.q (by (apply OQ.dV (a:=i) (b:=6);rfl;rfl)) rfl ?_ | refine JC.seq ?_ | refine JC.region ?_ | refine JL.nil ?_ | refine JE.next ?_)
    refine JC.cond rfl (fun hh=>?_) (fun hh=>?_)
    · have hi' : i<6:=of_decide_eq_true hh
      clear hh
      have hwl:=s7 i
      repeat (first | refine JL.q (by first|(apply OQ.cX (k:=.i64) (i:=i) (sz:=2);exact Tryz.underlying164;exact yb;rfl;rfl;exact hi')|(apply OQ.iP (cs:=lz b i);exact ya;exact yb;rfl;exact .here;rfl;exact (Row.cells (wD b i hi')))) rfl ?_ | refine JC.seq ?_ | refine JC.region ?_ | refine JC.block ?_ | refine JC.skip ?_ | refine JE.next ?_)
      refine JL.alloc (r:=[Z [],.nilFunc]) yM rfl fun bc _=>?_
      refine JL.gL (cs:=lz b i) yb rfl rfl rfl rfl .here rfl ?_
      repeat (first | refine JL.q (by first|(apply OQ.load;exact fy;rfl;exact .here;exact (Row.cell (v:=Z (bS i)) rfl))|(apply OQ.bw;exact Tryz.underlying9;rfl)|(apply OQ.assign;rfl)|(apply OQ.bA;rfl;rfl;rfl;exact (by decide);rfl)) rfl ?_ | refine JC.seq ?_ | refine JC.region ?_ | refine JL.nil ?_ | refine JE.next ?_)
      cases hge : decide (((bS i).length : Int)≤(l.length : Int)) with
      | false=>
        have hst : au (bS i) l=false:=by
          unfold au
          rw [decide_eq_false (by have:=of_decide_eq_false hge;omega),Bool.false_and]
        refine JC.quiet ei (by kernel_rfl) ?_
        repeat (first | refine JQ.q (by first|(apply OQ.bw;exact Tryz.underlying9;rfl)|(apply OQ.cJ;rfl;rfl;exact hge)|(apply OQ.aB;rfl;rfl)|(apply OQ.move;rfl)) rfl ?_ | refine JQ.nil ?_ | refine JE.next ?_ | refine JQ.aU rfl rfl rfl rfl ?_)
        refine JC.cond_false rfl rfl ?_
        repeat (first | refine JL.q (by first|(apply OQ.move;rfl)|(apply OQ.bh;rfl;rfl;exact (by (try simp only []);omega))) rfl ?_ | refine JC.region ?_ | refine JC.skip ?_ | refine JL.nil ?_ | refine JE.next ?_ | refine JE.ai ?_)
        refine JE.again (i+1) ⟨by omega,fun j hj=>?_⟩ (by omega) (by repeat (first | exact af.nil | refine af.cons _ _ _ rfl ?_)) (.drop _ _ _ (av.refl _))
        rcases Nat.lt_or_eq_of_le (Nat.le_of_lt_succ hj) with h | rfl
        · exact hno j h
        · exact hst
      | true=>
        have hge' : (bS i).length≤l.length:=by have:=of_decide_eq_true hge;omega
        have hst : au (bS i) l=aA.eo (l.take (bS i).length) (bS i):=by
          unfold au
          rw [decide_eq_true hge',Bool.true_and]
        have cF:=fun w'=>qQ (l.take (bS i).length) (bS i) w' (by rw [List.length_take];omega)
        refine JC.quiet ei (by kernel_rfl) ?_
        cases hsb : aA.eo (l.take (bS i).length) (bS i) with
        | false=>
          simp only [hsb] at cF
          repeat (first | refine JQ.q (by first|(apply OQ.bw;exact Tryz.underlying9;rfl)|(apply OQ.cJ;rfl;rfl;exact hge)|(apply OQ.az;rfl;rfl)|(apply OQ.cw (j:=(bS i).length);exact Tryz.underlying9;rfl;rfl;exact hge')|(apply OQ.load;exact fy;rfl;exact .here;exact (Row.cell (v:=Z (bS i)) rfl))|(apply OQ.ak (vs:=[Z (l.take (bS i).length),Z (bS i)]);exact iw;rfl;exact (fun w' _=>cF w'))|(apply OQ.move;rfl)|(apply OQ.bA;rfl;rfl;rfl;exact (by decide);rfl)) rfl ?_ | refine JQ.nil ?_ | refine JE.next ?_ | refine JQ.aT rfl rfl ?_)
          refine JC.cond_false rfl rfl ?_
          repeat (first | refine JL.q (by first|(apply OQ.move;rfl)|(apply OQ.bh;rfl;rfl;exact (by (try simp only []);omega))) rfl ?_ | refine JC.region ?_ | refine JC.skip ?_ | refine JL.nil ?_ | refine JE.next ?_ | refine JE.ai ?_)
          refine JE.again (i+1) ⟨by omega,fun j hj=>?_⟩ (by omega) (by repeat (first | exact af.nil | refine af.cons _ _ _ rfl ?_)) (.drop _ _ _ (av.refl _))
          rcases Nat.lt_or_eq_of_le (Nat.le_of_lt_succ hj) with h | rfl
          · exact hno j h
          · exact hst.trans hsb
        | true=>
          simp only [hsb] at cF
          repeat (first | refine JQ.q (by first|(apply OQ.bw;exact Tryz.underlying9;rfl)|(apply OQ.cJ;rfl;rfl;exact hge)|(apply OQ.az;rfl;rfl)|(apply OQ.cw (j:=(bS i).length);exact Tryz.underlying9;rfl;rfl;exact hge')|(apply OQ.load;exact fy;rfl;exact .here;exact (Row.cell (v:=Z (bS i)) rfl))|(apply OQ.ak (vs:=[Z (l.take (bS i).length),Z (bS i)]);exact iw;rfl;exact (fun w' _=>cF w'))|(apply OQ.move;rfl)|(apply OQ.bA;rfl;rfl;rfl;exact (by decide);rfl)) rfl ?_ | refine JQ.nil ?_ | refine JE.next ?_ | refine JQ.aT rfl rfl ?_)
          refine JC.cond_true rfl rfl ?_
          repeat (refine JC.seq ?_)
          refine JC.tail 5 ei (by kernel_rfl) ?_
          simp only [List.take_succ_cons,List.take_zero,List.drop_succ_cons,List.drop_zero]
          repeat (first | refine JQ.q (by first|(apply OQ.load;exact yd;rfl;exact .here;exact (Row.cell (v:=mv i b) rfl))|(apply OQ.bH (i:=(bS i).length);exact Tryz.underlying9;rfl;rfl;exact hge')|(apply OQ.move;rfl)|(apply OQ.bA;rfl;rfl;rfl;exact (by decide);rfl)) rfl ?_ | refine JQ.rP ?_)
          rw [s6 h5' hi' hno (hst.trans hsb)]
          have hcc:=hall i
          rw [hS] at hcc
          generalize hr : u9 i S (l.drop (bS i).length)=r at hcc ⊢
          refine JL.ek (M':=z.E b++[]) ?_ (.drop _ _ _ (.drop _ _ _ (by rw [List.append_nil];exact av.refl _)))
          refine JL.xk (f:=qT i) (ι:={y : Pw // y.ok∧y.is r.1}) (vs:=[Pt b 0,Z (l.drop (bS i).length)]) (fun _=>Z r.2) (fun y=>y.1.E b) (fun a ha w1=>nZ (rs:=[Pt b 0]) (caps:=[]) (vs:=[Z (l.drop (bS i).length)]) (s5 i) ha rfl rfl w1) rfl (z.wr b) (fun y=>Pw.wr b _) (fun w' _ hx=>by
            rw [hS] at hx ⊢
            exact (hcc w' hx).mono fun e w2 ⟨y,h1,h2,h3⟩=>⟨⟨y,h1⟩,h2,h3⟩) fun y=>?_
          rw [List.append_nil]
          repeat (first | refine JL.q (by (apply OQ.assign;rfl)) rfl ?_ | refine JL.nil ?_ | refine JE.next ?_)
          refine JC.ret ?_
          repeat (first | refine JE.ah ?_ | refine JE.aZ ?_)
          exact JE.aE rfl (RV.tmp rfl) fun w' hw=>⟨y.1,y.2,rfl,hw⟩
    · have hi' : i=6:=by have:=of_decide_eq_false hh;omega
      subst hi'
      rw [qU h5' hno]
      repeat (first | refine JL.q (by (apply OQ.assign;rfl)) rfl ?_ | refine JC.seq ?_ | refine JC.region ?_ | refine JC.exit ?_ | refine JL.nil ?_ | refine JE.next ?_ | refine JE.ax ?_ | refine JE.aI ?_)
      refine JC.ret ?_
      skip
      exact JE.aE rfl (RV.tmp rfl) fun w' hw=>⟨z,⟨ok,hs⟩,rfl,hw.weak (.drop _ _ _ (av.refl _))⟩
end dx
end
section
set_option maxRecDepth 10000
open Sl
theorem jB : aK Tryz.prog 103:=⟨_,Tryz.func103,rfl,by kernel_rfl⟩
theorem mX : aK Tryz.prog 149:=⟨_,Tryz.func149,rfl,by kernel_rfl⟩
theorem mY : aK Tryz.prog 71:=⟨_,Tryz.func71,rfl,by kernel_rfl⟩
def preB (s d : List Bt) : Bool:=decide ((d.length : Int)≤(s.length : Int)) && decide (s.take d.length=d)
def oz (s d : List Bt) : Bool:=decide ((d.length : Int)≤(s.length : Int)) && decide (s.drop (s.length - d.length)=d)
theorem OQ.isNil {P : Program} {n : Nat} {E : Env} {C : World→Prop} {dst : Option Tmp} {t t' ty e : TypeId} {pos : String} {aft : Array Edge} {g : Option (Nat × Bool)} {x y : Operand} {ad : Option Addr} {k cap : Nat} (hu : P.underlying t=some (.slice e)) (hx : ev E x=some (.slice ad k cap)) (hy : ev E y=some (.slice none 0 0)) :
    OQ P n E C ⟨dst,.binOp .eql t x y t',ty,pos,aft,g⟩ (.bool ad.isNone):=
  OQ.run fun c ha w _=>by
    have h1:=ha.eval hx
    have h2:=ha.eval hy
    have h4 : (binOp .eql t (.slice ad k cap) (.slice none 0 0)).run P w=.ok (.bool ad.isNone) w:=by
      show (do pure (.bool (← Op.equal t (.slice ad k cap) (.slice none 0 0))) : Sem Value).run P w=_
      simp [Sem.run_bind,run_equal_slice_nil w t e ad k cap hu]
    simp [execOp,h1,h2,eqGuard,h4]
set_option maxHeartbeats 2000000 in
theorem kr (a b : aC) (w : World) (ha : a.ok w) (hb : b.ok w) : Calls Tryz.prog 103 [a.v,b.v].toArray w fun e w'=>e=.returned (.bool (decide (a.l=b.l)))∧Ext w w':=by
  refine enter (n:=10) Tryz.func103 rfl rfl rfl (aa.start w []) ?_
  repeat (first | refine JL.q (by first|(apply OQ.nF (s:=a);exact Tryz.underlying22;exact Tryz.underlying5;exact Tryz.underlying9;rfl;exact (fun w' hw'=>ha.holds hw' rfl))|(apply OQ.nF (s:=b);exact Tryz.underlying22;exact Tryz.underlying5;exact Tryz.underlying9;rfl;exact (fun w' hw'=>hb.holds hw' rfl))|(apply OQ.xT;rfl;rfl)|(apply OQ.move;rfl)|(apply OQ.assign;rfl)) rfl ?_ | refine JC.seq ?_ | refine JC.region ?_ | refine JL.nil ?_ | refine JE.next ?_)
  exact JC.ret (JE.aE rfl (RV.tmp rfl) fun w' hw=>⟨rfl,hw.aS⟩)
set_option maxHeartbeats 4000000 in
theorem pK (s d : aC) (w : World) (hs : s.ok w) (hd : d.ok w) : Calls Tryz.prog 149 [s.v,d.v].toArray w fun e w'=>e=.returned (.bool (preB s.l d.l))∧Ext w w':=by
  refine enter (n:=18) Tryz.func149 rfl rfl rfl (aa.start w []) ?_
  have hcap:=hs.len
  unfold preB
  cases h : decide ((d.l.length : Int)≤(s.l.length : Int))
  · repeat (first | refine JL.q (by first|(apply OQ.cJ;rfl;rfl;exact h)|(apply OQ.aB;rfl;rfl)|(apply OQ.move;rfl)|(apply OQ.assign;rfl)|(apply OQ.len;rfl;rfl)) rfl ?_ | refine JC.seq ?_ | refine JC.region ?_ | refine JL.nil ?_ | refine JE.next ?_ | refine JL.aU rfl rfl rfl rfl ?_)
    exact JC.ret (JE.aE rfl (RV.tmp rfl) fun w' hw=>⟨rfl,hw.aS⟩)
  · have hle : d.l.length≤s.l.length:=by have:=of_decide_eq_true h;omega
    repeat (first | refine JL.q (by first|(apply OQ.cJ;rfl;rfl;exact h)|(apply OQ.fst (s:=s);exact Tryz.underlying22;exact bN;rfl;rfl;exact hle;exact hcap)|(apply OQ.ak (vs:=[(s.fst d.l.length).v,d.v]);exact jB;rfl;exact (fun w' hw'=>kr (s.fst d.l.length) d w' ((hs.holds hw' rfl).fst _) (hd.holds hw' rfl)))|(apply OQ.az;rfl;rfl)|(apply OQ.move;rfl)|(apply OQ.assign;rfl)|(apply OQ.len;rfl;rfl)) rfl ?_ | refine JC.seq ?_ | refine JC.region ?_ | refine JL.nil ?_ | refine JE.next ?_ | refine JL.aT rfl rfl ?_)
    exact JC.ret (JE.aE rfl (RV.tmp rfl) fun w' hw=>⟨rfl,hw.aS⟩)
set_option maxHeartbeats 4000000 in
theorem vc (s d : aC) (w : World) (hs : s.ok w) (hd : d.ok w) (hl : s.l.length≤4611686018427387904) : Calls Tryz.prog 71 [s.v,d.v].toArray w fun e w'=>e=.returned (.bool (oz s.l d.l))∧Ext w w':=by
  refine enter (n:=21) Tryz.func71 rfl rfl rfl (aa.start w []) ?_
  unfold oz
  cases h : decide ((d.l.length : Int)≤(s.l.length : Int))
  · repeat (first | refine JL.q (by first|(apply OQ.cJ;rfl;rfl;exact h)|(apply OQ.aB;rfl;rfl)|(apply OQ.move;rfl)|(apply OQ.assign;rfl)|(apply OQ.len;rfl;rfl)) rfl ?_ | refine JC.seq ?_ | refine JC.region ?_ | refine JL.nil ?_ | refine JE.next ?_ | refine JL.aU rfl rfl rfl rfl ?_)
    exact JC.ret (JE.aE rfl (RV.tmp rfl) fun w' hw=>⟨rfl,hw.aS⟩)
  · have hle : d.l.length≤s.l.length:=by have:=of_decide_eq_true h;omega
    have hsub : s.l.length - d.l.length≤s.l.length:=Nat.sub_le _ _
    repeat (first | refine JL.q (by first|(apply OQ.cJ;rfl;rfl;exact h)|(apply OQ.snd (s:=s);exact Tryz.underlying22;exact bN;rfl;rfl;exact hsub)|(apply OQ.ak (vs:=[(s.snd (s.l.length - d.l.length)).v,d.v]);exact jB;rfl;exact (fun w' hw'=>kr (s.snd (s.l.length - d.l.length)) d w' ((hs.holds hw' rfl).snd _ hsub) (hd.holds hw' rfl)))|(apply OQ.az;rfl;rfl)|(apply OQ.move;rfl)|(apply OQ.assign;rfl)|(apply OQ.len;rfl;rfl)|(apply OQ.eP;rfl;rfl;exact (by (try simp only []);omega);exact (by (try simp only []);omega))) rfl ?_ | refine JC.seq ?_ | refine JC.region ?_ | refine JL.nil ?_ | refine JE.next ?_ | refine JL.aT rfl rfl ?_)
    exact JC.ret (JE.aE rfl (RV.tmp rfl) fun w' hw=>⟨rfl,hw.aS⟩)
theorem qV : aK Tryz.prog 110:=⟨_,Tryz.func110,rfl,by kernel_rfl⟩
def trimS (s d : aC) : aC:=if preB s.l d.l then s.snd d.l.length else s
theorem s9 {s d : aC} {w : World} (h : s.ok w) : (trimS s d).ok w:=by
  unfold trimS
  split
  · rename_i hp
    unfold preB at hp
    rw [Bool.and_eq_true] at hp
    have:=of_decide_eq_true hp.1
    exact h.snd _ (by omega)
  · exact h
set_option maxHeartbeats 4000000 in
theorem tc (s d : aC) (w : World) (hs : s.ok w) (hd : d.ok w) : Calls Tryz.prog 110 [s.v,d.v].toArray w fun e w'=>e=.returned (trimS s d).v∧Ext w w':=by
  refine enter (n:=13) Tryz.func110 rfl rfl rfl (aa.start w []) ?_
  unfold trimS
  cases h : preB s.l d.l
  · repeat (first | refine JL.q (by first|(apply OQ.move;rfl)|(apply OQ.assign;rfl)) rfl ?_ | refine JC.seq ?_ | refine JC.region ?_ | refine JL.nil ?_ | refine JE.next ?_)
    refine JL.q (OQ.ak (vs:=[s.v,d.v]) mX rfl (fun w' hw'=>h ▸ pK s d w' (hs.holds hw' rfl) (hd.holds hw' rfl))) rfl ?_
    repeat (first | refine JL.nil ?_ | refine JE.next ?_)
    refine JC.cond_false rfl rfl ?_
    repeat (first | refine JL.q (by first|(apply OQ.move;rfl)|(apply OQ.assign;rfl)) rfl ?_ | refine JC.seq ?_ | refine JC.region ?_ | refine JC.skip ?_ | refine JL.nil ?_ | refine JE.next ?_)
    exact JC.ret (JE.aE rfl (RV.tmp rfl) fun w' hw=>⟨rfl,hw.aS⟩)
  · have hle : d.l.length≤s.l.length:=by
      unfold preB at h
      rw [Bool.and_eq_true] at h
      have:=of_decide_eq_true h.1
      omega
    repeat (first | refine JL.q (by first|(apply OQ.move;rfl)|(apply OQ.assign;rfl)) rfl ?_ | refine JC.seq ?_ | refine JC.region ?_ | refine JL.nil ?_ | refine JE.next ?_)
    refine JL.q (OQ.ak (vs:=[s.v,d.v]) mX rfl (fun w' hw'=>h ▸ pK s d w' (hs.holds hw' rfl) (hd.holds hw' rfl))) rfl ?_
    repeat (first | refine JL.nil ?_ | refine JE.next ?_)
    refine JC.cond_true rfl rfl ?_
    repeat (first | refine JL.q (by first|(apply OQ.snd (s:=s);exact Tryz.underlying22;exact bN;rfl;rfl;exact hle)|(apply OQ.move;rfl)|(apply OQ.assign;rfl)|(apply OQ.len;rfl;rfl)) rfl ?_ | refine JC.seq ?_ | refine JC.region ?_ | refine JL.nil ?_ | refine JE.next ?_)
    refine JC.ret ?_
    repeat (refine JE.ah ?_)
    exact JE.aE rfl (RV.tmp rfl) fun w' hw=>⟨rfl,hw.aS⟩
theorem oA : aK Tryz.prog 37:=⟨_,Tryz.func37,rfl,by kernel_rfl⟩
set_option maxHeartbeats 4000000 in
theorem ku (s : aC) (w : World) (hs : s.ok w) (hl : s.l.length≤4294967296) : Calls Tryz.prog 37 [s.v].toArray w fun e w'=>∃ q : Acc,e=.returned (ag q s.l.length)∧(q=none→s.l=[])∧aa w [] (ay 5 q (s.l.map U8)) w':=by
  refine enter (n:=8) Tryz.func37 rfl rfl rfl (aa.start w []) ?_
  obtain ⟨ad,cap,l⟩:=s
  cases ad with
  | none=>
    have h0 : l=[]:=by
      cases l with
      | nil=>rfl
      | cons c l=>
        obtain ⟨b,j,h1,_⟩:=hs.reads.at (by simp)
        cases h1
    repeat (first | refine JL.q (by first|(apply OQ.isNil;exact Tryz.underlying22;rfl;rfl)|(apply OQ.move;rfl)|(apply OQ.assign;rfl)) rfl ?_ | refine JC.seq ?_ | refine JC.region ?_ | refine JL.nil ?_ | refine JE.next ?_)
    refine JC.cond_true rfl rfl ?_
    repeat (first | refine JL.q (by (apply OQ.assign;rfl)) rfl ?_ | refine JC.seq ?_ | refine JC.region ?_ | refine JL.nil ?_ | refine JE.next ?_)
    refine JC.ret ?_
    repeat (refine JE.ah ?_)
    exact JE.aE rfl (RV.tmp rfl) fun w' hw=>⟨none,rfl,fun _=>h0,hw⟩
  | some ad=>
    repeat (first | refine JL.q (by first|(apply OQ.isNil;exact Tryz.underlying22;rfl;rfl)|(apply OQ.move;rfl)|(apply OQ.assign;rfl)) rfl ?_ | refine JC.seq ?_ | refine JC.region ?_ | refine JL.nil ?_ | refine JE.next ?_)
    refine JC.cond_false rfl rfl ?_
    repeat (first | refine JC.seq ?_ | refine JC.region ?_ | refine JC.skip ?_ | refine JE.next ?_)
    refine JL.oW Tryz.underlying22 cc rfl fun b0 _=>?_
    repeat (refine JL.q (by (apply OQ.move;rfl)) rfl ?_)
    refine JL.append (cs:=l.map U8) (m:=l.length) (ad:=some ad) (sc:=cap) (xs:=[]) (fun b' cap'=>[⟨b',Sl.aO 5 1 (0+l.length) cap' ([]++l.map U8),true⟩]) Tryz.underlying22 cc rfl rfl (by intro _ _;repeat (first | exact aL.here | apply aL.there)) (by simp) (fun w' hw'=>(hs.holds hw' rfl).reads) (b5 _) rfl (by decide) (by simp only [] at hl;omega) (by simp only [] at hl;omega) rfl fun b1 cap1=>?_
    rw [Nat.zero_add,List.nil_append]
    repeat (first | refine JL.q (by (apply OQ.assign;rfl)) rfl ?_ | refine JL.nil ?_ | refine JE.next ?_)
    refine JC.ret (JE.aE rfl (RV.tmp rfl) fun w' hw=>⟨some (b1,cap1),rfl,(fun h=>by cases h),?_⟩)
    show aa w [] [⟨b1,Sl.aO 5 1 (l.map U8).length cap1 (l.map U8),true⟩] w'
    rw [List.length_map]
    exact hw
end
section
namespace bE
def bD (l : List By) (i : Nat) : Prop:=l[i]?=some 13∧l[i+1]?=some 10
def cG (l : List By) : Prop:=∀ i,¬ bD l i
theorem mZ (p : List (List By)) : ∀ (l : List By) (s : List (List By) × List By),l.foldl sp (p++s.1,s.2)=(p++(l.foldl sp s).1,(l.foldl sp s).2)
  | [],_=>rfl
  | c::l,s=>by
    rw [List.foldl_cons,List.foldl_cons]
    have e : sp (p++s.1,s.2) c=(p++(sp s c).1,(sp s c).2):=by
      unfold sp
      simp only
      split
      · rw [List.append_assoc]
      · rfl
    rw [e]
    exact mZ p l (sp s c)
theorem lA : ∀ (l : List By) (L : List (List By)) (x : List By),cG (x++l)→l.foldl sp (L,x)=(L,x++l)
  | [],L,x,_=>by rw [List.append_nil];rfl
  | c::l,L,x,h=>by
    rw [List.foldl_cons]
    have e : sp (L,x) c=(L,x++[c]):=by
      unfold sp
      simp only
      rw [if_neg]
      rintro ⟨rfl,h13⟩
      have hx : x≠[]:=by rintro rfl;cases h13
      have hp : 0<x.length:=List.length_pos_iff.2 hx
      refine h (x.length - 1) ⟨?_,?_⟩
      · rw [List.getElem?_append_left (by omega),← List.getLast?_eq_getElem?];exact h13
      · rw [show x.length - 1+1=x.length by omega,List.getElem?_append_right (Nat.le_refl _)];simp
    rw [e,lA l L (x++[c]) (by rw [List.append_assoc];exact h),List.append_assoc]
    rfl
theorem iK {l : List By} (h : cG l) : bK l=([],l):=by
  have:=lA l [] [] (by simpa using h)
  simpa [bK] using this
theorem eE {l : List By} {i : Nat} (h : bD l i) (hn : ∀ j,j<i→¬ bD l j) : bK l=(l.take i::(bK (l.drop (i+2))).1,(bK (l.drop (i+2))).2):=by
  have hl : i+1<l.length:=(List.getElem?_eq_some_iff.1 h.2).1
  have e : l=l.take i++([13,10]++l.drop (i+2)):=by
    have e1 : l.drop i=13::l.drop (i+1):=by
      rw [List.drop_eq_getElem_cons (by omega)]
      congr 1
      exact (List.getElem?_eq_some_iff.1 h.1).2
    have e2 : l.drop (i+1)=10::l.drop (i+2):=by
      rw [List.drop_eq_getElem_cons hl]
      congr 1
      exact (List.getElem?_eq_some_iff.1 h.2).2
    calc l=l.take i++l.drop i:=(List.take_append_drop i l).symm
      _=_:=by rw [e1,e2];rfl
  have hno : cG ([]++(l.take i++[13])):=by
    intro j hj
    rw [List.nil_append] at hj
    have h2 : j+1<(l.take i++[13]).length:=(List.getElem?_eq_some_iff.1 hj.2).1
    rw [List.length_append,List.length_take,List.length_singleton] at h2
    have hji : j<i:=by omega
    refine hn j hji ⟨?_,?_⟩
    · have:=hj.1
      rwa [List.getElem?_append_left (by rw [List.length_take];omega),List.getElem?_take,if_pos hji] at this
    · have h3:=hj.2
      by_cases e1 : j+1<i
      · rwa [List.getElem?_append_left (by rw [List.length_take];omega),List.getElem?_take,if_pos e1] at h3
      · rw [List.getElem?_append_right (by rw [List.length_take];omega),List.length_take] at h3
        rw [show j+1 - min i l.length=0 by omega] at h3
        cases h3
  have e13:=lA (l.take i++[13]) [] [] hno
  have e10 : sp ([],[]++(l.take i++[13])) 10=([l.take i],[]):=by
    unfold sp
    rw [if_pos ⟨rfl,by simp⟩]
    simp
  have hs:=mZ [l.take i] (l.drop (i+2)) ([],[])
  have e0 : bK l=bK (l.take i++[13]++([10]++l.drop (i+2))):=by
    congr 1
    rw [List.append_assoc]
    exact e
  rw [e0]
  show (l.take i++[13]++([10]++l.drop (i+2))).foldl sp ([],[])=_
  rw [List.foldl_append,e13,List.foldl_append]
  show (l.drop (i+2)).foldl sp (sp ([],[]++(l.take i++[13])) 10)=_
  rw [e10]
  exact hs
def pL (l : List By) : List UInt8:=l.map UInt8.ofBitVec
theorem td (l : List By) (i : Nat) : (pL l)[i]?=l[i]?.map UInt8.ofBitVec:=by unfold pL;rw [List.getElem?_map]
theorem iL (l : List By) (i : Nat) : Go.Lib.occAt (pL l) (pL [13,10]) i=true↔bD l i:=by
  unfold Go.Lib.occAt
  have h : ∀ r : List UInt8,(pL [13,10]).isPrefixOf r=true↔r[0]?=some 13∧r[1]?=some 10:=by
    intro r
    match r with
    | []=>simp [pL]
    | [a]=>simp [pL]
    | a::b::r=>
      show ((UInt8.ofBitVec 13 == a) && ((UInt8.ofBitVec 10 == b) && true))=true↔_
      rw [Bool.and_eq_true,Bool.and_true,beq_iff_eq,beq_iff_eq]
      simp only [List.getElem?_cons_zero,List.getElem?_cons_succ,Option.some.injEq]
      exact ⟨fun ⟨h1,h2⟩=>⟨h1.symm,h2.symm⟩,fun ⟨h1,h2⟩=>⟨h1.symm,h2.symm⟩⟩
  rw [h,List.getElem?_drop,List.getElem?_drop,td,td,Nat.add_zero]
  unfold bD
  have inj : ∀ (o : Option By) (c : By),o.map UInt8.ofBitVec=some (UInt8.ofBitVec c)↔o=some c:=by
    intro o c
    cases o with
    | none=>simp
    | some a=>simp
  exact and_congr (inj _ 13) (inj _ 10)
def tf (l : List By) : Int:=Go.Lib.index (pL l) (pL [13,10])
theorem hU (l : List By) : (tf l=-1∧cG l)∨∃ i : Nat,tf l=i∧i+2≤l.length∧bD l i∧∀ j,j<i→¬ bD l j:=by
  rcases Go.Lib.index_spec (pL l) (pL [13,10]) with ⟨h1,h2⟩ | ⟨i,h1,h2,h3,h4⟩
  · refine .inl ⟨h1,fun i hi=>?_⟩
    have hl : i+1<l.length:=(List.getElem?_eq_some_iff.1 hi.2).1
    have:=h2 i (by unfold pL;rw [List.length_map];omega)
    rw [(iL l i).2 hi] at this
    cases this
  · refine .inr ⟨i,h1,?_,(iL l i).1 h3,fun j hj hc=>?_⟩
    · have hl : i+1<l.length:=(List.getElem?_eq_some_iff.1 ((iL l i).1 h3).2).1
      omega
    · have:=h4 j hj
      rw [(iL l j).2 hc] at this
      cases this
end bE
end
section
set_option maxRecDepth 10000
open Sl bE Go.Shelf
def tg : Ren:=⟨fun | 4=>109 | 5=>148 | 6=>70 | 7=>103 | 8=>183 | 9=>184 | 10=>185 | 11=>102 | 12=>226 | n=>n,
  fun | 22=>22 | 4=>4 | 3=>3 | 0=>0 | 5=>5 | 29=>189 | 9=>9 | 31=>246 | 30=>176 | n=>n,
  fun | 0=>0 | n=>n⟩
theorem lB : SlLaysT.n4 Tryz.prog tg:={
  mixed:=by kernel_rfl
  f4:=Tryz.func109.trans (congrArg some (by kernel_rfl))
  f5:=Tryz.func148.trans (congrArg some (by kernel_rfl))
  f6:=Tryz.func70.trans (congrArg some (by kernel_rfl))
  f7:=Tryz.func103.trans (congrArg some (by kernel_rfl))
  f8:=Tryz.func183.trans (congrArg some (by kernel_rfl))
  f9:=Tryz.func184.trans (congrArg some (by kernel_rfl))
  f10:=Tryz.func185.trans (congrArg some (by kernel_rfl))
  f11:=Tryz.func102.trans (congrArg some (by kernel_rfl))
  f12:=Tryz.func226.trans (congrArg some (by kernel_rfl))
  t0:=Tryz.underlying0
  a0:=Tryz.isAgg0
  z0:=Tryz.sizeOf0
  v0:=Tryz.zeroValue0
  t3:=Tryz.underlying3
  a3:=Tryz.isAgg3
  z3:=Tryz.sizeOf3
  v3:=Tryz.zeroValue3
  t4:=Tryz.underlying4
  a4:=Tryz.isAgg4
  z4:=Tryz.sizeOf4
  v4:=Tryz.zeroValue4
  t5:=Tryz.underlying5
  a5:=Tryz.isAgg5
  z5:=Tryz.sizeOf5
  v5:=Tryz.zeroValue5
  t9:=Tryz.underlying9
  a9:=Tryz.isAgg9
  z9:=Tryz.sizeOf9
  v9:=Tryz.zeroValue9
  t22:=Tryz.underlying22
  a22:=Tryz.isAgg22
  z22:=Tryz.sizeOf22
  v22:=Tryz.zeroValue22
  t29:=Tryz.underlying189
  a29:=Tryz.isAgg189
  z29:=Tryz.sizeOf189
  v29:=Tryz.zeroValue189
  t30:=Tryz.underlying176
  a30:=Tryz.isAgg176
  z30:=Tryz.sizeOf176
  v30:=Tryz.zeroValue176
  t31:=Tryz.underlying246
  a31:=Tryz.isAgg246
  z31:=Tryz.sizeOf246
  v31:=Tryz.zeroValue246
  g0:=by kernel_rfl }
def fA (w : World) : Prop:=∃ m,w.cell? ⟨0,0,none⟩=some (.int .i64 m)
theorem fA.ext {w w' : World} (h : fA w) (hx : Ext w w') : fA w':=by
  obtain ⟨m,hm⟩:=h
  refine ⟨m,?_⟩
  have hlt:=block_lt_of_cell hm
  have:=hx.block _ hlt (by simp)
  rw [← hm]
  simp only [World.cell?,this]
theorem ng : aK Tryz.prog 109:=⟨_,Tryz.func109,rfl,by kernel_rfl⟩
def ve (l : List Bt) : List Int:=l.map fun c=>(c.toNat : Int)
theorem th {s : aC} {w : World} (h : s.ok w) : Go.Lib.BytesIn w s.ad s.l.length (ve s.l):=by
  intro h0
  obtain ⟨b,j,h1,h2⟩:=h.reads.at (by simpa using h0)
  refine ⟨b,j,h1,fun i hi=>?_⟩
  rw [h2 i _ (dU U8 0 hi)]
  unfold ve
  rw [List.getD_eq_getElem?_getD,List.getD_eq_getElem?_getD,List.getElem?_map,List.getElem?_eq_getElem hi]
  rfl
theorem tq (l : List Bt) : ∀ x ∈ ve l,0≤x∧x<256:=by
  intro x hx
  obtain ⟨c,_,rfl⟩:=List.mem_map.1 hx
  omega
theorem tu (l : List Bt) : Go.Lib.bytesOf (ve l)=pL l:=by
  unfold Go.Lib.bytesOf ve pL
  rw [List.map_map]
  refine List.map_congr_left fun c _=>?_
  show UInt8.ofNat ((c.toNat : Int)).toNat=_
  rw [Int.toNat_natCast]
  apply UInt8.toBitVec_inj.1
  exact BitVec.eq_of_toNat_eq (by simp)
def aC.cut (s : aC) (i : Nat) : aC:=⟨s.ad,s.cap,s.l.take i⟩
theorem aC.ok.cut {s : aC} {w : World} (h : s.ok w) (i : Nat) : (s.cut i).ok w:=by
  refine ⟨?_,?_⟩
  · show (s.l.take i).length≤s.cap
    have:=h.len
    rw [List.length_take]
    omega
  · show Reads w s.ad ((s.l.take i).map U8)
    rw [List.map_take]
    exact h.reads.take i
theorem tv (s : aC) {i : Nat} (hi : i+2≤s.l.length) : Go.Lib.cutV s.ad s.l.length s.cap 2 (i : Int)=.tuple #[(s.cut i).v,(s.snd (i+2)).v,.bool true]:=by
  unfold Go.Lib.cutV Go.Lib.fromV
  rw [if_pos (by omega)]
  simp [aC.v,aC.cut,aC.snd,List.length_take,Nat.min_eq_left (by omega : i≤s.l.length)]
theorem kz (w : World) (q : Nat) : Ext w (w.drewN q):=⟨rfl,rfl,rfl,Nat.le_refl _,fun _ _ _=>rfl⟩
theorem vg (s d : aC) (w : World) (hs : s.ok w) (hd : d.ok w) (hdl : d.l=[13,10]) (hl : s.l.length<4294967281) (hm : fA w) :
    Calls Tryz.prog 109 [s.v,d.v].toArray w fun e w'=>e=.returned (Go.Lib.cutV s.ad s.l.length s.cap 2 (tf s.l))∧Ext w w':=by
  obtain ⟨m,hm⟩:=hm
  have hd2 : d.l.length=2:=by rw [hdl];rfl
  by_cases h0 : s.l.length<2
  · have hidx : Calls Tryz.prog (tg.f 5) #[.slice s.ad s.l.length s.cap,.slice d.ad 2 d.cap] w fun e w'=>e=.returned (.int .i64 (-1))∧∃ q,w'=w.drewN q:=
      (Any.bytes_Index_longer lB.index s.ad d.ad s.l.length s.cap 2 d.cap w (Nat.le_refl _) h0 (by decide)).mono fun e w' ⟨h1,h2⟩=>⟨h1,0,h2⟩
    have e1 : tf s.l=-1:=by
      rcases hU s.l with h | ⟨i,_,h,_⟩
      · exact h.1
      · omega
    rw [e1]
    have h:=Any.bytes_Cut_of lB s.ad d.ad s.l.length s.cap 2 d.cap (-1) w hs.len (by omega) (fun h=>by omega) (by omega) hidx
    have e2 : d.v=.slice d.ad 2 d.cap:=by unfold aC.v;rw [hd2]
    rw [e2]
    exact h.mono fun e w' ⟨h1,q,h2⟩=>⟨h1,h2 ▸ kz w q⟩
  · have h1 : s.ad=none→s.cap=0:=fun h=>by
      obtain ⟨b,j,h1,_⟩:=hs.reads.at (by simp;omega)
      rw [h] at h1;cases h1
    have h:=Any.bytes_Cut_all lB s.ad d.ad s.l.length s.cap 2 d.cap (ve s.l) (ve d.l) m w (by unfold ve;rw [List.length_map]) (by unfold ve;rw [List.length_map,hd2]) (tq _) (tq _) (th hs) (hd2 ▸ th hd) h1 hs.len hl (by decide) hm
    rw [tu,tu,hdl] at h
    have e2 : d.v=.slice d.ad 2 d.cap:=by unfold aC.v;rw [hd2]
    rw [e2]
    exact h.mono fun e w' ⟨h1,q,h2⟩=>⟨h1,h2 ▸ kz w q⟩
theorem pM (s d : aC) (w : World) (hs : s.ok w) (hd : d.ok w) (hdl : d.l=[13,10]) (hl : s.l.length<4294967281) (hm : fA w) {i : Nat} (hi : tf s.l=i) (h2 : i+2≤s.l.length) :
    Calls Tryz.prog 109 [s.v,d.v].toArray w fun e w'=>e=.returned (.tuple #[(s.cut i).v,(s.snd (i+2)).v,.bool true])∧Ext w w':=by
  have:=vg s d w hs hd hdl hl hm
  rwa [hi,tv s h2] at this
end
section
set_option maxRecDepth 10000
open Sl bE
end
section
set_option maxRecDepth 10000
open Sl bE
end
section
set_option maxRecDepth 10000
open Sl bE
def w1 (l : List bE.By) (i : Nat) : List bE.By:=if ((l.getD i 0).toNat : Int)=10∧oz (l.take i) [13]=false then [13] else []
def w2 (l : List bE.By) (i : Nat) : List bE.By:=if ((l.getD i 0).toNat : Int)=13∧preB (l.drop (i+1)) [10]=false then [10] else []
theorem o6 (l : List bE.By) (i : Nat) (h : i<l.length) : preB (l.drop (i+1)) [10]=true↔¬ i+1=l.length∧l.getD (i+1) 0=10:=by
  unfold preB
  by_cases hi : i+1=l.length
  · rw [List.drop_eq_nil_of_le (by omega)]
    simp [hi]
  · have hl : i+1<l.length:=by omega
    rw [List.drop_eq_getElem_cons hl,List.getD_eq_getElem?_getD,List.getElem?_eq_getElem hl,Bool.and_eq_true,decide_eq_true_eq,decide_eq_true_eq]
    constructor
    · rintro ⟨_,h2⟩
      exact ⟨hi,List.head_eq_of_cons_eq h2⟩
    · rintro ⟨_,h2⟩
      have h2 : l[i+1]=10:=h2
      rw [h2]
      refine ⟨?_,rfl⟩
      simp only [List.length_cons,List.length_nil]
      omega
end
section
set_option maxRecDepth 10000
open Sl bE
end
section
namespace Sl
section
open Ieee
end
section
variable {P : Program} {n : Nat} {E : Env} {C : World→Prop} {dst : Option Tmp} {t t' ty : TypeId} {pos : String} {aft : Array Edge} {g : Option (Nat × Bool)} {x y : Operand}
end
end Sl
end
section
set_option maxRecDepth 10000
open Sl bE
end
section
set_option maxRecDepth 10000
open Sl bE
theorem jC {w0 w : World} {S : List Nat} {M : List aF} {b cap : Nat} {e : TypeId} {l : List Bt} {wr : Bool} (hw : aa w0 S M w) (hM : Has M b (lY e (l.map U8)) wr) (hc : l.length≤cap) : aC.ok w ⟨some ⟨b,0,none⟩,cap,l⟩:=by
  obtain ⟨o,ho,hA⟩:=hw.get hM
  exact ⟨hc,Reads.block ho (lY.all _ hA)⟩
end
section
set_option maxRecDepth 10000
open Sl bE
theorem iy : aK Tryz.prog 68:=⟨_,Tryz.func68,rfl,by kernel_rfl⟩
theorem sle : EI Tryz.prog 22 (.slice none 0 0) 1 24:=by unfold EI;kernel_rfl
def fK (l : List bE.By) (i : Nat) : List (List bE.By) × List bE.By:=(l.take i).foldl sp ([],[])
theorem xH (l : List bE.By) {i : Nat} (h : i<l.length) : l.take (i+1)=l.take i++[l.getD i 0]:=by
  rw [List.take_add_one,List.getD_eq_getElem?_getD,List.getElem?_eq_getElem h]
  rfl
theorem lC (l : List bE.By) {i : Nat} (h : i<l.length) : fK l (i+1)=sp (fK l i) (l.getD i 0):=by
  unfold fK
  rw [xH l h,List.foldl_append]
  rfl
theorem jD (l : List bE.By) {i : Nat} (h : i<l.length) (hn : (fK l i).2.getLast?=some 13→l.getD i 0≠10) : fK l (i+1)=((fK l i).1,(fK l i).2++[l.getD i 0]):=by
  rw [lC l h]
  unfold sp
  rw [if_neg (fun e=>hn e.2 e.1)]
theorem tw (l : List bE.By) {i : Nat} (h : i+1<l.length) (h1 : l.getD i 0=13) (h2 : l.getD (i+1) 0=10) : fK l (i+2)=((fK l i).1++[(fK l i).2],[]):=by
  rw [lC l h,lC l (by omega),h1,h2]
  have e : sp (fK l i) 13=((fK l i).1,(fK l i).2++[13]):=by
    unfold sp
    rw [if_neg (fun e=>absurd e.1 (by decide))]
  rw [e]
  unfold sp
  rw [if_pos ⟨rfl,by simp⟩]
  simp
theorem tC : ∀ (l : List bE.By) (s : List (List bE.By) × List bE.By),(l.foldl sp s).1.length+(l.foldl sp s).2.length≤s.1.length+s.2.length+l.length
  | [],_=>Nat.le_refl _
  | c::l,s=>by
    have:=tC l (sp s c)
    have h : (sp s c).1.length+(sp s c).2.length≤s.1.length+s.2.length+1:=by
      unfold sp
      split <;> simp <;> omega
    rw [List.foldl_cons,List.length_cons]
    omega
theorem wE (l : List bE.By) (i : Nat) : (fK l i).1.length+(fK l i).2.length≤i:=by
  have:=tC (l.take i) ([],[])
  rw [List.length_take] at this
  simp only [List.length_nil] at this
  unfold fK
  omega
set_option maxHeartbeats 32000000 in
theorem jE (s : aC) (w : World) (hs : s.ok w) (hl : s.l.length≤4000000) : Calls Tryz.prog 68 [s.v].toArray w
    fun e w'=>∃ q : oZ × aC,e=.returned (.tuple #[q.1.v,q.2.v])∧q.1.ls=(bK s.l).1∧q.2.l=(bK s.l).2∧Ext w w'∧q.1.ok w'∧q.2.ok w':=by
  refine enter (n:=51) Tryz.func68 rfl rfl rfl (aa.start w []) ?_
  repeat (first | refine JL.q (by (apply OQ.assign;rfl)) rfl ?_ | refine JC.seq ?_ | refine JC.region ?_ | refine JL.nil ?_ | refine JE.next ?_)
  refine JL.lX Tryz.underlying127 sle rfl fun b0 _=>?_
  repeat (first | refine JL.q (by (apply OQ.assign;rfl)) rfl ?_ | refine JC.seq ?_ | refine JC.region ?_ | refine JL.nil ?_ | refine JE.next ?_)
  refine JL.lX Tryz.underlying22 cc rfl fun b0' _=>?_
  repeat (first | refine JL.q (by (apply OQ.assign;rfl)) rfl ?_ | refine JC.seq ?_ | refine JC.region ?_ | refine JC.block ?_ | refine JL.nil ?_ | refine JE.next ?_)
  refine JC.loop (fun q : Nat × List aC × Nat × Nat × Nat × Nat=>[(0,s.v),(4,.slice (some ⟨q.2.2.1,0,none⟩) q.2.1.length q.2.2.2.1),(5,.slice (some ⟨q.2.2.2.2.1,0,none⟩) (fK s.l q.1).2.length q.2.2.2.2.2),(6,N q.1)])
    (fun q=>[⟨q.2.2.2.2.1,Sl.aO 5 1 (fK s.l q.1).2.length q.2.2.2.2.2 ((fK s.l q.1).2.map U8),true⟩,⟨q.2.2.1,Sl.aO 22 1 q.2.1.length q.2.2.2.1 (q.2.1.map aC.v),true⟩]++eg q.2.1)
    (fun q=>s.l.length - q.1) (fun q=>q.1≤s.l.length∧q.2.1.map aC.l=(fK s.l q.1).1∧(∀ y ∈ q.2.1,y.ad=none→y.l=[])∧((fK s.l q.1).2.getLast?=some 13→s.l.getD q.1 0≠10)) (0,[],b0,0,b0',0)
    ⟨Nat.zero_le _,rfl,by intro y hy;simp at hy,by intro e;simp [fK] at e⟩ (by repeat (first | exact af.nil | refine af.cons _ _ _ rfl ?_)) (.keep _ _ _ _ _ _ (c7 rfl) (.keep _ _ _ _ _ _ (c7 rfl) (.nil _))) ?_
  rintro ⟨i,rs,b1,cap1,b2,cap2⟩ ⟨hi,hrs,h0,hl13⟩
  simp only at hi hrs h0 hl13
  have hle:=wE s.l i
  have hrl : rs.length=(fK s.l i).1.length:=by rw [← hrs,List.length_map]
  repeat (first | refine JL.q (by first|(apply OQ.move;rfl)|(apply OQ.len;rfl;rfl)|(apply OQ.dV;rfl;rfl)) rfl ?_ | refine JC.seq ?_ | refine JC.region ?_ | refine JL.nil ?_ | refine JE.next ?_)
  refine JC.cond rfl (fun h=>?_) (fun h=>?_)
  · have hi' : i<s.l.length:=of_decide_eq_true h
    clear h hi
    obtain ⟨ba,ja,hae,hca⟩:=hs.reads.at (by simp;omega)
    have hc:=hca i _ (dU U8 0 hi')
    have hav : s.v=.slice (some ⟨ba,ja,none⟩) s.l.length s.cap:=by rw [← hae];rfl
    generalize eS : fK s.l i=T at hle hrl hrs hl13 ⊢
    obtain ⟨ls,cur⟩:=T
    simp only at hle hrl hrs hl13
    dsimp only
    rw [hav]
    by_cases c13 : s.l.getD i 0=13
    · by_cases hin : i+1<s.l.length
      · have hn:=hca (i+1) _ (dU U8 0 hin)
        by_cases n10 : s.l.getD (i+1) 0=10
        · have hc:=c13 ▸ hc
          have hn:=n10 ▸ hn
          have eT:=tw s.l hin c13 n10
          rw [eS] at eT
          repeat (first | refine JL.q (by first|(apply OQ.bf;exact Tryz.underlying22;exact bN;rfl;rfl;exact hi')|(apply OQ.aq;exact kO;rfl;exact (block_lt_of_cell hc);exact (by simp);exact hc)|(apply OQ.fc;rfl;rfl;rfl)|(apply OQ.nM;rfl;rfl;exact hin)|(apply OQ.bf;exact Tryz.underlying22;exact bN;rfl;rfl;exact hin)|(apply OQ.aq;exact kO;rfl;exact (block_lt_of_cell hn);exact (by simp);exact hn)|(apply OQ.az;rfl;rfl)|(apply OQ.move;rfl)|(apply OQ.len;rfl;rfl)|(apply OQ.bh;rfl;rfl;exact (by (try simp only []);omega))) rfl ?_ | refine JC.seq ?_ | refine JC.region ?_ | refine JC.block ?_ | refine JC.skip ?_ | refine JL.nil ?_ | refine JE.next ?_ | refine JL.aT rfl rfl ?_)
          refine JC.cond_true rfl rfl ?_
          repeat (first | refine JL.q (by (apply OQ.move;rfl)) rfl ?_ | refine JC.seq ?_ | refine JC.region ?_)
          refine JL.fj (v:=.slice (some ⟨b2,0,none⟩) cur.length cap2) (xs:=rs.map aC.v) (fun b' cap'=>[⟨b2,Sl.aO 5 1 cur.length cap2 (cur.map U8),true⟩,⟨b',Sl.aO 22 1 (rs.length+1) cap' (rs.map aC.v++[.slice (some ⟨b2,0,none⟩) cur.length cap2]),true⟩]++eg rs) Tryz.underlying127 sle rfl rfl rfl rfl (fun _=>rfl) (by intro _ _;repeat (first | exact aL.here | apply aL.there)) (by omega) (by omega) rfl rfl fun bl b' cap'=>?_
          repeat (first | refine JL.q (by (apply OQ.assign;rfl)) rfl ?_ | refine JC.seq ?_ | refine JC.region ?_ | refine JL.nil ?_ | refine JE.next ?_)
          refine JL.lX Tryz.underlying22 cc rfl fun b3 _=>?_
          rw [← hav]
          repeat (first | refine JL.q (by first|(apply OQ.move;rfl)|(apply OQ.assign;rfl)|(apply OQ.bh;rfl;rfl;exact (by (try simp only []);omega))) rfl ?_ | refine JC.region ?_ | refine JL.nil ?_ | refine JE.next ?_ | refine JE.ai ?_)
          refine JE.perm (M':=⟨b3,Row 5 [],true⟩::⟨b',Sl.aO 22 1 (rs.length+1) cap' (rs.map aC.v++[.slice (some ⟨b2,0,none⟩) cur.length cap2]),true⟩::(eg rs++[⟨b2,Sl.aO 5 1 cur.length cap2 (cur.map U8),true⟩])) (xh _ _ _ _) ?_
          refine JE.again (i:=(i,rs,b1,cap1,b2,cap2)) (i+2,rs++[⟨some ⟨b2,0,none⟩,cap2,cur⟩],b',cap',b3,0) ⟨by show i+2≤_;omega,?_,?_,?_⟩ (by show s.l.length - (i+2)<s.l.length - i;omega) ?_ ?_
          · show (rs++[_]).map aC.l=(fK s.l (i+2)).1
            rw [eT,List.map_append,hrs]
            rfl
          · intro y hy
            rcases List.mem_append.1 hy with hy | hy
            · exact h0 y hy
            · rw [List.mem_singleton.1 hy];exact fun e=>by cases e
          · show (fK s.l (i+2)).2.getLast?=some 13→_
            rw [eT]
            intro e;cases e
          · dsimp only
            rw [eT,List.length_append]
            exact (by repeat (first | exact af.nil | refine af.cons _ _ _ rfl ?_))
          · dsimp only
            rw [eT,List.length_append,List.map_append]
            refine .keep _ _ _ _ _ _ (c7 rfl) (.keep _ _ _ _ _ _ (fun o h=>h) ?_)
            exact qg rs
        · have hc:=c13 ▸ hc
          have eT:=jD s.l hi' (by rw [eS];exact hl13)
          rw [eS] at eT
          repeat (first | refine JL.q (by first|(apply OQ.bf;exact Tryz.underlying22;exact bN;rfl;rfl;exact hi')|(apply OQ.aq;exact kO;rfl;exact (block_lt_of_cell hc);exact (by simp);exact hc)|(apply OQ.fc;rfl;rfl;rfl)|(apply OQ.nM;rfl;rfl;exact hin)|(apply OQ.bf;exact Tryz.underlying22;exact bN;rfl;rfl;exact hin)|(apply OQ.aq;exact kO;rfl;exact (block_lt_of_cell hn);exact (by simp);exact hn)|(apply OQ.dL;rfl;rfl;exact (gr n10))|(apply OQ.az;rfl;rfl)|(apply OQ.move;rfl)|(apply OQ.len;rfl;rfl)|(apply OQ.bh;rfl;rfl;exact (by (try simp only []);omega))) rfl ?_ | refine JC.seq ?_ | refine JC.region ?_ | refine JC.block ?_ | refine JC.skip ?_ | refine JL.nil ?_ | refine JE.next ?_ | refine JL.aT rfl rfl ?_)
          refine JC.cond_false rfl rfl ?_
          repeat (first | refine JL.q (by first|(apply OQ.bf;exact Tryz.underlying22;exact bN;rfl;rfl;exact hi')|(apply OQ.aq;exact kO;rfl;exact (block_lt_of_cell hc);exact (by simp);exact hc)|(apply OQ.move;rfl)) rfl ?_ | refine JC.region ?_)
          rw [c13] at eT
          refine JL.fj (v:=U8 (13)) (xs:=cur.map U8) (fun b' cap'=>[⟨b',Sl.aO 5 1 (cur.length+1) cap' (cur.map U8++[U8 (13)]),true⟩,⟨b1,Sl.aO 22 1 rs.length cap1 (rs.map aC.v),true⟩]++eg rs) Tryz.underlying22 cc rfl rfl rfl rfl (fun _=>rfl) (by intro _ _;repeat (first | exact aL.here | apply aL.there)) (by omega) (by omega) rfl rfl fun bl b' cap'=>?_
          rw [← hav]
          repeat (first | refine JL.q (by first|(apply OQ.move;rfl)|(apply OQ.assign;rfl)|(apply OQ.bh;rfl;rfl;exact (by (try simp only []);omega))) rfl ?_ | refine JC.region ?_ | refine JL.nil ?_ | refine JE.next ?_ | refine JE.ai ?_)
          refine JE.again (i:=(i,rs,b1,cap1,b2,cap2)) (i+1,rs,b1,cap1,b',cap') ⟨by show i+1≤_;omega,?_,h0,?_⟩ (by show s.l.length - (i+1)<s.l.length - i;omega) ?_ (.keep _ _ _ _ _ _ (fun o h=>?_) (av.refl _))
          · show rs.map aC.l=(fK s.l (i+1)).1
            rw [eT];exact hrs
          · show (fK s.l (i+1)).2.getLast?=some 13→s.l.getD (i+1) 0≠10
            rw [eT]
            intro e13
            clear e13
            exact n10
          · dsimp only
            rw [eT,List.length_append]
            exact (by repeat (first | exact af.nil | refine af.cons _ _ _ rfl ?_))
          · dsimp only
            rw [eT,List.length_append,List.map_append]
            exact h
      · have hc:=c13 ▸ hc
        have eT:=jD s.l hi' (by rw [eS];exact hl13)
        rw [eS] at eT
        repeat (first | refine JL.q (by first|(apply OQ.bf;exact Tryz.underlying22;exact bN;rfl;rfl;exact hi')|(apply OQ.aq;exact kO;rfl;exact (block_lt_of_cell hc);exact (by simp);exact hc)|(apply OQ.fc;rfl;rfl;rfl)|(apply OQ.we;rfl;rfl;exact hin)|(apply OQ.az;rfl;rfl)|(apply OQ.aB;rfl;rfl)|(apply OQ.move;rfl)|(apply OQ.len;rfl;rfl)|(apply OQ.bh;rfl;rfl;exact (by (try simp only []);omega))) rfl ?_ | refine JC.seq ?_ | refine JC.region ?_ | refine JC.block ?_ | refine JC.skip ?_ | refine JL.nil ?_ | refine JE.next ?_ | refine JL.aT rfl rfl ?_ | refine JL.aU rfl rfl rfl rfl ?_)
        refine JC.cond_false rfl rfl ?_
        repeat (first | refine JL.q (by first|(apply OQ.bf;exact Tryz.underlying22;exact bN;rfl;rfl;exact hi')|(apply OQ.aq;exact kO;rfl;exact (block_lt_of_cell hc);exact (by simp);exact hc)|(apply OQ.move;rfl)) rfl ?_ | refine JC.region ?_)
        rw [c13] at eT
        refine JL.fj (v:=U8 (13)) (xs:=cur.map U8) (fun b' cap'=>[⟨b',Sl.aO 5 1 (cur.length+1) cap' (cur.map U8++[U8 (13)]),true⟩,⟨b1,Sl.aO 22 1 rs.length cap1 (rs.map aC.v),true⟩]++eg rs) Tryz.underlying22 cc rfl rfl rfl rfl (fun _=>rfl) (by intro _ _;repeat (first | exact aL.here | apply aL.there)) (by omega) (by omega) rfl rfl fun bl b' cap'=>?_
        rw [← hav]
        repeat (first | refine JL.q (by first|(apply OQ.move;rfl)|(apply OQ.assign;rfl)|(apply OQ.bh;rfl;rfl;exact (by (try simp only []);omega))) rfl ?_ | refine JC.region ?_ | refine JL.nil ?_ | refine JE.next ?_ | refine JE.ai ?_)
        refine JE.again (i:=(i,rs,b1,cap1,b2,cap2)) (i+1,rs,b1,cap1,b',cap') ⟨by show i+1≤_;omega,?_,h0,?_⟩ (by show s.l.length - (i+1)<s.l.length - i;omega) ?_ (.keep _ _ _ _ _ _ (fun o h=>?_) (av.refl _))
        · show rs.map aC.l=(fK s.l (i+1)).1
          rw [eT];exact hrs
        · show (fK s.l (i+1)).2.getLast?=some 13→s.l.getD (i+1) 0≠10
          rw [eT]
          intro e13
          clear e13
          rw [List.getD_eq_getElem?_getD,List.getElem?_eq_none (by omega)];decide
        · dsimp only
          rw [eT,List.length_append]
          exact (by repeat (first | exact af.nil | refine af.cons _ _ _ rfl ?_))
        · dsimp only
          rw [eT,List.length_append,List.map_append]
          exact h
    · have eT:=jD s.l hi' (by rw [eS];exact hl13)
      rw [eS] at eT
      generalize hcc : s.l.getD i 0=c at hc c13 eT
      repeat (first | refine JL.q (by first|(apply OQ.bf;exact Tryz.underlying22;exact bN;rfl;rfl;exact hi')|(apply OQ.aq;exact kO;rfl;exact (block_lt_of_cell hc);exact (by simp);exact hc)|(apply OQ.dL;rfl;rfl;exact (gr c13))|(apply OQ.aB;rfl;rfl)|(apply OQ.move;rfl)) rfl ?_ | refine JC.seq ?_ | refine JC.region ?_ | refine JC.block ?_ | refine JC.skip ?_ | refine JL.nil ?_ | refine JE.next ?_ | refine JL.aU rfl rfl rfl rfl ?_)
      refine JC.cond_false rfl rfl ?_
      repeat (first | refine JL.q (by first|(apply OQ.bf;exact Tryz.underlying22;exact bN;rfl;rfl;exact hi')|(apply OQ.aq;exact kO;rfl;exact (block_lt_of_cell hc);exact (by simp);exact hc)|(apply OQ.move;rfl)) rfl ?_ | refine JC.region ?_)
      refine JL.fj (v:=U8 (c)) (xs:=cur.map U8) (fun b' cap'=>[⟨b',Sl.aO 5 1 (cur.length+1) cap' (cur.map U8++[U8 (c)]),true⟩,⟨b1,Sl.aO 22 1 rs.length cap1 (rs.map aC.v),true⟩]++eg rs) Tryz.underlying22 cc rfl rfl rfl rfl (fun _=>rfl) (by intro _ _;repeat (first | exact aL.here | apply aL.there)) (by omega) (by omega) rfl rfl fun bl b' cap'=>?_
      rw [← hav]
      repeat (first | refine JL.q (by first|(apply OQ.move;rfl)|(apply OQ.assign;rfl)|(apply OQ.bh;rfl;rfl;exact (by (try simp only []);omega))) rfl ?_ | refine JC.region ?_ | refine JL.nil ?_ | refine JE.next ?_ | refine JE.ai ?_)
      refine JE.again (i:=(i,rs,b1,cap1,b2,cap2)) (i+1,rs,b1,cap1,b',cap') ⟨by show i+1≤_;omega,?_,h0,?_⟩ (by show s.l.length - (i+1)<s.l.length - i;omega) ?_ (.keep _ _ _ _ _ _ (fun o h=>?_) (av.refl _))
      · show rs.map aC.l=(fK s.l (i+1)).1
        rw [eT];exact hrs
      · show (fK s.l (i+1)).2.getLast?=some 13→s.l.getD (i+1) 0≠10
        rw [eT]
        intro e13
        have e13 : c=13:=by simpa using e13
        exact absurd e13 c13
      · dsimp only
        rw [eT,List.length_append]
        exact (by repeat (first | exact af.nil | refine af.cons _ _ _ rfl ?_))
      · dsimp only
        rw [eT,List.length_append,List.map_append]
        exact h
  · have hi' : ¬ i<s.l.length:=of_decide_eq_false h
    obtain rfl : i=s.l.length:=by omega
    clear h hi hi'
    have eS : fK s.l s.l.length=bK s.l:=by unfold fK bK;rw [List.take_length]
    rw [eS] at hrs ⊢
    repeat (first | refine JL.q (by first|(apply OQ.move;rfl)|(apply OQ.assign;rfl)) rfl ?_ | refine JC.seq ?_ | refine JC.region ?_ | refine JC.exit ?_ | refine JL.nil ?_ | refine JE.next ?_ | refine JE.ax ?_ | refine JE.aI ?_)
    refine JC.ret (JE.bI rfl (RV.tmp rfl) (RV.tmp rfl) ?_)
    exact fun w' hw=>⟨(⟨some ⟨b1,0,none⟩,cap1,rs⟩,⟨some ⟨b2,0,none⟩,cap2,(bK s.l).2⟩),rfl,hrs,rfl,hw.aS,uF hw (.there .here) h0,dM hw .here⟩
end
section
set_option maxRecDepth 10000
open Sl bE
theorem gJ : e6 Tryz.prog 22=some 1:=by kernel_rfl
theorem slc : eu Tryz.prog 22=true:=by kernel_rfl
theorem jF : ∀ ls : List (List bE.By),(aG (ls.map gQ)).length≤2 * (aG ls).length
  | []=>Nat.le_refl _
  | l::ls=>by
    have ih:=jF ls
    have h : (gQ l).length≤l.length+1:=by unfold gQ;split <;> simp
    have e1 : aG ((l::ls).map gQ)=(gQ l++[13,10])++aG (ls.map gQ):=rfl
    have e2 : aG (l::ls)=(l++[13,10])++aG ls:=rfl
    rw [e1,e2]
    simp only [List.length_append,List.length_cons,List.length_nil] at *
    omega
theorem fR (ls : List (List bE.By)) (i : Nat) : (aG (ls.take i)).length≤(aG ls).length:=by
  have e : aG ls=aG (ls.take i)++aG (ls.drop i):=by rw [← cN,List.take_append_drop]
  rw [e,List.length_append]
  omega
theorem dJ : ∀ ls : List (List bE.By),ls.length≤(aG ls).length
  | []=>Nat.le_refl _
  | l::ls=>by
    have ih:=dJ ls
    have e2 : aG (l::ls)=(l++[13,10])++aG ls:=rfl
    rw [e2]
    simp only [List.length_append,List.length_cons,List.length_nil]
    omega
end
section
set_option maxRecDepth 10000
open Sl bE
def fL (ls : List (List bE.By)) (i : Nat) : List bE.By:=aG ((ls.take i).map dm)
def tl (ls : List (List bE.By)) (i j : Nat) : List bE.By:=aG ((ls.take j).drop (i+1))
theorem nh {ls : List (List bE.By)} {i : Nat} (h : i<ls.length) : fL ls (i+1)=fL ls i++(dm ls[i]++[13,10]):=by
  unfold fL
  rw [List.take_succ_eq_append_getElem h,List.map_append,cN]
  simp [aG]
theorem pN {ls : List (List bE.By)} {i j : Nat} (h : j<ls.length) (hj : i+1≤j) : tl ls i (j+1)=tl ls i j++(ls[j]++[13,10]):=by
  unfold tl
  rw [List.take_succ_eq_append_getElem h,List.drop_append_of_le_length (by rw [List.length_take];omega),cN]
  simp [aG]
theorem tD (ls : List (List bE.By)) (i : Nat) : tl ls i ls.length=aG (ls.drop (i+1)):=by
  unfold tl
  rw [List.take_length]
theorem gD (ls : List (List bE.By)) (i : Nat) : tl ls i (i+1)=[]:=by
  unfold tl
  rw [List.drop_eq_nil_of_le (by rw [List.length_take];omega)]
  rfl
theorem iz : ∀ ls : List (List bE.By),(aG (ls.map dm)).length≤(aG ls).length
  | []=>Nat.le_refl _
  | l::ls=>by
    have ih:=iz ls
    have h : (dm l).length≤l.length:=by unfold dm;split <;> simp
    have e1 : aG ((l::ls).map dm)=(dm l++[13,10])++aG (ls.map dm):=rfl
    have e2 : aG (l::ls)=(l++[13,10])++aG ls:=rfl
    rw [e1,e2]
    simp only [List.length_append,List.length_cons,List.length_nil] at *
    omega
theorem pO (ls : List (List bE.By)) (i : Nat) : (fL ls i).length≤(aG ls).length:=Nat.le_trans (iz _) (fR ls i)
theorem tE (ls : List (List bE.By)) (i j : Nat) : (tl ls i j).length≤(aG ls).length:=by
  have e : aG (ls.take j)=aG ((ls.take j).take (i+1))++aG ((ls.take j).drop (i+1)):=by rw [← cN,List.take_append_drop]
  have h:=fR ls j
  rw [e,List.length_append] at h
  unfold tl
  omega
theorem oB : ∀ {ls : List (List bE.By)} {i : Nat} (h : i<ls.length),ls[i]=[46]→(∀ l ∈ ls.take i,l≠[46])→fY ls=some ((ls.take i).map dm,ls.drop (i+1))
  | l::ls,0,_,h1,_=>by
    show (if l=[46] then _ else _)=_
    rw [if_pos (show l=[46] from h1)];rfl
  | l::ls,i+1,h,h1,h2=>by
    show (if l=[46] then _ else (fY ls).map fun p=>(dm l::p.1,p.2))=_
    rw [if_neg (h2 l (by simp)),oB (ls:=ls) (i:=i) (by simpa using h) h1 fun x hx=>h2 x (by simp [hx])]
    rfl
def kC (b : List bE.By) : List bE.By × List bE.By × Nat:=match eY b with
  | some p=>(p.1,p.2,0)
  | none=>([],[],7)
set_option maxHeartbeats 64000000 in
theorem qW (s : aC) (w : World) (hs : s.ok w) (hl : s.l.length≤4000000) : Calls Tryz.prog 30 [s.v].toArray w
    fun e w'=>∃ q : aC × aC,e=.returned (.tuple #[q.1.v,q.2.v,N (kC s.l).2.2])∧q.1.l=(kC s.l).1∧q.2.l=(kC s.l).2.1∧Ext w w'∧q.1.ok w'∧q.2.ok w':=by
  have hJl:=congrArg List.length (dr s.l)
  rw [List.length_append] at hJl
  refine enter (n:=91) Tryz.func30 rfl rfl rfl (aa.start w []) ?_
  repeat (first | refine JL.q (by first|(apply OQ.move;rfl)|(apply OQ.assign;rfl)) rfl ?_ | refine JC.seq ?_ | refine JC.region ?_ | refine JL.nil ?_ | refine JE.next ?_)
  refine JL.vu (vs:=[s.v]) (S':=[]) (ι:={ q : oZ × aC // q.1.ls=(bK s.l).1∧q.2.l=(bK s.l).2 }) (fun q=>.tuple #[q.1.1.v,q.1.2.v]) (fun q w2=>q.1.1.ok w2∧q.1.2.ok w2) [] iy rfl rfl
    (fun w' hw'=>(jE s w' (hs.holds hw' rfl) hl).mono fun e w2 ⟨q,h1,h2,h3,h4,h5⟩=>⟨⟨q,h2,h3⟩,h1,h4,h5⟩) (.nil _) (by simp) ?_
  rintro ⟨⟨L,x⟩,hL,hx⟩ w1 hw1 ⟨okL,okx⟩
  have hE:=hw1.aS
  dsimp only at hL hx
  have eUB : eY s.l=(fY L.ls).map fun p=>(aG p.1,aG p.2++x.l):=by rw [hL,hx];rfl
  rw [← hL,← hx] at hJl
  unfold oZ.ls at hJl eUB
  have hBl:=pO (L.rs.map aC.l)
  have hTl:=tE (L.rs.map aC.l)
  have hLl:=dJ (L.rs.map aC.l)
  rw [List.length_map] at hLl
  dsimp only
  repeat (first | refine JL.q (by first|(apply OQ.extract;rfl;rfl)|(apply OQ.move;rfl)|(apply OQ.assign;rfl)) rfl ?_ | refine JC.seq ?_ | refine JC.region ?_ | refine JL.nil ?_ | refine JE.next ?_)
  refine JL.lX Tryz.underlying22 cc rfl fun b0 _=>?_
  repeat (first | refine JL.q (by (apply OQ.assign;rfl)) rfl ?_ | refine JC.seq ?_ | refine JC.region ?_ | refine JC.block ?_ | refine JL.nil ?_ | refine JE.next ?_)
  refine JC.loop (fun q : Nat × Nat × Nat=>[(5,L.v),(6,x.v),(7,.slice (some ⟨q.2.1,0,none⟩) (fL (L.rs.map aC.l) q.1).length q.2.2),(8,N q.1)])
    (fun q=>[⟨q.2.1,Sl.aO 5 1 (fL (L.rs.map aC.l) q.1).length q.2.2 ((fL (L.rs.map aC.l) q.1).map U8),true⟩])
    (fun q=>L.rs.length - q.1) (fun q=>q.1≤L.rs.length∧∀ l ∈ (L.rs.map aC.l).take q.1,l≠[46]) (0,b0,0) ⟨Nat.zero_le _,by intro l hl;simp at hl⟩ (by repeat (first | exact af.nil | refine af.cons _ _ _ rfl ?_)) (.keep _ _ _ _ _ _ (c7 rfl) (.nil _)) ?_
  rintro ⟨i,b,cap⟩ ⟨hi,hnone⟩
  simp only at hi hnone
  repeat (first | refine JL.q (by first|(apply OQ.move;rfl)|(apply OQ.len;rfl;rfl)|(apply OQ.dV;rfl;rfl)) rfl ?_ | refine JC.seq ?_ | refine JC.region ?_ | refine JL.nil ?_ | refine JE.next ?_)
  refine JC.cond rfl (fun h=>?_) (fun h=>?_)
  · have hi' : i<L.rs.length:=of_decide_eq_true h
    clear h hi
    have hi2 : i<(L.rs.map aC.l).length:=by rw [List.length_map];exact hi'
    have eT : fL (L.rs.map aC.l) (i+1)=fL (L.rs.map aC.l) i++(dm (L.rs[i]).l++[13,10]):=by
      rw [nh hi2,List.getElem_map]
    have hBl':=hBl (i+1)
    have hBi:=hBl i
    have hnone' : (L.rs[i]).l≠[46]→∀ l ∈ (L.rs.map aC.l).take (i+1),l≠[46]:=by
      intro hne l hl
      rw [List.take_succ_eq_append_getElem hi2,List.mem_append,List.getElem_map] at hl
      rcases hl with hl | hl
      · exact hnone l hl
      · rw [List.mem_singleton.1 hl];exact hne
    have eU : (L.rs[i]).l=[46]→kC s.l=(fL (L.rs.map aC.l) i,aG ((L.rs.map aC.l).drop (i+1))++x.l,0):=by
      intro e
      unfold kC
      rw [eUB,oB hi2 (by rw [List.getElem_map];exact e) hnone]
      rfl
    obtain ⟨ba,ja,hae,hca⟩:=okL.reads.at (by simp;omega)
    have hci : w1.cell? ⟨ba,ja+i,none⟩=some (L.rs[i]).v:=hca i _ (by simp [hi'])
    have hav : L.v=.slice (some ⟨ba,ja,none⟩) L.rs.length L.cap:=by rw [← hae];rfl
    have oky:=okL.all _ (List.getElem_mem hi')
    generalize L.rs[i]=y at eT hnone' eU hci oky
    obtain ⟨ad,yc,yl⟩:=y
    dsimp only at eT hnone' eU
    generalize fL (L.rs.map aC.l) i=A at eT eU hBi ⊢
    rw [hav]
    by_cases h0 : 0<yl.length
    · obtain ⟨by',jy,rfl,hcy⟩:=oky.reads.at (by simpa using h0)
      have hc0:=hcy 0 _ (dU U8 0 h0)
      have hd0 : yl.head?=some (yl.getD 0 0):=by
        rw [List.head?_eq_getElem?,List.getD_eq_getElem?_getD,List.getElem?_eq_getElem h0];rfl
      by_cases c46 : yl.getD 0 0=46
      · have hc0:=c46 ▸ hc0
        have hd : yl.head?=some 46:=by rw [hd0,c46]
        by_cases h1 : yl.length=1
        · have ey : yl=[46]:=by
            match yl,h1 with
            | [c],_=>exact congrArg (fun c=>[c]) c46
          have eU:=eU ey
          clear hnone' eT
          repeat (first | refine JL.q (by first|(apply OQ.bf;exact Tryz.underlying127;exact gJ;rfl;rfl;exact hi')|(apply OQ.aq;exact slc;rfl;exact (block_lt_of_cell hci);exact (by simp);exact hci)|(apply OQ.fc;rfl;rfl;exact (show ((yl.length : Nat) : Int)=1 by omega))|(apply OQ.bf (i:=0);exact Tryz.underlying22;exact bN;rfl;rfl;exact h0)|(apply OQ.aq;exact kO;rfl;exact (block_lt_of_cell hc0);exact (by simp);exact hc0)|(apply OQ.fc;rfl;rfl;rfl)|(apply OQ.az;rfl;rfl)|(apply OQ.move;rfl)|(apply OQ.len;rfl;rfl)) rfl ?_ | refine JC.seq ?_ | refine JC.region ?_ | refine JC.block ?_ | refine JC.skip ?_ | refine JL.nil ?_ | refine JE.next ?_ | refine JL.aT rfl rfl ?_)
          refine JC.cond_true rfl rfl ?_
          repeat (first | refine JC.seq ?_ | refine JC.region ?_)
          refine JL.lX Tryz.underlying22 cc rfl fun b9 _=>?_
          repeat (first | refine JL.q (by first|(apply OQ.move;rfl)|(apply OQ.assign;rfl)|(apply OQ.bh;rfl;rfl;exact (by (try simp only []);omega))) rfl ?_ | refine JC.seq ?_ | refine JC.region ?_ | refine JC.block ?_ | refine JL.nil ?_ | refine JE.next ?_)
          rw [← hav]
          refine JC.loop (fun q : Nat × Nat × Nat=>[(5,L.v),(6,x.v),(7,.slice (some ⟨b,0,none⟩) A.length cap),(9,.slice (some ⟨q.2.1,0,none⟩) (tl (L.rs.map aC.l) i q.1).length q.2.2),(10,N q.1)])
            (fun q=>[⟨q.2.1,Sl.aO 5 1 (tl (L.rs.map aC.l) i q.1).length q.2.2 ((tl (L.rs.map aC.l) i q.1).map U8),true⟩,⟨b,Sl.aO 5 1 A.length cap (A.map U8),true⟩])
            (fun q=>L.rs.length - q.1) (fun q=>i+1≤q.1∧q.1≤L.rs.length) (i+1,b9,0) ⟨Nat.le_refl _,hi'⟩ (by rw [gD];exact (by repeat (first | exact af.nil | refine af.cons _ _ _ rfl ?_))) (by rw [gD];exact .keep _ _ _ _ _ _ (c7 rfl) (.keep _ _ _ _ _ _ (fun _ h=>h) (.nil _))) ?_
          clear hci hc0 hcy oky
          rintro ⟨j,b9,cap9⟩ ⟨hij,hj⟩
          simp only at hij hj
          repeat (first | refine JL.q (by first|(apply OQ.move;rfl)|(apply OQ.len;rfl;rfl)|(apply OQ.dV;rfl;rfl)) rfl ?_ | refine JC.seq ?_ | refine JC.region ?_ | refine JL.nil ?_ | refine JE.next ?_)
          refine JC.cond rfl (fun h=>?_) (fun h=>?_)
          · have hj' : j<L.rs.length:=of_decide_eq_true h
            clear h hj
            have eT : tl (L.rs.map aC.l) i (j+1)=tl (L.rs.map aC.l) i j++((L.rs[j]).l++[13,10]):=by
              rw [pN (by rw [List.length_map];exact hj') hij,List.getElem_map]
            have hTl':=hTl i (j+1)
            have hci : w1.cell? ⟨ba,ja+j,none⟩=some (L.rs[j]).v:=hca j _ (by simp [hj'])
            have oky:=okL.all _ (List.getElem_mem hj')
            generalize L.rs[j]=y at eT hci oky
            generalize tl (L.rs.map aC.l) i j=R at eT ⊢
            rw [eT] at hTl'
            simp only [List.length_append,List.length_cons,List.length_nil] at hTl'
            have hi':=hj'
            rw [hav]
            repeat (first | refine JL.q (by first|(apply OQ.bf;exact Tryz.underlying127;exact gJ;rfl;rfl;exact hi')|(apply OQ.aq;exact slc;rfl;exact (block_lt_of_cell hci);exact (by simp);exact hci)|(apply OQ.move;rfl)) rfl ?_ | refine JC.seq ?_ | refine JC.region ?_ | refine JC.block ?_ | refine JC.skip ?_ | refine JE.next ?_)
            refine JL.append (cs:=(y.l).map U8) (m:=(y.l).length) (ad:=y.ad) (sc:=y.cap) (xs:=R.map U8) (fun b' cap'=>[⟨b',Sl.aO 5 1 (R.length+(y.l).length) cap' (R.map U8++(y.l).map U8),true⟩,⟨b,Sl.aO 5 1 A.length cap (A.map U8),true⟩]) Tryz.underlying22 cc rfl rfl (by intro _ _;repeat (first | exact aL.here | apply aL.there)) (by simp) (fun w' hw'=>(oky.holds hw' rfl).reads) (b5 _) rfl (by decide) (by omega) (by omega) rfl fun b3 cap3=>?_
            repeat (first | refine JL.q (by first|(apply OQ.move;rfl)|(apply OQ.assign;rfl)) rfl ?_ | refine JC.region ?_ | refine JL.nil ?_ | refine JE.next ?_)
            refine JL.fP (v1:=U8 13) (v2:=U8 10) (xs:=(R.map U8++(y.l).map U8)) (fun b' cap'=>[⟨b',Sl.aO 5 1 (R.length+(y.l).length+2) cap' ((R.map U8++(y.l).map U8)++[U8 13,U8 10]),true⟩,⟨b,Sl.aO 5 1 A.length cap (A.map U8),true⟩]) Tryz.underlying22 cc rfl rfl rfl rfl rfl rfl rfl (fun _=>rfl) (by intro _ _;repeat (first | exact aL.here | apply aL.there)) (by omega) (by omega) rfl rfl fun bl2 b4 cap4=>?_
            rw [← hav]
            repeat (first | refine JL.q (by first|(apply OQ.move;rfl)|(apply OQ.assign;rfl)|(apply OQ.bh;rfl;rfl;exact (by (try simp only []);omega))) rfl ?_ | refine JC.region ?_ | refine JL.nil ?_ | refine JE.next ?_ | refine JE.ai ?_)
            refine JE.again (i:=(j,b9,cap9)) (j+1,b4,cap4) ⟨by show i+1≤j+1;omega,by show j+1≤_;omega⟩ (by show L.rs.length - (j+1)<L.rs.length - j;omega) ?_ (.keep _ _ _ _ _ _ (fun o h=>?_) (.keep _ _ _ _ _ _ (fun _ h=>h) (.nil _)))
            · dsimp only
              rw [show (tl (L.rs.map aC.l) i (j+1)).length=R.length+y.l.length+2 by rw [eT];simp;omega]
              exact (by repeat (first | exact af.nil | refine af.cons _ _ _ rfl ?_))
            · dsimp only
              rw [show (tl (L.rs.map aC.l) i (j+1)).length=R.length+y.l.length+2 by rw [eT];simp;omega,show (tl (L.rs.map aC.l) i (j+1)).map U8=R.map U8++y.l.map U8++[U8 13,U8 10] by rw [eT];simp]
              exact h
          · have hj' : ¬ j<L.rs.length:=of_decide_eq_false h
            obtain rfl : j=L.rs.length:=by omega
            clear h hj hj'
            have hTl':=hTl i L.rs.length
            have eR : tl (L.rs.map aC.l) i L.rs.length=aG ((L.rs.map aC.l).drop (i+1)):=by
              rw [← tD,List.length_map]
            rw [← eR] at eU
            generalize tl (L.rs.map aC.l) i L.rs.length=R at hTl' eU ⊢
            repeat (first | refine JL.q (by (apply OQ.move;rfl)) rfl ?_ | refine JC.seq ?_ | refine JC.region ?_ | refine JC.exit ?_ | refine JE.next ?_ | refine JE.ax ?_ | refine JE.aI ?_)
            refine JL.append (cs:=(x.l).map U8) (m:=(x.l).length) (ad:=x.ad) (sc:=x.cap) (xs:=R.map U8) (fun b' cap'=>[⟨b',Sl.aO 5 1 (R.length+(x.l).length) cap' (R.map U8++(x.l).map U8),true⟩,⟨b,Sl.aO 5 1 A.length cap (A.map U8),true⟩]) Tryz.underlying22 cc rfl rfl (by intro _ _;repeat (first | exact aL.here | apply aL.there)) (by simp) (fun w' hw'=>(okx.holds hw' rfl).reads) (b5 _) rfl (by decide) (by omega) (by omega) rfl fun b3 cap3=>?_
            repeat (first | refine JL.q (by (apply OQ.assign;rfl)) rfl ?_ | refine JL.nil ?_ | refine JE.next ?_)
            refine JC.ret ?_
            repeat (first | refine JE.ah ?_ | refine JE.aZ ?_)
            rw [eU]
            refine JE.l8 rfl (RV.tmp rfl) (RV.tmp rfl) (RV.tmp rfl) ?_
            rw [← List.map_append]
            exact fun w' hw=>⟨(⟨some ⟨b,0,none⟩,cap,A⟩,⟨some ⟨b3,0,none⟩,cap3,R++x.l⟩),by rw [← List.length_append];rfl,rfl,rfl,hE.trans hw.aS,dM hw (.there .here),dM hw .here⟩
        · have hnone':=hnone' (fun e=>by rw [e] at h1;exact h1 rfl)
          repeat (first | refine JL.q (by first|(apply OQ.bf;exact Tryz.underlying127;exact gJ;rfl;rfl;exact hi')|(apply OQ.aq;exact slc;rfl;exact (block_lt_of_cell hci);exact (by simp);exact hci)|(apply OQ.dL;rfl;rfl;exact (show ¬ ((yl.length : Nat) : Int)=1 by omega))|(apply OQ.aB;rfl;rfl)|(apply OQ.move;rfl)|(apply OQ.len;rfl;rfl)) rfl ?_ | refine JC.seq ?_ | refine JC.region ?_ | refine JC.block ?_ | refine JC.skip ?_ | refine JL.nil ?_ | refine JE.next ?_ | refine JL.aU rfl rfl rfl rfl ?_)
          refine JC.cond_false rfl rfl ?_
          repeat (first | refine JL.q (by first|(apply OQ.bf;exact Tryz.underlying127;exact gJ;rfl;rfl;exact hi')|(apply OQ.aq;exact slc;rfl;exact (block_lt_of_cell hci);exact (by simp);exact hci)|(apply OQ.fh;rfl;rfl;exact h0)|(apply OQ.bf (i:=0);exact Tryz.underlying22;exact bN;rfl;rfl;exact h0)|(apply OQ.aq;exact kO;rfl;exact (block_lt_of_cell hc0);exact (by simp);exact hc0)|(apply OQ.fc;rfl;rfl;rfl)|(apply OQ.az;rfl;rfl)|(apply OQ.move;rfl)|(apply OQ.len;rfl;rfl)) rfl ?_ | refine JC.seq ?_ | refine JC.region ?_ | refine JC.skip ?_ | refine JL.nil ?_ | refine JE.next ?_ | refine JL.aT rfl rfl ?_)
          refine JC.cond_true rfl rfl ?_
          repeat (first | refine JL.q (by first|(apply OQ.bf;exact Tryz.underlying127;exact gJ;rfl;rfl;exact hi')|(apply OQ.aq;exact slc;rfl;exact (block_lt_of_cell hci);exact (by simp);exact hci)|(apply OQ.snd (s:=⟨some ⟨by',jy,none⟩,yc,yl⟩) (m:=1);exact Tryz.underlying22;exact bN;rfl;rfl;exact h0)|(apply OQ.move;rfl)) rfl ?_ | refine JC.region ?_)
          have eN : (fL (L.rs.map aC.l) (i+1)).length=A.length+(yl.drop 1).length+2:=by rw [eT,dm,if_pos hd,← List.drop_one];simp;omega
          have eV : (fL (L.rs.map aC.l) (i+1)).map U8=A.map U8++(yl.drop 1).map U8++[U8 13,U8 10]:=by rw [eT,dm,if_pos hd,← List.drop_one];simp
          rw [eN] at hBl'
          refine JL.append (cs:=(yl.drop 1).map U8) (m:=(yl.drop 1).length) (ad:=(aC.snd ⟨some ⟨by',jy,none⟩,yc,yl⟩ 1).ad) (sc:=yc - 1) (xs:=A.map U8) (fun b' cap'=>[⟨b',Sl.aO 5 1 (A.length+(yl.drop 1).length) cap' (A.map U8++(yl.drop 1).map U8),true⟩]) Tryz.underlying22 cc rfl rfl (by intro _ _;repeat (first | exact aL.here | apply aL.there)) (by simp) (fun w' hw'=>((oky.holds hw' rfl).snd 1 h0).reads) (b5 _) rfl (by decide) (by omega) (by omega) rfl fun b3 cap3=>?_
          repeat (first | refine JL.q (by first|(apply OQ.move;rfl)|(apply OQ.assign;rfl)) rfl ?_ | refine JC.region ?_ | refine JL.nil ?_ | refine JE.next ?_)
          refine JL.fP (v1:=U8 13) (v2:=U8 10) (xs:=(A.map U8++(yl.drop 1).map U8)) (fun b' cap'=>[⟨b',Sl.aO 5 1 (A.length+(yl.drop 1).length+2) cap' ((A.map U8++(yl.drop 1).map U8)++[U8 13,U8 10]),true⟩]) Tryz.underlying22 cc rfl rfl rfl rfl rfl rfl rfl (fun _=>rfl) (by intro _ _;repeat (first | exact aL.here | apply aL.there)) (by omega) (by omega) rfl rfl fun bl2 b4 cap4=>?_
          rw [← hav]
          repeat (first | refine JL.q (by first|(apply OQ.move;rfl)|(apply OQ.assign;rfl)|(apply OQ.bh;rfl;rfl;exact (by (try simp only []);omega))) rfl ?_ | refine JC.region ?_ | refine JL.nil ?_ | refine JE.next ?_ | refine JE.ai ?_)
          refine JE.again (i:=(i,b,cap)) (i+1,b4,cap4) ⟨by show i+1≤_;omega,hnone'⟩ (by show L.rs.length - (i+1)<L.rs.length - i;omega) ?_ (.keep _ _ _ _ _ _ (fun o h=>?_) (.nil _))
          · dsimp only
            rw [eN]
            exact (by repeat (first | exact af.nil | refine af.cons _ _ _ rfl ?_))
          · dsimp only
            rw [eN,eV]
            exact h
      · have hd : ¬ yl.head?=some 46:=by rw [hd0];exact fun e=>c46 (Option.some.inj e)
        have hnone':=hnone' (fun e=>by rw [e] at c46;exact c46 rfl)
        by_cases h1 : yl.length=1
        · repeat (first | refine JL.q (by first|(apply OQ.bf;exact Tryz.underlying127;exact gJ;rfl;rfl;exact hi')|(apply OQ.aq;exact slc;rfl;exact (block_lt_of_cell hci);exact (by simp);exact hci)|(apply OQ.fc;rfl;rfl;exact (show ((yl.length : Nat) : Int)=1 by omega))|(apply OQ.bf (i:=0);exact Tryz.underlying22;exact bN;rfl;rfl;exact h0)|(apply OQ.aq;exact kO;rfl;exact (block_lt_of_cell hc0);exact (by simp);exact hc0)|(apply OQ.dL;rfl;rfl;exact (gr c46))|(apply OQ.az;rfl;rfl)|(apply OQ.move;rfl)|(apply OQ.len;rfl;rfl)) rfl ?_ | refine JC.seq ?_ | refine JC.region ?_ | refine JC.block ?_ | refine JC.skip ?_ | refine JL.nil ?_ | refine JE.next ?_ | refine JL.aT rfl rfl ?_)
          refine JC.cond_false rfl rfl ?_
          repeat (first | refine JL.q (by first|(apply OQ.bf;exact Tryz.underlying127;exact gJ;rfl;rfl;exact hi')|(apply OQ.aq;exact slc;rfl;exact (block_lt_of_cell hci);exact (by simp);exact hci)|(apply OQ.fh;rfl;rfl;exact h0)|(apply OQ.bf (i:=0);exact Tryz.underlying22;exact bN;rfl;rfl;exact h0)|(apply OQ.aq;exact kO;rfl;exact (block_lt_of_cell hc0);exact (by simp);exact hc0)|(apply OQ.dL;rfl;rfl;exact (gr c46))|(apply OQ.az;rfl;rfl)|(apply OQ.move;rfl)|(apply OQ.len;rfl;rfl)) rfl ?_ | refine JC.seq ?_ | refine JC.region ?_ | refine JC.skip ?_ | refine JL.nil ?_ | refine JE.next ?_ | refine JL.aT rfl rfl ?_)
          refine JC.cond_false rfl rfl ?_
          repeat (first | refine JL.q (by first|(apply OQ.bf;exact Tryz.underlying127;exact gJ;rfl;rfl;exact hi')|(apply OQ.aq;exact slc;rfl;exact (block_lt_of_cell hci);exact (by simp);exact hci)|(apply OQ.move;rfl)) rfl ?_ | refine JC.region ?_)
          have eN : (fL (L.rs.map aC.l) (i+1)).length=A.length+(yl).length+2:=by rw [eT,dm,if_neg hd];simp;omega
          have eV : (fL (L.rs.map aC.l) (i+1)).map U8=A.map U8++(yl).map U8++[U8 13,U8 10]:=by rw [eT,dm,if_neg hd];simp
          rw [eN] at hBl'
          refine JL.append (cs:=(yl).map U8) (m:=(yl).length) (ad:=some ⟨by',jy,none⟩) (sc:=yc) (xs:=A.map U8) (fun b' cap'=>[⟨b',Sl.aO 5 1 (A.length+(yl).length) cap' (A.map U8++(yl).map U8),true⟩]) Tryz.underlying22 cc rfl rfl (by intro _ _;repeat (first | exact aL.here | apply aL.there)) (by simp) (fun w' hw'=>(oky.holds hw' rfl).reads) (b5 _) rfl (by decide) (by omega) (by omega) rfl fun b3 cap3=>?_
          repeat (first | refine JL.q (by first|(apply OQ.move;rfl)|(apply OQ.assign;rfl)) rfl ?_ | refine JC.region ?_ | refine JL.nil ?_ | refine JE.next ?_)
          refine JL.fP (v1:=U8 13) (v2:=U8 10) (xs:=(A.map U8++(yl).map U8)) (fun b' cap'=>[⟨b',Sl.aO 5 1 (A.length+(yl).length+2) cap' ((A.map U8++(yl).map U8)++[U8 13,U8 10]),true⟩]) Tryz.underlying22 cc rfl rfl rfl rfl rfl rfl rfl (fun _=>rfl) (by intro _ _;repeat (first | exact aL.here | apply aL.there)) (by omega) (by omega) rfl rfl fun bl2 b4 cap4=>?_
          rw [← hav]
          repeat (first | refine JL.q (by first|(apply OQ.move;rfl)|(apply OQ.assign;rfl)|(apply OQ.bh;rfl;rfl;exact (by (try simp only []);omega))) rfl ?_ | refine JC.region ?_ | refine JL.nil ?_ | refine JE.next ?_ | refine JE.ai ?_)
          refine JE.again (i:=(i,b,cap)) (i+1,b4,cap4) ⟨by show i+1≤_;omega,hnone'⟩ (by show L.rs.length - (i+1)<L.rs.length - i;omega) ?_ (.keep _ _ _ _ _ _ (fun o h=>?_) (.nil _))
          · dsimp only
            rw [eN]
            exact (by repeat (first | exact af.nil | refine af.cons _ _ _ rfl ?_))
          · dsimp only
            rw [eN,eV]
            exact h
        · repeat (first | refine JL.q (by first|(apply OQ.bf;exact Tryz.underlying127;exact gJ;rfl;rfl;exact hi')|(apply OQ.aq;exact slc;rfl;exact (block_lt_of_cell hci);exact (by simp);exact hci)|(apply OQ.dL;rfl;rfl;exact (show ¬ ((yl.length : Nat) : Int)=1 by omega))|(apply OQ.aB;rfl;rfl)|(apply OQ.move;rfl)|(apply OQ.len;rfl;rfl)) rfl ?_ | refine JC.seq ?_ | refine JC.region ?_ | refine JC.block ?_ | refine JC.skip ?_ | refine JL.nil ?_ | refine JE.next ?_ | refine JL.aU rfl rfl rfl rfl ?_)
          refine JC.cond_false rfl rfl ?_
          repeat (first | refine JL.q (by first|(apply OQ.bf;exact Tryz.underlying127;exact gJ;rfl;rfl;exact hi')|(apply OQ.aq;exact slc;rfl;exact (block_lt_of_cell hci);exact (by simp);exact hci)|(apply OQ.fh;rfl;rfl;exact h0)|(apply OQ.bf (i:=0);exact Tryz.underlying22;exact bN;rfl;rfl;exact h0)|(apply OQ.aq;exact kO;rfl;exact (block_lt_of_cell hc0);exact (by simp);exact hc0)|(apply OQ.dL;rfl;rfl;exact (gr c46))|(apply OQ.az;rfl;rfl)|(apply OQ.move;rfl)|(apply OQ.len;rfl;rfl)) rfl ?_ | refine JC.seq ?_ | refine JC.region ?_ | refine JC.skip ?_ | refine JL.nil ?_ | refine JE.next ?_ | refine JL.aT rfl rfl ?_)
          refine JC.cond_false rfl rfl ?_
          repeat (first | refine JL.q (by first|(apply OQ.bf;exact Tryz.underlying127;exact gJ;rfl;rfl;exact hi')|(apply OQ.aq;exact slc;rfl;exact (block_lt_of_cell hci);exact (by simp);exact hci)|(apply OQ.move;rfl)) rfl ?_ | refine JC.region ?_)
          have eN : (fL (L.rs.map aC.l) (i+1)).length=A.length+(yl).length+2:=by rw [eT,dm,if_neg hd];simp;omega
          have eV : (fL (L.rs.map aC.l) (i+1)).map U8=A.map U8++(yl).map U8++[U8 13,U8 10]:=by rw [eT,dm,if_neg hd];simp
          rw [eN] at hBl'
          refine JL.append (cs:=(yl).map U8) (m:=(yl).length) (ad:=some ⟨by',jy,none⟩) (sc:=yc) (xs:=A.map U8) (fun b' cap'=>[⟨b',Sl.aO 5 1 (A.length+(yl).length) cap' (A.map U8++(yl).map U8),true⟩]) Tryz.underlying22 cc rfl rfl (by intro _ _;repeat (first | exact aL.here | apply aL.there)) (by simp) (fun w' hw'=>(oky.holds hw' rfl).reads) (b5 _) rfl (by decide) (by omega) (by omega) rfl fun b3 cap3=>?_
          repeat (first | refine JL.q (by first|(apply OQ.move;rfl)|(apply OQ.assign;rfl)) rfl ?_ | refine JC.region ?_ | refine JL.nil ?_ | refine JE.next ?_)
          refine JL.fP (v1:=U8 13) (v2:=U8 10) (xs:=(A.map U8++(yl).map U8)) (fun b' cap'=>[⟨b',Sl.aO 5 1 (A.length+(yl).length+2) cap' ((A.map U8++(yl).map U8)++[U8 13,U8 10]),true⟩]) Tryz.underlying22 cc rfl rfl rfl rfl rfl rfl rfl (fun _=>rfl) (by intro _ _;repeat (first | exact aL.here | apply aL.there)) (by omega) (by omega) rfl rfl fun bl2 b4 cap4=>?_
          rw [← hav]
          repeat (first | refine JL.q (by first|(apply OQ.move;rfl)|(apply OQ.assign;rfl)|(apply OQ.bh;rfl;rfl;exact (by (try simp only []);omega))) rfl ?_ | refine JC.region ?_ | refine JL.nil ?_ | refine JE.next ?_ | refine JE.ai ?_)
          refine JE.again (i:=(i,b,cap)) (i+1,b4,cap4) ⟨by show i+1≤_;omega,hnone'⟩ (by show L.rs.length - (i+1)<L.rs.length - i;omega) ?_ (.keep _ _ _ _ _ _ (fun o h=>?_) (.nil _))
          · dsimp only
            rw [eN]
            exact (by repeat (first | exact af.nil | refine af.cons _ _ _ rfl ?_))
          · dsimp only
            rw [eN,eV]
            exact h
    · obtain rfl : yl=[]:=List.eq_nil_of_length_eq_zero (by omega)
      have hd : ¬ ([] : List bE.By).head?=some 46:=fun e=>by cases e
      have hnone':=hnone' (fun e=>by cases e)
      repeat (first | refine JL.q (by first|(apply OQ.bf;exact Tryz.underlying127;exact gJ;rfl;rfl;exact hi')|(apply OQ.aq;exact slc;rfl;exact (block_lt_of_cell hci);exact (by simp);exact hci)|(apply OQ.dL;rfl;rfl;exact (show ¬ ((0 : Nat) : Int)=1 by decide))|(apply OQ.aB;rfl;rfl)|(apply OQ.move;rfl)|(apply OQ.len;rfl;rfl)) rfl ?_ | refine JC.seq ?_ | refine JC.region ?_ | refine JC.block ?_ | refine JC.skip ?_ | refine JL.nil ?_ | refine JE.next ?_ | refine JL.aU rfl rfl rfl rfl ?_)
      refine JC.cond_false rfl rfl ?_
      repeat (first | refine JL.q (by first|(apply OQ.bf;exact Tryz.underlying127;exact gJ;rfl;rfl;exact hi')|(apply OQ.aq;exact slc;rfl;exact (block_lt_of_cell hci);exact (by simp);exact hci)|(apply OQ.kM;rfl;rfl;exact h0)|(apply OQ.aB;rfl;rfl)|(apply OQ.move;rfl)|(apply OQ.len;rfl;rfl)) rfl ?_ | refine JC.seq ?_ | refine JC.region ?_ | refine JC.skip ?_ | refine JL.nil ?_ | refine JE.next ?_ | refine JL.aU rfl rfl rfl rfl ?_)
      refine JC.cond_false rfl rfl ?_
      repeat (first | refine JL.q (by first|(apply OQ.bf;exact Tryz.underlying127;exact gJ;rfl;rfl;exact hi')|(apply OQ.aq;exact slc;rfl;exact (block_lt_of_cell hci);exact (by simp);exact hci)|(apply OQ.move;rfl)) rfl ?_ | refine JC.region ?_)
      have eN : (fL (L.rs.map aC.l) (i+1)).length=A.length+(([] : List bE.By)).length+2:=by rw [eT,dm,if_neg hd];simp
      have eV : (fL (L.rs.map aC.l) (i+1)).map U8=A.map U8++(([] : List bE.By)).map U8++[U8 13,U8 10]:=by rw [eT,dm,if_neg hd];simp
      rw [eN] at hBl'
      refine JL.append (cs:=(([] : List bE.By)).map U8) (m:=(([] : List bE.By)).length) (ad:=ad) (sc:=yc) (xs:=A.map U8) (fun b' cap'=>[⟨b',Sl.aO 5 1 (A.length+(([] : List bE.By)).length) cap' (A.map U8++(([] : List bE.By)).map U8),true⟩]) Tryz.underlying22 cc rfl rfl (by intro _ _;repeat (first | exact aL.here | apply aL.there)) (by simp) (fun w' hw'=>(oky.holds hw' rfl).reads) (b5 _) rfl (by decide) (by omega) (by omega) rfl fun b3 cap3=>?_
      repeat (first | refine JL.q (by first|(apply OQ.move;rfl)|(apply OQ.assign;rfl)) rfl ?_ | refine JC.region ?_ | refine JL.nil ?_ | refine JE.next ?_)
      refine JL.fP (v1:=U8 13) (v2:=U8 10) (xs:=(A.map U8++(([] : List bE.By)).map U8)) (fun b' cap'=>[⟨b',Sl.aO 5 1 (A.length+(([] : List bE.By)).length+2) cap' ((A.map U8++(([] : List bE.By)).map U8)++[U8 13,U8 10]),true⟩]) Tryz.underlying22 cc rfl rfl rfl rfl rfl rfl rfl (fun _=>rfl) (by intro _ _;repeat (first | exact aL.here | apply aL.there)) (by omega) (by omega) rfl rfl fun bl2 b4 cap4=>?_
      rw [← hav]
      repeat (first | refine JL.q (by first|(apply OQ.move;rfl)|(apply OQ.assign;rfl)|(apply OQ.bh;rfl;rfl;exact (by (try simp only []);omega))) rfl ?_ | refine JC.region ?_ | refine JL.nil ?_ | refine JE.next ?_ | refine JE.ai ?_)
      refine JE.again (i:=(i,b,cap)) (i+1,b4,cap4) ⟨by show i+1≤_;omega,hnone'⟩ (by show L.rs.length - (i+1)<L.rs.length - i;omega) ?_ (.keep _ _ _ _ _ _ (fun o h=>?_) (.nil _))
      · dsimp only
        rw [eN]
        exact (by repeat (first | exact af.nil | refine af.cons _ _ _ rfl ?_))
      · dsimp only
        rw [eN,eV]
        exact h
  · have hi' : ¬ i<L.rs.length:=of_decide_eq_false h
    obtain rfl : i=L.rs.length:=by omega
    clear h hi hi'
    rw [List.take_of_length_le (by rw [List.length_map];exact Nat.le_refl _)] at hnone
    have eU : kC s.l=([],[],7):=by
      unfold kC
      rw [eUB,iX _ hnone]
      rfl
    rw [eU]
    repeat (first | refine JL.q (by (apply OQ.assign;rfl)) rfl ?_ | refine JC.seq ?_ | refine JC.region ?_ | refine JC.exit ?_ | refine JL.nil ?_ | refine JE.next ?_ | refine JE.ax ?_ | refine JE.aI ?_)
    refine JC.ret (JE.l8 rfl (RV.tmp rfl) (RV.tmp rfl) (RV.tmp rfl) ?_)
    exact fun w' hw=>⟨(rW,rW),rfl,rfl,rfl,hE.trans hw.aS,iF _,iF _⟩
end
section
open Sl
theorem JL.upon {P : Program} {n : Nat} {w0 : World} {S : List Nat} {ops : Array Oper} {Q : Exit→Act→World→Prop} {l : List Oper} {E : Env} {M M' : List aF} (hp : M.Perm M') (h : JL P n w0 S ops Q l E M') : JL P n w0 S ops Q l E M:=
  ⟨fun a w ha hw=>h.go a w ha ⟨hw.aS,(hp.map aF.b).nodup_iff.1 hw.nodup,fun e he=>hw.all e (hp.mem_iff.2 he)⟩⟩
theorem JL.less {P : Program} {n : Nat} {w0 : World} {S : List Nat} {ops : Array Oper} {Q : Exit→Act→World→Prop} {l : List Oper} {E : Env} {M M' : List aF} (hM : av M' M) (h : JL P n w0 S ops Q l E M') : JL P n w0 S ops Q l E M:=
  ⟨fun a w ha hw=>h.go a w ha (hw.weak hM)⟩
end
section
set_option maxRecDepth 10000
open Sl bE
theorem vh : ∀ v ∈ ([U8 13,U8 10] : List Value),v.cells=#[v]:=by
  intro v hv
  simp only [List.mem_cons,List.not_mem_nil,or_false] at hv
  rcases hv with rfl | rfl <;> rfl
def uy (A r : List bE.By) : List bE.By × List bE.By × Nat:=match fY (bK r).1 with
  | some p=>(A++aG p.1,aG p.2++(bK r).2,0)
  | none=>([],[],7)
theorem qX (r : List bE.By) : kC r=uy [] r:=by
  unfold kC eY uy
  cases fY (bK r).1 <;> rfl
theorem wF {A r : List bE.By} (h : cG r) : uy A r=([],[],7):=by
  unfold uy
  rw [iK h]
  rfl
theorem qY {A r : List bE.By} {i : Nat} (h : bD r i) (hn : ∀ j,j<i→¬ bD r j) (hp : r.take i=[46]) : uy A r=(A,r.drop (i+2),0):=by
  unfold uy
  rw [eE h hn,hp]
  have e : fY ([46]::(bK (r.drop (i+2))).1)=some ([],(bK (r.drop (i+2))).1):=by
    show (if ([46] : List bE.By)=[46] then _ else _)=_
    rw [if_pos rfl]
  simp only [e]
  rw [dr]
  show (A++[],_,_)=_
  rw [List.append_nil]
theorem tF {A r : List bE.By} {i : Nat} (h : bD r i) (hn : ∀ j,j<i→¬ bD r j) (hp : ¬ r.take i=[46]) : uy A r=uy (A++dm (r.take i)++[13,10]) (r.drop (i+2)):=by
  unfold uy
  rw [eE h hn]
  have e : fY (r.take i::(bK (r.drop (i+2))).1)=(fY (bK (r.drop (i+2))).1).map fun p=>(dm (r.take i)::p.1,p.2):=by
    show (if r.take i=[46] then _ else _)=_
    rw [if_neg hp]
  simp only [e]
  cases fY (bK (r.drop (i+2))).1 with
  | none=>rfl
  | some p=>
    show (A++((dm (r.take i)++[13,10])++aG p.1),_,_)=_
    simp only [List.append_assoc]
theorem vM (l : List bE.By) : preB l [46]=true↔l.head?=some 46:=by
  unfold preB
  cases l with
  | nil=>simp
  | cons c l=>
    rw [Bool.and_eq_true,decide_eq_true_eq,decide_eq_true_eq]
    simp only [List.length_cons,List.length_nil,List.take_succ_cons,List.take_zero,List.head?_cons,Option.some.injEq,List.cons.injEq,and_true]
    exact ⟨fun h=>h.2,fun h=>⟨by omega,h⟩⟩
theorem wG (x d : aC) (hd : d.l=[46]) : (trimS x d).l=dm x.l:=by
  unfold trimS dm
  rw [hd]
  by_cases h : x.l.head?=some 46
  · rw [if_pos ((vM _).2 h),if_pos h]
    show x.l.drop 1=_
    rw [List.drop_one]
  · rw [if_neg (fun e=>h ((vM _).1 e)),if_neg h]
theorem wH (l : List bE.By) : (dm l).length≤l.length:=by unfold dm;split <;> simp
end
section
set_option maxRecDepth 10000
open Sl bE
set_option maxHeartbeats 16000000 in
theorem tG (s : aC) (w : World) (hs : s.ok w) (hl : s.l.length≤4000000) (hm : fA w) {mm rr : List Bt} (hu : eY s.l=some (mm,rr)) : Calls Tryz.prog 76 [s.v].toArray w
    fun e w'=>∃ q : {q : Acc × aC // q.1=none→mm=[]},e=.returned (.tuple #[ag q.1.1 mm.length,q.1.2.v,N 0])∧aa w [] (ay 5 q.1.1 (mm.map U8)) w':=by
  have hu' : kC s.l=(mm,rr,0):=by unfold kC;rw [hu]
  refine enter (n:=35) Tryz.func76 rfl rfl rfl (aa.start w []) ?_
  repeat (first | refine JL.q (by (apply OQ.assign;rfl)) rfl ?_ | refine JC.seq ?_ | refine JC.region ?_ | refine JC.block ?_ | refine JL.nil ?_ | refine JE.next ?_)
  refine JC.loop (fun z : aC × List bE.By × Acc=>[(0,z.1.v),(2,ag z.2.2 (z.2.1.map U8).length)]) (fun z=>ay 5 z.2.2 (z.2.1.map U8)) (fun z=>z.1.l.length)
    (fun z=>z.1.ok w∧(z.2.2=none→z.2.1=[])∧z.2.1.length+z.1.l.length≤s.l.length∧kC s.l=uy z.2.1 z.1.l) (s,[],none)
    ⟨hs,fun _=>rfl,by simp,qX _⟩ (by repeat (first | exact af.nil | refine af.cons _ _ _ rfl ?_)) (av.refl _) ?_
  rintro ⟨y,A,q⟩ ⟨hy,hq,hrl,hsp⟩
  dsimp only at hy hq hrl hsp ⊢
  have hyl : y.l.length≤4000000:=by omega
  repeat (first | refine JL.q (by (apply OQ.move;rfl)) rfl ?_ | refine JC.seq ?_ | refine JC.region ?_ | refine JC.block ?_)
  refine JL.uC (xs:=[.const (U8 13),.const (U8 10)]) (vs:=[U8 13,U8 10]) Tryz.underlying22 cc rfl rfl rfl rfl vh rfl (by decide) (by decide) rfl fun bl _=>?_
  refine JL.mark (r:=[U8 13,U8 10]) (te:=5) Tryz.underlying22 Tryz.underlying5 rfl .here rfl ?_
  rcases hU y.l with ⟨hc,hno⟩ | ⟨i,hc,hi2,hat,hnb⟩
  · rw [wF hno] at hsp
    rw [hu'] at hsp
    cases hsp
  · have hlc : (y.cut i).l.length=i:=by show (y.l.take i).length=i;rw [List.length_take];omega
    have hcl : (y.cut i).l=y.l.take i:=rfl
    by_cases h46 : y.l.take i=[46]
    · rw [qY hat hnb h46] at hsp
      repeat (first | refine JL.q (by first|(apply OQ.ak (vs:=[y.v,aC.v ⟨some ⟨bl,0,none⟩,2,[13,10]⟩]);exact ng;rfl;exact (fun w' hw'=>pM y ⟨some ⟨bl,0,none⟩,2,[13,10]⟩ w' (hy.holds hw' rfl) (jC (l:=[13,10]) hw' .here (Nat.le_refl _)) rfl (by omega) (hm.ext hw'.aS) hc hi2))|(apply OQ.extract;rfl;rfl)|(apply OQ.not;rfl)|(apply OQ.move;rfl)|(apply OQ.assign;rfl)) rfl ?_ | refine JC.seq ?_ | refine JC.region ?_ | refine JC.block ?_ | refine JL.nil ?_ | refine JE.next ?_)
      refine JC.cond_false rfl rfl ?_
      repeat (first | refine JL.q (by first|(apply OQ.nF (s:=y.cut i);exact Tryz.underlying22;exact Tryz.underlying5;exact Tryz.underlying9;rfl;exact (fun w' hw'=>(hy.holds hw' rfl).cut i))|(apply OQ.vt (r:=[46]);rfl;rfl;exact h46)|(apply OQ.move;rfl)|(apply OQ.assign;rfl)) rfl ?_ | refine JC.seq ?_ | refine JC.region ?_ | refine JL.nil ?_ | refine JE.next ?_)
      refine JC.cond_true rfl rfl ?_
      have hdl : (y.snd (i+2)).l=y.l.drop (i+2):=rfl
      have hdn : (y.snd (i+2)).l.length≤4000000:=by rw [hdl,List.length_drop];omega
      repeat (first | refine JL.q (by (apply OQ.move;rfl)) rfl ?_ | refine JC.seq ?_ | refine JC.region ?_)
      refine JL.dD (ι:={ q : Acc // q=none→(y.snd (i+2)).l=[] }) (fun q=>ag q.1 (y.snd (i+2)).l.length) (fun q=>ay 5 q.1 ((y.snd (i+2)).l.map U8)) oA rfl rfl (fun q=>b8 _ _ _) (fun w' hw'=>(ku (y.snd (i+2)) w' ((hy.holds hw' rfl).snd _ hi2) (by omega)).mono fun e w2 ⟨q,h1,h2,h3⟩=>⟨⟨q,h2⟩,h1,h3⟩) ?_
      rintro ⟨q2,hq2⟩
      dsimp only
      repeat (first | refine JL.q (by (apply OQ.assign;rfl)) rfl ?_ | refine JL.nil ?_ | refine JE.next ?_)
      refine JC.ret ?_
      repeat (first | refine JE.ah ?_ | refine JE.aZ ?_)
      refine JE.l8 rfl (RV.tmp rfl) (RV.tmp rfl) (RV.tmp rfl) ?_
      intro w' hw
      rw [hu'] at hsp
      obtain ⟨rfl,hr,-⟩ : mm=A∧rr=y.l.drop (i+2)∧True:=by
        have h1:=Prod.mk.inj hsp
        exact ⟨h1.1,(Prod.mk.inj h1.2).1,trivial⟩
      refine ⟨⟨(q,bR q2 (y.snd (i+2)).l),hq⟩,?_,hw.weak (bZ _ (.drop _ _ _ (av.refl _)))⟩
      show _=Ending.returned (.tuple #[ag q mm.length,(bR q2 _).v,_])
      rw [dW,List.length_map]
      rfl
    · rw [tF hat hnb h46] at hsp
      repeat (first | refine JL.q (by first|(apply OQ.ak (vs:=[y.v,aC.v ⟨some ⟨bl,0,none⟩,2,[13,10]⟩]);exact ng;rfl;exact (fun w' hw'=>pM y ⟨some ⟨bl,0,none⟩,2,[13,10]⟩ w' (hy.holds hw' rfl) (jC (l:=[13,10]) hw' .here (Nat.le_refl _)) rfl (by omega) (hm.ext hw'.aS) hc hi2))|(apply OQ.extract;rfl;rfl)|(apply OQ.not;rfl)|(apply OQ.move;rfl)|(apply OQ.assign;rfl)) rfl ?_ | refine JC.seq ?_ | refine JC.region ?_ | refine JC.block ?_ | refine JL.nil ?_ | refine JE.next ?_)
      refine JC.cond_false rfl rfl ?_
      repeat (first | refine JL.q (by first|(apply OQ.nF (s:=y.cut i);exact Tryz.underlying22;exact Tryz.underlying5;exact Tryz.underlying9;rfl;exact (fun w' hw'=>(hy.holds hw' rfl).cut i))|(apply OQ.xg (r:=[46]);rfl;rfl;exact h46)|(apply OQ.move;rfl)|(apply OQ.assign;rfl)) rfl ?_ | refine JC.seq ?_ | refine JC.region ?_ | refine JL.nil ?_ | refine JE.next ?_)
      refine JC.cond_false rfl rfl ?_
      repeat (first | refine JL.q (by (apply OQ.move;rfl)) rfl ?_ | refine JC.seq ?_ | refine JC.region ?_ | refine JC.skip ?_ | refine JE.next ?_ | refine JE.ai ?_)
      refine JL.p9 (v:=U8 46) Tryz.underlying22 cc rfl rfl rfl rfl fun bp _=>?_
      refine JL.mark (r:=[U8 46]) (te:=5) Tryz.underlying22 Tryz.underlying5 rfl .here rfl ?_
      have htl:=wG (y.cut i) ⟨some ⟨bp,0,none⟩,1,[46]⟩ rfl
      have htn:=wH (y.cut i).l
      rw [hlc] at htn
      refine JL.q (OQ.ak (vs:=[(y.cut i).v,aC.v ⟨some ⟨bp,0,none⟩,1,[46]⟩]) qV rfl (fun w' hw'=>tc (y.cut i) ⟨some ⟨bp,0,none⟩,1,[46]⟩ w' ((hy.holds hw' rfl).cut i) (jC (l:=[46]) hw' .here (Nat.le_refl _)))) rfl ?_
      have htok : ∀ w',w'.heap.size=w'.heap.size→(y.cut i).ok w'→(trimS (y.cut i) ⟨some ⟨bp,0,none⟩,1,[46]⟩).ok w':=fun w' _ h=>s9 h
      generalize trimS (y.cut i) ⟨some ⟨bp,0,none⟩,1,[46]⟩=x at htl htok ⊢
      rw [hcl] at htl htn
      rw [← htl] at htn hsp
      refine JL.upon (M':=ay 5 q (A.map U8)++[⟨bp,lY 5 [U8 46],true⟩,⟨bl,lY 5 [U8 13,U8 10],true⟩]) (List.perm_append_comm (l₁:=([⟨bp,lY 5 [U8 46],true⟩,⟨bl,lY 5 [U8 13,U8 10],true⟩] : List aF))) ?_
      refine JL.dj (cs:=x.l.map U8) (m:=x.l.length) (ad:=x.ad) (sc:=x.cap) q Tryz.underlying22 cc (fun h=>by rw [hq h];rfl) rfl rfl (by rw [List.length_map]) (fun w' hw'=>(htok w' rfl ((hy.holds hw' rfl).cut i)).reads) (b5 _) rfl (by rw [List.length_map];omega) (by rw [List.length_map];omega) rfl fun q3 hq3=>?_
      rw [← List.map_append]
      repeat (first | refine JL.q (by first|(apply OQ.move;rfl)|(apply OQ.assign;rfl)) rfl ?_ | refine JC.seq ?_ | refine JC.region ?_ | refine JL.nil ?_ | refine JE.next ?_)
      refine JL.fC (r:=[13,10]) q3 Tryz.underlying22 Tryz.underlying9 cc (fun h=>by rw [List.map_append];exact hq3 h) rfl rfl (by simp) (by rw [List.length_map,List.length_append];show _+2≤_;omega) rfl fun p4=>?_
      rw [← List.map_append]
      repeat (first | refine JL.q (by first|(apply OQ.move;rfl)|(apply OQ.assign;rfl)) rfl ?_ | refine JC.region ?_ | refine JL.nil ?_ | refine JE.next ?_ | refine JE.ai ?_)
      refine JE.again (i:=(y,A,q)) (y.snd (i+2),A++x.l++[13,10],some p4) ⟨hy.snd _ hi2,(fun h=>by cases h),?_,hsp⟩ ?_ (by repeat (first | exact af.nil | refine af.cons _ _ _ rfl ?_)) ?_
      · show (A++x.l++[13,10]).length+(y.l.drop (i+2)).length≤_
        rw [List.length_append,List.length_append,List.length_drop]
        show A.length+x.l.length+2+_≤_
        omega
      · show (y.l.drop (i+2)).length<y.l.length
        rw [List.length_drop]
        omega
      · exact c6 _ _
end
section
namespace dx
def qZ : Nat→List By
  | 0=>bT
  | 1=>bU
  | 2=>cm
  | _=>bP
theorem tH {k : Nat} (hk : k≤3) {S : Po} (hst : S.st≤k) {l : List By} (hno : au (qZ k) l=false) : ((aX S l).1.st=5∨(aX S l).1.st≤k)∧(aX S l).1.ms=S.ms∧3≤(aX S l).2.length:=by
  have h0 : ∀ y : List By,3≤y.length→((S,y).1.st=5∨(S,y).1.st≤k)∧(S,y).1.ms=S.ms∧3≤(S,y).2.length:=fun y hy=>⟨.inr hst,rfl,hy⟩
  have k4 : k=0∨k=1∨k=2∨k=3:=by omega
  unfold aX
  split
  · exact h0 _ (by decide)
  split
  · rename_i hs
    have hk1 : 1≤k:=by
      rcases Nat.eq_zero_or_pos k with rfl | h
      · rw [show qZ 0=bT from rfl,hs] at hno;cases hno
      · exact h
    unfold cZ
    split
    · exact ⟨.inr hk1,rfl,(by decide : 3≤er.length)⟩
    · exact h0 _ (by decide)
  split
  · rename_i hs
    unfold bM
    split
    · exact h0 _ (by decide)
    · split
      · rename_i h1
        refine ⟨.inr ?_,rfl,(by decide : 3≤er.length)⟩
        show 2≤k
        rcases k4 with rfl | rfl | rfl | rfl
        · omega
        · rw [show qZ 1=bU from rfl,hs] at hno;cases hno
        · omega
        · omega
      · exact h0 _ (by decide)
  split
  · rename_i hs
    unfold c9
    split
    · exact h0 _ (by decide)
    · split
      · rename_i h1
        split
        · exact h0 _ (by decide)
        · refine ⟨.inr ?_,rfl,(by decide : 3≤er.length)⟩
          show 3≤k
          rcases k4 with rfl | rfl | rfl | rfl
          · omega
          · omega
          · rw [show qZ 2=cm from rfl,hs] at hno;cases hno
          · omega
      · exact h0 _ (by decide)
  split
  · rename_i hs
    unfold cx
    split
    · split
      · rename_i h1
        exfalso
        rcases k4 with rfl | rfl | rfl | rfl
        · omega
        · omega
        · omega
        · rw [show qZ 3=bP from rfl,hs] at hno;cases hno
      · exact h0 _ (by decide)
    · exact h0 _ (by decide)
  split
  · unfold ct
    split
    · split
      · exact h0 _ (by decide)
      · exact ⟨.inr (by show 1≤k;omega),rfl,(by decide : 3≤er.length)⟩
    · exact h0 _ (by decide)
  split
  · unfold eK
    split
    · exact ⟨.inl rfl,rfl,(by decide : 3≤oc.length)⟩
    · exact h0 _ (by decide)
  · exact h0 _ (by decide)
structure Inv (k : Nat) (S : Po) : Prop where
  ms : S.ms=[]
  ln : S.ln=[]
  st : S.st=5∨S.st≤k
theorem kD {S : Po} (h5 : S.st≠5) (h4 : S.st≠4) (hn : S.ln=[]) (l : List By) (hl : ∀ c ∈ l,c≠10) : an S (l++[13,10])=((aX S l).1,(aX S l).2++[13,10]):=by
  rw [jf (l++[13,10]) S h5 (by simp) (by
    rw [show l++[(13 : By),10]=(l++[13])++[10] by simp,List.dropLast_concat]
    intro c hc
    rcases List.mem_append.1 hc with h | h
    · exact hl c h
    · rw [List.mem_singleton.1 h];decide)]
  unfold bg
  rw [hn,List.nil_append,fq,if_pos rfl,vC]
  have : (⟨S.st,S.fr,S.to,[],S.dt,S.ms⟩ : Po)=S:=by rw [← hn]
  rw [this]
  unfold aV
  rw [if_neg h4]
theorem Inv.line {k : Nat} (hk : k≤3) {S : Po} (h : Inv k S) (h5 : S.st≠5) (to : S.to.length≤10) (l : List By) (hl : ∀ c ∈ l,c≠10) (hno : au (qZ k) l=false) :
    Inv k (an S (l++[13,10])).1∧∃ o,(an S (l++[13,10])).2=o++[13,10]∧3≤o.length∧o=(aX S l).2:=by
  have hs : S.st≤k:=h.st.resolve_left h5
  have hf:=kD h5 (by omega) h.ln l hl
  obtain ⟨h1,h2,h3⟩:=tH hk hs hno
  rw [hf]
  exact ⟨⟨h2.trans h.ms,(jg S l to).2.2.trans h.ln,h1⟩,_,rfl,h3,rfl⟩
def dZ (c : By) : By:=if 97≤c.toNat∧c.toNat≤122 then c - 32 else c
theorem q4 : ∀ c : By,∀ d ∈ ([32,58,65,67,68,69,70,72,73,76,77,79,80,81,82,83,84,85] : List By),(aA.small c=aA.small d↔dZ c=d):=by
  have h : ∀ c : Fin 256,∀ d ∈ ([32,58,65,67,68,69,70,72,73,76,77,79,80,81,82,83,84,85] : List By),(aA.small (BitVec.ofNat 8 c.val)=aA.small d↔dZ (BitVec.ofNat 8 c.val)=d):=by decide +kernel
  intro c
  simpa using h ⟨c.toNat,c.isLt⟩
theorem tI : ∀ (x w : List By),(∀ d ∈ w,d ∈ ([32,58,65,67,68,69,70,72,73,76,77,79,80,81,82,83,84,85] : List By))→(aA.eo x w=decide (x.map dZ=w)):=by
  intro x w hw
  unfold aA.eo
  refine decide_eq_decide.2 ?_
  induction x generalizing w with
  | nil=>cases w <;> simp
  | cons c x ih=>
    cases w with
    | nil=>simp
    | cons d w=>
      rw [List.map_cons,List.map_cons,List.map_cons,List.cons.injEq,List.cons.injEq,ih w fun e he=>hw e (List.mem_cons_of_mem _ he),q4 c d (hw d List.mem_cons_self)]
end dx
end
section
namespace dx
open bE (bD cG bK aG fY eY dm eE iK)
theorem vi {l : List By} (h : ends l=true) : bD l (l.length - 2):=by
  have hl:=fu h
  have e:=iI h
  generalize l.dropLast.dropLast=y at hl e
  subst e
  rw [show (y++[(13 : By),10]).length - 2=y.length by simp]
  refine ⟨by simp,?_⟩
  rw [List.getElem?_append_right (by omega)]
  simp
theorem oC {a b : List By} (h : cG (a++b)) : cG a:=fun i ⟨h1,h2⟩=>by
  have l2:=(List.getElem?_eq_some_iff.1 h2).1
  exact h i ⟨by rw [List.getElem?_append_left (by omega)];exact h1,by rw [List.getElem?_append_left l2];exact h2⟩
theorem eG : ∀ (x : List By) (S : Po),S.st≠5→cG (S.ln++x)→an S x=(⟨S.st,S.fr,S.to,S.ln++x,S.dt,S.ms⟩,[])
  | [],S,_,_=>by simp [an]
  | c::x,S,h5,hx=>by
    have e : an S (c::x)=x.foldl aY (aY (S,[]) c):=rfl
    have hc : ends (S.ln++[c])=false:=by
      cases hc : ends (S.ln++[c]) with
      | false=>rfl
      | true=>
        have h2 : cG (S.ln++[c]):=oC (b:=x) (by simpa using hx)
        exact absurd (vi hc) (h2 _)
    have : aY (S,[]) c=(⟨S.st,S.fr,S.to,S.ln++[c],S.dt,S.ms⟩,[]):=by
      unfold aY bg
      rw [if_neg h5]
      dsimp only
      rw [hc]
      rfl
    rw [e,this]
    have:=eG x ⟨S.st,S.fr,S.to,S.ln++[c],S.dt,S.ms⟩ h5 (by simpa using hx)
    unfold an at this
    rw [this]
    simp
theorem tJ {b : List By} {i : Nat} (h : bD b i) : b=b.take i++([13,10]++b.drop (i+2)):=by
  have hl : i+1<b.length:=(List.getElem?_eq_some_iff.1 h.2).1
  have e1 : b.drop i=13::b.drop (i+1):=by
    rw [List.drop_eq_getElem_cons (by omega)]
    congr 1
    exact (List.getElem?_eq_some_iff.1 h.1).2
  have e2 : b.drop (i+1)=10::b.drop (i+2):=by
    rw [List.drop_eq_getElem_cons hl]
    congr 1
    exact (List.getElem?_eq_some_iff.1 h.2).2
  calc b=b.take i++b.drop i:=(List.take_append_drop i b).symm
    _=_:=by rw [e1,e2];rfl
theorem lD {S : Po} (h5 : S.st≠5) (hn : S.ln=[]) {b : List By} {i : Nat} (h : bD b i) (hno : ∀ j,j<i→¬ bD b j) :
    an S b=((an (aV S (b.take i)).1 (b.drop (i+2))).1,(aV S (b.take i)).2++(an (aV S (b.take i)).1 (b.drop (i+2))).2):=by
  have hl : i+1<b.length:=(List.getElem?_eq_some_iff.1 h.2).1
  have e : an S b=an S ((b.take i++[13])++([10]++b.drop (i+2))):=by
    rw [List.append_assoc]
    exact congrArg (an S) (tJ h)
  have hne : cG (S.ln++(b.take i++[13])):=by
    rw [hn,List.nil_append]
    rintro j ⟨j1,j2⟩
    have l2:=(List.getElem?_eq_some_iff.1 j2).1
    rw [List.length_append,List.length_take,List.length_singleton] at l2
    have hji : j<i:=by omega
    by_cases hj1 : j+1<i
    · refine hno j hji ⟨?_,?_⟩
      · rw [List.getElem?_append_left (by rw [List.length_take];omega),List.getElem?_take_of_lt (by omega)] at j1;exact j1
      · rw [List.getElem?_append_left (by rw [List.length_take];omega),List.getElem?_take_of_lt (by omega)] at j2;exact j2
    · have : j+1=(b.take i).length:=by rw [List.length_take];omega
      rw [this,List.getElem?_append_right (Nat.le_refl _),Nat.sub_self] at j2
      cases j2
  have e10 : ∀ T : Po,T.st≠5→an T ([10]++b.drop (i+2))=((an (bg T [10]).1 (b.drop (i+2))).1,(bg T [10]).2++(an (bg T [10]).1 (b.drop (i+2))).2):=by
    intro T hT
    have : an T [10]=bg T [10]:=by
      show aY (T,[]) 10=_
      unfold aY
      rw [if_neg hT]
      dsimp only
      rw [List.nil_append]
    rw [dc,this]
  rw [e,dc,eG _ S h5 hne]
  dsimp only
  rw [List.nil_append,e10 ⟨S.st,S.fr,S.to,S.ln++(b.take i++[13]),S.dt,S.ms⟩ h5]
  have hp : bg ⟨S.st,S.fr,S.to,S.ln++(b.take i++[13]),S.dt,S.ms⟩ [10]=aV S (b.take i):=by
    unfold bg
    dsimp only
    rw [hn,List.nil_append,List.append_assoc]
    show (if ends (b.take i++[13,10])=true then aV _ (b.take i++[13,10]).dropLast.dropLast else _)=_
    rw [fq,if_pos rfl,vC]
    congr 1
    rw [← hn]
  rw [hp]
theorem q6 {S : Po} (hn : S.ln=[]) (l : List By) (to : S.to.length≤10) : (aV S l).1.ln=[]:=(jh S l S.sz ⟨Nat.le_refl _,to⟩).2.trans hn
def kE (S : Po) (d : List By) : Po:=⟨4,S.fr,S.to,[],S.dt++d,S.ms⟩
theorem kF (b : List By) : cG b∨∃ i,i+2≤b.length∧bD b i∧∀ j,j<i→¬ bD b j:=by
  rcases bE.hU b with ⟨_,h⟩ | ⟨i,_,h1,h2,h3⟩
  · exact .inl h
  · exact .inr ⟨i,h1,h2,h3⟩
theorem kG {S : Po} (h4 : S.st=4) (hn : S.ln=[]) {b : List By} {i : Nat} (h : bD b i) (hno : ∀ j,j<i→¬ bD b j) (hp : ¬ b.take i=[46]) :
    an S b=an (kE S (b.take i++[13,10])) (b.drop (i+2)):=by
  rw [lD (by omega) hn h hno]
  have : aV S (b.take i)=(kE S (b.take i++[13,10]),[]):=by
    unfold aV kE
    rw [if_pos h4,if_neg hp,h4,hn]
  rw [this]
  rfl
theorem q8 : ∀ (k : Nat) (b : List By) (S : Po),b.length≤k→S.st=4→S.ln=[]→eY b=none→(an S b).1.st=4∧(an S b).1.ms=S.ms∧(an S b).2=[]:=by
  intro k
  induction k with
  | zero=>
    intro b S hb h4 hn _
    obtain rfl:=List.eq_nil_of_length_eq_zero (by omega : b.length=0)
    exact ⟨h4,rfl,rfl⟩
  | succ k ih=>
    intro b S hb h4 hn hu
    rcases kF b with h | ⟨i,hi,h,hno⟩
    · rw [eG b S (by omega) (by rw [hn];exact h)]
      exact ⟨h4,rfl,rfl⟩
    · have hs:=eE h hno
      unfold eY at hu
      rw [hs] at hu
      have hu' : fY (b.take i::(bK (b.drop (i+2))).1)=none:=by
        cases hq : fY (b.take i::(bK (b.drop (i+2))).1) with
        | none=>rfl
        | some p=>rw [hq] at hu;cases hu
      have hp : ¬ b.take i=[46]:=by
        intro e
        unfold fY at hu'
        rw [if_pos e] at hu'
        cases hu'
      unfold fY at hu'
      rw [if_neg hp] at hu'
      have hu2 : eY (b.drop (i+2))=none:=by
        unfold eY
        cases hq : fY (bK (b.drop (i+2))).1 with
        | none=>rfl
        | some p=>rw [hq] at hu';cases hu'
      rw [kG h4 hn h hno hp]
      exact ih (b.drop (i+2)) (kE S _) (by rw [List.length_drop];omega) rfl rfl hu2
theorem ni {b : List By} {i : Nat} (h : bD b i) (hno : ∀ j,j<i→¬ bD b j) (hp : ¬ b.take i=[46]) : eY b=(eY (b.drop (i+2))).map fun p=>(dm (b.take i)++[13,10]++p.1,p.2):=by
  unfold eY
  rw [eE h hno]
  show (fY (b.take i::(bK (b.drop (i+2))).1)).map _=_
  rw [show fY (b.take i::(bK (b.drop (i+2))).1)=(fY (bK (b.drop (i+2))).1).map fun p=>(dm (b.take i)::p.1,p.2) from if_neg hp]
  rw [Option.map_map,Option.map_map]
  congr 1
theorem fM {b : List By} {i : Nat} (h : bD b i) (hno : ∀ j,j<i→¬ bD b j) (hp : b.take i=[46]) : eY b=some ([],b.drop (i+2)):=by
  unfold eY
  rw [eE h hno]
  show (fY (b.take i::(bK (b.drop (i+2))).1)).map _=_
  rw [show fY (b.take i::(bK (b.drop (i+2))).1)=some ([],(bK (b.drop (i+2))).1) from if_pos hp]
  show some (([] : List By),aG (bK (b.drop (i+2))).1++(bK (b.drop (i+2))).2)=_
  rw [bE.dr]
def Dl (d : List By) : Prop:=∀ x : List By,eY (d++x)=(eY x).map fun p=>((bG d)++p.1,p.2)
theorem nj : bG []=[]:=by
  have : bD ([46,13,10] : List By) 1:=⟨rfl,rfl⟩
  have:=fM this (fun j hj hh=>by
    obtain rfl : j=0:=by omega
    exact absurd hh.1 (by decide)) (rfl : ([46,13,10] : List By).take 1=[46])
  unfold bG
  rw [List.nil_append,this]
  rfl
theorem Dl.nil : Dl []:=fun x=>by
  rw [nj,List.nil_append]
  cases eY x <;> rfl
theorem Dl.xI {d : List By} (h : Dl d) (l : List By) (i : Nat) (hl : l.length=i) (hno : ∀ x : List By,∀ j,j<i→¬ bD (l++[13,10]++x) j) (hp : ¬ l=[46]) : bG (d++(l++[13,10]))=bG d++(dm l++[13,10])∧Dl (d++(l++[13,10])):=by
  have step : ∀ x : List By,eY (d++(l++[13,10])++x)=(eY x).map fun p=>(bG d++(dm l++[13,10])++p.1,p.2):=fun x=>by
    have ha : bD (l++[13,10]++x) i:=by
      refine ⟨?_,?_⟩
      · rw [List.append_assoc,List.getElem?_append_right (by omega),hl,Nat.sub_self];rfl
      · rw [List.append_assoc,List.getElem?_append_right (by omega),hl,show i+1 - i=1 by omega];rfl
    have ht : (l++[13,10]++x).take i=l:=by rw [List.append_assoc,List.take_append_of_le_length (by omega),List.take_of_length_le (by omega)]
    have hd : (l++[13,10]++x).drop (i+2)=x:=by
      rw [show i+2=(l++[13,10]).length by simp [hl],List.drop_left]
    rw [List.append_assoc,h (l++[13,10]++x),ni ha (hno x) (by rw [ht];exact hp),ht,hd,Option.map_map]
    congr 1
    funext p
    simp
  have hm : bG (d++(l++[13,10]))=bG d++(dm l++[13,10]):=by
    have h0 : eY ([46,13,10] : List By)=some ([],[]):=fM (i:=1) ⟨rfl,rfl⟩ (fun j hj hh=>by
      obtain rfl : j=0:=by omega
      exact absurd hh.1 (by decide)) rfl
    have:=step [46,13,10]
    rw [h0] at this
    show ((eY (d++(l++[13,10])++[46,13,10])).map Prod.fst).getD []=_
    rw [this]
    show bG d++(dm l++[13,10])++[]=_
    rw [List.append_nil]
  exact ⟨hm,fun x=>by rw [step x,hm]⟩
theorem q9 : ∀ (k : Nat) (b : List By) (S : Po),b.length≤k→S.st=4→S.ln=[]→Dl S.dt→∀ m r,eY b=some (m,r)→
    an S b=((an ⟨1,[],[],[],[],S.ms++[⟨S.fr,S.to,bG S.dt++m⟩]⟩ r).1,er++[13,10]++(an ⟨1,[],[],[],[],S.ms++[⟨S.fr,S.to,bG S.dt++m⟩]⟩ r).2):=by
  intro k
  induction k with
  | zero=>
    intro b S hb h4 hn _ m r hu
    obtain rfl:=List.eq_nil_of_length_eq_zero (by omega : b.length=0)
    cases hu
  | succ k ih=>
    intro b S hb h4 hn hd m r hu
    rcases kF b with h | ⟨i,hi,h,hno⟩
    · unfold eY at hu
      rw [iK h] at hu
      cases hu
    · by_cases hp : b.take i=[46]
      · rw [fM h hno hp] at hu
        obtain ⟨rfl,rfl⟩:=Prod.mk.inj (Option.some.inj hu)
        rw [lD (by omega) hn h hno]
        have : aV S (b.take i)=(⟨1,[],[],[],[],S.ms++[⟨S.fr,S.to,bG S.dt++[]⟩]⟩,er++[13,10]):=by
          unfold aV fo
          rw [if_pos h4,if_pos hp,hn,List.append_nil]
        rw [this]
      · rw [ni h hno hp] at hu
        cases hq : eY (b.drop (i+2)) with
        | none=>rw [hq] at hu;cases hu
        | some p=>
          rw [hq] at hu
          obtain ⟨rfl,rfl⟩:=Prod.mk.inj (Option.some.inj hu)
          have hil : (b.take i).length=i:=by rw [List.length_take];omega
          have hno2 : ∀ x : List By,∀ j,j<i→¬ bD (b.take i++[13,10]++x) j:=by
            rintro x j hj ⟨j1,j2⟩
            refine hno j hj ⟨?_,?_⟩
            · rw [List.append_assoc,List.getElem?_append_left (by omega),List.getElem?_take_of_lt hj] at j1;exact j1
            · by_cases hj1 : j+1<i
              · rw [List.append_assoc,List.getElem?_append_left (by omega),List.getElem?_take_of_lt hj1] at j2;exact j2
              · rw [List.append_assoc,List.getElem?_append_right (by omega),hil,show j+1 - i=0 by omega] at j2
                cases j2
          obtain ⟨hm,hd2⟩:=hd.xI (b.take i) i hil hno2 hp
          rw [kG h4 hn h hno hp]
          have:=ih (b.drop (i+2)) (kE S (b.take i++[13,10])) (by rw [List.length_drop];omega) rfl rfl hd2 p.1 p.2 hq
          rw [this]
          show ((an ⟨1,[],[],[],[],S.ms++[⟨S.fr,S.to,bG (S.dt++(b.take i++[13,10]))++p.1⟩]⟩ p.2).1,_)=_
          rw [show bG ((kE S (b.take i++[13,10])).dt)=bG (S.dt++(b.take i++[13,10])) from rfl,hm,List.append_assoc]
          rfl
end dx
end
section
namespace dx
open bE (bD cG bK aG fY eY dm eE iK)
theorem jG : ∀ (ls : List (List By)) (p : List (List By) × List (List By)),fY ls=some p→(aG p.1).length+(aG p.2).length≤(aG ls).length
  | [],_,h=>by cases h
  | l::ls,p,h=>by
    have e2 : aG (l::ls)=(l++[13,10])++aG ls:=rfl
    have hu : (dm l).length≤l.length:=by unfold dm;split <;> simp
    rw [fY] at h
    rw [e2]
    split at h
    · obtain rfl:=(Option.some.inj h).symm
      simp [aG]
      omega
    · cases h1 : fY ls with
      | none=>rw [h1] at h;cases h
      | some q=>
        rw [h1] at h
        obtain rfl:=(Option.some.inj h).symm
        have ih:=jG ls q h1
        have e1 : aG (dm l::q.1)=(dm l++[13,10])++aG q.1:=rfl
        simp only [e1,List.length_append,List.length_cons,List.length_nil] at *
        omega
theorem jH (d m r : List By) (hb : eY d=some (m,r)) : m.length≤d.length:=by
  have h2:=congrArg List.length (bE.dr d)
  rw [List.length_append] at h2
  unfold eY at hb
  cases h : fY (bK d).1 with
  | none=>rw [h] at hb;cases hb
  | some p=>
    rw [h] at hb
    have:=jG _ _ h
    obtain ⟨rfl,rfl⟩:=Prod.mk.inj (Option.some.inj hb)
    omega
theorem tK (d m r : List By) (hb : eY d=some (m,r)) : r.length≤d.length:=by
  have h2:=congrArg List.length (bE.dr d)
  rw [List.length_append] at h2
  unfold eY at hb
  cases h : fY (bK d).1 with
  | none=>rw [h] at hb;cases hb
  | some p=>
    rw [h] at hb
    have:=jG _ _ h
    obtain ⟨rfl,rfl⟩:=Prod.mk.inj (Option.some.inj hb)
    rw [List.length_append]
    omega
structure Po.wf (S : Po) : Prop where
  dl : Dl S.dt
  ne : cG S.ln
theorem kH : cG []:=fun i h=>by cases h.1
theorem tL : new.wf:=⟨Dl.nil,kH⟩
theorem oD {a y : List By} (h : cG a) (hy : ∀ c ∈ y,c≠10) : cG (a++y):=by
  rintro i ⟨h1,h2⟩
  by_cases hi : i+1<a.length
  · rw [List.getElem?_append_left (by omega)] at h1
    rw [List.getElem?_append_left hi] at h2
    exact h i ⟨h1,h2⟩
  · rw [List.getElem?_append_right (by omega)] at h2
    exact hy 10 (List.mem_of_getElem? h2) rfl
theorem pP (S : Po) (l : List By) : (aX S l).1.dt=S.dt∨(aX S l).1.dt=[]:=by
  unfold aX
  split
  · exact .inl rfl
  split
  · unfold cZ
    split
    · exact .inr rfl
    · exact .inl rfl
  split
  · unfold bM
    repeat' split
    all_goals exact .inl rfl
  split
  · unfold c9
    repeat' split
    all_goals exact .inl rfl
  split
  · unfold cx
    repeat' split
    all_goals exact .inl rfl
  split
  · unfold ct
    repeat' split
    all_goals first | exact .inl rfl | exact .inr rfl
  split
  · unfold eK
    split
    · exact .inr rfl
    · exact .inl rfl
  · exact .inl rfl
theorem pQ {d : List By} (h : Dl d) : eY (d++[46,13,10])=some (bG d,[]):=by
  have h0 : eY ([46,13,10] : List By)=some ([],[]):=fM (i:=1) ⟨rfl,rfl⟩ (fun j hj hh=>by
    obtain rfl : j=0:=by omega
    exact absurd hh.1 (by decide)) rfl
  rw [h [46,13,10],h0]
  show some (bG d++[],[])=_
  rw [List.append_nil]
theorem nk {S : Po} (h : S.wf) (to : S.to.length≤10) {x : List By} (h0 : x≠[]) (hx : ∀ c ∈ x.dropLast,c≠10) : (bg S x).1.wf:=by
  obtain ⟨y,c,rfl⟩:=(List.eq_nil_or_concat x).resolve_left h0
  rw [List.concat_eq_append] at *
  rw [List.dropLast_concat] at hx
  have hne : cG (S.ln++y):=oD h.ne hx
  unfold bg
  cases he : ends (S.ln++(y++[c])) with
  | false=>
    refine ⟨h.dl,?_⟩
    show cG (S.ln++(y++[c]))
    rintro i ⟨h1,h2⟩
    have hl2:=(List.getElem?_eq_some_iff.1 h2).1
    rw [← List.append_assoc] at h1 h2 hl2
    rw [List.length_append,List.length_singleton] at hl2
    by_cases hi : i+1<(S.ln++y).length
    · rw [List.getElem?_append_left (by omega)] at h1
      rw [List.getElem?_append_left hi] at h2
      exact hne i ⟨h1,h2⟩
    · have hi1 : i+1=(S.ln++y).length:=by omega
      rw [List.getElem?_append_right (by omega),hi1,Nat.sub_self] at h2
      obtain rfl : c=10:=by simpa using h2
      have h13 : (S.ln++y).getLast?=some 13:=by
        rw [List.getElem?_append_left (by omega)] at h1
        rw [List.getLast?_eq_getElem?,← hi1,Nat.add_sub_cancel]
        exact h1
      have : ends (S.ln++(y++[10]))=true:=by
        unfold ends
        rw [← List.append_assoc,List.dropLast_concat,h13,List.getLast?_concat]
        rfl
      rw [this] at he
      cases he
  | true=>
    rw [if_pos rfl]
    have hi:=iI he
    have hln:=q6 (S:=⟨S.st,S.fr,S.to,[],S.dt,S.ms⟩) rfl (S.ln++(y++[c])).dropLast.dropLast to
    generalize (S.ln++(y++[c])).dropLast.dropLast=l at hi hln ⊢
    have e13 : S.ln++y=l++[13]:=by
      have h1 : (S.ln++y)++[c]=(l++[13])++[10]:=by simpa using hi
      exact (List.append_inj' h1 rfl).1
    rw [e13] at hne
    refine ⟨?_,by rw [hln];exact kH⟩
    unfold aV
    split
    · split
      · exact Dl.nil
      · rename_i h46
        refine (h.dl.xI l l.length rfl (fun x j hj hh=>?_) h46).2
        refine hne j ⟨?_,?_⟩
        · have:=hh.1
          rw [List.append_assoc,List.getElem?_append_left hj] at this
          rw [List.getElem?_append_left hj]
          exact this
        · have h2:=hh.2
          by_cases hj1 : j+1<l.length
          · rw [List.append_assoc,List.getElem?_append_left hj1] at h2
            rw [List.getElem?_append_left hj1]
            exact h2
          · rw [List.append_assoc,List.getElem?_append_right (by omega),show j+1 - l.length=0 by omega] at h2
            cases h2
    · rcases pP ⟨S.st,S.fr,S.to,[],S.dt,S.ms⟩ l with e | e
      · show Dl (aX _ l).1.dt
        rw [e]
        exact h.dl
      · show Dl (aX _ l).1.dt
        rw [e]
        exact Dl.nil
end dx
end
section
set_option maxRecDepth 10000
open Sl
namespace dx
theorem aM {α : Type} {a b : List α} (h : ∀ (_ : BEq α) (_ : LawfulBEq α) (x : α),a.count x=b.count x) : a.Perm b:=by
  classical
  exact List.perm_iff_count.2 fun x=>h inferInstance inferInstance x
structure gE (w : World) (S : List Nat) : Prop where
  m : fA w
  no : 0 ∉ S
theorem gE.lt {w : World} {S : List Nat} (h : gE w S) : 0<w.heap.size:=by
  obtain ⟨m,hm⟩:=h.m
  exact block_lt_of_cell hm
theorem gE.at {w w' : World} {S : List Nat} {M : List aF} (h : gE w S) (hw : aa w S M w') : fA w':=by
  have hlt:=h.lt
  obtain ⟨m,hm⟩:=h.m
  refine ⟨m,?_⟩
  have:=hw.aS.block _ hlt h.no
  rw [← hm]
  simp only [World.cell?,this]
theorem gE.sub {w w' : World} {S : List Nat} {X M : List aF} (h : gE w S) (hw : aa w S (X++M) w') (hX : ∀ e ∈ X,e.wr=true) : gE w' (keys X):=by
  refine ⟨h.at hw,fun hm=>?_⟩
  have hlt:=h.lt
  obtain ⟨e,he,hb⟩:=List.mem_map.1 hm
  rcases (hw.all e (List.mem_append_left _ he)).2 (hX e he) with k | k
  · exact h.no (hb ▸ k)
  · omega
theorem ri : aK Tryz.prog 73:=⟨_,Tryz.func73,rfl,by kernel_rfl⟩
theorem rm : aK Tryz.prog 76:=⟨_,Tryz.func76,rfl,by kernel_rfl⟩
theorem JC.pR {P : Program} {n : Nat} {w0 : World} {S : List Nat} {Q : Exit→Act→World→Prop} {c : Code} {E : Env} {M M' : List aF} (h : JC P n w0 S Q c E M') (hp : M.Perm M') : JC P n w0 S Q c E M:=⟨fun a w ha hw=>h.go a w ha (hw.perm' hp)⟩
theorem nq (b : Nat) (z : Pw) (w : World) (h0 : aa w [b] [⟨b,Row 75 z.cs,true⟩] w) : Calls Tryz.prog 105 [Pt b 0].toArray w fun e w'=>e=.returned (.tuple #[])∧aa w [b] [⟨b,Row 75 (z.bL 1).cs,true⟩] w':=by
  refine enter (n:=14) Tryz.func105 rfl rfl rfl h0 ?_
  repeat (first | refine JL.q (by first|(apply OQ.move;rfl)|(apply OQ.aJ;rfl)|(apply OQ.bA;rfl;rfl;rfl;exact (by decide);rfl)) rfl ?_ | refine JC.seq ?_ | refine JC.region ?_)
  refine JL.jj 1 rfl rfl ?_
  repeat (first | refine JL.q (by first|(apply OQ.move;rfl)|(apply OQ.aJ;rfl)|(apply OQ.bA;rfl;rfl;rfl;exact (by decide);rfl)) rfl ?_ | refine JC.region ?_ | refine JL.nil ?_ | refine JE.next ?_)
  refine JL.sw [] rfl rfl ?_
  repeat (refine JL.q (by first|(apply OQ.aJ;rfl)|(apply OQ.bA;rfl;rfl;rfl;exact (by decide);rfl)) rfl ?_)
  refine JL.o9 none [] rfl rfl ?_
  repeat (refine JL.q (by first|(apply OQ.aJ;rfl)|(apply OQ.bA;rfl;rfl;rfl;exact (by decide);rfl)) rfl ?_)
  refine JL.pe none [] rfl rfl ?_
  repeat (refine JL.nil ?_)
  exact JE.uA rfl fun w' hw=>⟨rfl,hw⟩
theorem JL.tM {n : Nat} {w0 : World} {S : List Nat} {ops : Array Oper} {Q : Exit→Act→World→Prop} {l : List Oper} {E : Env} {d : Nat} {ty : TypeId} {pos : String} {aft : Array Edge} {x : Operand} {ats : Array TypeId} {b : Nat} {z : Pw} {M0 : List aF}
    (hx : ev E x=some (Pt b 0)) (hd : Nat.blt d n=true) (kk : JL Tryz.prog n w0 S ops Q l ((d,.tuple #[])::E) (⟨b,Row 75 (z.bL 1).cs,true⟩::M0)) : JL Tryz.prog n w0 S ops Q (⟨some d,.call ⟨.value (.func 105),#[x],ats⟩,ty,pos,aft,none⟩::l) E (⟨b,Row 75 z.cs,true⟩::M0):=
  JL.fQ (X:=[⟨b,Row 75 z.cs,true⟩]) (M0:=M0) (xs:=[x]) (ι:=Unit) (vs:=[Pt b 0]) (fun _=>.tuple #[]) (fun _=>[⟨b,Row 75 (z.bL 1).cs,true⟩]) gC (by simp [eO,hx]) hd (fun e he=>by rw [List.mem_singleton.1 he]) (fun _ e he=>by rw [List.mem_singleton.1 he]) (fun w' _ hx=>(nq b z w' hx).mono fun e w2 ⟨h1,h2⟩=>⟨(),h1,h2⟩) fun _=>kk
theorem nr (f : List Bt) (q q2 : Acc) (k k2 : Nat) : Program.built Tryz.prog 38 [(0,Z f),(1,ag q k),(2,ag q2 k2)]=some [Z f,ag q k,ag q2 k2].toArray:=by
  cases q <;> cases q2 <;> rfl
theorem lE (z : Mz) : ∀ v ∈ z.cs,v.oneCell'=true:=by
  intro v hv
  unfold Mz.cs at hv
  simp only [List.mem_cons,List.not_mem_nil,or_false] at hv
  rcases hv with rfl | rfl | rfl
  · rfl
  · exact dN _ _
  · exact dN _ _
theorem tN (z : Mz) : z.cs.all (fun v=>v.oneCell')=true:=List.all_eq_true.2 (lE z)
theorem yx : zc Tryz.prog 38=some [Z [],.slice none 0 0,.slice none 0 0]:=by kernel_rfl
theorem rL : e6 Tryz.prog 38=some 3:=by kernel_rfl
set_option maxHeartbeats 16000000 in
theorem tO (b : Nat) (z : Pw) (S : Po) (ok : z.ok) (hs : z.is S) (hn : S.ln=[]) (hsz : S.dt.length+S.ms.length≤1000000) {mm rr : List Bt} (hu : bE.eY (S.dt++[46,13,10])=some (mm,rr)) (w : World) (hm : gE w (keys (z.E b))) (h0 : aa w (keys (z.E b)) (z.E b) w) : Calls Tryz.prog 73 [Pt b 0].toArray w (dP (keys (z.E b)) b (fo S) w):=by
  have hmo : bG S.dt=mm:=by unfold bG;rw [hu];rfl
  have hml : mm.length≤S.dt.length+3:=by simpa using jH _ _ _ hu
  have hdl : z.dt.length=S.dt.length:=by rw [hs.dt]
  have hzl : z.zs.length=S.ms.length:=by rw [← hs.ms,List.length_map]
  rw [show S.dt=z.dt from hs.dt.symm] at hu
  generalize hS : keys (z.E b)=S0 at h0 hm ⊢
  refine enter (n:=42) Tryz.func73 rfl rfl rfl h0 ?_
  repeat (first | refine JL.q (by first|(apply OQ.load;exact cW;rfl;exact .here;exact (Row.cell (v:=ag z.qd z.dt.length) rfl))|(apply OQ.move;rfl)|(apply OQ.assign;rfl)|(apply OQ.aJ;rfl)|(apply OQ.bA;rfl;rfl;rfl;exact (by decide);rfl)) rfl ?_ | refine JC.seq ?_ | refine JC.region ?_ | refine JL.nil ?_ | refine JE.next ?_)
  refine JL.perm (M':=ay 5 z.qd (z.dt.map U8)++(⟨b,Row 75 z.cs,true⟩::(z.T++(z.L++z.M)))) ?_ (aM fun _ _ y=>by simp only [Pw.E,Pw.R,Pw.M,Pw.D,List.count_append,List.count_cons,List.count_nil];omega)
  refine JL.fC (r:=[46,13,10]) z.qd Tryz.underlying22 Tryz.underlying9 cc (fun h=>by rw [ok.d h];rfl) (by rw [List.length_map];rfl) rfl (by simp) (by rw [List.length_map];show _+3≤_;omega) rfl fun p4=>?_
  rw [← List.map_append]
  have hv : aC.v ⟨some ⟨p4.1,0,none⟩,p4.2,z.dt++[46,13,10]⟩=ag (some p4) ((z.dt++[46,13,10]).map U8).length:=by rw [List.length_map];rfl
  have hcu : ∀ w',aa w S0 (ay 5 (some p4) ((z.dt++[46,13,10]).map U8)++(⟨b,Row 75 z.cs,true⟩::(z.T++(z.L++z.M)))) w'→Calls Tryz.prog 76 [ag (some p4) ((z.dt++[46,13,10]).map U8).length].toArray w' fun e w2=>∃ q : {q : Acc × aC // q.1=none→mm=[]},e=.returned (.tuple #[ag q.1.1 mm.length,q.1.2.v,N 0])∧aa w' [] (ay 5 q.1.1 (mm.map U8)) w2:=fun w' hw'=>by
    have:=tG ⟨some ⟨p4.1,0,none⟩,p4.2,z.dt++[46,13,10]⟩ w' (fW (q:=some p4) hw') (by simp;omega) (hm.at hw') hu
    rw [hv] at this
    exact this
  refine JL.dD (ι:={q : Acc × aC // q.1=none→mm=[]}) (vs:=[ag (some p4) ((z.dt++[46,13,10]).map U8).length]) (fun q=>.tuple #[ag q.1.1 mm.length,q.1.2.v,N 0]) (fun q=>ay 5 q.1.1 (mm.map U8)) rm rfl rfl ?_ ?_ ?_
  · exact fun q=>b8 _ _ _
  · intro w1 hw1
    exact hcu w1 hw1
  rintro ⟨⟨q,q2⟩,hq⟩
  dsimp only at hq ⊢
  repeat (first | refine JL.q (by first|(apply OQ.extract;rfl;rfl)|(apply OQ.move;rfl)|(apply OQ.assign;rfl)) rfl ?_ | refine JC.seq ?_ | refine JL.nil ?_ | refine JE.next ?_)
  refine JC.ek (M':=ay 5 q (mm.map U8)++(⟨b,Row 75 z.cs,true⟩::(z.T++(z.L++z.M)))) ?_ (dF (av.refl _) (bZ _ (av.refl _)))
  refine JC.pR (M':=⟨b,Row 75 z.cs,true⟩::(ay 5 q (mm.map U8)++(z.T++(z.L++z.M)))) ?_ (aM fun _ _ y=>by simp only [Pw.E,Pw.R,Pw.M,Pw.D,List.count_append,List.count_cons,List.count_nil];omega)
  obtain ⟨mz,hmz⟩ : ∃ mz : Mz,mz=⟨z.qt,q,⟨z.fr,z.to,mm⟩,ok.t,hq⟩:=⟨_,rfl⟩
  have hb : Program.built Tryz.prog 38 [(0,Z z.fr),(1,ag z.qt z.to.length),(2,ag q mm.length)]=some mz.cs.toArray:=by rw [hmz];exact nr _ _ _ _ _
  have hm3 : mz.cs.length=3:=by rw [hmz];rfl
  have hE : mz.E=z.T++ay 5 q (mm.map U8):=by rw [hmz];rfl
  let vs : Nat→Nat→Value:=fun j y=>match j with
    | 0=>Pt b 0
    | 1=>Pt b 0
    | 2=>Pt b 1
    | 3=>Z z.fr
    | 4=>Pt b 0
    | 5=>Pt b 0
    | 6=>Pt b 2
    | 7=>ag z.qt z.to.length
    | 8=>ag q mm.length
    | 9=>.agg mz.cs.toArray
    | 10=>Pt y 0
    | _=>N 0
  let Ms : Nat→Nat→List aF:=fun j y=>match j with
    | 10=>[⟨y,Row 38 [Z [],.slice none 0 0,.slice none 0 0],true⟩]
    | 11=>[⟨y,Row 38 mz.cs,true⟩]
    | 12=>[⟨b,Row 75 z.cs,true⟩]
    | 13=>ay 5 q (mm.map U8)
    | 14=>z.T++(z.L++z.M)
    | _=>[]
  refine JC.grow (g:=⟨[(0,Pt b 0),(3,ag q mm.length)],15,vs,Ms,(fun j=>match j with | 1=>[(0,17)] | 2=>[(1,18)] | 3=>[(2,19)] | 5=>[(4,21)] | 6=>[(5,22)] | 7=>[(6,23)] | 9=>[(3,20),(7,24),(8,25)] | 11=>[(10,6),(9,26)] | _=>[]),(fun j=>match j with | 3=>[12] | 7=>[12] | 11=>[10] | _=>[]),(fun j=>match j with | 11=>[10] | _=>[]),(fun j=>match j with | 11=>some 10 | _=>none)⟩) [(10,6)] [12,11,13,14] ei (by repeat (first | exact af.nil | refine af.cons _ _ _ rfl ?_)) ?_ (by kernel_rfl) (by kernel_rfl) (by kernel_rfl) ?_ ?_
  · show av (Ms 12 default++(Ms 13 default++(Ms 14 default++[]))) _;rw [List.append_nil];exact av.refl _
  · refine ⟨?_,?_,?_,?_,?_,?_,?_,?_,?_,?_,?_,?_,trivial⟩
    · (intro xx EF MF Q kk;(try refine JL.aT rfl rfl ?_);exact JL.q (OQ.move rfl) rfl (JL.nil (kk default nofun)))
    · (intro xx EF MF Q kk;(try refine JL.aT rfl rfl ?_);exact JL.q (OQ.aJ rfl) rfl (JL.nil (kk default nofun)))
    · (intro xx EF MF Q kk;(try refine JL.aT rfl rfl ?_);exact JL.q (OQ.bA rfl rfl rfl (by decide) rfl) rfl (JL.nil (kk default nofun)))
    · (intro xx EF MF Q kk;(try refine JL.aT rfl rfl ?_);exact JL.q (OQ.load fy rfl .here (Row.cell (v:=Z z.fr) rfl)) rfl (JL.nil (kk default nofun)))
    · (intro xx EF MF Q kk;(try refine JL.aT rfl rfl ?_);exact JL.q (OQ.move rfl) rfl (JL.nil (kk default nofun)))
    · (intro xx EF MF Q kk;(try refine JL.aT rfl rfl ?_);exact JL.q (OQ.aJ rfl) rfl (JL.nil (kk default nofun)))
    · (intro xx EF MF Q kk;(try refine JL.aT rfl rfl ?_);exact JL.q (OQ.bA rfl rfl rfl (by decide) rfl) rfl (JL.nil (kk default nofun)))
    · (intro xx EF MF Q kk;(try refine JL.aT rfl rfl ?_);exact JL.q (OQ.load de rfl .here (Row.cell (v:=ag z.qt z.to.length) rfl)) rfl (JL.nil (kk default nofun)))
    · (intro xx EF MF Q kk;(try refine JL.aT rfl rfl ?_);exact JL.q (OQ.move rfl) rfl (JL.nil (kk default nofun)))
    · (intro xx EF MF Q kk;(try refine JL.aT rfl rfl ?_);exact JL.q (OQ.dY (cs:=mz.cs) (vs:=[Z z.fr,ag z.qt z.to.length,ag q mm.length]) [0,1,2] [.tmp 20,.tmp 24,.tmp 25] rfl rfl hb) rfl (JL.nil (kk default nofun)))
    · (intro xx EF MF Q kk;exact JL.alloc (r:=[Z [],.slice none 0 0,.slice none 0 0]) yx rfl fun b1 _=>JL.nil (kk b1 nofun))
    · (intro xx EF MF Q kk;exact JL.gL (cs:=mz.cs) rL rfl rfl hm3 (tN mz) .here rfl (JL.nil (kk (xx 10) (fun k h=>by cases h;rfl))))
  · intro xx hx
    have e11:=hx 11 10 (by decide) rfl
    show JE _ _ _ _ _ [(6,Pt (xx 10) 0),(0,Pt b 0),(3,ag q mm.length)] (⟨b,Row 75 z.cs,true⟩::(⟨xx 11,Row 38 mz.cs,true⟩::(ay 5 q (mm.map U8)++((z.T++(z.L++z.M))++[]))))
    rw [e11,List.append_nil]
    generalize xx 10=ba
    clear hx e11 xx vs Ms
    repeat (first | refine JL.q (by (apply OQ.move;rfl)) rfl ?_ | refine JC.seq ?_ | refine JC.region ?_ | refine JE.next ?_)
    refine JL.tM rfl rfl ?_
    repeat (first | refine JL.q (by first|(apply OQ.gw;exact Tryz.underlying22;exact (fun h=>congrArg List.length (hq h));rfl)|(apply OQ.kM (a:=mm.length) (b:=2097152);rfl;rfl;exact (by omega))|(apply OQ.move;rfl)) rfl ?_ | refine JC.seq ?_ | refine JC.region ?_ | refine JL.nil ?_ | refine JE.next ?_)
    refine JC.cond_false rfl rfl ?_
    repeat (first | refine JC.seq ?_ | refine JC.skip ?_ | refine JE.next ?_)
    have hq7 : ag z.qm z.zs.length=ag z.qm (z.zs.map Mz.cs).length:=by rw [List.length_map]
    refine JC.pR (M':=⟨b,Row 75 (z.bL 1).cs,true⟩::(⟨ba,Row 38 mz.cs,true⟩::(cg 38 3 z.qm (z.zs.map Mz.cs)++(ay 5 q (mm.map U8)++(z.T++(z.L++z.zs.flatMap Mz.E)))))) ?_ (aM fun _ _ y=>by simp only [Pw.E,Pw.R,Pw.M,Pw.D,List.count_append,List.count_cons,List.count_nil];omega)
    let vs : Nat→Nat × Nat→Value:=fun j y=>match j with
      | 0=>Pt b 0
      | 1=>Pt b 0
      | 2=>Pt b 0
      | 3=>Pt b 5
      | 4=>ag z.qm (z.zs.map Mz.cs).length
      | 5=>.agg mz.cs.toArray
      | 6=>.slice (some ⟨y.1,0,none⟩) 1 1
      | 7=>ag (some y) (z.zs.map Mz.cs++[mz.cs]).length
      | 8=>Pt b 0
      | 9=>Pt b 5
      | _=>N 0
    let Ms : Nat→Nat × Nat→List aF:=fun j y=>match j with
      | 6=>[⟨y.1,Row 38 mz.cs,true⟩]
      | 7=>cg 38 3 (some y) (z.zs.map Mz.cs++[mz.cs])
      | 10=>[⟨b,Row 75 [N 1,Z [],.slice none 0 0,ag z.ql z.ln.length,.slice none 0 0,ag (some y) (z.zs.map Mz.cs++[mz.cs]).length],true⟩]
      | 11=>[⟨b,Row 75 (z.bL 1).cs,true⟩]
      | 12=>[⟨ba,Row 38 mz.cs,true⟩]
      | 13=>cg 38 3 z.qm (z.zs.map Mz.cs)
      | 14=>ay 5 q (mm.map U8)++(z.T++(z.L++z.zs.flatMap Mz.E))
      | _=>[]
    refine JC.grow (g:=⟨[(0,Pt b 0),(6,Pt ba 0)],15,vs,Ms,(fun j=>match j with | 2=>[(1,33)] | 3=>[(2,34)] | 4=>[(3,35)] | 6=>[(5,37)] | 7=>[(4,36),(6,38)] | 8=>[(0,32)] | 9=>[(8,40)] | 10=>[(9,41),(7,39)] | _=>[]),(fun j=>match j with | 4=>[11] | 5=>[12] | 7=>[6,13] | 10=>[11] | _=>[]),(fun j=>match j with | 7=>[6,13] | 10=>[11] | _=>[]),(fun j=>match j with | 10=>some 7 | _=>none)⟩) [] [10,7,12,14] ei (by repeat (first | exact af.nil | refine af.cons _ _ _ rfl ?_)) ?_ (by kernel_rfl) (by kernel_rfl) (by kernel_rfl) ?_ ?_
    · show av (Ms 11 default++(Ms 12 default++(Ms 13 default++(Ms 14 default++[])))) _;rw [List.append_nil];exact av.refl _
    · refine ⟨?_,?_,?_,?_,?_,?_,?_,?_,?_,?_,?_,trivial⟩
      · (intro xx EF MF Q kk;(try refine JL.aT rfl rfl ?_);exact JL.q (OQ.move rfl) rfl (JL.nil (kk default nofun)))
      · (intro xx EF MF Q kk;(try refine JL.aT rfl rfl ?_);exact JL.q (OQ.move rfl) rfl (JL.nil (kk default nofun)))
      · (intro xx EF MF Q kk;(try refine JL.aT rfl rfl ?_);exact JL.q (OQ.aJ rfl) rfl (JL.nil (kk default nofun)))
      · (intro xx EF MF Q kk;(try refine JL.aT rfl rfl ?_);exact JL.q (OQ.bA rfl rfl rfl (by decide) rfl) rfl (JL.nil (kk default nofun)))
      · (intro xx EF MF Q kk;(try refine JL.aT rfl rfl ?_);exact JL.q (OQ.to (OQ.load o8 rfl .here (Row.cell (v:=ag z.qm z.zs.length) rfl)) hq7) rfl (JL.nil (kk default nofun)))
      · (intro xx EF MF Q kk;(try refine JL.aT rfl rfl ?_);exact JL.q (OQ.iP (cs:=mz.cs) xp rL rfl .here hm3 Row.all) rfl (JL.nil (kk default nofun)))
      · (intro xx EF MF Q kk;exact JL.w9 (cs:=mz.cs) Tryz.underlying31 wV rfl (by decide) (by decide) rfl hm3 rfl fun b1 _=>JL.nil (kk (b1,0) nofun))
      · (intro xx EF MF Q kk;refine JL.perm (M':=⟨(xx 6).1,Row 38 mz.cs,true⟩::(cg 38 3 z.qm (z.zs.map Mz.cs)++MF)) ?_ (List.Perm.of_eq (by show (Ms 6 (xx 6)++(Ms 13 (xx 13)++[]))++MF=_;simp [Ms]));exact JL.o5 (c:=mz.cs) z.qm Tryz.underlying31 wV (fun h=>by rw [ok.m h];rfl) rfl rfl hm3 (lE mz) rfl (by decide) (by rw [List.length_map];omega) (by rw [List.length_map];omega) rfl fun b' cap'=>JL.nil (kk (b',cap') nofun))
      · (intro xx EF MF Q kk;(try refine JL.aT rfl rfl ?_);exact JL.q (OQ.aJ rfl) rfl (JL.nil (kk default nofun)))
      · (intro xx EF MF Q kk;(try refine JL.aT rfl rfl ?_);exact JL.q (OQ.bA rfl rfl rfl (by decide) rfl) rfl (JL.nil (kk default nofun)))
      · (intro xx EF MF Q kk;exact JL.bJ (b:=b) (r:=(z.bL 1).cs) (r':=[N 1,Z [],.slice none 0 0,ag z.ql z.ln.length,.slice none 0 0,ag (some (xx 7)) (z.zs.map Mz.cs++[mz.cs]).length]) vD rfl rfl rfl rfl .here (show 5<6 by decide) rfl (JL.nil (kk (xx 7) (fun k h=>by cases h;rfl))))
    · intro xx hx
      have e10:=hx 10 7 (by decide) rfl
      show JE _ _ _ _ _ [(0,Pt b 0),(6,Pt ba 0)] (⟨b,Row 75 [N 1,Z [],.slice none 0 0,ag z.ql z.ln.length,.slice none 0 0,ag (some (xx 10)) (z.zs.map Mz.cs++[mz.cs]).length],true⟩::(⟨(xx 7).1,Sl.aO 38 3 (z.zs.map Mz.cs++[mz.cs]).length (xx 7).2 (z.zs.map Mz.cs++[mz.cs]).flatten,true⟩::(⟨ba,Row 38 mz.cs,true⟩::((ay 5 q (mm.map U8)++(z.T++(z.L++z.zs.flatMap Mz.E)))++[]))))
      rw [e10,List.append_nil]
      generalize xx 7=y
      clear hx e10 xx vs Ms
      rw [show z.zs.map Mz.cs++[mz.cs]=(z.zs++[mz]).map Mz.cs by simp]
      rw [List.length_map]
      repeat (first | refine JL.q (by (apply OQ.assign;rfl)) rfl ?_ | refine JC.seq ?_ | refine JC.region ?_ | refine JL.nil ?_ | refine JE.next ?_)
      refine JC.ret ?_
      skip
      refine JE.aE rfl (RV.tmp rfl) fun w' hw=>⟨⟨1,[],none,[],z.ql,z.ln,none,[],some y,z.zs++[mz]⟩,⟨⟨fun _=>rfl,ok.l,fun _=>rfl,nofun⟩,⟨rfl,rfl,rfl,hG hn hs _ hn,rfl,?_⟩⟩,rfl,?_⟩
      · rw [List.map_append,hs.ms,hmz]
        show S.ms++[⟨z.fr,z.to,mm⟩]=S.ms++[⟨S.fr,S.to,bG S.dt⟩]
        rw [hs.fr,hs.to,hmo]
      · have hw2 : aa w S0 (⟨b,Row 75 (Pw.cs ⟨1,[],none,[],z.ql,z.ln,none,[],some y,z.zs++[mz]⟩),true⟩::(cg 38 3 (some y) ((z.zs++[mz]).map Mz.cs)++(⟨ba,Row 38 mz.cs,true⟩::(ay 5 q (mm.map U8)++(z.T++(z.L++z.zs.flatMap Mz.E)))))) w':=by
          unfold cg
          rw [List.length_map]
          exact hw
        refine (hw2.perm' (M':=⟨ba,Row 38 mz.cs,true⟩::(Pw.E b ⟨1,[],none,[],z.ql,z.ln,none,[],some y,z.zs++[mz]⟩)) ?_).weak (.drop _ _ _ (av.refl _))
        have hF : (z.zs++[mz]).flatMap Mz.E=z.zs.flatMap Mz.E++(z.T++ay 5 q (mm.map U8)):=by rw [List.flatMap_append,← hE];simp
        have hR : Pw.R ⟨1,[],none,[],z.ql,z.ln,none,[],some y,z.zs++[mz]⟩=z.L++(cg 38 3 (some y) ((z.zs++[mz]).map Mz.cs)++(z.zs++[mz]).flatMap Mz.E):=rfl
        unfold Pw.E
        rw [hR,hF]
        exact aM fun _ _ x=>by simp only [List.count_append,List.count_cons];omega
end dx
end
section
set_option maxRecDepth 10000
open Sl aA
def xJ (l : List Bt) : List Int:=l.map fun c=>(c.toNat : Int)
theorem wI (l : List Bt) : Go.Lib.bytesOf (xJ l)=aA.bN l:=by
  unfold Go.Lib.bytesOf xJ aA.bN
  rw [List.map_map]
  refine List.map_congr_left fun c _=>?_
  show UInt8.ofNat ((c.toNat : Int)).toNat=_
  rw [Int.toNat_natCast]
  apply UInt8.toBitVec_inj.1
  exact BitVec.eq_of_toNat_eq (by simp)
theorem tP (c : aA.By) : ∀ l : List aA.By,Go.Lib.indexByte (aA.bN l) (UInt8.ofBitVec c)=gI c l
  | []=>rfl
  | d::r=>by
    show (if (UInt8.ofBitVec d == UInt8.ofBitVec c) then 0 else if Go.Lib.indexByte (aA.bN r) (UInt8.ofBitVec c) == -1 then -1 else Go.Lib.indexByte (aA.bN r) (UInt8.ofBitVec c)+1 : Int)=_
    rw [tP c r]
    unfold gI
    rw [dn]
    have hb : (UInt8.ofBitVec d == UInt8.ofBitVec c)=decide (d=c):=by
      by_cases h : d=c
      · subst h;simp
      · rw [decide_eq_false h]
        exact beq_eq_false_iff_ne.2 fun k=>h (congrArg UInt8.toBitVec k)
    rw [hb]
    by_cases hd : d=c
    · simp [hd]
    · simp only [hd,decide_false,Bool.false_eq_true,if_false,List.length_cons,Nat.add_lt_add_iff_right]
      by_cases h : fi c r<r.length
      · simp only [h,if_true]
        rw [if_neg (by rw [beq_iff_eq];omega)]
        omega
      · simp only [h,if_false]
        rfl
theorem OQ.ye {P : Program} {n : Nat} {E : Env} {w0 : World} {S : List Nat} {M : List aF} {dst : Option Tmp} {ty : TypeId} {pos : String} {aft : Array Edge} {g : Option (Nat × Bool)} {f : FuncId} {ats : Array TypeId} {x y : Operand} {s : aC} {c : Bt} (hf : kV P f) (hx : ev E x=some s.v) (hy : ev E y=some (U8 c)) (hs : ∀ w,aa w0 S M w→s.ok w) :
    OQ P n E (aa w0 S M) ⟨dst,.call ⟨.value (.func f),#[x,y],ats⟩,ty,pos,aft,g⟩ (I (gI c s.l)):=by
  refine ⟨fun ac hk w hw=>?_⟩
  obtain ⟨fn,h1,h2,h3,h4,h5⟩:=hf.go
  have hc : ((c.toNat : Int)).toNat.toUInt8=UInt8.ofBitVec c:=by
    rw [Int.toNat_natCast]
    apply UInt8.toBitVec_inj.1
    apply BitVec.eq_of_toNat_eq
    simp [Nat.toUInt8,UInt8.ofNat]
  have hr : (Extern.BytealgIndexByte.indexByte #[s.v,U8 c]).run P w=.ok (I (gI c s.l)) w:=by
    have ok:=hs w hw
    obtain ⟨ad,cap,l⟩:=s
    cases ad with
    | none=>
      have h0 : l=[]:=by
        cases l with
        | nil=>rfl
        | cons d l=>
          obtain ⟨b,j,k1,_⟩:=ok.reads.at (by simp)
          cases k1
      subst h0
      exact Lib.run_indexByteNil w 0 cap (c.toNat : Int)
    | some a=>
      have:=Lib.run_indexByteAt (P:=P) w a l.length cap (xJ l) (by unfold xJ;rw [List.length_map]) (fun i hi=>by
        obtain ⟨b,j,k1,k2⟩:=ok.reads _ _ (dU U8 0 hi)
        cases k1
        rw [bW,k2]
        unfold xJ
        rw [List.getD_eq_getElem?_getD,List.getD_eq_getElem?_getD,List.getElem?_map,List.getElem?_eq_getElem hi]
        rfl) (c.toNat : Int)
      rw [wI,hc,tP] at this
      exact this
  have r:=run_callFunc_extern h1 h2 h3 h4 h5 #[s.v,U8 c] w
  rw [hr] at r
  unfold Oper.quietAt
  have r' : (execOp ac.eval ⟨dst,.call ⟨.value (.func f),#[x,y],ats⟩,ty,pos,aft,g⟩).run P w=.ok (.value (I (gI c s.l))) w:=by
    simp only [Result.andThen] at r
    have k1:=hk.eval hx
    have k2:=hk.eval hy
    have e : (.ok (.value (I (gI c s.l))) w : Result Next)=(callFunc f #[s.v,U8 c]).run P w:=r.symm
    rw [e]
    simp [execOp,resolve,Sem.run_bind,Act.eval,Deferred.ofValue,invoke,k1,k2]
    simp [Act.eval] at k1 k2
    simp [k1,k2]
  rw [r']
  exact ⟨rfl,rfl⟩
theorem vj : kV Tryz.prog 102:=⟨_,Tryz.func102,rfl,rfl,by kernel_rfl,by kernel_rfl⟩
theorem tQ (s : aC) (c : Bt) (w : World) (hs : s.ok w) : Calls Tryz.prog 70 [s.v,U8 c].toArray w fun e w'=>e=.returned (I (gI c s.l))∧Ext w w':=by
  refine enter (n:=8) Tryz.func70 rfl rfl rfl (aa.start w []) ?_
  repeat (first | refine JL.q (by first|(apply OQ.ye;exact vj;rfl;rfl;exact (fun w' hw'=>hs.holds hw' rfl))|(apply OQ.move;rfl)|(apply OQ.assign;rfl)) rfl ?_ | refine JC.seq ?_ | refine JC.region ?_ | refine JL.nil ?_ | refine JE.next ?_)
  exact JC.ret (JE.aE rfl (RV.tmp rfl) fun w' hw=>⟨rfl,hw.aS⟩)
end
end Go.Proofs.YtjeeilmkjjbonaaGreatDoor
