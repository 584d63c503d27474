/-
  Of no statement by itself: the texts RatU, RatV, RatZ, RatL, RatK, RatDp, Slgm, RatDl, Plain, Elm in one.
  Conditions: each theorem's own.
-/
import Derived.Test.YtgkninhgcpbfnaaGreatDoorIf
import Derived.Test.YtgkninhgcpbfnaaGreatDoorProg
import Derived.Test.YtgkninhgcpbfnaaGreatDoorRows
import Derived.ProofKit
import Derived.OpenShut
import Derived.Below
import Derived.Stop.Joined
import Derived.ChangeMaps5
import Derived.Deep.Slices
import Derived.Deep.SlicePairs
set_option linter.unusedSimpArgs false
set_option linter.unusedVariables false
namespace Go.Proofs.YtgkninhgcpbfnaaGreatDoor
section
set_option maxRecDepth 10000
open Sl iB mO dZ n5
open qG (Bk)
theorem gO.ok.at {w : World} {s : gO} (h : s.ok w) {i : Nat} (hi : i<s.l.length) : ∃ b j,s.ad=some ⟨b,j,none⟩∧b<w.heap.size∧∀ k u,(CR (s.l.getD i eu))[k]?=some u→w.cell? ⟨b,j+i * 65+k,none⟩=some u:=by
  have hl : (tM s.l).flatten.length=s.l.length * 65:=by rw [dJ (yb h.all),ya]
  have h0 : 0<(tM s.l).flatten.length:=by omega
  obtain ⟨b,j,e,hc⟩:=h.reads.at h0
  refine ⟨b,j,e,?_,fun k u hu=>?_⟩
  · obtain ⟨v,hv⟩ : ∃ v,(tM s.l).flatten[0]?=some v:=⟨_,List.getElem?_eq_getElem h0⟩
    exact block_lt_of_cell (hc 0 v hv)
  · have hat:=oK (i:=i) (yb h.all) (by rw [ya];exact hi)
    rw [Hl _ hi] at hat
    rw [← hat,List.getElem?_take] at hu
    split at hu
    · rw [List.getElem?_drop] at hu
      rw [Nat.add_assoc]
      exact hc _ u hu
    · cases hu
theorem gO.mem {s : gO} {i : Nat} (hi : i<s.l.length) : s.l.getD i eu ∈ s.l:=by
  rw [List.getD_eq_getElem?_getD,List.getElem?_eq_getElem hi]
  exact List.getElem_mem hi
def gO.nat (s : gO) : lO:=⟨s.ad,s.cap,s.l.map qL.nat⟩
theorem gO.It (s : gO) : s.nat.v=s.v:=by simp [gO.nat,lO.v,gO.v]
theorem gO.wj {w : World} {s : gO} (h : s.ok w) {t : nS} (ht : fk t) (hto : t.ok) (e : s.l=t.kept) : s.nat.ok w:=by
  refine ⟨by simpa [gO.nat] using h.len,?_,?_⟩
  · have h1:=ht.kept
    have h2:=h.reads
    rw [e,h1] at h2
    show Reads w s.ad (aT (s.l.map qL.nat)).flatten
    rw [e]
    exact h2
  · show ∀ x ∈ s.l.map qL.nat,x.ok
    rw [e]
    exact (nS.wj hto).kept
theorem pI (a : Int) : pG a=true↔tN a:=by simp [pG,tN]
theorem dy : aI Tryz.prog 19:=⟨_,Tryz.func19,rfl,by kernel_rfl⟩
set_option maxHeartbeats 4000000 in
theorem pJ (a : Int) (w : World) : Calls Tryz.prog 19 [I a].toArray w fun e w'=>e=.returned (.bool (pG a))∧Ext w w':=by
  refine enter (n:=9) Tryz.func19 rfl rfl rfl (ah.start w []) ?_
  unfold pG
  obtain ⟨c1,h1⟩ : ∃ c,decide ((0 : Int)≤a)=c:=⟨_,rfl⟩
  obtain ⟨c2,h2⟩ : ∃ c,decide (a≤2147483647)=c:=⟨_,rfl⟩
  rw [h1,h2]
  cases c1
  · repeat (first | refine JL.q (by first|(apply OQ.wG (b:=0);rfl;rfl;exact h1)|(apply OQ.cq;rfl;rfl)|(apply OQ.move;rfl)|(apply OQ.assign;rfl)) rfl ?_ | refine JC.seq ?_ | refine JC.region ?_ | refine JL.nil ?_ | refine JE.next ?_ | refine JL.fK rfl rfl rfl rfl ?_)
    exact JC.ret (JE.aJ rfl (RV.tmp rfl) fun w' hw=>⟨rfl,hw.aM⟩)
  · repeat (first | refine JL.q (by first|(apply OQ.wG (b:=0);rfl;rfl;exact h1)|(apply OQ.KF (b:=2147483647);rfl;rfl;exact h2)|(apply OQ.c9;rfl;rfl)|(apply OQ.move;rfl)|(apply OQ.assign;rfl)) rfl ?_ | refine JC.seq ?_ | refine JC.region ?_ | refine JL.nil ?_ | refine JE.next ?_ | refine JL.aS rfl rfl ?_)
    exact JC.ret (JE.aJ rfl (RV.tmp rfl) fun w' hw=>⟨rfl,hw.aM⟩)
section
variable {n : Nat} {E : Env} {C : World→Prop} {dst : Option Tmp} {t t' ty : TypeId} {pos : String} {aft : Array Edge} {g : Option (Nat × Bool)} {x y : Operand}
theorem OQ.LM : OQ Tryz.prog n E C ⟨dst,.build 23 #[],ty,pos,aft,g⟩ (.agg (dz.map U8).toArray):=OQ.pure rfl rfl (by kernel_rfl)
theorem OQ.yf {r q : Bk} {c : Bool} (hr : r.length=32) (hq : q.length=32) (hx : ev E x=some (.agg (r.map U8).toArray)) (hy : ev E y=some (.agg (q.map U8).toArray)) (h : decide (r=q)=c) : OQ Tryz.prog n E C ⟨dst,.binOp .neq 23 x y t',ty,pos,aft,g⟩ (.bool (!c)):=
  h ▸ OQ.L6 Tryz.underlying23 Tryz.underlying5 lH mF hx hy hr hq
theorem OQ.Hq {r q : Bk} {c : Bool} (hr : r.length=32) (hq : q.length=32) (hx : ev E x=some (.agg (r.map U8).toArray)) (hy : ev E y=some (.agg (q.map U8).toArray)) (h : decide (r=q)=c) : OQ Tryz.prog n E C ⟨dst,.binOp .eql 23 x y t',ty,pos,aft,g⟩ (.bool c):=
  h ▸ OQ.L3 Tryz.underlying23 Tryz.underlying5 lH mF hx hy hr hq
end
theorem Bu {k : qL} (h : k.ok) : (CR k)[32]?=some (I k.num):=by simp [CR,h.c]
theorem qF : aI Tryz.prog 8:=⟨_,Tryz.func8,rfl,by kernel_rfl⟩
set_option maxHeartbeats 64000000 in
theorem Ad (s : nS) (k : gO) (hs : s.ok) (he : k.l=s.kept) (w : World) (hk : k.ok w) : Calls Tryz.prog 8 [.agg (iQ s k.v).toArray].toArray w fun e w'=>∃ r : {b : Bool // b=true↔fk s},e=.returned (.bool r.1)∧Ext w w':=by
  have l3 : (s.other.map U8).length=32:=by rw [List.length_map];exact hs.other
  have l4 : (s.send.map U8).length=32:=by rw [List.length_map];exact hs.send
  have l5 : (s.take.map U8).length=32:=by rw [List.length_map];exact hs.take
  have hkp : ∀ o,Row 26 (iQ s k.v) o→cellAt o 165=some k.v:=Row.cell (ye hs _)
  have hsn : ∀ o,Row 26 (iQ s k.v) o→cellAt o 162=some (I s.sent):=Row.cell (Fy hs _)
  have htk : ∀ o,Row 26 (iQ s k.v) o→cellAt o 163=some (I s.taken):=Row.cell (CU hs _)
  have hpv : ∀ o,Row 26 (iQ s k.v) o→cellAt o 164=some (I s.prev):=Row.cell (Fz hs _)
  have c1:=fun w'=>pJ s.sent w'
  have c2:=fun w'=>pJ s.taken w'
  have c3:=fun w'=>pJ s.prev w'
  have i1:=pI s.sent
  have i2:=pI s.taken
  have i3:=pI s.prev
  refine enter (n:=111) Tryz.func8 rfl rfl rfl (ah.start w []) ?_
  repeat (first | refine JC.seq ?_ | refine JC.region ?_)
  refine JL.box (r:=iQ s k.v) rfl rfl rfl fun b1 _=>?_
  obtain ⟨m1,hm1⟩ : ∃ m,pG s.sent=m:=⟨_,rfl⟩
  obtain ⟨m2,hm2⟩ : ∃ m,pG s.taken=m:=⟨_,rfl⟩
  obtain ⟨m3,hm3⟩ : ∃ m,pG s.prev=m:=⟨_,rfl⟩
  obtain ⟨m4,hm4⟩ : ∃ m,decide ((2000 : Int)<((k.l.length : Nat) : Int))=m:=⟨_,rfl⟩
  rw [hm1] at c1 i1
  rw [hm2] at c2 i2
  rw [hm3] at c3 i3
  cases m1
  case' true=>cases m2
  case' true.true=>cases m3
  case' true.true.true=>cases m4
  case false=>
    have hno : ¬ fk s:=fun h=>absurd (i1.2 h.sent) (by decide)
    repeat (first | refine JL.q (by first|(apply OQ.load;exact aR;rfl;exact .here;exact hsn)|(apply OQ.au (vs:=[I s.sent]);exact dy;rfl;exact (fun w' _=>c1 w'))|(apply OQ.not;rfl)|(apply OQ.c9;rfl;rfl)|(apply OQ.move;rfl)|(apply OQ.assign;rfl)|(apply OQ.bM;rfl;rfl;rfl;exact (by decide);rfl)) rfl ?_ | refine JC.seq ?_ | refine JC.region ?_ | refine JL.nil ?_ | refine JE.next ?_ | refine JL.fK rfl rfl rfl rfl ?_)
    refine JC.cond_true rfl rfl ?_
    repeat (first | refine JL.q (by (apply OQ.assign;rfl)) rfl ?_ | refine JC.seq ?_ | refine JC.region ?_ | refine JL.nil ?_ | refine JE.next ?_)
    refine JC.ret ?_
    repeat (refine JE.aF ?_)
    exact JE.aJ rfl (RV.tmp rfl) fun w' hw=>⟨⟨false,⟨nofun,fun h=>absurd h hno⟩⟩,rfl,hw.aM⟩
  case true.false=>
    have hno : ¬ fk s:=fun h=>absurd (i2.2 h.taken) (by decide)
    repeat (first | refine JL.q (by first|(apply OQ.load;exact aR;rfl;exact .here;exact hsn)|(apply OQ.load;exact aR;rfl;exact .here;exact htk)|(apply OQ.au (vs:=[I s.sent]);exact dy;rfl;exact (fun w' _=>c1 w'))|(apply OQ.au (vs:=[I s.taken]);exact dy;rfl;exact (fun w' _=>c2 w'))|(apply OQ.not;rfl)|(apply OQ.c9;rfl;rfl)|(apply OQ.cq;rfl;rfl)|(apply OQ.move;rfl)|(apply OQ.assign;rfl)|(apply OQ.bM;rfl;rfl;rfl;exact (by decide);rfl)) rfl ?_ | refine JC.seq ?_ | refine JC.region ?_ | refine JL.nil ?_ | refine JE.next ?_ | refine JL.aS rfl rfl ?_ | refine JL.fK rfl rfl rfl rfl ?_)
    refine JC.cond_true rfl rfl ?_
    repeat (first | refine JL.q (by (apply OQ.assign;rfl)) rfl ?_ | refine JC.seq ?_ | refine JC.region ?_ | refine JL.nil ?_ | refine JE.next ?_)
    refine JC.ret ?_
    repeat (refine JE.aF ?_)
    exact JE.aJ rfl (RV.tmp rfl) fun w' hw=>⟨⟨false,⟨nofun,fun h=>absurd h hno⟩⟩,rfl,hw.aM⟩
  case true.true.false=>
    have hno : ¬ fk s:=fun h=>absurd (i3.2 h.prev) (by decide)
    repeat (first | refine JL.q (by first|(apply OQ.load;exact aR;rfl;exact .here;exact hsn)|(apply OQ.load;exact aR;rfl;exact .here;exact htk)|(apply OQ.load;exact aR;rfl;exact .here;exact hpv)|(apply OQ.au (vs:=[I s.sent]);exact dy;rfl;exact (fun w' _=>c1 w'))|(apply OQ.au (vs:=[I s.taken]);exact dy;rfl;exact (fun w' _=>c2 w'))|(apply OQ.au (vs:=[I s.prev]);exact dy;rfl;exact (fun w' _=>c3 w'))|(apply OQ.not;rfl)|(apply OQ.c9;rfl;rfl)|(apply OQ.cq;rfl;rfl)|(apply OQ.move;rfl)|(apply OQ.assign;rfl)|(apply OQ.bM;rfl;rfl;rfl;exact (by decide);rfl)) rfl ?_ | refine JC.seq ?_ | refine JC.region ?_ | refine JL.nil ?_ | refine JE.next ?_ | refine JL.aS rfl rfl ?_ | refine JL.fK rfl rfl rfl rfl ?_)
    refine JC.cond_true rfl rfl ?_
    repeat (first | refine JL.q (by (apply OQ.assign;rfl)) rfl ?_ | refine JC.seq ?_ | refine JC.region ?_ | refine JL.nil ?_ | refine JE.next ?_)
    refine JC.ret ?_
    repeat (refine JE.aF ?_)
    exact JE.aJ rfl (RV.tmp rfl) fun w' hw=>⟨⟨false,⟨nofun,fun h=>absurd h hno⟩⟩,rfl,hw.aM⟩
  case true.true.true.true=>
    have hno : ¬ fk s:=fun h=>absurd h.len (by have:=of_decide_eq_true hm4;rw [he] at this;omega)
    repeat (first | refine JL.q (by first|(apply OQ.load;exact aR;rfl;exact .here;exact hsn)|(apply OQ.load;exact aR;rfl;exact .here;exact htk)|(apply OQ.load;exact aR;rfl;exact .here;exact hpv)|(apply OQ.load;exact fW;rfl;exact .here;exact hkp)|(apply OQ.len (k:=k.l.length) (ad:=k.ad) (cap:=k.cap);exact Tryz.underlying24;rfl)|(apply OQ.m9 (b:=2000);rfl;rfl;exact hm4)|(apply OQ.au (vs:=[I s.sent]);exact dy;rfl;exact (fun w' _=>c1 w'))|(apply OQ.au (vs:=[I s.taken]);exact dy;rfl;exact (fun w' _=>c2 w'))|(apply OQ.au (vs:=[I s.prev]);exact dy;rfl;exact (fun w' _=>c3 w'))|(apply OQ.not;rfl)|(apply OQ.cq;rfl;rfl)|(apply OQ.move;rfl)|(apply OQ.assign;rfl)|(apply OQ.bM;rfl;rfl;rfl;exact (by decide);rfl)) rfl ?_ | refine JC.seq ?_ | refine JC.region ?_ | refine JL.nil ?_ | refine JE.next ?_ | refine JL.aS rfl rfl ?_)
    refine JC.cond_true rfl rfl ?_
    repeat (first | refine JL.q (by (apply OQ.assign;rfl)) rfl ?_ | refine JC.seq ?_ | refine JC.region ?_ | refine JL.nil ?_ | refine JE.next ?_)
    refine JC.ret ?_
    repeat (refine JE.aF ?_)
    exact JE.aJ rfl (RV.tmp rfl) fun w' hw=>⟨⟨false,⟨nofun,fun h=>absurd h hno⟩⟩,rfl,hw.aM⟩
  have r1:=i1.1 rfl
  have r2:=i2.1 rfl
  have r3:=i3.1 rfl
  have r4 : s.kept.length≤2000:=by have:=of_decide_eq_false hm4;rw [he] at this;omega
  repeat (first | refine JL.q (by first|(apply OQ.load;exact aR;rfl;exact .here;exact hsn)|(apply OQ.load;exact aR;rfl;exact .here;exact htk)|(apply OQ.load;exact aR;rfl;exact .here;exact hpv)|(apply OQ.load;exact fW;rfl;exact .here;exact hkp)|(apply OQ.len (k:=k.l.length) (ad:=k.ad) (cap:=k.cap);exact Tryz.underlying24;rfl)|(apply OQ.m9 (b:=2000);rfl;rfl;exact hm4)|(apply OQ.au (vs:=[I s.sent]);exact dy;rfl;exact (fun w' _=>c1 w'))|(apply OQ.au (vs:=[I s.taken]);exact dy;rfl;exact (fun w' _=>c2 w'))|(apply OQ.au (vs:=[I s.prev]);exact dy;rfl;exact (fun w' _=>c3 w'))|(apply OQ.not;rfl)|(apply OQ.cq;rfl;rfl)|(apply OQ.move;rfl)|(apply OQ.assign;rfl)|(apply OQ.bM;rfl;rfl;rfl;exact (by decide);rfl)) rfl ?_ | refine JC.seq ?_ | refine JC.region ?_ | refine JL.nil ?_ | refine JE.next ?_ | refine JL.aS rfl rfl ?_)
  refine JC.cond_false rfl rfl ?_
  refine JC.skip (JE.next ?_)
  obtain ⟨t1,ht1⟩ : ∃ t,s.bI=t:=⟨_,rfl⟩
  obtain ⟨t2,ht2⟩ : ∃ t,s.takes=t:=⟨_,rfl⟩
  obtain ⟨d1,hd1⟩ : ∃ d,decide (s.send=dz)=d:=⟨_,rfl⟩
  obtain ⟨d2,hd2⟩ : ∃ d,decide (s.take=dz)=d:=⟨_,rfl⟩
  obtain ⟨d3,hd3⟩ : ∃ d,decide (s.other=dz)=d:=⟨_,rfl⟩
  have hse : ∀ o,Row 26 (iQ s k.v) o→cellAt o 96=some (.bool t1):=by rw [← ht1];exact Row.cell (CS hs _)
  have hta : ∀ o,Row 26 (iQ s k.v) o→cellAt o 97=some (.bool t2):=by rw [← ht2];exact Row.cell (CT hs _)
  obtain ⟨zb,hzb⟩ : ∃ zb,((t1 || d1) && ((t2 || d2) && (t1 || (t2 || d3))))=zb:=⟨_,rfl⟩
  have hiff : zb=true↔((s.bI=false→s.send=dz)∧(s.takes=false→s.take=dz)∧(s.bI=false→s.takes=false→s.other=dz)):=by
    rw [← hzb,← ht1,← ht2,← hd1,← hd2,← hd3]
    cases s.bI <;> cases s.takes <;> simp
  cases zb
  · have hno : ¬ fk s:=fun h=>absurd (hiff.2 ⟨h.send,h.take,h.other⟩) (by decide)
    clear hiff
    cases t1 <;> cases t2 <;> cases d1 <;> cases d2 <;> cases d3
    all_goals first
      | (exact absurd hzb (by decide))
      | skip
    all_goals
      repeat (first | refine JL.q (by first|(apply OQ.load;exact fj;rfl;exact .here;exact hse)|(apply OQ.load;exact fj;rfl;exact .here;exact hta)|(apply OQ.af (cs:=s.send.map U8);exact aN;exact aB;rfl;exact .here;exact l4;exact (Row.cells (yc hs _)))|(apply OQ.af (cs:=s.take.map U8);exact aN;exact aB;rfl;exact .here;exact l5;exact (Row.cells (yd hs _)))|(apply OQ.af (cs:=s.other.map U8);exact aN;exact aB;rfl;exact .here;exact l3;exact (Row.cells (uV hs _)))|(apply OQ.LM)|(apply OQ.yf (q:=dz);exact hs.send;rfl;rfl;rfl;exact hd1)|(apply OQ.yf (q:=dz);exact hs.take;rfl;rfl;rfl;exact hd2)|(apply OQ.yf (q:=dz);exact hs.other;rfl;rfl;rfl;exact hd3)|(apply OQ.not;rfl)|(apply OQ.c9;rfl;rfl)|(apply OQ.cq;rfl;rfl)|(apply OQ.move;rfl)|(apply OQ.bM;rfl;rfl;rfl;exact (by decide);rfl)) rfl ?_ | refine JC.seq ?_ | refine JC.region ?_ | refine JL.nil ?_ | refine JE.next ?_ | refine JL.aS rfl rfl ?_ | refine JL.fK rfl rfl rfl rfl ?_ | refine JL.IE rfl rfl rfl rfl ?_)
      refine JC.cond_true rfl rfl ?_
      repeat (first | refine JL.q (by (apply OQ.assign;rfl)) rfl ?_ | refine JC.seq ?_ | refine JC.region ?_ | refine JL.nil ?_ | refine JE.next ?_)
      refine JC.ret ?_
      repeat (refine JE.aF ?_)
      exact JE.aJ rfl (RV.tmp rfl) fun w' hw=>⟨⟨false,⟨nofun,fun h=>absurd h hno⟩⟩,rfl,hw.aM⟩
  · have hz0:=hiff.1 rfl
    clear hiff
    refine JC.mid (ι:=Unit) (fun _=>[(1,Pt b1 0)]) (fun _=>[⟨b1,Row 26 (iQ s k.v),true⟩]) (fun _=>True) ?_ ?_
    · cases t1 <;> cases t2 <;> cases d1 <;> cases d2 <;> cases d3
      all_goals first
        | (exact absurd hzb (by decide))
        | skip
      all_goals
        repeat (first | refine JL.q (by first|(apply OQ.load;exact fj;rfl;exact .here;exact hse)|(apply OQ.load;exact fj;rfl;exact .here;exact hta)|(apply OQ.af (cs:=s.send.map U8);exact aN;exact aB;rfl;exact .here;exact l4;exact (Row.cells (yc hs _)))|(apply OQ.af (cs:=s.take.map U8);exact aN;exact aB;rfl;exact .here;exact l5;exact (Row.cells (yd hs _)))|(apply OQ.af (cs:=s.other.map U8);exact aN;exact aB;rfl;exact .here;exact l3;exact (Row.cells (uV hs _)))|(apply OQ.LM)|(apply OQ.yf (q:=dz);exact hs.send;rfl;rfl;rfl;exact hd1)|(apply OQ.yf (q:=dz);exact hs.take;rfl;rfl;rfl;exact hd2)|(apply OQ.yf (q:=dz);exact hs.other;rfl;rfl;rfl;exact hd3)|(apply OQ.not;rfl)|(apply OQ.c9;rfl;rfl)|(apply OQ.cq;rfl;rfl)|(apply OQ.move;rfl)|(apply OQ.bM;rfl;rfl;rfl;exact (by decide);rfl)) rfl ?_ | refine JC.seq ?_ | refine JC.region ?_ | refine JL.nil ?_ | refine JE.next ?_ | refine JL.aS rfl rfl ?_ | refine JL.fK rfl rfl rfl rfl ?_)
        refine JC.cond_false rfl rfl ?_
        repeat (refine JC.skip ?_)
        exact JE.mid () trivial (by repeat (first | exact ai.nil | refine ai.cons _ _ _ rfl ?_)) (aq.refl _)
    rintro _ _
    repeat (first | refine JL.q (by (apply OQ.assign;rfl)) rfl ?_ | refine JC.seq ?_ | refine JC.region ?_ | refine JC.block ?_ | refine JL.nil ?_ | refine JE.next ?_)
    refine JC.loop (fun i : Nat=>[(1,Pt b1 0),(3,N i)]) (fun _=>[⟨b1,Row 26 (iQ s k.v),true⟩]) (fun i=>k.l.length - i) (fun i=>i≤k.l.length∧∀ j,j<i→tN (k.l.getD j eu).num∧∀ k',k'<j→¬ ((k.l.getD k' eu).num=(k.l.getD j eu).num∧(k.l.getD k' eu).chain=(k.l.getD j eu).chain)) 0 ⟨Nat.zero_le _,fun j hj=>absurd hj (Nat.not_lt_zero _)⟩ (by repeat (first | exact ai.nil | refine ai.cons _ _ _ rfl ?_)) (aq.refl _) ?_
    rintro i ⟨hi,hin⟩
    repeat (first | refine JL.q (by first|(apply OQ.load;exact fW;rfl;exact .here;exact hkp)|(apply OQ.len (k:=k.l.length) (ad:=k.ad) (cap:=k.cap);exact Tryz.underlying24;rfl)|(apply OQ.bP (a:=i) (b:=k.l.length);rfl;rfl)|(apply OQ.move;rfl)|(apply OQ.bM;rfl;rfl;rfl;exact (by decide);rfl)) rfl ?_ | refine JC.seq ?_ | refine JC.region ?_ | refine JL.nil ?_ | refine JE.next ?_)
    refine JC.cond rfl (fun hc=>?_) (fun hc=>?_)
    · have hi' : i<k.l.length:=of_decide_eq_true hc
      clear hc
      obtain ⟨ba,ja,eA,la,cA⟩:=hk.at hi'
      have hok:=hk.all _ (gO.mem hi')
      have vA : k.v=.slice (some ⟨ba,ja,none⟩) k.l.length k.cap:=by rw [← eA];rfl
      have hkp2 : ∀ o,Row 26 (iQ s k.v) o→cellAt o 165=some (.slice (some ⟨ba,ja,none⟩) k.l.length k.cap):=by rw [← vA];exact hkp
      have cN:=cA 32 _ (Bu hok)
      have cM:=fun w'=>pJ (k.l.getD i eu).num w'
      have iM:=pI (k.l.getD i eu).num
      have cC : ∀ m u,((k.l.getD i eu).chain.map U8)[m]?=some u→w.cell? ⟨ba,ja+i * 65+m,none⟩=some u:=fun m u hu=>by
        refine cA m u ?_
        have hm : m<((k.l.getD i eu).chain.map U8).length:=(List.getElem?_eq_some_iff.1 hu).1
        rw [CR,List.getElem?_append_left hm]
        exact hu
      have lC : ((k.l.getD i eu).chain.map U8).length=32:=by rw [List.length_map];exact hok.c
      obtain ⟨mm,hmm⟩ : ∃ m,pG (k.l.getD i eu).num=m:=⟨_,rfl⟩
      rw [hmm] at cM iM
      cases mm
      · have hno : ¬ fk s:=fun h=>by
          have:=h.num i (by rw [← he];exact hi')
          rw [← he] at this
          exact absurd (iM.2 this) (by decide)
        repeat (first | refine JL.q (by first|(apply OQ.load;exact fW;rfl;exact .here;exact hkp2)|(apply OQ.iI (i:=i) (len:=k.l.length) (cap:=k.cap) (b:=ba) (j:=ja);exact Tryz.underlying24;exact qi;rfl;rfl;exact hi')|(apply OQ.bE;exact aR;rfl;exact la;exact (by simp);exact cN)|(apply OQ.au (vs:=[I (k.l.getD i eu).num]);exact dy;rfl;exact (fun w' _=>cM w'))|(apply OQ.not;rfl)|(apply OQ.move;rfl)|(apply OQ.bM;rfl;rfl;rfl;exact (by decide);rfl)) rfl ?_ | refine JC.seq ?_ | refine JC.region ?_ | refine JC.block ?_ | refine JC.skip ?_ | refine JL.nil ?_ | refine JE.next ?_)
        refine JC.cond_true rfl rfl ?_
        repeat (first | refine JL.q (by (apply OQ.assign;rfl)) rfl ?_ | refine JC.seq ?_ | refine JC.region ?_ | refine JL.nil ?_ | refine JE.next ?_)
        refine JC.ret ?_
        repeat (first | refine JE.aF ?_ | refine JE.mK ?_)
        exact JE.aJ rfl (RV.tmp rfl) fun w' hw=>⟨⟨false,⟨nofun,fun h=>absurd h hno⟩⟩,rfl,hw.aM⟩
      have hmz:=iM.1 rfl
      repeat (first | refine JL.q (by first|(apply OQ.load;exact fW;rfl;exact .here;exact hkp2)|(apply OQ.iI (i:=i) (len:=k.l.length) (cap:=k.cap) (b:=ba) (j:=ja);exact Tryz.underlying24;exact qi;rfl;rfl;exact hi')|(apply OQ.bE;exact aR;rfl;exact la;exact (by simp);exact cN)|(apply OQ.au (vs:=[I (k.l.getD i eu).num]);exact dy;rfl;exact (fun w' _=>cM w'))|(apply OQ.not;rfl)|(apply OQ.move;rfl)|(apply OQ.bM;rfl;rfl;rfl;exact (by decide);rfl)) rfl ?_ | refine JC.seq ?_ | refine JC.region ?_ | refine JC.block ?_ | refine JC.skip ?_ | refine JL.nil ?_ | refine JE.next ?_)
      refine JC.cond_false rfl rfl ?_
      repeat (first | refine JL.q (by (apply OQ.assign;rfl)) rfl ?_ | refine JC.seq ?_ | refine JC.region ?_ | refine JC.block ?_ | refine JC.skip ?_ | refine JL.nil ?_ | refine JE.next ?_)
      refine JC.loop (fun j : Nat=>[(1,Pt b1 0),(3,N i),(4,N j)]) (fun _=>[⟨b1,Row 26 (iQ s k.v),true⟩]) (fun j=>i - j) (fun j=>j≤i∧∀ k',k'<j→¬ ((k.l.getD k' eu).num=(k.l.getD i eu).num∧(k.l.getD k' eu).chain=(k.l.getD i eu).chain)) 0 ⟨Nat.zero_le _,fun j hj=>absurd hj (Nat.not_lt_zero _)⟩ (by repeat (first | exact ai.nil | refine ai.cons _ _ _ rfl ?_)) (aq.refl _) ?_
      rintro j ⟨hj,hjn⟩
      repeat (first | refine JL.q (by first|(apply OQ.bP (a:=j) (b:=i);rfl;rfl)|(apply OQ.move;rfl)) rfl ?_ | refine JC.seq ?_ | refine JC.region ?_ | refine JL.nil ?_ | refine JE.next ?_)
      refine JC.cond rfl (fun hc=>?_) (fun hc=>?_)
      · have hj' : j<i:=of_decide_eq_true hc
        clear hc
        have hj2 : j<k.l.length:=by omega
        obtain ⟨bb,jb,eB,lb,cB⟩:=hk.at hj2
        have hokb:=hk.all _ (gO.mem hj2)
        obtain ⟨rfl,rfl⟩ : bb=ba∧jb=ja:=by rw [eA] at eB;cases eB;exact ⟨rfl,rfl⟩
        have cNb:=cB 32 _ (Bu hokb)
        have cCb : ∀ m u,((k.l.getD j eu).chain.map U8)[m]?=some u→w.cell? ⟨bb,jb+j * 65+m,none⟩=some u:=fun m u hu=>by
          refine cB m u ?_
          have hm : m<((k.l.getD j eu).chain.map U8).length:=(List.getElem?_eq_some_iff.1 hu).1
          rw [CR,List.getElem?_append_left hm]
          exact hu
        have lCb : ((k.l.getD j eu).chain.map U8).length=32:=by rw [List.length_map];exact hokb.c
        obtain ⟨e1,he1⟩ : ∃ e,decide ((k.l.getD j eu).num=(k.l.getD i eu).num)=e:=⟨_,rfl⟩
        obtain ⟨e2,he2⟩ : ∃ e,decide ((k.l.getD j eu).chain=(k.l.getD i eu).chain)=e:=⟨_,rfl⟩
        have hone : (e1 && e2)=true→¬ fk s:=fun h hr=>by
          rw [Bool.and_eq_true] at h
          obtain ⟨rfl,rfl⟩:=h
          have:=hr.one i (by rw [← he];exact hi') j hj'
          rw [← he] at this
          exact this ⟨of_decide_eq_true he1,of_decide_eq_true he2⟩
        have hnot : (e1 && e2)=false→¬ ((k.l.getD j eu).num=(k.l.getD i eu).num∧(k.l.getD j eu).chain=(k.l.getD i eu).chain):=fun h hr=>by
          rw [← he1,← he2,decide_eq_true hr.1,decide_eq_true hr.2] at h
          cases h
        generalize hnj : (k.l.getD j eu).num=nj at *
        generalize hcj : (k.l.getD j eu).chain=cj at *
        have hcl:=hokb.c
        rw [hcj] at hcl
        refine JC.skip (JE.next ?_)
        refine JC.seq (JC.block ?_)
        refine JC.seq ?_
        refine JC.quiet gm (by kernel_rfl) ?_
        cases e1
        case' true=>cases e2
        case true.true=>
          have hno:=hone rfl
          repeat (first | refine JQ.q (by first|(apply OQ.load;exact fW;rfl;exact .here;exact hkp2)|(apply OQ.iI (i:=j) (len:=k.l.length) (cap:=k.cap) (b:=bb) (j:=jb);exact Tryz.underlying24;exact qi;rfl;rfl;exact hj2)|(apply OQ.iI (i:=i) (len:=k.l.length) (cap:=k.cap) (b:=bb) (j:=jb);exact Tryz.underlying24;exact qi;rfl;rfl;exact hi')|(apply OQ.bE;exact aR;rfl;exact lb;exact (by simp);exact cNb)|(apply OQ.bE;exact aR;rfl;exact la;exact (by simp);exact cN)|(apply OQ.bO (cs:=cj.map U8);exact aN;rfl;exact (lCb ▸ aB);exact lb;exact (by simp);exact cCb)|(apply OQ.bO (cs:=(k.l.getD i eu).chain.map U8);exact aN;rfl;exact (lC ▸ aB);exact la;exact (by simp);exact cC)|(apply OQ.FI;rfl;rfl;exact he1)|(apply OQ.Hq;exact hcl;exact hok.c;rfl;rfl;exact he2)|(apply OQ.c9;rfl;rfl)|(apply OQ.move;rfl)|(apply OQ.bM;rfl;rfl;rfl;exact (by decide);rfl)) rfl ?_ | refine JQ.nil ?_ | refine JE.next ?_ | refine JQ.aS rfl rfl ?_)
          refine JC.cond_true rfl rfl ?_
          repeat (first | refine JL.q (by (apply OQ.assign;rfl)) rfl ?_ | refine JC.seq ?_ | refine JC.region ?_ | refine JL.nil ?_ | refine JE.next ?_)
          refine JC.ret ?_
          repeat (first | refine JE.aF ?_ | refine JE.mK ?_)
          exact JE.aJ rfl (RV.tmp rfl) fun w' hw=>⟨⟨false,⟨nofun,fun h=>absurd h hno⟩⟩,rfl,hw.aM⟩
        all_goals
          have hn:=hnot rfl
          repeat (first | refine JQ.q (by first|(apply OQ.load;exact fW;rfl;exact .here;exact hkp2)|(apply OQ.iI (i:=j) (len:=k.l.length) (cap:=k.cap) (b:=bb) (j:=jb);exact Tryz.underlying24;exact qi;rfl;rfl;exact hj2)|(apply OQ.iI (i:=i) (len:=k.l.length) (cap:=k.cap) (b:=bb) (j:=jb);exact Tryz.underlying24;exact qi;rfl;rfl;exact hi')|(apply OQ.bE;exact aR;rfl;exact lb;exact (by simp);exact cNb)|(apply OQ.bE;exact aR;rfl;exact la;exact (by simp);exact cN)|(apply OQ.bO (cs:=cj.map U8);exact aN;rfl;exact (lCb ▸ aB);exact lb;exact (by simp);exact cCb)|(apply OQ.bO (cs:=(k.l.getD i eu).chain.map U8);exact aN;rfl;exact (lC ▸ aB);exact la;exact (by simp);exact cC)|(apply OQ.FI;rfl;rfl;exact he1)|(apply OQ.Hq;exact hcl;exact hok.c;rfl;rfl;exact he2)|(apply OQ.c9;rfl;rfl)|(apply OQ.cq;rfl;rfl)|(apply OQ.move;rfl)|(apply OQ.bM;rfl;rfl;rfl;exact (by decide);rfl)) rfl ?_ | refine JQ.nil ?_ | refine JE.next ?_ | refine JQ.aS rfl rfl ?_ | refine JQ.fK rfl rfl rfl rfl ?_)
          refine JC.cond_false rfl rfl ?_
          repeat (first | refine JL.q (by first|(apply OQ.aZ (a:=j) (b:=1);rfl;rfl;exact (by have hjx:=hj2;have hjr:=r4;rw [he] at hjx;omega))|(apply OQ.move;rfl)|(apply OQ.assign;rfl)) rfl ?_ | refine JC.region ?_ | refine JC.skip ?_ | refine JL.nil ?_ | refine JE.next ?_ | refine JE.an ?_)
          refine JE.again (i:=j) (j+1) ⟨by omega,fun k' hk'=>?_⟩ (by omega) (by repeat (first | exact ai.nil | refine ai.cons _ _ _ rfl ?_)) (aq.refl _)
          by_cases e : k'=j
          · rw [e]
            rw [hnj,hcj]
            exact hn
          · exact hjn k' (by omega)
      · have hj' : j=i:=by have:=of_decide_eq_false hc;omega
        subst hj'
        clear hc
        repeat (first | refine JL.q (by first|(apply OQ.aZ (a:=j) (b:=1);rfl;rfl;exact (by have hjx:=hi';have hjr:=r4;rw [he] at hjx;omega))|(apply OQ.move;rfl)|(apply OQ.assign;rfl)) rfl ?_ | refine JC.region ?_ | refine JC.exit ?_ | refine JL.nil ?_ | refine JE.next ?_ | refine JE.an ?_ | refine JE.ax ?_ | refine JE.aA ?_)
        refine JE.again (i:=j) (j+1) ⟨hi',fun j2 hj2=>?_⟩ (by omega) (by repeat (first | exact ai.nil | refine ai.cons _ _ _ rfl ?_)) (aq.refl _)
        by_cases e : j2=j
        · subst e
          exact ⟨hmz,hjn⟩
        · exact hin j2 (by omega)
    · have hi' : i=k.l.length:=by have:=of_decide_eq_false hc;omega
      subst hi'
      clear hc
      have hyes : fk s:=⟨r1,r2,r3,r4,hz0.1,hz0.2.1,hz0.2.2,fun i hi=>by rw [← he] at hi ⊢;exact (hin i hi).1,fun i hi k' hk'=>by rw [← he] at hi ⊢;exact (hin i hi).2 k' hk'⟩
      repeat (first | refine JL.q (by (apply OQ.assign;rfl)) rfl ?_ | refine JC.seq ?_ | refine JC.region ?_ | refine JC.exit ?_ | refine JL.nil ?_ | refine JE.next ?_ | refine JE.ax ?_ | refine JE.aA ?_)
      refine JC.ret ?_
      skip
      exact JE.aJ rfl (RV.tmp rfl) fun w' hw=>⟨⟨true,⟨fun _=>hyes,fun _=>rfl⟩⟩,rfl,hw.aM⟩
theorem lq : aI Tryz.prog 7:=⟨_,Tryz.func7,rfl,by kernel_rfl⟩
set_option maxHeartbeats 8000000 in
theorem yg (s : nS) (k : gO) (hs : s.ok) (he : k.l=s.kept) (side p : aO) (w : World) : ∃ g : Bool,(g=false→s.kept.length≤100∧side.l.length≤500∧p.l.length≤1000)∧∀ w0,Calls Tryz.prog 7 [.agg (iQ s k.v).toArray,side.v,p.v].toArray w0 fun e w'=>e=.returned (.bool g)∧Ext w0 w':=by
  obtain ⟨g1,hg1⟩ : ∃ g,decide ((100 : Int)<((k.l.length : Nat) : Int))=g:=⟨_,rfl⟩
  obtain ⟨g2,hg2⟩ : ∃ g,decide ((500 : Int)<((side.l.length : Nat) : Int))=g:=⟨_,rfl⟩
  obtain ⟨g3,hg3⟩ : ∃ g,decide ((1000 : Int)<((p.l.length : Nat) : Int))=g:=⟨_,rfl⟩
  refine ⟨g1 || (g2 || g3),fun h=>?_,fun w0=>?_⟩
  · simp only [Bool.or_eq_false_iff] at h
    obtain ⟨rfl,rfl,rfl⟩:=h
    have:=of_decide_eq_false hg1
    have:=of_decide_eq_false hg2
    have:=of_decide_eq_false hg3
    rw [he] at *
    omega
  · refine enter (n:=21) Tryz.func7 rfl rfl rfl (ah.start w0 []) ?_
    repeat (first | refine JC.seq ?_ | refine JC.region ?_)
    refine JL.box (r:=iQ s k.v) rfl rfl rfl fun b3 _=>?_
    have hkp : ∀ o,Row 26 (iQ s k.v) o→cellAt o 165=some k.v:=Row.cell (ye hs _)
    cases g1
    case' false=>cases g2
    all_goals
      repeat (first | refine JL.q (by first|(apply OQ.load;exact fW;rfl;exact .here;exact hkp)|(apply OQ.len (k:=k.l.length) (ad:=k.ad) (cap:=k.cap);exact Tryz.underlying24;rfl)|(apply OQ.m9 (b:=100);rfl;rfl;exact hg1)|(apply OQ.len (k:=side.l.length) (ad:=side.ad) (cap:=side.cap);exact Tryz.underlying27;rfl)|(apply OQ.m9 (b:=500);rfl;rfl;exact hg2)|(apply OQ.len (k:=p.l.length) (ad:=p.ad) (cap:=p.cap);exact Tryz.underlying27;rfl)|(apply OQ.m9 (b:=1000);rfl;rfl;exact hg3)|(apply OQ.c9;rfl;rfl)|(apply OQ.cq;rfl;rfl)|(apply OQ.move;rfl)|(apply OQ.assign;rfl)|(apply OQ.bM;rfl;rfl;rfl;exact (by decide);rfl)) rfl ?_ | refine JC.seq ?_ | refine JC.region ?_ | refine JL.nil ?_ | refine JE.next ?_ | refine JL.aS rfl rfl ?_ | refine JL.fK rfl rfl rfl rfl ?_)
      exact JC.ret (JE.aJ rfl (RV.tmp rfl) fun w' hw=>⟨by simp only [Bool.false_or,Bool.true_or],hw.aM⟩)
end
section
set_option maxRecDepth 10000
open Sl iB mO dZ n5
open qG (Bk)
theorem yh (s : bu) (k : lO) (hs : s.ok) (he : k.l=s.kept) (hk0 : s.kept.length≤1000000) (hst : s.sent≤2147483648) (hpv : s.prev≤2147483648) (side p : aO) (hsl : side.l.length≤1000000) (hpl : p.l.length≤1000000) (w : World) (hG : iE w) (hQ : GQ w) (hk : k.ok w) (hside : side.ok w) (hp : p.ok w) :
    Calls Tryz.prog 18 [.agg (sec s k.v).toArray,side.v,p.v].toArray w fun e w'=>∃ r : LS (kn s side.l p.l),e=.returned (.tuple #[.agg (sec (kn s side.l p.l).1 (aC r.q (kn s side.l p.l).1.kept.length)).toArray,aC r.x (kn s side.l p.l).2.1.length,N (kn s side.l p.l).2.2])∧ah w [] [] w':=
  (Fv s k hs he hk0 hst hpv side p hsl hpl w hG hQ hk hside hp).mono fun _ _ ⟨r,e,h⟩=>⟨r,e,h.weak (aq.nil _)⟩
def FA : lO:=⟨none,0,[]⟩
theorem yj (w : World) : FA.ok w:=⟨Nat.le_refl _,Reads.nil _ _,nofun⟩
def tj : Bk:=5::List.replicate 31 0
def m8 : Bk:=1::List.replicate 31 0
theorem tO : aI Tryz.prog 6:=⟨_,Tryz.func6,rfl,by kernel_rfl⟩
set_option maxHeartbeats 16000000 in
theorem wk (w : World) (hG : iE w) (hQ : GQ w) : Calls Tryz.prog 6 ([] : List Value).toArray w fun e w'=>e=.returned (.bool true)∧Ext w w':=by
  have c1:=fun w'=>E2 m8 rfl w'
  have hY : (aP m8 (qJ 9)).length=32:=jh _
  generalize aP m8 (qJ 9)=Y at c1 hY
  have c2:=fun w'=>Ac tj m8 Y rfl rfl hY w'
  have c3:=fun (w' : World) (h1 : iE w')=>CP tj m8 Y Y rfl rfl hY hY w' h1
  have s2:=sI tj m8 rfl rfl
  have s1:=uJ tj m8 Y rfl hY
  have e2 : kn (ia tj m8) [] []=(ia tj m8,[],13):=Fu rfl _ _
  have e1 : kn (iG tj m8 Y) [] [1]=(zQ (iG tj m8 Y),zR (iG tj m8 Y) [] [1],0):=Bp rfl (by show ¬ 2147483647≤0;decide) _ _
  have hl1 : (zR (iG tj m8 Y) [] [1]).length=73:=by
    rw [zR,List.length_append,oM (show (vY (iG tj m8 Y)).chain.length=32 from sH _)]
    show 40+(qA _ _ xP _ _).length=73
    rw [oU]
    rfl
  have s3:=A8 s1
  have d2:=fun (w' : World) (h1 : iE w') (h2 : GQ w')=>yh (ia tj m8) FA s2 rfl (by show (0 : Nat)≤_;decide) (by show (0 : Nat)≤_;decide) (by show (0 : Nat)≤_;decide) jm jm (by show (0 : Nat)≤_;decide) (by show (0 : Nat)≤_;decide) w' h1 h2 (yj _) (mL _) (mL _)
  have d1:=fun (b : Nat) (w' : World) (h1 : iE w') (h2 : GQ w') (h3 : aO.ok w' ⟨some ⟨b,0,none⟩,1,[1]⟩)=>yh (iG tj m8 Y) FA s1 rfl (by show (0 : Nat)≤_;decide) (by show (0 : Nat)≤_;decide) (by show (0 : Nat)≤_;decide) jm ⟨some ⟨b,0,none⟩,1,[1]⟩ (by show (0 : Nat)≤_;decide) (by show (1 : Nat)≤_;decide) w' h1 h2 (yj _) (mL _) h3
  have n2:=fun (v : Value)=>ay s2 v
  have n3:=fun (v : Value)=>ay s3 v
  have n1:=ay s1 bw
  have i1:=Lt (a:=m8) (b:=Y) rfl
  have lY : (Y.map U8).length=32:=by rw [List.length_map,hY]
  rw [show jm.l=[] from rfl,e2] at d2
  dsimp only at d1
  rw [show jm.l=[] from rfl,e1] at d1
  clear e1 e2
  have k2 : (ia tj m8).kept.length=0:=rfl
  have k3 : (zQ (iG tj m8 Y)).kept.length=0:=rfl
  simp only [k2] at d2
  simp only [k3,hl1] at d1
  generalize ia tj m8=S2 at *
  generalize zQ (iG tj m8 Y)=S3 at *
  generalize iG tj m8 Y=S1 at *
  generalize zR S1 [] [1]=Z at *
  refine enter (n:=47) Tryz.func6 rfl rfl rfl (ah.start w []) ?_
  repeat (first | refine JL.q (by (apply OQ.assign;rfl)) rfl ?_ | refine JC.seq ?_ | refine JC.region ?_ | refine JL.nil ?_ | refine JE.next ?_)
  refine JL.q (OQ.pure (v:=.agg (m8.map U8).toArray) rfl rfl (by kernel_rfl)) rfl ?_
  repeat (refine JL.q (by (apply OQ.au (vs:=[.agg (m8.map U8).toArray]);exact Cv;rfl;exact (fun w' _=>c1 w'))) rfl ?_)
  refine JL.alloc Ls rfl fun b1 _=>?_
  refine JL.ag (cs:=(m8++Y).map U8) Cu rfl rfl (by rw [List.length_map,List.length_append,hY];rfl) (aX _) .here rfl ?_
  repeat (first | refine JC.seq ?_ | refine JC.region ?_ | refine JL.nil ?_ | refine JE.next ?_)
  refine JL.q (OQ.pure (v:=.agg (tj.map U8).toArray) rfl rfl (by kernel_rfl)) rfl ?_
  have lP : ((m8++Y).map U8).length=64:=by rw [List.length_map,List.length_append,hY];rfl
  repeat (refine JL.q (by first|(apply OQ.af (cs:=(m8++Y).map U8);exact GX;exact Cu;rfl;exact .here;exact lP;exact Row.all)|(apply OQ.au (vs:=[.agg (tj.map U8).toArray,.agg ((m8++Y).map U8).toArray]);exact x8;rfl;exact (fun w' _=>c2 w'))) rfl ?_)
  refine JL.alloc xU rfl fun b2 _=>?_
  refine JL.ag (cs:=sec S2 bw) dQ rfl rfl (n2 _) (bD rfl) .here (ay bC _) ?_
  repeat (first | refine JL.q (by (apply OQ.af (cs:=sec S2 bw);exact gL;exact dQ;rfl;exact .here;exact (n2 _);exact Row.all)) rfl ?_ | refine JC.seq ?_ | refine JC.region ?_ | refine JL.nil ?_ | refine JE.next ?_)
  refine JL.bY (ι:=LS (S2,[],13)) (vs:=[.agg (sec S2 bw).toArray,jm.v,jm.v]) (fun r=>.tuple #[.agg (sec S2 (aC r.q 0)).toArray,aC r.x 0,N 13]) (fun _=>[]) uS rfl rfl (fun _=>nofun) (fun w' hw'=>d2 w' (hG.aM hw'.aM (by simp)) (hQ.aM hw'.aM (by simp))) ?_
  rintro ⟨q2,x2,_,_⟩
  try dsimp only
  simp only [List.nil_append]
  obtain ⟨v2,hv2,hvo2⟩ : ∃ v,aC q2 0=v∧v.oneCell'=true:=⟨_,rfl,by cases q2 <;> rfl⟩
  rw [hv2]
  repeat (refine JL.q (by first|(apply OQ.extract;rfl;rfl)|(apply OQ.move;rfl)) rfl ?_)
  refine JL.alloc xU rfl fun b3 _=>?_
  refine JL.ag (cs:=sec S2 v2) dQ rfl rfl (n2 _) (bD hvo2) .here (ay bC _) ?_
  repeat (first | refine JL.q (by (apply OQ.assign;rfl)) rfl ?_ | refine JC.seq ?_ | refine JC.region ?_ | refine JL.nil ?_ | refine JE.next ?_)
  refine JL.q (OQ.pure (v:=.agg (tj.map U8).toArray) rfl rfl (by kernel_rfl)) rfl ?_
  repeat (refine JL.q (by first|(apply OQ.af (cs:=(m8++Y).map U8);exact GX;exact Cu;rfl;exact (.there (.there .here));exact lP;exact Row.all)|(apply OQ.af (cs:=Y.map U8);exact aN;exact aB;rfl;exact (.there (.there .here));exact lY;exact (Row.cells i1))|(apply OQ.au (vs:=[.agg (tj.map U8).toArray,.agg ((m8++Y).map U8).toArray,.agg (Y.map U8).toArray]);exact Ab;rfl;exact (fun w' hw'=>c3 w' (hG.aM hw'.aM (by simp))))|(apply OQ.bM;rfl;rfl;rfl;exact (by decide);rfl)) rfl ?_)
  refine JL.fL (v:=U8 (1 : BitVec 8)) Tryz.underlying27 uh rfl rfl rfl rfl fun bl _=>?_
  refine JL.bY (ι:=LS (S3,Z,0)) (vs:=[.agg (sec S1 bw).toArray,jm.v,.slice (some ⟨bl,0,none⟩) 1 1]) (fun r=>.tuple #[.agg (sec S3 (aC r.q 0)).toArray,aC r.x 73,N 0]) (fun _=>[]) uS rfl rfl (fun _=>nofun) (fun w' hw'=>d1 bl w' (hG.aM hw'.aM (by simp)) (hQ.aM hw'.aM (by simp)) (fS (l:=[1]) hw' .here rfl (Nat.le_refl _))) ?_
  rintro ⟨q3,x3,_,hx3⟩
  try dsimp only
  simp only [List.nil_append]
  obtain ⟨v3,hv3,hvo3⟩ : ∃ v,aC q3 0=v∧v.oneCell'=true:=⟨_,rfl,by cases q3 <;> rfl⟩
  rw [hv3]
  obtain ⟨a2,c2',hy2⟩ : ∃ a c,aC x2 0=.slice a 0 c:=by cases x2 <;> exact ⟨_,_,rfl⟩
  obtain ⟨a3,c3',hy3⟩ : ∃ a c,aC x3 73=.slice a 73 c:=by
    cases x3 with
    | none=>exact absurd (hx3 rfl) (fun h=>by have h' : Z=[]:=h;rw [h'] at hl1;cases hl1)
    | some r=>exact ⟨_,_,rfl⟩
  rw [hy2,hy3]
  repeat (refine JL.q (by first|(apply OQ.extract;rfl;rfl)|(apply OQ.move;rfl)) rfl ?_)
  refine JL.alloc xU rfl fun b6 _=>?_
  refine JL.ag (cs:=sec S3 v3) dQ rfl rfl (n3 _) (bD hvo3) .here (ay bC _) ?_
  repeat (first | refine JL.q (by first|(apply OQ.HF;rfl;rfl;rfl)|(apply OQ.len (k:=0);exact Tryz.underlying27;rfl)|(apply OQ.len (k:=73);exact Tryz.underlying27;rfl)|(apply OQ.c9;rfl;rfl)|(apply OQ.move;rfl)|(apply OQ.assign;rfl)) rfl ?_ | refine JC.seq ?_ | refine JC.region ?_ | refine JL.nil ?_ | refine JE.next ?_ | refine JL.aS rfl rfl ?_)
  exact JC.ret (JE.aJ rfl (RV.tmp rfl) fun w' hw=>⟨rfl,hw.aM⟩)
end
section
set_option maxRecDepth 10000
open Sl iB mO dZ n5
open qG (Bk)
theorem Iu (a b c d : BitVec 8) : iH.dm [a,b,c,d]=16777216 * a.toNat+65536 * b.toNat+256 * c.toNat+d.toNat:=by
  simp only [iH.dm,List.foldl]
  omega
theorem ta : aI Tryz.prog 24:=⟨_,Tryz.func24,rfl,by kernel_rfl⟩
set_option maxHeartbeats 8000000 in
theorem uW (s : aO) (h4 : s.l.length=4) (w : World) (hs : s.ok w) : Calls Tryz.prog 24 [s.v].toArray w fun e w'=>e=.returned (N (iH.dm s.l))∧Ext w w':=by
  obtain ⟨b,j,eA,cA⟩:=hs.reads.at (by rw [List.length_map];omega)
  obtain ⟨ad,cap,l⟩:=s
  dsimp only at h4 eA cA
  subst eA
  match l,h4 with
  | [a0,a1,a2,a3],_=>
  have g0:=cA 0 _ rfl
  have g1:=cA 1 _ rfl
  have g2:=cA 2 _ rfl
  have g3:=cA 3 _ rfl
  have hb : b<w.heap.size:=block_lt_of_cell g0
  have b0:=a0.isLt
  have b1:=a1.isLt
  have b2:=a2.isLt
  have b3:=a3.isLt
  rw [Iu]
  refine enter (n:=25) Tryz.func24 rfl rfl rfl (ah.start w []) ?_
  repeat (first | refine JL.q (by (apply OQ.assign;rfl)) rfl ?_ | refine JC.seq ?_ | refine JC.region ?_ | refine JL.nil ?_ | refine JE.next ?_)
  refine JC.quiet gm (by kernel_rfl) ?_
  repeat (first | refine JQ.q (by first|(apply OQ.ig (i:=0) (len:=4) (cap:=cap) (b:=b) (j:=j);exact Tryz.underlying27;exact lH;rfl;rfl;exact (by decide))|(apply OQ.ig (i:=1) (len:=4) (cap:=cap) (b:=b) (j:=j);exact Tryz.underlying27;exact lH;rfl;rfl;exact (by decide))|(apply OQ.ig (i:=2) (len:=4) (cap:=cap) (b:=b) (j:=j);exact Tryz.underlying27;exact lH;rfl;rfl;exact (by decide))|(apply OQ.ig (i:=3) (len:=4) (cap:=cap) (b:=b) (j:=j);exact Tryz.underlying27;exact lH;rfl;rfl;exact (by decide))|(apply OQ.bE;exact HJ;rfl;exact hb;exact (by simp);exact g0)|(apply OQ.bE;exact HJ;rfl;exact hb;exact (by simp);exact g1)|(apply OQ.bE;exact HJ;rfl;exact hb;exact (by simp);exact g2)|(apply OQ.bE;exact HJ;rfl;exact hb;exact (by simp);exact g3)|(apply OQ.Aq;exact Tryz.underlying5;exact Tryz.underlying3;rfl)|(apply OQ.iW (a:=16777216) (b:=a0.toNat);rfl;rfl;exact (by omega))|(apply OQ.iW (a:=65536) (b:=a1.toNat);rfl;rfl;exact (by omega))|(apply OQ.iW (a:=256) (b:=a2.toNat);rfl;rfl;exact (by omega))|(apply OQ.move;rfl)|(apply OQ.assign;rfl)|(apply OQ.aZ;rfl;rfl;exact (by (try simp only []);omega))) rfl ?_ | refine JQ.nil ?_ | refine JE.next ?_)
  refine JC.ret (JE.aJ rfl (RV.tmp rfl) ?_)
  exact fun w' hw=>⟨rfl,hw.aM⟩
theorem Iv {s : aO} {lo k hi : Nat} (h : hi≤s.l.length) (hk : lo+k=hi) : aO.v ⟨(s.snd lo).ad,(s.snd lo).cap,(s.l.drop lo).take k⟩=.slice (if s.cap=lo then s.ad else s.ad.map (·.add (lo * 1))) (hi - lo) (s.cap - lo):=by
  show Value.slice _ ((s.l.drop lo).take k).length _=_
  rw [List.length_take,List.length_drop,Nat.min_eq_left (by omega),show hi - lo=k by omega]
  rfl
theorem FB {s : aO} {w : World} (h : s.ok w) {lo k : Nat} (hl : lo≤s.l.length) : aO.ok w ⟨(s.snd lo).ad,(s.snd lo).cap,(s.l.drop lo).take k⟩:=by
  have h1:=h.snd lo hl
  refine ⟨Nat.le_trans (by show ((s.l.drop lo).take k).length≤(s.l.drop lo).length;rw [List.length_take];omega) h1.len,fun i v hv=>h1.reads i v ?_⟩
  rw [List.map_take,List.getElem?_take] at hv
  split at hv
  · exact hv
  · cases hv
theorem CV (p m : Nat) : Tryz.prog.built 32 ([1,2].zip [N p,N m])=some (hdc ⟨dz,p,m⟩).toArray:=by
  have h : Tryz.prog.built 32 ([1,2].zip [N p,N m])=Instr.fill (fun i=>#[(0,32),(32,1),(33,1)][i]?) (hdc bQ).toArray [(1,N p),(2,N m)]:=by kernel_rfl
  rw [h,dL (off:=32) (sz:=1) (cs:=[N p]) rfl rfl rfl (by simp [hdc,bQ,dz]),dL (off:=33) (sz:=1) (cs:=[N m]) rfl rfl rfl (by simp [hdc,bQ,dz])]
  rfl
def CW (z : Bk) (i : Nat) : Bk:=z.take i++List.replicate (32 - i) 0
theorem Bv {z : Bk} {i : Nat} (hz : 32≤z.length) (hi : i≤32) : (CW z i).length=32:=by
  unfold CW
  rw [List.length_append,List.length_take,List.length_replicate,Nat.min_eq_left (by omega)]
  omega
theorem Hr {z : Bk} {i : Nat} (hz : 32≤z.length) (hi : i<32) (p m : Nat) : (hdc ⟨CW z i,p,m⟩).set (0+i) (U8 (z.getD i 0))=hdc ⟨CW z (i+1),p,m⟩:=by
  have hl:=Bv hz (Nat.le_of_lt hi)
  have e : (CW z i).set i (z.getD i 0)=CW z (i+1):=by
    unfold CW
    have h1 : (z.take i).length=i:=by rw [List.length_take,Nat.min_eq_left (by omega)]
    rw [show 32 - i=(32 - (i+1))+1 by omega,List.replicate_succ,List.set_append_right _ _ (by omega),h1,Nat.sub_self,List.set_cons_zero,List.take_add_one,List.getElem?_eq_getElem (by omega),List.getD_eq_getElem?_getD,List.getElem?_eq_getElem (by omega)]
    simp only [Option.getD_some,Option.toList_some,List.append_assoc,List.singleton_append,List.cons_append,List.nil_append]
  unfold hdc
  dsimp only
  rw [Nat.zero_add,List.set_append_left _ _ (by rw [List.length_map,hl];exact hi),← e,List.map_set]
theorem tc : aI Tryz.prog 10:=⟨_,Tryz.func10,rfl,by kernel_rfl⟩
set_option maxHeartbeats 16000000 in
theorem uX (z : aO) (w : World) (hz : z.ok w) (hl : z.l.length≤1000000) :
    Calls Tryz.prog 10 [z.v].toArray w fun e w'=>∃ q : tL (c6 z.l),e=.returned (.tuple #[.agg (hdc (dV z.l)).toArray,aC q.1 (c6 z.l).length,N (er z.l)])∧ah w [] (bS 5 q.1 ((c6 z.l).map U8)) w':=by
  have hz34 : (hdc bQ).length=34:=rfl
  refine enter (n:=43) Tryz.func10 rfl rfl rfl (ah.start w []) ?_
  repeat (first | refine JC.seq ?_ | refine JC.region ?_)
  refine JL.alloc G1 rfl fun b2 _=>?_
  by_cases h40 : z.l.length<40
  · have hv : dU z.l=none:=by rw [dU,if_pos h40]
    have e1 : dV z.l=bQ:=by rw [dV,hv]
    have e2 : c6 z.l=[]:=by rw [c6,hv]
    have e3 : er z.l=3:=by rw [er,hv]
    rw [e1,e2,e3]
    repeat (first | refine JL.q (by first|(apply OQ.len (k:=z.l.length) (ad:=z.ad) (cap:=z.cap);exact Tryz.underlying27;rfl)|(apply OQ.iz (a:=z.l.length) (b:=40);rfl;rfl;exact h40)|(apply OQ.move;rfl)|(apply OQ.assign;rfl)) rfl ?_ | refine JC.seq ?_ | refine JC.region ?_ | refine JL.nil ?_ | refine JE.next ?_)
    refine JC.cond_true rfl rfl ?_
    repeat (first | refine JC.seq ?_ | refine JC.region ?_)
    refine JL.q (OQ.pure (v:=.agg (hdc bQ).toArray) rfl rfl (by kernel_rfl)) rfl ?_
    refine JL.ag (cs:=hdc bQ) oy rfl rfl hz34 (eH _) .here hz34 ?_
    repeat (first | refine JL.q (by (apply OQ.assign;rfl)) rfl ?_ | refine JL.nil ?_ | refine JE.next ?_)
    refine JC.ret ?_
    repeat (refine JE.aF ?_)
    exact JE.jU rfl (RV.av zV oy rfl .here hz34 Row.all) (RV.tmp rfl) (RV.tmp rfl) fun w' hw=>⟨⟨none,fun _=>rfl⟩,rfl,hw.weak (.nil _)⟩
  repeat (first | refine JL.q (by first|(apply OQ.len (k:=z.l.length) (ad:=z.ad) (cap:=z.cap);exact Tryz.underlying27;rfl)|(apply OQ.gP (a:=z.l.length) (b:=40);rfl;rfl;exact h40)|(apply OQ.move;rfl)|(apply OQ.assign;rfl)) rfl ?_ | refine JC.seq ?_ | refine JC.region ?_ | refine JL.nil ?_ | refine JE.next ?_)
  refine JC.cond_false rfl rfl ?_
  repeat (first | refine JC.seq ?_ | refine JC.skip ?_ | refine JE.next ?_)
  have v1:=Iv (s:=z) (lo:=32) (k:=4) (hi:=36) (by omega) rfl
  have v2:=Iv (s:=z) (lo:=36) (k:=4) (hi:=40) (by omega) rfl
  have o1:=fun (w' : World) (h : z.ok w')=>FB h (lo:=32) (k:=4) (by omega)
  have o2:=fun (w' : World) (h : z.ok w')=>FB h (lo:=36) (k:=4) (by omega)
  have c1:=fun (w' : World) (h : z.ok w')=>uW _ (by show ((z.l.drop 32).take 4).length=4;rw [List.length_take,List.length_drop];omega) w' (o1 w' h)
  have c2:=fun (w' : World) (h : z.ok w')=>uW _ (by show ((z.l.drop 36).take 4).length=4;rw [List.length_take,List.length_drop];omega) w' (o2 w' h)
  rw [v1] at c1
  rw [v2] at c2
  dsimp only at c1 c2
  have hcap:=hz.len
  have hv : dU z.l=if 2147483647<iH.dm ((z.l.drop 32).take 4)∨2147483647<iH.dm ((z.l.drop 36).take 4) then none else some (⟨z.l.take 32,iH.dm ((z.l.drop 32).take 4),iH.dm ((z.l.drop 36).take 4)⟩,z.l.drop 40):=by rw [dU,if_neg h40]
  generalize hp : iH.dm ((z.l.drop 32).take 4)=p at *
  generalize hm : iH.dm ((z.l.drop 36).take 4)=m at *
  have hhb:=CV p m
  have hz34p : (hdc ⟨dz,p,m⟩).length=34:=rfl
  let vs : Nat→Nat→Value:=fun j y=>match j with
    | 0=>z.v
    | 1=>.slice (if z.cap=32 then z.ad else z.ad.map (·.add (32 * 1))) (36 - 32) (z.cap - 32)
    | 2=>N p
    | 3=>z.v
    | 4=>.slice (if z.cap=36 then z.ad else z.ad.map (·.add (36 * 1))) (40 - 36) (z.cap - 36)
    | 5=>N m
    | 6=>.agg (hdc ⟨dz,p,m⟩).toArray
    | 7=>Pt y 0
    | _=>N 0
  let Ms : Nat→Nat→List aH:=fun j y=>match j with
    | 7=>[⟨y,Row 32 (hdc bQ),true⟩]
    | 8=>[⟨y,Row 32 (hdc ⟨dz,p,m⟩),true⟩]
    | 9=>[⟨b2,Row 32 (hdc bQ),true⟩]
    | _=>[]
  refine JC.grow (g:=⟨[(0,z.v),(2,Pt b2 0)],10,vs,Ms,(fun j=>match j with | 1=>[(0,11)] | 2=>[(1,12)] | 4=>[(3,14)] | 5=>[(4,15)] | 6=>[(2,13),(5,16)] | 8=>[(7,5),(6,17)] | _=>[]),(fun j=>match j with | 8=>[7] | _=>[]),(fun j=>match j with | 8=>[7] | _=>[]),(fun j=>match j with | 8=>some 7 | _=>none)⟩) [(7,5)] [8,9] gm (by repeat (first | exact ai.nil | refine ai.cons _ _ _ rfl ?_)) ?_ (by kernel_rfl) (by kernel_rfl) (by kernel_rfl) ?_ ?_
  · exact aq.refl _
  · refine ⟨?_,?_,?_,?_,?_,?_,?_,?_,?_,trivial⟩
    · (intro xx EF MF Q kk;(try refine JL.aS rfl rfl ?_);exact JL.q (OQ.move rfl) rfl (JL.nil (kk default nofun)))
    · (intro xx EF MF Q kk;(try refine JL.aS rfl rfl ?_);exact JL.q (OQ.oI (sz:=1) (lo:=32) (hi:=36) (len:=z.l.length) (cap:=z.cap) (ad:=z.ad) Tryz.underlying27 lH rfl rfl rfl (by decide) (by omega)) rfl (JL.nil (kk default nofun)))
    · (intro xx EF MF Q kk;(try refine JL.aS rfl rfl ?_);exact JL.q (OQ.au (vs:=[.slice (if z.cap=32 then z.ad else z.ad.map (·.add (32 * 1))) (36 - 32) (z.cap - 32)]) ta rfl (fun w' hw'=>c1 w' (hz.holds hw' rfl))) rfl (JL.nil (kk default nofun)))
    · (intro xx EF MF Q kk;(try refine JL.aS rfl rfl ?_);exact JL.q (OQ.move rfl) rfl (JL.nil (kk default nofun)))
    · (intro xx EF MF Q kk;(try refine JL.aS rfl rfl ?_);exact JL.q (OQ.oI (sz:=1) (lo:=36) (hi:=40) (len:=z.l.length) (cap:=z.cap) (ad:=z.ad) Tryz.underlying27 lH rfl rfl rfl (by decide) (by omega)) rfl (JL.nil (kk default nofun)))
    · (intro xx EF MF Q kk;(try refine JL.aS rfl rfl ?_);exact JL.q (OQ.au (vs:=[.slice (if z.cap=36 then z.ad else z.ad.map (·.add (36 * 1))) (40 - 36) (z.cap - 36)]) ta rfl (fun w' hw'=>c2 w' (hz.holds hw' rfl))) rfl (JL.nil (kk default nofun)))
    · (intro xx EF MF Q kk;(try refine JL.aS rfl rfl ?_);exact JL.q (OQ.mH (cs:=hdc ⟨dz,p,m⟩) [1,2] [.tmp 13,.tmp 16] (vs:=[N p,N m]) rfl rfl hhb) rfl (JL.nil (kk default nofun)))
    · (intro xx EF MF Q kk;exact JL.alloc G1 rfl fun b0 _=>JL.nil (kk b0 nofun))
    · (intro xx EF MF Q kk;exact JL.ag (cs:=hdc ⟨dz,p,m⟩) oy rfl rfl hz34p (eH _) .here hz34 (JL.nil (kk (xx 7) (fun k h=>by cases h;rfl))))
  · intro xx hx
    have e8 : xx 8=xx 7:=hx 8 7 (by decide) rfl
    show JE _ _ _ _ _ [(5,Pt (xx 7) 0),(0,z.v),(2,Pt b2 0)] [⟨xx 8,Row 32 (hdc ⟨dz,p,m⟩),true⟩,⟨b2,Row 32 (hdc bQ),true⟩]
    rw [e8]
    generalize xx 7=b5
    clear hx e8 xx vs Ms c1 c2 o1 o2 v1 v2
    repeat (first | refine JL.q (by (apply OQ.assign;rfl)) rfl ?_ | refine JC.seq ?_ | refine JC.region ?_ | refine JC.block ?_ | refine JL.nil ?_ | refine JE.next ?_)
    obtain ⟨bz,jz,eZ,cZ⟩:=hz.reads.at (by rw [List.length_map];omega)
    have vZ : z.v=.slice (some ⟨bz,jz,none⟩) z.l.length z.cap:=by rw [← eZ];rfl
    have hbz : bz<w.heap.size:=by
      obtain ⟨v,hv⟩ : ∃ v,(z.l.map U8)[0]?=some v:=⟨_,List.getElem?_eq_getElem (by rw [List.length_map];omega)⟩
      exact block_lt_of_cell (cZ 0 v hv)
    have h32 : (32 : Nat)≤z.l.length:=by omega
    rw [vZ]
    refine JC.loop (fun i : Nat=>[(0,.slice (some ⟨bz,jz,none⟩) z.l.length z.cap),(2,Pt b2 0),(5,Pt b5 0),(6,N i)]) (fun i=>[⟨b5,Row 32 (hdc ⟨CW z.l i,p,m⟩),true⟩,⟨b2,Row 32 (hdc bQ),true⟩]) (fun i=>32 - i) (fun i=>i≤32) 0 (Nat.zero_le _) (by repeat (first | exact ai.nil | refine ai.cons _ _ _ rfl ?_)) (aq.refl _) ?_
    intro i hi
    repeat (first | refine JL.q (by first|(apply OQ.bP (a:=i) (b:=32);rfl;rfl)|(apply OQ.move;rfl)) rfl ?_ | refine JC.seq ?_ | refine JC.region ?_ | refine JL.nil ?_ | refine JE.next ?_)
    refine JC.cond rfl (fun hc=>?_) (fun hc=>?_)
    · have hi' : i<32:=of_decide_eq_true hc
      clear hc
      have hil : i<z.l.length:=by omega
      have g0 : (z.l.map U8)[i]?=some (U8 (z.l.getD i 0)):=by rw [List.getElem?_map,List.getElem?_eq_getElem hil,List.getD_eq_getElem?_getD,List.getElem?_eq_getElem hil];rfl
      have g1:=cZ i _ g0
      have hset:=Hr h32 hi' p m
      have hlc:=ju (h:=⟨CW z.l i,p,m⟩) (Bv h32 hi)
      repeat (first | refine JL.q (by first|(apply OQ.ig (i:=i) (len:=z.l.length) (cap:=z.cap) (b:=bz) (j:=jz);exact Tryz.underlying27;exact lH;rfl;rfl;exact hil)|(apply OQ.Ku (i:=i) (len:=32) (b:=b5) (j:=0);exact Tryz.underlying23;exact lH;rfl;rfl;exact hi')|(apply OQ.bE;exact HJ;rfl;exact hbz;exact (by simp);exact g1)|(apply OQ.move;rfl)|(apply OQ.bM;rfl;rfl;rfl;exact (by decide);rfl)) rfl ?_ | refine JC.seq ?_ | refine JC.region ?_ | refine JC.block ?_ | refine JC.skip ?_ | refine JE.next ?_)
      refine JL.az (r:=hdc ⟨CW z.l i,p,m⟩) (r':=hdc ⟨CW z.l (i+1),p,m⟩) lH rfl rfl rfl rfl .here (by rw [hlc];omega) hset ?_
      repeat (first | refine JL.q (by first|(apply OQ.aZ (a:=i) (b:=1);rfl;rfl;exact (by omega))|(apply OQ.move;rfl)|(apply OQ.assign;rfl)) rfl ?_ | refine JC.region ?_ | refine JL.nil ?_ | refine JE.next ?_ | refine JE.an ?_)
      exact JE.again (i:=i) (i+1) hi' (by show 32 - (i+1)<32 - i;omega) (by repeat (first | exact ai.nil | refine ai.cons _ _ _ rfl ?_)) (aq.refl _)
    have hi' : i=32:=by have:=of_decide_eq_false hc;omega
    subst hi'
    clear hc hi
    have hch : CW z.l 32=z.l.take 32:=by unfold CW;simp
    rw [hch]
    have hlc : (z.l.take 32).length=32:=by rw [List.length_take,Nat.min_eq_left (by omega)]
    generalize hcc : z.l.take 32=c at *
    have hr1 : ∀ o,Row 32 (hdc ⟨c,p,m⟩) o→cellAt o 32=some (I p):=Row.cell (jX hlc)
    have hr2 : ∀ o,Row 32 (hdc ⟨c,p,m⟩) o→cellAt o 33=some (I m):=Row.cell (jv hlc)
    have hl34:=ju (h:=⟨c,p,m⟩) hlc
    rw [← vZ]
    obtain ⟨g1,hg1⟩ : ∃ g,decide ((2147483647 : Int)<(p : Int))=g:=⟨_,rfl⟩
    obtain ⟨g2,hg2⟩ : ∃ g,decide ((2147483647 : Int)<(m : Int))=g:=⟨_,rfl⟩
    obtain ⟨gg,hgg⟩ : ∃ g,(g1 || g2)=g:=⟨_,rfl⟩
    cases gg
    case true=>
      have hv2 : dU z.l=none:=by
        rw [hv,if_pos]
        rcases g1 with _ | _
        · obtain rfl : g2=true:=hgg
          have:=of_decide_eq_true hg2
          exact .inr (by omega)
        · have:=of_decide_eq_true hg1
          exact .inl (by omega)
      have e1 : dV z.l=bQ:=by rw [dV,hv2]
      have e2 : c6 z.l=[]:=by rw [c6,hv2]
      have e3 : er z.l=3:=by rw [er,hv2]
      rw [e1,e2,e3]
      cases g1
      case' false=>
        obtain rfl : g2=true:=hgg
      all_goals
        repeat (first | refine JL.q (by first|(apply OQ.load;exact aR;rfl;exact .here;exact hr1)|(apply OQ.load;exact aR;rfl;exact .here;exact hr2)|(apply OQ.m9 (b:=2147483647);rfl;rfl;exact hg1)|(apply OQ.m9 (b:=2147483647);rfl;rfl;exact hg2)|(apply OQ.c9;rfl;rfl)|(apply OQ.cq;rfl;rfl)|(apply OQ.move;rfl)|(apply OQ.bM;rfl;rfl;rfl;exact (by decide);rfl)) rfl ?_ | refine JC.seq ?_ | refine JC.region ?_ | refine JC.exit ?_ | refine JL.nil ?_ | refine JE.next ?_ | refine JE.ax ?_ | refine JE.aA ?_ | refine JL.aS rfl rfl ?_ | refine JL.fK rfl rfl rfl rfl ?_)
        refine JC.cond_true rfl rfl ?_
        repeat (first | refine JC.seq ?_ | refine JC.region ?_)
        refine JL.q (OQ.pure (v:=.agg (hdc bQ).toArray) rfl rfl (by kernel_rfl)) rfl ?_
        refine JL.ag (cs:=hdc bQ) oy rfl rfl hz34 (eH _) (.there .here) hz34 ?_
        repeat (first | refine JL.q (by (apply OQ.assign;rfl)) rfl ?_ | refine JL.nil ?_ | refine JE.next ?_)
        refine JC.ret ?_
        repeat (refine JE.aF ?_)
        exact JE.jU rfl (RV.av zV oy rfl (.there .here) hz34 Row.all) (RV.tmp rfl) (RV.tmp rfl) fun w' hw=>⟨⟨none,fun _=>rfl⟩,rfl,hw.weak (.nil _)⟩
    obtain ⟨rfl,rfl⟩ : g1=false∧g2=false:=by simpa using hgg
    have hv2 : dU z.l=some (⟨c,p,m⟩,z.l.drop 40):=by rw [hv,if_neg (by have:=of_decide_eq_false hg1;have:=of_decide_eq_false hg2;omega)]
    have e1 : dV z.l=⟨c,p,m⟩:=by rw [dV,hv2]
    have e2 : c6 z.l=z.l.drop 40:=by rw [c6,hv2]
    have e3 : er z.l=0:=by rw [er,hv2]
    rw [e1,e2,e3]
    have zo:=hz.snd 40 (by omega)
    have zl : (z.snd 40).l=z.l.drop 40:=rfl
    rw [← zl]
    have zll : (z.snd 40).l.length≤1000000:=by rw [zl,List.length_drop];omega
    repeat (first | refine JL.q (by first|(apply OQ.load;exact aR;rfl;exact .here;exact hr1)|(apply OQ.load;exact aR;rfl;exact .here;exact hr2)|(apply OQ.m9 (b:=2147483647);rfl;rfl;exact hg1)|(apply OQ.m9 (b:=2147483647);rfl;rfl;exact hg2)|(apply OQ.cq;rfl;rfl)|(apply OQ.move;rfl)|(apply OQ.bM;rfl;rfl;rfl;exact (by decide);rfl)) rfl ?_ | refine JC.seq ?_ | refine JC.region ?_ | refine JC.exit ?_ | refine JL.nil ?_ | refine JE.next ?_ | refine JE.ax ?_ | refine JE.aA ?_ | refine JL.aS rfl rfl ?_)
    refine JC.cond_false rfl rfl ?_
    repeat (first | refine JC.seq ?_ | refine JC.skip ?_ | refine JE.next ?_)
    let vs : Nat→(Nat × Nat)→Value:=fun j y=>match j with
      | 0=>.agg (hdc ⟨c,p,m⟩).toArray
      | 1=>.slice (some ⟨y.1,0,none⟩) 0 0
      | 2=>z.v
      | 3=>(z.snd 40).v
      | 4=>.slice (some ⟨y.1,0,none⟩) (z.snd 40).l.length y.2
      | 6=>.slice (some ⟨y.1,0,none⟩) (z.snd 40).l.length y.2
      | 7=>N 0
      | _=>N 0
    let Ms : Nat→(Nat × Nat)→List aH:=fun j y=>match j with
      | 1=>[⟨y.1,Sl.aD 5 1 0 0 [],true⟩]
      | 4=>[⟨y.1,Sl.aD 5 1 (z.snd 40).l.length y.2 ((z.snd 40).l.map U8),true⟩]
      | 5=>[⟨b2,Row 32 (hdc ⟨c,p,m⟩),true⟩]
      | 8=>[⟨b5,Row 32 (hdc ⟨c,p,m⟩),true⟩]
      | 9=>[⟨b2,Row 32 (hdc bQ),true⟩]
      | _=>[]
    refine JC.grow (g:=⟨[(0,z.v),(2,Pt b2 0),(5,Pt b5 0)],10,vs,Ms,(fun j=>match j with | 3=>[(2,40)] | 4=>[(1,39),(3,41)] | 5=>[(0,38)] | 6=>[(4,42)] | _=>[]),(fun j=>match j with | 0=>[8] | 4=>[1] | 5=>[9] | _=>[]),(fun j=>match j with | 4=>[1] | 5=>[9] | _=>[]),(fun j=>match j with | 6=>some 4 | _=>none)⟩) [(6,3),(7,4)] [5,4] gm (by repeat (first | exact ai.nil | refine ai.cons _ _ _ rfl ?_)) ?_ (by kernel_rfl) (by kernel_rfl) (by kernel_rfl) ?_ ?_
    · exact aq.refl _
    · refine ⟨?_,?_,?_,?_,?_,?_,?_,?_,trivial⟩
      · (intro xx EF MF Q kk;(try refine JL.aS rfl rfl ?_);exact JL.q (OQ.af (cs:=hdc ⟨c,p,m⟩) zV oy rfl .here hl34 Row.all) rfl (JL.nil (kk default nofun)))
      · (intro xx EF MF Q kk;exact JL.ud Tryz.underlying27 uh rfl fun b0 _=>JL.nil (kk (b0,0) nofun))
      · (intro xx EF MF Q kk;(try refine JL.aS rfl rfl ?_);exact JL.q (OQ.move rfl) rfl (JL.nil (kk default nofun)))
      · (intro xx EF MF Q kk;(try refine JL.aS rfl rfl ?_);exact JL.q (OQ.snd (s:=z) (m:=40) Tryz.underlying27 lH rfl rfl (by omega)) rfl (JL.nil (kk default nofun)))
      · (intro xx EF MF Q kk;exact JL.append (cs:=(z.snd 40).l.map U8) (m:=(z.snd 40).l.length) (ad:=(z.snd 40).ad) (sc:=(z.snd 40).cap) (xs:=[]) (fun b' cap'=>⟨b',Sl.aD 5 1 (0+(z.snd 40).l.length) cap' ([]++(z.snd 40).l.map U8),true⟩::MF) Tryz.underlying27 uh rfl rfl (fun _ _=>.here) (by rw [List.length_map,Nat.mul_one]) (fun w' hw'=>(zo.holds hw' rfl).reads) (fun v hv=>by obtain ⟨q,_,rfl⟩:=List.mem_map.1 hv;rfl) rfl (by decide) (by omega) (by omega) rfl fun b' cap'=>by simp only [Nat.zero_add];exact JL.nil (kk (b',cap') nofun))
      · (intro xx EF MF Q kk;exact JL.ag (cs:=hdc ⟨c,p,m⟩) oy rfl rfl hl34 (eH _) .here hz34 (JL.nil (kk default nofun)))
      · (intro xx EF MF Q kk;(try refine JL.aS rfl rfl ?_);exact JL.q (OQ.assign rfl) rfl (JL.nil (kk (xx 4) (fun k h=>by cases h;rfl))))
      · (intro xx EF MF Q kk;(try refine JL.aS rfl rfl ?_);exact JL.q (OQ.assign rfl) rfl (JL.nil (kk default nofun)))
    · intro xx hx
      have e6 : xx 6=xx 4:=hx 6 4 (by decide) rfl
      show JE _ _ _ _ _ [(3,.slice (some ⟨(xx 6).1,0,none⟩) (z.snd 40).l.length (xx 6).2),(4,N 0),(0,z.v),(2,Pt b2 0),(5,Pt b5 0)] [⟨b2,Row 32 (hdc ⟨c,p,m⟩),true⟩,⟨(xx 4).1,Sl.aD 5 1 (z.snd 40).l.length (xx 4).2 ((z.snd 40).l.map U8),true⟩]
      rw [e6]
      generalize xx 4=x
      obtain ⟨bx,cx⟩:=x
      clear hx e6 xx vs Ms
      try dsimp only
      repeat (refine JE.next ?_)
      refine JC.ret ?_
      skip
      refine JE.jU rfl (RV.av zV oy rfl .here hl34 Row.all) (RV.tmp rfl) (RV.tmp rfl) fun w' hw=>⟨⟨some (bx,cx),nofun⟩,rfl,?_⟩
      show ah w [] [⟨bx,Sl.aD 5 1 ((z.snd 40).l.map U8).length cx ((z.snd 40).l.map U8),true⟩] w'
      rw [List.length_map]
      exact hw.weak (.drop _ _ _ (aq.refl _))
end
section
set_option maxRecDepth 10000
open Sl iB mO dZ n5
open qG (Bk)
structure yl (l : List Kp) where
  b : Nat
  off : Nat
  cap : Nat
def yl.v {l : List Kp} (r : yl l) : Value:=.slice (some ⟨r.b,r.off,none⟩) l.length r.cap
def yl.K {l : List Kp} (r : yl l) : lO:=⟨some ⟨r.b,r.off,none⟩,r.cap,l⟩
def yl.cO {l : List Kp} (r : yl l) : List aH:=[⟨r.b,fun o=>bB o r.off (aT l).flatten∧l.length≤r.cap,true⟩]
theorem yl.ok {l : List Kp} {r : yl l} (hl : ∀ k ∈ l,k.ok) {w0 w : World} {S : List Nat} {M : List aH} (hw : ah w0 S (r.cO++M) w) : r.K.ok w:=by
  obtain ⟨o,ho,h1,h2⟩:=hw.get (.here (M:=M))
  exact ⟨h2,Reads.block ho h1,hl⟩
theorem yl.wr {l : List Kp} (r : yl l) : ∀ e ∈ r.cO,e.wr=true:=fun e he=>by
  simp only [yl.cO,List.mem_singleton] at he
  rw [he]
theorem Hs {e : TypeId} {cap j : Nat} {l : List Kp} (hl : ∀ k ∈ l,k.ok) {o : Obj} (h : Sl.aD e 65 l.length cap (aT l).flatten o) (hj : j≤l.length) : bB o (j * 65) (aT (l.drop j)).flatten∧(l.drop j).length≤cap - j:=by
  obtain ⟨sp,rfl,h1,h2,h3⟩:=h
  refine ⟨⟨_,_,_,rfl,fun i hi=>?_⟩,by rw [List.length_drop];omega⟩
  have hd : (aT (l.drop j)).flatten=(aT l).flatten.drop (j * 65):=by rw [fT (fu hl)];simp [aT,List.map_drop]
  rw [hd,List.length_drop] at hi
  rw [hd,List.getElem?_drop]
  simp only [List.getElem?_toArray]
  rw [List.getElem?_append_left (by omega)]
theorem CX (c k : Bk) (m : Nat) (hc : c.length=32) (hk : k.length=32) : Tryz.prog.built 57 ([0,1,2].zip [.agg (c.map U8).toArray,N m,.agg (k.map U8).toArray])=some (eg ⟨c,m,k⟩).toArray:=by
  have h : Tryz.prog.built 57 ([0,1,2].zip [.agg (c.map U8).toArray,N m,.agg (k.map U8).toArray])=Instr.fill (fun i=>#[(0,32),(32,1),(33,32)][i]?) (eg ng).toArray [(0,.agg (c.map U8).toArray),(1,N m),(2,.agg (k.map U8).toArray)]:=by kernel_rfl
  rw [h,dL (off:=0) (sz:=32) (cs:=c.map U8) rfl rfl (by simp [hc]) (by simp [eg,ng]),dL (off:=32) (sz:=1) (cs:=[N m]) rfl rfl rfl (by simp [eg,ng,hc])]
  have hp:=tv (a:=c.map U8) (b:=[N 0]) (c:=dz.map U8) (j:=32) (k:=1) [N m] (by simp [hc]) rfl
  have hp2:=Fl (m:=m) hc hk
  have h0 : ((eg ng).take 0++c.map U8++(eg ng).drop (0+32))=c.map U8++([N 0]++dz.map U8):=rfl
  rw [h0,hp]
  have e : c.map U8++([N m]++dz.map U8)=eg ⟨c,m,dz⟩:=rfl
  have hl:=iN (k:=⟨c,m,dz⟩) ⟨hc,rfl⟩
  rw [e,dL (off:=33) (sz:=32) (cs:=k.map U8) rfl rfl (by simp [hk]) (by rw [hl];decide)]
  rw [List.length_map,hk] at hp2
  rw [hp2]
  rfl
theorem jC : aI Tryz.prog 29:=⟨_,Tryz.func29,rfl,by kernel_rfl⟩
set_option maxHeartbeats 32000000 in
theorem uY (s : bu) (k : lO) (hs : s.ok) (to : Nat) (h : leave s to=none) (w : World) (hto : to≤2147483648) (htk : s.taken≤2147483648) :
    Calls Tryz.prog 29 [.agg (sec s k.v).toArray,N to].toArray w fun e w'=>e=.returned (.tuple #[.agg (sec s k.v).toArray,.bool false])∧Ext w w':=by
  have h1 : 1000<to - s.taken:=by
    rw [leave] at h
    split at h
    · assumption
    · cases h
  have hn:=ay hs k.v
  have htr : ∀ o,Row 26 (sec s k.v) o→cellAt o 163=some (N s.taken):=Row.cell (dR hs _)
  have e1 : decide ((1000 : Int)<((to - s.taken : Nat) : Int))=true:=decide_eq_true (by omega)
  refine enter (n:=52) Tryz.func29 rfl rfl rfl (ah.start w []) ?_
  repeat (first | refine JC.seq ?_ | refine JC.region ?_)
  refine JL.box (r:=sec s k.v) rfl rfl rfl fun b2 _=>?_
  refine JL.alloc xU rfl fun b4 _=>?_
  repeat (first | refine JL.q (by first|(apply OQ.load;exact aR;rfl;exact (.there .here);exact htr)|(apply OQ.jE (a:=to) (b:=s.taken);rfl;rfl;exact (by omega);exact (by omega))|(apply OQ.m9 (b:=1000);rfl;rfl;exact e1)|(apply OQ.move;rfl)|(apply OQ.assign;rfl)|(apply OQ.bM;rfl;rfl;rfl;exact (by decide);rfl)) rfl ?_ | refine JC.seq ?_ | refine JC.region ?_ | refine JL.nil ?_ | refine JE.next ?_)
  refine JC.cond_true rfl rfl ?_
  repeat (first | refine JL.q (by (apply OQ.af (cs:=sec s k.v);exact gL;exact dQ;rfl;exact (.there .here);exact hn;exact Row.all)) rfl ?_ | refine JC.seq ?_ | refine JC.region ?_)
  refine JL.ag (cs:=sec s k.v) dQ rfl rfl hn (bD rfl) .here (ay bC _) ?_
  repeat (first | refine JL.q (by (apply OQ.assign;rfl)) rfl ?_ | refine JL.nil ?_ | refine JE.next ?_)
  refine JC.ret ?_
  repeat (refine JE.aF ?_)
  exact JE.gN rfl (RV.av gL dQ rfl .here hn Row.all) (RV.tmp rfl) fun w' hw=>⟨rfl,hw.aM⟩
set_option maxHeartbeats 32000000 in
theorem tf (s : bu) (k : lO) (hs : s.ok) (he : k.l=s.kept) (hkl : s.kept.length≤2000) (to : Nat) (n : bu) (h : leave s to=some n) (w : World) (hto : to≤2147483648) (htk : s.taken≤2147483648) (hk : k.ok w) :
    Calls Tryz.prog 29 [.agg (sec s k.v).toArray,N to].toArray w fun e w'=>∃ r : yl n.kept,e=.returned (.tuple #[.agg (sec n r.v).toArray,.bool true])∧ah w [] r.cO w':=by
  have h1 : ¬ 1000<to - s.taken:=fun h1=>by rw [sL h1] at h;cases h
  have hn : n=trim (m6 s (to - s.taken)):=by rw [ot h1] at h;exact (Option.some.inj h).symm
  clear h
  have hl:=ay hs k.v
  have htr : ∀ o,Row 26 (sec s k.v) o→cellAt o 163=some (N s.taken):=Row.cell (dR hs _)
  have hkr : ∀ o,Row 26 (sec s k.v) o→cellAt o 165=some k.v:=Row.cell (gr hs _)
  have e1 : decide ((1000 : Int)<(to : Int) - (s.taken : Int))=false:=decide_eq_false (by omega)
  have hfl : ((aT k.l).flatten).length=k.l.length * 65:=by rw [dJ (fu hk.all),dS]
  have hkl' : k.l.length≤2000:=by rw [he];exact hkl
  refine enter (n:=52) Tryz.func29 rfl rfl rfl (ah.start w []) ?_
  repeat (first | refine JC.seq ?_ | refine JC.region ?_)
  refine JL.box (r:=sec s k.v) rfl rfl rfl fun b2 _=>?_
  refine JL.alloc xU rfl fun b4 _=>?_
  repeat (first | refine JL.q (by first|(apply OQ.load;exact aR;rfl;exact (.there .here);exact htr)|(apply OQ.oH (a:=(to : Int)) (b:=(s.taken : Int));rfl;rfl;exact (by omega);exact (by omega))|(apply OQ.m9 (b:=1000);rfl;rfl;exact e1)|(apply OQ.move;rfl)|(apply OQ.assign;rfl)|(apply OQ.bM;rfl;rfl;rfl;exact (by decide);rfl)) rfl ?_ | refine JC.seq ?_ | refine JC.region ?_ | refine JL.nil ?_ | refine JE.next ?_)
  refine JC.cond_false rfl rfl ?_
  repeat (first | refine JC.seq ?_ | refine JC.region ?_ | refine JC.skip ?_ | refine JE.next ?_)
  refine JL.tn Tryz.underlying24 zW rfl fun b0 _=>?_
  repeat (refine JL.q (by first|(apply OQ.load;exact fW;rfl;exact (.there (.there .here));exact hkr)|(apply OQ.bM;rfl;rfl;rfl;exact (by decide);rfl)) rfl ?_)
  refine JL.append (cs:=(aT k.l).flatten) (m:=k.l.length) (ad:=k.ad) (sc:=k.cap) (xs:=[]) (fun b' cap'=>[⟨b',Sl.aD 57 65 (0+k.l.length) cap' ([]++(aT k.l).flatten),true⟩,⟨b4,Row 26 (sec dI bw),true⟩,⟨b2,Row 26 (sec s k.v),true⟩]) Tryz.underlying24 zW rfl rfl (by intro _ _;repeat (first | exact aY.here | apply aY.there)) hfl (fun w' hw'=>(hk.holds hw' rfl).reads) (gZ k.l) rfl (by decide) (by omega) (by omega) rfl fun b1 cap1=>?_
  rw [Nat.zero_add,List.nil_append]
  generalize hkv : k.v=kv at *
  have hkv1 : kv.oneCell'=true:=by rw [← hkv];rfl
  rw [he] at hfl ⊢
  clear hkv hk
  repeat (first | refine JL.q (by (apply OQ.assign;rfl)) rfl ?_ | refine JC.seq ?_ | refine JC.block ?_ | refine JL.nil ?_ | refine JE.next ?_)
  obtain ⟨k0,hk0⟩ : ∃ k,to - s.taken=k:=⟨_,rfl⟩
  rw [hk0] at hn
  refine JC.loop (fun z : Nat × Nat × Nat=>[(1,N to),(2,Pt b2 0),(4,Pt b4 0),(6,.slice (some ⟨z.2.1,0,none⟩) (m6 s z.1).kept.length z.2.2)]) (fun z=>[⟨z.2.1,Sl.aD 57 65 (m6 s z.1).kept.length z.2.2 (aT (m6 s z.1).kept).flatten,true⟩,⟨b4,Row 26 (sec dI bw),true⟩,⟨b2,Row 26 (sec (m6 s z.1) kv),true⟩]) (fun z=>k0 - z.1) (fun z=>z.1≤k0) (0,b1,cap1) (Nat.zero_le _) (by dsimp only;rw [mA];exact (by repeat (first | exact ai.nil | refine ai.cons _ _ _ rfl ?_))) (by dsimp only;rw [mA];exact aq.refl _) ?_
  rintro ⟨i,b6,cap⟩ hi
  dsimp only at hi ⊢
  have hsi:=zS hs i
  have hst:=Bl s i
  have htn : (m6 s i).taken=s.taken+i:=rfl
  have hln : (m6 s i).kept.length=s.kept.length+i:=by show (s.kept++Cx _ i _ _).length=_;rw [List.length_append,v5]
  obtain ⟨u,hu⟩ : ∃ u,m6 s i=u:=⟨_,rfl⟩
  rw [hu] at hsi hst htn hln ⊢
  have htr2 : ∀ o,Row 26 (sec u kv) o→cellAt o 163=some (N u.taken):=Row.cell (dR hsi _)
  by_cases hc : i<k0
  · have hlt : u.taken<to:=by omega
    have lt : (u.take.map U8).length=32:=by rw [List.length_map];exact hsi.take
    have lo : (u.other.map U8).length=32:=by rw [List.length_map];exact hsi.other
    have cst : ∀ (w' : World),Calls Tryz.prog 32 [.agg (u.take.map U8).toArray].toArray w' fun e w''=>e=.returned (.tuple #[.agg ((nt u.take).map U8).toArray,.agg ((lG u.take).map U8).toArray])∧Ext w' w'':=fun w'=>sQ u.take hsi.take w'
    have x1 : ({ u with take:=nt u.take } : bu).ok:=⟨hsi.root,hsi.own,hsi.other,hsi.send,rfl,hsi.kept⟩
    have p1:=gp hsi kv (nt u.take) rfl
    have p2:=fN x1 kv (u.taken+1)
    have hn1:=ay hsi kv
    have hn2:=ay x1 kv
    have hkb:=CX u.other (lG u.take) u.taken hsi.other rfl
    have hk65:=iN (k:=⟨u.other,u.taken,lG u.take⟩) ⟨hsi.other,rfl⟩
    have ln : ((nt u.take).map U8).length=32:=rfl
    have lm : ((lG u.take).map U8).length=32:=rfl
    have htr3 : ∀ o,Row 26 (sec { u with take:=nt u.take } kv) o→cellAt o 163=some (N u.taken):=Row.cell (dR x1 _)
    have q1 : sec (m6 s (i+1)) kv=sec { u with take:=nt u.take,taken:=u.taken+1 } kv:=by rw [hst];rfl
    have q2 : (aT (m6 s (i+1)).kept).flatten=(aT u.kept).flatten++eg ⟨u.other,u.taken,lG u.take⟩:=by rw [hst];simp [aT]
    have q3 : (m6 s (i+1)).kept.length=u.kept.length+1:=by rw [hst];simp
    clear hst
    generalize nt u.take=nx at *
    generalize hms : lG u.take=ms at *
    repeat (first | refine JL.q (by first|(apply OQ.load;exact aR;rfl;exact (.there (.there .here));exact htr2)|(apply OQ.iz (a:=u.taken) (b:=to);rfl;rfl;exact hlt)|(apply OQ.move;rfl)|(apply OQ.bM;rfl;rfl;rfl;exact (by decide);rfl)) rfl ?_ | refine JC.seq ?_ | refine JC.region ?_ | refine JL.nil ?_ | refine JE.next ?_)
    refine JC.cond_true rfl rfl ?_
    repeat (first | refine JL.q (by first|(apply OQ.af (cs:=u.take.map U8);exact aN;exact aB;rfl;exact (.there (.there .here));exact lt;exact (Row.cells (l9 hsi _)))|(apply OQ.au (vs:=[.agg (u.take.map U8).toArray]);exact qw;rfl;exact (fun w' _=>cst w'))|(apply OQ.extract;rfl;rfl)|(apply OQ.move;rfl)|(apply OQ.bM;rfl;rfl;rfl;exact (by decide);rfl)) rfl ?_ | refine JC.seq ?_ | refine JC.region ?_ | refine JC.block ?_ | refine JC.skip ?_ | refine JE.next ?_)
    refine JL.alloc ir rfl fun b7 _=>?_
    refine JL.alloc ir rfl fun b8 _=>?_
    refine JL.ag (cs:=nx.map U8) aB rfl rfl ln (aX _) (.there .here) (by simp) ?_
    refine JL.ag (cs:=ms.map U8) aB rfl rfl lm (aX _) .here (by simp) ?_
    repeat (first | refine JL.q (by first|(apply OQ.af (cs:=u.other.map U8);exact aN;exact aB;rfl;exact (.there (.there (.there (.there .here))));exact lo;exact (Row.cells (ei hsi _)))|(apply OQ.load;exact aR;rfl;exact (.there (.there (.there (.there .here))));exact htr2)|(apply OQ.af (cs:=ms.map U8);exact aN;exact aB;rfl;exact .here;exact lm;exact Row.all)|(apply OQ.move;rfl)|(apply OQ.bM;rfl;rfl;rfl;exact (by decide);rfl)) rfl ?_ | refine JC.seq ?_ | refine JC.region ?_ | refine JL.nil ?_ | refine JE.next ?_)
    refine JL.q (OQ.mH (cs:=eg ⟨u.other,u.taken,ms⟩) [0,1,2] [.tmp 31,.tmp 33,.tmp 34] (vs:=[.agg (u.other.map U8).toArray,N u.taken,.agg (ms.map U8).toArray]) rfl rfl hkb) rfl ?_
    refine JL.IC (cs:=eg ⟨u.other,u.taken,ms⟩) Tryz.underlying24 zW rfl (by decide) (by decide) rfl hk65 rfl fun bl _=>?_
    refine JL.append (cs:=eg ⟨u.other,u.taken,ms⟩) (m:=1) (k:=u.kept.length) (cap:=cap) (ad:=some ⟨bl,0,none⟩) (sc:=1) (xs:=(aT u.kept).flatten) (fun b' cap'=>[⟨bl,Row 57 (eg ⟨u.other,u.taken,ms⟩),true⟩,⟨b8,Row 23 (ms.map U8),true⟩,⟨b7,Row 23 (nx.map U8),true⟩,⟨b',Sl.aD 57 65 (u.kept.length+1) cap' ((aT u.kept).flatten++eg ⟨u.other,u.taken,ms⟩),true⟩,⟨b4,Row 26 (sec dI bw),true⟩,⟨b2,Row 26 (sec u kv),true⟩]) Tryz.underlying24 zW rfl rfl (by intro _ _;repeat (first | exact aY.here | apply aY.there)) hk65 (fun w' hw'=>by obtain ⟨o,ho,hA⟩:=hw'.get .here;exact Reads.block ho (Row.all _ hA)) (fun v hv=>gZ [⟨u.other,u.taken,ms⟩] v (by simpa [aT] using hv)) rfl (by decide) (by omega) (by omega) rfl fun b' cap'=>?_
    repeat (first | refine JL.q (by first|(apply OQ.af (cs:=nx.map U8);exact aN;exact aB;rfl;exact (.there (.there .here));exact ln;exact Row.all)|(apply OQ.assign;rfl)|(apply OQ.bM;rfl;rfl;rfl;exact (by decide);rfl)) rfl ?_ | refine JC.seq ?_ | refine JC.region ?_ | refine JL.nil ?_ | refine JE.next ?_)
    refine JL.aW (r:=sec u kv) (r':=sec { u with take:=nx } kv) aB rfl rfl ln (aX _) (.there (.there (.there (.there (.there .here))))) (by rw [hn1,ln];decide) p1 ?_
    repeat (first | refine JL.q (by first|(apply OQ.load;exact aR;rfl;exact (.there (.there (.there (.there (.there .here)))));exact htr3)|(apply OQ.aZ (a:=u.taken) (b:=1);rfl;rfl;exact (by omega))|(apply OQ.bM;rfl;rfl;rfl;exact (by decide);rfl)) rfl ?_ | refine JC.region ?_ | refine JL.nil ?_ | refine JE.next ?_)
    refine JL.az (r:=sec { u with take:=nx } kv) (r':=sec { u with take:=nx,taken:=u.taken+1 } kv) nR rfl rfl rfl rfl (.there (.there (.there (.there (.there .here))))) (by rw [hn2];decide) p2 ?_
    repeat (first | refine JL.nil ?_ | refine JE.an ?_)
    refine JE.again (i:=((i,b6,cap) : Nat × Nat × Nat)) (i+1,b',cap') (by show i+1≤k0;omega) (by show k0 - (i+1)<k0 - i;omega) ?_ ?_
    · dsimp only
      rw [q3]
      exact (by repeat (first | exact ai.nil | refine ai.cons _ _ _ rfl ?_))
    · dsimp only
      rw [q1,q2,q3]
      exact .drop _ _ _ (.drop _ _ _ (.drop _ _ _ (aq.refl _)))
  · obtain rfl : i=k0:=by omega
    have hge : ¬ u.taken<to:=by omega
    have hL : u.kept.length≤3000:=by omega
    rw [hu] at hn
    have hn1:=ay hsi kv
    clear hst hln
    obtain ⟨L,hLe⟩ : ∃ L,u.kept.length=L:=⟨_,rfl⟩
    rw [hLe] at hL
    rw [hLe]
    refine JC.fact (b:=b6) (A:=Sl.aD 57 65 L cap (aT u.kept).flatten) (wr:=true) .here (fun o ⟨sp,_,_,_,h⟩=>h) fun hcap=>?_
    repeat (first | refine JL.q (by first|(apply OQ.load;exact aR;rfl;exact (.there (.there .here));exact htr2)|(apply OQ.gP (a:=u.taken) (b:=to);rfl;rfl;exact hge)|(apply OQ.move;rfl)|(apply OQ.bM;rfl;rfl;rfl;exact (by decide);rfl)) rfl ?_ | refine JC.seq ?_ | refine JC.region ?_ | refine JL.nil ?_ | refine JE.next ?_)
    refine JC.cond_false rfl rfl ?_
    repeat (first | refine JC.seq ?_ | refine JC.block ?_ | refine JC.exit ?_ | refine JE.next ?_ | refine JE.ax ?_ | refine JE.aA ?_)
    refine JC.loop (fun j : Nat=>[(1,N to),(2,Pt b2 0),(4,Pt b4 0),(6,.slice (some ⟨b6,j * 65,none⟩) (L - j) (cap - j))]) (fun _=>[⟨b6,Sl.aD 57 65 L cap (aT u.kept).flatten,true⟩,⟨b4,Row 26 (sec dI bw),true⟩,⟨b2,Row 26 (sec u kv),true⟩]) (fun j=>L - j) (fun j=>j≤L - 2000) 0 (Nat.zero_le _) (by rw [Nat.zero_mul];exact (by repeat (first | exact ai.nil | refine ai.cons _ _ _ rfl ?_))) (aq.refl _) ?_
    intro j hj
    by_cases hc2 : 2000<L - j
    · have e3 : decide ((2000 : Int)<((L - j : Nat) : Int))=true:=decide_eq_true (by omega)
      have e4 : Value.slice (if cap - j=1 then some ⟨b6,j * 65,none⟩ else (some (⟨b6,j * 65,none⟩ : Addr)).map (·.add (1 * 65))) (L - j - 1) (cap - j - 1)=.slice (some ⟨b6,(j+1) * 65,none⟩) (L - (j+1)) (cap - (j+1)):=by
        rw [if_neg (by omega),Nat.add_mul j 1 65,Nat.sub_add_eq,Nat.sub_add_eq]
        rfl
      repeat (first | refine JL.q (by first|(apply OQ.len (k:=L - j) (ad:=some ⟨b6,j * 65,none⟩) (cap:=cap - j);exact Tryz.underlying24;rfl)|(apply OQ.m9 (b:=2000);rfl;rfl;exact e3)|(apply OQ.move;rfl)) rfl ?_ | refine JC.seq ?_ | refine JC.region ?_ | refine JL.nil ?_ | refine JE.next ?_)
      refine JC.cond_true rfl rfl ?_
      repeat (first | refine JL.q (by first|(apply OQ.to;exact (OQ.nV (lo:=1) (len:=L - j) (cap:=cap - j) (ad:=some ⟨b6,j * 65,none⟩) Tryz.underlying24 qi rfl rfl (by omega));exact e4)|(apply OQ.move;rfl)|(apply OQ.assign;rfl)) rfl ?_ | refine JC.region ?_ | refine JC.block ?_ | refine JC.skip ?_ | refine JL.nil ?_ | refine JE.next ?_ | refine JE.an ?_)
      exact JE.again (i:=j) (j+1) (by show j+1≤L - 2000;omega) (by show L - (j+1)<L - j;omega) (by repeat (first | exact ai.nil | refine ai.cons _ _ _ rfl ?_)) (aq.refl _)
    · obtain rfl : j=L - 2000:=by omega
      have e3 : decide ((2000 : Int)<((L - (L - 2000) : Nat) : Int))=false:=decide_eq_false (by omega)
      have p3:=eG hsi kv u.kept (.slice (some ⟨b6,(L - 2000) * 65,none⟩) (L - (L - 2000)) (cap - (L - 2000)))
      have hn3:=ay hsi (.slice (some ⟨b6,(L - 2000) * 65,none⟩) (L - (L - 2000)) (cap - (L - 2000)))
      repeat (first | refine JL.q (by first|(apply OQ.len (k:=L - (L - 2000)) (ad:=some ⟨b6,(L - 2000) * 65,none⟩) (cap:=cap - (L - 2000));exact Tryz.underlying24;rfl)|(apply OQ.m9 (b:=2000);rfl;rfl;exact e3)|(apply OQ.move;rfl)) rfl ?_ | refine JC.seq ?_ | refine JC.region ?_ | refine JL.nil ?_ | refine JE.next ?_)
      refine JC.cond_false rfl rfl ?_
      repeat (first | refine JL.q (by first|(apply OQ.move;rfl)|(apply OQ.bM;rfl;rfl;rfl;exact (by decide);rfl)) rfl ?_ | refine JC.seq ?_ | refine JC.region ?_ | refine JC.exit ?_ | refine JE.next ?_ | refine JE.ax ?_ | refine JE.aA ?_)
      refine JL.az (r:=sec u kv) (r':=sec u (.slice (some ⟨b6,(L - 2000) * 65,none⟩) (L - (L - 2000)) (cap - (L - 2000)))) zX rfl rfl rfl rfl (.there (.there .here)) (by rw [hn1];decide) p3 ?_
      repeat (first | refine JL.q (by (apply OQ.af (cs:=sec u (.slice (some ⟨b6,(L - 2000) * 65,none⟩) (L - (L - 2000)) (cap - (L - 2000))));exact gL;exact dQ;rfl;exact (.there (.there .here));exact hn3;exact Row.all)) rfl ?_ | refine JC.seq ?_ | refine JC.region ?_ | refine JL.nil ?_ | refine JE.next ?_)
      refine JL.ag (cs:=sec u (.slice (some ⟨b6,(L - 2000) * 65,none⟩) (L - (L - 2000)) (cap - (L - 2000)))) dQ rfl rfl hn3 (bD rfl) (.there .here) (ay bC _) ?_
      repeat (first | refine JL.q (by (apply OQ.assign;rfl)) rfl ?_ | refine JL.nil ?_ | refine JE.next ?_)
      refine JC.ret ?_
      skip
      have hnk : n.kept=u.kept.drop (L - 2000):=by rw [hn,qf,pB,hLe]
      have hnl : n.kept.length=L - (L - 2000):=by rw [hnk,List.length_drop,hLe]
      refine JE.gN rfl (RV.av gL dQ rfl (.there .here) hn3 Row.all) (RV.tmp rfl) fun w' hw=>⟨⟨b6,(L - 2000) * 65,cap - (L - 2000)⟩,?_,?_⟩
      · unfold yl.v
        rw [hnl,hn]
        rfl
      · refine hw.weak (.keep _ _ _ _ _ _ (fun o ho=>?_) (aq.nil _))
        rw [← hLe] at ho ⊢
        have:=Hs hsi.kept ho (j:=u.kept.length - 2000) (by omega)
        dsimp only
        rw [hnk,← hLe]
        exact this
end
section
set_option maxRecDepth 10000
open Sl iB mO dZ n5
open qG (Bk)
theorem Bw {l : Bk} (h : l.length=4) : b4 (iH.dm l)=l:=by
  match l,h with
  | [a,b,c,d],_=>
  have ha:=a.isLt
  have hb:=b.isLt
  have hc:=c.isLt
  have hd:=d.isLt
  rw [Iu,Fx _ (by omega)]
  have e : ∀ (x : BitVec 8) (n : Nat),n % 256=x.toNat→BitVec.ofNat 8 n=x:=fun x n h=>BitVec.eq_of_toNat_eq (by rw [BitVec.toNat_ofNat];exact h)
  rw [e a _ (by omega),e b _ (by omega),e c _ (by omega),e d _ (by omega)]
theorem head_take {z r : Bk} {h : Hd} (e : dU z=some (h,r)) : z.take 40=ee h:=by
  obtain ⟨_,_,_,_,h40,hc⟩:=hO e
  rw [dU,if_neg (by omega)] at e
  split at e
  · cases e
  · have e:=(Prod.mk.inj (Option.some.inj e)).1
    rw [← e]
    show z.take 40=z.take 32++b4 (iH.dm ((z.drop 32).take 4))++b4 (iH.dm ((z.drop 36).take 4))
    rw [Bw (by rw [List.length_take,List.length_drop];omega),Bw (by rw [List.length_take,List.length_drop];omega)]
    rw [show z.drop 36=(z.drop 32).drop 4 by rw [List.drop_drop],List.append_assoc,← List.take_add,← List.take_add]
theorem Ht {h : Hd} {l : List Kp} {i : Nat} (hi : i<l.length) (h1 : sM h (l.getD i ng)=true) (h2 : ∀ j,j<i→sM h (l.getD j ng)=false) : sN h l=some i:=by
  have g : ∀ j (hj : j<l.length),l.getD j ng=l[j]:=fun j hj=>by rw [List.getD_eq_getElem?_getD,List.getElem?_eq_getElem hj];rfl
  rw [sN,List.findIdx?_eq_some_iff_getElem]
  refine ⟨hi,by rw [← g i hi];exact h1,fun j hj=>?_⟩
  rw [← g j (by omega),h2 j hj]
  decide
theorem Hu {h : Hd} {l : List Kp} (h2 : ∀ j,j<l.length→sM h (l.getD j ng)=false) : sN h l=none:=by
  rw [sN,List.findIdx?_eq_none_iff]
  intro x hx
  obtain ⟨j,hj,rfl⟩:=List.mem_iff_getElem.1 hx
  have:=h2 j hj
  rwa [List.getD_eq_getElem?_getD,List.getElem?_eq_getElem hj] at this
theorem FC {l : List Kp} (hl : ∀ k ∈ l,k.ok) (i : Nat) : (aT (l.take i)).flatten=(aT l).flatten.take (i * 65):=by
  have h:=fT (fu hl) i
  have h1 : (aT l).flatten=(aT (l.take i)).flatten++(aT (l.drop i)).flatten:=by rw [← List.flatten_append];unfold aT;rw [← List.map_append,List.take_append_drop]
  have h2 : (aT l).flatten.drop (i * 65)=(aT (l.drop i)).flatten:=by rw [h];simp [aT,List.map_drop]
  have h3:=List.take_append_drop (i * 65) (aT l).flatten
  rw [h2] at h3
  have h4:=h1.symm.trans h3.symm
  exact List.append_cancel_right h4
theorem Hv {l : List Kp} (hl : ∀ k ∈ l,k.ok) (i : Nat) : (aT (l.drop i)).flatten=(aT l).flatten.drop (i * 65):=by
  rw [fT (fu hl)]
  simp [aT,List.map_drop]
theorem tP {w : World} {ba ja cap i : Nat} {l : List Kp} (hl : ∀ k ∈ l,k.ok) (h : Reads w (some ⟨ba,ja,none⟩) (aT l).flatten) (hc : l.length≤cap) : Reads w (if cap=i then some ⟨ba,ja,none⟩ else (some (⟨ba,ja,none⟩ : Addr)).map (·.add (i * 65))) (aT (l.drop i)).flatten:=by
  by_cases e : cap=i
  · rw [List.drop_of_length_le (by omega)]
    exact Reads.nil _ _
  · rw [if_neg e,Hv hl]
    intro m v hv
    rw [List.getElem?_drop] at hv
    obtain ⟨b,j,e1,hc⟩:=h _ _ hv
    cases e1
    exact ⟨ba,ja+i * 65,by simp [Addr.add],by rw [Nat.add_assoc];exact hc⟩
theorem FD {l : List Kp} (hl : ∀ k ∈ l,k.ok) {w0 w : World} {S : List Nat} {M : List aH} {b cap : Nat} {wr : Bool} (hw : ah w0 S M w) (hM : Has M b (Sl.aD 57 65 l.length cap (aT l).flatten) wr) : lO.ok w ⟨some ⟨b,0,none⟩,cap,l⟩:=by
  obtain ⟨o,ho,hA⟩:=hw.get hM
  have hh:=Sl.aD.cells _ hA
  obtain ⟨sp,rfl,h2,h3,h4⟩:=hA
  exact ⟨h4,Reads.block ho hh,hl⟩
structure J5 where
  n : bu
  K : lO
  es : List aH
structure ND (w : World) (o : Option bu) (r : J5) : Prop where
  on : o=some r.n
  ok : r.n.ok
  l : r.K.l=r.n.kept
  NF : ∀ w',ah w [] r.es w'→r.K.ok w'
  len : r.n.kept.length≤2000
  tk : r.n.taken≤2147483648
theorem Nf (a b : aH) (A B : List aH) : (a::(A++b::B)).Perm (b::(a::A)++B):=by
  show (a::(A++b::B)).Perm (b::a::(A++B))
  exact ((List.perm_middle).cons a).trans (List.Perm.swap b a _)
structure Kn (o : bu × Bk × Nat) (k : lO) where
  K : lO
  x : aO
  es : List aH
  l : K.l=o.1.kept
  xl : x.l=o.2.1
  NF : K=k∨∀ {w0 w : World} {T : List Nat} {M : List aH},ah w0 T (es++M) w→K.ok w
  NY : ∀ {w0 w : World} {T : List Nat} {M : List aH},ah w0 T (es++M) w→x.ok w
  wr : ∀ e ∈ es,e.wr=true
def Kn.err {s : bu} {k : lO} (he : k.l=s.kept) (c : Nat) : Kn (s,[],c) k:=⟨k,jm,[],he,rfl,.inl rfl,fun _=>mL _,nofun⟩
theorem Ae : aI Tryz.prog 13:=⟨_,Tryz.func13,rfl,by kernel_rfl⟩
set_option maxHeartbeats 64000000 in
theorem CY (s : bu) (k : lO) (hs : s.ok) (he : k.l=s.kept) (hk0 : s.kept.length≤2000) (ht0 : s.taken≤2147483647) (side z : aO) (hsl : side.l.length≤1000000) (hzl : z.l.length≤1000000) (fresh : Bk) (hf : fresh.length=32) (w : World) (hk : k.ok w) (hside : side.ok w) (hz : z.ok w) :
    Calls Tryz.prog 13 [.agg (sec s k.v).toArray,side.v,z.v,.agg (fresh.map U8).toArray].toArray w fun e w'=>∃ r : Kn (fO s side.l z.l fresh) k,e=.returned (.tuple #[.agg (sec (fO s side.l z.l fresh).1 r.K.v).toArray,r.x.v,N (fO s side.l z.l fresh).2.2])∧ah w [] r.es w':=by
  have hlf : (fresh.map U8).length=32:=by rw [List.length_map];exact hf
  have hn:=fun v=>ay hs v
  have herr : ∀ {c : Nat} {e : Ending} {w' : World},fO s side.l z.l fresh=(s,[],c)→e=.returned (.tuple #[.agg (sec s k.v).toArray,jm.v,N c])→ah w [] [] w'→(∃ r : Kn (fO s side.l z.l fresh) k,e=.returned (.tuple #[.agg (sec (fO s side.l z.l fresh).1 r.K.v).toArray,r.x.v,N (fO s side.l z.l fresh).2.2])∧ah w [] r.es w'):=fun {c e w'} h1 h2 h3=>by
    rw [h1]
    exact ⟨Kn.err he c,h2,h3⟩
  refine enter (n:=201) Tryz.func13 rfl rfl rfl (ah.start w []) ?_
  repeat (first | refine JC.seq ?_ | refine JC.region ?_)
  refine JL.box (r:=sec s k.v) rfl rfl rfl fun b4 _=>?_
  refine JL.box (r:=fresh.map U8) rfl rfl rfl fun b7 _=>?_
  refine JL.alloc xU rfl fun b8 _=>?_
  repeat (first | refine JL.q (by first|(apply OQ.move;rfl)|(apply OQ.assign;rfl)) rfl ?_ | refine JC.seq ?_ | refine JC.region ?_ | refine JL.nil ?_ | refine JE.next ?_)
  refine JL.bY (ι:=tL (c6 z.l)) (vs:=[z.v]) (fun q=>.tuple #[.agg (hdc (dV z.l)).toArray,aC q.1 (c6 z.l).length,N (er z.l)]) (fun q=>bS 5 q.1 ((c6 z.l).map U8)) tc rfl rfl (fun q=>iL _ _ _) (fun w' hw'=>uX z w' (hz.holds hw' rfl) hzl) ?_
  rintro ⟨qh,hqh⟩
  dsimp only
  cases hv : dU z.l with
  | none=>
    have e1 : dV z.l=bQ:=by rw [dV,hv]
    have e2 : c6 z.l=[]:=by rw [c6,hv]
    have e3 : er z.l=3:=by rw [er,hv]
    have hl34 : (hdc bQ).length=34:=rfl
    have hd:=pD (s:=s) (side:=side.l) (fresh:=fresh) hv
    rw [e1,e2,e3]
    repeat (refine JL.q (by first|(apply OQ.extract;rfl;rfl)|(apply OQ.move;rfl)) rfl ?_)
    refine JL.alloc G1 rfl fun b11 _=>?_
    refine JL.ag (cs:=hdc bQ) oy rfl rfl hl34 (eH _) .here hl34 ?_
    repeat (first | refine JL.q (by first|(apply OQ.tr (a:=3) (b:=0) (c:=false);rfl;rfl;rfl)|(apply OQ.move;rfl)|(apply OQ.assign;rfl)) rfl ?_ | refine JC.seq ?_ | refine JC.region ?_ | refine JL.nil ?_ | refine JE.next ?_)
    refine JC.cond_true rfl rfl ?_
    repeat (first | refine JL.q (by first|(apply OQ.af (cs:=sec s k.v);exact gL;exact dQ;rfl;exact (.there (sW _ (.there (.there .here))));exact (hn _);exact Row.all)|(apply OQ.move;rfl)) rfl ?_ | refine JC.seq ?_ | refine JC.region ?_)
    refine JL.dM (M':=⟨b8,Row 26 (sec dI bw),true⟩::(⟨b11,Row 32 (hdc bQ),true⟩::bS 5 qh (([] : Bk).map U8))++[⟨b7,Row 23 (fresh.map U8),true⟩,⟨b4,Row 26 (sec s k.v),true⟩]) (Nf _ _ _ _) ?_
    refine JL.ag (cs:=sec s k.v) dQ rfl rfl (hn _) (bD rfl) .here (ay bC _) ?_
    repeat (first | refine JL.q (by (apply OQ.assign;rfl)) rfl ?_ | refine JL.nil ?_ | refine JE.next ?_)
    refine JC.ret ?_
    repeat (refine JE.aF ?_)
    exact JE.jU rfl (RV.av gL dQ rfl .here (hn _) Row.all) (RV.tmp rfl) (RV.tmp rfl) fun w' hw=>herr hd rfl (hw.weak (aq.nil _))
  | some hr=>
  obtain ⟨h,rest⟩:=hr
  have e1 : dV z.l=h:=by rw [dV,hv]
  have e2 : c6 z.l=rest:=by rw [c6,hv]
  have e3 : er z.l=0:=by rw [er,hv]
  obtain ⟨hc,hp,hm,hre,hz40,_⟩:=hO hv
  have hrl : rest.length≤1000000:=by rw [hre,List.length_drop];omega
  have hl34:=ju hc
  have hz34 : (hdc bQ).length=34:=rfl
  have hBl:=oM hc
  have hcl : (h.chain.map U8).length=32:=by rw [List.length_map];exact hc
  rw [e1,e2,e3]
  rw [e2] at hqh
  clear e1 e2 e3
  repeat (refine JL.q (by first|(apply OQ.extract;rfl;rfl)|(apply OQ.move;rfl)) rfl ?_)
  refine JL.dM (M':=⟨b8,Row 26 (sec dI bw),true⟩::⟨b7,Row 23 (fresh.map U8),true⟩::⟨b4,Row 26 (sec s k.v),true⟩::bS 5 qh (rest.map U8)) (List.perm_append_comm (l₂:=[_,_,_])) ?_
  refine JL.alloc G1 rfl fun b11 _=>?_
  refine JL.ag (cs:=hdc h) oy rfl rfl hl34 (eH _) .here hz34 ?_
  repeat (first | refine JL.q (by first|(apply OQ.tr (a:=0) (b:=0) (c:=true);rfl;rfl;rfl)|(apply OQ.move;rfl)|(apply OQ.assign;rfl)) rfl ?_ | refine JC.seq ?_ | refine JC.region ?_ | refine JL.nil ?_ | refine JE.next ?_)
  refine JC.cond_false rfl rfl ?_
  have hft : (z.fst 40).l=ee h:=head_take hv
  have zf:=hz.fst 40
  have cj:=fun (w' : World) (h1 : side.ok w') (h2 : (z.fst 40).ok w')=>Fw side (z.fst 40) w' h1 h2 (by rw [hft,hBl];omega)
  rw [hft] at cj
  obtain ⟨W,hW⟩ : ∃ W,side.l++ee h=W:=⟨_,rfl⟩
  have hWl : W.length=side.l.length+40:=by rw [← hW,List.length_append,hBl]
  rw [hW] at cj
  repeat (first | refine JL.q (by first|(apply OQ.fst (s:=z) (m:=40);exact Tryz.underlying27;exact lH;rfl;rfl;exact hz40;exact hz.len)|(apply OQ.move;rfl)) rfl ?_ | refine JC.seq ?_ | refine JC.region ?_ | refine JC.skip ?_ | refine JE.next ?_)
  refine JL.bY (ι:=Nat × Nat) (vs:=[side.v,(z.fst 40).v]) (fun x=>.slice (some ⟨x.1,0,none⟩) W.length x.2) (fun x=>[⟨x.1,Sl.aD 5 1 W.length x.2 (W.map U8),true⟩]) CQ rfl rfl (fun i=>by simp) (fun w' hw'=>cj w' (hside.holds hw' rfl) (zf.holds hw' rfl)) ?_
  rintro ⟨bj,kj⟩
  try dsimp only
  clear cj zf
  repeat (first | refine JL.q (by (apply OQ.assign;rfl)) rfl ?_ | refine JC.seq ?_ | refine JC.region ?_ | refine JC.block ?_ | refine JL.nil ?_ | refine JE.next ?_)
  refine JC.loop (fun i : Nat=>[(1,side.v),(2,z.v),(4,Pt b4 0),(7,Pt b7 0),(8,Pt b8 0),(11,Pt b11 0),(12,aC qh rest.length),(14,.slice (some ⟨bj,0,none⟩) W.length kj),(15,N i)]) (fun _=>⟨bj,Sl.aD 5 1 W.length kj (W.map U8),true⟩::⟨b11,Row 32 (hdc h),true⟩::⟨b8,Row 26 (sec dI bw),true⟩::⟨b7,Row 23 (fresh.map U8),true⟩::⟨b4,Row 26 (sec s k.v),true⟩::bS 5 qh (rest.map U8)) (fun i=>k.l.length - i) (fun i=>i≤k.l.length∧∀ j,j<i→sM h (k.l.getD j ng)=false) 0 ⟨Nat.zero_le _,fun j hj=>absurd hj (Nat.not_lt_zero _)⟩ (by repeat (first | exact ai.nil | refine ai.cons _ _ _ rfl ?_)) (aq.refl _) ?_
  rintro i ⟨hi,hin⟩
  have hkp : ∀ o,Row 26 (sec s k.v) o→cellAt o 165=some k.v:=Row.cell (gr hs _)
  have hkl : k.l.length≤2000:=by rw [he];exact hk0
  by_cases hlt : i<k.l.length
  · have et : decide ((i : Int)<((k.l.length : Nat) : Int))=true:=decide_eq_true (by omega)
    repeat (first | refine JL.q (by first|(apply OQ.load;exact fW;rfl;exact (.there (.there (.there (.there .here))));exact hkp)|(apply OQ.len (k:=k.l.length) (ad:=k.ad) (cap:=k.cap);exact Tryz.underlying24;rfl)|(apply OQ.iz (a:=i) (b:=k.l.length);rfl;rfl;exact hlt)|(apply OQ.move;rfl)|(apply OQ.bM;rfl;rfl;rfl;exact (by decide);rfl)) rfl ?_ | refine JC.seq ?_ | refine JC.region ?_ | refine JL.nil ?_ | refine JE.next ?_)
    refine JC.cond_true rfl rfl ?_
    obtain ⟨ba,ja,eA,la,cA⟩:=hk.at hlt
    have hok:=hk.all _ (lO.mem hlt)
    have vA : k.v=.slice (some ⟨ba,ja,none⟩) k.l.length k.cap:=by rw [← eA];rfl
    have hkp2 : ∀ o,Row 26 (sec s k.v) o→cellAt o 165=some (.slice (some ⟨ba,ja,none⟩) k.l.length k.cap):=by rw [← vA];exact hkp
    obtain ⟨x,hx⟩ : ∃ x,k.l.getD i ng=x:=⟨_,rfl⟩
    rw [hx] at hok cA
    have cN:=cA 32 (N x.num) (by simp [eg,hok.c])
    have cC : ∀ m u,(x.chain.map U8)[m]?=some u→w.cell? ⟨ba,ja+i * 65+m,none⟩=some u:=fun m u hu=>by
      refine cA m u ?_
      have hm : m<(x.chain.map U8).length:=(List.getElem?_eq_some_iff.1 hu).1
      rw [eg,List.getElem?_append_left hm]
      exact hu
    have lC : (x.chain.map U8).length=32:=by rw [List.length_map];exact hok.c
    have hr3 : ∀ o,Row 32 (hdc h) o→cellAt o 33=some (N h.num):=Row.cell (jv hc)
    obtain ⟨g1,he1⟩ : ∃ e,decide (x.chain=h.chain)=e:=⟨_,rfl⟩
    obtain ⟨g2,he2⟩ : ∃ e,decide ((x.num : Int)=(h.num : Int))=e:=⟨_,rfl⟩
    have hit : sM h x=(g1 && g2):=by
      rw [sM,he1,← he2]
      congr 1
      exact decide_eq_decide.2 (by omega)
    refine JC.skip (JE.next ?_)
    refine JC.seq (JC.block ?_)
    refine JC.seq ?_
    refine JC.quiet gm (by kernel_rfl) ?_
    cases g1
    case' true=>cases g2
    case true.true=>
      have hix : sN h s.kept=some i:=by rw [← he];exact Ht hlt (by rw [hx,hit];rfl) hin
      have hmk:=xT (fresh:=fresh) hix
      rw [← he,hx] at hmk
      have lK : (x.key.map U8).length=32:=by rw [List.length_map];exact hok.k
      have cK : ∀ m u,(x.key.map U8)[m]?=some u→w.cell? ⟨ba,ja+i * 65+33+m,none⟩=some u:=fun m u hu=>by
        rw [Nat.add_assoc _ 33 m]
        refine cA (33+m) u ?_
        rw [eg,List.getElem?_append_right (by rw [lC];omega),lC,show 33+m - 32=m+1 by omega,List.getElem?_cons_succ]
        exact hu
      have hdy:=pF (side:=side.l) (fresh:=fresh) hv hmk
      have hdn:=sO (side:=side.l) (fresh:=fresh) hv hmk
      rw [hW] at hdy hdn
      obtain ⟨o,hoe⟩ : ∃ o,iw x.key W rest=o:=⟨_,rfl⟩
      rw [hoe] at hdy hdn
      have hoK : ij (k1 x.key) (k2 x.key) xP W rest=o:=hoe
      have hzS:=rF qh rest
      have hzl2:=pQ hqh
      repeat (first | refine JQ.q (by first|(apply OQ.load;exact fW;rfl;exact (.there (.there (.there (.there .here))));exact hkp2)|(apply OQ.iI (i:=i) (len:=k.l.length) (cap:=k.cap) (b:=ba) (j:=ja);exact Tryz.underlying24;exact qi;rfl;rfl;exact hlt)|(apply OQ.bE;exact aR;rfl;exact la;exact (by simp);exact cN)|(apply OQ.bO (cs:=x.chain.map U8);exact aN;rfl;exact (lC ▸ aB);exact la;exact (by simp);exact cC)|(apply OQ.af (cs:=h.chain.map U8);exact aN;exact aB;rfl;exact (.there .here);exact hcl;exact (Row.cells (ej hc)))|(apply OQ.load;exact aR;rfl;exact (.there .here);exact hr3)|(apply OQ.Hq;exact hok.c;exact hc;rfl;rfl;exact he1)|(apply OQ.FI;rfl;rfl;exact he2)|(apply OQ.c9;rfl;rfl)|(apply OQ.move;rfl)|(apply OQ.bM;rfl;rfl;rfl;exact (by decide);rfl)) rfl ?_ | refine JQ.nil ?_ | refine JE.next ?_ | refine JQ.aS rfl rfl ?_)
      refine JC.cond_true rfl rfl ?_
      repeat (first | refine JL.q (by first|(apply OQ.load;exact fW;rfl;exact (.there (.there (.there (.there .here))));exact hkp2)|(apply OQ.iI (i:=i) (len:=k.l.length) (cap:=k.cap) (b:=ba) (j:=ja);exact Tryz.underlying24;exact qi;rfl;rfl;exact hlt)|(apply OQ.bO (cs:=x.key.map U8);exact aN;rfl;exact (lK ▸ aB);exact la;exact (by simp);exact cK)|(apply OQ.move;rfl)|(apply OQ.bM;rfl;rfl;rfl;exact (by decide);rfl)) rfl ?_ | refine JC.seq ?_ | refine JC.region ?_)
      refine JL.q (OQ.pure (v:=.agg (xP.map U8).toArray) rfl rfl (by kernel_rfl)) rfl ?_
      repeat (refine JL.q (by (apply OQ.move;rfl)) rfl ?_)
      refine JL.bY (ι:=Hf o.1) (vs:=[.agg (x.key.map U8).toArray,.agg (xP.map U8).toArray,.slice (some ⟨bj,0,none⟩) W.length kj,aC qh rest.length]) (fun i=>.tuple #[i.1.v,N o.2]) (fun i=>i.1.cO) sU rfl rfl (fun i=>aO.iK _) (fun w' hw'=>sV (s:=⟨some ⟨bj,0,none⟩,kj,W⟩) (z:=wH qh rest) rfl hzS (by rw [hzl2];exact hoK) hok.k rfl (ec hw' .here) (rG (e:=5) (M:=[]) (by rw [List.append_nil];exact hw'.weak (.drop _ _ _ (.drop _ _ _ (.drop _ _ _ (.drop _ _ _ (.drop _ _ _ (aq.refl _)))))))) (by show W.length<_;omega) (by rw [hzl2];omega)) ?_
      rintro ⟨pl,hpl⟩
      dsimp only
      refine JL.dM (M':=⟨bj,Sl.aD 5 1 W.length kj (W.map U8),true⟩::⟨b11,Row 32 (hdc h),true⟩::⟨b8,Row 26 (sec dI bw),true⟩::⟨b7,Row 23 (fresh.map U8),true⟩::⟨b4,Row 26 (sec s k.v),true⟩::(pl.cO++bS 5 qh (rest.map U8))) (List.perm_append_comm_assoc _ [_,_,_,_,_] _) ?_
      by_cases ho : o.2=0
      · have hd:=hdy ho
        have eo : decide ((o.2 : Int)=0)=true:=decide_eq_true (by omega)
        repeat (first | refine JL.q (by first|(apply OQ.extract;rfl;rfl)|(apply OQ.tr (a:=(o.2 : Int)) (b:=0);rfl;rfl;exact eo)|(apply OQ.move;rfl)|(apply OQ.assign;rfl)) rfl ?_ | refine JC.seq ?_ | refine JC.region ?_ | refine JL.nil ?_ | refine JE.next ?_)
        refine JC.cond_false rfl rfl ?_
        repeat (first | refine JL.q (by (apply OQ.af (cs:=sec s k.v);exact gL;exact dQ;rfl;exact (.there (.there (.there (.there .here))));exact (hn _);exact Row.all)) rfl ?_ | refine JC.seq ?_ | refine JC.region ?_ | refine JC.skip ?_ | refine JE.next ?_)
        have e4 : Value.slice (if k.cap=0 then some ⟨ba,ja,none⟩ else (some (⟨ba,ja,none⟩ : Addr)).map (·.add 0)) i k.cap=.slice (some ⟨ba,ja,none⟩) i k.cap:=by
          split <;> simp [Addr.add]
        have hcap:=hk.len
        have cF : ∀ w' : World,k.ok w'→Reads w' (some ⟨ba,ja,none⟩) (aT (k.l.take i)).flatten:=fun w' h=>by rw [FC hk.all,← eA];exact h.reads.take _
        have cB : ∀ w' : World,k.ok w'→Reads w' (if k.cap=i+1 then some ⟨ba,ja,none⟩ else (some (⟨ba,ja,none⟩ : Addr)).map (·.add ((i+1) * 65))) (aT (k.l.drop (i+1))).flatten:=fun w' h=>tP hk.all (by rw [← eA];exact h.reads) h.len
        have lF : (aT (k.l.take i)).flatten.length=i * 65:=by rw [dJ (fu fun x hx=>hk.all x (List.mem_of_mem_take hx)),dS,List.length_take,Nat.min_eq_left (by omega)]
        have lB : (aT (k.l.drop (i+1))).flatten.length=(k.l.length - (i+1)) * 65:=by rw [dJ (fu fun x hx=>hk.all x (List.mem_of_mem_drop hx)),dS,List.length_drop]
        have pE : (aT (k.l.take i)).flatten++(aT (k.l.drop (i+1))).flatten=(aT (s.kept.eraseIdx i)).flatten:=by rw [← he,List.eraseIdx_eq_take_drop_succ,← List.flatten_append];unfold aT;rw [← List.map_append]
        have pL : i+(k.l.length - (i+1))=(s.kept.eraseIdx i).length:=by rw [← he,List.length_eraseIdx,if_pos hlt];omega
        refine JL.alloc xU rfl fun b18 _=>?_
        refine JL.ag (cs:=sec s k.v) dQ rfl rfl (hn _) (bD rfl) .here (ay bC _) ?_
        repeat (first | refine JC.seq ?_ | refine JL.nil ?_ | refine JE.next ?_)
        let vs : Nat→(Nat × Nat)→Value:=fun j y=>match j with
          | 0=>.slice (some ⟨y.1,0,none⟩) 0 0
          | 1=>Pt b4 165
          | 2=>.slice (some ⟨ba,ja,none⟩) k.l.length k.cap
          | 3=>N i
          | 4=>.slice (some ⟨ba,ja,none⟩) i k.cap
          | 5=>.slice (some ⟨y.1,0,none⟩) i y.2
          | 6=>Pt b4 165
          | 7=>.slice (some ⟨ba,ja,none⟩) k.l.length k.cap
          | 8=>N i
          | 9=>N (i+1)
          | 10=>.slice (if k.cap=i+1 then some ⟨ba,ja,none⟩ else (some (⟨ba,ja,none⟩ : Addr)).map (·.add ((i+1) * 65))) (k.l.length - (i+1)) (k.cap - (i+1))
          | 11=>.slice (some ⟨y.1,0,none⟩) (i+(k.l.length - (i+1))) y.2
          | 12=>Pt b18 165
          | _=>N 0
        let Ms : Nat→(Nat × Nat)→List aH:=fun j y=>match j with
          | 0=>[⟨y.1,Sl.aD 57 65 0 0 [],true⟩]
          | 5=>[⟨y.1,Sl.aD 57 65 i y.2 (aT (k.l.take i)).flatten,true⟩]
          | 11=>[⟨y.1,Sl.aD 57 65 (i+(k.l.length - (i+1))) y.2 ((aT (k.l.take i)).flatten++(aT (k.l.drop (i+1))).flatten),true⟩]
          | 13=>[⟨b18,Row 26 (sec s (.slice (some ⟨y.1,0,none⟩) (i+(k.l.length - (i+1))) y.2)),true⟩]
          | 14=>[⟨b18,Row 26 (sec s k.v),true⟩]
          | 15=>[⟨bj,Sl.aD 5 1 W.length kj (W.map U8),true⟩]
          | 16=>[⟨b11,Row 32 (hdc h),true⟩]
          | 17=>[⟨b8,Row 26 (sec dI bw),true⟩]
          | 18=>[⟨b7,Row 23 (fresh.map U8),true⟩]
          | 19=>[⟨b4,Row 26 (sec s k.v),true⟩]
          | 20=>(pl.cO++bS 5 qh (rest.map U8))
          | _=>[]
        refine JC.grow (g:=⟨[(4,Pt b4 0),(8,Pt b8 0),(15,N i),(16,pl.v),(18,Pt b18 0)],21,vs,Ms,(fun j=>match j with | 2=>[(1,84)] | 4=>[(2,85),(3,86)] | 5=>[(0,83),(4,87)] | 7=>[(6,89)] | 9=>[(8,91)] | 10=>[(7,90),(9,92)] | 11=>[(5,88),(10,93)] | 13=>[(12,95),(11,94)] | _=>[]),(fun j=>match j with | 2=>[19] | 5=>[0] | 7=>[19] | 11=>[5] | 13=>[14] | _=>[]),(fun j=>match j with | 5=>[0] | 11=>[5] | 13=>[14] | _=>[]),(fun j=>match j with | 13=>some 11 | _=>none)⟩) [] [13,11,17,20] gm (by repeat (first | exact ai.nil | refine ai.cons _ _ _ rfl ?_)) ?_ (by kernel_rfl) (by kernel_rfl) (by kernel_rfl) ?_ ?_
        · show aq (_::_::_::_::_::_::((pl.cO++bS 5 qh (rest.map U8))++[])) _;rw [List.append_nil];exact aq.refl _
        · refine ⟨?_,?_,?_,?_,?_,?_,?_,?_,?_,?_,?_,?_,?_,?_,trivial⟩
          · (intro xx EF MF Q kk;exact JL.tn Tryz.underlying24 zW rfl fun b0 _=>JL.nil (kk (b0,0) nofun))
          · (intro xx EF MF Q kk;(try refine JL.aS rfl rfl ?_);exact JL.q (OQ.bM rfl rfl rfl (by decide) rfl) rfl (JL.nil (kk default nofun)))
          · (intro xx EF MF Q kk;(try refine JL.aS rfl rfl ?_);exact JL.q (OQ.load fW rfl .here hkp2) rfl (JL.nil (kk default nofun)))
          · (intro xx EF MF Q kk;(try refine JL.aS rfl rfl ?_);exact JL.q (OQ.move rfl) rfl (JL.nil (kk default nofun)))
          · (intro xx EF MF Q kk;(try refine JL.aS rfl rfl ?_);exact JL.q (OQ.to (OQ.nW (hi:=i) (len:=k.l.length) (cap:=k.cap) (ad:=some ⟨ba,ja,none⟩) Tryz.underlying24 qi rfl rfl (by omega)) e4) rfl (JL.nil (kk default nofun)))
          · (intro xx EF MF Q kk;exact JL.append (cs:=(aT (k.l.take i)).flatten) (m:=i) (ad:=some ⟨ba,ja,none⟩) (sc:=k.cap) (xs:=[]) (fun b' cap'=>⟨b',Sl.aD 57 65 (0+i) cap' ([]++(aT (k.l.take i)).flatten),true⟩::MF) Tryz.underlying24 zW rfl rfl (fun _ _=>.here) lF (fun w' hw'=>cF w' (hk.holds hw' rfl)) (gZ _) rfl (by decide) (by omega) (by omega) rfl fun b' cap'=>by simp only [Nat.zero_add];exact JL.nil (kk (b',cap') nofun))
          · (intro xx EF MF Q kk;(try refine JL.aS rfl rfl ?_);exact JL.q (OQ.bM rfl rfl rfl (by decide) rfl) rfl (JL.nil (kk default nofun)))
          · (intro xx EF MF Q kk;(try refine JL.aS rfl rfl ?_);exact JL.q (OQ.load fW rfl .here hkp2) rfl (JL.nil (kk default nofun)))
          · (intro xx EF MF Q kk;(try refine JL.aS rfl rfl ?_);exact JL.q (OQ.move rfl) rfl (JL.nil (kk default nofun)))
          · (intro xx EF MF Q kk;(try refine JL.aS rfl rfl ?_);exact JL.q (OQ.aZ (a:=i) (b:=1) rfl rfl (by omega)) rfl (JL.nil (kk default nofun)))
          · (intro xx EF MF Q kk;(try refine JL.aS rfl rfl ?_);exact JL.q (OQ.nV (lo:=i+1) (len:=k.l.length) (cap:=k.cap) (ad:=some ⟨ba,ja,none⟩) Tryz.underlying24 qi rfl rfl (by omega)) rfl (JL.nil (kk default nofun)))
          · (intro xx EF MF Q kk;exact JL.append (k:=i) (cap:=(xx 5).2) (cs:=(aT (k.l.drop (i+1))).flatten) (m:=k.l.length - (i+1)) (ad:=(if k.cap=i+1 then some ⟨ba,ja,none⟩ else (some (⟨ba,ja,none⟩ : Addr)).map (·.add ((i+1) * 65)))) (sc:=k.cap - (i+1)) (xs:=(aT (k.l.take i)).flatten) (fun b' cap'=>⟨b',Sl.aD 57 65 (i+(k.l.length - (i+1))) cap' ((aT (k.l.take i)).flatten++(aT (k.l.drop (i+1))).flatten),true⟩::MF) Tryz.underlying24 zW rfl rfl (fun _ _=>.here) lB (fun w' hw'=>cB w' (hk.holds hw' rfl)) (gZ _) rfl (by decide) (by omega) (by omega) rfl fun b' cap'=>JL.nil (kk (b',cap') nofun))
          · (intro xx EF MF Q kk;(try refine JL.aS rfl rfl ?_);exact JL.q (OQ.bM rfl rfl rfl (by decide) rfl) rfl (JL.nil (kk default nofun)))
          · (intro xx EF MF Q kk;exact JL.az (r:=sec s k.v) (r':=sec s (.slice (some ⟨(xx 11).1,0,none⟩) (i+(k.l.length - (i+1))) (xx 11).2)) zX rfl rfl rfl rfl .here (by rw [hn];decide) (eG hs _ s.kept _) (JL.nil (kk (xx 11) (fun k h=>by cases h;rfl))))
        · intro xx hx
          have e13 : xx 13=xx 11:=hx 13 11 (by decide) rfl
          show JE _ _ _ _ _ [(4,Pt b4 0),(8,Pt b8 0),(15,N i),(16,pl.v),(18,Pt b18 0)] (⟨b18,Row 26 (sec s (.slice (some ⟨(xx 13).1,0,none⟩) (i+(k.l.length - (i+1))) (xx 13).2)),true⟩::⟨(xx 11).1,Sl.aD 57 65 (i+(k.l.length - (i+1))) (xx 11).2 ((aT (k.l.take i)).flatten++(aT (k.l.drop (i+1))).flatten),true⟩::⟨b8,Row 26 (sec dI bw),true⟩::((pl.cO++bS 5 qh (rest.map U8))++[]))
          rw [e13,List.append_nil,pE,pL]
          generalize xx 11=zz
          obtain ⟨bx,cx⟩:=zz
          clear hx e13 xx vs Ms e4 cF cB lF lB pE pL
          try dsimp only
          repeat (first | refine JL.q (by first|(apply OQ.af (cs:=sec s (.slice (some ⟨bx,0,none⟩) (s.kept.eraseIdx i).length cx));exact gL;exact dQ;rfl;exact .here;exact (hn _);exact Row.all)|(apply OQ.move;rfl)) rfl ?_ | refine JC.seq ?_ | refine JC.region ?_ | refine JE.next ?_)
          refine JL.ag (cs:=sec s (.slice (some ⟨bx,0,none⟩) (s.kept.eraseIdx i).length cx)) dQ rfl rfl (hn _) (bD rfl) (.there (.there .here)) (ay bC _) ?_
          repeat (first | refine JL.q (by (apply OQ.assign;rfl)) rfl ?_ | refine JL.nil ?_ | refine JE.next ?_)
          refine JC.ret ?_
          repeat (first | refine JE.aF ?_ | refine JE.mK ?_)
          have hae : ∀ x ∈ s.kept.eraseIdx i,x.ok:=fun x hx=>hs.kept x (List.mem_of_mem_eraseIdx hx)
          refine JE.jU rfl (RV.av gL dQ rfl (.there (.there .here)) (hn _) Row.all) (RV.tmp rfl) (RV.tmp rfl) fun w' hw=>?_
          rw [hd]
          exact ⟨⟨⟨some ⟨bx,0,none⟩,cx,s.kept.eraseIdx i⟩,pl,⟨bx,Sl.aD 57 65 (s.kept.eraseIdx i).length cx (aT (s.kept.eraseIdx i)).flatten,true⟩::pl.cO,(by show s.kept.eraseIdx i=k.l.eraseIdx i;rw [he]),hpl.val,.inr fun hw=>FD hae hw .here,fun hw=>aO.kD (hw.weak (.drop _ _ _ (aq.refl _))) hpl.none,fun e he=>by rcases List.mem_cons.1 he with rfl | h;rfl;exact aO.iK _ e h⟩,rfl,hw.weak (.drop _ _ _ (.keep _ _ _ _ _ _ (fun _ h=>h) (.drop _ _ _ (ef _ _))))⟩
      · have hd:=hdn ho
        have eo : decide ((o.2 : Int)=0)=false:=decide_eq_false (by omega)
        repeat (first | refine JL.q (by first|(apply OQ.extract;rfl;rfl)|(apply OQ.tr (a:=(o.2 : Int)) (b:=0);rfl;rfl;exact eo)|(apply OQ.move;rfl)|(apply OQ.assign;rfl)) rfl ?_ | refine JC.seq ?_ | refine JC.region ?_ | refine JL.nil ?_ | refine JE.next ?_)
        refine JC.cond_true rfl rfl ?_
        repeat (first | refine JL.q (by first|(apply OQ.af (cs:=sec s k.v);exact gL;exact dQ;rfl;exact (.there (.there (.there (.there .here))));exact (hn _);exact Row.all)|(apply OQ.move;rfl)) rfl ?_ | refine JC.seq ?_ | refine JC.region ?_)
        refine JL.ag (cs:=sec s k.v) dQ rfl rfl (hn _) (bD rfl) (.there (.there .here)) (ay bC _) ?_
        repeat (first | refine JL.q (by (apply OQ.assign;rfl)) rfl ?_ | refine JL.nil ?_ | refine JE.next ?_)
        refine JC.ret ?_
        repeat (first | refine JE.aF ?_ | refine JE.mK ?_)
        exact JE.jU rfl (RV.av gL dQ rfl (.there (.there .here)) (hn _) Row.all) (RV.tmp rfl) (RV.tmp rfl) fun w' hw=>herr hd rfl (hw.weak (aq.nil _))
    all_goals
      repeat (first | refine JQ.q (by first|(apply OQ.load;exact fW;rfl;exact (.there (.there (.there (.there .here))));exact hkp2)|(apply OQ.iI (i:=i) (len:=k.l.length) (cap:=k.cap) (b:=ba) (j:=ja);exact Tryz.underlying24;exact qi;rfl;rfl;exact hlt)|(apply OQ.bE;exact aR;rfl;exact la;exact (by simp);exact cN)|(apply OQ.bO (cs:=x.chain.map U8);exact aN;rfl;exact (lC ▸ aB);exact la;exact (by simp);exact cC)|(apply OQ.af (cs:=h.chain.map U8);exact aN;exact aB;rfl;exact (.there .here);exact hcl;exact (Row.cells (ej hc)))|(apply OQ.load;exact aR;rfl;exact (.there .here);exact hr3)|(apply OQ.Hq;exact hok.c;exact hc;rfl;rfl;exact he1)|(apply OQ.FI;rfl;rfl;exact he2)|(apply OQ.c9;rfl;rfl)|(apply OQ.cq;rfl;rfl)|(apply OQ.move;rfl)|(apply OQ.bM;rfl;rfl;rfl;exact (by decide);rfl)) rfl ?_ | refine JQ.nil ?_ | refine JE.next ?_ | refine JQ.aS rfl rfl ?_ | refine JQ.fK rfl rfl rfl rfl ?_)
      refine JC.cond_false rfl rfl ?_
      repeat (first | refine JL.q (by first|(apply OQ.aZ (a:=i) (b:=1);rfl;rfl;exact (by omega))|(apply OQ.move;rfl)|(apply OQ.assign;rfl)) rfl ?_ | refine JC.region ?_ | refine JC.skip ?_ | refine JL.nil ?_ | refine JE.next ?_ | refine JE.an ?_)
      refine JE.again (i:=i) (i+1) ⟨hlt,fun j hj=>?_⟩ (by omega) (by repeat (first | exact ai.nil | refine ai.cons _ _ _ rfl ?_)) (aq.refl _)
      by_cases e : j=i
      · rw [e,hx,hit]
        rfl
      · exact hin j (by omega)
  · obtain rfl : i=k.l.length:=by omega
    have hix : sN h s.kept=none:=by rw [← he];exact Hu hin
    clear hin hi
    have hcap0 : (h.chain.map U8).length=32:=hcl
    have hot : (s.other.map U8).length=32:=by rw [List.length_map];exact hs.other
    have hr2 : ∀ o,Row 32 (hdc h) o→cellAt o 32=some (N h.prev):=Row.cell (jX hc)
    have hr3 : ∀ o,Row 32 (hdc h) o→cellAt o 33=some (N h.num):=Row.cell (jv hc)
    have htk : ∀ o,Row 26 (sec s k.v) o→cellAt o 97=some (.bool s.takes):=Row.cell (gQ hs _)
    repeat (first | refine JL.q (by first|(apply OQ.load;exact fW;rfl;exact (.there (.there (.there (.there .here))));exact hkp)|(apply OQ.len (k:=k.l.length) (ad:=k.ad) (cap:=k.cap);exact Tryz.underlying24;rfl)|(apply OQ.gP (a:=k.l.length) (b:=k.l.length);rfl;rfl;exact hlt)|(apply OQ.move;rfl)|(apply OQ.bM;rfl;rfl;rfl;exact (by decide);rfl)) rfl ?_ | refine JC.seq ?_ | refine JC.region ?_ | refine JL.nil ?_ | refine JE.next ?_)
    refine JC.cond_false rfl rfl ?_
    repeat (first | refine JL.q (by (apply OQ.af (cs:=sec s k.v);exact gL;exact dQ;rfl;exact (.there (.there (.there (.there .here))));exact (hn _);exact Row.all)) rfl ?_ | refine JC.seq ?_ | refine JC.region ?_ | refine JC.exit ?_ | refine JE.next ?_ | refine JE.ax ?_ | refine JE.aA ?_)
    refine JL.alloc xU rfl fun b19 _=>?_
    refine JL.ag (cs:=sec s k.v) dQ rfl rfl (hn _) (bD rfl) .here (ay bC _) ?_
    refine JL.nil (JE.next ?_)
    refine JC.seq (JC.region ?_)
    repeat (refine JL.q (by (apply OQ.assign;rfl)) rfl ?_)
    refine JL.nil (JE.next ?_)
    refine JC.mid (fun _ : J5=>[(4,Pt b4 0),(7,Pt b7 0),(8,Pt b8 0),(11,Pt b11 0),(12,aC qh rest.length),(14,.slice (some ⟨bj,0,none⟩) W.length kj),(19,Pt b19 0)]) (fun r=>⟨b19,Row 26 (sec r.n r.K.v),true⟩::⟨bj,Sl.aD 5 1 W.length kj (W.map U8),true⟩::⟨b11,Row 32 (hdc h),true⟩::⟨b8,Row 26 (sec dI bw),true⟩::⟨b7,Row 23 (fresh.map U8),true⟩::⟨b4,Row 26 (sec s k.v),true⟩::(r.es++bS 5 qh (rest.map U8))) (ND w (ld s h fresh)) ?_ ?_
    · have ha0 : (h.chain.map U8).length=32:=hcl
      by_cases hA : h.chain=s.other∧s.takes=true
      · have hon : ld s h fresh=some s:=by rw [ld,if_pos hA]
        have g1 : decide (h.chain=s.other)=true:=decide_eq_true hA.1
        have htk' : ∀ o,Row 26 (sec s k.v) o→cellAt o 97=some (.bool true):=by rw [← hA.2];exact htk
        repeat (first | refine JL.q (by first|(apply OQ.af (cs:=h.chain.map U8);exact aN;exact aB;rfl;exact (.there (.there .here));exact hcl;exact (Row.cells (ej hc)))|(apply OQ.af (cs:=s.other.map U8);exact aN;exact aB;rfl;exact (.there (.there (.there (.there (.there .here)))));exact hot;exact (Row.cells (ei hs _)))|(apply OQ.yf;exact hc;exact hs.other;rfl;rfl;exact g1)|(apply OQ.load;exact fj;rfl;exact (.there (.there (.there (.there (.there .here)))));exact htk')|(apply OQ.not;rfl)|(apply OQ.cq;rfl;rfl)|(apply OQ.move;rfl)|(apply OQ.bM;rfl;rfl;rfl;exact (by decide);rfl)) rfl ?_ | refine JC.seq ?_ | refine JC.region ?_ | refine JL.nil ?_ | refine JE.next ?_ | refine JL.aS rfl rfl ?_)
        refine JC.cond_false rfl rfl ?_
        repeat (refine JC.skip ?_)
        exact JE.mid (⟨s,k,[]⟩ : J5) ⟨hon,hs,he,fun w' hw'=>hk.holds hw' rfl,hk0,(by show s.taken≤_;omega)⟩ (by repeat (first | exact ai.nil | refine ai.cons _ _ _ rfl ?_)) (aq.refl _)
      have hon0 : ld s h fresh=ou s h fresh:=by rw [ld,if_neg hA]
      obtain ⟨gg1,g1⟩ : ∃ g,decide (h.chain=s.other)=g:=⟨_,rfl⟩
      obtain ⟨g2,hg2⟩ : ∃ g,s.takes=g:=⟨_,rfl⟩
      have htk' : ∀ o,Row 26 (sec s k.v) o→cellAt o 97=some (.bool g2):=by rw [← hg2];exact htk
      have hgg : (gg1 && g2)=false:=by
        rw [← g1,← hg2,Bool.and_eq_false_iff]
        by_cases h1 : h.chain=s.other
        · exact .inr (by simpa using fun h2=>hA ⟨h1,h2⟩)
        · exact .inl (decide_eq_false h1)
      cases gg1
      case' true=>
        obtain rfl : g2=false:=hgg
      all_goals
        repeat (first | refine JL.q (by first|(apply OQ.af (cs:=h.chain.map U8);exact aN;exact aB;rfl;exact (.there (.there .here));exact hcl;exact (Row.cells (ej hc)))|(apply OQ.af (cs:=s.other.map U8);exact aN;exact aB;rfl;exact (.there (.there (.there (.there (.there .here)))));exact hot;exact (Row.cells (ei hs _)))|(apply OQ.yf;exact hc;exact hs.other;rfl;rfl;exact g1)|(apply OQ.load;exact fj;rfl;exact (.there (.there (.there (.there (.there .here)))));exact htk')|(apply OQ.not;rfl)|(apply OQ.cq;rfl;rfl)|(apply OQ.c9;rfl;rfl)|(apply OQ.move;rfl)|(apply OQ.bM;rfl;rfl;rfl;exact (by decide);rfl)) rfl ?_ | refine JC.seq ?_ | refine JC.region ?_ | refine JL.nil ?_ | refine JE.next ?_ | refine JL.aS rfl rfl ?_ | refine JL.fK rfl rfl rfl rfl ?_)
        refine JC.cond_true rfl rfl ?_
        refine JC.mid (fun _ : J5=>[(4,Pt b4 0),(7,Pt b7 0),(8,Pt b8 0),(11,Pt b11 0),(12,aC qh rest.length),(14,.slice (some ⟨bj,0,none⟩) W.length kj),(19,Pt b19 0)]) (fun r=>⟨b19,Row 26 (sec r.n r.K.v),true⟩::⟨bj,Sl.aD 5 1 W.length kj (W.map U8),true⟩::⟨b11,Row 32 (hdc h),true⟩::⟨b8,Row 26 (sec dI bw),true⟩::⟨b7,Row 23 (fresh.map U8),true⟩::⟨b4,Row 26 (sec s k.v),true⟩::(r.es++bS 5 qh (rest.map U8))) (ND w (if s.takes=true then leave s h.prev else some s)) ?_ ?_
        · by_cases hst : s.takes=true
          · have htk2 : ∀ o,Row 26 (sec s k.v) o→cellAt o 97=some (.bool true):=by rw [← hst];exact htk
            repeat (first | refine JL.q (by first|(apply OQ.load;exact fj;rfl;exact (.there (.there (.there (.there (.there .here)))));exact htk2)|(apply OQ.bM;rfl;rfl;rfl;exact (by decide);rfl)) rfl ?_ | refine JC.seq ?_ | refine JC.region ?_ | refine JL.nil ?_ | refine JE.next ?_)
            refine JC.cond_true rfl rfl ?_
            cases hlv : leave s h.prev with
            | none=>
              have hd:=m7 (side:=side.l) hv (sP (fresh:=fresh) hix (by rw [hon0,ou,if_pos hst,hlv];rfl))
              repeat (first | refine JL.q (by first|(apply OQ.af (cs:=sec s k.v);exact gL;exact dQ;rfl;exact .here;exact (hn _);exact Row.all)|(apply OQ.load;exact aR;rfl;exact (.there (.there .here));exact hr2)|(apply OQ.au (vs:=[.agg (sec s k.v).toArray,N h.prev]);exact jC;rfl;exact (fun w' _=>uY s k hs h.prev hlv w' (by omega) (by omega)))|(apply OQ.extract;rfl;rfl)|(apply OQ.move;rfl)|(apply OQ.bM;rfl;rfl;rfl;exact (by decide);rfl)) rfl ?_ | refine JC.seq ?_ | refine JC.region ?_)
              refine JL.ag (cs:=sec s k.v) dQ rfl rfl (hn _) (bD rfl) .here (hn _) ?_
              repeat (first | refine JL.q (by first|(apply OQ.not;rfl)|(apply OQ.move;rfl)|(apply OQ.assign;rfl)) rfl ?_ | refine JC.seq ?_ | refine JC.region ?_ | refine JL.nil ?_ | refine JE.next ?_)
              refine JC.cond_true rfl rfl ?_
              repeat (first | refine JL.q (by (apply OQ.af (cs:=sec s k.v);exact gL;exact dQ;rfl;exact (.there (.there (.there (.there (.there .here)))));exact (hn _);exact Row.all)) rfl ?_ | refine JC.seq ?_ | refine JC.region ?_)
              refine JL.ag (cs:=sec s k.v) dQ rfl rfl (hn _) (bD rfl) (.there (.there (.there .here))) (ay bC _) ?_
              repeat (first | refine JL.q (by (apply OQ.assign;rfl)) rfl ?_ | refine JL.nil ?_ | refine JE.next ?_)
              refine JC.ret ?_
              repeat (refine JE.aF ?_)
              exact JE.jU rfl (RV.av gL dQ rfl (.there (.there (.there .here))) (hn _) Row.all) (RV.tmp rfl) (RV.tmp rfl) fun w' hw=>herr hd rfl (hw.weak (aq.nil _))
            | some n1=>
            obtain ⟨hmo,hml,hmt⟩:=mB hs hlv
            have hmm:=fun v=>ay hmo v
            repeat (first | refine JL.q (by first|(apply OQ.af (cs:=sec s k.v);exact gL;exact dQ;rfl;exact .here;exact (hn _);exact Row.all)|(apply OQ.load;exact aR;rfl;exact (.there (.there .here));exact hr2)|(apply OQ.bM;rfl;rfl;rfl;exact (by decide);rfl)) rfl ?_ | refine JC.seq ?_ | refine JC.region ?_)
            refine JL.bY (ι:=yl n1.kept) (vs:=[.agg (sec s k.v).toArray,N h.prev]) (fun r=>.tuple #[.agg (sec n1 r.v).toArray,.bool true]) (fun r=>r.cO) jC rfl rfl (fun r=>r.wr) (fun w' hw'=>tf s k hs he hk0 h.prev n1 hlv w' (by omega) (by omega) (hk.holds hw' rfl)) ?_
            intro r
            refine JL.dM (M':=⟨b19,Row 26 (sec s k.v),true⟩::⟨bj,Sl.aD 5 1 W.length kj (W.map U8),true⟩::⟨b11,Row 32 (hdc h),true⟩::⟨b8,Row 26 (sec dI bw),true⟩::⟨b7,Row 23 (fresh.map U8),true⟩::⟨b4,Row 26 (sec s k.v),true⟩::(r.cO++bS 5 qh (rest.map U8))) (List.perm_append_comm_assoc _ [_,_,_,_,_,_] _) ?_
            have htv1 : r.v.oneCell'=true:=rfl
            repeat (refine JL.q (by first|(apply OQ.extract;rfl;rfl)|(apply OQ.move;rfl)) rfl ?_)
            refine JL.ag (cs:=sec n1 r.v) dQ rfl rfl (hmm _) (bD htv1) .here (hn _) ?_
            repeat (first | refine JL.q (by first|(apply OQ.not;rfl)|(apply OQ.move;rfl)|(apply OQ.assign;rfl)) rfl ?_ | refine JC.seq ?_ | refine JC.region ?_ | refine JL.nil ?_ | refine JE.next ?_)
            refine JC.cond_false rfl rfl ?_
            repeat (refine JC.skip ?_)
            exact JE.mid (⟨n1,r.K,r.cO⟩ : J5) ⟨by rw [if_pos hst],hmo,rfl,fun w' hw'=>yl.ok (M:=[]) hmo.kept (by rw [List.append_nil];exact hw'),hml,(by show n1.taken≤_;omega)⟩ (by repeat (first | exact ai.nil | refine ai.cons _ _ _ rfl ?_)) (aq.refl _)
          · have htk2 : ∀ o,Row 26 (sec s k.v) o→cellAt o 97=some (.bool false):=by rw [← (by simpa using hst : s.takes=false)];exact htk
            repeat (first | refine JL.q (by first|(apply OQ.load;exact fj;rfl;exact (.there (.there (.there (.there (.there .here)))));exact htk2)|(apply OQ.bM;rfl;rfl;rfl;exact (by decide);rfl)) rfl ?_ | refine JC.seq ?_ | refine JC.region ?_ | refine JL.nil ?_ | refine JE.next ?_)
            refine JC.cond_false rfl rfl ?_
            repeat (refine JC.skip ?_)
            exact JE.mid (⟨s,k,[]⟩ : J5) ⟨by rw [if_neg hst],hs,he,fun w' hw'=>hk.holds hw' rfl,hk0,(by show s.taken≤_;omega)⟩ (by repeat (first | exact ai.nil | refine ai.cons _ _ _ rfl ?_)) (aq.refl _)
        rintro ⟨n1,m8,es1⟩ ⟨on1,hno,hKl,hKo,hKn,hnt⟩
        dsimp only at on1 hno hKl hKo hKn hnt ⊢
        have honT : ld s h fresh=some (jk n1 h.chain fresh):=by
          rw [hon0,ou]
          by_cases hst : s.takes=true
          · rw [if_pos hst] at on1 ⊢
            rw [on1]
            rfl
          · rw [if_neg hst] at on1 ⊢
            cases on1
            rfl
        have okT:=qg hno hc hf
        have lT : m8.l=(jk n1 h.chain fresh).kept:=hKl
        have nT : (jk n1 h.chain fresh).kept.length≤2000:=hKn
        have tT : (jk n1 h.chain fresh).taken≤2147483648:=Nat.zero_le _
        have eT : jk n1 h.chain fresh=⟨cw (cw n1.root (aP n1.own h.chain)) (aP fresh h.chain),fresh,h.chain,true,true,en (cw n1.root (aP n1.own h.chain)) (aP fresh h.chain),en n1.root (aP n1.own h.chain),0,0,n1.sent,n1.kept⟩:=rfl
        have cM:=fun w' : World=>uG n1.own h.chain hno.own hc w'
        have cM2:=fun w' : World=>uG fresh h.chain hf hc w'
        have hm1 : (aP n1.own h.chain).length=32:=jh _
        have hm2 : (aP fresh h.chain).length=32:=jh _
        have cT:=fun w' : World=>x9 n1.root _ hno.root hm1 w'
        have hla : (cw n1.root (aP n1.own h.chain)).length=32:=fH _ _
        have cT2:=fun w' : World=>x9 _ _ hla hm2 w'
        have hla2 : (cw (cw n1.root (aP n1.own h.chain)) (aP fresh h.chain)).length=32:=fH _ _
        have hlt : (en n1.root (aP n1.own h.chain)).length=32:=fe _ _
        have hlt2 : (en (cw n1.root (aP n1.own h.chain)) (aP fresh h.chain)).length=32:=fe _ _
        generalize jk n1 h.chain fresh=tu at *
        generalize en (cw n1.root (aP n1.own h.chain)) (aP fresh h.chain)=c2 at *
        generalize cw (cw n1.root (aP n1.own h.chain)) (aP fresh h.chain)=a2 at *
        generalize en n1.root (aP n1.own h.chain)=c1 at *
        generalize cw n1.root (aP n1.own h.chain)=a1 at *
        generalize aP n1.own h.chain=m1 at *
        generalize aP fresh h.chain=m2 at *
        have l1 : (a1.map U8).length=32:=by rw [List.length_map];exact hla
        have l2 : (c1.map U8).length=32:=by rw [List.length_map];exact hlt
        have l3 : (a2.map U8).length=32:=by rw [List.length_map];exact hla2
        have l4 : (c2.map U8).length=32:=by rw [List.length_map];exact hlt2
        have l5 : (n1.root.map U8).length=32:=by rw [List.length_map];exact hno.root
        have l6 : (n1.own.map U8).length=32:=by rw [List.length_map];exact hno.own
        obtain ⟨kv,hkv⟩ : ∃ kv,m8.v=kv:=⟨_,rfl⟩
        have hkv1 : kv.oneCell'=true:=by rw [← hkv];rfl
        rw [hkv]
        have hn0:=ay hno kv
        have k1 : ({ n1 with other:=h.chain } : bu).ok:=⟨hno.root,hno.own,hc,hno.send,hno.take,hno.kept⟩
        have p1:=jG hno kv h.chain hc
        obtain ⟨s1,e101⟩ : ∃ x,({ n1 with other:=h.chain } : bu)=x:=⟨_,rfl⟩
        rw [e101] at k1 p1
        have hn1:=ay k1 kv
        have k2 : ({ s1 with root:=a1 } : bu).ok:=⟨hla,k1.own,k1.other,k1.send,k1.take,k1.kept⟩
        have p2:=fF k1 kv a1 hla
        obtain ⟨s2,e102⟩ : ∃ x,({ s1 with root:=a1 } : bu)=x:=⟨_,rfl⟩
        rw [e102] at k2 p2
        have hn2:=ay k2 kv
        have k3 : ({ s2 with take:=c1 } : bu).ok:=⟨k2.root,k2.own,k2.other,k2.send,hlt,k2.kept⟩
        have p3:=gp k2 kv c1 hlt
        obtain ⟨s3,e103⟩ : ∃ x,({ s2 with take:=c1 } : bu)=x:=⟨_,rfl⟩
        rw [e103] at k3 p3
        have hn3:=ay k3 kv
        have k4 : ({ s3 with own:=fresh } : bu).ok:=⟨k3.root,hf,k3.other,k3.send,k3.take,k3.kept⟩
        have p4:=jt k3 kv fresh hf
        obtain ⟨s4,e104⟩ : ∃ x,({ s3 with own:=fresh } : bu)=x:=⟨_,rfl⟩
        rw [e104] at k4 p4
        have hn4:=ay k4 kv
        have k5 : ({ s4 with root:=a2 } : bu).ok:=⟨hla2,k4.own,k4.other,k4.send,k4.take,k4.kept⟩
        have p5:=fF k4 kv a2 hla2
        obtain ⟨s5,e105⟩ : ∃ x,({ s4 with root:=a2 } : bu)=x:=⟨_,rfl⟩
        rw [e105] at k5 p5
        have hn5:=ay k5 kv
        have k6 : ({ s5 with send:=c2 } : bu).ok:=⟨k5.root,k5.own,k5.other,hlt2,k5.take,k5.kept⟩
        have p6:=iO k5 kv c2 hlt2
        obtain ⟨s6,e106⟩ : ∃ x,({ s5 with send:=c2 } : bu)=x:=⟨_,rfl⟩
        rw [e106] at k6 p6
        have hn6:=ay k6 kv
        have k7 : ({ s6 with bI:=true } : bu).ok:=⟨k6.root,k6.own,k6.other,k6.send,k6.take,k6.kept⟩
        have p7:=jH k6 kv true
        obtain ⟨s7,e107⟩ : ∃ x,({ s6 with bI:=true } : bu)=x:=⟨_,rfl⟩
        rw [e107] at k7 p7
        have hn7:=ay k7 kv
        have k8 : ({ s7 with takes:=true } : bu).ok:=⟨k7.root,k7.own,k7.other,k7.send,k7.take,k7.kept⟩
        have p8:=nF k7 kv true
        obtain ⟨s8,e108⟩ : ∃ x,({ s7 with takes:=true } : bu)=x:=⟨_,rfl⟩
        rw [e108] at k8 p8
        have hn8:=ay k8 kv
        have k9 : ({ s8 with prev:=n1.sent } : bu).ok:=⟨k8.root,k8.own,k8.other,k8.send,k8.take,k8.kept⟩
        have p9:=oL k8 kv n1.sent
        obtain ⟨s9,e109⟩ : ∃ x,({ s8 with prev:=n1.sent } : bu)=x:=⟨_,rfl⟩
        rw [e109] at k9 p9
        have hn9:=ay k9 kv
        have k10 : ({ s9 with sent:=0 } : bu).ok:=⟨k9.root,k9.own,k9.other,k9.send,k9.take,k9.kept⟩
        have p10:=kF k9 kv 0
        obtain ⟨s10,e110⟩ : ∃ x,({ s9 with sent:=0 } : bu)=x:=⟨_,rfl⟩
        rw [e110] at k10 p10
        have hn10:=ay k10 kv
        have k11 : ({ s10 with taken:=0 } : bu).ok:=⟨k10.root,k10.own,k10.other,k10.send,k10.take,k10.kept⟩
        have p11:=fN k10 kv 0
        obtain ⟨s11,e111⟩ : ∃ x,({ s10 with taken:=0 } : bu)=x:=⟨_,rfl⟩
        rw [e111] at k11 p11
        have hn11:=ay k11 kv
        have g1 : s1.root=n1.root∧s1.own=n1.own∧s1.other=h.chain:=by rw [← e101];exact ⟨rfl,rfl,rfl⟩
        have g4 : s4.root=a1∧s4.own=fresh∧s4.other=h.chain:=by rw [← e104,← e103,← e102,← e101];exact ⟨rfl,rfl,rfl⟩
        have g8 : s8.sent=n1.sent:=by rw [← e108,← e107,← e106,← e105,← e104,← e103,← e102,← e101]
        have gT : sec tu kv=sec s11 kv:=by rw [eT,← e111,← e110,← e109,← e108,← e107,← e106,← e105,← e104,← e103,← e102,← e101]
        have r1:=jV k1 kv
        have o1:=kE k1 kv
        have t1:=ei k1 kv
        rw [g1.1] at r1
        rw [g1.2.1] at o1
        rw [g1.2.2] at t1
        have r4:=jV k4 kv
        have o4:=kE k4 kv
        have t4:=ei k4 kv
        rw [g4.1] at r4
        rw [g4.2.1] at o4
        rw [g4.2.2] at t4
        have e8:=jW k8 kv
        rw [g8] at e8
        clear eT e111 e110 e109 e108 e107 e106 e105 e104 e103 e102 e101 g1 g4 g8
        repeat (first | refine JL.q (by first|(apply OQ.af (cs:=h.chain.map U8);exact aN;exact aB;rfl;exact (.there (.there .here));exact hcl;exact (Row.cells (ej hc)))|(apply OQ.bM;rfl;rfl;rfl;exact (by decide);rfl)) rfl ?_ | refine JC.seq ?_ | refine JC.region ?_)
        refine JL.aW (r:=sec n1 kv) (r':=sec s1 kv) aB rfl rfl hcl (aX _) .here (by rw [hn0,hcl];decide) p1 ?_
        repeat (first | refine JC.seq ?_ | refine JL.nil ?_ | refine JE.next ?_)
        let vs : Nat→Nat→Value:=fun j y=>match j with
          | 0=>Pt b19 0
          | 1=>.agg (n1.root.map U8).toArray
          | 2=>Pt b19 32
          | 3=>.agg (n1.own.map U8).toArray
          | 4=>Pt b19 64
          | 5=>.agg (h.chain.map U8).toArray
          | 6=>.agg (m1.map U8).toArray
          | 7=>.tuple #[.agg (a1.map U8).toArray,.agg (c1.map U8).toArray]
          | 8=>.tuple #[.agg (a1.map U8).toArray,.agg (c1.map U8).toArray]
          | 9=>.agg (a1.map U8).toArray
          | 10=>.agg (c1.map U8).toArray
          | 11=>Pt b19 0
          | 13=>Pt b19 130
          | _=>N 0
        let Ms : Nat→Nat→List aH:=fun j y=>match j with
          | 12=>[⟨b19,Row 26 (sec s2 kv),true⟩]
          | 14=>[⟨b19,Row 26 (sec s3 kv),true⟩]
          | 15=>[⟨b19,Row 26 (sec s1 kv),true⟩]
          | 16=>[⟨bj,Sl.aD 5 1 W.length kj (W.map U8),true⟩]
          | 17=>[⟨b11,Row 32 (hdc h),true⟩]
          | 18=>[⟨b8,Row 26 (sec dI bw),true⟩]
          | 19=>[⟨b7,Row 23 (fresh.map U8),true⟩]
          | 20=>[⟨b4,Row 26 (sec s k.v),true⟩]
          | 21=>(es1++bS 5 qh (rest.map U8))
          | _=>[]
        refine JC.grow (g:=⟨[(4,Pt b4 0),(7,Pt b7 0),(8,Pt b8 0),(11,Pt b11 0),(12,aC qh rest.length),(14,.slice (some ⟨bj,0,none⟩) W.length kj),(19,Pt b19 0)],22,vs,Ms,(fun j=>match j with | 1=>[(0,125)] | 3=>[(2,127)] | 5=>[(4,129)] | 6=>[(3,128),(5,130)] | 7=>[(1,126),(6,131)] | 8=>[(7,132)] | 9=>[(8,124)] | 10=>[(8,124)] | 12=>[(11,135),(9,133)] | 14=>[(13,136),(10,134)] | _=>[]),(fun j=>match j with | 1=>[15] | 3=>[15] | 5=>[15] | 12=>[15] | 14=>[12] | _=>[]),(fun j=>match j with | 12=>[15] | 14=>[12] | _=>[]),(fun j=>match j with | _=>none)⟩) [] [14,16,17,18,19,20,21] gm (by repeat (first | exact ai.nil | refine ai.cons _ _ _ rfl ?_)) ?_ (by kernel_rfl) (by kernel_rfl) (by kernel_rfl) ?_ ?_
        · show aq (_::_::_::_::_::_::((es1++bS 5 qh (rest.map U8))++[])) _;rw [List.append_nil];exact aq.refl _
        · refine ⟨?_,?_,?_,?_,?_,?_,?_,?_,?_,?_,?_,?_,?_,?_,?_,trivial⟩
          · (intro xx EF MF Q kk;(try refine JL.aS rfl rfl ?_);exact JL.q (OQ.bM rfl rfl rfl (by decide) rfl) rfl (JL.nil (kk default nofun)))
          · (intro xx EF MF Q kk;(try refine JL.aS rfl rfl ?_);exact JL.q (OQ.af (cs:=n1.root.map U8) aN aB rfl .here l5 (Row.cells r1)) rfl (JL.nil (kk default nofun)))
          · (intro xx EF MF Q kk;(try refine JL.aS rfl rfl ?_);exact JL.q (OQ.bM rfl rfl rfl (by decide) rfl) rfl (JL.nil (kk default nofun)))
          · (intro xx EF MF Q kk;(try refine JL.aS rfl rfl ?_);exact JL.q (OQ.af (cs:=n1.own.map U8) aN aB rfl .here l6 (Row.cells o1)) rfl (JL.nil (kk default nofun)))
          · (intro xx EF MF Q kk;(try refine JL.aS rfl rfl ?_);exact JL.q (OQ.bM rfl rfl rfl (by decide) rfl) rfl (JL.nil (kk default nofun)))
          · (intro xx EF MF Q kk;(try refine JL.aS rfl rfl ?_);exact JL.q (OQ.af (cs:=h.chain.map U8) aN aB rfl .here hcl (Row.cells t1)) rfl (JL.nil (kk default nofun)))
          · (intro xx EF MF Q kk;(try refine JL.aS rfl rfl ?_);exact JL.q (OQ.au (vs:=[.agg (n1.own.map U8).toArray,.agg (h.chain.map U8).toArray]) sy rfl fun w' _=>cM w') rfl (JL.nil (kk default nofun)))
          · (intro xx EF MF Q kk;(try refine JL.aS rfl rfl ?_);exact JL.q (OQ.au (vs:=[.agg (n1.root.map U8).toArray,.agg (m1.map U8).toArray]) uU rfl fun w' _=>cT w') rfl (JL.nil (kk default nofun)))
          · (intro xx EF MF Q kk;(try refine JL.aS rfl rfl ?_);exact JL.q (OQ.move rfl) rfl (JL.nil (kk default nofun)))
          · (intro xx EF MF Q kk;(try refine JL.aS rfl rfl ?_);exact JL.q (OQ.extract rfl rfl) rfl (JL.nil (kk default nofun)))
          · (intro xx EF MF Q kk;(try refine JL.aS rfl rfl ?_);exact JL.q (OQ.extract rfl rfl) rfl (JL.nil (kk default nofun)))
          · (intro xx EF MF Q kk;(try refine JL.aS rfl rfl ?_);exact JL.q (OQ.bM rfl rfl rfl (by decide) rfl) rfl (JL.nil (kk default nofun)))
          · (intro xx EF MF Q kk;exact JL.aW (r:=sec s1 kv) (r':=sec s2 kv) aB rfl rfl l1 (aX _) .here (by rw [hn1,l1];decide) p2 (JL.nil (kk default nofun)))
          · (intro xx EF MF Q kk;(try refine JL.aS rfl rfl ?_);exact JL.q (OQ.bM rfl rfl rfl (by decide) rfl) rfl (JL.nil (kk default nofun)))
          · (intro xx EF MF Q kk;exact JL.aW (r:=sec s2 kv) (r':=sec s3 kv) aB rfl rfl l2 (aX _) .here (by rw [hn2,l2];decide) p3 (JL.nil (kk default nofun)))
        · intro xx hx
          show JE _ _ _ _ _ [(4,Pt b4 0),(7,Pt b7 0),(8,Pt b8 0),(11,Pt b11 0),(12,aC qh rest.length),(14,.slice (some ⟨bj,0,none⟩) W.length kj),(19,Pt b19 0)] (⟨b19,Row 26 (sec s3 kv),true⟩::⟨bj,Sl.aD 5 1 W.length kj (W.map U8),true⟩::⟨b11,Row 32 (hdc h),true⟩::⟨b8,Row 26 (sec dI bw),true⟩::⟨b7,Row 23 (fresh.map U8),true⟩::⟨b4,Row 26 (sec s k.v),true⟩::((es1++bS 5 qh (rest.map U8))++[]))
          rw [List.append_nil]
          clear hx xx vs Ms
          repeat (first | refine JL.q (by first|(apply OQ.af (cs:=fresh.map U8);exact aN;exact aB;rfl;exact (.there (.there (.there (.there .here))));exact hlf;exact Row.all)|(apply OQ.bM;rfl;rfl;rfl;exact (by decide);rfl)) rfl ?_ | refine JC.seq ?_ | refine JC.region ?_ | refine JE.next ?_)
          refine JL.aW (r:=sec s3 kv) (r':=sec s4 kv) aB rfl rfl hlf (aX _) .here (by rw [hn3,hlf];decide) p4 ?_
          repeat (first | refine JC.seq ?_ | refine JL.nil ?_ | refine JE.next ?_)
          let vs : Nat→Nat→Value:=fun j y=>match j with
            | 0=>Pt b19 0
            | 1=>.agg (a1.map U8).toArray
            | 2=>Pt b19 32
            | 3=>.agg (fresh.map U8).toArray
            | 4=>Pt b19 64
            | 5=>.agg (h.chain.map U8).toArray
            | 6=>.agg (m2.map U8).toArray
            | 7=>.tuple #[.agg (a2.map U8).toArray,.agg (c2.map U8).toArray]
            | 8=>.tuple #[.agg (a2.map U8).toArray,.agg (c2.map U8).toArray]
            | 9=>.agg (a2.map U8).toArray
            | 10=>.agg (c2.map U8).toArray
            | 11=>Pt b19 0
            | 13=>Pt b19 98
            | _=>N 0
          let Ms : Nat→Nat→List aH:=fun j y=>match j with
            | 12=>[⟨b19,Row 26 (sec s5 kv),true⟩]
            | 14=>[⟨b19,Row 26 (sec s6 kv),true⟩]
            | 15=>[⟨b19,Row 26 (sec s4 kv),true⟩]
            | 16=>[⟨bj,Sl.aD 5 1 W.length kj (W.map U8),true⟩]
            | 17=>[⟨b11,Row 32 (hdc h),true⟩]
            | 18=>[⟨b8,Row 26 (sec dI bw),true⟩]
            | 19=>[⟨b7,Row 23 (fresh.map U8),true⟩]
            | 20=>[⟨b4,Row 26 (sec s k.v),true⟩]
            | 21=>(es1++bS 5 qh (rest.map U8))
            | _=>[]
          refine JC.grow (g:=⟨[(4,Pt b4 0),(7,Pt b7 0),(8,Pt b8 0),(11,Pt b11 0),(12,aC qh rest.length),(14,.slice (some ⟨bj,0,none⟩) W.length kj),(19,Pt b19 0)],22,vs,Ms,(fun j=>match j with | 1=>[(0,140)] | 3=>[(2,142)] | 5=>[(4,144)] | 6=>[(3,143),(5,145)] | 7=>[(1,141),(6,146)] | 8=>[(7,147)] | 9=>[(8,139)] | 10=>[(8,139)] | 12=>[(11,150),(9,148)] | 14=>[(13,151),(10,149)] | _=>[]),(fun j=>match j with | 1=>[15] | 3=>[15] | 5=>[15] | 12=>[15] | 14=>[12] | _=>[]),(fun j=>match j with | 12=>[15] | 14=>[12] | _=>[]),(fun j=>match j with | _=>none)⟩) [] [14,16,17,18,19,20,21] gm (by repeat (first | exact ai.nil | refine ai.cons _ _ _ rfl ?_)) ?_ (by kernel_rfl) (by kernel_rfl) (by kernel_rfl) ?_ ?_
          · show aq (_::_::_::_::_::_::((es1++bS 5 qh (rest.map U8))++[])) _;rw [List.append_nil];exact aq.refl _
          · refine ⟨?_,?_,?_,?_,?_,?_,?_,?_,?_,?_,?_,?_,?_,?_,?_,trivial⟩
            · (intro xx EF MF Q kk;(try refine JL.aS rfl rfl ?_);exact JL.q (OQ.bM rfl rfl rfl (by decide) rfl) rfl (JL.nil (kk default nofun)))
            · (intro xx EF MF Q kk;(try refine JL.aS rfl rfl ?_);exact JL.q (OQ.af (cs:=a1.map U8) aN aB rfl .here l1 (Row.cells r4)) rfl (JL.nil (kk default nofun)))
            · (intro xx EF MF Q kk;(try refine JL.aS rfl rfl ?_);exact JL.q (OQ.bM rfl rfl rfl (by decide) rfl) rfl (JL.nil (kk default nofun)))
            · (intro xx EF MF Q kk;(try refine JL.aS rfl rfl ?_);exact JL.q (OQ.af (cs:=fresh.map U8) aN aB rfl .here hlf (Row.cells o4)) rfl (JL.nil (kk default nofun)))
            · (intro xx EF MF Q kk;(try refine JL.aS rfl rfl ?_);exact JL.q (OQ.bM rfl rfl rfl (by decide) rfl) rfl (JL.nil (kk default nofun)))
            · (intro xx EF MF Q kk;(try refine JL.aS rfl rfl ?_);exact JL.q (OQ.af (cs:=h.chain.map U8) aN aB rfl .here hcl (Row.cells t4)) rfl (JL.nil (kk default nofun)))
            · (intro xx EF MF Q kk;(try refine JL.aS rfl rfl ?_);exact JL.q (OQ.au (vs:=[.agg (fresh.map U8).toArray,.agg (h.chain.map U8).toArray]) sy rfl fun w' _=>cM2 w') rfl (JL.nil (kk default nofun)))
            · (intro xx EF MF Q kk;(try refine JL.aS rfl rfl ?_);exact JL.q (OQ.au (vs:=[.agg (a1.map U8).toArray,.agg (m2.map U8).toArray]) uU rfl fun w' _=>cT2 w') rfl (JL.nil (kk default nofun)))
            · (intro xx EF MF Q kk;(try refine JL.aS rfl rfl ?_);exact JL.q (OQ.move rfl) rfl (JL.nil (kk default nofun)))
            · (intro xx EF MF Q kk;(try refine JL.aS rfl rfl ?_);exact JL.q (OQ.extract rfl rfl) rfl (JL.nil (kk default nofun)))
            · (intro xx EF MF Q kk;(try refine JL.aS rfl rfl ?_);exact JL.q (OQ.extract rfl rfl) rfl (JL.nil (kk default nofun)))
            · (intro xx EF MF Q kk;(try refine JL.aS rfl rfl ?_);exact JL.q (OQ.bM rfl rfl rfl (by decide) rfl) rfl (JL.nil (kk default nofun)))
            · (intro xx EF MF Q kk;exact JL.aW (r:=sec s4 kv) (r':=sec s5 kv) aB rfl rfl l3 (aX _) .here (by rw [hn4,l3];decide) p5 (JL.nil (kk default nofun)))
            · (intro xx EF MF Q kk;(try refine JL.aS rfl rfl ?_);exact JL.q (OQ.bM rfl rfl rfl (by decide) rfl) rfl (JL.nil (kk default nofun)))
            · (intro xx EF MF Q kk;exact JL.aW (r:=sec s5 kv) (r':=sec s6 kv) aB rfl rfl l4 (aX _) .here (by rw [hn5,l4];decide) p6 (JL.nil (kk default nofun)))
          · intro xx hx
            show JE _ _ _ _ _ [(4,Pt b4 0),(7,Pt b7 0),(8,Pt b8 0),(11,Pt b11 0),(12,aC qh rest.length),(14,.slice (some ⟨bj,0,none⟩) W.length kj),(19,Pt b19 0)] (⟨b19,Row 26 (sec s6 kv),true⟩::⟨bj,Sl.aD 5 1 W.length kj (W.map U8),true⟩::⟨b11,Row 32 (hdc h),true⟩::⟨b8,Row 26 (sec dI bw),true⟩::⟨b7,Row 23 (fresh.map U8),true⟩::⟨b4,Row 26 (sec s k.v),true⟩::((es1++bS 5 qh (rest.map U8))++[]))
            rw [List.append_nil]
            clear hx xx vs Ms
            repeat (first | refine JL.q (by (apply OQ.bM;rfl;rfl;rfl;exact (by decide);rfl)) rfl ?_ | refine JC.seq ?_ | refine JC.region ?_ | refine JE.next ?_)
            refine JL.az (r:=sec s6 kv) (r':=sec s7 kv) v8 rfl rfl rfl rfl .here (by rw [hn6];decide) p7 ?_
            repeat (first | refine JL.q (by (apply OQ.bM;rfl;rfl;rfl;exact (by decide);rfl)) rfl ?_ | refine JC.seq ?_ | refine JC.region ?_ | refine JL.nil ?_ | refine JE.next ?_)
            refine JL.az (r:=sec s7 kv) (r':=sec s8 kv) v8 rfl rfl rfl rfl .here (by rw [hn7];decide) p8 ?_
            repeat (first | refine JL.q (by first|(apply OQ.load;exact aR;rfl;exact .here;exact (Row.cell e8))|(apply OQ.bM;rfl;rfl;rfl;exact (by decide);rfl)) rfl ?_ | refine JC.seq ?_ | refine JC.region ?_ | refine JL.nil ?_ | refine JE.next ?_)
            refine JL.az (r:=sec s8 kv) (r':=sec s9 kv) nR rfl rfl rfl rfl .here (by rw [hn8];decide) p9 ?_
            repeat (first | refine JL.q (by (apply OQ.bM;rfl;rfl;rfl;exact (by decide);rfl)) rfl ?_ | refine JC.seq ?_ | refine JC.region ?_ | refine JL.nil ?_ | refine JE.next ?_)
            refine JL.az (r:=sec s9 kv) (r':=sec s10 kv) nR rfl rfl rfl rfl .here (by rw [hn9];decide) p10 ?_
            repeat (first | refine JL.q (by (apply OQ.bM;rfl;rfl;rfl;exact (by decide);rfl)) rfl ?_ | refine JC.region ?_ | refine JL.nil ?_ | refine JE.next ?_)
            refine JL.az (r:=sec s10 kv) (r':=sec s11 kv) nR rfl rfl rfl rfl .here (by rw [hn10];decide) p11 ?_
            repeat (refine JL.nil ?_)
            rw [← gT,← hkv]
            exact JE.mid (⟨tu,m8,es1⟩ : J5) ⟨honT,okT,lT,hKo,nT,tT⟩ (by repeat (first | exact ai.nil | refine ai.cons _ _ _ rfl ?_)) (aq.refl _)
    rintro ⟨n,kk,es⟩ ⟨hon,hno,hKl,hKo,hKn,hnt⟩
    dsimp only at hon hno hKl hKo hKn hnt ⊢
    have hnn:=fun v=>ay hno v
    have hnk : ∀ o,Row 26 (sec n kk.v) o→cellAt o 163=some (N n.taken):=Row.cell (dR hno _)
    have hkO : ∀ {w' : World} {A : List aH} {e1 e2 e3 e4 e5 e6 : aH},ah w [] (e1::e2::e3::e4::e5::e6::(es++A)) w'→kk.ok w':=fun hw=>hKo _ (hw.weak (.drop _ _ _ (.drop _ _ _ (.drop _ _ _ (.drop _ _ _ (.drop _ _ _ (.drop _ _ _ (ef _ _))))))))
    by_cases hold : h.num<n.taken
    · have hd:=m7 (side:=side.l) hv (Bb hix hon hold)
      repeat (first | refine JL.q (by first|(apply OQ.load;exact aR;rfl;exact (.there (.there .here));exact hr3)|(apply OQ.load;exact aR;rfl;exact .here;exact hnk)|(apply OQ.iz (a:=h.num) (b:=n.taken);rfl;rfl;exact hold)|(apply OQ.bM;rfl;rfl;rfl;exact (by decide);rfl)) rfl ?_ | refine JC.seq ?_ | refine JC.region ?_ | refine JL.nil ?_ | refine JE.next ?_)
      refine JC.cond_true rfl rfl ?_
      repeat (first | refine JL.q (by (apply OQ.af (cs:=sec s k.v);exact gL;exact dQ;rfl;exact (.there (.there (.there (.there (.there .here)))));exact (hn _);exact Row.all)) rfl ?_ | refine JC.seq ?_ | refine JC.region ?_)
      refine JL.ag (cs:=sec s k.v) dQ rfl rfl (hn _) (bD rfl) (.there (.there (.there .here))) (ay bC _) ?_
      repeat (first | refine JL.q (by (apply OQ.assign;rfl)) rfl ?_ | refine JL.nil ?_ | refine JE.next ?_)
      refine JC.ret ?_
      repeat (refine JE.aF ?_)
      exact JE.jU rfl (RV.av gL dQ rfl (.there (.there (.there .here))) (hn _) Row.all) (RV.tmp rfl) (RV.tmp rfl) fun w' hw=>herr hd rfl (hw.weak (aq.nil _))
    repeat (first | refine JL.q (by first|(apply OQ.load;exact aR;rfl;exact (.there (.there .here));exact hr3)|(apply OQ.load;exact aR;rfl;exact .here;exact hnk)|(apply OQ.gP (a:=h.num) (b:=n.taken);rfl;rfl;exact hold)|(apply OQ.bM;rfl;rfl;rfl;exact (by decide);rfl)) rfl ?_ | refine JC.seq ?_ | refine JC.region ?_ | refine JL.nil ?_ | refine JE.next ?_)
    refine JC.cond_false rfl rfl ?_
    cases hlv : leave n h.num with
    | none=>
      have hd:=m7 (side:=side.l) hv (Bc hix hon hold hlv)
      repeat (first | refine JL.q (by first|(apply OQ.af (cs:=sec n kk.v);exact gL;exact dQ;rfl;exact .here;exact (hnn _);exact Row.all)|(apply OQ.load;exact aR;rfl;exact (.there (.there .here));exact hr3)|(apply OQ.au (vs:=[.agg (sec n kk.v).toArray,N h.num]);exact jC;rfl;exact (fun w' _=>uY n kk hno h.num hlv w' (by omega) hnt))|(apply OQ.extract;rfl;rfl)|(apply OQ.move;rfl)|(apply OQ.bM;rfl;rfl;rfl;exact (by decide);rfl)) rfl ?_ | refine JC.seq ?_ | refine JC.region ?_ | refine JC.skip ?_ | refine JE.next ?_)
      refine JL.ag (cs:=sec n kk.v) dQ rfl rfl (hnn _) (bD rfl) .here (hnn _) ?_
      repeat (first | refine JL.q (by first|(apply OQ.not;rfl)|(apply OQ.move;rfl)|(apply OQ.assign;rfl)) rfl ?_ | refine JC.seq ?_ | refine JC.region ?_ | refine JL.nil ?_ | refine JE.next ?_)
      refine JC.cond_true rfl rfl ?_
      repeat (first | refine JL.q (by (apply OQ.af (cs:=sec s k.v);exact gL;exact dQ;rfl;exact (.there (.there (.there (.there (.there .here)))));exact (hn _);exact Row.all)) rfl ?_ | refine JC.seq ?_ | refine JC.region ?_)
      refine JL.ag (cs:=sec s k.v) dQ rfl rfl (hn _) (bD rfl) (.there (.there (.there .here))) (ay bC _) ?_
      repeat (first | refine JL.q (by (apply OQ.assign;rfl)) rfl ?_ | refine JL.nil ?_ | refine JE.next ?_)
      refine JC.ret ?_
      repeat (refine JE.aF ?_)
      exact JE.jU rfl (RV.av gL dQ rfl (.there (.there (.there .here))) (hn _) Row.all) (RV.tmp rfl) (RV.tmp rfl) fun w' hw=>herr hd rfl (hw.weak (aq.nil _))
    | some m=>
    have hmk:=Bd hix hon hold hlv
    obtain ⟨hmo,hml,hmt⟩:=mB hno hlv
    have hmm:=fun v=>ay hmo v
    repeat (first | refine JL.q (by first|(apply OQ.af (cs:=sec n kk.v);exact gL;exact dQ;rfl;exact .here;exact (hnn _);exact Row.all)|(apply OQ.load;exact aR;rfl;exact (.there (.there .here));exact hr3)|(apply OQ.bM;rfl;rfl;rfl;exact (by decide);rfl)) rfl ?_ | refine JC.seq ?_ | refine JC.region ?_ | refine JC.skip ?_ | refine JE.next ?_)
    refine JL.bY (ι:=yl m.kept) (vs:=[.agg (sec n kk.v).toArray,N h.num]) (fun r=>.tuple #[.agg (sec m r.v).toArray,.bool true]) (fun r=>r.cO) jC rfl rfl (fun r=>r.wr) (fun w' hw'=>tf n kk hno hKl hKn h.num m hlv w' (by omega) hnt (hkO hw')) ?_
    intro r
    refine JL.dM (M':=⟨b19,Row 26 (sec n kk.v),true⟩::⟨bj,Sl.aD 5 1 W.length kj (W.map U8),true⟩::⟨b11,Row 32 (hdc h),true⟩::⟨b8,Row 26 (sec dI bw),true⟩::⟨b7,Row 23 (fresh.map U8),true⟩::⟨b4,Row 26 (sec s k.v),true⟩::(r.cO++(es++bS 5 qh (rest.map U8)))) (List.perm_append_comm_assoc _ [_,_,_,_,_,_] _) ?_
    have htv1 : r.v.oneCell'=true:=rfl
    repeat (refine JL.q (by first|(apply OQ.extract;rfl;rfl)|(apply OQ.move;rfl)) rfl ?_)
    refine JL.ag (cs:=sec m r.v) dQ rfl rfl (hmm _) (bD htv1) .here (hnn _) ?_
    repeat (first | refine JL.q (by first|(apply OQ.not;rfl)|(apply OQ.move;rfl)|(apply OQ.assign;rfl)) rfl ?_ | refine JC.seq ?_ | refine JC.region ?_ | refine JL.nil ?_ | refine JE.next ?_)
    refine JC.cond_false rfl rfl ?_
    have lt : (m.take.map U8).length=32:=by rw [List.length_map];exact hmo.take
    have cst : ∀ (w' : World),Calls Tryz.prog 32 [.agg (m.take.map U8).toArray].toArray w' fun e w''=>e=.returned (.tuple #[.agg ((nt m.take).map U8).toArray,.agg ((lG m.take).map U8).toArray])∧Ext w' w'':=fun w'=>sQ m.take hmo.take w'
    have x1 : ({ m with take:=nt m.take } : bu).ok:=⟨hmo.root,hmo.own,hmo.other,hmo.send,rfl,hmo.kept⟩
    have p1:=gp hmo r.v (nt m.take) rfl
    have p2:=fN x1 r.v (m.taken+1)
    have hn2:=ay x1 r.v
    have ln : ((nt m.take).map U8).length=32:=rfl
    have lm : ((lG m.take).map U8).length=32:=rfl
    have lk : (lG m.take).length=32:=rfl
    have htr3 : ∀ o,Row 26 (sec { m with take:=nt m.take } r.v) o→cellAt o 163=some (N m.taken):=Row.cell (dR x1 _)
    have htn:=pC hmo
    have q1 : sec (eE m) r.v=sec { m with take:=nt m.take,taken:=m.taken+1 } r.v:=rfl
    have q2 : (eE m).kept=m.kept:=rfl
    have hnt3:=ay htn r.v
    have hdy:=pF (side:=side.l) (fresh:=fresh) hv hmk
    have hdn:=sO (side:=side.l) (fresh:=fresh) hv hmk
    rw [hW] at hdy hdn
    generalize eE m=tm at *
    generalize nt m.take=nx at *
    generalize lG m.take=ms at *
    obtain ⟨o,hoe⟩ : ∃ o,iw ms W rest=o:=⟨_,rfl⟩
    rw [hoe] at hdy hdn
    have hoK : ij (k1 ms) (k2 ms) xP W rest=o:=hoe
    have hzS:=rF qh rest
    have hzl2:=pQ hqh
    repeat (first | refine JL.q (by first|(apply OQ.af (cs:=m.take.map U8);exact aN;exact aB;rfl;exact .here;exact lt;exact (Row.cells (l9 hmo _)))|(apply OQ.au (vs:=[.agg (m.take.map U8).toArray]);exact qw;rfl;exact (fun w' _=>cst w'))|(apply OQ.extract;rfl;rfl)|(apply OQ.move;rfl)|(apply OQ.bM;rfl;rfl;rfl;exact (by decide);rfl)) rfl ?_ | refine JC.seq ?_ | refine JC.region ?_ | refine JC.skip ?_ | refine JE.next ?_)
    refine JL.alloc ir rfl fun b21 _=>?_
    refine JL.alloc ir rfl fun b22 _=>?_
    refine JL.ag (cs:=nx.map U8) aB rfl rfl ln (aX _) (.there .here) (by simp) ?_
    refine JL.ag (cs:=ms.map U8) aB rfl rfl lm (aX _) .here (by simp) ?_
    repeat (first | refine JL.q (by first|(apply OQ.af (cs:=nx.map U8);exact aN;exact aB;rfl;exact (.there .here);exact ln;exact Row.all)|(apply OQ.bM;rfl;rfl;rfl;exact (by decide);rfl)) rfl ?_ | refine JC.seq ?_ | refine JC.region ?_ | refine JL.nil ?_ | refine JE.next ?_)
    refine JL.aW (r:=sec m r.v) (r':=sec { m with take:=nx } r.v) aB rfl rfl ln (aX _) (.there (.there .here)) (by rw [hmm,ln];decide) p1 ?_
    repeat (first | refine JL.q (by first|(apply OQ.load;exact aR;rfl;exact (.there (.there .here));exact htr3)|(apply OQ.aZ (a:=m.taken) (b:=1);rfl;rfl;exact (by omega))|(apply OQ.bM;rfl;rfl;rfl;exact (by decide);rfl)) rfl ?_ | refine JC.seq ?_ | refine JC.region ?_ | refine JL.nil ?_ | refine JE.next ?_)
    refine JL.az (r:=sec { m with take:=nx } r.v) (r':=sec { m with take:=nx,taken:=m.taken+1 } r.v) nR rfl rfl rfl rfl (.there (.there .here)) (by rw [hn2];decide) p2 ?_
    rw [← q1]
    repeat (first | refine JL.q (by (apply OQ.af (cs:=ms.map U8);exact aN;exact aB;rfl;exact .here;exact lm;exact Row.all)) rfl ?_ | refine JC.seq ?_ | refine JC.region ?_ | refine JL.nil ?_ | refine JE.next ?_)
    refine JL.q (OQ.pure (v:=.agg (xP.map U8).toArray) rfl rfl (by kernel_rfl)) rfl ?_
    repeat (refine JL.q (by (apply OQ.move;rfl)) rfl ?_)
    refine JL.bY (ι:=Hf o.1) (vs:=[.agg (ms.map U8).toArray,.agg (xP.map U8).toArray,.slice (some ⟨bj,0,none⟩) W.length kj,aC qh rest.length]) (fun i=>.tuple #[i.1.v,N o.2]) (fun i=>i.1.cO) sU rfl rfl (fun i=>aO.iK _) (fun w' hw'=>sV (s:=⟨some ⟨bj,0,none⟩,kj,W⟩) (z:=wH qh rest) rfl hzS (by rw [hzl2];exact hoK) lk rfl (ec hw' (.there (.there (.there .here)))) (rG (e:=5) (M:=[]) (by rw [List.append_nil];exact hw'.weak (.drop _ _ _ (.drop _ _ _ (.drop _ _ _ (.drop _ _ _ (.drop _ _ _ (.drop _ _ _ (.drop _ _ _ (.drop _ _ _ (fM _ (fM _ (aq.refl _)))))))))))) ) (by show W.length<_;omega) (by rw [hzl2];omega)) ?_
    rintro ⟨pl,hpl⟩
    dsimp only
    refine JL.dM (M':=⟨b22,Row 23 (ms.map U8),true⟩::⟨b21,Row 23 (nx.map U8),true⟩::⟨b19,Row 26 (sec tm r.v),true⟩::⟨bj,Sl.aD 5 1 W.length kj (W.map U8),true⟩::⟨b11,Row 32 (hdc h),true⟩::⟨b8,Row 26 (sec dI bw),true⟩::⟨b7,Row 23 (fresh.map U8),true⟩::⟨b4,Row 26 (sec s k.v),true⟩::(pl.cO++(r.cO++(es++bS 5 qh (rest.map U8))))) (List.perm_append_comm_assoc _ [_,_,_,_,_,_,_,_] _) ?_
    by_cases ho : o.2=0
    · have hd:=hdy ho
      have eo : decide ((o.2 : Int)=0)=true:=decide_eq_true (by omega)
      repeat (first | refine JL.q (by first|(apply OQ.extract;rfl;rfl)|(apply OQ.tr (a:=(o.2 : Int)) (b:=0);rfl;rfl;exact eo)|(apply OQ.move;rfl)|(apply OQ.assign;rfl)) rfl ?_ | refine JC.seq ?_ | refine JC.region ?_ | refine JL.nil ?_ | refine JE.next ?_)
      refine JC.cond_false rfl rfl ?_
      repeat (first | refine JL.q (by first|(apply OQ.af (cs:=sec tm r.v);exact gL;exact dQ;rfl;exact (.there (.there .here));exact hnt3;exact Row.all)|(apply OQ.move;rfl)) rfl ?_ | refine JC.seq ?_ | refine JC.region ?_ | refine JC.skip ?_ | refine JE.next ?_)
      refine JL.ag (cs:=sec tm r.v) dQ rfl rfl hnt3 (bD htv1) (.there (.there (.there (.there (.there .here))))) (ay bC _) ?_
      repeat (first | refine JL.q (by (apply OQ.assign;rfl)) rfl ?_ | refine JL.nil ?_ | refine JE.next ?_)
      refine JC.ret ?_
      skip
      refine JE.jU rfl (RV.av gL dQ rfl (.there (.there (.there (.there (.there .here))))) hnt3 Row.all) (RV.tmp rfl) (RV.tmp rfl) fun w' hw=>?_
      rw [hd]
      exact ⟨⟨r.K,pl,pl.cO++r.cO,q2.symm,hpl.val,.inr fun hw=>yl.ok hmo.kept (hw.weak (by rw [List.append_assoc];exact fM _ (aq.refl _))),fun hw=>aO.kD (by rw [List.append_assoc] at hw;exact hw) hpl.none,fun e he=>by rcases List.mem_append.1 he with h | h;exact aO.iK _ e h;exact r.wr e h⟩,rfl,hw.weak (.drop _ _ _ (.drop _ _ _ (.drop _ _ _ (.drop _ _ _ (.drop _ _ _ (.drop _ _ _ (.drop _ _ _ (.drop _ _ _ (by rw [← List.append_assoc];exact ef _ _)))))))))⟩
    · have hd:=hdn ho
      have eo : decide ((o.2 : Int)=0)=false:=decide_eq_false (by omega)
      repeat (first | refine JL.q (by first|(apply OQ.extract;rfl;rfl)|(apply OQ.tr (a:=(o.2 : Int)) (b:=0);rfl;rfl;exact eo)|(apply OQ.move;rfl)|(apply OQ.assign;rfl)) rfl ?_ | refine JC.seq ?_ | refine JC.region ?_ | refine JL.nil ?_ | refine JE.next ?_)
      refine JC.cond_true rfl rfl ?_
      repeat (first | refine JL.q (by first|(apply OQ.af (cs:=sec s k.v);exact gL;exact dQ;rfl;exact (.there (.there (.there (.there (.there (.there (.there .here)))))));exact (hn _);exact Row.all)|(apply OQ.move;rfl)) rfl ?_ | refine JC.seq ?_ | refine JC.region ?_)
      refine JL.ag (cs:=sec s k.v) dQ rfl rfl (hn _) (bD rfl) (.there (.there (.there (.there (.there .here))))) (ay bC _) ?_
      repeat (first | refine JL.q (by (apply OQ.assign;rfl)) rfl ?_ | refine JL.nil ?_ | refine JE.next ?_)
      refine JC.ret ?_
      repeat (refine JE.aF ?_)
      exact JE.jU rfl (RV.av gL dQ rfl (.there (.there (.there (.there (.there .here))))) (hn _) Row.all) (RV.tmp rfl) (RV.tmp rfl) fun w' hw=>herr hd rfl (hw.weak (aq.nil _))
end
section
open Sl iB mO dZ n5
open qG (Bk)
theorem CZ {s n : bu} {h : Hd} {fresh key : Bk} (hs : s.ok) (hc : h.chain.length=32) (hf : fresh.length=32) (hk : s.kept.length≤2000) (e : ko s h fresh=.inr (n,key)) : n.ok∧n.kept.length≤2000:=by
  rw [ko] at e
  split at e
  · next i hi=>
    have e:=(Prod.mk.inj (Sum.inr.inj e)).1
    rw [← e]
    refine ⟨qE hs i,?_⟩
    show (s.kept.eraseIdx i).length≤2000
    have:=List.length_eraseIdx_le s.kept i
    omega
  · split at e
    · cases e
    · next m hm=>
      split at e
      · cases e
      · split at e
        · cases e
        · next q hq=>
          have e:=(Prod.mk.inj (Sum.inr.inj e)).1
          have hmo : m.ok:=by
            rw [ld] at hm
            split at hm
            · cases hm;exact hs
            · exact (v7 hs hc hf hk hm).1
          obtain ⟨h1,h2,_⟩:=mB hmo hq
          rw [← e]
          exact ⟨pC h1,h2⟩
theorem C0 (key side z : Bk) : (iw key side z).1.length≤z.length:=by
  show (ij _ _ _ _ _).1.length≤_
  unfold ij
  split
  · exact Nat.zero_le _
  · split
    · show (fR _ _ _ _).length≤_
      rw [ew,List.length_take]
      omega
    · exact Nat.zero_le _
theorem C1 {s : bu} (hs : s.ok) (hk : s.kept.length≤2000) {side z fresh : Bk} (hf : fresh.length=32) : (fO s side z fresh).1.ok∧(fO s side z fresh).1.kept.length≤2000∧(fO s side z fresh).2.1.length≤z.length:=by
  cases hv : dU z with
  | none=>rw [pD hv];exact ⟨hs,hk,Nat.zero_le _⟩
  | some hr=>
    obtain ⟨h,r⟩:=hr
    obtain ⟨hc,_,_,hre,_,_⟩:=hO hv
    cases hm : ko s h fresh with
    | inl c=>rw [m7 hv hm];exact ⟨hs,hk,Nat.zero_le _⟩
    | inr nk=>
      obtain ⟨n,key⟩:=nk
      by_cases ho : (iw key (side++ee h) r).2=0
      · rw [pF hv hm ho]
        obtain ⟨h1,h2⟩:=CZ hs hc hf hk hm
        refine ⟨h1,h2,?_⟩
        show (iw _ _ _).1.length≤_
        have:=C0 key (side++ee h) r
        rw [hre,List.length_drop] at this
        rw [hre]
        omega
      · rw [sO hv hm ho]
        exact ⟨hs,hk,Nat.zero_le _⟩
end
section
namespace Sl
variable {Y : Type}
structure dw (Y : Type) where
  E0 : Env
  N : Nat
  v : Nat→Y→Value
  M : Nat→Y→List aH
  need : Nat→List (Nat × Nat)
  jF : Nat→List Nat
  qn : Nat→List Nat
  src : Nat→List Nat
  E1 : Nat→Env
  R : Nat→Nat→Y→Y→Prop
def dw.Dq (g : dw Y) (l : List Oper) (i : Nat) : Bool:=
  (g.E1 i).all fun p=>(List.range l.length).all fun k=>dD l k != some p.1 || (k != i && bU l k i)
def dw.jT (g : dw Y) (l : List Oper) (i : Nat) (o : Oper) : Bool:=
  (((g.need i).all (fun p=>behind o p.1 && dD l p.1 == some p.2) && (g.src i).all fun k=>behind o k) && g.Dq l i) &&
  ((g.jF i).all (fun j=>decide (j<g.N) && (decide (l.length≤j) || behind o j)) &&
  ((g.qn i).all (fun j=>(g.jF i).contains j) &&
  ((List.range l.length).all (fun k=>k == i || (g.qn k).all fun j=>!(g.jF i).contains j || bU l k i) &&
  (nD (g.jF i) && (o.after.toList.all (fun e=>!Region.binds .any e || decide (e.on<i)) && kC l g.E0 i o.dst)))))
def dw.fh (g : dw Y) (l : List Oper) : Nat→List Oper→Bool
  | _,[]=>true
  | i,o::r=>g.jT l i o && g.fh l (i+1) r
theorem dw.bW {g : dw Y} {l : List Oper} : ∀ {r : List Oper} {i : Nat},g.fh l i r=true→∀ {j o},r[j]?=some o→g.jT l (i+j) o=true
  | [],_,_,j,o,h=>by simp at h
  | q::r,i,hk,j,o,h=>by
    simp only [dw.fh,Bool.and_eq_true] at hk
    cases j with
    | zero=>
      simp only [List.getElem?_cons_zero,Option.some.injEq] at h
      subst h
      exact hk.1
    | succ j=>
      have:=dw.bW hk.2 (j:=j) (o:=o) (by simpa using h)
      rwa [show i+1+j=i+(j+1) by omega] at this
def dw.HG (g : dw Y) (P : Program) (n : Nat) (w0 : World) (S : List Nat) (l : List Oper) (i : Nat) (o : Oper) : Prop:=
  ∀ (x : Nat→Y) (EF : Env) (MF : List aH) (Q : Exit→Act→World→Prop),
    (∀ xi : Y,(∀ k,k ∈ g.src i→g.R i k xi (x k))→JE n w0 S Q .normal (slot o.dst (g.v i xi)++((g.need i).map (fun p=>(p.2,g.v p.1 (x p.1)))++(g.E0++(g.E1 i++EF)))) (g.M i xi++(((g.jF i).filter fun j=>!(g.qn i).contains j).flatMap (fun j=>g.M j (x j))++MF)))→
    JL P n w0 S l.toArray Q [o] ((g.need i).map (fun p=>(p.2,g.v p.1 (x p.1)))++(g.E0++(g.E1 i++EF))) ((g.jF i).flatMap (fun j=>g.M j (x j))++MF)
def dw.nZ (g : dw Y) (P : Program) (n : Nat) (w0 : World) (S : List Nat) (l : List Oper) : Nat→List Oper→Prop
  | _,[]=>True
  | i,o::r=>g.HG P n w0 S l i o∧g.nZ P n w0 S l (i+1) r
theorem dw.js {g : dw Y} {P : Program} {n : Nat} {w0 : World} {S : List Nat} {l : List Oper} : ∀ {r : List Oper} {i : Nat},g.nZ P n w0 S l i r→∀ {j o},r[j]?=some o→g.HG P n w0 S l (i+j) o
  | [],_,_,j,o,h=>by simp at h
  | q::r,i,hk,j,o,h=>by
    cases j with
    | zero=>
      simp only [List.getElem?_cons_zero,Option.some.injEq] at h
      subst h
      exact hk.1
    | succ j=>
      have:=dw.js hk.2 (j:=j) (o:=o) (by simpa using h)
      rwa [show i+1+j=i+(j+1) by omega] at this
def dw.live (g : dw Y) (m : Nat) (done : Array Bool) (j : Nat) : Prop:=j<g.N∧(m≤j∨done.getD j false=true)∧∀ k,done.getD k false=true→j ∉ g.qn k
structure dw.Inv (g : dw Y) (n : Nat) (w0 : World) (S : List Nat) (l : List Oper) (done : Array Bool) (x : Nat→Y) (a : Act) (w : World) : Prop where
  size : a.tmps.size=n
  defers : a.defers=[]
  nE : done.size=l.length
  base : ∀ p ∈ g.E0,a.tmps.getD p.1 undef=p.2
  first : ∀ j,j<l.length→done.getD j false=false→∀ p ∈ g.E1 j,a.tmps.getD p.1 undef=p.2
  vals : ∀ j d,done.getD j false=true→dD l j=some d→a.tmps.getD d undef=g.v j (x j)
  rel : ∀ j k,done.getD j false=true→k ∈ g.src j→g.R j k (x j) (x k)
  down : ∀ j i,done.getD j false=true→bU l j i=true→done.getD i false=true
  mem : iA w0 S (g.live l.length done) (fun j=>g.M j (x j)) w
section
variable {P : Program} {n : Nat} {w0 : World} {S : List Nat} {Q : Exit→Act→World→Prop} {E : Env} {M : List aH} {g : dw Y} {l : List Oper}
theorem dw.run (hok : g.fh l 0 l=true) (hj : g.nZ P n w0 S l 0 l)
    (hend : ∀ done x a w,g.Inv n w0 S l done x a w→(∀ j,j<l.length→done.getD j false=true)→Q .normal a w) :
    ∀ (f : Nat) (done : Array Bool) (x : Nat→Y) (a : Act) (w : World),f=(List.range l.length).countP (fun j=>!done.getD j false)→g.Inv n w0 S l done x a w→wpAny P .any l.toArray Q f done a w:=by
  have hrdy : ∀ done : Array Bool,done.size=l.length→Region.ready .any l.toArray done=[]→∀ j,j<l.length→done.getD j false=true:=by
    intro done hds hr j
    induction j using Nat.strongRecOn with
    | _ j ih=>
      intro hjl
      cases hd : done.getD j false with
      | true=>rfl
      | false=>
        obtain ⟨o,ho⟩ : ∃ o,l[j]?=some o:=⟨_,List.getElem?_eq_getElem hjl⟩
        have hk:=dw.bW hok ho
        simp only [dw.jT,Bool.and_eq_true,Nat.zero_add] at hk
        have hkk:=hk.2.2.2.2.2.1
        have : j ∈ Region.ready .any l.toArray done:=by
          rw [mem_ready]
          refine ⟨?_,o,by simpa using ho,fun e he hb=>?_⟩
          · rw [Array.getD_eq_getD_getElem?,Array.getElem?_eq_getElem (by omega)] at hd ⊢
            simpa using hd
          · have:=List.all_eq_true.1 hkk e (by simpa using he)
            simp only [hb,Bool.not_true,Bool.false_or,decide_eq_true_eq] at this
            exact ih e.on this (by omega)
        rw [hr] at this
        cases this
  intro f
  induction f with
  | zero=>
    intro done x a w hf hI
    have hall : ∀ j,j<l.length→done.getD j false=true:=fun j hjl=>by
      have:=List.countP_eq_zero.1 hf.symm j (List.mem_range.2 hjl)
      simpa using this
    refine ⟨?_,hend done x a w hI hall⟩
    refine List.eq_nil_iff_forall_not_mem.2 fun i hi=>?_
    obtain ⟨hu,o,ho,_⟩:=mem_ready.1 hi
    have hil : i<l.length:=by
      have:=(Array.getElem?_eq_some_iff.1 ho).1
      simpa using this
    have:=hall i hil
    rw [Array.getD_eq_getD_getElem?,Array.getElem?_eq_getElem (by have:=hI.nE;omega)] at hu this
    simp only [Option.getD_some] at hu this
    rw [hu] at this
    cases this
  | succ f ih=>
    intro done x a w hf hI
    have hds:=hI.nE
    refine ⟨fun h0=>hend done x a w hI (hrdy done hds h0),fun i hi=>?_⟩
    obtain ⟨hu,o,ho,hbe⟩:=mem_ready.1 hi
    have hil : i<l.length:=by
      have:=(Array.getElem?_eq_some_iff.1 ho).1
      simpa using this
    have ho' : l[i]?=some o:=by simpa using ho
    have hu' : done.getD i false=false:=by
      rw [Array.getD_eq_getD_getElem?,Array.getElem?_eq_getElem (by omega)] at hu ⊢
      simpa using hu
    have hk:=dw.bW hok ho'
    simp only [dw.jT,Bool.and_eq_true,Nat.zero_add] at hk
    obtain ⟨⟨⟨k1,k8⟩,k9⟩,k2,k3,k4,k5,_,k7⟩:=hk
    have hbeh : ∀ j,behind o j=true→done.getD j false=true:=fun j hj=>by
      simp only [behind,List.any_eq_true,Bool.and_eq_true,beq_iff_eq] at hj
      obtain ⟨e,he,rfl,hb⟩:=hj
      exact hbe e (by simpa using he) hb
    have hbi : ∀ k,bU l k i=true→done.getD k false=false:=fun k hk=>by
      cases h : done.getD k false with
      | false=>rfl
      | true=>have:=hI.down k i h hk;rw [hu'] at this;cases this
    have hinp : ∀ j ∈ g.jF i,g.live l.length done j:=by
      intro j hj
      have h2:=List.all_eq_true.1 k2 j hj
      simp only [Bool.and_eq_true,Bool.or_eq_true,decide_eq_true_eq] at h2
      refine ⟨h2.1,h2.2.imp id (hbeh j),fun k hkd hjk=>?_⟩
      have hkl : k<l.length:=by
        by_cases h : k<l.length
        · exact h
        · rw [Array.getD_eq_getD_getElem?,Array.getElem?_eq_none (by omega)] at hkd
          cases hkd
      have h4:=List.all_eq_true.1 k4 k (List.mem_range.2 hkl)
      have hki : k≠i:=fun e=>by rw [e,hu'] at hkd;cases hkd
      simp only [Bool.or_eq_true,beq_iff_eq,hki,false_or] at h4
      have h5:=List.all_eq_true.1 h4 j hjk
      simp only [Bool.or_eq_true,Bool.not_eq_true',List.contains_eq_mem,decide_eq_false_iff_not,hj,not_true,false_or] at h5
      rw [hbi k h5] at hkd
      cases hkd
    have hdone_ne : ∀ j,done.getD j false=true→j≠i:=fun j hj e=>by rw [e,hu'] at hj;cases hj
    have hlen : ∀ k,done.getD k false=true→k<l.length:=fun k hkd=>by
      by_cases h : k<l.length
      · exact h
      · rw [Array.getD_eq_getD_getElem?,Array.getElem?_eq_none (by omega)] at hkd
        cases hkd
    have hdi : dD l i=o.dst:=by simp [dD,ho']
    have hne : ∀ j d,done.getD j false=true→dD l j=some d→o.dst≠some d:=by
      intro j d hjd hd he
      rw [he] at k7
      simp only [kC,Bool.and_eq_true] at k7
      have:=List.all_eq_true.1 k7.1 j (List.mem_range.2 (hlen j hjd))
      simp [hdone_ne j hjd,hd] at this
    have hne0 : ∀ p ∈ g.E0,o.dst≠some p.1:=by
      intro p hp he
      rw [he] at k7
      simp only [kC,Bool.and_eq_true] at k7
      have:=List.all_eq_true.1 k7.2 p hp
      simp at this
    let rest : List Nat:=(List.range g.N).filter fun j=>@decide (g.live l.length done j) (Classical.propDecidable _) && !(g.jF i).contains j
    have hrest : ∀ j,j ∈ rest↔g.live l.length done j∧j ∉ g.jF i:=by
      intro j
      simp only [rest,List.mem_filter,List.mem_range,Bool.and_eq_true,Bool.not_eq_true',List.contains_eq_mem,decide_eq_false_iff_not]
      refine ⟨fun ⟨_,h2,h3⟩=>⟨@of_decide_eq_true _ (Classical.propDecidable _) h2,h3⟩,fun ⟨h2,h3⟩=>⟨h2.1,@decide_eq_true _ (Classical.propDecidable _) h2,h3⟩⟩
    have hnd : (g.jF i++rest).Nodup:=by
      rw [List.nodup_append]
      refine ⟨iX k5,List.nodup_range.filter _,fun a ha b hb e=>?_⟩
      exact ((hrest b).1 hb).2 (e ▸ ha)
    have H1:=hI.mem.to (g.jF i++rest) hnd (fun j hj=>by
      rcases List.mem_append.1 hj with h | h
      · exact hinp j h
      · exact ((hrest j).1 h).1)
    rw [List.flatMap_append] at H1
    let EF0 : Env:=(List.range l.length).filterMap fun j=>if done.getD j false=true then (dD l j).map (fun d=>(d,g.v j (x j))) else none
    let EF1 : Env:=(List.range l.length).flatMap fun j=>if done.getD j false=true then [] else g.E1 j
    let EF : Env:=EF0++EF1
    have hEF : ∀ p,p ∈ EF0↔∃ j d,done.getD j false=true∧dD l j=some d∧p=(d,g.v j (x j)):=by
      intro p
      simp only [EF0,List.mem_filterMap,List.mem_range]
      constructor
      · rintro ⟨j,_,hp⟩
        split at hp
        · rename_i hjd
          obtain ⟨d,hd,rfl⟩:=Option.map_eq_some_iff.1 hp
          exact ⟨j,d,hjd,hd,rfl⟩
        · cases hp
      · rintro ⟨j,d,hjd,hd,rfl⟩
        exact ⟨j,hlen j hjd,by rw [if_pos hjd,hd];rfl⟩
    have hEF1 : ∀ j,j<l.length→done.getD j false=false→∀ p ∈ g.E1 j,p ∈ EF1:=by
      intro j hjl hjd p hp
      simp only [EF1,List.mem_flatMap,List.mem_range]
      exact ⟨j,hjl,by rw [if_neg (by rw [hjd];decide)];exact hp⟩
    have hne1 : ∀ j,j<l.length→done.getD j false=false→∀ p ∈ g.E1 j,o.dst≠some p.1:=by
      intro j hjl hjd p hp he
      have hjo : l[j]?=some (l[j]'hjl):=List.getElem?_eq_getElem hjl
      have hkj:=dw.bW hok hjo
      simp only [dw.jT,Bool.and_eq_true,Nat.zero_add] at hkj
      have h9:=List.all_eq_true.1 hkj.1.2 p hp
      have h10:=List.all_eq_true.1 h9 i (List.mem_range.2 hil)
      simp only [hdi,he,bne_self_eq_false,Bool.false_or,Bool.and_eq_true] at h10
      have h11 : behind o j=true:=by simpa [bU,ho'] using h10.2
      rw [hbeh j h11] at hjd
      cases hjd
    have hneed : ∀ p ∈ g.need i,done.getD p.1 false=true∧dD l p.1=some p.2:=by
      intro p hp
      have h1:=List.all_eq_true.1 k1 p hp
      simp only [Bool.and_eq_true,beq_iff_eq] at h1
      exact ⟨hbeh _ h1.1,h1.2⟩
    have hK : ∀ p ∈ ((g.need i).map (fun p=>(p.2,g.v p.1 (x p.1)))++(g.E0++(g.E1 i++EF))),a.tmps.getD p.1 undef=p.2∧o.dst≠some p.1:=by
      intro p hp
      rcases List.mem_append.1 hp with h | h
      · obtain ⟨q,hq,rfl⟩:=List.mem_map.1 h
        obtain ⟨h1,h2⟩:=hneed q hq
        exact ⟨hI.vals _ _ h1 h2,hne _ _ h1 h2⟩
      · rcases List.mem_append.1 h with h | h
        · exact ⟨hI.base p h,hne0 p h⟩
        · rcases List.mem_append.1 h with h | h
          · exact ⟨hI.first i hil hu' p h,hne1 i hil hu' p h⟩
          · rcases List.mem_append.1 h with h | h
            · obtain ⟨j,d,h1,h2,rfl⟩:=(hEF p).1 h
              exact ⟨hI.vals _ _ h1 h2,hne _ _ h1 h2⟩
            · simp only [EF1,List.mem_flatMap,List.mem_range] at h
              obtain ⟨j,hjl,h⟩:=h
              cases hjd : done.getD j false with
              | true=>rw [hjd] at h;simp at h
              | false=>
                rw [hjd] at h
                simp only [Bool.false_eq_true,if_false] at h
                exact ⟨hI.first j hjl hjd p h,hne1 j hjl hjd p h⟩
    have job:=dw.js hj ho'
    rw [Nat.zero_add] at job
    refine iJ ho ((job x EF (rest.flatMap fun j=>g.M j (x j)) _ fun xi hxi=>⟨fun a' w' hK' hH'=>?_⟩).go a w (bN.of hI.size hI.defers fun p hp=>(hK p hp).1) H1)
    have hd' : ∀ j,(done.setIfInBounds i true).getD j false=(decide (j=i) || done.getD j false):=fun j=>rC (by omega)
    refine ih _ (fun j=>if j=i then xi else x j) a' w' ?_ ?_
    · have:=nY (l:=List.range l.length) (p:=fun j=>!done.getD j false) (q:=fun j=>!(done.setIfInBounds i true).getD j false) (i:=i) List.nodup_range (List.mem_range.2 hil) (by simp only [hu'];rfl) (by simp only [hd'];simp) (fun j hj=>by simp only [hd'];simp [hj])
      omega
    · have hmem : ∀ p ∈ (slot o.dst (g.v i xi)++((g.need i).map (fun p=>(p.2,g.v p.1 (x p.1)))++(g.E0++(g.E1 i++EF)))),a'.tmps.getD p.1 undef=p.2:=by
        intro p hp
        refine hK'.mem (f:=fun t=>if o.dst=some t then g.v i xi else a.tmps.getD t undef) (fun q hq=>?_) hp
        rcases List.mem_append.1 hq with h | h
        · cases hod : o.dst with
          | none=>rw [hod] at h;cases h
          | some d=>
            rw [hod] at h
            simp only [slot,List.mem_singleton] at h
            subst h
            simp
        · have:=hK q h
          simp only [this.2,if_false]
          exact this.1
      refine ⟨hK'.size,hK'.defers,by simp [hds],fun p hp=>hmem p (by simp [hp]),fun j hjl hjd p hp=>?_,?_,?_,?_,?_⟩
      · rw [hd'] at hjd
        simp only [Bool.or_eq_false_iff] at hjd
        exact hmem p (List.mem_append_right _ (List.mem_append_right _ (List.mem_append_right _ (List.mem_append_right _ (List.mem_append_right _ (hEF1 j hjl hjd.2 p hp))))))
      · intro j d hjd hd
        by_cases e : j=i
        · subst e
          rw [hdi] at hd
          have:=hmem (d,g.v j xi) (by simp [hd,slot])
          simpa using this
        · rw [hd'] at hjd
          simp only [e,decide_false,Bool.false_or] at hjd
          have:=hmem (d,g.v j (x j)) (List.mem_append_right _ (List.mem_append_right _ (List.mem_append_right _ (List.mem_append_right _ (List.mem_append_left _ ((hEF _).2 ⟨j,d,hjd,hd,rfl⟩))))))
          simpa [e] using this
      · intro j k hjd hs
        rw [hd'] at hjd
        by_cases e : j=i
        · subst e
          have k8:=List.all_eq_true.1 k8 k hs
          simp only [if_true,hdone_ne k (hbeh k k8),if_false]
          exact hxi k hs
        · simp only [e,decide_false,Bool.false_or] at hjd
          have hjo : l[j]?=some (l[j]'(hlen j hjd)):=List.getElem?_eq_getElem (hlen j hjd)
          have hkj:=dw.bW hok hjo
          simp only [dw.jT,Bool.and_eq_true,Nat.zero_add] at hkj
          have h8:=hkj.1.1.2
          have h8:=List.all_eq_true.1 h8 k hs
          have hkd:=hI.down j k hjd (by simpa [bU,hjo] using h8)
          simp only [e,hdone_ne k hkd,if_false]
          exact hI.rel j k hjd hs
      · intro j i' hjd hb
        rw [hd'] at hjd ⊢
        by_cases e : j=i
        · subst e
          have : behind o i'=true:=by simpa [bU,ho'] using hb
          simp [hbeh i' this]
        · simp only [e,decide_false,Bool.false_or] at hjd
          simp [hI.down j i' hjd hb]
      · have hnl : ¬ g.live l.length done i:=fun h=>by
          rcases h.2.1 with h | h
          · omega
          · rw [hu'] at h;cases h
        have hcg : ∀ L : List Nat,(∀ j ∈ L,g.live l.length done j)→L.flatMap (fun j=>g.M j (if j=i then xi else x j))=L.flatMap fun j=>g.M j (x j):=by
          intro L
          induction L with
          | nil=>simp
          | cons j L ih=>
            intro h
            have hji : j≠i:=fun e=>hnl (e ▸ h j (by simp))
            simp only [List.flatMap_cons,hji,if_false,ih fun k hk=>h k (by simp [hk])]
        refine iA.of (Js:=i::(((g.jF i).filter fun j=>!(g.qn i).contains j)++rest)) ?_ ?_
        · rw [List.flatMap_cons,List.flatMap_append,hcg _ (fun j hj=>hinp j (List.mem_filter.1 hj).1),hcg rest (fun j hj=>((hrest j).1 hj).1)]
          simpa using hH'
        · intro j hj
          by_cases e : j=i
          · simp [e]
          · have hl : g.live l.length done j:=by
              refine ⟨hj.1,hj.2.1.imp id (fun h=>?_),fun k hk=>hj.2.2 k (by rw [hd'];simp [hk])⟩
              rw [hd'] at h
              simpa [e] using h
            have hne : j ∉ g.qn i:=hj.2.2 i (by rw [hd'];simp)
            by_cases hji : j ∈ g.jF i
            · simp [e,hji,hne]
            · have:=(hrest j).2 ⟨hl,hji⟩
              simp [e,this]
theorem C2 [Inhabited Y] (g : dw Y) (outs : List (Nat × Nat)) (ends : List Nat) (hE : ai E g.E0) (hE1 : ∀ i,i<l.length→ai E (g.E1 i)) (hM : aq (((List.range g.N).filter fun j=>decide (l.length≤j)).flatMap fun j=>g.M j default) M)
    (hok : g.fh l 0 l=true) (ho : (outs.all fun p=>decide (p.1<l.length) && dD l p.1 == some p.2)=true)
    (he : (nD ends && ends.all fun j=>decide (j<g.N) && (List.range l.length).all fun k=>!(g.qn k).contains j)=true)
    (hj : g.nZ P n w0 S l 0 l)
    (k : ∀ x : Nat→Y,(∀ j k,j<l.length→k ∈ g.src j→g.R j k (x j) (x k))→JE n w0 S Q .normal (outs.map (fun p=>(p.2,g.v p.1 (x p.1)))++g.E0) (ends.flatMap fun j=>g.M j (x j))) {a : Act} {w : World} (ha : bN n E a) (hw : ah w0 S M w) : wpAny P .any l.toArray Q l.toArray.size (Array.replicate l.toArray.size false) a { w with drawn:=w.drawn+1 }:=by
    have hw':=(hw.drawn (w.drawn+1)).weak hM
    simp only [Bool.and_eq_true] at he
    refine dw.run hok hj (fun done x a w hI hall=>?_) _ _ (fun _=>default) a _ ?_ ?_
    · refine (k x fun j k hj hs=>hI.rel j k (hall j hj) hs).go a w (bN.of hI.size hI.defers fun p hp=>?_) (hI.mem.to ends (iX he.1) fun j hj=>?_)
      · rcases List.mem_append.1 hp with h | h
        · obtain ⟨q,hq,rfl⟩:=List.mem_map.1 h
          have:=List.all_eq_true.1 ho q hq
          simp only [Bool.and_eq_true,decide_eq_true_eq,beq_iff_eq] at this
          exact hI.vals _ _ (hall _ this.1) this.2
        · exact hI.base p h
      · have:=List.all_eq_true.1 he.2 j hj
        simp only [Bool.and_eq_true,decide_eq_true_eq] at this
        refine ⟨this.1,?_,fun k hk hjk=>?_⟩
        · by_cases h : l.length≤j
          · exact .inl h
          · exact .inr (hall j (by omega))
        · have hkl : k<l.length:=by
            by_cases h : k<l.length
            · exact h
            · have:=hI.nE
              rw [Array.getD_eq_getD_getElem?,Array.getElem?_eq_none (by omega)] at hk
              cases hk
          have:=List.all_eq_true.1 this.2 k (List.mem_range.2 hkl)
          simp [hjk] at this
    · have : ∀ j,(Array.replicate l.toArray.size false).getD j false=false:=fun j=>by
        simp only [Array.getD_eq_getD_getElem?,Array.getElem?_replicate]
        split <;> rfl
      rw [List.countP_eq_length.2 (fun j _=>by simp only [this];rfl)]
      simp
    · have hf : ∀ j,(Array.replicate l.toArray.size false).getD j false=false:=fun j=>by
        simp only [Array.getD_eq_getD_getElem?,Array.getElem?_replicate]
        split <;> rfl
      refine ⟨ha.size,ha.defers,by simp,fun p hp=>ha.all _ _ (hE.all p hp),fun j hj _ p hp=>ha.all _ _ ((hE1 j hj).all p hp),fun j d h=>?_,fun j k h=>?_,fun j i h=>?_,?_⟩
      · rw [hf] at h;cases h
      · rw [hf] at h;cases h
      · rw [hf] at h;cases h
      · refine iA.of hw' fun j hj=>?_
        rw [List.mem_filter]
        refine ⟨List.mem_range.2 hj.1,?_⟩
        rcases hj.2.1 with h | h
        · simpa using h
        · rw [hf] at h;cases h
theorem JC.LN [Inhabited Y] (g : dw Y) (outs : List (Nat × Nat)) (ends : List Nat) {id : Nat} (hm : P.follows .mixedOrders=true) (hE : ai E g.E0) (hE1 : ∀ i,i<l.length→ai E (g.E1 i)) (hM : aq (((List.range g.N).filter fun j=>decide (l.length≤j)).flatMap fun j=>g.M j default) M)
    (hok : g.fh l 0 l=true) (ho : (outs.all fun p=>decide (p.1<l.length) && dD l p.1 == some p.2)=true)
    (he : (nD ends && ends.all fun j=>decide (j<g.N) && (List.range l.length).all fun k=>!(g.qn k).contains j)=true)
    (hj : g.nZ P n w0 S l 0 l)
    (k : ∀ x : Nat→Y,(∀ j k,j<l.length→k ∈ g.src j→g.R j k (x j) (x k))→JE n w0 S Q .normal (outs.map (fun p=>(p.2,g.v p.1 (x p.1)))++g.E0) (ends.flatMap fun j=>g.M j (x j))) : JC P n w0 S Q (.region id l.toArray true) E M:=
  ⟨fun a w ha hw=>wp_region_any hm (C2 g outs ends hE hE1 hM hok ho he hj k ha hw)⟩
end
end Sl
end
section
set_option maxRecDepth 10000
open Sl iB mO dZ n5
open qG (Bk)
theorem NZ {e1 e2 e3 e4 e5 : aH} (A : List aH) : aq A (e1::e2::e3::e4::e5::A):=.drop _ _ _ (.drop _ _ _ (.drop _ _ _ (.drop _ _ _ (.drop _ _ _ (aq.refl _)))))
theorem N0 {e1 e2 e3 e4 e5 : aH} (A B : List aH) : aq B (e1::e2::e3::e4::e5::(A++B)):=.drop _ _ _ (.drop _ _ _ (.drop _ _ _ (.drop _ _ _ (.drop _ _ _ (fM _ (aq.refl _))))))
instance (o : bu × Bk × Nat) : Inhabited (LK o):=⟨⟨some (0,0),default,nofun⟩⟩
theorem Ag (q : Acc) (k : Nat) : (aC q k).oneCell'=true:=by cases q <;> rfl
theorem J6 (x : aO) (q : Acc) (ks : List Kp) : ∀ e ∈ x.cO++gi q ks,e.wr=true:=fun e he=>by
  rcases List.mem_append.1 he with h | h
  · exact aO.iK _ e h
  · exact jN _ _ e h
theorem N1 : Tryz.prog.underlying 32=some (.struct (Tryz.prog.fieldsOf 32)):=by kernel_rfl
theorem J7 : Tryz.prog.stoodInHeld 32=false:=by kernel_rfl
theorem Ng : Tryz.prog.eqGuardType Tryz.prog.depth 32=false:=by kernel_rfl
theorem Hw (h : Hd) (hc : h.chain.length=32) (w : World) : (Op.equalIn 10000 32 (.agg (hdc h).toArray) (.agg (hdc h).toArray)).run Tryz.prog w=.ok true w:=by
  obtain ⟨f0,f1,f2,hf,t0,t1,t2,o0,o1,o2,b0,b1,b2⟩:=uT (show wh Tryz.prog 32 23 3 3 33=true by kernel_rfl)
  have p0 : ∀ w,(Go.part 23 (hdc h).toArray 0).run Tryz.prog w=.ok (.agg (h.chain.map U8).toArray) w:=fun w=>by
    have:=ej hc
    rw [List.length_map,hc] at this
    simp [Go.part,jO aN,aL aB]
    simpa using this
  have p1 : ∀ w,(Go.part 3 (hdc h).toArray 32).run Tryz.prog w=.ok (N h.prev) w:=fun w=>by
    have:=jX hc
    simp [Go.part,isAgg,run_underlying Tryz.underlying3,this]
  have p2 : ∀ w,(Go.part 3 (hdc h).toArray 33).run Tryz.prog w=.ok (N h.num) w:=fun w=>by
    have:=jv hc
    simp [Go.part,isAgg,run_underlying Tryz.underlying3,this]
  have q0:=fun w=>sZ h.chain w 9997 hc
  have q1:=fun w=>run_equalIn_int (P:=Tryz.prog) w 9998 3 .i64 .i64 (h.prev : Int) (h.prev : Int) Tryz.underlying3
  have q2:=fun w=>run_equalIn_int (P:=Tryz.prog) w 9998 3 .i64 .i64 (h.num : Int) (h.num : Int) Tryz.underlying3
  rw [show (10000 : Nat)=9999+1 from rfl,run_equalIn_struct w 9999 32 _ _ N1 J7,hf]
  simp [Op.eqFields,t0,t1,t2,o0,o1,o2,b0,b1,b2,p0,p1,p2,q0,q1,q2]
section
variable {n : Nat} {E : Env} {C : World→Prop} {dst : Option Tmp} {t t' ty : TypeId} {pos : String} {aft : Array Edge} {g : Option (Nat × Bool)} {x y : Operand}
theorem OQ.Nh {h : Hd} (hc : h.chain.length=32) (hx : ev E x=some (.agg (hdc h).toArray)) (hy : ev E y=some (.agg (hdc h).toArray)) : OQ Tryz.prog n E C ⟨dst,.binOp .neq 32 x y t',ty,pos,aft,g⟩ (.bool false):=
  OQ.run fun a ha w _=>by
    have h1:=ha.eval hx
    have h2:=ha.eval hy
    have h4:=fun w=>run_eqGuard_agg (P:=Tryz.prog) (w:=w) .neq 32 x y (hdc h).toArray (hdc h).toArray Ng
    have h5:=fun w=>run_neq_struct (P:=Tryz.prog) (w:=w) 32 (hdc h).toArray (hdc h).toArray
    simp only [execOp,h1,h2,Sem.run_bind,h4,Result.andThen_ok,h5,Hw h hc]
    rfl
end
theorem FE {z : Bk} : (dV z).chain.length=32:=by
  unfold dV
  split
  · rfl
  · next h r e=>exact (hO e).1
theorem C3 (z : Bk) : (c6 z).length≤z.length:=by
  unfold c6
  split
  · exact Nat.zero_le _
  · next h r e=>rw [(hO e).2.2.2.1,List.length_drop];omega
theorem gO.ok.holds {w0 w : World} {S : List Nat} {M : List aH} {s : gO} (h : s.ok w0) (hw : ah w0 S M w) (hS : S=[]) : s.ok w:=⟨h.len,hw.reads h.reads (fun _ a _=>by rw [hS];simp),h.all⟩
set_option maxHeartbeats 64000000 in
theorem nu (a : J4) (side p : aO) (fresh : Bk) (w : World) (ha : a.ok w) (hside : side.ok w) (hp : p.ok w) (h3 : fresh.length=32) (hG : iE w) (hQ : GQ w) :
    Calls Tryz.prog 3 [a.v,side.v,p.v,.agg (fresh.map U8).toArray].toArray w fun e w'=>e=.returned (.bool true)∧Ext w w':=by
  obtain ⟨s,k⟩:=a
  obtain ⟨hs,he,hk⟩:=ha
  dsimp only at hs he hk
  have hn:=Ho hs k.v
  have l3 : (fresh.map U8).length=32:=by rw [List.length_map];exact h3
  obtain ⟨g,hg,cg⟩:=yg s k hs he side p w
  obtain ⟨r,hr⟩ : ∃ r : Bool,r=true↔fk s:=by
    by_cases h : fk s
    · exact ⟨true,fun _=>h,fun _=>rfl⟩
    · exact ⟨false,nofun,fun h'=>absurd h' h⟩
  have cr : ∀ w' : World,k.ok w'→Calls Tryz.prog 8 [.agg (iQ s k.v).toArray].toArray w' fun e w''=>e=.returned (.bool r)∧Ext w' w'':=fun w' hk'=>(Ad s k hs he w' hk').mono fun e w'' ⟨⟨b,hb⟩,e1,h⟩=>⟨by rw [e1];congr 2;exact Bool.eq_iff_iff.2 (hb.trans hr.symm),h⟩
  have csp:=fun (w' : World) (hG' : iE w') (hQ' : GQ w')=>wk w' hG' hQ'
  refine enter (n:=116) Tryz.func3 rfl rfl rfl (ah.start w []) ?_
  repeat (first | refine JC.seq ?_ | refine JC.region ?_)
  refine JL.box (r:=iQ s k.v) rfl rfl rfl fun b4 _=>?_
  refine JL.box (r:=fresh.map U8) rfl rfl rfl fun b7 _=>?_
  repeat (first | refine JL.q (by first|(apply OQ.au (vs:=[]);exact tO;rfl;exact (fun w' hw'=>csp w' (hG.aM hw'.aM (by simp)) (hQ.aM hw'.aM (by simp))))|(apply OQ.not;rfl)|(apply OQ.assign;rfl)) rfl ?_ | refine JC.seq ?_ | refine JC.region ?_ | refine JL.nil ?_ | refine JE.next ?_)
  refine JC.cond_false rfl rfl ?_
  cases g
  case' false=>cases r
  case true=>
    repeat (first | refine JL.q (by first|(apply OQ.af (cs:=iQ s k.v);exact gL;exact dQ;rfl;exact (.there .here);exact hn;exact Row.all)|(apply OQ.au (vs:=[.agg (iQ s k.v).toArray,side.v,p.v]);exact lq;rfl;exact (fun w' _=>cg w'))|(apply OQ.c9;rfl;rfl)|(apply OQ.move;rfl)) rfl ?_ | refine JC.seq ?_ | refine JC.region ?_ | refine JC.skip ?_ | refine JL.nil ?_ | refine JE.next ?_ | refine JL.fK rfl rfl rfl rfl ?_)
    refine JC.cond_true rfl rfl ?_
    repeat (first | refine JL.q (by (apply OQ.assign;rfl)) rfl ?_ | refine JC.seq ?_ | refine JC.region ?_ | refine JL.nil ?_ | refine JE.next ?_)
    refine JC.ret ?_
    repeat (refine JE.aF ?_)
    exact JE.aJ rfl (RV.tmp rfl) fun w' hw=>⟨rfl,hw.aM⟩
  case false.false=>
    repeat (first | refine JL.q (by first|(apply OQ.af (cs:=iQ s k.v);exact gL;exact dQ;rfl;exact (.there .here);exact hn;exact Row.all)|(apply OQ.au (vs:=[.agg (iQ s k.v).toArray,side.v,p.v]);exact lq;rfl;exact (fun w' _=>cg w'))|(apply OQ.au (vs:=[.agg (iQ s k.v).toArray]);exact qF;rfl;exact (fun w' hw'=>cr w' (hk.holds hw' rfl)))|(apply OQ.not;rfl)|(apply OQ.cq;rfl;rfl)|(apply OQ.move;rfl)) rfl ?_ | refine JC.seq ?_ | refine JC.region ?_ | refine JC.skip ?_ | refine JL.nil ?_ | refine JE.next ?_ | refine JL.aS rfl rfl ?_)
    refine JC.cond_true rfl rfl ?_
    repeat (first | refine JL.q (by (apply OQ.assign;rfl)) rfl ?_ | refine JC.seq ?_ | refine JC.region ?_ | refine JL.nil ?_ | refine JE.next ?_)
    refine JC.ret ?_
    repeat (refine JE.aF ?_)
    exact JE.aJ rfl (RV.tmp rfl) fun w' hw=>⟨rfl,hw.aM⟩
  obtain ⟨hb1,hb2,hb3⟩:=hg rfl
  have hz:=hr.1 rfl
  repeat (first | refine JL.q (by first|(apply OQ.af (cs:=iQ s k.v);exact gL;exact dQ;rfl;exact (.there .here);exact hn;exact Row.all)|(apply OQ.au (vs:=[.agg (iQ s k.v).toArray,side.v,p.v]);exact lq;rfl;exact (fun w' _=>cg w'))|(apply OQ.au (vs:=[.agg (iQ s k.v).toArray]);exact qF;rfl;exact (fun w' hw'=>cr w' (hk.holds hw' rfl)))|(apply OQ.not;rfl)|(apply OQ.cq;rfl;rfl)|(apply OQ.move;rfl)) rfl ?_ | refine JC.seq ?_ | refine JC.region ?_ | refine JC.skip ?_ | refine JL.nil ?_ | refine JE.next ?_ | refine JL.aS rfl rfl ?_)
  refine JC.cond_false rfl rfl ?_
  clear cg cr csp hg hr
  have hcell:=hz.cells k.v
  have hm:=hz.most
  have hkk:=gO.wj hk hz hs he
  have hso:=nS.wj hs
  have hke : k.nat.l=s.nat.kept:=by show k.l.map qL.nat=s.kept.map qL.nat;rw [he]
  have hkl : s.nat.kept.length≤100:=by rw [nS.Hp];exact hb1
  rw [hcell,← gO.It] at hn
  rw [hcell,← gO.It]
  generalize k.nat=K at *
  generalize s.nat=t at *
  clear hcell hz he hs hk
  obtain ⟨m1,m2,m3⟩:=hm
  have hkc : ∀ o,Row 26 (sec t K.v) o→cellAt o 165=some K.v:=Row.cell (gr hso _)
  have hnv:=fun v=>ay hso v
  have hHc:=FE (z:=p.l)
  have hRl:=C3 p.l
  have hl34:=ju hHc
  have hz34 : (hdc bQ).length=34:=rfl
  have cH : ∀ (b c : Nat) (w' : World),aO.ok w' ⟨some ⟨b,0,none⟩,c,p.l⟩→_:=fun b c w' h=>x7 ⟨some ⟨b,0,none⟩,c,p.l⟩ w' h (by show p.l.length≤_;omega)
  have cH2:=fun (w' : World) (h : p.ok w')=>uX p w' h (by omega)
  dsimp only at cH cH2
  generalize dV p.l=hh at *
  generalize c6 p.l=rr at *
  generalize er p.l=hc at *
  repeat (first | refine JC.seq ?_ | refine JC.region ?_ | refine JC.skip ?_ | refine JE.next ?_)
  refine JL.ud Tryz.underlying27 uh rfl fun b34 _=>?_
  repeat (refine JL.q (by (apply OQ.move;rfl)) rfl ?_)
  refine JL.append (cs:=p.l.map U8) (m:=p.l.length) (ad:=p.ad) (sc:=p.cap) (xs:=[]) (fun b' cap'=>[⟨b',Sl.aD 5 1 (0+p.l.length) cap' ([]++p.l.map U8),true⟩,⟨b7,Row 23 (fresh.map U8),true⟩,⟨b4,Row 26 (sec t K.v),true⟩]) Tryz.underlying27 uh rfl rfl (by intro _ _;repeat (first | exact aY.here | apply aY.there)) (by rw [List.length_map,Nat.mul_one]) (fun w' hw'=>(hp.holds hw' rfl).reads) (fun v hv=>by obtain ⟨q,_,rfl⟩:=List.mem_map.1 hv;rfl) rfl (by decide) (by omega) (by omega) rfl fun bp cp=>?_
  rw [Nat.zero_add,List.nil_append]
  refine JL.bY (ι:=tL rr) (vs:=[.slice (some ⟨bp,0,none⟩) p.l.length cp]) (fun q=>.tuple #[.agg (hdc hh).toArray,aC q.1 rr.length,N hc]) (fun q=>bS 5 q.1 (rr.map U8)) uR rfl rfl (fun q=>iL _ _ _) (fun w' hw'=>cH bp cp w' (ec hw' .here)) ?_
  rintro ⟨q1,hq1⟩
  dsimp only
  refine JL.dM (M':=⟨bp,Sl.aD 5 1 p.l.length cp (p.l.map U8),true⟩::⟨b7,Row 23 (fresh.map U8),true⟩::⟨b4,Row 26 (sec t K.v),true⟩::bS 5 q1 (rr.map U8)) (List.perm_append_comm (l₂:=[_,_,_])) ?_
  repeat (refine JL.q (by first|(apply OQ.extract;rfl;rfl)|(apply OQ.move;rfl)) rfl ?_)
  refine JL.alloc G1 rfl fun b9 _=>?_
  refine JL.ag (cs:=hdc hh) oy rfl rfl hl34 (eH _) .here hz34 ?_
  repeat (first | refine JL.q (by first|(apply OQ.move;rfl)|(apply OQ.assign;rfl)) rfl ?_ | refine JC.seq ?_ | refine JC.region ?_ | refine JL.nil ?_ | refine JE.next ?_)
  refine JL.bY (ι:=tL rr) (vs:=[p.v]) (fun q=>.tuple #[.agg (hdc hh).toArray,aC q.1 rr.length,N hc]) (fun q=>bS 5 q.1 (rr.map U8)) tc rfl rfl (fun q=>iL _ _ _) (fun w' hw'=>cH2 w' (hp.holds hw' rfl)) ?_
  rintro ⟨q2,hq2⟩
  dsimp only
  refine JL.dM (M':=⟨b9,Row 32 (hdc hh),true⟩::⟨bp,Sl.aD 5 1 p.l.length cp (p.l.map U8),true⟩::⟨b7,Row 23 (fresh.map U8),true⟩::⟨b4,Row 26 (sec t K.v),true⟩::(bS 5 q2 (rr.map U8)++bS 5 q1 (rr.map U8))) (List.perm_append_comm_assoc _ [_,_,_,_] _) ?_
  repeat (refine JL.q (by first|(apply OQ.extract;rfl;rfl)|(apply OQ.move;rfl)) rfl ?_)
  refine JL.alloc G1 rfl fun b12 _=>?_
  refine JL.ag (cs:=hdc hh) oy rfl rfl hl34 (eH _) .here hz34 ?_
  have cT : ∀ w' : World,(wH q1 rr).ok w'→(wH q2 rr).ok w'→Calls Tryz.prog 11 [aC q1 rr.length,aC q2 rr.length].toArray w' fun e w''=>e=.returned (.bool true)∧Ext w' w'':=fun w' h h'=>
    DF (rF _ _) (rF _ _) h h' (by rw [pQ hq1];omega) ((pQ hq1).trans (pQ hq2).symm)
  have eoc : decide ((hc : Int)=(hc : Int))=true:=decide_eq_true rfl
  repeat (first | refine JL.q (by first|(apply OQ.tr (a:=hc) (b:=hc);rfl;rfl;exact eoc)|(apply OQ.af (cs:=hdc hh);exact zV;exact oy;rfl;exact (.there .here);exact hl34;exact Row.all)|(apply OQ.af (cs:=hdc hh);exact zV;exact oy;rfl;exact .here;exact hl34;exact Row.all)|(apply OQ.Nh;exact hHc;rfl;rfl)|(apply OQ.cq;rfl;rfl)|(apply OQ.au (vs:=[aC q1 rr.length,aC q2 rr.length]);exact j3;rfl;exact (fun w' hw'=>cT w' (rG (e:=5) (M:=[]) (by rw [List.append_nil];exact hw'.weak (N0 _ _))) (rG (e:=5) (M:=bS 5 q1 (rr.map U8)) (hw'.weak (NZ _)))))|(apply OQ.not;rfl)|(apply OQ.move;rfl)|(apply OQ.assign;rfl)) rfl ?_ | refine JC.seq ?_ | refine JC.region ?_ | refine JL.nil ?_ | refine JE.next ?_ | refine JL.aS rfl rfl ?_)
  refine JC.cond_false rfl rfl ?_
  refine JC.skip (JE.next ?_)
  refine JC.weak (E':=[(1,side.v),(2,p.v),(4,Pt b4 0),(7,Pt b7 0)]) (M':=[⟨b7,Row 23 (fresh.map U8),true⟩,⟨b4,Row 26 (sec t K.v),true⟩]) ?_ (by repeat (first | exact ai.nil | refine ai.cons _ _ _ rfl ?_)) (.drop _ _ _ (.drop _ _ _ (.drop _ _ _ (ef [_,_] _))))
  clear cT cH cH2
  repeat (first | refine JL.q (by (apply OQ.af (cs:=sec t K.v);exact gL;exact dQ;rfl;exact (.there .here);exact (hnv _);exact Row.all)) rfl ?_ | refine JC.seq ?_ | refine JC.region ?_)
  refine JL.alloc xU rfl fun b15 _=>?_
  refine JL.ag (cs:=sec t K.v) dQ rfl rfl (hnv _) (bD rfl) .here (ay bC _) ?_
  repeat (first | refine JC.seq ?_ | refine JC.region ?_ | refine JL.nil ?_ | refine JE.next ?_)
  refine JL.tn Tryz.underlying24 zW rfl fun b0 _=>?_
  repeat (refine JL.q (by first|(apply OQ.load;exact fW;rfl;exact (.there (.there (.there .here)));exact hkc)|(apply OQ.bM;rfl;rfl;rfl;exact (by decide);rfl)) rfl ?_)
  have hfl : ((aT K.l).flatten).length=K.l.length * 65:=by rw [dJ (fu hkk.all),dS]
  have hKl' : K.l.length≤100:=by rw [hke];exact hkl
  refine JL.append (cs:=(aT K.l).flatten) (m:=K.l.length) (ad:=K.ad) (sc:=K.cap) (xs:=[]) (fun b' cap'=>[⟨b',Sl.aD 57 65 (0+K.l.length) cap' ([]++(aT K.l).flatten),true⟩,⟨b15,Row 26 (sec t K.v),true⟩,⟨b7,Row 23 (fresh.map U8),true⟩,⟨b4,Row 26 (sec t K.v),true⟩]) Tryz.underlying24 zW rfl rfl (by intro _ _;repeat (first | exact aY.here | apply aY.there)) hfl (fun w' hw'=>(hkk.holds hw' rfl).reads) (gZ K.l) rfl (by decide) (by omega) (by omega) rfl fun bk ck=>?_
  rw [Nat.zero_add,List.nil_append]
  repeat (refine JL.q (by (apply OQ.bM;rfl;rfl;rfl;exact (by decide);rfl)) rfl ?_)
  obtain ⟨K2,hK2⟩ : ∃ K2 : lO,(⟨some ⟨bk,0,none⟩,ck,K.l⟩ : lO)=K2:=⟨_,rfl⟩
  have vK2 : Value.slice (some ⟨bk,0,none⟩) K.l.length ck=K2.v:=by rw [← hK2];rfl
  have lK2 : K2.l=t.kept:=by rw [← hK2];exact hke
  have ov : K2.v.oneCell'=true:=rfl
  have okK2 : ∀ {w' : World} {M : List aH} {wr : Bool},ah w [] M w'→Has M bk (Sl.aD 57 65 K.l.length ck (aT K.l).flatten) wr→K2.ok w':=fun hw hM=>by rw [← hK2];exact FD hkk.all hw hM
  rw [vK2]
  refine JL.az (r:=sec t K.v) (r':=sec t K2.v) zX rfl rfl rfl rfl (.there .here) (by rw [hnv];decide) (eG hso _ t.kept _) ?_
  have cE:=fun (x y : aO) (hx : x.l=side.l) (hy : y.l=p.l) (w' : World) (h1 : iE w') (h2 : GQ w') (hK : K.ok w') (hxo : x.ok w') (hyo : y.ok w')=>by
    have:=Ft t K hso hke (by omega) (by omega) x y (by rw [hx];omega) (by rw [hy];omega) fresh h3 w' h1 h2 hK hxo hyo
    rw [hx,hy] at this
    exact this
  have cEv:=fun (b c b' c' : Nat) (w' : World) (h1 : iE w') (h2 : GQ w') (hK : K.ok w') (hxo : aO.ok w' ⟨some ⟨b,0,none⟩,c,side.l⟩) (hyo : aO.ok w' ⟨some ⟨b',0,none⟩,c',p.l⟩)=>cE ⟨some ⟨b,0,none⟩,c,side.l⟩ ⟨some ⟨b',0,none⟩,c',p.l⟩ rfl rfl w' h1 h2 hK hxo hyo
  have cF:=fun (w' : World) (hK : K2.ok w') (hxo : side.ok w') (hyo : p.ok w')=>CY t K2 hso lK2 (by omega) (by omega) side p (by omega) (by omega) fresh h3 w' hK hxo hyo
  have hde:=Bo (s:=t) (side:=side.l) (z:=p.l) (fresh:=fresh)
  obtain ⟨ok1,kl1,len1⟩:=C1 hso (by omega) (side:=side.l) (z:=p.l) h3
  clear cE
  generalize fO t side.l p.l fresh=o at *
  obtain ⟨o1,o2,oc⟩:=o
  dsimp only at hde ok1 kl1 len1 cEv cF
  repeat (first | refine JC.seq ?_ | refine JL.nil ?_ | refine JE.next ?_)
  let vs : Nat→((Nat × Nat) × LK (o1,o2,oc))→Value:=fun j y=>match j with
    | 0=>.agg (sec t K.v).toArray
    | 1=>.slice (some ⟨y.1.1,0,none⟩) 0 0
    | 2=>side.v
    | 3=>.slice (some ⟨y.1.1,0,none⟩) side.l.length y.1.2
    | 4=>.slice (some ⟨y.1.1,0,none⟩) 0 0
    | 5=>p.v
    | 6=>.slice (some ⟨y.1.1,0,none⟩) p.l.length y.1.2
    | 7=>.agg (fresh.map U8).toArray
    | 8=>.tuple #[.agg (sec o1 (aC y.2.q o1.kept.length)).toArray,y.2.x.1.v,N oc]
    | 9=>.tuple #[.agg (sec o1 (aC y.2.q o1.kept.length)).toArray,y.2.x.1.v,N oc]
    | 10=>.agg (sec o1 (aC y.2.q o1.kept.length)).toArray
    | 11=>y.2.x.1.v
    | 12=>N oc
    | 13=>Pt y.1.1 0
    | 15=>y.2.x.1.v
    | 16=>N oc
    | _=>N 0
  let Ms : Nat→((Nat × Nat) × LK (o1,o2,oc))→List aH:=fun j y=>match j with
    | 1=>[⟨y.1.1,Sl.aD 5 1 0 0 [],true⟩]
    | 3=>[⟨y.1.1,Sl.aD 5 1 side.l.length y.1.2 (side.l.map U8),true⟩]
    | 4=>[⟨y.1.1,Sl.aD 5 1 0 0 [],true⟩]
    | 6=>[⟨y.1.1,Sl.aD 5 1 p.l.length y.1.2 (p.l.map U8),true⟩]
    | 8=>y.2.x.1.cO++gi y.2.q o1.kept
    | 13=>[⟨y.1.1,Row 26 (sec dI bw),true⟩]
    | 14=>[⟨y.1.1,Row 26 (sec o1 (aC y.2.q o1.kept.length)),true⟩]
    | 17=>[⟨bk,Sl.aD 57 65 K.l.length ck (aT K.l).flatten,true⟩]
    | 18=>[⟨b15,Row 26 (sec t K2.v),true⟩]
    | 19=>[⟨b7,Row 23 (fresh.map U8),true⟩]
    | 20=>[⟨b4,Row 26 (sec t K.v),true⟩]
    | _=>[]
  refine JC.LN (g:=⟨[(1,side.v),(2,p.v),(4,Pt b4 0),(7,Pt b7 0),(15,Pt b15 0)],21,vs,Ms,(fun j=>match j with | 3=>[(1,69),(2,70)] | 6=>[(4,72),(5,73)] | 8=>[(0,68),(3,71),(6,74),(7,75)] | 9=>[(8,76)] | 10=>[(9,67)] | 11=>[(9,67)] | 12=>[(9,67)] | 14=>[(13,16),(10,77)] | 15=>[(11,78)] | 16=>[(12,79)] | _=>[]),(fun j=>match j with | 0=>[20] | 3=>[1] | 6=>[4] | 7=>[19] | 8=>[3,6] | 14=>[13] | _=>[]),(fun j=>match j with | 3=>[1] | 6=>[4] | 14=>[13] | _=>[]),(fun j=>match j with | 9=>[8] | 10=>[9] | 11=>[9] | 14=>[13,10] | 15=>[11] | _=>[]),fun _=>[],fun j k a b=>match j,k with | 14,13=>a.1=b.1 | 14,10=>a.2=b.2 | _,_=>a=b⟩) [(13,16),(15,17),(16,18)] [14,17,18,19,20,8] gm (by repeat (first | exact ai.nil | refine ai.cons _ _ _ rfl ?_)) (fun _ _=>.nil) ?_ (by kernel_rfl) (by kernel_rfl) (by kernel_rfl) ?_ ?_
  · exact aq.refl _
  · refine ⟨?_,?_,?_,?_,?_,?_,?_,?_,?_,?_,?_,?_,?_,?_,?_,?_,?_,trivial⟩
    · (intro xx EF MF Q kk;(try refine JL.aS rfl rfl ?_);exact JL.q (OQ.af (cs:=sec t K.v) gL dQ rfl .here (hnv _) Row.all) rfl (JL.nil (kk default nofun)))
    · (intro xx EF MF Q kk;exact JL.ud Tryz.underlying27 uh rfl fun b0 _=>JL.nil (kk ((b0,0),default) nofun))
    · (intro xx EF MF Q kk;(try refine JL.aS rfl rfl ?_);exact JL.q (OQ.move rfl) rfl (JL.nil (kk default nofun)))
    · (intro xx EF MF Q kk;exact JL.append (cs:=side.l.map U8) (m:=side.l.length) (ad:=side.ad) (sc:=side.cap) (xs:=[]) (fun b' cap'=>⟨b',Sl.aD 5 1 (0+side.l.length) cap' ([]++side.l.map U8),true⟩::MF) Tryz.underlying27 uh rfl rfl (fun _ _=>.here) (by rw [List.length_map,Nat.mul_one]) (fun w' hw'=>(hside.holds hw' rfl).reads) (fun v hv=>by obtain ⟨q,_,rfl⟩:=List.mem_map.1 hv;rfl) rfl (by decide) (by omega) (by omega) rfl fun b' cap'=>by simp only [Nat.zero_add];exact JL.nil (kk ((b',cap'),default) nofun))
    · (intro xx EF MF Q kk;exact JL.ud Tryz.underlying27 uh rfl fun b0 _=>JL.nil (kk ((b0,0),default) nofun))
    · (intro xx EF MF Q kk;(try refine JL.aS rfl rfl ?_);exact JL.q (OQ.move rfl) rfl (JL.nil (kk default nofun)))
    · (intro xx EF MF Q kk;exact JL.append (cs:=p.l.map U8) (m:=p.l.length) (ad:=p.ad) (sc:=p.cap) (xs:=[]) (fun b' cap'=>⟨b',Sl.aD 5 1 (0+p.l.length) cap' ([]++p.l.map U8),true⟩::MF) Tryz.underlying27 uh rfl rfl (fun _ _=>.here) (by rw [List.length_map,Nat.mul_one]) (fun w' hw'=>(hp.holds hw' rfl).reads) (fun v hv=>by obtain ⟨q,_,rfl⟩:=List.mem_map.1 hv;rfl) rfl (by decide) (by omega) (by omega) rfl fun b' cap'=>by simp only [Nat.zero_add];exact JL.nil (kk ((b',cap'),default) nofun))
    · (intro xx EF MF Q kk;(try refine JL.aS rfl rfl ?_);exact JL.q (OQ.af (cs:=fresh.map U8) aN aB rfl .here l3 Row.all) rfl (JL.nil (kk default nofun)))
    · (intro xx EF MF Q kk;exact JL.bY (ι:=LK (o1,o2,oc)) (vs:=[.agg (sec t K.v).toArray,.slice (some ⟨(xx 3).1.1,0,none⟩) side.l.length (xx 3).1.2,.slice (some ⟨(xx 6).1.1,0,none⟩) p.l.length (xx 6).1.2,.agg (fresh.map U8).toArray]) (fun r=>.tuple #[.agg (sec o1 (aC r.q o1.kept.length)).toArray,r.x.1.v,N oc]) (fun r=>r.x.1.cO++gi r.q o1.kept) CN rfl rfl (fun r=>J6 _ _ _) (fun w' hw'=>cEv ((xx 3).1.1) ((xx 3).1.2) ((xx 6).1.1) ((xx 6).1.2) w' (hG.aM hw'.aM (by simp)) (hQ.aM hw'.aM (by simp)) (hkk.holds hw' rfl) (ec hw' .here) (ec hw' (.there .here))) fun r=>JL.nil (kk ((0,0),r) nofun))
    · (intro xx EF MF Q kk;(try refine JL.aS rfl rfl ?_);exact JL.q (OQ.move rfl) rfl (JL.nil (kk (xx 8) (fun k h=>by have h:=List.mem_singleton.1 h;subst h;rfl))))
    · (intro xx EF MF Q kk;(try refine JL.aS rfl rfl ?_);exact JL.q (OQ.extract rfl rfl) rfl (JL.nil (kk (xx 9) (fun k h=>by have h:=List.mem_singleton.1 h;subst h;rfl))))
    · (intro xx EF MF Q kk;(try refine JL.aS rfl rfl ?_);exact JL.q (OQ.extract rfl rfl) rfl (JL.nil (kk (xx 9) (fun k h=>by have h:=List.mem_singleton.1 h;subst h;rfl))))
    · (intro xx EF MF Q kk;(try refine JL.aS rfl rfl ?_);exact JL.q (OQ.extract rfl rfl) rfl (JL.nil (kk default nofun)))
    · (intro xx EF MF Q kk;exact JL.alloc xU rfl fun b0 _=>JL.nil (kk ((b0,0),default) nofun))
    · (intro xx EF MF Q kk;exact JL.ag (cs:=sec o1 (aC (xx 10).2.q o1.kept.length)) dQ rfl rfl (ay ok1 _) (bD (Ag _ _)) .here (ay bC _) (JL.nil (kk ((xx 13).1,(xx 10).2) (fun k h=>by have h : k ∈ [13,10]:=h;simp only [List.mem_cons,List.mem_nil_iff,or_false] at h;rcases h with rfl | rfl <;> rfl))))
    · (intro xx EF MF Q kk;(try refine JL.aS rfl rfl ?_);exact JL.q (OQ.assign rfl) rfl (JL.nil (kk (xx 11) (fun k h=>by have h:=List.mem_singleton.1 h;subst h;rfl))))
    · (intro xx EF MF Q kk;(try refine JL.aS rfl rfl ?_);exact JL.q (OQ.assign rfl) rfl (JL.nil (kk default nofun)))
  · intro xx hx
    have e15 : xx 15=xx 11:=hx 15 11 (by decide) (.head _)
    have e11 : xx 11=xx 9:=hx 11 9 (by decide) (.head _)
    have e10 : xx 10=xx 9:=hx 10 9 (by decide) (.head _)
    have e9 : xx 9=xx 8:=hx 9 8 (by decide) (.head _)
    have a14 : (xx 14).1=(xx 13).1:=hx 14 13 (by decide) (.head _)
    have v14 : (xx 14).2=(xx 10).2:=hx 14 10 (by decide) (.tail _ (.head _))
    show JE _ _ _ _ _ [(16,Pt (xx 13).1.1 0),(17,(xx 15).2.x.1.v),(18,N oc),(1,side.v),(2,p.v),(4,Pt b4 0),(7,Pt b7 0),(15,Pt b15 0)] (⟨(xx 14).1.1,Row 26 (sec o1 (aC (xx 14).2.q o1.kept.length)),true⟩::⟨bk,Sl.aD 57 65 K.l.length ck (aT K.l).flatten,true⟩::⟨b15,Row 26 (sec t K2.v),true⟩::⟨b7,Row 23 (fresh.map U8),true⟩::⟨b4,Row 26 (sec t K.v),true⟩::(((xx 8).2.x.1.cO++gi (xx 8).2.q o1.kept)++[]))
    rw [v14,a14,e10,e15,e11,e9,List.append_nil]
    generalize (xx 13).1.1=b16
    generalize (xx 8).2=zz
    clear hx e15 e11 e10 e9 a14 v14 xx vs Ms
    obtain ⟨q,⟨pl,hpl⟩,hq⟩:=zz
    dsimp only at hq ⊢
    repeat (first | refine JL.q (by first|(apply OQ.af (cs:=sec t K2.v);exact gL;exact dQ;rfl;exact (.there (.there .here));exact (hnv _);exact Row.all)|(apply OQ.af (cs:=fresh.map U8);exact aN;exact aB;rfl;exact (.there (.there (.there .here)));exact l3;exact Row.all)|(apply OQ.move;rfl)) rfl ?_ | refine JC.seq ?_ | refine JC.region ?_ | refine JE.next ?_)
    refine JL.bY (ι:=Kn (o1,o2,oc) K2) (vs:=[.agg (sec t K2.v).toArray,side.v,p.v,.agg (fresh.map U8).toArray]) (fun r=>.tuple #[.agg (sec o1 r.K.v).toArray,r.x.v,N oc]) (fun r=>r.es) Ae rfl rfl (fun r=>r.wr) (fun w' hw'=>cF w' (okK2 hw' (.there .here)) (hside.holds hw' rfl) (hp.holds hw' rfl)) ?_
    rintro r
    have lo:=fun v=>ay ok1 v
    have ovr : r.K.v.oneCell'=true:=rfl
    refine JL.dM (M':=⟨b16,Row 26 (sec o1 (aC q o1.kept.length)),true⟩::⟨bk,Sl.aD 57 65 K.l.length ck (aT K.l).flatten,true⟩::⟨b15,Row 26 (sec t K2.v),true⟩::⟨b7,Row 23 (fresh.map U8),true⟩::⟨b4,Row 26 (sec t K.v),true⟩::(r.es++(pl.cO++gi q o1.kept))) (List.perm_append_comm_assoc _ [_,_,_,_,_] _) ?_
    repeat (refine JL.q (by first|(apply OQ.extract;rfl;rfl)|(apply OQ.move;rfl)) rfl ?_)
    refine JL.alloc xU rfl fun b19 _=>?_
    refine JL.ag (cs:=sec o1 r.K.v) dQ rfl rfl (lo _) (bD ovr) .here (ay bC _) ?_
    have kR : ∀ {w' : World} {e1 e2 e3 e4 e5 : aH} {A : List aH},ah w [] (e1::e2::⟨bk,Sl.aD 57 65 K.l.length ck (aT K.l).flatten,true⟩::e3::e4::e5::(r.es++A)) w'→r.K.ok w':=fun hw=>by
      rcases r.NF with h | h
      · rw [h]
        exact okK2 hw (.there (.there .here))
      · exact h (hw.weak (.drop _ _ _ (.drop _ _ _ (.drop _ _ _ (.drop _ _ _ (.drop _ _ _ (.drop _ _ _ (aq.refl _))))))))
    have xR : ∀ {w' : World} {e1 e2 e3 e4 e5 e6 : aH} {A : List aH},ah w [] (e1::e2::e3::e4::e5::e6::(r.es++A)) w'→r.x.ok w':=fun hw=>r.NY (hw.weak (.drop _ _ _ (.drop _ _ _ (.drop _ _ _ (.drop _ _ _ (.drop _ _ _ (.drop _ _ _ (aq.refl _))))))))
    have kQ : ∀ {w' : World} {e1 e2 e3 e4 e5 e6 : aH},ah w [] (e1::e2::e3::e4::e5::e6::(r.es++(pl.cO++gi q o1.kept))) w'→(v9 q o1.kept).ok w':=fun hw=>Bg (M:=[]) ok1.kept (by rw [List.append_nil];exact hw.weak (.drop _ _ _ (.drop _ _ _ (.drop _ _ _ (.drop _ _ _ (.drop _ _ _ (.drop _ _ _ (fM _ (fM _ (aq.refl _))))))))))
    have xQ : ∀ {w' : World} {e1 e2 e3 e4 e5 e6 : aH},ah w [] (e1::e2::e3::e4::e5::e6::(r.es++(pl.cO++gi q o1.kept))) w'→pl.ok w':=fun hw=>aO.kD (hw.weak (.drop _ _ _ (.drop _ _ _ (.drop _ _ _ (.drop _ _ _ (.drop _ _ _ (.drop _ _ _ (fM _ (aq.refl _))))))))) hpl.none
    have cS : ∀ w' : World,(v9 q o1.kept).ok w'→r.K.ok w'→Calls Tryz.prog 14 [.agg (sec o1 (aC q o1.kept.length)).toArray,.agg (sec o1 r.K.v).toArray].toArray w' fun e w''=>e=.returned (.bool true)∧Ext w' w'':=fun w' h h'=>by
      have:=mI o1 (v9 q o1.kept) r.K ok1 w' h h' (we hq) r.l (by omega)
      rw [zY] at this
      exact this
    have cT : ∀ w' : World,pl.ok w'→r.x.ok w'→Calls Tryz.prog 11 [pl.v,r.x.v].toArray w' fun e w''=>e=.returned (.bool true)∧Ext w' w'':=fun w' h h'=>DF rfl rfl h h' (by rw [hpl.val];show o2.length<_;omega) (hpl.val.trans r.xl.symm)
    have cU : ∀ w' : World,K.ok w'→K2.ok w'→Calls Tryz.prog 14 [.agg (sec t K.v).toArray,.agg (sec t K2.v).toArray].toArray w' fun e w''=>e=.returned (.bool true)∧Ext w' w'':=fun w' h h'=>mI t K K2 hso w' h h' hke lK2 (by omega)
    have eoc : decide ((oc : Int)=(oc : Int))=true:=decide_eq_true rfl
    by_cases ho : oc=0
    · have eo : decide ((oc : Int)=0)=true:=decide_eq_true (by omega)
      repeat (first | refine JL.q (by first|(apply OQ.FI (a:=oc) (b:=oc);rfl;rfl;exact eoc)|(apply OQ.af (cs:=sec o1 (aC q o1.kept.length));exact gL;exact dQ;rfl;exact (.there .here);exact (lo _);exact Row.all)|(apply OQ.af (cs:=sec o1 r.K.v);exact gL;exact dQ;rfl;exact .here;exact (lo _);exact Row.all)|(apply OQ.af (cs:=sec t K2.v);exact gL;exact dQ;rfl;exact (.there (.there (.there .here)));exact (hnv _);exact Row.all)|(apply OQ.af (cs:=sec t K.v);exact gL;exact dQ;rfl;exact (.there (.there (.there (.there (.there .here)))));exact (hnv _);exact Row.all)|(apply OQ.au (vs:=[.agg (sec o1 (aC q o1.kept.length)).toArray,.agg (sec o1 r.K.v).toArray]);exact iy;rfl;exact (fun w' hw'=>cS w' (kQ hw') (kR hw')))|(apply OQ.au (vs:=[.agg (sec t K.v).toArray,.agg (sec t K2.v).toArray]);exact iy;rfl;exact (fun w' hw'=>cU w' (hkk.holds hw' rfl) (okK2 hw' (.there (.there .here)))))|(apply OQ.au (vs:=[pl.v,r.x.v]);exact j3;rfl;exact (fun w' hw'=>cT w' (xQ hw') (xR hw')))|(apply OQ.FI (a:=oc) (b:=0);rfl;rfl;exact eo)|(apply OQ.c9;rfl;rfl)|(apply OQ.move;rfl)|(apply OQ.assign;rfl)) rfl ?_ | refine JC.seq ?_ | refine JC.region ?_ | refine JL.nil ?_ | refine JE.next ?_ | refine JL.aS rfl rfl ?_ | refine JL.fK rfl rfl rfl rfl ?_)
      refine JC.ret ?_
      skip
      exact JE.aJ rfl (RV.tmp rfl) fun w' hw=>⟨rfl,hw.aM⟩
    · have eo : decide ((oc : Int)=0)=false:=decide_eq_false (by omega)
      obtain ⟨rfl,_⟩:=hde ho
      have cV : ∀ w' : World,(v9 q o1.kept).ok w'→K2.ok w'→Calls Tryz.prog 14 [.agg (sec o1 (aC q o1.kept.length)).toArray,.agg (sec o1 K2.v).toArray].toArray w' fun e w''=>e=.returned (.bool true)∧Ext w' w'':=fun w' h h'=>by
        have:=mI o1 (v9 q o1.kept) K2 ok1 w' h h' (we hq) lK2 (by omega)
        rw [zY] at this
        exact this
      repeat (first | refine JL.q (by first|(apply OQ.FI (a:=oc) (b:=oc);rfl;rfl;exact eoc)|(apply OQ.af (cs:=sec o1 (aC q o1.kept.length));exact gL;exact dQ;rfl;exact (.there .here);exact (lo _);exact Row.all)|(apply OQ.af (cs:=sec o1 r.K.v);exact gL;exact dQ;rfl;exact .here;exact (lo _);exact Row.all)|(apply OQ.af (cs:=sec o1 K2.v);exact gL;exact dQ;rfl;exact (.there (.there (.there .here)));exact (hnv _);exact Row.all)|(apply OQ.af (cs:=sec o1 K.v);exact gL;exact dQ;rfl;exact (.there (.there (.there (.there (.there .here)))));exact (hnv _);exact Row.all)|(apply OQ.au (vs:=[.agg (sec o1 (aC q o1.kept.length)).toArray,.agg (sec o1 r.K.v).toArray]);exact iy;rfl;exact (fun w' hw'=>cS w' (kQ hw') (kR hw')))|(apply OQ.au (vs:=[.agg (sec o1 K.v).toArray,.agg (sec o1 K2.v).toArray]);exact iy;rfl;exact (fun w' hw'=>cU w' (hkk.holds hw' rfl) (okK2 hw' (.there (.there .here)))))|(apply OQ.au (vs:=[.agg (sec o1 (aC q o1.kept.length)).toArray,.agg (sec o1 K2.v).toArray]);exact iy;rfl;exact (fun w' hw'=>cV w' (kQ hw') (okK2 hw' (.there (.there .here)))))|(apply OQ.au (vs:=[pl.v,r.x.v]);exact j3;rfl;exact (fun w' hw'=>cT w' (xQ hw') (xR hw')))|(apply OQ.FI (a:=oc) (b:=0);rfl;rfl;exact eo)|(apply OQ.c9;rfl;rfl)|(apply OQ.cq;rfl;rfl)|(apply OQ.move;rfl)|(apply OQ.assign;rfl)) rfl ?_ | refine JC.seq ?_ | refine JC.region ?_ | refine JL.nil ?_ | refine JE.next ?_ | refine JL.aS rfl rfl ?_)
      refine JC.ret ?_
      skip
      exact JE.aJ rfl (RV.tmp rfl) fun w' hw=>⟨rfl,hw.aM⟩
end
section
set_option maxRecDepth 10000
open Go.ChangeShapes Go.WideShapes Go.ChangeAt Go.RowKit
open Sl
set_option linter.unusedVariables false
theorem Ni : ownKnob Tryz.prog.godebug=none:=by kernel_rfl
theorem pK : laidOutB Tryz.prog=true:=by kernel_rfl
theorem FF {z : Int} (h : (Lit.int .u8 z).wf=true) : U8 (BitVec.ofInt 8 z)=.int .u8 z:=by
  have h0 : 0≤z∧z≤255:=by
    have h1 : (decide (0≤z) && decide (z≤255))=true:=h
    simpa using h1
  have h2 : ((BitVec.ofInt 8 z).toNat : Int)=z:=by
    rw [BitVec.toNat_ofInt]
    omega
  unfold U8
  rw [h2]
theorem Hx {H : Type} {enc : TypeId × Value→H} {W : World} {base fuel m : Nat} {t : TypeId} (hu : Tryz.prog.underlying t=some (.array m 5)) (hc : Tryz.prog.cellsOf t=m) {v : Value} {x : DataW H × List MemPlace} (hok : Value.okWide Tryz.prog W .any base t v) (h : DataW.trod enc Tryz.prog W 0 (fun _=>true) true fuel t v.cells.toList=some x) :
    ∃ r : List (BitVec 8),v=.agg (r.map U8).toArray∧r.length=m:=by
  obtain ⟨xs,m',_,ex,_,hl,hel⟩:=DataW.trod_array hu h
  have c5 : Tryz.prog.cellsOf 5=1:=by kernel_rfl
  simp only [Value.okWide,hu] at hok
  obtain ⟨cs,rfl,hsz,_⟩:=hok
  rw [hc] at hsz
  have hk : ∀ i,∃ k : BitVec 8,i<m→cs[i]?=some (U8 k):=by
    intro i
    by_cases hi : i<m
    · have h1:=hel i hi
      rw [c5,Nat.mul_one,List.getElem?_eq_getElem (by omega)] at h1
      obtain ⟨z,e1,e2,hw⟩:=DataW.trod_int (show Tryz.prog.underlying 5=some (.int .u8) by kernel_rfl) h1
      refine ⟨BitVec.ofInt 8 z,fun _=>?_⟩
      have h0 : ((cs.toList.drop i).take 1)[0]?=some (.int .u8 z):=by
        have : (Value.agg cs).cells=cs:=rfl
        rw [this] at e1
        rw [e1];rfl
      rw [FF hw]
      simpa using h0
    · exact ⟨0,fun h=>absurd h hi⟩
  let f : Nat→BitVec 8:=fun i=>Classical.choose (hk i)
  have hf : ∀ i,i<m→cs[i]?=some (U8 (f i)):=fun i=>Classical.choose_spec (hk i)
  refine ⟨(List.range m).map f,?_,by simp⟩
  congr 1
  apply Array.ext_getElem?
  intro i
  by_cases hi : i<m
  · rw [hf i hi]
    simp [hi]
  · rw [Array.getElem?_eq_none (by omega),Array.getElem?_eq_none (by simp;omega)]
theorem J8 {H : Type} {enc : TypeId × Value→H} {W : World} {base fuel : Nat} {v : Value} {x : DataW H × List MemPlace} (hok : Value.okWide Tryz.prog W .any base 23 v) (h : DataW.trod enc Tryz.prog W 0 (fun _=>true) true fuel 23 v.cells.toList=some x) :
    ∃ r : List (BitVec 8),v=.agg (r.map U8).toArray∧r.length=32:=Hx (by kernel_rfl) (by kernel_rfl) hok h
def FG (P : Program) (t : TypeId) (i : Nat) (ty : TypeId) (off : Nat) : Bool:=match (P.fieldsOf t)[i]? with
  | some f=>f.type == ty && f.offset == off
  | none=>false
theorem C4 {P : Program} {t : TypeId} {i : Nat} {ty : TypeId} {off : Nat} (h : FG P t i ty off=true) : ∃ f,(P.fieldsOf t)[i]?=some f∧f.type=ty∧f.offset=off:=by
  unfold FG at h
  split at h
  · next f e=>
    simp only [Bool.and_eq_true,beq_iff_eq] at h
    exact ⟨f,e,h.1,h.2⟩
  · cases h
def Bx (zs : List Int) : List (BitVec 8):=zs.map (BitVec.ofInt 8)
theorem FH {H : Type} {enc : TypeId × Value→H} {W : World} {fuel : Nat} {v : Value} {x : DataW H × List MemPlace} (h : DataW.trod enc Tryz.prog W 0 (fun _=>true) true fuel 27 [v]=some x) : ∃ k : aO,v=k.v∧k.ok W∧k.cap≤maxLen:=by
  rcases open_ints (show Tryz.prog.underlying 27=some (.slice 5) by kernel_rfl) (show Tryz.prog.underlying 5=some (.int .u8) by kernel_rfl) (by kernel_rfl) h with ⟨hcs,_⟩ | ⟨x,l,c,zs,hcs,_,hl,hm,hz,_,hcell,hwz⟩
  · cases hcs
    exact ⟨⟨none,0,[]⟩,rfl,⟨by simp,Reads.nil _ _⟩,by decide⟩
  · cases hcs
    simp only [if_true] at hz
    have hlen : (Bx (zs.take l)).length=l:=by simp [Bx];omega
    refine ⟨⟨some x,c,Bx (zs.take l)⟩,by simp [aO.v,hlen],⟨by rw [hlen];exact hl,?_⟩,hm⟩
    intro i v hv
    have hi : i<l:=by
      have:=(List.getElem?_eq_some_iff.1 hv).1
      simpa [hlen] using this
    have hc:=hcell i (by omega)
    obtain ⟨b,o,sp⟩:=x
    cases sp with
    | some s=>
      have hc:=hcell 0 (by omega)
      simp only [World.cell?,Addr.add,if_true] at hc
      split at hc <;> simp at hc
    | none=>
      refine ⟨b,o,rfl,?_⟩
      have e1 : zs.getD i 0=zs[i]'(by omega):=by simp [List.getD,show i<zs.length by omega]
      have e2:=FF (hwz (zs[i]'(by omega)) (List.getElem_mem _))
      have e3 : v=.int .u8 (zs.getD i 0):=by
        simp only [Bx,List.map_map,List.getElem?_map,List.getElem?_take] at hv
        rw [if_pos hi,List.getElem?_eq_getElem (by omega)] at hv
        simp only [Option.map_some,Function.comp,Option.some.injEq] at hv
        rw [← hv,e2,e1]
      rw [e3]
      have e4 : (⟨b,o,none⟩ : Addr).add i=⟨b,o+i,none⟩:=by
        unfold Addr.add
        split
        · subst i;rfl
        · rfl
      rw [e4] at hc
      exact hc
end
section
set_option maxRecDepth 10000
open Go.ChangeShapes Go.WideShapes Go.ChangeAt Go.RowKit
open Sl
set_option linter.unusedVariables false
theorem C5 {α : Type} {H : Type} {enc : TypeId × Value→H} {W : World} {fuel k : Nat} {t e : TypeId} {v : Value} {x : DataW H × List MemPlace} (cs : α→List Value) (P : α→Prop) (c0 : α) (hk0 : 0<k)
    (hu : Tryz.prog.underlying t=some (.slice e)) (hc1 : Tryz.prog.cellsOf e=k) (hlen : ∀ c,P c→(cs c).length=k)
    (hel : ∀ (l : List Value) (fuel : Nat) (x : DataW H × List MemPlace),l.length=k→DataW.trod enc Tryz.prog W 0 (fun _=>true) true fuel e l=some x→∃ c,l=cs c∧P c)
    (h : DataW.trod enc Tryz.prog W 0 (fun _=>true) true fuel t [v]=some x) :
    ∃ (ad : Option Addr) (cap : Nat) (l : List α),v=.slice ad l.length cap∧l.length≤cap∧Reads W ad (l.map cs).flatten∧∀ c ∈ l,P c:=by
  rcases Go.Deep.open_slice hu h with ⟨hcs,_⟩ | ⟨a',l,cap,m,n,D,Pl,hcs,_,hl,hm,hmm,hxx,hel'⟩
  · cases hcs
    exact ⟨none,0,[],rfl,Nat.le_refl _,Reads.nil _ _,nofun⟩
  · cases hcs
    simp only [if_true] at hmm
    subst hmm
    simp only [hc1] at hel'
    have hk : ∀ i,∃ c : α,i<l→(∀ j u,(cs c)[j]?=some u→W.cell? ((a'.add (i * k)).add j)=some u)∧P c:=by
      intro i
      by_cases hi : i<l
      · obtain ⟨cs',h1,h2⟩:=hel' i (by omega)
        obtain ⟨_,hlen',hcell⟩:=World.cells?_some h1
        obtain ⟨c,rfl,hp⟩:=hel _ _ _ hlen' h2
        refine ⟨c,fun _=>⟨fun j u hu=>?_,hp⟩⟩
        have hj : j<(cs c).length:=(List.getElem?_eq_some_iff.1 hu).1
        rw [hcell j (by omega)]
        exact hu
      · exact ⟨c0,fun h=>absurd h hi⟩
    let f : Nat→α:=fun i=>Classical.choose (hk i)
    have hf : ∀ i,i<l→(∀ j u,(cs (f i))[j]?=some u→W.cell? ((a'.add (i * k)).add j)=some u)∧P (f i):=fun i=>Classical.choose_spec (hk i)
    refine ⟨some a',m,(List.range l).map f,by simp,by simpa using hl,?_,?_⟩
    · intro i u hu
      have hcss : ∀ q ∈ ((List.range l).map f).map cs,q.length=k:=by
        intro q hq
        obtain ⟨d,hd,rfl⟩:=List.mem_map.1 hq
        obtain ⟨j,hj,rfl⟩:=List.mem_map.1 hd
        exact hlen _ (hf j (List.mem_range.1 hj)).2
      have hlen2:=dJ hcss
      have hi : i<(((List.range l).map f).map cs).flatten.length:=(List.getElem?_eq_some_iff.1 hu).1
      rw [hlen2] at hi
      simp only [List.length_map,List.length_range] at hi
      have hq : i / k<l:=Nat.div_lt_of_lt_mul (by rw [Nat.mul_comm];exact hi)
      have hr : i % k<k:=Nat.mod_lt _ hk0
      have hat:=oK (i:=i / k) hcss (by simpa using hq)
      have e2 : (((List.range l).map f).map cs).getD (i / k) []=cs (f (i / k)):=by simp [hq]
      rw [e2] at hat
      have hdm : i / k * k+i % k=i:=by rw [Nat.mul_comm];exact Nat.div_add_mod i k
      have hu2 : (cs (f (i / k)))[i % k]?=some u:=by
        rw [← hat,List.getElem?_take,if_pos hr,List.getElem?_drop,hdm]
        exact hu
      have hc:=(hf (i / k) hq).1 (i % k) u hu2
      obtain ⟨b,o,sp⟩:=a'
      cases sp with
      | some s=>
        exfalso
        have h0:=hf 0 (Nat.lt_of_le_of_lt (Nat.zero_le _) hq)
        have hl0:=hlen _ h0.2
        obtain ⟨u0,hu0⟩ : ∃ u0,(cs (f 0))[0]?=some u0:=⟨_,List.getElem?_eq_getElem (by omega)⟩
        have h00:=h0.1 0 u0 hu0
        simp only [World.cell?,Addr.add,Nat.zero_mul,if_true] at h00
        split at h00 <;> simp at h00
      | none=>
        refine ⟨b,o,rfl,?_⟩
        rw [cQ,cQ,Nat.add_assoc,hdm] at hc
        exact hc
    · intro d hd
      obtain ⟨j,hj,rfl⟩:=List.mem_map.1 hd
      exact (hf j (List.mem_range.1 hj)).2
theorem jl {H : Type} {enc : TypeId × Value→H} {W : World} {fuel m : Nat} {t : TypeId} (hu : Tryz.prog.underlying t=some (.array m 5)) {cs : List Value} (hl : cs.length=m) {x : DataW H × List MemPlace} (h : DataW.trod enc Tryz.prog W 0 (fun _=>true) true fuel t cs=some x) :
    ∃ r : List (BitVec 8),cs=r.map U8∧r.length=m:=by
  obtain ⟨xs,m',_,ex,_,_,hel⟩:=DataW.trod_array hu h
  have c5 : Tryz.prog.cellsOf 5=1:=by kernel_rfl
  have hk : ∀ i,∃ k : BitVec 8,i<m→cs[i]?=some (U8 k):=by
    intro i
    by_cases hi : i<m
    · have h1:=hel i hi
      rw [c5,Nat.mul_one,List.getElem?_eq_getElem (by omega)] at h1
      obtain ⟨z,e1,e2,hw⟩:=DataW.trod_int (show Tryz.prog.underlying 5=some (.int .u8) by kernel_rfl) h1
      refine ⟨BitVec.ofInt 8 z,fun _=>?_⟩
      have h0 : ((cs.drop i).take 1)[0]?=some (.int .u8 z):=by rw [e1];rfl
      rw [FF hw]
      simpa using h0
    · exact ⟨0,fun h=>absurd h hi⟩
  let f : Nat→BitVec 8:=fun i=>Classical.choose (hk i)
  have hf : ∀ i,i<m→cs[i]?=some (U8 (f i)):=fun i=>Classical.choose_spec (hk i)
  refine ⟨(List.range m).map f,?_,by simp⟩
  apply List.ext_getElem?
  intro i
  by_cases hi : i<m
  · rw [hf i hi]
    simp [hi]
  · rw [List.getElem?_eq_none (by omega),List.getElem?_eq_none (by simp;omega)]
theorem Bz {H : Type} {enc : TypeId × Value→H} {W : World} {fuel nf : Nat} {t : TypeId} {cs : List Value} {x : DataW H × List MemPlace} (ht : Tryz.prog.underlying t=some (.struct (Tryz.prog.fieldsOf t))) (hsz : (Tryz.prog.fieldsOf t).size=nf)
    (h : DataW.trod enc Tryz.prog W 0 (fun _=>true) true fuel t cs=some x) : ∃ n,∀ {i ty off},FG Tryz.prog t i ty off=true→i<nf→∃ y,DataW.trod enc Tryz.prog W 0 (fun _=>true) true n ty ((cs.drop off).take (Tryz.prog.cellsOf ty))=some y:=by
  obtain ⟨xs,n,_,_,_,hlen,hf⟩:=DataW.trod_struct ht h
  rw [hsz] at hlen
  refine ⟨n,fun {i ty off} h1 h2=>?_⟩
  obtain ⟨f,e1,rfl,rfl⟩:=C4 h1
  exact ⟨xs[i],by rw [hf i f e1,List.getElem?_eq_getElem (by omega)]⟩
theorem J9 {cs : List Value} {off : Nat} (h : off<cs.length) : ∃ v,(cs.drop off).take 1=[v]∧cs[off]?=some v:=
  ⟨cs[off],by rw [List.drop_eq_getElem_cons h,List.take_succ_cons,List.take_zero],List.getElem?_eq_getElem h⟩
end
end Go.Proofs.YtgkninhgcpbfnaaGreatDoor
