/-
  Of no statement by itself: the texts JrnG, JrnH, JrnI, JrnJ, JrnK, JrnL, JrnQ, Same, JrnR, LinB, StoP, Slmp, StoA, StoB in one.
  Conditions: each theorem's own.
-/
import Derived.Test.YtmhlgnbdhnolaaaGreatDoorQb
import Derived.Laws.Cover3
import Derived.Laws.IdiomRangeMap
set_option linter.unusedSimpArgs false
set_option linter.unusedVariables false
namespace Go.Proofs.YtmhlgnbdhnolaaaGreatDoor
section
set_option maxRecDepth 10000
open Sl cY dy
def gy (bl : List Bk) (first : Nat) : List Bk:=gj bl first (bl.length / 2) (ak (old bl first)).1
def ff (bl : List Bk) (first : Nat) : BitVec 32:=if (gy bl first).length=0 then 0 else (ak (old bl first)).1
def bz (bl : List Bk) : Nat × BitVec 32 × List Bk:=
  if (0 : Int)<((ff bl 0).toNat : Int)∧((ff bl (bl.length / 2)).toNat : Int)≤((ff bl 0).toNat : Int) then (0,ff bl 0,gy bl 0)
  else if (0 : Int)<((ff bl (bl.length / 2)).toNat : Int) then (bl.length / 2,ff bl (bl.length / 2),gy bl (bl.length / 2)) else (bl.length / 2,ff bl (bl.length / 2),[[]])
theorem wY (x : Dp) (bl : List Bk) (pd : List (Nat × Bk)) (first : Nat) (ok : Ok bl pd) (hn : bl.length≤65536) (hf : first<bl.length) (hs : first+bl.length / 2≤bl.length) (w : World) (h0 : Holds w [] (iO x bl pd) w) :
    Calls Tryz.prog 142 [ia x,N first].toArray w fun e w'=>∃ z : {z : Gr // z.l=gy bl first∧z.rs.length≤bl.length / 2},e=.returned (.tuple #[.agg (bp ⟨x,first,bl.length / 2,ff bl first,0,0⟩).toArray,z.1.v])∧Holds w [] z.1.E w':=
  (sx x bl pd first ok hn hf hs w h0).mono fun e w' ⟨⟨z,hz⟩,h1,h2⟩=>⟨⟨z,hz⟩,by
    rw [h1]
    have : z.rs.length=(gy bl first).length:=by
      have:=congrArg List.length hz.1
      rw [Gr.l,List.length_map] at this
      exact this
    unfold ff
    rw [← this],h2⟩
theorem wZ : aL Tryz.prog 112:=⟨_,Tryz.func112,rfl,by kernel_rfl⟩
abbrev qz (A : List Bk) (m : Nat):={z : Gr // z.l=A∧z.rs.length≤m}
theorem JL.w4 {n : Nat} {w0 : World} {S : List Nat} {ops : Array Oper} {Q : Exit→Act→World→Prop} {l : List Oper} {E : Env} {M A : List ai} {d : Nat} {ty : TypeId} {pos : String} {aft : Array Edge} {x1 x2 : Operand} {ats : Array TypeId} {x : Dp} {bl : List Bk} {pd : List (Nat × Bk)} {first : Nat}
    (ok : Ok bl pd) (hn : bl.length≤65536) (hf : first<bl.length) (hs : first+bl.length / 2≤bl.length) (e1 : ev E x1=some (ia x)) (e2 : ev E x2=some (N first)) (hd : Nat.blt d n=true) (hM : M=A++(iO x bl pd++[]))
    (kk : ∀ z : qz (gy bl first) (bl.length / 2),JL Tryz.prog n w0 S ops Q l ((d,.tuple #[.agg (bp ⟨x,first,bl.length / 2,ff bl first,0,0⟩).toArray,z.1.v])::E) (z.1.E++M)) : JL Tryz.prog n w0 S ops Q (⟨some d,.call ⟨.value (.func 142),#[x1,x2],ats⟩,ty,pos,aft,none⟩::l) E M:=
  JL.bA (xs:=[x1,x2]) (ι:=qz (gy bl first) (bl.length / 2)) (vs:=[ia x,N first]) (fun z=>.tuple #[.agg (bp ⟨x,first,bl.length / 2,ff bl first,0,0⟩).toArray,z.1.v]) (fun z=>z.1.E) qw (by simp [gr,e1,e2]) hd (fun z=>z.1.wr) (fun w' hw'=>wY x bl pd first ok hn hf hs w' (bT (A:=A) (by rw [← hM];exact hw'))) kk
def Ee (b : Nat) : Gr:=⟨some (b,1),[bG],nofun,fun x hx _=>by rw [List.mem_singleton.1 hx];rfl⟩
set_option maxHeartbeats 16000000 in
theorem zf (x : Dp) (bl : List Bk) (pd : List (Nat × Bk)) (ok : Ok bl pd) (hn : bl.length≤65536) (h4 : 4≤bl.length) (w : World) (h0 : Holds w [] (iO x bl pd) w) :
    Calls Tryz.prog 112 [ia x].toArray w fun e w'=>∃ z : qz (bz bl).2.2 (bl.length / 2),e=.returned (.tuple #[.agg (bp ⟨x,(bz bl).1,bl.length / 2,(bz bl).2.1,0,0⟩).toArray,z.1.v])∧Holds w [] z.1.E w':=by
  refine enter (n:=40) Tryz.func112 rfl rfl rfl h0 ?_
  repeat (first | refine JC.seq ?_ | refine JC.region ?_)
  refine JL.alloc (r:=j8) Bi rfl fun b2 _=>?_
  repeat (first | refine JL.q (by first|(apply OQ.move;rfl)|(apply OQ.assign;rfl)) rfl ?_ | refine JC.seq ?_ | refine JC.region ?_ | refine JL.nil ?_ | refine JE.next ?_)
  refine JL.w4 (A:=[_]) (first:=0) ok hn (by omega) (by omega) rfl rfl rfl rfl fun z1=>?_
  repeat (refine JL.q (by first|(apply OQ.extract;rfl;rfl)|(apply OQ.move;rfl)) rfl ?_)
  generalize hh1 : (⟨x,0,bl.length / 2,ff bl 0,0,0⟩ : Hf)=h1
  refine JL.alloc (r:=j8) Bi rfl fun b4 _=>?_
  refine JL.aq (cs:=bp h1) gM rfl rfl rfl rfl .here rfl ?_
  refine JL.perm (M':=([⟨b4,Row 158 (bp h1),true⟩,⟨b2,Row 158 j8,true⟩]++z1.1.E)++(iO x bl pd++[])) ?_ (by
    rw [List.append_nil,List.append_assoc]
    exact List.Perm.cons _ (List.perm_append_comm_assoc z1.1.E [_] _))
  repeat (first | refine JL.q (by first|(apply OQ.inv (xs:=[]);exact (oN x);rfl;exact (OQ.aF (vs:=[Pt x.p 0]) eX rfl (fun w' hw'=>oP x bl pd w' (bT (A:=[⟨b4,Row 158 (bp h1),true⟩,⟨b2,Row 158 j8,true⟩]++z1.1.E) (M:=[]) hw'))))|(apply OQ.wg (b:=2);rfl;rfl;exact (by decide);exact (by omega))|(apply OQ.move;rfl)|(apply OQ.assign;rfl)) rfl ?_ | refine JC.seq ?_ | refine JC.region ?_ | refine JL.nil ?_ | refine JE.next ?_)
  refine JL.w4 (A:=[_,_]++z1.1.E) (first:=bl.length / 2) ok hn (by omega) (by omega) rfl rfl rfl rfl fun z2=>?_
  repeat (refine JL.q (by first|(apply OQ.extract;rfl;rfl)|(apply OQ.move;rfl)) rfl ?_)
  generalize hh2 : (⟨x,bl.length / 2,bl.length / 2,ff bl (bl.length / 2),0,0⟩ : Hf)=h2
  refine JL.alloc (r:=j8) Bi rfl fun b6 _=>?_
  refine JL.aq (cs:=bp h2) gM rfl rfl rfl rfl .here rfl ?_
  refine JL.perm (M':=[⟨b6,Row 158 (bp h2),true⟩,⟨b4,Row 158 (bp h1),true⟩,⟨b2,Row 158 j8,true⟩]++(z1.1.E++(z2.1.E++iO x bl pd))) ?_ (by
    rw [List.append_nil]
    refine List.Perm.cons _ ((List.perm_append_comm_assoc z2.1.E ([_,_]++z1.1.E) _).trans ?_)
    rw [List.append_assoc]
    exact List.Perm.refl _)
  have hcur : bz bl=if (0 : Int)<(h1.g.toNat : Int)∧(h2.g.toNat : Int)≤(h1.g.toNat : Int) then (0,h1.g,gy bl 0) else if (0 : Int)<(h2.g.toNat : Int) then (bl.length / 2,h2.g,gy bl (bl.length / 2)) else (bl.length / 2,h2.g,[[]]):=by rw [← hh1,← hh2];rfl
  rw [hcur]
  cases c0 : decide ((0 : Int)<(h1.g.toNat : Int)∧(h2.g.toNat : Int)≤(h1.g.toNat : Int))
  case true=>
    have hc0:=of_decide_eq_true c0
    rw [if_pos hc0]
    repeat (first | refine JL.q (by first|(apply OQ.load;exact iF;rfl;exact (.there .here);exact (Row.cell (v:=dN h1.g) rfl))|(apply OQ.load;exact iF;rfl;exact .here;exact (Row.cell (v:=dN h2.g) rfl))|(apply OQ.cD (b:=0);rfl;rfl;exact (decide_eq_true hc0.1))|(apply OQ.ee;rfl;rfl;exact (decide_eq_true hc0.2))|(apply OQ.aS;rfl;rfl)|(apply OQ.move;rfl)|(apply OQ.assign;rfl)|(apply OQ.aV;rfl;rfl;rfl;exact (by decide);rfl)) rfl ?_ | refine JC.seq ?_ | refine JC.region ?_ | refine JL.nil ?_ | refine JE.next ?_ | refine JL.aB rfl rfl ?_)
    refine JC.cond_true rfl rfl ?_
    repeat (first | refine JL.q (by first|(apply OQ.az (cs:=bp h1);exact eL;exact gM;rfl;exact (.there .here);rfl;exact Row.all)|(apply OQ.move;rfl)) rfl ?_ | refine JC.seq ?_ | refine JC.region ?_)
    refine JL.aq (cs:=bp h1) gM rfl rfl rfl rfl (.there (.there .here)) rfl ?_
    repeat (first | refine JL.q (by (apply OQ.assign;rfl)) rfl ?_ | refine JL.nil ?_ | refine JE.next ?_)
    refine JC.ret ?_
    repeat (refine JE.aA ?_)
    exact JE.cw rfl (RV.aT eL gM rfl (.there (.there .here)) rfl Row.all) (RV.tmp rfl) fun w' hw=>⟨z1,by rw [← hh1];rfl,hw.weak (.drop _ _ _ (.drop _ _ _ (.drop _ _ _ (ax _ _))))⟩
  case false=>
    have hc0:=of_decide_eq_false c0
    rw [if_neg hc0]
    cases c1 : decide ((0 : Int)<(h1.g.toNat : Int))
    case false=>
      repeat (first | refine JL.q (by first|(apply OQ.load;exact iF;rfl;exact (.there .here);exact (Row.cell (v:=dN h1.g) rfl))|(apply OQ.cD (b:=0);rfl;rfl;exact c1)|(apply OQ.aJ;rfl;rfl)|(apply OQ.move;rfl)|(apply OQ.assign;rfl)|(apply OQ.aV;rfl;rfl;rfl;exact (by decide);rfl)) rfl ?_ | refine JC.seq ?_ | refine JC.region ?_ | refine JL.nil ?_ | refine JE.next ?_ | refine JL.bC rfl rfl rfl rfl ?_)
      refine JC.cond_false rfl rfl ?_
      cases c3 : decide ((0 : Int)<(h2.g.toNat : Int))
      case true=>
        have hc3:=of_decide_eq_true c3
        rw [if_pos hc3]
        repeat (first | refine JL.q (by first|(apply OQ.load;exact iF;rfl;exact .here;exact (Row.cell (v:=dN h2.g) rfl))|(apply OQ.cD (b:=0);rfl;rfl;exact c3)|(apply OQ.aV;rfl;rfl;rfl;exact (by decide);rfl)) rfl ?_ | refine JC.seq ?_ | refine JC.region ?_ | refine JC.skip ?_ | refine JL.nil ?_ | refine JE.next ?_)
        refine JC.cond_true rfl rfl ?_
        repeat (first | refine JL.q (by first|(apply OQ.az (cs:=bp h2);exact eL;exact gM;rfl;exact .here;rfl;exact Row.all)|(apply OQ.move;rfl)) rfl ?_ | refine JC.seq ?_ | refine JC.region ?_)
        refine JL.aq (cs:=bp h2) gM rfl rfl rfl rfl (.there (.there .here)) rfl ?_
        repeat (first | refine JL.q (by (apply OQ.assign;rfl)) rfl ?_ | refine JL.nil ?_ | refine JE.next ?_)
        refine JC.ret ?_
        repeat (refine JE.aA ?_)
        exact JE.cw rfl (RV.aT eL gM rfl (.there (.there .here)) rfl Row.all) (RV.tmp rfl) fun w' hw=>⟨z2,by rw [← hh2];rfl,hw.weak (.drop _ _ _ (.drop _ _ _ (.drop _ _ _ (av z1.1.E (ax z2.1.E _)))))⟩
      case false=>
        have hc3:=of_decide_eq_false c3
        rw [if_neg hc3]
        repeat (first | refine JL.q (by first|(apply OQ.load;exact iF;rfl;exact .here;exact (Row.cell (v:=dN h2.g) rfl))|(apply OQ.cD (b:=0);rfl;rfl;exact c3)|(apply OQ.aV;rfl;rfl;rfl;exact (by decide);rfl)) rfl ?_ | refine JC.seq ?_ | refine JC.region ?_ | refine JC.skip ?_ | refine JL.nil ?_ | refine JE.next ?_)
        refine JC.cond_false rfl rfl ?_
        repeat (first | refine JL.q (by (apply OQ.az (cs:=bp h2);exact eL;exact gM;rfl;exact .here;rfl;exact Row.all)) rfl ?_ | refine JC.seq ?_ | refine JC.region ?_ | refine JC.skip ?_ | refine JE.next ?_)
        refine JL.gu (v:=.slice none 0 0) Tryz.underlying137 wX rfl rfl rfl rfl fun bl2 _=>?_
        refine JL.aq (cs:=bp h2) gM rfl rfl rfl rfl (.there (.there (.there .here))) rfl ?_
        repeat (first | refine JL.q (by (apply OQ.assign;rfl)) rfl ?_ | refine JL.nil ?_ | refine JE.next ?_)
        refine JC.ret ?_
        skip
        exact JE.cw rfl (RV.aT eL gM rfl (.there (.there (.there .here))) rfl Row.all) (RV.tmp rfl) fun w' hw=>⟨⟨Ee bl2,rfl,by show 1≤_;omega⟩,by rw [← hh2];rfl,hw.weak (.keep _ _ _ _ _ _ (ju rfl) (.nil _))⟩
    case true=>
      have c2 : decide ((h2.g.toNat : Int)≤(h1.g.toNat : Int))=false:=decide_eq_false fun h=>hc0 ⟨of_decide_eq_true c1,h⟩
      repeat (first | refine JL.q (by first|(apply OQ.load;exact iF;rfl;exact (.there .here);exact (Row.cell (v:=dN h1.g) rfl))|(apply OQ.load;exact iF;rfl;exact .here;exact (Row.cell (v:=dN h2.g) rfl))|(apply OQ.cD (b:=0);rfl;rfl;exact c1)|(apply OQ.ee;rfl;rfl;exact c2)|(apply OQ.aS;rfl;rfl)|(apply OQ.move;rfl)|(apply OQ.assign;rfl)|(apply OQ.aV;rfl;rfl;rfl;exact (by decide);rfl)) rfl ?_ | refine JC.seq ?_ | refine JC.region ?_ | refine JL.nil ?_ | refine JE.next ?_ | refine JL.aB rfl rfl ?_)
      refine JC.cond_false rfl rfl ?_
      cases c3 : decide ((0 : Int)<(h2.g.toNat : Int))
      case true=>
        have hc3:=of_decide_eq_true c3
        rw [if_pos hc3]
        repeat (first | refine JL.q (by first|(apply OQ.load;exact iF;rfl;exact .here;exact (Row.cell (v:=dN h2.g) rfl))|(apply OQ.cD (b:=0);rfl;rfl;exact c3)|(apply OQ.aV;rfl;rfl;rfl;exact (by decide);rfl)) rfl ?_ | refine JC.seq ?_ | refine JC.region ?_ | refine JC.skip ?_ | refine JL.nil ?_ | refine JE.next ?_)
        refine JC.cond_true rfl rfl ?_
        repeat (first | refine JL.q (by first|(apply OQ.az (cs:=bp h2);exact eL;exact gM;rfl;exact .here;rfl;exact Row.all)|(apply OQ.move;rfl)) rfl ?_ | refine JC.seq ?_ | refine JC.region ?_)
        refine JL.aq (cs:=bp h2) gM rfl rfl rfl rfl (.there (.there .here)) rfl ?_
        repeat (first | refine JL.q (by (apply OQ.assign;rfl)) rfl ?_ | refine JL.nil ?_ | refine JE.next ?_)
        refine JC.ret ?_
        repeat (refine JE.aA ?_)
        exact JE.cw rfl (RV.aT eL gM rfl (.there (.there .here)) rfl Row.all) (RV.tmp rfl) fun w' hw=>⟨z2,by rw [← hh2];rfl,hw.weak (.drop _ _ _ (.drop _ _ _ (.drop _ _ _ (av z1.1.E (ax z2.1.E _)))))⟩
      case false=>
        have hc3:=of_decide_eq_false c3
        rw [if_neg hc3]
        repeat (first | refine JL.q (by first|(apply OQ.load;exact iF;rfl;exact .here;exact (Row.cell (v:=dN h2.g) rfl))|(apply OQ.cD (b:=0);rfl;rfl;exact c3)|(apply OQ.aV;rfl;rfl;rfl;exact (by decide);rfl)) rfl ?_ | refine JC.seq ?_ | refine JC.region ?_ | refine JC.skip ?_ | refine JL.nil ?_ | refine JE.next ?_)
        refine JC.cond_false rfl rfl ?_
        repeat (first | refine JL.q (by (apply OQ.az (cs:=bp h2);exact eL;exact gM;rfl;exact .here;rfl;exact Row.all)) rfl ?_ | refine JC.seq ?_ | refine JC.region ?_ | refine JC.skip ?_ | refine JE.next ?_)
        refine JL.gu (v:=.slice none 0 0) Tryz.underlying137 wX rfl rfl rfl rfl fun bl2 _=>?_
        refine JL.aq (cs:=bp h2) gM rfl rfl rfl rfl (.there (.there (.there .here))) rfl ?_
        repeat (first | refine JL.q (by (apply OQ.assign;rfl)) rfl ?_ | refine JL.nil ?_ | refine JE.next ?_)
        refine JC.ret ?_
        skip
        exact JE.cw rfl (RV.aT eL gM rfl (.there (.there (.there .here))) rfl Row.all) (RV.tmp rfl) fun w' hw=>⟨⟨Ee bl2,rfl,by show 1≤_;omega⟩,by rw [← hh2];rfl,hw.weak (.keep _ _ _ _ _ _ (ju rfl) (.nil _))⟩
theorem mg : aL Tryz.prog 113:=⟨_,Tryz.func113,rfl,by kernel_rfl⟩
set_option maxHeartbeats 4000000 in
theorem nX (h : Hf) (hf : h.first≤h.size) (hb : h.size<4611686018427387904) (w : World) : Calls Tryz.prog 113 [.agg (bp h).toArray].toArray w fun e w'=>e=.returned (.agg (bp ⟨h.x,h.size - h.first,h.size,0,0,0⟩).toArray)∧Ext w w':=by
  refine enter (n:=13) Tryz.func113 rfl rfl rfl (Holds.start w []) ?_
  repeat (first | refine JC.seq ?_ | refine JC.region ?_)
  refine JL.box (r:=bp h) rfl rfl rfl fun b1 _=>?_
  refine JL.alloc (r:=j8) Bi rfl fun b2 _=>?_
  repeat (first | refine JL.q (by first|(apply OQ.load;exact AE;rfl;exact (.there .here);exact (Row.cell (v:=ia h.x) rfl))|(apply OQ.load;exact bI;rfl;exact (.there .here);exact (Row.cell (v:=N h.first) rfl))|(apply OQ.load;exact bI;rfl;exact (.there .here);exact (Row.cell (v:=N h.size) rfl))|(apply OQ.rJ (a:=h.size);rfl;rfl;exact hf;exact (by omega))|(apply OQ.ze (h:=⟨h.x,h.size - h.first,h.size,0,0,0⟩);rfl;rfl;rfl)|(apply OQ.aV;rfl;rfl;rfl;exact (by decide);rfl)) rfl ?_ | refine JC.seq ?_ | refine JC.region ?_ | refine JL.nil ?_ | refine JE.next ?_)
  refine JL.aq (cs:=bp ⟨h.x,h.size - h.first,h.size,0,0,0⟩) gM rfl rfl rfl rfl .here rfl ?_
  repeat (first | refine JL.nil ?_ | refine JE.next ?_)
  exact JC.ret (JE.aR rfl (RV.aT eL gM rfl .here rfl Row.all) fun w' hw=>⟨rfl,hw.bf⟩)
theorem uZ : aL Tryz.prog 73:=⟨_,Tryz.func73,rfl,by kernel_rfl⟩
def CK (j : Nat) (h : Hf) (bl : List Bk) (pd : List (Nat × Bk)) : List ai:=⟨j,Row 160 (bp h),false⟩::iO h.x bl pd
set_option maxHeartbeats 4000000 in
theorem w5 (j : Nat) (h : Hf) (bl : List Bk) (pd : List (Nat × Bk)) (ok : Ok bl pd) (hn : bl.length≤65536) (hs : h.first+h.size≤bl.length) (w : World) (h0 : Holds w [] (CK j h bl pd) w) :
    Calls Tryz.prog 73 [Pt j 0].toArray w fun e w'=>∃ z : qz (gj bl h.first h.size h.g) h.size,e=.returned z.1.v∧Holds w [] z.1.E w':=by
  refine enter (n:=8) Tryz.func73 rfl rfl rfl h0 ?_
  repeat (first | refine JL.q (by first|(apply OQ.az (cs:=bp h);exact eL;exact gM;rfl;exact .here;rfl;exact Row.all)|(apply OQ.move;rfl)|(apply OQ.assign;rfl)|(apply OQ.aO;rfl)|(apply OQ.aV;rfl;rfl;rfl;exact (by decide);rfl)) rfl ?_ | refine JC.seq ?_ | refine JC.region ?_ | refine JL.nil ?_ | refine JE.next ?_)
  refine JL.bA (ι:=qz (gj bl h.first h.size h.g) h.size) (vs:=[.agg (bp h).toArray]) (fun z=>z.1.v) (fun z=>z.1.E) nW rfl rfl (fun z=>z.1.wr) (fun w' hw'=>qv h bl pd ok hn hs w' (bT (A:=[_]) (M:=[]) (by rw [List.append_nil];exact hw'))) fun z=>?_
  repeat (first | refine JL.q (by (apply OQ.assign;rfl)) rfl ?_ | refine JL.nil ?_ | refine JE.next ?_)
  exact JC.ret (JE.aR rfl (RV.tmp rfl) fun w' hw=>⟨z,rfl,hw.weak (ax _ _)⟩)
theorem nY : aL Tryz.prog 58:=⟨_,Tryz.func58,rfl,by kernel_rfl⟩
set_option maxHeartbeats 4000000 in
theorem w6 (j : Nat) (h : Hf) (n : Int) (hu : h.used≤h.size) (hb : h.size<4611686018427387904) (hn : n<4611686018427387904) (w : World) (h0 : Holds w [] [⟨j,Row 160 (bp h),false⟩] w) :
    Calls Tryz.prog 58 [Pt j 0,.int .i64 n].toArray w fun e w'=>e=.returned (.bool (decide (0≤n∧nb n.toNat≤h.size - h.used)))∧Ext w w':=by
  refine enter (n:=23) Tryz.func58 rfl rfl rfl h0 ?_
  repeat (first | refine JL.q (by (apply OQ.assign;rfl)) rfl ?_ | refine JC.seq ?_ | refine JC.region ?_ | refine JL.nil ?_ | refine JE.next ?_)
  refine JC.tail 18 bZ (by kernel_rfl) ?_
  simp only [List.take_succ_cons,List.take_zero,List.drop_succ_cons,List.drop_zero]
  cases h1 : decide ((0 : Int)≤n)
  · repeat (first | refine JL.q (by first|(apply OQ.ee (b:=0);rfl;rfl;exact h1)|(apply OQ.aJ;rfl;rfl)|(apply OQ.move;rfl)|(apply OQ.assign;rfl)) rfl ?_ | refine JQ.q (by first|(apply OQ.ee (b:=0);rfl;rfl;exact h1)|(apply OQ.aJ;rfl;rfl)|(apply OQ.move;rfl)|(apply OQ.assign;rfl)) rfl ?_ | refine JL.nil ?_ | refine JQ.cI ?_ | refine JE.next ?_ | refine JQ.bC rfl rfl rfl rfl ?_)
    refine JC.ret (JE.aR rfl (RV.tmp rfl) fun w' hw=>⟨?_,hw.bf⟩)
    rw [decide_eq_false fun hh=>of_decide_eq_false h1 hh.1]
  · obtain ⟨m,rfl⟩:=Int.eq_ofNat_of_zero_le (of_decide_eq_true h1)
    have hm : m<4611686018427387904:=by omega
    have e2 : decide ((0 : Int)≤(m : Int)∧nb (m : Int).toNat≤h.size - h.used)=decide (nb m≤h.size - h.used):=decide_eq_decide.2 (by simp)
    rw [e2]
    repeat (first | refine JL.q (by first|(apply OQ.ee (b:=0);rfl;rfl;exact h1)|(apply OQ.aF (vs:=[N m]);exact c7;rfl;exact (fun w' _=>dM m hm w'))|(apply OQ.load;exact bI;rfl;exact .here;exact (Row.cell (v:=N h.size) rfl))|(apply OQ.load;exact bI;rfl;exact .here;exact (Row.cell (v:=N h.used) rfl))|(apply OQ.rJ (a:=h.size);rfl;rfl;exact hu;exact (by omega))|(apply OQ.Cn;rfl;rfl)|(apply OQ.aS;rfl;rfl)|(apply OQ.move;rfl)|(apply OQ.assign;rfl)|(apply OQ.aO;rfl)|(apply OQ.aV;rfl;rfl;rfl;exact (by decide);rfl)) rfl ?_ | refine JQ.q (by first|(apply OQ.ee (b:=0);rfl;rfl;exact h1)|(apply OQ.aF (vs:=[N m]);exact c7;rfl;exact (fun w' _=>dM m hm w'))|(apply OQ.load;exact bI;rfl;exact .here;exact (Row.cell (v:=N h.size) rfl))|(apply OQ.load;exact bI;rfl;exact .here;exact (Row.cell (v:=N h.used) rfl))|(apply OQ.rJ (a:=h.size);rfl;rfl;exact hu;exact (by omega))|(apply OQ.Cn;rfl;rfl)|(apply OQ.aS;rfl;rfl)|(apply OQ.move;rfl)|(apply OQ.assign;rfl)|(apply OQ.aO;rfl)|(apply OQ.aV;rfl;rfl;rfl;exact (by decide);rfl)) rfl ?_ | refine JL.nil ?_ | refine JQ.cI ?_ | refine JE.next ?_ | refine JQ.aB rfl rfl ?_)
    exact JC.ret (JE.aR rfl (RV.tmp rfl) fun w' hw=>⟨rfl,hw.bf⟩)
end
section
set_option maxRecDepth 10000
open Sl cY dy
theorem aC.ok.iY {w0 w : World} {S : List Nat} {M : List ai} {s : aC} (h : s.ok w0) (hw : Holds w0 S M w) (ha : gw s S) : s.ok w:=
  ⟨h.len,hw.reads h.reads fun h0 a e=>ha (fun h1=>h0 (by rw [h1];rfl)) a e⟩
def putAt (bl : List Bk) (k : Nat) (l : List Bk) : List Bk:=bl.take k++l++bl.drop (k+l.length)
theorem ic (bl : List Bk) (k : Nat) : putAt bl k []=bl:=by simp [putAt]
theorem dB {bl : List Bk} {k : Nat} {l : List Bk} (h : k+l.length≤bl.length) : (putAt bl k l).length=bl.length:=by
  simp only [putAt,List.length_append,List.length_take,List.length_drop]
  omega
theorem sy {bl : List Bk} {k : Nat} {l : List Bk} {b : Bk} (h : k+l.length<bl.length) : (putAt bl k l).set (k+l.length) b=putAt bl k (l++[b]):=by
  have h1 : (bl.take k++l).length=k+l.length:=by rw [List.length_append,List.length_take];omega
  unfold putAt
  rw [List.set_append_right _ _ (by rw [h1];exact Nat.le_refl _),h1,Nat.sub_self,List.drop_eq_getElem_cons h,List.set_cons_zero,List.length_append,List.length_singleton]
  simp [List.append_assoc]
  congr 1
theorem zg (x : Dp) : ej Tryz.prog 27 (Pt x.p 0) "Write" 278:=by unfold ej;kernel_rfl
theorem Bm (x : Dp) : ej Tryz.prog 27 (Pt x.p 0) "Sync" 277:=by unfold ej;kernel_rfl
section
variable {n : Nat} {w0 : World} {S : List Nat} {ops : Array Oper} {Q : Exit→Act→World→Prop} {l : List Oper} {E : Env} {M : List ai}
variable {d : Nat} {ty : TypeId} {pos : String} {aft : Array Edge} {x1 x2 x3 : Operand} {ats : Array TypeId} {x : Dp} {bl : List Bk} {pd : List (Nat × Bk)}
theorem JL.Bn {k : Nat} {b : Bk} (h : bB x bl pd) (hn : k<bl.length) (hb : b.length=64) (e1 : ev E x1=some (ia x)) (e2 : ev E x2=some (N k)) (e3 : ev E x3=some (.agg (bc b).toArray)) (hd : Nat.blt d n=true)
    (kk : ∀ y,JL Tryz.prog n w0 S ops Q l ((d,N 0)::E) (cg ⟨x.p,x.q,x.cap,some y⟩ (bl.set k b) (wrote bl pd k)++M)) : JL Tryz.prog n w0 S ops Q (⟨some d,.call ⟨.invoke x1 "Write",#[x2,x3],ats⟩,ty,pos,aft,none⟩::l) E (cg x bl pd++M):=
  JL.AB (ι:=Nat × Nat) (vs:=[Pt x.p 0,N k,.agg (bc b).toArray]) (fun _=>N 0) (fun y=>cg ⟨x.p,x.q,x.cap,some y⟩ (bl.set k b) (wrote bl pd k)) (fun a ha w=>lW (xs:=[x2,x3]) (zg x) qd ha e1 (by simp [gr,e2,e3]) w) hd (cl _ _ _) (fun _=>cl _ _ _)
    (fun w _ hw=>uL x bl pd k b hn hb h w hw) kk
theorem JL.w8 (e1 : ev E x1=some (ia x)) (hd : Nat.blt d n=true)
    (kk : JL Tryz.prog n w0 S ops Q l ((d,.tuple #[])::E) (cg ⟨x.p,x.q,x.cap,none⟩ bl []++M)) : JL Tryz.prog n w0 S ops Q (⟨some d,.call ⟨.invoke x1 "Sync",#[],ats⟩,ty,pos,aft,none⟩::l) E (cg x bl pd++M):=
  JL.AB (ι:=Unit) (vs:=[Pt x.p 0]) (fun _=>.tuple #[]) (fun _=>cg ⟨x.p,x.q,x.cap,none⟩ bl []) (fun a ha w=>lW (xs:=[]) (Bm x) rV ha e1 rfl w) hd (cl _ _ _) (fun _=>cl _ _ _)
    (fun w _ hw=>(uK x bl pd w hw).mono fun e w' ⟨g1,g2⟩=>⟨(),g1,g2⟩) fun _=>kk
theorem OQ.CL {C : World→Prop} {dst : Option Tmp} {g : Option (Nat × Bool)} {t : TypeId} {v : Value} (hx : ev E x1=some (.iface t v)) : OQ Tryz.prog n E C ⟨dst,.nilCheck x1,ty,pos,aft,g⟩ (.iface t v):=
  OQ.run fun a ha w _=>by
    have h1:=ha.eval hx
    simp [execOp,h1]
end
structure Dw (x : Dp) (bl : List Bk) (m : Nat) where
  a : Acc
  pd : List (Nat × Bk)
  ok : bB ⟨x.p,x.q,x.cap,a⟩ bl pd
  n : pd.length≤m
def Dw.E {x : Dp} {bl : List Bk} {m : Nat} (z : Dw x bl m) : List ai:=cg ⟨x.p,x.q,x.cap,z.a⟩ bl z.pd
theorem Dw.wr {x : Dp} {bl : List Bk} {m : Nat} (z : Dw x bl m) : ∀ e ∈ z.E,e.wr=true:=cl _ _ _
theorem u5 {l : Bk} {i : Nat} (h : i * 42≤l.length) : (l.take (min ((i+1) * 42) l.length)).drop (i * 42)=chunk l i:=by
  unfold chunk
  rw [List.drop_take]
  by_cases hh : (i+1) * 42≤l.length
  · rw [Nat.min_eq_left hh]
    congr 1
    omega
  · rw [Nat.min_eq_right (by omega),List.take_of_length_le (by rw [List.length_drop];exact Nat.le_refl _),List.take_of_length_le (by rw [List.length_drop];omega)]
theorem CN {n i : Nat} (h : i<nb n) : i * 42≤n:=by unfold nb at h;omega
theorem u6 {g : BitVec 32} {r : Nat} {rec : Bk} {i : Nat} (h : i<nb rec.length) : (cQ g r rec).take (i+1)=(cQ g r rec).take i++[blk g r rec i]:=by
  rw [List.take_add_one]
  congr 1
  simp [cQ,h]
theorem kL : aL Tryz.prog 122:=⟨_,Tryz.func122,rfl,by kernel_rfl⟩
set_option maxHeartbeats 32000000 in
theorem nZ (h : Hf) (bl : List Bk) (pd : List (Nat × Bk)) (at' num : Nat) (s : aC) (hd : bB h.x bl pd) (hs : h.first+h.size≤bl.length) (ha : at'+nb s.l.length≤h.size) (hm : pd.length+h.size≤1000000) (w : World) (hok : s.ok w) (hap : gw s (keys (cg h.x bl pd))) (h0 : Holds w (keys (cg h.x bl pd)) (cg h.x bl pd) w) :
    Calls Tryz.prog 122 [.agg (bp h).toArray,N at',N num,s.v].toArray w fun e w'=>∃ z : Dw h.x (putAt bl (h.first+at') (cQ h.g num s.l)) (pd.length+nb s.l.length),e=.returned (.tuple #[])∧Holds w (keys (cg h.x bl pd)) z.E w':=by
  have hcl:=hok.len
  have hn1:=hd.n1
  have hnl : s.l.length≤nb s.l.length * 42:=nQ _
  have hnp:=l5 s.l.length
  generalize hS : keys (cg h.x bl pd)=S at hap h0 ⊢
  refine enter (n:=55) Tryz.func122 rfl rfl rfl h0 ?_
  repeat (first | refine JC.seq ?_ | refine JC.region ?_)
  refine JL.box (r:=bp h) rfl rfl rfl fun b4 _=>?_
  repeat (first | refine JL.q (by first|(apply OQ.len (k:=s.l.length) (ad:=s.ad) (cap:=s.cap);exact Tryz.underlying24;rfl)|(apply OQ.aF (vs:=[N s.l.length]);exact c7;rfl;exact (fun w' _=>dM s.l.length (by omega) w'))|(apply OQ.move;rfl)|(apply OQ.assign;rfl)) rfl ?_ | refine JC.seq ?_ | refine JC.region ?_ | refine JC.block ?_ | refine JL.nil ?_ | refine JE.next ?_)
  refine JC.loop (fun z : Nat × Acc × List (Nat × Bk)=>[(1,N at'),(2,N num),(3,s.v),(4,Pt b4 0),(8,N (nb s.l.length)),(15,N (nb s.l.length)),(16,N z.1)]) (fun z=>⟨b4,Row 158 (bp h),true⟩::cg ⟨h.x.p,h.x.q,h.x.cap,z.2.1⟩ (putAt bl (h.first+at') ((cQ h.g num s.l).take z.1)) z.2.2) (fun z=>nb s.l.length - z.1) (fun z=>z.1≤nb s.l.length∧bB ⟨h.x.p,h.x.q,h.x.cap,z.2.1⟩ (putAt bl (h.first+at') ((cQ h.g num s.l).take z.1)) z.2.2∧z.2.2.length≤pd.length+z.1) (0,h.x.a,pd) ⟨Nat.zero_le _,by rw [List.take_zero,ic];exact hd,Nat.le_refl _⟩ (by repeat (first | exact ag.nil | refine ag.cons _ _ _ rfl ?_)) (by rw [List.take_zero,ic];exact aj.refl _) ?_
  rintro ⟨i,qa,ps⟩ ⟨hi,hdi,hpi⟩
  dsimp only at hi hdi hpi ⊢
  repeat (first | refine JL.q (by (apply OQ.dX;rfl;rfl)) rfl ?_ | refine JC.seq ?_ | refine JC.region ?_ | refine JL.nil ?_ | refine JE.next ?_)
  refine JC.cond rfl (fun hc=>?_) (fun hc=>?_)
  · have hi' : i<nb s.l.length:=by have:=of_decide_eq_true hc;omega
    clear hc
    have hlo:=CN hi'
    have hch:=u5 hlo
    have htk:=u6 (g:=h.g) (r:=num) hi'
    have hkl : (cQ h.g num s.l).length=nb s.l.length:=ct _ _ _
    have hps:=sy (bl:=bl) (k:=h.first+at') (l:=(cQ h.g num s.l).take i) (b:=blk h.g num s.l i) (by rw [List.length_take,hkl];omega)
    rw [← htk,List.length_take,hkl,Nat.min_eq_left hi] at hps
    have hln : (putAt bl (h.first+at') ((cQ h.g num s.l).take i)).length=bl.length:=dB (by rw [List.length_take,hkl];omega)
    have hmk : rY h.g num (nb s.l.length) i=(h.g,BitVec.ofNat 32 num,BitVec.ofNat 16 i,decide (i=nb s.l.length - 1)):=by
      unfold rY
      congr 3
      exact decide_eq_decide.2 (by omega)
    have hbk : blk h.g num s.l i=br (rY h.g num (nb s.l.length) i) (chunk s.l i):=rfl
    have hcl2 : (chunk s.l i).length≤42:=by rw [dy.bH];omega
    have hb64 : (blk h.g num s.l i).length=64:=by rw [hbk];exact j7 hcl2
    rw [hmk] at hbk
    generalize putAt bl (h.first+at') ((cQ h.g num s.l).take i)=bi at hdi hps hln ⊢
    have cB:=fun {M : List ai} w' (hw' : Holds w S M w')=>qt (h.g,BitVec.ofNat 32 num,BitVec.ofNat 16 i,decide (i=nb s.l.length - 1)) (s.sub (i * 42) (min ((i+1) * 42) s.l.length)) w' ((hok.iY hw' hap).sub (by omega) (by omega)) (by show ((s.l.take _).drop _).length≤42;rw [hch];exact hcl2)
    rw [show (s.sub (i * 42) (min ((i+1) * 42) s.l.length)).l=chunk s.l i from hch,← hbk] at cB
    repeat (first | refine JL.q (by first|(apply OQ.mulN (a:=i) (b:=42);rfl;rfl;exact (by omega))|(apply OQ.mulN (a:=i+1) (b:=42);rfl;rfl;exact (by omega))|(apply OQ.len (k:=s.l.length) (ad:=s.ad) (cap:=s.cap);exact Tryz.underlying24;rfl)|(apply OQ.Cu;rfl;rfl)|(apply OQ.Bf (s:=s) (lo:=i * 42) (hi:=min ((i+1) * 42) s.l.length);exact Tryz.underlying24;exact iD;rfl;rfl;rfl;exact (by omega);exact (by omega);exact hcl)|(apply OQ.load;exact iF;rfl;exact .here;exact (Row.cell (v:=dN h.g) rfl))|(apply OQ.lP;exact Tryz.underlying3;exact Tryz.underlying156;rfl)|(apply OQ.l7;exact Tryz.underlying3;exact Tryz.underlying217;rfl)|(apply OQ.Dq;rfl;rfl)|(apply OQ.oK (m:=(h.g,BitVec.ofNat 32 num,BitVec.ofNat 16 i,decide (i=nb s.l.length - 1)));rfl;rfl;rfl;rfl)|(apply OQ.move;rfl)|(apply OQ.assign;rfl)|(apply OQ.addN;rfl;rfl;exact (by (try simp only []);omega))|(apply OQ.rJ;rfl;rfl;exact (by (try simp only []);omega);exact (by (try simp only []);omega))|(apply OQ.aV;rfl;rfl;rfl;exact (by decide);rfl)) rfl ?_ | refine JC.seq ?_ | refine JC.region ?_ | refine JC.block ?_ | refine JC.skip ?_ | refine JL.nil ?_ | refine JE.next ?_)
    refine JL.alloc Cf rfl fun b11 _=>?_
    refine JL.aq (cs:=bX (h.g,BitVec.ofNat 32 num,BitVec.ofNat 16 i,decide (i=nb s.l.length - 1))) jh rfl rfl rfl rfl .here rfl ?_
    repeat (first | refine JL.nil ?_ | refine JE.next ?_)
    refine JC.tail 13 bZ (by kernel_rfl) ?_
    simp only [List.take_succ_cons,List.take_zero,List.drop_succ_cons,List.drop_zero]
    repeat (first | refine JQ.q (by first|(apply OQ.load;exact AE;rfl;exact (.there .here);exact (Row.cell (v:=ia h.x) rfl))|(apply OQ.load;exact bI;rfl;exact (.there .here);exact (Row.cell (v:=N h.first) rfl))|(apply OQ.az (cs:=bX (h.g,BitVec.ofNat 32 num,BitVec.ofNat 16 i,decide (i=nb s.l.length - 1)));exact gx;exact jh;rfl;exact .here;rfl;exact Row.all)|(apply OQ.aF (vs:=[.agg (bX (h.g,BitVec.ofNat 32 num,BitVec.ofNat 16 i,decide (i=nb s.l.length - 1))).toArray,(s.sub (i * 42) (min ((i+1) * 42) s.l.length)).v]);exact oM;rfl;exact (fun w' hw'=>cB w' hw'))|(apply OQ.CL;rfl)|(apply OQ.move;rfl)|(apply OQ.addN;rfl;rfl;exact (by (try simp only []);omega))|(apply OQ.aV;rfl;rfl;rfl;exact (by decide);rfl)) rfl ?_ | refine JQ.cI ?_)
    refine JL.perm (M':=cg ⟨h.x.p,h.x.q,h.x.cap,qa⟩ bi ps++[⟨b11,Row 219 (bX (h.g,BitVec.ofNat 32 num,BitVec.ofNat 16 i,decide (i=nb s.l.length - 1))),true⟩,⟨b4,Row 158 (bp h),true⟩]) ?_ (by exact List.perm_append_comm (l₁:=[_,_]))
    refine JL.Bn (k:=h.first+at'+i) (b:=blk h.g num s.l i) hdi (by omega) hb64 rfl rfl rfl rfl fun y=>?_
    rw [hps]
    repeat (first | refine JL.q (by first|(apply OQ.move;rfl)|(apply OQ.addN;rfl;rfl;exact (by (try simp only []);omega))) rfl ?_ | refine JC.region ?_ | refine JL.nil ?_ | refine JE.next ?_ | refine JE.an ?_)
    refine JE.perm (M':=⟨b4,Row 158 (bp h),true⟩::⟨b11,Row 219 (bX (h.g,BitVec.ofNat 32 num,BitVec.ofNat 16 i,decide (i=nb s.l.length - 1))),true⟩::cg ⟨h.x.p,h.x.q,h.x.cap,some y⟩ (putAt bl (h.first+at') ((cQ h.g num s.l).take (i+1))) (wrote bi ps (h.first+at'+i))) (by exact (List.perm_append_comm (l₂:=[_,_])).trans (List.Perm.swap _ _ _)) ?_
    have hw:=hdi.write (n:=h.first+at'+i) (b:=blk h.g num s.l i) (by omega) hb64 (by omega) y
    rw [hps] at hw
    refine JE.again (i:=(i,qa,ps)) (i+1,some y,wrote bi ps (h.first+at'+i)) ⟨hi',hw,by dsimp only;rw [wrote,List.length_append,List.length_singleton];omega⟩ (by dsimp only;omega) (by repeat (first | exact ag.nil | refine ag.cons _ _ _ rfl ?_)) ?_
    exact .keep _ _ _ _ _ _ (fun _ h=>h) (.drop _ _ _ (aj.refl _))
  · have hi' : i=nb s.l.length:=by have:=of_decide_eq_false hc;omega
    subst hi'
    have ht : (cQ h.g num s.l).take (nb s.l.length)=cQ h.g num s.l:=List.take_of_length_le (by rw [ct];exact Nat.le_refl _)
    rw [ht] at hdi ⊢
    repeat (first | refine JC.exit ?_ | refine JE.aH ?_ | refine JE.aW ?_)
    exact JE.rI rfl fun w' hw=>⟨⟨qa,ps,hdi,hpi⟩,rfl,hw.weak (.drop _ _ _ (aj.refl _))⟩
end
section
set_option maxRecDepth 10000
open Sl cY dy
theorem gQ {w0 w : World} {S : List Nat} {X M : List ai} {s : aC} (hw : Holds w0 S (X++M) w) (hX : ∀ e ∈ X,e.wr=true) (hs : s.ok w0) (ha : gw s S) : gw s (keys X):=by
  intro h0 a e hm
  obtain ⟨y,he,hb⟩:=List.mem_map.1 hm
  have h1:=hs.lt h0 a e
  rcases (hw.all y (List.mem_append_left _ he)).2 (hX y he) with h | h
  · exact ha h0 a e (hb ▸ h)
  · omega
def cn (j : Nat) (h : Hf) (bl : List Bk) (pd : List (Nat × Bk)) : List ai:=⟨j,Row 160 (bp h),true⟩::cg h.x bl pd
theorem cG (j : Nat) (h : Hf) (bl : List Bk) (pd : List (Nat × Bk)) : ∀ e ∈ cn j h bl pd,e.wr=true:=by
  intro e he
  rcases List.mem_cons.1 he with rfl | he
  · rfl
  · exact cl _ _ _ e he
def oQ (h : Hf) (n : Nat) : Hf:=⟨h.x,h.first,h.size,h.g,h.count+1,h.used+nb n⟩
def Dw.J {x : Dp} {bl : List Bk} {m : Nat} (z : Dw x bl m) (j : Nat) (h : Hf) : List ai:=⟨j,Row 160 (bp h),true⟩::z.E
theorem Dw.Ef {x : Dp} {bl : List Bk} {m : Nat} (z : Dw x bl m) (j : Nat) (h : Hf) : ∀ e ∈ z.J j h,e.wr=true:=by
  intro e he
  rcases List.mem_cons.1 he with rfl | he
  · rfl
  · exact z.wr e he
theorem zh : dH Tryz.prog 3=some 1:=by kernel_rfl
theorem qA : aL Tryz.prog 88:=⟨_,Tryz.func88,rfl,by kernel_rfl⟩
set_option maxHeartbeats 32000000 in
theorem ua (j : Nat) (h : Hf) (bl : List Bk) (pd : List (Nat × Bk)) (s : aC) (hd : bB h.x bl pd) (hs : h.first+h.size≤bl.length) (ha : h.used+nb s.l.length≤h.size) (hc : h.count≤h.size) (hm : pd.length+h.size≤1000000) (w : World) (hok : s.ok w) (hap : gw s (keys (cn j h bl pd))) (h0 : Holds w (keys (cn j h bl pd)) (cn j h bl pd) w) :
    Calls Tryz.prog 88 [Pt j 0,s.v].toArray w fun e w'=>∃ z : Dw h.x (putAt bl (h.first+h.used) (cQ h.g h.count s.l)) (pd.length+nb s.l.length),e=.returned (.tuple #[])∧Holds w (keys (cn j h bl pd)) (z.J j (oQ h s.l.length)) w':=by
  have hcl:=hok.len
  have hn1:=hd.n1
  have hnl : s.l.length≤nb s.l.length * 42:=nQ _
  generalize hS : keys (cn j h bl pd)=S at hap h0 ⊢
  refine enter (n:=34) Tryz.func88 rfl rfl rfl h0 ?_
  repeat (refine JC.seq ?_)
  refine JC.tail 12 bZ (by kernel_rfl) ?_
  simp only [List.take_succ_cons,List.take_zero,List.drop_succ_cons,List.drop_zero]
  repeat (first | refine JQ.q (by first|(apply OQ.az (cs:=bp h);exact eL;exact gM;rfl;exact .here;rfl;exact Row.all)|(apply OQ.load;exact bI;rfl;exact .here;exact (Row.cell (v:=N h.used) rfl))|(apply OQ.load;exact bI;rfl;exact .here;exact (Row.cell (v:=N h.count) rfl))|(apply OQ.move;rfl)|(apply OQ.aO;rfl)|(apply OQ.aV;rfl;rfl;rfl;exact (by decide);rfl)) rfl ?_ | refine JQ.cI ?_)
  refine JL.perm (M':=cg h.x bl pd++[⟨j,Row 160 (bp h),true⟩]) ?_ (by exact List.perm_append_comm (l₁:=[_]))
  refine JL.bE (ι:=Dw h.x (putAt bl (h.first+h.used) (cQ h.g h.count s.l)) (pd.length+nb s.l.length)) (vs:=[.agg (bp h).toArray,N h.used,N h.count,s.v]) (fun _=>.tuple #[]) (fun z=>z.E) kL rfl rfl (cl _ _ _) (fun z=>z.wr) (fun w' hw' hx'=>nZ h bl pd h.used h.count s hd hs ha hm w' (hok.iY hw' hap) (gQ hw' (cl _ _ _) hok hap) hx') fun z=>?_
  refine JL.perm (M':=⟨j,Row 160 (bp h),true⟩::z.E) ?_ (by exact List.perm_append_comm (l₂:=[_]))
  repeat (first | refine JC.seq ?_ | refine JL.nil ?_ | refine JE.next ?_)
  refine JC.tail 10 bZ (by kernel_rfl) ?_
  simp only [List.take_succ_cons,List.take_zero,List.drop_succ_cons,List.drop_zero]
  repeat (first | refine JQ.q (by first|(apply OQ.load;exact bI;rfl;exact .here;exact (Row.cell (v:=N h.used) rfl))|(apply OQ.len (k:=s.l.length) (ad:=s.ad) (cap:=s.cap);exact Tryz.underlying24;rfl)|(apply OQ.aF (vs:=[N s.l.length]);exact c7;rfl;exact (fun w' _=>dM s.l.length (by omega) w'))|(apply OQ.move;rfl)|(apply OQ.aO;rfl)|(apply OQ.addN;rfl;rfl;exact (by (try simp only []);omega))|(apply OQ.aV;rfl;rfl;rfl;exact (by decide);rfl)) rfl ?_ | refine JQ.cI ?_)
  refine JL.bK (b:=j) (r:=bp h) (r':=bp ⟨h.x,h.first,h.size,h.g,h.count,h.used+nb s.l.length⟩) zh rfl rfl rfl rfl .here (show 5<6 by decide) rfl ?_
  repeat (first | refine JL.q (by first|(apply OQ.load;exact bI;rfl;exact .here;exact (Row.cell (v:=N h.count) rfl))|(apply OQ.move;rfl)|(apply OQ.aO;rfl)|(apply OQ.addN;rfl;rfl;exact (by (try simp only []);omega))|(apply OQ.aV;rfl;rfl;rfl;exact (by decide);rfl)) rfl ?_ | refine JC.region ?_ | refine JL.nil ?_ | refine JE.next ?_)
  refine JL.bK (b:=j) (r:=bp ⟨h.x,h.first,h.size,h.g,h.count,h.used+nb s.l.length⟩) (r':=bp (oQ h s.l.length)) zh rfl rfl rfl rfl .here (show 4<6 by decide) rfl ?_
  repeat (refine JL.nil ?_)
  exact JE.rI rfl fun w' hw=>⟨z,rfl,hw⟩
end
section
set_option maxRecDepth 10000
open Sl cY dy
theorem zi {w : World} {s : tJ} (h : s.ok w) (h0 : 0<s.rs.length) : ∃ b j,s.ad=some ⟨b,j,none⟩∧b<w.heap.size∧∀ i,i<s.rs.length→w.cell? ⟨b,j+i,none⟩=some (s.rs.getD i bG).v:=by
  obtain ⟨b,j,e1,c1⟩:=h.reads.at (by rw [List.length_map];exact h0)
  exact ⟨b,j,e1,block_lt_of_cell (c1 0 _ (fL aC.v bG h0)),fun i hi=>c1 i _ (fL aC.v bG hi)⟩
structure AG (s : tJ) (S : List Nat) : Prop where
  a : s.rs≠[]→∀ a,s.ad=some a→a.block ∉ S
  all : ∀ y ∈ s.rs,gw y S
theorem ie {rs : List aC} {i : Nat} (h : i<rs.length) : rs.getD i bG ∈ rs:=by
  rw [List.getD_eq_getElem?_getD,List.getElem?_eq_getElem h]
  exact List.getElem_mem h
theorem u7 {bl : List Bk} {k : Nat} {a b : List Bk} (h : k+a.length+b.length≤bl.length) : putAt (putAt bl k a) (k+a.length) b=putAt bl k (a++b):=by
  have h1 : (bl.take k++a).length=k+a.length:=by rw [List.length_append,List.length_take];omega
  have e1 : (bl.take k++a++bl.drop (k+a.length)).take (k+a.length)=bl.take k++a:=List.take_left' h1
  have e2 : (bl.take k++a++bl.drop (k+a.length)).drop (k+a.length+b.length)=bl.drop (k+(a++b).length):=by
    rw [← List.drop_drop,List.drop_left' h1,List.drop_drop,List.length_append,Nat.add_assoc]
  unfold putAt
  rw [e1,e2]
  simp [List.append_assoc]
theorem u9 {bl : List Bk} {k : Nat} {a b : List Bk} (h : k+a.length+b.length≤bl.length) : putAt (putAt bl (k+a.length) b) k a=putAt bl k (a++b):=by
  have h1 : (bl.take (k+a.length)).length=k+a.length:=by rw [List.length_take];omega
  have e1 : (bl.take (k+a.length)++b++bl.drop (k+a.length+b.length)).take k=bl.take k:=by
    rw [List.append_assoc,List.take_append_of_le_length (by rw [h1];omega),List.take_take,Nat.min_eq_left (by omega)]
  have e2 : (bl.take (k+a.length)++b++bl.drop (k+a.length+b.length)).drop (k+a.length)=b++bl.drop (k+a.length+b.length):=by
    rw [List.append_assoc,List.drop_left' h1]
  unfold putAt
  rw [e1,e2]
  simp [List.append_assoc,Nat.add_assoc]
theorem qB : dP Tryz.prog 24=true:=by kernel_rfl
theorem w9 : dH Tryz.prog 24=some 1:=by kernel_rfl
theorem mh : aL Tryz.prog 114:=⟨_,Tryz.func114,rfl,by kernel_rfl⟩
def iZ (h : Hf) (g : BitVec 32) (af : List Bk) : Hf:=⟨h.x,h.first,h.size,g,af.length,room af⟩
def n6 (x : Dp) : Dp:=⟨x.p,x.q,x.cap,none⟩
theorem dZ (r : Bk) (rs : List Bk) : room (r::rs)=nb r.length+room rs:=rfl
theorem fU (rs : List Bk) (i : Nat) : room (rs.take i)≤room rs:=by
  have:=dK (rs.take i) (rs.drop i)
  rw [List.take_append_drop] at this
  omega
def iG (h : Hf) (g : BitVec 32) (n0 : Nat) (rt : List Bk) (i : Nat) (qa : Acc) : Hf:=⟨⟨h.x.p,h.x.q,h.x.cap,qa⟩,h.first,h.size,g,1+i,n0+room (rt.take i)⟩
def iH (h : Hf) (g : BitVec 32) (bl : List Bk) (n0 : Nat) (rt : List Bk) (i : Nat) : List Bk:=putAt bl (h.first+n0) (bF g 1 (rt.take i))
theorem j9 {rt : List Bk} {i : Nat} (h : i<rt.length) : rt.take (i+1)=rt.take i++[rt.getD i []]:=by
  rw [List.take_add_one]
  simp [List.getD_eq_getElem?_getD,h]
theorem xb {h : Hf} {g : BitVec 32} {bl : List Bk} {n0 : Nat} {rt : List Bk} {i : Nat} (hi : i<rt.length) (hb : h.first+n0+room rt≤bl.length) :
    putAt (iH h g bl n0 rt i) (h.first+(n0+room (rt.take i))) (cQ g (1+i) (rt.getD i []))=iH h g bl n0 rt (i+1):=by
  have e:=j9 hi
  have hr:=fU rt (i+1)
  rw [e,dK] at hr
  have hr1 : room [rt.getD i []]=nb (rt.getD i []).length:=by simp [room]
  have ea : bF g 1 (rt.take (i+1))=bF g 1 (rt.take i)++cQ g (1+i) (rt.getD i []):=by
    rw [e,gK,List.length_take,Nat.min_eq_left (by omega)]
    congr 1
    rw [bF,bF,List.append_nil]
  unfold iH
  rw [ea,← u7 (by rw [cj,ct];omega),cj]
  congr 1
  omega
set_option maxHeartbeats 64000000 in
theorem n8 (j : Nat) (h : Hf) (bl : List Bk) (pd : List (Nat × Bk)) (g : BitVec 32) (s : tJ) (hd : bB h.x bl pd) (hs : h.first+h.size≤bl.length) (hne : 0<s.rs.length) (ha : room (s.rs.map aC.l)≤h.size) (hm : pd.length+(h.size+h.size)≤1000000) (w : World) (hok : s.ok w) (hap : AG s (keys (cn j h bl pd))) (h0 : Holds w (keys (cn j h bl pd)) (cn j h bl pd) w) :
    Calls Tryz.prog 114 [Pt j 0,dN g,s.v].toArray w fun e w'=>e=.returned (.tuple #[])∧Holds w (keys (cn j h bl pd)) (⟨j,Row 160 (bp (iZ h g (s.rs.map aC.l))),true⟩::cg (n6 h.x) (putAt bl h.first (bF g 0 (s.rs.map aC.l))) []) w':=by
  obtain ⟨b,jj,ead,lb,cb⟩:=zi hok hne
  have hcap:=hok.len
  have hall:=hok.all
  have hbS:=hap.a (fun e=>by rw [e] at hne;cases hne) _ ead
  have haw:=hap.all
  have hn1:=hd.n1
  obtain ⟨ad,cap,rs⟩:=s
  dsimp only at ead hcap hall hbS haw hne ha cb ⊢
  subst ead
  obtain ⟨ls,hls⟩ : ∃ ls,rs.map aC.l=ls:=⟨_,rfl⟩
  have hll : ls.length=rs.length:=by rw [← hls,List.length_map]
  have hat : ∀ i,i<rs.length→ls.getD i []=(rs.getD i bG).l:=fun i hi=>by rw [← hls];simp [List.getD_eq_getElem?_getD,hi]
  rw [hls] at ha ⊢
  obtain ⟨r0,rt,hrt⟩ : ∃ r0 rt,ls=r0::rt:=by
    cases ls with
    | nil=>rw [List.length_nil] at hll;omega
    | cons a l=>exact ⟨a,l,rfl⟩
  have hr0 : (rs.getD 0 bG).l=r0:=by rw [← hat 0 hne,hrt];rfl
  have hrl : rt.length+1=rs.length:=by rw [← hll,hrt];rfl
  have hrt' : ∀ i,i<rt.length→rt.getD i []=(rs.getD (i+1) bG).l:=fun i hi=>by rw [← hat (i+1) (by omega),hrt];rfl
  have hroom : nb r0.length+room rt≤h.size:=by rw [hrt,dZ] at ha;exact ha
  have hge:=lp rt
  have hnl : r0.length≤nb r0.length * 42:=nQ _
  obtain ⟨j1,hj1,hj2⟩ : ∃ j1,(if cap=1 then some (⟨b,jj,none⟩ : Addr) else (some (⟨b,jj,none⟩ : Addr)).map (·.add (1 * 1)))=some ⟨b,j1,none⟩∧(2≤rs.length→j1=jj+1):=by
    by_cases hc : cap=1
    · exact ⟨jj,by rw [if_pos hc],fun h2=>by omega⟩
    · exact ⟨jj+1,by rw [if_neg hc];rfl,fun _=>rfl⟩
  have hv1 : (Value.slice (if cap=1 then some (⟨b,jj,none⟩ : Addr) else (some (⟨b,jj,none⟩ : Addr)).map (·.add (1 * 1))) (rs.length - 1) (cap - 1))=.slice (some ⟨b,j1,none⟩) rt.length (cap - 1):=by rw [hj1,show rs.length - 1=rt.length by omega]
  have c0:=cb 0 hne
  have ok0:=hall _ (ie hne)
  have aw0:=haw _ (ie hne)
  generalize rs.getD 0 bG=s0 at c0 ok0 aw0 hr0
  subst hr0
  generalize hS : keys (cn j h bl pd)=S at hbS haw h0 aw0 ⊢
  refine enter (n:=54) Tryz.func114 rfl rfl rfl h0 ?_
  repeat (first | refine JL.q (by first|(apply OQ.bD (i:=0);exact Tryz.underlying137;exact w9;rfl;rfl;exact hne)|(apply OQ.bJ;exact qB;rfl;exact lb;exact hbS;exact c0)|(apply OQ.len (k:=s0.l.length) (ad:=s0.ad) (cap:=s0.cap);exact Tryz.underlying24;rfl)|(apply OQ.aF (vs:=[N s0.l.length]);exact c7;rfl;exact (fun w' _=>dM s0.l.length (by omega) w'))|(apply OQ.move;rfl)|(apply OQ.aO;rfl)|(apply OQ.aV;rfl;rfl;rfl;exact (by decide);rfl)) rfl ?_ | refine JC.seq ?_ | refine JC.region ?_)
  refine JL.bK (b:=j) (r:=bp h) (r':=bp ⟨h.x,h.first,h.size,g,h.count,h.used⟩) CE rfl rfl rfl rfl .here (show 3<6 by decide) rfl ?_
  repeat (refine JL.q (by first|(apply OQ.aO;rfl)|(apply OQ.aV;rfl;rfl;rfl;exact (by decide);rfl)) rfl ?_)
  refine JL.bK (b:=j) (r:=bp ⟨h.x,h.first,h.size,g,h.count,h.used⟩) (r':=bp ⟨h.x,h.first,h.size,g,1,h.used⟩) zh rfl rfl rfl rfl .here (show 4<6 by decide) rfl ?_
  repeat (refine JL.q (by first|(apply OQ.aO;rfl)|(apply OQ.aV;rfl;rfl;rfl;exact (by decide);rfl)) rfl ?_)
  refine JL.bK (b:=j) (r:=bp ⟨h.x,h.first,h.size,g,1,h.used⟩) (r':=bp ⟨h.x,h.first,h.size,g,1,nb s0.l.length⟩) zh rfl rfl rfl rfl .here (show 5<6 by decide) rfl ?_
  repeat (first | refine JL.q (by first|(apply OQ.to;exact (OQ.rK (lo:=1) (len:=rs.length) (cap:=cap) (ad:=some ⟨b,jj,none⟩) Tryz.underlying137 w9 rfl rfl (by omega));exact hv1)|(apply OQ.len (k:=rt.length) (ad:=some ⟨b,j1,none⟩) (cap:=cap - 1);exact Tryz.underlying137;rfl)|(apply OQ.move;rfl)) rfl ?_ | refine JC.seq ?_ | refine JC.region ?_ | refine JC.block ?_ | refine JL.nil ?_ | refine JE.next ?_)
  refine JC.loop (fun z : Nat × Acc × List (Nat × Bk)=>[(0,Pt j 0),(1,dN g),(2,.slice (some ⟨b,jj,none⟩) rs.length cap),(24,.slice (some ⟨b,j1,none⟩) rt.length (cap - 1)),(25,N rt.length),(26,N z.1)]) (fun z=>cn j (iG h g (nb s0.l.length) rt z.1 z.2.1) (iH h g bl (nb s0.l.length) rt z.1) z.2.2) (fun z=>rt.length - z.1) (fun z=>z.1≤rt.length∧bB ⟨h.x.p,h.x.q,h.x.cap,z.2.1⟩ (iH h g bl (nb s0.l.length) rt z.1) z.2.2∧z.2.2.length≤pd.length+room (rt.take z.1)) (0,h.x.a,pd) ⟨Nat.zero_le _,by unfold iH;rw [List.take_zero,bF,ic];exact hd,Nat.le_refl _⟩ (by repeat (first | exact ag.nil | refine ag.cons _ _ _ rfl ?_)) (by unfold iH;rw [List.take_zero,bF,ic];exact aj.refl _) ?_
  rintro ⟨i,qa,ps⟩ ⟨hi,hdi,hpi⟩
  dsimp only at hi hdi hpi ⊢
  have hmbl : (iH h g bl (nb s0.l.length) rt i).length=bl.length:=dB (by rw [cj];have:=fU rt i;omega)
  repeat (first | refine JL.q (by (apply OQ.dX;rfl;rfl)) rfl ?_ | refine JC.seq ?_ | refine JC.region ?_ | refine JL.nil ?_ | refine JE.next ?_)
  refine JC.cond rfl (fun hc=>?_) (fun hc=>?_)
  · have hi' : i<rt.length:=by have:=of_decide_eq_true hc;omega
    clear hc
    have hi2 : i+1<rs.length:=by omega
    have ci : w.cell? ⟨b,j1+i,none⟩=some (rs.getD (i+1) bG).v:=by
      rw [hj2 (by omega),show jj+1+i=jj+(i+1) by omega]
      exact cb (i+1) hi2
    have hri:=hrt' i hi'
    have oki:=hall _ (ie hi2)
    have awi:=haw _ (ie hi2)
    have hsn:=xb (h:=h) (g:=g) (bl:=bl) (n0:=nb s0.l.length) hi' (by omega)
    have hrr:=fU rt (i+1)
    rw [j9 hi',dK] at hrr
    have hr1 : room [rt.getD i []]=nb (rt.getD i []).length:=by simp [room]
    have hts:=j9 hi'
    rw [hr1] at hrr
    generalize rs.getD (i+1) bG=si at ci oki awi hri
    rw [hri] at hsn hrr hts
    have hrge:=lp (rt.take i)
    rw [List.length_take,Nat.min_eq_left hi] at hrge
    have cP:=fun w' (hw' : Holds w S (cn j (iG h g (nb s0.l.length) rt i qa) (iH h g bl (nb s0.l.length) rt i) ps++[]) w') hx'=>ua j (iG h g (nb s0.l.length) rt i qa) (iH h g bl (nb s0.l.length) rt i) ps si hdi (by rw [hmbl];exact hs) (by show nb s0.l.length+room (rt.take i)+nb si.l.length≤h.size;omega) (by show 1+i≤h.size;have:=l5 s0.l.length;omega) (by show ps.length+h.size≤_;omega) w' (oki.iY hw' awi) (gQ hw' (cG _ _ _ _) oki awi) hx'
    have hsn2 : putAt (iH h g bl (nb s0.l.length) rt i) ((iG h g (nb s0.l.length) rt i qa).first+(iG h g (nb s0.l.length) rt i qa).used) (cQ (iG h g (nb s0.l.length) rt i qa).g (iG h g (nb s0.l.length) rt i qa).count si.l)=iH h g bl (nb s0.l.length) rt (i+1):=hsn
    rw [hsn2] at cP
    repeat (first | refine JL.q (by first|(apply OQ.bD (i:=i);exact Tryz.underlying137;exact w9;rfl;rfl;exact hi')|(apply OQ.bJ;exact qB;rfl;exact lb;exact hbS;exact ci)|(apply OQ.move;rfl)|(apply OQ.assign;rfl)) rfl ?_ | refine JC.seq ?_ | refine JC.region ?_ | refine JC.block ?_ | refine JC.skip ?_ | refine JL.nil ?_ | refine JE.next ?_)
    refine JL.perm ?_ (List.Perm.of_eq (List.append_nil _).symm)
    refine JL.bE (ι:=Dw (iG h g (nb s0.l.length) rt i qa).x (iH h g bl (nb s0.l.length) rt (i+1)) (ps.length+nb si.l.length)) (vs:=[Pt j 0,si.v]) (fun _=>.tuple #[]) (fun z=>z.J j (oQ (iG h g (nb s0.l.length) rt i qa) si.l.length)) qA rfl rfl (cG _ _ _ _) (fun z=>z.Ef _ _) cP fun z=>?_
    repeat (first | refine JL.q (by first|(apply OQ.move;rfl)|(apply OQ.addN;rfl;rfl;exact (by (try simp only []);omega))) rfl ?_ | refine JC.region ?_ | refine JL.nil ?_ | refine JE.next ?_ | refine JE.an ?_)
    have hrs : room (rt.take (i+1))=room (rt.take i)+nb si.l.length:=by rw [hts,dK];simp [room]
    have eH : bp (oQ (iG h g (nb s0.l.length) rt i qa) si.l.length)=bp (iG h g (nb s0.l.length) rt (i+1) z.a):=by
      unfold oQ iG
      rw [hrs]
      simp only [bp,Nat.add_assoc]
      rfl
    obtain ⟨za,zp,zo,zn⟩:=z
    dsimp only at eH
    refine JE.again (i:=(i,qa,ps)) (i+1,za,zp) ⟨hi',zo,by dsimp only;omega⟩ (by dsimp only;omega) (by repeat (first | exact ag.nil | refine ag.cons _ _ _ rfl ?_)) ?_
    rw [List.append_nil]
    show aj (⟨j,Row 160 (bp (iG h g (nb s0.l.length) rt (i+1) za)),true⟩::cg ⟨h.x.p,h.x.q,h.x.cap,za⟩ (iH h g bl (nb s0.l.length) rt (i+1)) zp) (⟨j,Row 160 (bp (oQ (iG h g (nb s0.l.length) rt i qa) si.l.length)),true⟩::_)
    rw [eH]
    exact aj.refl _
  · have hi' : i=rt.length:=by have:=of_decide_eq_false hc;omega
    subst hi'
    have eT : iH h g bl (nb s0.l.length) rt rt.length=putAt bl (h.first+nb s0.l.length) (bF g 1 rt):=by unfold iH;rw [List.take_length]
    have eH : bp (iG h g (nb s0.l.length) rt rt.length qa)=bp (iZ h g ls):=by
      unfold iG iZ
      rw [List.take_length,hll,hrt,dZ,← hrl,Nat.add_comm 1]
      rfl
    rw [List.take_length] at hpi
    rw [eT] at hdi hmbl ⊢
    unfold cn
    rw [eH]
    have hgl : ((rs.length : Nat) : Int)=rt.length+1:=by omega
    repeat (first | refine JL.q (by first|(apply OQ.len (k:=rs.length) (ad:=some ⟨b,jj,none⟩) (cap:=cap);exact Tryz.underlying137;rfl)|(apply OQ.move;rfl)|(apply OQ.Dn;rfl;rfl)) rfl ?_ | refine JC.seq ?_ | refine JC.region ?_ | refine JC.exit ?_ | refine JL.nil ?_ | refine JE.next ?_ | refine JE.aH ?_ | refine JE.aW ?_)
    refine JC.join (ι:=Acc × List (Nat × Bk)) (fun _=>[(0,Pt j 0),(2,.slice (some ⟨b,jj,none⟩) rs.length cap)]) (fun z=>⟨j,Row 160 (bp (iZ h g ls)),true⟩::cg ⟨h.x.p,h.x.q,h.x.cap,z.1⟩ (putAt bl (h.first+nb s0.l.length) (bF g 1 rt)) z.2) (fun z=>bB ⟨h.x.p,h.x.q,h.x.cap,z.1⟩ (putAt bl (h.first+nb s0.l.length) (bF g 1 rt)) z.2∧z.2.length≤pd.length+room rt) ?_ ?_
    · refine JC.cond rfl (fun hg=>?_) (fun hg=>?_)
      · repeat (first | refine JL.q (by first|(apply OQ.load;exact AE;rfl;exact .here;exact (Row.cell (v:=ia h.x) rfl))|(apply OQ.move;rfl)|(apply OQ.aO;rfl)|(apply OQ.aV;rfl;rfl;rfl;exact (by decide);rfl)) rfl ?_ | refine JC.region ?_)
        refine JL.perm (M':=cg ⟨h.x.p,h.x.q,h.x.cap,qa⟩ (putAt bl (h.first+nb s0.l.length) (bF g 1 rt)) ps++[⟨j,Row 160 (bp (iZ h g ls)),true⟩]) ?_ (by exact List.perm_append_comm (l₁:=[_]))
        refine JL.w8 rfl rfl ?_
        repeat (refine JL.nil ?_)
        refine JE.perm (M':=⟨j,Row 160 (bp (iZ h g ls)),true⟩::cg ⟨h.x.p,h.x.q,h.x.cap,none⟩ (putAt bl (h.first+nb s0.l.length) (bF g 1 rt)) []) (by exact List.perm_append_comm (l₂:=[_])) ?_
        exact JE.mid (none,[]) ⟨hdi.sync,Nat.zero_le _⟩ (by repeat (first | exact ag.nil | refine ag.cons _ _ _ rfl ?_)) (aj.refl _)
      · repeat (refine JC.skip ?_)
        exact JE.mid (qa,ps) ⟨hdi,hpi⟩ (by repeat (first | exact ag.nil | refine ag.cons _ _ _ rfl ?_)) (aj.refl _)
    clear hdi hpi
    rintro ⟨qa,ps⟩ ⟨hdi,hpi⟩
    dsimp only at hdi hpi ⊢
    have hfin : putAt (putAt bl (h.first+nb s0.l.length) (bF g 1 rt)) (h.first+0) (cQ g 0 s0.l)=putAt bl h.first (bF g 0 ls):=by
      have:=u9 (bl:=bl) (k:=h.first) (a:=cQ g 0 s0.l) (b:=bF g 1 rt) (by rw [ct,cj];omega)
      rw [ct] at this
      rw [Nat.add_zero,this,hrt]
      rfl
    have cW:=fun w' (hw' : Holds w S (cg ⟨h.x.p,h.x.q,h.x.cap,qa⟩ (putAt bl (h.first+nb s0.l.length) (bF g 1 rt)) ps++[⟨j,Row 160 (bp (iZ h g ls)),true⟩]) w') hx'=>nZ ⟨⟨h.x.p,h.x.q,h.x.cap,qa⟩,h.first,h.size,g,ls.length,room ls⟩ (putAt bl (h.first+nb s0.l.length) (bF g 1 rt)) ps 0 0 s0 hdi (by rw [hmbl];exact hs) (by show 0+nb s0.l.length≤h.size;omega) (by show ps.length+h.size≤_;omega) w' (ok0.iY hw' aw0) (gQ hw' (cl _ _ _) ok0 aw0) hx'
    dsimp only at cW
    rw [hfin] at cW
    repeat (refine JC.seq ?_)
    refine JC.tail 6 bZ (by kernel_rfl) ?_
    simp only [List.take_succ_cons,List.take_zero,List.drop_succ_cons,List.drop_zero]
    repeat (first | refine JQ.q (by first|(apply OQ.az (cs:=bp (iZ h g ls));exact eL;exact gM;rfl;exact .here;rfl;exact Row.all)|(apply OQ.bD (i:=0);exact Tryz.underlying137;exact w9;rfl;rfl;exact hne)|(apply OQ.bJ;exact qB;rfl;exact lb;exact hbS;exact c0)|(apply OQ.move;rfl)|(apply OQ.aO;rfl)) rfl ?_ | refine JQ.cI ?_)
    refine JL.perm (M':=cg ⟨h.x.p,h.x.q,h.x.cap,qa⟩ (putAt bl (h.first+nb s0.l.length) (bF g 1 rt)) ps++[⟨j,Row 160 (bp (iZ h g ls)),true⟩]) ?_ (by exact List.perm_append_comm (l₁:=[_]))
    refine JL.bE (ι:=Dw ⟨h.x.p,h.x.q,h.x.cap,qa⟩ (putAt bl h.first (bF g 0 ls)) (ps.length+nb s0.l.length)) (vs:=[.agg (bp (iZ h g ls)).toArray,N 0,N 0,s0.v]) (fun _=>.tuple #[]) (fun z=>z.E) kL rfl rfl (cl _ _ _) (fun z=>z.wr) cW fun z=>?_
    refine JL.perm (M':=⟨j,Row 160 (bp (iZ h g ls)),true⟩::z.E) ?_ (by exact List.perm_append_comm (l₂:=[_]))
    repeat (first | refine JL.q (by first|(apply OQ.load;exact AE;rfl;exact .here;exact (Row.cell (v:=ia h.x) rfl))|(apply OQ.move;rfl)|(apply OQ.aO;rfl)|(apply OQ.aV;rfl;rfl;rfl;exact (by decide);rfl)) rfl ?_ | refine JC.region ?_ | refine JL.nil ?_ | refine JE.next ?_)
    refine JL.perm (M':=cg ⟨h.x.p,h.x.q,h.x.cap,z.a⟩ (putAt bl h.first (bF g 0 ls)) z.pd++[⟨j,Row 160 (bp (iZ h g ls)),true⟩]) ?_ (by exact List.perm_append_comm (l₁:=[_]))
    refine JL.w8 rfl rfl ?_
    repeat (refine JL.nil ?_)
    refine JE.perm (M':=⟨j,Row 160 (bp (iZ h g ls)),true⟩::cg (n6 h.x) (putAt bl h.first (bF g 0 ls)) []) (by exact List.perm_append_comm (l₂:=[_])) ?_
    exact JE.rI rfl fun w' hw=>⟨rfl,hw⟩
end
section
set_option maxRecDepth 10000
open Sl cY dy
theorem uc {g : BitVec 32} {r : Nat} : ∀ {bs : List Bk} {p : Nat} {acc rec : Bk} {k : Nat},rd g r bs p acc=some (rec,k)→(∀ b ∈ bs,b.length=64)→acc.length≤p * 42→rec.length≤k * 42
  | [],_,_,_,_,h,_,_=>by simp [rd] at h
  | b::bs,p,acc,rec,k,h,hb,ha=>by
    unfold rd at h
    split at h
    case isTrue hw=>
      have ⟨h1,h2⟩:=jz (hb b (by simp)) hw.1
      split at h
      · simp only [Option.some.injEq,Prod.mk.injEq] at h
        rw [← h.1,← h.2,List.length_append,h1]
        omega
      · exact uc h (fun x hx=>hb x (by simp [hx])) (by rw [List.length_append,h1];omega)
    · cases h
theorem mj {g : BitVec 32} : ∀ (f : Nat) (bs : List Bk) (n : Nat),(∀ b ∈ bs,b.length=64)→room (iN g f bs n)≤bs.length
  | 0,bs,n,_=>Nat.zero_le _
  | f+1,bs,n,hb=>by
    rw [iN]
    cases h : rd g n bs 0 [] with
    | none=>exact Nat.zero_le _
    | some rk=>
      obtain ⟨rec,k⟩:=rk
      have h1:=uc h hb (Nat.zero_le _)
      have h2:=wG h
      have ih:=mj (g:=g) f (bs.drop k) (n+1) (fun b hx=>hb b (List.mem_of_mem_drop hx))
      rw [List.length_drop] at ih
      rw [dZ]
      have : nb rec.length≤k:=by unfold nb;omega
      omega
theorem n9 {bl : List Bk} {first : Nat} (hb : ∀ b ∈ bl,b.length=64) (h : first+bl.length / 2≤bl.length) : room (gy bl first)≤bl.length / 2:=by
  unfold gy gj told
  refine Nat.le_trans (mj _ _ _ ?_) (by rw [gN h];omega)
  intro b hx
  unfold er at hx
  exact hb b (List.mem_of_mem_drop (List.mem_of_mem_take (List.mem_of_mem_drop hx)))
theorem ke {bl : List Bk} (hb : ∀ b ∈ bl,b.length=64) (h4 : 4≤bl.length) : room (bz bl).2.2≤bl.length / 2∧0<(bz bl).2.2.length∧(bz bl).1≤bl.length / 2:=by
  have h0 : ∀ f,(0 : Int)<((ff bl f).toNat : Int)→0<(gy bl f).length:=fun f h=>by
    unfold ff at h
    split at h
    · simp at h
    · omega
  unfold bz
  split
  case isTrue h=>exact ⟨n9 hb (by omega),h0 _ h.1,Nat.zero_le _⟩
  · split
    case isTrue h=>exact ⟨n9 hb (by omega),h0 _ h,Nat.le_refl _⟩
    · exact ⟨by show 1+0≤_;omega,Nat.zero_lt_one,Nat.le_refl _⟩
theorem zj {w0 w : World} {S : List Nat} {X M : List ai} {z : Gr} (hw : Holds w0 S (X++(z.E++M)) w) : AG z.s (keys X):=by
  have key : ∀ b,b ∈ z.E.map ai.b→b ∉ keys X:=fun b hb hm=>by
    have hn:=hw.nodup
    rw [List.map_append,List.nodup_append] at hn
    exact hn.2.2 b hm b (by rw [List.map_append];exact List.mem_append_left _ hb) rfl
  obtain ⟨q,rs,hq,hr⟩:=z
  refine ⟨fun _ a ha=>?_,fun y hy h0 a ha=>?_⟩
  · cases q with
    | none=>cases ha
    | some p=>
      have : a=⟨p.1,0,none⟩:=by cases ha;rfl
      rw [this]
      exact key p.1 (by unfold Gr.E;rw [List.map_append];exact List.mem_append_left _ (by simp [aa]))
  · have hy' : y ∈ rs:=by
      have:=tZ hq
      unfold Gr.s at hy
      rwa [this] at hy
    refine key a.block ?_
    unfold Gr.E
    rw [List.map_append]
    refine List.mem_append_right _ ?_
    unfold ay
    rw [List.map_flatMap,List.mem_flatMap]
    exact ⟨y,hy',by unfold aC.dQ;rw [ha];simp⟩
theorem sA : aL Tryz.prog 75:=⟨_,Tryz.func75,rfl,by kernel_rfl⟩
theorem sB : aL Tryz.prog 43:=⟨_,Tryz.func43,rfl,by kernel_rfl⟩
def bY (bl : List Bk) : Nat:=if bl.length<4 then 2 else if gm bl=4294967295#32 then 6 else 0
def sC (x : Dp) (bl : List Bk) : Hf:=⟨x,bl.length / 2 - (bz bl).1,bl.length / 2,0,0,0⟩
def jC (bl : List Bk) : List Bk:=putAt bl (bl.length / 2 - (bz bl).1) (bF (gm bl+1#32) 0 (bz bl).2.2)
def DE (h : Hf) : Hf:=⟨n6 h.x,h.first,h.size,h.g,h.count,h.used⟩
def jD (x : Dp) (bl : List Bk) : Hf:=DE (iZ (sC x bl) (gm bl+1#32) (bz bl).2.2)
set_option maxHeartbeats 32000000 in
theorem xd (x : Dp) (bl : List Bk) (pd : List (Nat × Bk)) (hd : bB x bl pd) (hp : pd.length≤900000) (hno : bY bl=0) (w : World) (h0 : Holds w (keys (cg x bl pd)) (cg x bl pd) w) :
    Calls Tryz.prog 75 [ia x].toArray w fun e w'=>∃ j : Nat,e=.returned (.tuple #[Pt j 0,N 0])∧Holds w (keys (cg x bl pd)) (cn j (jD x bl) (jC bl) []) w':=by
  have hn:=hd.n1
  have h4 : ¬ bl.length<4:=fun h=>by unfold bY at hno;rw [if_pos h] at hno;cases hno
  have hg : ¬ gm bl=4294967295#32:=fun h=>by unfold bY at hno;rw [if_neg h4,if_pos h] at hno;cases hno
  have cN:=fun {u w' : World} {S : List Nat} {M : List ai} (hw' : Holds u S (cg x bl pd++M) w')=>iX x bl pd hd.ok hn w' (sk hw')
  have eG : qy bl=.tuple #[dN (gm bl+1#32),N 0]:=by unfold qy;rw [if_neg hg]
  rw [eG] at cN
  have ⟨hr1,hr2,hr3⟩:=ke (bl:=bl) hd.ok.b (by omega)
  generalize hS : keys (cg x bl pd)=S at h0 ⊢
  refine enter (n:=36) Tryz.func75 rfl rfl rfl h0 ?_
  repeat (first | refine JL.q (by first|(apply OQ.inv (xs:=[]);exact (oN x);rfl;exact (OQ.aF (vs:=[Pt x.p 0]) eX rfl (fun w' hw'=>oP x bl pd w' (sk (M:=[]) (by rw [List.append_nil];exact hw')))))|(apply OQ.move;rfl)|(apply OQ.assign;rfl)|(apply OQ.dX;rfl;rfl)) rfl ?_ | refine JC.seq ?_ | refine JC.region ?_ | refine JL.nil ?_ | refine JE.next ?_)
  refine JC.cond rfl (fun hc=>absurd (of_decide_eq_true hc) (by omega)) (fun _=>?_)
  repeat (first | refine JL.q (by first|(apply OQ.aF (vs:=[ia x]);exact gP;rfl;exact (fun w' hw'=>cN (M:=[]) (by rw [List.append_nil];exact hw')))|(apply OQ.extract;rfl;rfl)|(apply OQ.fQ (a:=0) (b:=0) (c:=true);rfl;rfl;rfl)|(apply OQ.move;rfl)|(apply OQ.assign;rfl)) rfl ?_ | refine JC.seq ?_ | refine JC.region ?_ | refine JC.skip ?_ | refine JL.nil ?_ | refine JE.next ?_)
  refine JC.cond_false rfl rfl ?_
  repeat (first | refine JL.q (by (apply OQ.move;rfl)) rfl ?_ | refine JC.seq ?_ | refine JC.region ?_ | refine JC.skip ?_ | refine JE.next ?_)
  refine JL.bA (ι:=qz (bz bl).2.2 (bl.length / 2)) (vs:=[ia x]) (fun z=>.tuple #[.agg (bp ⟨x,(bz bl).1,bl.length / 2,(bz bl).2.1,0,0⟩).toArray,z.1.v]) (fun z=>z.1.E) wZ rfl rfl (fun z=>z.1.wr) (fun w' hw'=>zf x bl pd hd.ok hn (by omega) w' (sk (M:=[]) (by rw [List.append_nil];exact hw'))) fun z=>?_
  repeat (refine JL.q (by first|(apply OQ.extract;rfl;rfl)|(apply OQ.move;rfl)) rfl ?_)
  refine JL.alloc (r:=j8) Bi rfl fun b6 _=>?_
  refine JL.aq (cs:=bp ⟨x,(bz bl).1,bl.length / 2,(bz bl).2.1,0,0⟩) gM rfl rfl rfl rfl .here rfl ?_
  have cO:=fun w'=>nX ⟨x,(bz bl).1,bl.length / 2,(bz bl).2.1,0,0⟩ hr3 (by show bl.length / 2<_;omega) w'
  repeat (first | refine JL.q (by first|(apply OQ.az (cs:=bp ⟨x,(bz bl).1,bl.length / 2,(bz bl).2.1,0,0⟩);exact eL;exact gM;rfl;exact .here;rfl;exact Row.all)|(apply OQ.aF (vs:=[.agg (bp ⟨x,(bz bl).1,bl.length / 2,(bz bl).2.1,0,0⟩).toArray]);exact mg;rfl;exact (fun w' _=>cO w'))|(apply OQ.Bl (h:=sC x bl);rfl)|(apply OQ.assign;rfl)) rfl ?_ | refine JC.seq ?_ | refine JC.region ?_ | refine JL.nil ?_ | refine JE.next ?_)
  refine JL.box (r:=bp (sC x bl)) rfl rfl rfl fun j _=>?_
  obtain ⟨z,hz1,hz2⟩:=z
  have hzl : z.s.rs.map aC.l=(bz bl).2.2:=by rw [z.CI];exact hz1
  have hzn : 0<z.s.rs.length:=by rw [← hzl,List.length_map] at hr2;exact hr2
  refine JL.perm (M':=cn j (sC x bl) bl pd++(z.E++[⟨b6,Row 158 (bp ⟨x,(bz bl).1,bl.length / 2,(bz bl).2.1,0,0⟩),true⟩])) ?_ (by
    refine List.Perm.cons _ ?_
    refine (List.perm_append_singleton _ _).symm.trans ?_
    rw [List.append_assoc]
    exact List.perm_append_comm_assoc _ _ _)
  have cB:=fun w' (hw' : Holds w S (cn j (sC x bl) bl pd++(z.E++[⟨b6,Row 158 (bp ⟨x,(bz bl).1,bl.length / 2,(bz bl).2.1,0,0⟩),true⟩])) w') hx'=>n8 j (sC x bl) bl pd (gm bl+1#32) z.s hd (by show bl.length / 2 - (bz bl).1+bl.length / 2≤bl.length;omega) hzn (by rw [hzl];exact hr1) (by show pd.length+(bl.length / 2+bl.length / 2)≤_;omega) w' (z.ok (hw'.weak (av (cn j (sC x bl) bl pd) (ax _ _)))) (zj hw') hx'
  rw [hzl,z.sw] at cB
  repeat (first | refine JL.q (by first|(apply OQ.move;rfl)|(apply OQ.assign;rfl)|(apply OQ.aO;rfl)|(apply OQ.aV;rfl;rfl;rfl;exact (by decide);rfl)) rfl ?_ | refine JC.seq ?_ | refine JC.region ?_ | refine JL.nil ?_ | refine JE.next ?_)
  refine JL.bE (ι:=Unit) (vs:=[Pt j 0,dN (gm bl+1#32),z.v]) (fun _=>.tuple #[]) (fun _=>cn j (jD x bl) (jC bl) []) mh rfl rfl (cG _ _ _ _) (fun _=>cG _ _ _ _) (fun w' hw' hx'=>(cB w' hw' hx').mono fun e w2 ⟨h1,h2⟩=>⟨(),h1,h2⟩) fun _=>?_
  repeat (first | refine JL.q (by first|(apply OQ.move;rfl)|(apply OQ.assign;rfl)) rfl ?_ | refine JC.seq ?_ | refine JC.region ?_ | refine JL.nil ?_ | refine JE.next ?_)
  refine JC.ret ?_
  skip
  exact JE.cw rfl (RV.tmp rfl) (RV.tmp rfl) fun w' hw=>⟨j,rfl,hw.weak (ax _ _)⟩
theorem xe (x : Dp) (bl : List Bk) (pd : List (Nat × Bk)) (hd : bB x bl pd) (hp : pd.length≤900000) (hno : bY bl=0) (w : World) (h0 : Holds w (keys (cg x bl pd)) (cg x bl pd) w) :
    Calls Tryz.prog 43 [Pt x.p 0].toArray w fun e w'=>∃ j : Nat,e=.returned (.tuple #[Pt j 0,N 0])∧Holds w (keys (cg x bl pd)) (cn j (jD x bl) (jC bl) []) w':=by
  refine enter (n:=9) Tryz.func43 rfl rfl rfl h0 ?_
  repeat (first | refine JL.q (by first|(apply OQ.Bj (x:=x);rfl)|(apply OQ.move;rfl)|(apply OQ.assign;rfl)) rfl ?_ | refine JC.seq ?_ | refine JC.region ?_ | refine JL.nil ?_ | refine JE.next ?_)
  refine JL.perm ?_ (List.Perm.of_eq (List.append_nil _).symm)
  refine JL.bE (ι:=Nat) (vs:=[ia x]) (fun j=>.tuple #[Pt j 0,N 0]) (fun j=>cn j (jD x bl) (jC bl) []) sA rfl rfl (cl _ _ _) (fun j=>cG _ _ _ _) (fun w' hw' hx'=>xd x bl pd hd hp hno w' hx') fun j=>?_
  rw [List.append_nil]
  repeat (first | refine JL.q (by first|(apply OQ.extract;rfl;rfl)|(apply OQ.assign;rfl)) rfl ?_ | refine JL.nil ?_ | refine JE.next ?_)
  exact JC.ret (JE.cw rfl (RV.tmp rfl) (RV.tmp rfl) fun w' hw=>⟨j,rfl,hw⟩)
end
section
set_option maxRecDepth 10000
open Sl cY dy
theorem sD {j : Nat} {h : Hf} {bl : List Bk} {pd : List (Nat × Bk)} {u w : World} {S : List Nat} {M : List ai} (hw : Holds u S (cn j h bl pd++M) w) : Holds w [] (CK j h bl pd) w:=
  (gH hw).weak (.keep _ _ _ _ _ _ (fun _ h=>h) (.keep _ _ _ _ _ _ (fun _ h=>h) (.keep _ _ _ _ _ _ (fun _ h=>h) (.nil _))))
theorem Bo {j : Nat} {h : Hf} {bl : List Bk} {pd : List (Nat × Bk)} {u w : World} {S : List Nat} {M : List ai} (hw : Holds u S (cn j h bl pd++M) w) : Holds w [] (iO h.x bl pd) w:=
  (sD hw).weak (.drop _ _ _ (aj.refl _))
theorem Bp {j : Nat} {h : Hf} {bl : List Bk} {pd : List (Nat × Bk)} {u w : World} {S : List Nat} {M : List ai} (hw : Holds u S (CK j h bl pd++M) w) : Holds w [] (iO h.x bl pd) w:=
  bT (A:=[⟨j,Row 160 (bp h),false⟩]) (M:=M) hw
theorem qC (j : Nat) (h : Hf) (n : Nat) (hu : h.used≤h.size) (hb : h.size<4611686018427387904) (hn : n<4611686018427387904) (w : World) (h0 : Holds w [] [⟨j,Row 160 (bp h),false⟩] w) :
    Calls Tryz.prog 58 [Pt j 0,N n].toArray w fun e w'=>e=.returned (.bool (decide (nb n≤h.size - h.used)))∧Ext w w':=by
  have:=w6 j h (n : Int) hu hb (by omega) w h0
  rwa [show decide ((0 : Int)≤(n : Int)∧nb (n : Int).toNat≤h.size - h.used)=decide (nb n≤h.size - h.used) from decide_eq_decide.2 (by simp)] at this
theorem xg {j : Nat} {h : Hf} {u w : World} {S : List Nat} {M : List ai} {wr : Bool} (hw : Holds u S (⟨j,Row 160 (bp h),wr⟩::M) w) : Holds w [] [⟨j,Row 160 (bp h),false⟩] w:=
  (gH hw).weak (.keep _ _ _ _ _ _ (fun _ h=>h) (.nil _))
theorem xh : aL Tryz.prog 59:=⟨_,Tryz.func59,rfl,by kernel_rfl⟩
theorem qD : aL Tryz.prog 91:=⟨_,Tryz.func91,rfl,by kernel_rfl⟩
def qE (h : Hf) (l : Bk) : Hf:=DE (oQ h l.length)
def iI (h : Hf) (bl : List Bk) (l : Bk) : List Bk:=putAt bl (h.first+h.used) (cQ h.g h.count l)
set_option maxHeartbeats 16000000 in
theorem zk (j : Nat) (h : Hf) (bl : List Bk) (pd : List (Nat × Bk)) (s : aC) (hd : bB h.x bl pd) (hs : h.first+h.size≤bl.length) (hc : h.count≤h.size) (hp : pd.length≤900000) (hu : h.used≤h.size) (hyes : nb s.l.length≤h.size - h.used) (w : World) (hok : s.ok w) (hap : gw s (keys (cn j h bl pd))) (h0 : Holds w (keys (cn j h bl pd)) (cn j h bl pd) w) :
    Calls Tryz.prog 59 [Pt j 0,s.v].toArray w fun e w'=>e=.returned (N 0)∧Holds w (keys (cn j h bl pd)) (cn j (qE h s.l) (iI h bl s.l) []) w':=by
  have hn1:=hd.n1
  have hl : s.l.length<4611686018427387904:=by have:=nQ s.l.length;omega
  have cF:=fun {u w' : World} {S : List Nat} {M : List ai} (hw' : Holds u S (cn j h bl pd++M) w')=>qC j h s.l.length hu (by omega) hl w' (xg hw')
  rw [decide_eq_true hyes] at cF
  generalize hS : keys (cn j h bl pd)=S at hap h0 ⊢
  refine enter (n:=21) Tryz.func59 rfl rfl rfl h0 ?_
  repeat (first | refine JL.q (by first|(apply OQ.len (k:=s.l.length) (ad:=s.ad) (cap:=s.cap);exact Tryz.underlying24;rfl)|(apply OQ.aF (vs:=[Pt j 0,N s.l.length]);exact nY;rfl;exact (fun w' hw'=>cF (M:=[]) (by rw [List.append_nil];exact hw')))|(apply OQ.not;rfl)|(apply OQ.move;rfl)|(apply OQ.assign;rfl)) rfl ?_ | refine JC.seq ?_ | refine JC.region ?_ | refine JL.nil ?_ | refine JE.next ?_)
  refine JC.cond_false rfl rfl ?_
  repeat (first | refine JL.q (by first|(apply OQ.move;rfl)|(apply OQ.aO;rfl)|(apply OQ.aV;rfl;rfl;rfl;exact (by decide);rfl)) rfl ?_ | refine JC.seq ?_ | refine JC.region ?_ | refine JC.skip ?_ | refine JE.next ?_)
  refine JL.perm ?_ (List.Perm.of_eq (List.append_nil _).symm)
  refine JL.bE (ι:=Dw h.x (iI h bl s.l) (pd.length+nb s.l.length)) (vs:=[Pt j 0,s.v]) (fun _=>.tuple #[]) (fun z=>z.J j (oQ h s.l.length)) qA rfl rfl (cG _ _ _ _) (fun z=>z.Ef _ _) (fun w' hw' hx'=>ua j h bl pd s hd hs (by omega) hc (by omega) w' (hok.iY hw' hap) (gQ hw' (cG _ _ _ _) hok hap) hx') fun z=>?_
  rw [List.append_nil]
  repeat (first | refine JL.q (by first|(apply OQ.load;exact AE;rfl;exact .here;exact (Row.cell (v:=ia h.x) rfl))|(apply OQ.move;rfl)|(apply OQ.aO;rfl)|(apply OQ.aV;rfl;rfl;rfl;exact (by decide);rfl)) rfl ?_ | refine JC.seq ?_ | refine JC.region ?_ | refine JL.nil ?_ | refine JE.next ?_)
  refine JL.perm (M':=cg ⟨h.x.p,h.x.q,h.x.cap,z.a⟩ (iI h bl s.l) z.pd++[⟨j,Row 160 (bp (oQ h s.l.length)),true⟩]) ?_ (by exact List.perm_append_comm (l₁:=[_]))
  refine JL.w8 rfl rfl ?_
  repeat (first | refine JL.q (by (apply OQ.assign;rfl)) rfl ?_ | refine JC.seq ?_ | refine JC.region ?_ | refine JL.nil ?_ | refine JE.next ?_)
  refine JC.ret ?_
  skip
  exact JE.aR rfl (RV.tmp rfl) fun w' hw=>⟨rfl,hw.perm' (by exact List.perm_append_comm (l₂:=[_]))⟩
def mo (h : Hf) (bl : List Bk) (n : Nat) : Prop:=h.size<nb n∨gm bl=4294967295#32
def vb (h : Hf) : Hf:=⟨h.x,h.size - h.first,h.size,0,0,0⟩
def mq (h : Hf) (bl : List Bk) (l : Bk) : Hf:=DE (iZ (vb h) (gm bl+1#32) [l])
def mu (h : Hf) (bl : List Bk) (l : Bk) : List Bk:=putAt bl (h.size - h.first) (bF (gm bl+1#32) 0 [l])
set_option maxHeartbeats 16000000 in
theorem Bq (j : Nat) (h : Hf) (bl : List Bk) (pd : List (Nat × Bk)) (s : aC) (ok : Ok bl pd) (hn : bl.length≤65536) (hb : h.size≤65536) (hl : s.l.length<4611686018427387904) (hno : mo h bl s.l.length) (w : World) (h0 : Holds w [] (CK j h bl pd) w) :
    Calls Tryz.prog 91 [Pt j 0,s.v].toArray w fun e w'=>e=.returned (N 6)∧Ext w w':=by
  refine enter (n:=43) Tryz.func91 rfl rfl rfl h0 ?_
  repeat (first | refine JL.q (by (apply OQ.assign;rfl)) rfl ?_ | refine JC.seq ?_ | refine JC.region ?_ | refine JL.nil ?_ | refine JE.next ?_)
  refine JC.quiet bZ (by kernel_rfl) ?_
  cases c1 : decide ((h.size : Int)<(nb s.l.length : Nat))
  case true=>
    repeat (first | refine JQ.q (by first|(apply OQ.len (k:=s.l.length) (ad:=s.ad) (cap:=s.cap);exact Tryz.underlying24;rfl)|(apply OQ.aF (vs:=[N s.l.length]);exact c7;rfl;exact (fun w' _=>dM s.l.length hl w'))|(apply OQ.load;exact bI;rfl;exact .here;exact (Row.cell (v:=N h.size) rfl))|(apply OQ.cD;rfl;rfl;exact c1)|(apply OQ.move;rfl)|(apply OQ.aO;rfl)|(apply OQ.aV;rfl;rfl;rfl;exact (by decide);rfl)) rfl ?_ | refine JQ.nil ?_ | refine JE.next ?_)
    refine JC.cond_true rfl rfl ?_
    repeat (first | refine JL.q (by (apply OQ.assign;rfl)) rfl ?_ | refine JC.seq ?_ | refine JC.region ?_ | refine JL.nil ?_ | refine JE.next ?_)
    refine JC.ret ?_
    repeat (refine JE.aA ?_)
    exact JE.aR rfl (RV.tmp rfl) fun w' hw=>⟨rfl,hw.bf⟩
  case false=>
    have hg : gm bl=4294967295#32:=by
      rcases hno with h | h
      · exact absurd (by exact_mod_cast h) (of_decide_eq_false c1)
      · exact h
    have eG : qy bl=.tuple #[dN 0,N 6]:=by unfold qy;rw [if_pos hg]
    have cN:=fun {u w' : World} {S : List Nat} {M : List ai} (hw' : Holds u S (CK j h bl pd++M) w')=>iX h.x bl pd ok hn w' (Bp hw')
    rw [eG] at cN
    repeat (first | refine JQ.q (by first|(apply OQ.len (k:=s.l.length) (ad:=s.ad) (cap:=s.cap);exact Tryz.underlying24;rfl)|(apply OQ.aF (vs:=[N s.l.length]);exact c7;rfl;exact (fun w' _=>dM s.l.length hl w'))|(apply OQ.load;exact bI;rfl;exact .here;exact (Row.cell (v:=N h.size) rfl))|(apply OQ.cD;rfl;rfl;exact c1)|(apply OQ.move;rfl)|(apply OQ.aO;rfl)|(apply OQ.aV;rfl;rfl;rfl;exact (by decide);rfl)) rfl ?_ | refine JQ.nil ?_ | refine JE.next ?_)
    refine JC.cond_false rfl rfl ?_
    repeat (first | refine JL.q (by first|(apply OQ.load;exact AE;rfl;exact .here;exact (Row.cell (v:=ia h.x) rfl))|(apply OQ.aF (vs:=[ia h.x]);exact gP;rfl;exact (fun w' hw'=>cN (M:=[]) (by rw [List.append_nil];exact hw')))|(apply OQ.extract;rfl;rfl)|(apply OQ.fQ (a:=6) (b:=0) (c:=false);rfl;rfl;rfl)|(apply OQ.move;rfl)|(apply OQ.assign;rfl)|(apply OQ.aO;rfl)|(apply OQ.aV;rfl;rfl;rfl;exact (by decide);rfl)) rfl ?_ | refine JC.seq ?_ | refine JC.region ?_ | refine JC.skip ?_ | refine JL.nil ?_ | refine JE.next ?_)
    refine JC.cond_true rfl rfl ?_
    repeat (first | refine JL.q (by first|(apply OQ.move;rfl)|(apply OQ.assign;rfl)) rfl ?_ | refine JC.seq ?_ | refine JC.region ?_ | refine JL.nil ?_ | refine JE.next ?_)
    refine JC.ret ?_
    repeat (refine JE.aA ?_)
    exact JE.aR rfl (RV.tmp rfl) fun w' hw=>⟨rfl,hw.bf⟩
set_option maxHeartbeats 32000000 in
theorem zl (j : Nat) (h : Hf) (bl : List Bk) (pd : List (Nat × Bk)) (s : aC) (hd : bB h.x bl pd) (hs : h.size+h.size≤bl.length) (hf : h.first≤h.size) (hp : pd.length≤900000) (hyes : ¬ mo h bl s.l.length) (w : World) (hok : s.ok w) (hap : gw s (keys (cn j h bl pd))) (h0 : Holds w (keys (cn j h bl pd)) (cn j h bl pd) w) :
    Calls Tryz.prog 91 [Pt j 0,s.v].toArray w fun e w'=>e=.returned (N 0)∧Holds w (keys (cn j h bl pd)) (cn j (mq h bl s.l) (mu h bl s.l) []) w':=by
  have hn1:=hd.n1
  have hfit : nb s.l.length≤h.size:=Nat.le_of_not_lt fun e=>hyes (.inl e)
  have hg : ¬ gm bl=4294967295#32:=fun e=>hyes (.inr e)
  have hl : s.l.length<4611686018427387904:=by have:=nQ s.l.length;omega
  have eG : qy bl=.tuple #[dN (gm bl+1#32),N 0]:=by unfold qy;rw [if_neg hg]
  have cN:=fun {u w' : World} {S : List Nat} {M : List ai} (hw' : Holds u S (cn j h bl pd++M) w')=>iX h.x bl pd hd.ok hn1 w' (Bo hw')
  rw [eG] at cN
  have cO:=fun w'=>nX h hf (by omega) w'
  have c1 : decide ((h.size : Int)<(nb s.l.length : Nat))=false:=decide_eq_false (by omega)
  generalize hS : keys (cn j h bl pd)=S at hap h0 ⊢
  refine enter (n:=43) Tryz.func91 rfl rfl rfl h0 ?_
  repeat (first | refine JL.q (by (apply OQ.assign;rfl)) rfl ?_ | refine JC.seq ?_ | refine JC.region ?_ | refine JL.nil ?_ | refine JE.next ?_)
  refine JC.quiet bZ (by kernel_rfl) ?_
  repeat (first | refine JQ.q (by first|(apply OQ.len (k:=s.l.length) (ad:=s.ad) (cap:=s.cap);exact Tryz.underlying24;rfl)|(apply OQ.aF (vs:=[N s.l.length]);exact c7;rfl;exact (fun w' _=>dM s.l.length hl w'))|(apply OQ.load;exact bI;rfl;exact .here;exact (Row.cell (v:=N h.size) rfl))|(apply OQ.cD;rfl;rfl;exact c1)|(apply OQ.move;rfl)|(apply OQ.aO;rfl)|(apply OQ.aV;rfl;rfl;rfl;exact (by decide);rfl)) rfl ?_ | refine JQ.nil ?_ | refine JE.next ?_)
  refine JC.cond_false rfl rfl ?_
  repeat (first | refine JL.q (by first|(apply OQ.load;exact AE;rfl;exact .here;exact (Row.cell (v:=ia h.x) rfl))|(apply OQ.aF (vs:=[ia h.x]);exact gP;rfl;exact (fun w' hw'=>cN (M:=[]) (by rw [List.append_nil];exact hw')))|(apply OQ.extract;rfl;rfl)|(apply OQ.fQ (a:=0) (b:=0) (c:=true);rfl;rfl;rfl)|(apply OQ.move;rfl)|(apply OQ.assign;rfl)|(apply OQ.aO;rfl)|(apply OQ.aV;rfl;rfl;rfl;exact (by decide);rfl)) rfl ?_ | refine JC.seq ?_ | refine JC.region ?_ | refine JC.skip ?_ | refine JL.nil ?_ | refine JE.next ?_)
  refine JC.cond_false rfl rfl ?_
  repeat (first | refine JL.q (by first|(apply OQ.az (cs:=bp h);exact eL;exact gM;rfl;exact .here;rfl;exact Row.all)|(apply OQ.aF (vs:=[.agg (bp h).toArray]);exact mg;rfl;exact (fun w' _=>cO w'))|(apply OQ.move;rfl)|(apply OQ.aO;rfl)|(apply OQ.aV;rfl;rfl;rfl;exact (by decide);rfl)) rfl ?_ | refine JC.seq ?_ | refine JC.region ?_ | refine JC.skip ?_ | refine JE.next ?_)
  refine JL.aq (cs:=bp (vb h)) gM rfl rfl rfl rfl .here rfl ?_
  repeat (first | refine JL.q (by first|(apply OQ.move;rfl)|(apply OQ.aO;rfl)|(apply OQ.aV;rfl;rfl;rfl;exact (by decide);rfl)) rfl ?_ | refine JC.seq ?_ | refine JC.region ?_ | refine JL.nil ?_ | refine JE.next ?_)
  refine JL.gu (v:=s.v) Tryz.underlying137 wX rfl rfl rfl rfl fun bl2 _=>?_
  refine JL.perm (M':=cn j (vb h) bl pd++[⟨bl2,Row 24 [s.v],true⟩]) ?_ (by exact List.perm_append_comm (l₁:=[_]))
  have cB:=fun w' (hw' : Holds w S (cn j (vb h) bl pd++[⟨bl2,Row 24 [s.v],true⟩]) w') hx'=>n8 j (vb h) bl pd (gm bl+1#32) ⟨some ⟨bl2,0,none⟩,1,[s]⟩ hd (by show h.size - h.first+h.size≤bl.length;omega) (by show 0<1;decide) (by show nb s.l.length+0≤h.size;omega) (by show pd.length+(h.size+h.size)≤_;omega) w' ⟨Nat.le_refl _,(by
      obtain ⟨o,ho,hA⟩:=hw'.get (b:=bl2) (A:=Row 24 [s.v]) (wr:=true) (aG (N:=cn j (vb h) bl pd) .here)
      exact Reads.block ho (Row.all _ hA)),fun y hy=>by rw [List.mem_singleton.1 hy];exact hok.iY hw' hap⟩ ⟨fun _ a ha=>by cases ha;exact cr (b:=bl2) hw' .here,fun y hy=>by rw [List.mem_singleton.1 hy];exact gQ hw' (cG _ _ _ _) hok hap⟩ hx'
  skip
  refine JL.bE (ι:=Unit) (vs:=[Pt j 0,dN (gm bl+1#32),.slice (some ⟨bl2,0,none⟩) 1 1]) (fun _=>.tuple #[]) (fun _=>cn j (mq h bl s.l) (mu h bl s.l) []) mh rfl rfl (cG _ _ _ _) (fun _=>cG _ _ _ _) (fun w' hw' hx'=>(cB w' hw' hx').mono fun e w2 ⟨h1,h2⟩=>⟨(),h1,h2⟩) fun _=>?_
  repeat (first | refine JL.q (by (apply OQ.assign;rfl)) rfl ?_ | refine JC.seq ?_ | refine JC.region ?_ | refine JL.nil ?_ | refine JE.next ?_)
  refine JC.ret ?_
  skip
  exact JE.aR rfl (RV.tmp rfl) fun w' hw=>⟨rfl,hw.weak (ax _ _)⟩
end
section
open Sl cY dy
theorem jE (a b : BitVec 32) : (mx a b).toNat=max a.toNat b.toNat:=by
  unfold mx
  split <;> omega
def Below (m : Nat) (b : Bk) : Prop:=(ak b).1.toNat<m∧(ak (b.drop 54)).1.toNat<m
theorem ud (m : Nat) : ∀ (bl : List Bk) (a : BitVec 32),a.toNat<m→(∀ b ∈ bl,Below m b)→(bl.foldl (fun m b=>mx (mx m (ak b).1) (ak (b.drop 54)).1) a).toNat<m
  | [],a,h,_=>h
  | b::bl,a,h,hb=>by
    have h1:=hb b (by simp)
    refine ud m bl _ ?_ fun x hx=>hb x (by simp [hx])
    rw [jE,jE]
    have:=h1.1
    have:=h1.2
    omega
theorem AH {m : Nat} {bl : List Bk} (h0 : 0<m) (h : ∀ b ∈ bl,Below m b) : (gm bl).toNat<m:=ud m bl 0 h0 h
theorem AI : ∀ (bl : List Bk) (a : BitVec 32),a.toNat≤(bl.foldl (fun m b=>mx (mx m (ak b).1) (ak (b.drop 54)).1) a).toNat∧∀ b ∈ bl,Below ((bl.foldl (fun m b=>mx (mx m (ak b).1) (ak (b.drop 54)).1) a).toNat+1) b
  | [],a=>⟨Nat.le_refl _,nofun⟩
  | b::bl,a=>by
    have ⟨h1,h2⟩:=AI bl (mx (mx a (ak b).1) (ak (b.drop 54)).1)
    have hm:=jE (mx a (ak b).1) (ak (b.drop 54)).1
    rw [jE a] at hm
    refine ⟨?_,fun x hx=>?_⟩
    · simp only [List.foldl_cons]
      omega
    · simp only [List.foldl_cons]
      rcases List.mem_cons.1 hx with rfl | hx
      · exact ⟨by omega,by omega⟩
      · exact h2 x hx
theorem xj {bl : List Bk} : ∀ b ∈ bl,Below ((gm bl).toNat+1) b:=(AI bl 0).2
theorem Br {g : BitVec 32} {r n i : Nat} (h : i<n) (hn : n≤32768) : Bd (rY g r n i):=by
  show (BitVec.ofNat 16 i).toNat<32768
  rw [BitVec.toNat_ofNat]
  omega
theorem xk {g : BitVec 32} {r : Nat} {rec : Bk} {i : Nat} (h : i<nb rec.length) (hn : nb rec.length≤32768) : (ak (blk g r rec i)).1=g∧(ak ((blk g r rec i).drop 54)).1=g∧(blk g r rec i).length=64:=by
  have hc : (chunk rec i).length≤42:=by rw [dy.bH];omega
  have hk:=Br (g:=g) (r:=r) h hn
  refine ⟨?_,?_,j7 hc⟩
  · rw [show blk g r rec i=br (rY g r (nb rec.length) i) (chunk rec i) from rfl,fT hk];rfl
  · rw [show blk g r rec i=br (rY g r (nb rec.length) i) (chunk rec i) from rfl,lY hk hc];rfl
theorem oa {g : BitVec 32} {r : Nat} {rec : Bk} (hn : nb rec.length≤32768) : ∀ b ∈ cQ g r rec,(ak b).1=g∧(ak (b.drop 54)).1=g∧b.length=64:=by
  intro b hb
  unfold cQ at hb
  obtain ⟨i,hi,rfl⟩:=List.mem_map.1 hb
  exact xk (List.mem_range.1 hi) hn
theorem fA {g : BitVec 32} : ∀ (af : List Bk) (n : Nat),room af≤32768→∀ b ∈ bF g n af,(ak b).1=g∧(ak (b.drop 54)).1=g∧b.length=64
  | [],_,_,b,hb=>by simp [bF] at hb
  | r::rs,n,h,b,hb=>by
    rw [dZ] at h
    rw [bF] at hb
    rcases List.mem_append.1 hb with hb | hb
    · exact oa (by omega) b hb
    · exact fA rs (n+1) (by omega) b hb
theorem jF {bl : List Bk} {i : Nat} (h : i<bl.length) : old bl i=bl[i]:=by simp [old,List.getD_eq_getElem?_getD,h]
theorem oc {bl : List Bk} {k : Nat} {l : List Bk} {i : Nat} (hk : k+l.length≤bl.length) (hi : i<bl.length) (ho : ¬ (k≤i∧i<k+l.length)) : old (putAt bl k l) i=old bl i:=by
  have hl:=dB hk
  have h1 : (bl.take k++l).length=k+l.length:=by rw [List.length_append,List.length_take];omega
  rw [jF (by omega),jF hi]
  simp only [putAt]
  by_cases h : i<k
  · rw [List.getElem_append_left (by rw [h1];omega),List.getElem_append_left (by rw [List.length_take];omega),List.getElem_take]
  · rw [List.getElem_append_right (by rw [h1];omega),List.getElem_drop]
    congr 1
    omega
theorem xl {bl : List Bk} {k : Nat} {l : List Bk} (hk : k+l.length≤bl.length) : ((putAt bl k l).drop k).take l.length=l:=by
  have h1 : (bl.take k).length=k:=by rw [List.length_take];omega
  unfold putAt
  rw [List.append_assoc,List.drop_left' h1,List.take_left' rfl]
theorem vc {bl : List Bk} {k : Nat} {l : List Bk} {P : Bk→Prop} (h : ∀ b ∈ bl,P b) (hl : ∀ b ∈ l,P b) : ∀ b ∈ putAt bl k l,P b:=by
  intro b hb
  unfold putAt at hb
  rcases List.mem_append.1 hb with hb | hb
  · rcases List.mem_append.1 hb with hb | hb
    · exact h b (List.mem_of_mem_take hb)
    · exact hl b hb
  · exact h b (List.mem_of_mem_drop hb)
theorem bB.put {x : Dp} {bl : List Bk} {pd : List (Nat × Bk)} (h : bB x bl pd) {k : Nat} {l : List Bk} (hk : k+l.length≤bl.length) (hl : ∀ b ∈ l,b.length=64) : bB (n6 x) (putAt bl k l) [] where
  ok:=⟨vc h.ok.b hl,by simp⟩
  n0:=by rw [dB hk];exact h.n0
  n1:=by rw [dB hk];exact h.n1
  m:=by simp
  a:=fun _=>rfl
structure Jv (h : Hf) (bl : List Bk) (af : List Bk) : Prop where
  n4 : 4≤bl.length
  n5 : bl.length≤65536
  n : h.size=bl.length / 2
  f : h.first=0∨h.first=h.size
  c : h.count=af.length
  u : h.used=room af
  r : room af≤h.size
  ne : af≠[]
  at' : (bl.drop h.first).take (room af)=bF h.g 0 af
  o : ∀ i,i<bl.length→¬ (h.first≤i∧i<h.first+room af)→Below h.g.toNat (old bl i)
theorem xm {af : List Bk} (h : af≠[]) : 0<room af:=by
  cases af with
  | nil=>exact absurd rfl h
  | cons r rs=>rw [dZ];have:=l5 r.length;omega
namespace Jv
variable {h : Hf} {bl af : List Bk}
theorem fs (v : Jv h bl af) : h.first+h.size≤bl.length∧h.first≤h.size∧h.size+h.size≤bl.length∧h.size≤32768:=by
  have:=v.n;have:=v.n5
  rcases v.f with e | e <;> omega
theorem Eg (v : Jv h bl af) {k : Nat} (hk : k<room af) : old bl (h.first+k) ∈ bF h.g 0 af:=by
  have h1:=v.fs;have h2:=v.r
  rw [← v.at',jF (by omega)]
  have : ((bl.drop h.first).take (room af))[k]'(by rw [List.length_take,List.length_drop];omega)=bl[h.first+k]'(by omega):=by simp
  rw [← this]
  exact List.getElem_mem _
theorem all (v : Jv h bl af) : ∀ b ∈ bl,Below (h.g.toNat+1) b:=by
  intro b hb
  have h1:=v.fs;have h2:=v.r
  obtain ⟨i,hi,rfl⟩:=List.mem_iff_getElem.1 hb
  rw [← jF hi]
  by_cases ho : h.first≤i∧i<h.first+room af
  · have:=fA af 0 (by omega) _ (v.Eg (k:=i - h.first) (by omega))
    rw [show h.first+(i - h.first)=i by omega] at this
    exact ⟨by rw [this.1];omega,by rw [this.2.1];omega⟩
  · have:=v.o i hi ho
    exact ⟨Nat.lt_succ_of_lt this.1,Nat.lt_succ_of_lt this.2⟩
theorem ue (v : Jv h bl af) : (gm bl).toNat≤h.g.toNat:=Nat.le_of_lt_succ (AH (Nat.succ_pos _) v.all)
theorem g0 (v : Jv h bl af) : 0<h.g.toNat:=by
  have h1:=v.fs;have h2:=v.r;have h3:=v.n4;have h4:=v.n
  have:=v.o (h.size - h.first) (by omega) (by rcases v.f with e | e <;> omega)
  have:=this.1
  omega
theorem told (v : Jv h bl af) : gj bl h.first h.size h.g=af:=by
  have h1:=v.fs;have h2:=v.r
  have e : er bl h.first h.size 0=bF h.g 0 af++((bl.drop h.first).take h.size).drop (room af):=by
    rw [← v.at']
    conv=>lhs;rw [er,List.drop_zero,← List.take_append_drop (room af) ((bl.drop h.first).take h.size),List.take_take,Nat.min_eq_left h2]
  unfold gj
  rw [e]
  refine wJ (fun b hb=>?_) (by omega)
  obtain ⟨k,hk,rfl⟩:=List.mem_iff_getElem.1 hb
  have hk':=hk
  rw [List.length_drop,List.length_take,List.length_drop] at hk'
  have : (((bl.drop h.first).take h.size).drop (room af))[k]=old bl (h.first+(room af+k)):=by
    rw [jF (by omega)]
    simp
  rw [this]
  intro hg
  have:=(v.o (h.first+(room af+k)) (by omega) (by omega)).1
  rw [hg] at this
  omega
theorem gy (v : Jv h bl af) : gy bl h.first=af∧ff bl h.first=h.g:=by
  have h0:=v.Eg (k:=0) (xm v.ne)
  have h1:=v.fs;have h2:=v.r
  rw [Nat.add_zero] at h0
  have hm:=(fA af 0 (by omega) _ h0).1
  have e : Go.Proofs.YtmhlgnbdhnolaaaGreatDoor.gy bl h.first=af:=by
    unfold Go.Proofs.YtmhlgnbdhnolaaaGreatDoor.gy
    rw [hm,← v.n]
    exact v.told
  refine ⟨e,?_⟩
  unfold ff
  rw [e,hm,if_neg]
  intro h
  exact v.ne (List.length_eq_zero_iff.1 h)
theorem other (v : Jv h bl af) : (ff bl (h.size - h.first)).toNat<h.g.toNat:=by
  have h1:=v.fs;have h2:=v.r;have h3:=v.n4;have h4:=v.n
  have:=(v.o (h.size - h.first) (by omega) (by rcases v.f with e | e <;> omega)).1
  have h5:=v.g0
  unfold ff
  split
  · exact h5
  · exact this
theorem cur (v : Jv h bl af) : bz bl=(h.first,h.g,af):=by
  have h5:=v.g0
  have ⟨e1,e2⟩:=v.gy
  have e3:=v.other
  have hn:=v.n
  unfold bz
  rcases v.f with e | e
  · rw [e] at e1 e2 e3
    rw [e,← hn]
    rw [Nat.sub_zero] at e3
    rw [e1,e2,if_pos ⟨by omega,by omega⟩]
  · rw [e] at e1 e2 e3
    rw [Nat.sub_self] at e3
    rw [e,← hn,e1,e2,if_neg (fun hh=>by have:=hh.2;omega),if_pos (by omega)]
end Jv
theorem Jv.Eh {x : Dp} {bl af : List Bk} {first size : Nat} (n4 : 4≤bl.length) (n5 : bl.length≤65536) (n : size=bl.length / 2) (f : first=0∨first=size) (r : room af≤size) (ne : af≠[]) (hg : gm bl≠4294967295#32) :
    Jv ⟨x,first,size,gm bl+1#32,af.length,room af⟩ (putAt bl first (bF (gm bl+1#32) 0 af)) af:=by
  have hs : first+size≤bl.length:=by rcases f with e | e <;> omega
  have hk : first+(bF (gm bl+1#32) 0 af).length≤bl.length:=by rw [cj];omega
  have hl:=dB hk
  have hgl : (gm bl).toNat≠4294967295:=fun e=>hg (BitVec.eq_of_toNat_eq e)
  have hg1 : (gm bl+1#32).toNat=(gm bl).toNat+1:=by
    rw [BitVec.toNat_add,show (1#32).toNat=1 from rfl]
    have:=(gm bl).isLt
    omega
  refine ⟨by rw [hl];exact n4,by rw [hl];exact n5,by rw [hl];exact n,f,rfl,rfl,r,ne,?_,fun i hi ho=>?_⟩
  · have:=xl hk
    rw [cj] at this
    exact this
  · dsimp only at ho ⊢
    rw [hl] at hi
    rw [oc hk hi (by rw [cj];exact ho),hg1]
    exact xj _ (tL hi)
theorem Jv.app {h : Hf} {bl af : List Bk} (v : Jv h bl af) {l : Bk} (hf : nb l.length≤h.size - h.used) : Jv (qE h l) (iI h bl l) (af++[l]):=by
  have h1:=v.fs;have h2:=v.r;have h3:=v.u;have h4:=v.c;have hn:=v.n
  have hr : room (af++[l])=room af+nb l.length:=by rw [dK];simp [room]
  have hk : h.first+h.used+(cQ h.g h.count l).length≤bl.length:=by rw [ct];omega
  have hl:=dB hk
  refine ⟨by unfold iI;rw [hl];exact v.n4,by unfold iI;rw [hl];exact v.n5,by unfold iI;rw [hl];exact hn,v.f,by show h.count+1=_;rw [h4,List.length_append];rfl,by show h.used+nb l.length=_;rw [hr,h3],by rw [hr];show _≤h.size;omega,by simp,?_,fun i hi ho=>?_⟩
  · show ((iI h bl l).drop h.first).take _=bF h.g 0 _
    have e1 : bl.take (h.first+h.used)=bl.take h.first++bF h.g 0 af:=by rw [← v.at',h3,List.take_add]
    have e2 : (bl.take h.first).length=h.first:=by rw [List.length_take];omega
    unfold iI putAt
    rw [e1,List.append_assoc,List.append_assoc,List.drop_left' e2,← List.append_assoc,gK,Nat.zero_add,← h4,List.take_left' (by rw [List.length_append,cj,ct,hr])]
    congr 1
    rw [bF,bF,List.append_nil]
  · unfold iI at hi ⊢
    rw [hl] at hi
    rw [hr] at ho
    have ho' : ¬ (h.first≤i∧i<h.first+(room af+nb l.length)):=ho
    rw [oc hk hi (by rw [ct];omega)]
    exact v.o i hi (by omega)
end
section
set_option maxRecDepth 10000
open Sl
section
variable {P : Program} {n : Nat} {E : Env} {C : World→Prop} {dst : Option Tmp} {t t' ty : TypeId} {pos : String} {aft : Array Edge} {g : Option (Nat × Bool)} {x y : Operand}
end
theorem ve : aL Tryz.prog 20:=⟨_,Tryz.func20,rfl,by kernel_rfl⟩
set_option maxHeartbeats 8000000 in
theorem xo (a b : aC) (w : World) (ha : a.ok w) (hb : b.ok w) (hal : a.l.length<4611686018427387904) : Calls Tryz.prog 20 [a.v,b.v].toArray w fun e w'=>e=.returned (.bool (decide (a.l=b.l)))∧Ext w w':=by
  refine enter (n:=26) Tryz.func20 rfl rfl rfl (Holds.start w []) ?_
  repeat (first | refine JL.q (by first|(apply OQ.move;rfl)|(apply OQ.assign;rfl)|(apply OQ.len;rfl;rfl)|(apply OQ.Ew;rfl;rfl)) rfl ?_ | refine JC.seq ?_ | refine JC.region ?_ | refine JL.nil ?_ | refine JE.next ?_)
  refine JC.cond rfl (fun h=>?_) (fun h=>?_)
  · have h : ¬ a.l.length=b.l.length:=by simpa using h
    repeat (first | refine JL.q (by (apply OQ.assign;rfl)) rfl ?_ | refine JC.seq ?_ | refine JC.region ?_ | refine JL.nil ?_ | refine JE.next ?_)
    refine JC.ret ?_
    repeat (refine JE.aA ?_)
    refine JE.aR rfl (RV.tmp rfl) fun w' hw=>⟨?_,hw.bf⟩
    rw [decide_eq_false (fun e=>h (by rw [e]))]
  · have h : a.l.length=b.l.length:=by simpa using h
    repeat (first | refine JL.q (by (apply OQ.assign;rfl)) rfl ?_ | refine JC.seq ?_ | refine JC.region ?_ | refine JC.block ?_ | refine JC.skip ?_ | refine JL.nil ?_ | refine JE.next ?_)
    refine JC.loop (fun i : Nat=>[(0,a.v),(1,b.v),(5,N i)]) (fun _=>[]) (fun i=>a.l.length - i) (fun i=>i≤a.l.length∧a.l.take i=b.l.take i) 0 ⟨by omega,by simp⟩ (by repeat (first | exact ag.nil | refine ag.cons _ _ _ rfl ?_)) (aj.refl _) ?_
    rintro i ⟨hi,hI⟩
    repeat (first | refine JL.q (by first|(apply OQ.move;rfl)|(apply OQ.len;rfl;rfl)|(apply OQ.dX;rfl;rfl)) rfl ?_ | refine JC.seq ?_ | refine JC.region ?_ | refine JL.nil ?_ | refine JE.next ?_)
    refine JC.cond rfl (fun h2=>?_) (fun h2=>?_)
    · have hi' : i<a.l.length:=of_decide_eq_true h2
      clear h2
      obtain ⟨ba,ja,hae,hca⟩:=ha.reads.at (by simp;omega)
      obtain ⟨bb,jb,hbe,hcb⟩:=hb.reads.at (by simp;omega)
      have hca:=hca i _ (fL U8 0 hi')
      have hcb:=hcb i _ (fL U8 0 (show i<b.l.length by omega))
      have hav : a.v=.slice (some ⟨ba,ja,none⟩) a.l.length a.cap:=by rw [← hae];rfl
      have hbv : b.v=.slice (some ⟨bb,jb,none⟩) b.l.length b.cap:=by rw [← hbe];rfl
      rw [hav,hbv]
      repeat (first | refine JC.seq ?_ | refine JC.block ?_ | refine JC.skip ?_ | refine JE.next ?_)
      refine JC.quiet bZ (by kernel_rfl) ?_
      repeat (first | refine JQ.q (by first|(apply OQ.bD;exact Tryz.underlying24;exact iD;rfl;rfl;exact hi')|(apply OQ.bD;exact Tryz.underlying24;exact iD;rfl;rfl;exact (show i<b.l.length by omega))|(apply OQ.bJ;exact A5;rfl;exact (block_lt_of_cell hca);exact (by simp);exact hca)|(apply OQ.bJ;exact A5;rfl;exact (block_lt_of_cell hcb);exact (by simp);exact hcb)|(apply OQ.EA;rfl;rfl)|(apply OQ.move;rfl)) rfl ?_ | refine JQ.nil ?_ | refine JE.next ?_)
      refine JC.cond rfl (fun h3=>?_) (fun h3=>?_)
      · have h3 : ¬ a.l.getD i 0=b.l.getD i 0:=by simpa using h3
        repeat (first | refine JL.q (by (apply OQ.assign;rfl)) rfl ?_ | refine JC.seq ?_ | refine JC.region ?_ | refine JL.nil ?_ | refine JE.next ?_)
        refine JC.ret ?_
        repeat (first | refine JE.aA ?_ | refine JE.bV ?_)
        refine JE.aR rfl (RV.tmp rfl) fun w' hw=>⟨?_,hw.bf⟩
        rw [decide_eq_false (fun e=>h3 (by rw [e]))]
      · have h3 : a.l.getD i 0=b.l.getD i 0:=by simpa using h3
        rw [← hav,← hbv]
        repeat (first | refine JL.q (by first|(apply OQ.move;rfl)|(apply OQ.assign;rfl)|(apply OQ.addN;rfl;rfl;exact (by (try simp only []);omega))) rfl ?_ | refine JC.region ?_ | refine JC.skip ?_ | refine JL.nil ?_ | refine JE.next ?_ | refine JE.an ?_)
        refine JE.again (i:=i) (i+1) ⟨by omega,?_⟩ (by omega) (by repeat (first | exact ag.nil | refine ag.cons _ _ _ rfl ?_)) (aj.refl _)
        have e1 : a.l[i]'hi'=b.l[i]'(by omega):=by
          simpa [List.getD,hi',show i<b.l.length by omega] using h3
        rw [List.take_succ_eq_append_getElem hi',List.take_succ_eq_append_getElem (show i<b.l.length by omega),hI,e1]
    · have hi' : ¬ i<a.l.length:=of_decide_eq_false h2
      obtain rfl : i=a.l.length:=by omega
      rw [List.take_length,h,List.take_length] at hI
      repeat (first | refine JL.q (by (apply OQ.assign;rfl)) rfl ?_ | refine JC.seq ?_ | refine JC.region ?_ | refine JC.exit ?_ | refine JL.nil ?_ | refine JE.next ?_ | refine JE.aH ?_ | refine JE.aW ?_)
      refine JC.ret ?_
      skip
      refine JE.aR rfl (RV.tmp rfl) fun w' hw=>⟨?_,hw.bf⟩
      rw [decide_eq_true hI]
end
section
set_option maxRecDepth 10000
open Sl cY dy
section
variable {n : Nat} {w0 : World} {S : List Nat} {ops : Array Oper} {Q : Exit→Act→World→Prop} {l : List Oper} {E : Env} {M : List ai}
variable {d : Nat} {ty : TypeId} {pos : String} {aft : Array Edge} {x1 x2 x3 : Operand} {ats : Array TypeId} {x : Dp} {bl af : List Bk} {pd : List (Nat × Bk)} {j : Nat} {h : Hf} {s : aC}
theorem JL.AJ (hd : bB x bl pd) (hp : pd.length≤900000) (hno : bY bl=0) (e1 : ev E x1=some (Pt x.p 0)) (hn : Nat.blt d n=true)
    (kk : ∀ j,JL Tryz.prog n w0 S ops Q l ((d,.tuple #[Pt j 0,N 0])::E) (cn j (jD x bl) (jC bl) []++M)) : JL Tryz.prog n w0 S ops Q (⟨some d,.call ⟨.value (.func 43),#[x1],ats⟩,ty,pos,aft,none⟩::l) E (cg x bl pd++M):=
  JL.bE (ι:=Nat) (xs:=[x1]) (vs:=[Pt x.p 0]) (fun j=>.tuple #[Pt j 0,N 0]) (fun j=>cn j (jD x bl) (jC bl) []) sB (by simp [gr,e1]) hn (cl _ _ _) (fun _=>cG _ _ _ _)
    (fun w _ hw=>xe x bl pd hd hp hno w hw) kk
theorem JL.DF (v : Jv h bl af) (hd : bB h.x bl pd) (hp : pd.length≤900000) (hyes : nb s.l.length≤h.size - h.used) (hs : ∀ w,Holds w0 S (cn j h bl pd++M) w→s.ok w∧gw s (keys (cn j h bl pd))) (e1 : ev E x1=some (Pt j 0)) (e2 : ev E x2=some s.v) (hn : Nat.blt d n=true)
    (kk : JL Tryz.prog n w0 S ops Q l ((d,N 0)::E) (cn j (qE h s.l) (iI h bl s.l) []++M)) : JL Tryz.prog n w0 S ops Q (⟨some d,.call ⟨.value (.func 59),#[x1,x2],ats⟩,ty,pos,aft,none⟩::l) E (cn j h bl pd++M):=
  have h1:=v.fs;have h2:=v.u;have h3:=v.r;have h4:=v.c;have h5:=lp af
  JL.bE (ι:=Unit) (xs:=[x1,x2]) (vs:=[Pt j 0,s.v]) (fun _=>N 0) (fun _=>cn j (qE h s.l) (iI h bl s.l) []) xh (by simp [gr,e1,e2]) hn (cG _ _ _ _) (fun _=>cG _ _ _ _)
    (fun w h0 hw=>(zk j h bl pd s hd h1.1 (by omega) hp (by omega) hyes w (hs w h0).1 (hs w h0).2 hw).mono fun e w' ⟨g1,g2⟩=>⟨(),g1,g2⟩) fun _=>kk
theorem JL.DG (v : Jv h bl af) (hd : bB h.x bl pd) (hp : pd.length≤900000) (hyes : ¬ mo h bl s.l.length) (hs : ∀ w,Holds w0 S (cn j h bl pd++M) w→s.ok w∧gw s (keys (cn j h bl pd))) (e1 : ev E x1=some (Pt j 0)) (e2 : ev E x2=some s.v) (hn : Nat.blt d n=true)
    (kk : JL Tryz.prog n w0 S ops Q l ((d,N 0)::E) (cn j (mq h bl s.l) (mu h bl s.l) []++M)) : JL Tryz.prog n w0 S ops Q (⟨some d,.call ⟨.value (.func 91),#[x1,x2],ats⟩,ty,pos,aft,none⟩::l) E (cn j h bl pd++M):=
  have h1:=v.fs
  JL.bE (ι:=Unit) (xs:=[x1,x2]) (vs:=[Pt j 0,s.v]) (fun _=>N 0) (fun _=>cn j (mq h bl s.l) (mu h bl s.l) []) qD (by simp [gr,e1,e2]) hn (cG _ _ _ _) (fun _=>cG _ _ _ _)
    (fun w h0 hw=>(zl j h bl pd s hd h1.2.2.1 h1.2.1 hp hyes w (hs w h0).1 (hs w h0).2 hw).mono fun e w' ⟨g1,g2⟩=>⟨(),g1,g2⟩) fun _=>kk
theorem JL.CO (v : Jv h bl af) (hd : bB h.x bl pd) (e1 : ev E x1=some (Pt j 0)) (hn : Nat.blt d n=true)
    (kk : ∀ z : qz af h.size,JL Tryz.prog n w0 S ops Q l ((d,z.1.v)::E) (z.1.E++(cn j h bl pd++M))) : JL Tryz.prog n w0 S ops Q (⟨some d,.call ⟨.value (.func 73),#[x1],ats⟩,ty,pos,aft,none⟩::l) E (cn j h bl pd++M):=
  JL.bA (xs:=[x1]) (ι:=qz af h.size) (vs:=[Pt j 0]) (fun z=>z.1.v) (fun z=>z.1.E) uZ (by simp [gr,e1]) hn (fun z=>z.1.wr)
    (fun w hw=>by have:=w5 j h bl pd hd.ok hd.n1 v.fs.1 w (sD hw);rwa [v.told] at this) kk
end
theorem Jv.CP {x : Dp} {bl : List Bk} (hb : ∀ b ∈ bl,b.length=64) (n5 : bl.length≤65536) (hno : bY bl=0) : Jv (jD x bl) (jC bl) (bz bl).2.2:=by
  have h4 : ¬ bl.length<4:=fun h=>by unfold bY at hno;rw [if_pos h] at hno;cases hno
  have hg : ¬ gm bl=4294967295#32:=fun h=>by unfold bY at hno;rw [if_neg h4,if_pos h] at hno;cases hno
  have ⟨h1,h2,h3⟩:=ke (bl:=bl) hb (by omega)
  have hf : bl.length / 2 - (bz bl).1=0∨bl.length / 2 - (bz bl).1=bl.length / 2:=by
    unfold bz
    split
    · right;rfl
    · split
      · left;exact Nat.sub_self _
      · left;exact Nat.sub_self _
  exact Jv.Eh (x:=n6 x) (by omega) n5 rfl hf h1 (fun e=>by rw [e] at h2;cases h2) hg
theorem Jv.no (h : Hf) (bl af : List Bk) (v : Jv h bl af) (hg : h.g.toNat<4294967295) : bY bl=0:=by
  have:=v.ue
  have h4:=v.n4
  unfold bY
  rw [if_neg (by omega),if_neg (fun e=>by rw [e] at this;rw [show (4294967295#32).toNat=4294967295 from rfl] at this;omega)]
theorem oR {bl : List Bk} {m : Nat} (h : (gm bl).toNat≤m) (hm : m<4294967295) : (gm bl+1#32).toNat≤m+1:=by
  rw [BitVec.toNat_add,show (1#32).toNat=1 from rfl]
  omega
theorem told_none {g : BitVec 32} {bs : List Bk} (h : ∀ b ∈ bs,bN b=false) : told g bs=[]:=by
  unfold told iN
  have : rd g 0 bs 0 []=none:=by
    cases bs with
    | nil=>rfl
    | cons b bs=>rw [rd,if_neg (fun hh=>by rw [h b (by simp)] at hh;cases hh.1)]
  rw [this]
theorem sE : bN zero=false:=by kernel_rfl
theorem sF : Below 1 zero:=⟨by decide,by decide⟩
theorem qF {n : Nat} : ∀ b ∈ dh n,b=zero:=fun b hb=>List.eq_of_mem_replicate hb
theorem jG (n : Nat) : (bz (dh n)).2.2=[[]]∧(gm (dh n)).toNat=0:=by
  have h0 : ∀ f,ff (dh n) f=0:=fun f=>by
    unfold ff
    rw [if_pos]
    unfold gy gj
    rw [told_none]
    · rfl
    · intro b hb
      unfold er at hb
      rw [qF b (List.mem_of_mem_drop (List.mem_of_mem_take (List.mem_of_mem_drop hb)))]
      exact sE
  refine ⟨?_,?_⟩
  · unfold bz
    rw [h0,h0,if_neg (by decide),if_neg (by decide)]
  · have:=AH (m:=1) (bl:=dh n) (by decide) fun b hb=>by rw [qF b hb];exact sF
    omega
theorem zm {n : Nat} (h : 4≤n) : bY (dh n)=0:=by
  have:=(jG n).2
  unfold bY
  rw [if_neg (by rw [qq];omega),if_neg (fun e=>by rw [e] at this;cases this)]
theorem bB.CP {x : Dp} {bl : List Bk} {pd : List (Nat × Bk)} (hd : bB x bl pd) (hno : bY bl=0) : bB (jD x bl).x (jC bl) []:=by
  have h4 : ¬ bl.length<4:=fun h=>by unfold bY at hno;rw [if_pos h] at hno;cases hno
  have ⟨h1,h2,h3⟩:=ke (bl:=bl) hd.ok.b (by omega)
  have:=hd.n1
  exact hd.put (by rw [cj];omega) fun b hb=>(fA _ _ (by omega) b hb).2.2
theorem bB.app {h : Hf} {bl af : List Bk} {pd : List (Nat × Bk)} (hd : bB h.x bl pd) (v : Jv h bl af) {l : Bk} (hf : nb l.length≤h.size - h.used) : bB (qE h l).x (iI h bl l) []:=by
  have h1:=v.fs;have h2:=v.r;have h3:=v.u
  exact hd.put (by rw [ct];omega) fun b hb=>(oa (by omega) b hb).2.2
theorem bB.DH {h : Hf} {bl af : List Bk} {pd : List (Nat × Bk)} (hd : bB h.x bl pd) (v : Jv h bl af) {l : Bk} (hf : ¬ mo h bl l.length) : bB (mq h bl l).x (mu h bl l) []:=by
  have h1:=v.fs
  have hfit : nb l.length≤h.size:=Nat.le_of_not_lt fun e=>hf (.inl e)
  have hr : room [l]=nb l.length:=by simp [room]
  exact hd.put (by rw [cj,hr];omega) fun b hb=>(fA _ _ (by omega) b hb).2.2
theorem Jv.DH {h : Hf} {bl af : List Bk} (v : Jv h bl af) {l : Bk} (hf : ¬ mo h bl l.length) : Jv (mq h bl l) (mu h bl l) [l]:=by
  have h1:=v.fs
  have hfit : nb l.length≤h.size:=Nat.le_of_not_lt fun e=>hf (.inl e)
  have hr : room [l]=nb l.length:=by simp [room]
  exact Jv.Eh (x:=n6 h.x) v.n4 v.n5 v.n (by show h.size - h.first=0∨h.size - h.first=h.size;rcases v.f with e | e <;> omega) (by rw [hr];exact hfit) (by simp) (fun e=>hf (.inr e))
end
section
set_option maxRecDepth 10000
open Sl
theorem OQ.isNil {P : Program} {n : Nat} {E : Env} {C : World→Prop} {dst : Option Tmp} {t t' ty e : TypeId} {pos : String} {aft : Array Edge} {g : Option (Nat × Bool)} {x y : Operand} {ad : Option Addr} {k cap : Nat} (hu : P.underlying t=some (.slice e)) (hx : ev E x=some (.slice ad k cap)) (hy : ev E y=some (.slice none 0 0)) :
    OQ P n E C ⟨dst,.binOp .eql t x y t',ty,pos,aft,g⟩ (.bool ad.isNone):=
  OQ.run fun c ha w _=>by
    have h1:=ha.eval hx
    have h2:=ha.eval hy
    have h4 : (binOp .eql t (.slice ad k cap) (.slice none 0 0)).run P w=.ok (.bool ad.isNone) w:=by
      show (do pure (.bool (← Op.equal t (.slice ad k cap) (.slice none 0 0))) : Sem Value).run P w=_
      simp [Sem.run_bind,run_equal_slice_nil w t e ad k cap hu]
    simp [execOp,h1,h2,eqGuard,h4]
theorem mw : aL Tryz.prog 65:=⟨_,Tryz.func65,rfl,by kernel_rfl⟩
set_option maxHeartbeats 4000000 in
theorem od (s : aC) (w : World) (hs : s.ok w) (hl : s.l.length≤4294967296) : Calls Tryz.prog 65 [s.v].toArray w fun e w'=>∃ q : Acc,e=.returned (ah q s.l.length)∧(q=none→s.l=[])∧Holds w [] (aa 5 q (s.l.map U8)) w':=by
  refine enter (n:=8) Tryz.func65 rfl rfl rfl (Holds.start w []) ?_
  obtain ⟨ad,cap,l⟩:=s
  cases ad with
  | none=>
    have h0 : l=[]:=by
      cases l with
      | nil=>rfl
      | cons c l=>
        obtain ⟨b,j,h1,_⟩:=hs.reads.at (by simp)
        cases h1
    repeat (first | refine JL.q (by first|(apply OQ.isNil;exact Tryz.underlying24;rfl;rfl)|(apply OQ.move;rfl)|(apply OQ.assign;rfl)) rfl ?_ | refine JC.seq ?_ | refine JC.region ?_ | refine JL.nil ?_ | refine JE.next ?_)
    refine JC.cond_true rfl rfl ?_
    repeat (first | refine JL.q (by (apply OQ.assign;rfl)) rfl ?_ | refine JC.seq ?_ | refine JC.region ?_ | refine JL.nil ?_ | refine JE.next ?_)
    refine JC.ret ?_
    repeat (refine JE.aA ?_)
    exact JE.aR rfl (RV.tmp rfl) fun w' hw=>⟨none,rfl,fun _=>h0,hw⟩
  | some ad=>
    repeat (first | refine JL.q (by first|(apply OQ.isNil;exact Tryz.underlying24;rfl;rfl)|(apply OQ.move;rfl)|(apply OQ.assign;rfl)) rfl ?_ | refine JC.seq ?_ | refine JC.region ?_ | refine JL.nil ?_ | refine JE.next ?_)
    refine JC.cond_false rfl rfl ?_
    repeat (first | refine JC.seq ?_ | refine JC.region ?_ | refine JC.skip ?_ | refine JE.next ?_)
    refine JL.pV Tryz.underlying24 pJ rfl fun b0 _=>?_
    repeat (refine JL.q (by (apply OQ.move;rfl)) rfl ?_)
    refine JL.append (cs:=l.map U8) (m:=l.length) (ad:=some ad) (sc:=cap) (xs:=[]) (fun b' cap'=>[⟨b',Sl.Own 5 1 (0+l.length) cap' ([]++l.map U8),true⟩]) Tryz.underlying24 pJ rfl rfl (by intro _ _;repeat (first | exact dI.here | apply dI.there)) (by simp) (fun w' hw'=>(hs.holds hw' rfl).reads) (p6 _) rfl (by decide) (by simp only [] at hl;omega) (by simp only [] at hl;omega) rfl fun b1 cap1=>?_
    rw [Nat.zero_add,List.nil_append]
    repeat (first | refine JL.q (by (apply OQ.assign;rfl)) rfl ?_ | refine JL.nil ?_ | refine JE.next ?_)
    refine JC.ret (JE.aR rfl (RV.tmp rfl) fun w' hw=>⟨some (b1,cap1),rfl,(fun h=>by cases h),?_⟩)
    show Holds w [] [⟨b1,Sl.Own 5 1 (l.map U8).length cap1 (l.map U8),true⟩] w'
    rw [List.length_map]
    exact hw
end
section
namespace fI
open cY dy
structure Pq where
  key : Bk
  val : Bk
  gone : Bool
def jU (p : Pq) : Bool:=decide (1≤p.key.length) && (decide (p.key.length≤1000) && !(p.gone && decide (0<p.val.length)))
def fV (l : List Pq) : Bool:=l.all jU
def gR (p : Pq) : Bk:=(if p.gone then 1#8 else 0#8)::(be (BitVec.ofNat 32 p.key.length) 2++p.key++be (BitVec.ofNat 32 p.val.length) 4++p.val)
def aZ (l : List Pq) : Bk:=l.flatMap gR
def jH (b : Bk) (size : Nat) : Option (Bk × Bk):=
  if b.length<size then none else if (b.drop size).length<fy (b.take size) then none else some ((b.drop size).take (fy (b.take size)),(b.drop size).drop (fy (b.take size)))
def kX : Bk→Option (Pq × Bk)
  | []=>none
  | s::b=>match jH b 2 with
    | none=>none
    | some (k,r)=>match jH r 4 with
      | none=>none
      | some (v,r')=>if s.toNat≤1∧jU ⟨k,v,decide (s.toNat=1)⟩=true then some (⟨k,v,decide (s.toNat=1)⟩,r') else none
def qG : Nat→Bk→Option (List Pq)
  | _,[]=>some []
  | 0,_::_=>none
  | f+1,b::bs=>match kX (b::bs) with
    | none=>none
    | some (p,r)=>(qG f r).map (p::·)
def dec (b : Bk) : Option (List Pq):=qG b.length b
theorem mz {b k r : Bk} {s : Nat} (h : jH b s=some (k,r)) : b.length=s+k.length+r.length∧b=b.take s++k++r:=by
  unfold jH at h
  split at h
  · cases h
  · split at h
    · cases h
    · cases h
      refine ⟨?_,?_⟩
      · simp only [List.length_take,List.length_drop] at *
        omega
      · rw [List.append_assoc,List.take_append_drop,List.take_append_drop]
theorem ig {b r : Bk} {p : Pq} (h : kX b=some (p,r)) : jU p=true∧p.key.length+p.val.length+7+r.length=b.length:=by
  cases b with
  | nil=>cases h
  | cons s b=>
    rw [kX] at h
    split at h
    · cases h
    · next k r1 h1=>
      split at h
      · cases h
      · next v r2 h2=>
        split at h
        · next h3=>
          cases h
          have:=(mz h1).1
          have:=(mz h2).1
          refine ⟨h3.2,?_⟩
          simp only [List.length_cons]
          omega
        · cases h
theorem oe : ∀ (f g : Nat) (b : Bk),b.length≤f→b.length≤g→qG f b=qG g b
  | _,_,[],_,_=>by simp [qG]
  | 0,_,_::_,h,_=>by simp at h
  | _,0,_::_,_,h=>by simp at h
  | f+1,g+1,b::bs,h1,h2=>by
    rw [qG,qG]
    cases h : kX (b::bs) with
    | none=>rfl
    | some pr=>
      obtain ⟨p,r⟩:=pr
      have:=(ig h).2
      simp only [List.length_cons] at this h1 h2
      dsimp only
      rw [oe f g r (by omega) (by omega)]
theorem uf : dec []=some []:=rfl
theorem mA {b : Bk} (h : b≠[]) : dec b=match kX b with | none=>none | some (p,r)=>(dec r).map (p::·):=by
  cases b with
  | nil=>exact absurd rfl h
  | cons c bs=>
    unfold dec
    rw [List.length_cons,qG]
    cases h : kX (c::bs) with
    | none=>rfl
    | some pr=>
      obtain ⟨p,r⟩:=pr
      have:=(ig h).2
      simp only [List.length_cons] at this
      dsimp only
      rw [oe bs.length r.length r (by omega) (Nat.le_refl _)]
theorem xp {k r : Bk} (h : k.length<65536) : jH (be (BitVec.ofNat 32 k.length) 2++k++r) 2=some (k,r):=by
  have e1 : (be (BitVec.ofNat 32 k.length) 2++k++r).take 2=be (BitVec.ofNat 32 k.length) 2:=by rw [List.append_assoc,List.take_left' (bw _ _)]
  have e2 : (be (BitVec.ofNat 32 k.length) 2++k++r).drop 2=k++r:=by rw [List.append_assoc,List.drop_left' (bw _ _)]
  unfold jH
  rw [if_neg (by simp only [List.length_append,bw];omega),e1,e2,wO h,if_neg (by simp),List.take_left' rfl,List.drop_left' rfl]
theorem xq {k r : Bk} (h : k.length<4294967296) : jH (be (BitVec.ofNat 32 k.length) 4++k++r) 4=some (k,r):=by
  have e1 : (be (BitVec.ofNat 32 k.length) 4++k++r).take 4=be (BitVec.ofNat 32 k.length) 4:=by rw [List.append_assoc,List.take_left' (bw _ _)]
  have e2 : (be (BitVec.ofNat 32 k.length) 4++k++r).drop 4=k++r:=by rw [List.append_assoc,List.drop_left' (bw _ _)]
  unfold jH
  rw [if_neg (by simp only [List.length_append,bw];omega),e1,e2,wP h,if_neg (by simp),List.take_left' rfl,List.drop_left' rfl]
theorem ij {p : Pq} (h : jU p=true) : 1≤p.key.length∧p.key.length≤1000∧(p.gone=true→p.val=[]):=by
  unfold jU at h
  simp only [Bool.and_eq_true,decide_eq_true_eq,Bool.not_eq_true',Bool.and_eq_false_iff,decide_eq_false_iff_not] at h
  refine ⟨h.1,h.2.1,fun hg=>?_⟩
  rcases h.2.2 with h2 | h2
  · rw [hg] at h2;cases h2
  · exact List.length_eq_zero_iff.1 (by omega)
theorem xu {p : Pq} {r : Bk} (h : jU p=true) (hv : p.val.length<4294967296) : kX (gR p++r)=some (p,r):=by
  obtain ⟨key,val,gone⟩:=p
  have h1:=ij h
  unfold gR
  dsimp only at *
  rw [List.cons_append,kX]
  rw [show be (BitVec.ofNat 32 key.length) 2++key++be (BitVec.ofNat 32 val.length) 4++val++r=be (BitVec.ofNat 32 key.length) 2++key++(be (BitVec.ofNat 32 val.length) 4++val++r) by simp [List.append_assoc],xp (by omega)]
  dsimp only
  rw [xq hv]
  dsimp only
  cases gone
  · simp only [Bool.false_eq_true,if_false]
    rw [show decide ((0#8).toNat=1)=false from rfl,if_pos ⟨by decide,h⟩]
  · simp only [if_true]
    rw [show decide ((1#8).toNat=1)=true from rfl,if_pos ⟨by decide,h⟩]
theorem zq (p : Pq) (r : Bk) : gR p++r≠[]:=by unfold gR;simp
theorem oS : ∀ {l : List Pq},fV l=true→(∀ p ∈ l,p.val.length<4294967296)→dec (aZ l)=some l
  | [],_,_=>rfl
  | p::l,h,hv=>by
    unfold fV at h
    rw [List.all_cons,Bool.and_eq_true] at h
    have ih:=oS (l:=l) h.2 fun q hq=>hv q (by simp [hq])
    have e : aZ (p::l)=gR p++aZ l:=rfl
    rw [e,mA (zq p _),xu h.1 (hv p (by simp))]
    dsimp only
    rw [ih]
    rfl
theorem qH (p : Pq) : (gR p).length=7+p.key.length+p.val.length:=by
  unfold gR
  simp only [List.length_cons,List.length_append,bw]
  omega
theorem sG : ∀ {l : List Pq} {b : Bk},dec b=some l→fV l=true∧(l.map fun p=>7+p.key.length+p.val.length).sum=b.length
  | l,[],h=>by
    rw [uf,Option.some.injEq] at h
    subst h
    exact ⟨rfl,rfl⟩
  | l,c::bs,h=>by
    rw [mA (by simp)] at h
    cases hf : kX (c::bs) with
    | none=>rw [hf] at h;cases h
    | some pr=>
      obtain ⟨p,r⟩:=pr
      rw [hf] at h
      dsimp only at h
      have h1:=ig hf
      have hlt : r.length<(c::bs).length:=by omega
      cases hd : dec r with
      | none=>rw [hd] at h;cases h
      | some l'=>
        rw [hd] at h
        cases h
        have ih:=sG (b:=r) hd
        refine ⟨?_,?_⟩
        · unfold fV
          rw [List.all_cons,h1.1,Bool.true_and]
          exact ih.1
        · simp only [List.map_cons,List.sum_cons]
          omega
termination_by _ b=>b.length
abbrev VL:=List (Bk × Bk)
def eO : Bk→Bk→Bool
  | [],[]=>false
  | [],_::_=>true
  | _::_,[]=>false
  | a::l,b::r=>if a.toNat<b.toNat then true else if b.toNat<a.toNat then false else eO l r
theorem jc : ∀ (a : Bk),eO a a=false
  | []=>rfl
  | a::l=>by rw [eO,if_neg (Nat.lt_irrefl _),if_neg (Nat.lt_irrefl _),jc l]
theorem kf : ∀ {a b c : Bk},eO a b=true→eO b c=true→eO a c=true
  | [],[],_,h,_=>by cases h
  | [],_::_,[],_,h=>by cases h
  | [],_::_,_::_,_,_=>rfl
  | _::_,[],_,h,_=>by cases h
  | _::_,_::_,[],_,h=>by cases h
  | a::l,b::r,c::t,h1,h2=>by
    rw [eO] at h1 h2 ⊢
    split at h1
    · split at h2
      · rw [if_pos (by omega)]
      · split at h2
        · cases h2
        · rw [if_pos (by omega)]
    · split at h1
      · cases h1
      · split at h2
        · rw [if_pos (by omega)]
        · split at h2
          · cases h2
          · rw [if_neg (by omega),if_neg (by omega)]
            exact kf h1 h2
theorem iq : ∀ (a b : Bk),a≠b→eO a b=false→eO b a=true
  | [],[],h,_=>absurd rfl h
  | [],_::_,_,h=>by cases h
  | _::_,[],_,_=>rfl
  | a::l,b::r,h,h1=>by
    rw [eO] at h1 ⊢
    split at h1
    · cases h1
    · split at h1
      · rw [if_pos (by omega)]
      · have e : a=b:=BitVec.eq_of_toNat_eq (by omega)
        rw [if_neg (by omega),if_neg (by omega)]
        exact iq l r (fun hh=>h (by rw [e,hh])) h1
theorem og {a b : Bk} (h : eO a b=true) : eO b a=false:=by
  cases h2 : eO b a with
  | false=>rfl
  | true=>have:=kf h h2;rw [jc] at this;cases this
theorem mB {a b : Bk} (h : eO a b=true) : a≠b:=fun e=>by rw [e,jc] at h;cases h
def fB (k v : Bk) : VL→VL
  | []=>[(k,v)]
  | p::vs=>if eO p.1 k then p::fB k v vs else if p.1=k then (k,v)::vs else (k,v)::p::vs
def kg (k : Bk) : VL→VL
  | []=>[]
  | p::vs=>if eO p.1 k then p::kg k vs else if p.1=k then vs else p::vs
def vg (vs : VL) (p : Pq) : VL:=if p.gone then kg p.key vs else fB p.key p.val vs
def cy (vs : VL) (l : List Pq) : VL:=l.foldl vg vs
def ji (vs : VL) : Prop:=vs.Pairwise fun p q=>eO p.1 q.1=true
theorem ji.keys {vs : VL} (h : ji vs) : (vs.map Prod.fst).Nodup:=by
  unfold List.Nodup
  rw [List.pairwise_map]
  exact h.imp fun h=>mB h
theorem jI {k v : Bk} {q : Bk × Bk} : ∀ {vs : VL},q ∈ fB k v vs→q=(k,v)∨q ∈ vs
  | [],h=>by simpa [fB] using h
  | p::vs,h=>by
    rw [fB] at h
    split at h
    · rcases List.mem_cons.1 h with rfl | h
      · simp
      · rcases jI h with h | h <;> simp [h]
    · split at h
      · rcases List.mem_cons.1 h with h | h <;> simp [h]
      · rcases List.mem_cons.1 h with h | h
        · simp [h]
        · exact .inr h
theorem fC {k v : Bk} : ∀ {vs : VL},ji vs→ji (fB k v vs)
  | [],_=>by simp [fB,ji]
  | p::vs,h=>by
    obtain ⟨h1,h2⟩:=List.pairwise_cons.1 h
    rw [fB]
    split
    · next hk=>
      refine List.pairwise_cons.2 ⟨fun q hq=>?_,fC h2⟩
      rcases jI hq with rfl | hq
      · exact hk
      · exact h1 q hq
    · next hk=>
      split
      · next he=>
        refine List.pairwise_cons.2 ⟨fun q hq=>?_,h2⟩
        have:=h1 q hq
        rw [he] at this
        exact this
      · next he=>
        have hlt:=iq _ _ he (by simpa using hk)
        refine List.pairwise_cons.2 ⟨fun q hq=>?_,h⟩
        rcases List.mem_cons.1 hq with rfl | hq
        · exact hlt
        · exact kf hlt (h1 q hq)
theorem jJ (k : Bk) : ∀ (vs : VL),(kg k vs).Sublist vs
  | []=>.slnil
  | p::vs=>by
    rw [kg]
    split
    · exact (jJ k vs).cons_cons _
    · split
      · exact List.sublist_cons_self _ _
      · exact List.Sublist.refl _
theorem mC {k : Bk} {vs : VL} (h : ji vs) : ji (kg k vs):=h.sublist (jJ k vs)
theorem ug {vs : VL} {p : Pq} (h : ji vs) : ji (vg vs p):=by
  unfold vg
  split
  · exact mC h
  · exact fC h
theorem ir : ∀ {l : List Pq} {vs : VL},ji vs→ji (cy vs l)
  | [],_,h=>h
  | p::l,vs,h=>ir (l:=l) (ug (p:=p) h)
theorem fW {k : Bk} {vs : VL} (h : ∀ q ∈ vs,q.1≠k) : vs.filter (fun q=>decide (q.1≠k))=vs:=List.filter_eq_self.2 fun q hq=>decide_eq_true (h q hq)
theorem lq {k : Bk} {p : Bk × Bk} {vs : VL} (h : ji (p::vs)) (hk : eO p.1 k=false) : ∀ q ∈ vs,q.1≠k:=fun q hq e=>by
  have h1:=(List.pairwise_cons.1 h).1 q hq
  rw [e,hk] at h1
  cases h1
theorem ki {k v : Bk} : ∀ {vs : VL},ji vs→(fB k v vs).Perm ((k,v)::vs.filter fun q=>decide (q.1≠k))
  | [],_=>.refl _
  | p::vs,h=>by
    obtain ⟨h1,h2⟩:=List.pairwise_cons.1 h
    rw [fB]
    split
    · next hk=>
      rw [List.filter_cons_of_pos (by simpa using mB hk)]
      exact (List.Perm.cons _ (ki h2)).trans (List.Perm.swap _ _ _)
    · next hk=>
      split
      · next he=>
        rw [List.filter_cons_of_neg (by simp [he]),fW (lq h (by simpa using hk))]
      · next he=>
        rw [List.filter_cons_of_pos (by simpa using he),fW (lq h (by simpa using hk))]
theorem gS {k : Bk} : ∀ {vs : VL},ji vs→kg k vs=vs.filter fun q=>decide (q.1≠k)
  | [],_=>rfl
  | p::vs,h=>by
    obtain ⟨h1,h2⟩:=List.pairwise_cons.1 h
    rw [kg]
    split
    · next hk=>rw [List.filter_cons_of_pos (by simpa using mB hk),gS h2]
    · next hk=>
      split
      · next he=>rw [List.filter_cons_of_neg (by simp [he]),fW (lq h (by simpa using hk))]
      · next he=>rw [List.filter_cons_of_pos (by simpa using he),fW (lq h (by simpa using hk))]
def fh (vs : VL) (k : Bk) : Option Bk:=(vs.find? fun q=>decide (q.1=k)).map Prod.snd
theorem di {vs : VL} (h : (vs.map Prod.fst).Nodup) {k v : Bk} : fh vs k=some v↔(k,v) ∈ vs:=by
  induction vs with
  | nil=>simp [fh]
  | cons p vs ih=>
    obtain ⟨h1,h2⟩:=List.nodup_cons.1 (by simpa using h : (p.1::vs.map Prod.fst).Nodup)
    unfold fh at ih ⊢
    rw [List.find?_cons]
    by_cases hp : p.1=k
    · rw [decide_eq_true hp]
      simp only [Option.map_some,Option.some.injEq,List.mem_cons]
      constructor
      · intro e;left;rw [← hp,← e]
      · rintro (e | e)
        · rw [← e]
        · exact absurd (hp ▸ List.mem_map_of_mem (f:=Prod.fst) e) h1
    · rw [decide_eq_false hp]
      simp only
      rw [ih h2,List.mem_cons]
      constructor
      · exact .inr
      · rintro (e | e)
        · exact absurd (by rw [← e]) hp
        · exact e
def cH (vs : VL) : List Pq:=vs.map fun p=>⟨p.1,p.2,false⟩
theorem oh {k v : Bk} : ∀ {vs : VL},(∀ q ∈ vs,eO q.1 k=true)→fB k v vs=vs++[(k,v)]
  | [],_=>rfl
  | p::vs,h=>by rw [fB,if_pos (h p (by simp)),oh fun q hq=>h q (by simp [hq])];rfl
theorem om : ∀ (vs ws : VL),ji (ws++vs)→cy ws (cH vs)=ws++vs
  | [],ws,_=>by simp [cy,cH]
  | p::vs,ws,h=>by
    have e : cy ws (cH (p::vs))=cy (vg ws ⟨p.1,p.2,false⟩) (cH vs):=rfl
    have h' : ji (ws++[p]++vs):=by simpa using h
    have hl : ∀ q ∈ ws,eO q.1 p.1=true:=fun q hq=>(List.pairwise_append.1 h).2.2 q hq p (by simp)
    rw [e,show vg ws ⟨p.1,p.2,false⟩=ws++[p] from oh hl,om vs (ws++[p]) h']
    simp
theorem zu {vs : VL} (h : ji vs) : cy [] (cH vs)=vs:=by simpa using om vs [] (by simpa using h)
theorem mD (vs : VL) (a b : List Pq) : cy vs (a++b)=cy (cy vs a) b:=by simp [cy]
def aU : List Bk→Option (List Pq)
  | []=>some []
  | r::rs=>match dec r,aU rs with
    | some l,some ls=>some (l++ls)
    | _,_=>none
def ew (af : List Bk) : Option VL:=(aU af).map (cy [])
theorem dF : ∀ (a b : List Bk),aU (a++b)=match aU a,aU b with | some l,some m=>some (l++m) | _,_=>none
  | [],b=>by
    rw [List.nil_append,aU]
    cases aU b <;> rfl
  | r::a,b=>by
    rw [List.cons_append,aU,aU,dF a b]
    cases dec r <;> cases aU a <;> cases aU b <;> simp
theorem jd (r : Bk) : aU [r]=dec r:=by
  rw [aU,aU]
  cases dec r <;> simp
end fI
end
section
set_option maxRecDepth 10000
open Sl
structure ME (α : Type) where
  key : List Bt
  val : α
  born : Nat
def ME.en {α : Type} (f : α→Value) (e : ME α) : MapEntry:=⟨Z e.key,f e.val,e.born⟩
def MB {α : Type} (f : α→Value) (es : List (ME α)) (c : Nat) : Obj→Prop:=fun o=>o=.map (es.map (ME.en f)).toArray c
def IB (b : Nat) (since : Nat) (seen : List Nat) (last : Nat) : Obj→Prop:=fun o=>o=.mapIter (some b) since seen.toArray last
variable {α : Type}
def bU (k : List Bt) : List (ME α)→Nat→Option (Nat × α)
  | [],_=>none
  | e::es,i=>if k=e.key then some (i,e.val) else bU k es (i+1)
def look (es : List (ME α)) (k : List Bt) : Option α:=(bU k es 0).map Prod.snd
def fX (k : List Bt) (v : α) (c : Nat) : List (ME α)→List (ME α)
  | []=>[⟨k,v,c⟩]
  | e::es=>if k=e.key then ⟨k,v,e.born⟩::es else e::fX k v c es
def sH (k : List Bt) (es : List (ME α)) (c : Nat) : Nat:=if (look es k).isSome then c else c+1
def gT (k : List Bt) : List (ME α)→List (ME α)
  | []=>[]
  | e::es=>if k=e.key then es else e::gT k es
structure WF {α : Type} (es : List (ME α)) (c : Nat) : Prop where
  keys : (es.map ME.key).Nodup
  qI : (es.map ME.born).Nodup
  lt : ∀ e ∈ es,e.born<c
theorem xw {l r : List Bt} (h : bR l=bR r) : l=r:=by rw [← fP l,h,fP]
theorem qJ (l r : List Bt) : (bR l == bR r)=decide (l=r):=by
  show ((l.map UInt8.ofBitVec).toArray == (r.map UInt8.ofBitVec).toArray)=_
  by_cases h : l=r
  · subst h;simp
  · rw [decide_eq_false h]
    refine beq_eq_false_iff_ne.2 fun e=>h (xw ?_)
    show (⟨(l.map UInt8.ofBitVec).toArray⟩ : ByteArray)=⟨(r.map UInt8.ofBitVec).toArray⟩
    rw [e]
theorem kM (f : α→Value) (k : List Bt) : ∀ (es : List (ME α)) (i : Nat),Instr.findNow .string (Z k) (es.map (ME.en f)) i=some ((bU k es i).map fun p=>(p.1,f p.2))
  | [],i=>rfl
  | e::es,i=>by
    rw [List.map_cons,Instr.findNow]
    have h : Instr.sameNow .string (Z k) (e.en f).key=some (decide (k=e.key)):=by
      show some (bR k == bR e.key)=_
      rw [qJ]
    rw [h,bU]
    by_cases hk : k=e.key
    · rw [decide_eq_true hk,if_pos hk]
      rfl
    · rw [decide_eq_false hk,if_neg hk]
      exact kM f k es (i+1)
theorem gU (k : List Bt) : ∀ (es : List (ME α)) (i : Nat),bU k es i=(bU k es 0).map fun p=>(p.1+i,p.2)
  | [],i=>rfl
  | e::es,i=>by
    rw [bU,bU]
    split
    · simp
    · rw [gU k es (i+1),gU k es (0+1),Option.map_map]
      congr 1
      funext p
      simp only [Function.comp_apply,Prod.mk.injEq,and_true]
      omega
theorem mE {k : List Bt} : ∀ {es : List (ME α)} {i : Nat},bU k es i=none↔k ∉ es.map ME.key
  | [],i=>by simp [bU]
  | e::es,i=>by
    rw [bU]
    by_cases h : k=e.key
    · rw [if_pos h];simp [h]
    · rw [if_neg h,mE];simp [h]
theorem kj {es : List (ME α)} {k : List Bt} : look es k=none↔k ∉ es.map ME.key:=by
  unfold look
  rw [Option.map_eq_none_iff]
  exact mE
theorem vh (e : ME α) (es : List (ME α)) (k : List Bt) : look (e::es) k=if k=e.key then some e.val else look es k:=by
  unfold look
  rw [bU]
  split
  · rfl
  · rw [gU,Option.map_map];rfl
theorem qK {k : List Bt} {v : α} {c : Nat} : ∀ {es : List (ME α)} {i : Nat},bU k es i=none→fX k v c es=es++[⟨k,v,c⟩]
  | [],_,_=>rfl
  | e::es,i,h=>by
    rw [bU] at h
    by_cases hk : k=e.key
    · rw [if_pos hk] at h;cases h
    · rw [if_neg hk] at h
      rw [fX,if_neg hk,qK h];rfl
theorem mF (f : α→Value) {k : List Bt} {v u : α} {c : Nat} : ∀ {es : List (ME α)} {i j : Nat},bU k es i=some (j,u)→i≤j∧j - i<es.length∧(es.map (ME.en f)).modify (j - i) (fun e=>{ e with key:=Z k,val:=f v })=(fX k v c es).map (ME.en f)
  | e::es,i,j,h=>by
    rw [bU] at h
    by_cases hk : k=e.key
    · rw [if_pos hk,Option.some.injEq,Prod.mk.injEq] at h
      obtain ⟨rfl,rfl⟩:=h
      rw [fX,if_pos hk]
      simp [ME.en]
    · rw [if_neg hk] at h
      obtain ⟨h1,h2,h3⟩:=mF f (v:=v) (c:=c) h
      rw [fX,if_neg hk]
      refine ⟨by omega,by rw [List.length_cons];omega,?_⟩
      rw [show j - i=(j - (i+1))+1 by omega,List.map_cons,List.modify_succ_cons,h3,List.map_cons]
theorem qL {k : List Bt} : ∀ {es : List (ME α)} {i : Nat},bU k es i=none→gT k es=es
  | [],_,_=>rfl
  | e::es,i,h=>by
    rw [bU] at h
    by_cases hk : k=e.key
    · rw [if_pos hk] at h;cases h
    · rw [if_neg hk] at h
      rw [gT,if_neg hk,qL h]
theorem qM (f : α→Value) {k : List Bt} {u : α} : ∀ {es : List (ME α)} {i j : Nat},bU k es i=some (j,u)→i≤j∧j - i<es.length∧(es.map (ME.en f)).eraseIdx (j - i)=(gT k es).map (ME.en f)
  | e::es,i,j,h=>by
    rw [bU] at h
    by_cases hk : k=e.key
    · rw [if_pos hk,Option.some.injEq,Prod.mk.injEq] at h
      obtain ⟨rfl,rfl⟩:=h
      rw [gT,if_pos hk]
      simp
    · rw [if_neg hk] at h
      obtain ⟨h1,h2,h3⟩:=qM f h
      rw [gT,if_neg hk]
      refine ⟨by omega,by rw [List.length_cons];omega,?_⟩
      rw [show j - i=(j - (i+1))+1 by omega,List.map_cons,List.eraseIdx_cons_succ,h3,List.map_cons]
theorem kn (k : List Bt) (v : α) (c : Nat) : ∀ (es : List (ME α)),(fX k v c es).map ME.key=if k ∈ es.map ME.key then es.map ME.key else es.map ME.key++[k]
  | []=>by simp [fX]
  | e::es=>by
    rw [fX]
    by_cases h : k=e.key
    · rw [if_pos h,if_pos (by simp [h])];simp [h]
    · rw [if_neg h,List.map_cons,kn k v c es]
      by_cases h2 : k ∈ es.map ME.key
      · rw [if_pos h2,if_pos (by simp only [List.map_cons,List.mem_cons];exact .inr h2)];rfl
      · rw [if_neg h2,if_neg (by simp only [List.map_cons,List.mem_cons,not_or];exact ⟨h,h2⟩)];rfl
theorem ey (k : List Bt) (v : α) (c : Nat) : ∀ (es : List (ME α)),(fX k v c es).map ME.born=if k ∈ es.map ME.key then es.map ME.born else es.map ME.born++[c]
  | []=>by simp [fX]
  | e::es=>by
    rw [fX]
    by_cases h : k=e.key
    · rw [if_pos h,if_pos (by simp [h])];simp
    · rw [if_neg h,List.map_cons,ey k v c es]
      by_cases h2 : k ∈ es.map ME.key
      · rw [if_pos h2,if_pos (by simp only [List.map_cons,List.mem_cons];exact .inr h2)];rfl
      · rw [if_neg h2,if_neg (by simp only [List.map_cons,List.mem_cons,not_or];exact ⟨h,h2⟩)];rfl
theorem gV (k : List Bt) : ∀ (es : List (ME α)),(gT k es).Sublist es
  | []=>.slnil
  | e::es=>by
    rw [gT]
    split
    · exact List.sublist_cons_self _ _
    · exact (gV k es).cons_cons _
theorem WF.nil : WF ([] : List (ME α)) 0:=⟨.nil,.nil,nofun⟩
theorem WF.put {es : List (ME α)} {c : Nat} (h : WF es c) (k : List Bt) (v : α) : WF (fX k v c es) (sH k es c):=by
  have hl : (look es k).isSome=decide (k ∈ es.map ME.key):=by
    by_cases hk : k ∈ es.map ME.key
    · rw [decide_eq_true hk]
      cases he : look es k with
      | none=>exact absurd hk (kj.1 he)
      | some v=>rfl
    · rw [decide_eq_false hk,kj.2 hk];rfl
  unfold sH
  rw [hl]
  by_cases hk : k ∈ es.map ME.key
  · rw [decide_eq_true hk,if_pos rfl]
    refine ⟨by rw [kn,if_pos hk];exact h.keys,by rw [ey,if_pos hk];exact h.qI,fun e he=>?_⟩
    have:=List.mem_map_of_mem (f:=ME.born) he
    rw [ey,if_pos hk] at this
    obtain ⟨e',h1,h2⟩:=List.mem_map.1 this
    rw [← h2]
    exact h.lt e' h1
  · rw [decide_eq_false hk,if_neg (by simp)]
    refine ⟨?_,?_,fun e he=>?_⟩
    · rw [kn,if_neg hk]
      exact List.nodup_append.2 ⟨h.keys,by simp,fun a ha b hb e=>hk (by rw [List.mem_singleton.1 hb] at e;exact e ▸ ha)⟩
    · rw [ey,if_neg hk]
      refine List.nodup_append.2 ⟨h.qI,by simp,fun a ha b hb e=>?_⟩
      obtain ⟨e',h1,h2⟩:=List.mem_map.1 ha
      have:=h.lt e' h1
      rw [List.mem_singleton.1 hb] at e
      omega
    · have:=List.mem_map_of_mem (f:=ME.born) he
      rw [ey,if_neg hk,List.mem_append] at this
      rcases this with h1 | h1
      · obtain ⟨e',h1,h2⟩:=List.mem_map.1 h1
        have:=h.lt e' h1
        omega
      · rw [List.mem_singleton.1 h1];omega
theorem WF.del {es : List (ME α)} {c : Nat} (h : WF es c) (k : List Bt) : WF (gT k es) c:=
  ⟨h.keys.sublist ((gV k es).map _),h.qI.sublist ((gV k es).map _),fun e he=>h.lt e ((gV k es).subset he)⟩
theorem ko (k : List Bt) (v : α) (c : Nat) : ∀ (es : List (ME α)),(es.map ME.key).Nodup→((fX k v c es).map fun e=>(e.key,e.val)).Perm ((k,v)::(es.filter fun e=>decide (e.key≠k)).map fun e=>(e.key,e.val))
  | [],_=>.refl _
  | e::es,h=>by
    obtain ⟨h1,h2⟩:=List.nodup_cons.1 (by simpa using h : (e.key::es.map ME.key).Nodup)
    rw [fX]
    by_cases hk : k=e.key
    · rw [if_pos hk,List.filter_cons_of_neg (by simp [hk]),List.map_cons,List.filter_eq_self.2 fun x hx=>by
        simp only [ne_eq,decide_eq_true_eq]
        intro h3
        exact h1 (by rw [← hk,← h3];exact List.mem_map_of_mem hx)]
    · rw [if_neg hk,List.filter_cons_of_pos (by simp [Ne.symm hk]),List.map_cons,List.map_cons]
      exact (List.Perm.cons _ (ko k v c es h2)).trans (List.Perm.swap _ _ _)
theorem kN (k : List Bt) : ∀ (es : List (ME α)),(es.map ME.key).Nodup→gT k es=es.filter fun e=>decide (e.key≠k)
  | [],_=>rfl
  | e::es,h=>by
    obtain ⟨h1,h2⟩:=List.nodup_cons.1 (by simpa using h : (e.key::es.map ME.key).Nodup)
    rw [gT]
    by_cases hk : k=e.key
    · rw [if_pos hk,List.filter_cons_of_neg (by simp [hk]),List.filter_eq_self.2 fun x hx=>by
        simp only [ne_eq,decide_eq_true_eq]
        intro h3
        exact h1 (by rw [← hk,← h3];exact List.mem_map_of_mem hx)]
    · rw [if_neg hk,List.filter_cons_of_pos (by simp [Ne.symm hk]),kN k es h2]
section
variable {P : Program} {n : Nat} {w0 : World} {S : List Nat} {ops : Array Oper} {Q : Exit→Act→World→Prop} {l : List Oper} {E : Env} {M M' : List ai}
variable {dst : Option Tmp} {d b r : Nat} {t t' k e ty : TypeId} {pos : String} {aft : Array Edge} {g : Option (Nat × Bool)} {x y z : Operand} {α : Type} {f : α→Value} {es : List (ME α)} {c : Nat} {key : List Bt} {v : α} {zv : Value} {wr : Bool}
theorem fY (em : Bool) (hk : P.underlying k=some .string) (w : World) : (Instr.checkKey em 10000 k (Z key)).run P w=.ok () w:=by
  have h1 : ∀ w,(underlying k).run P w=.ok .string w:=run_underlying hk
  rw [show (10000 : Nat)=9999+1 from rfl,Instr.checkKey]
  simp only [Sem.run_bind,h1,Result.andThen_ok,Sem.run_pure]
theorem gW (hk : P.underlying k=some .string) (w : World) : (Instr.findKey k (Z key) (es.map (ME.en f))).run P w=.ok ((bU key es 0).map fun p=>(p.1,f p.2)) w:=by
  simp [Instr.findKey,Sem.run_bind,run_underlying hk,kM]
theorem mG {w : World} (h : w.heap[b]?=some (.map (es.map (ME.en f)).toArray c)) : (getObj b).run P w=.ok (.map (es.map (ME.en f)).toArray c) w:=by
  simp [getObj,Sem.run,h]
theorem oT {w : World} {o : Obj} (h : w.heap[b]?=some (.map (es.map (ME.en f)).toArray c)) : (setObj b o).run P w=.ok () { w with heap:=w.heap.setIfInBounds b o }:=by
  simp [setObj,Sem.run,h]
def qN (v : Option Value) (zv : Value) : Bool→Value
  | true=>.tuple #[v.getD zv,.bool v.isSome]
  | false=>v.getD zv
theorem sI {ok : Bool} (ht : P.underlying t=some (.map k e)) (hk : P.underlying k=some .string) (hz : ∀ w,(zeroValue e).run P w=.ok zv w) {w : World} (h : w.heap[b]?=some (.map (es.map (ME.en f)).toArray c)) :
    (Instr.lookup t (.map (some b)) (Z key) ok).run P w=.ok (qN ((look es key).map f) zv ok) w:=by
  have h1 : ∀ w,(underlying t).run P w=.ok (.map k e) w:=run_underlying ht
  simp only [Instr.lookup,Sem.run_bind,h1,Result.andThen_ok,mG h,Sem.run_pure,fY _ hk,gW hk,List.toList_toArray]
  unfold look
  cases bU key es 0 with
  | none=>
    simp only [Option.map_none,Sem.run_bind,hz,Result.andThen_ok,Sem.run_pure]
    cases ok <;> rfl
  | some p=>
    simp only [Option.map_some,Sem.run_bind,Result.andThen_ok,Sem.run_pure]
    cases ok <;> rfl
theorem zw (hz : (P.info? e).bind (·.zero)=some zv) (w : World) : (zeroValue e).run P w=.ok zv w:=by
  cases hq : P.info? e with
  | none=>simp [hq] at hz
  | some i=>
    cases hi : i.zero with
    | none=>simp [hq,hi] at hz
    | some z=>
      simp [hq,hi] at hz
      simp [zeroValue,typeInfo,Sem.run_bind,hq,hi,hz]
theorem OQ.look {ok : Bool} (ht : P.underlying t=some (.map k e)) (hk : P.underlying k=some .string) (hz : (P.info? e).bind (·.zero)=some zv) (hx : ev E x=some (.map (some b))) (hy : ev E y=some (Z key)) (hM : Has M b (MB f es c) wr) :
    OQ P n E (Holds w0 S M) ⟨dst,.lookup t x y ok,ty,pos,aft,g⟩ (qN ((look es key).map f) zv ok):=
  OQ.run fun a ha w hw=>by
    have h1:=ha.eval hx
    have h2:=ha.eval hy
    obtain ⟨o,ho,rfl⟩:=hw.get hM
    simp [execOp,h1,h2,Sem.run_bind,sI (ok:=ok) ht hk (zw hz) ho]
theorem JL.makeMap (f : α→Value) {rs : Option Operand} (hrs : rs=none) (hd : Nat.blt d n=true)
    (kk : ∀ b,w0.heap.size≤b→JL P n w0 S ops Q l ((d,.map (some b))::E) (⟨b,MB f [] 0,true⟩::M)) : JL P n w0 S ops Q (⟨some d,.makeMap t rs,ty,pos,aft,none⟩::l) E M:=
  ⟨fun a w ha hw=>wpList_plain rfl fun K hK=>by
    subst hrs
    unfold Oper.wp
    simp only [execOp,Instr.makeMap,newObj,Sem.run_bind,Sem.run,Option.map_none,Sem.run_pure,Result.andThen_ok]
    exact hK _ _ ((kk w.heap.size hw.bf.size).go _ _ (ha.put d _ hd) (hw.push (.map #[] 0) rfl rfl rfl rfl rfl))⟩
theorem nv (ht : P.underlying t=some (.map k e)) (hk : P.underlying k=some .string) {w : World} (h : w.heap[b]?=some (.map (es.map (ME.en f)).toArray c)) :
    (Instr.mapUpdate t (.map (some b)) (Z key) (f v)).run P w=.ok () { w with heap:=w.heap.setIfInBounds b (.map ((fX key v c es).map (ME.en f)).toArray (sH key es c)) }:=by
  have h1 : ∀ w,(underlying t).run P w=.ok (.map k e) w:=run_underlying ht
  simp only [Instr.mapUpdate,Sem.run_bind,h1,Result.andThen_ok,mG h,fY _ hk,gW hk,List.toList_toArray]
  unfold sH look
  cases hf : bU key es 0 with
  | none=>
    have e1:=qK (v:=v) (c:=c) hf
    simp only [oT h,Option.map_none,Option.isSome_none,e1]
    simp [ME.en]
  | some p=>
    obtain ⟨j,u⟩:=p
    obtain ⟨_,h2,h3⟩:=mF f (v:=v) (c:=c) hf
    rw [Nat.sub_zero] at h2 h3
    have hn : bU key es 0≠none:=by rw [hf];simp
    have hkj : ((es.map (ME.en f)).toArray[j]?).map (·.key)=some (Z key):=by
      have : ∀ {es : List (ME α)} {i j : Nat},bU key es i=some (j,u)→((es.map (ME.en f))[j - i]?).map (·.key)=some (Z key):=by
        intro es
        induction es with
        | nil=>intro i j h;cases h
        | cons e es ih=>
          intro i j h
          rw [bU] at h
          by_cases hk : key=e.key
          · rw [if_pos hk,Option.some.injEq,Prod.mk.injEq] at h
            obtain ⟨rfl,_⟩:=h
            simp [ME.en,hk]
          · rw [if_neg hk] at h
            have h9:=(mF f (v:=v) (c:=c) h).1
            have:=ih h
            rw [show j - i=(j - (i+1))+1 by omega,List.map_cons,List.getElem?_cons_succ]
            exact this
      have:=this hf
      rw [Nat.sub_zero] at this
      simpa using this
    have hst : (Instr.keyThatStays (Z key) (Z key)).run P w=.ok (Z key) w:=by
      have : Instr.sameBits 10000 (Z key) (Z key)=true:=by show (bR key == bR key)=true;rw [qJ,decide_eq_true rfl]
      simp only [Instr.keyThatStays,this,if_true,Sem.run_pure]
    simp only [Sem.run_bind,hkj,Option.getD_some,hst,Result.andThen_ok,oT h,Option.map_some,Option.isSome_some,if_true]
    rw [← h3]
    simp
theorem JL.Bu (ht : P.underlying t=some (.map k e)) (hk : P.underlying k=some .string) (hx : ev E x=some (.map (some b))) (hy : ev E y=some (Z key)) (hz : ev E z=some (f v))
    (hu : lE M b (MB f es c) (MB f (fX key v c es) (sH key es c)) M')
    (kk : JL P n w0 S ops Q l E M') : JL P n w0 S ops Q (⟨none,.mapUpdate t x y z,ty,pos,aft,none⟩::l) E M:=
  ⟨fun a w ha hw=>wpList_plain rfl fun K hK=>by
    obtain ⟨o,ho,rfl⟩:=hw.get hu.has
    have hlt:=(Array.getElem?_eq_some_iff.1 ho).1
    unfold Oper.wp
    simp only [execOp,ha.eval hx,ha.eval hy,ha.eval hz,Sem.run_bind,nv ht hk ho,Result.andThen_ok]
    refine hK _ _ (kk.go _ _ (ha.jk _) (hw.write hu (o':=.map ((fX key v c es).map (ME.en f)).toArray (sH key es c)) rfl ?_ ?_ ?_ rfl rfl rfl))
    · simp [hlt]
    · simp
    · intro k hk
      simp [Array.getElem?_setIfInBounds,Ne.symm hk]⟩
theorem sJ (ht : P.underlying t=some (.map k e)) (hk : P.underlying k=some .string) {w : World} (h : w.heap[b]?=some (.map (es.map (ME.en f)).toArray c)) :
    (Builtin.delete_ #[t,k] ty #[.map (some b),Z key]).run P w=.ok (.tuple #[]) { w with heap:=w.heap.setIfInBounds b (.map ((gT key es).map (ME.en f)).toArray c) }:=by
  have h1 : ∀ w,(underlying t).run P w=.ok (.map k e) w:=run_underlying ht
  simp only [Builtin.delete_,List.getElem?_toArray,List.getElem?_cons_zero,List.getElem?_cons_succ,Sem.run_bind,h1,Result.andThen_ok,mG h,fY _ hk,gW hk,List.toList_toArray]
  cases hf : bU key es 0 with
  | none=>
    simp only [Option.map_none,Sem.run_bind,oT h,Result.andThen_ok,Sem.run_pure,qL hf]
  | some p=>
    obtain ⟨j,u⟩:=p
    obtain ⟨_,h2,h3⟩:=qM f hf
    rw [Nat.sub_zero] at h2 h3
    have e3 : ((es.map (ME.en f)).toArray.eraseIdxIfInBounds j)=((gT key es).map (ME.en f)).toArray:=by
      rw [← h3]
      apply Array.toList_inj.1
      simp [Array.eraseIdxIfInBounds,h2]
    simp only [Option.map_some,Sem.run_bind,oT h,Result.andThen_ok,Sem.run_pure,e3]
theorem JL.mapRange (ht : P.underlying t=some (.map k e)) (hx : ev E x=some (.map (some b))) (hM : Has M b (MB f es c) wr) (hd : Nat.blt d n=true)
    (kk : ∀ r,w0.heap.size≤r→JL P n w0 S ops Q l ((d,Pt r 0)::E) (⟨r,IB b c [] c,true⟩::M)) : JL P n w0 S ops Q (⟨some d,.range t x,ty,pos,aft,none⟩::l) E M:=
  ⟨fun a w ha hw=>wpList_plain rfl fun K hK=>by
    obtain ⟨o,ho,rfl⟩:=hw.get hM
    unfold Oper.wp
    simp only [execOp,ha.eval hx,Sem.run_bind,run_range_map w t k e b _ c ht ho,Result.andThen_ok]
    exact hK _ _ ((kk w.heap.size hw.bf.size).go _ _ (ha.put d _ hd) (hw.push (.mapIter (some b) c #[] c) rfl rfl rfl rfl rfl))⟩
theorem xy {w : World} {seen : List Nat} (hf : WF es c) (hb : w.heap[b]?=some (.map (es.map (ME.en f)).toArray c)) (hr : w.heap[r]?=some (.mapIter (some b) c seen.toArray c)) :
    ((∀ e ∈ es,e.born ∈ seen)∧(Instr.next (Pt r 0) false ty).run P w=.ok (.tuple #[.bool false]) w)∨
    ∃ e ∈ es,e.born ∉ seen∧∃ dr,(Instr.next (Pt r 0) false ty).run P w=.ok (.tuple #[.bool true,Z e.key,f e.val]) { w with drawn:=dr,heap:=w.heap.setIfInBounds r (.mapIter (some b) c (seen++[e.born]).toArray c) }:=by
  have hold : ∀ x ∈ (es.map (ME.en f)).toArray.toList,x.born<c:=fun x hx=>by
    obtain ⟨e,he,rfl⟩:=List.mem_map.1 (by simpa using hx : x ∈ es.map (ME.en f))
    exact hf.lt e he
  have hg : ∀ w : World,w.heap[b]?=some (.map (es.map (ME.en f)).toArray c)→w.heap[r]?=some (.mapIter (some b) c seen.toArray c)→(getObj r).run P w=.ok (.mapIter (some b) c seen.toArray c) w:=fun w _ h=>by simp [getObj,Sem.run,h]
  simp only [Instr.next,Sem.run_bind,hg w hb hr,mG hb,Result.andThen_ok,next_test_false seen.toArray _ c c hold (Nat.le_refl _),Bool.false_eq_true,if_false]
  have hL : Array.filter (fun e=>!seen.toArray.contains e.born) (es.map (ME.en f)).toArray=((es.filter fun e=>!seen.contains e.born).map (ME.en f)).toArray:=by
    rw [List.filter_toArray,List.filter_map]
    congr 3
    funext e
    exact congrArg (fun x=>!x) (List.contains_toArray ..)
  rw [hL]
  have hmem : ∀ e ∈ es.filter (fun e=>!seen.contains e.born),e ∈ es∧e.born ∉ seen:=fun e he=>by simpa using he
  have hall : (es.filter fun e=>!seen.contains e.born)=[]→∀ e ∈ es,e.born ∈ seen:=fun h e he=>by
    have:=List.filter_eq_nil_iff.1 h e he
    simpa using this
  generalize (es.filter fun e=>!seen.contains e.born)=L at hmem hall ⊢
  have e1 : Array.filter (fun x=>decide (x.born<c)) (L.map (ME.en f)).toArray=(L.map (ME.en f)).toArray:=Array.filter_eq_self.2 fun x hx=>by
    obtain ⟨e,he,rfl⟩:=List.mem_map.1 (by simpa using hx : x ∈ L.map (ME.en f))
    exact decide_eq_true (hf.lt e (hmem e he).1)
  have e2 : Array.filter (fun x=>decide (x.born ≥ c)) (L.map (ME.en f)).toArray=#[]:=by
    rw [Array.filter_eq_empty_iff]
    intro x hx
    obtain ⟨e,he,rfl⟩:=List.mem_map.1 (by simpa using hx : x ∈ L.map (ME.en f))
    have:=hf.lt e (hmem e he).1
    simp only [decide_eq_true_eq]
    show ¬ e.born ≥ c
    omega
  simp only [e1,e2,Array.append_empty]
  cases L with
  | nil=>
    left
    refine ⟨hall rfl,?_⟩
    simp [choose,Sem.run,Question.forced]
  | cons e0 L=>
    right
    have hne : ((e0::L).map (ME.en f)).toArray.isEmpty=false:=by simp
    simp only [hne,Bool.false_eq_true,if_false,Array.empty_append,Array.size_map]
    have hsz : ((e0::L).map (ME.en f)).toArray.size=(e0::L).length:=by simp
    rw [hsz]
    have hch : ∃ (j : Nat) (dr : Nat),j<(e0::L).length∧(choose (Question.mapNext (e0::L).length)).run P w=.ok j { w with drawn:=dr }:=by
      by_cases hf : (e0::L).length≤1
      · exact ⟨0,w.drawn,by simp,by simp only [choose,Sem.run,Question.forced,hf,decide_true,if_true]⟩
      · exact ⟨_,w.drawn+1,Nat.mod_lt _ (by simp),by
          simp only [choose,Sem.run,Question.forced,decide_eq_true_eq,hf,if_false,Question.cut]
          rfl⟩
    obtain ⟨j,dr,hj,hrun⟩:=hch
    refine ⟨(e0::L)[j],(hmem _ (List.getElem_mem hj)).1,(hmem _ (List.getElem_mem hj)).2,dr,?_⟩
    have hset : ∀ o',(setObj r o').run P { w with drawn:=dr }=.ok () { w with drawn:=dr,heap:=w.heap.setIfInBounds r o' }:=fun o'=>by
      simp [setObj,Sem.run,hr]
    have hjj : ((e0::L).map (ME.en f)).toArray[j]?=some ((e0::L)[j].en f):=by
      rw [List.getElem?_toArray,List.getElem?_map,List.getElem?_eq_getElem hj];rfl
    simp only [hrun,Array.getElem?_map,hjj,Option.map_some,Result.andThen_ok,Sem.run_bind,hset,Sem.run_pure]
    congr 3
    simp [ME.en]
theorem JL.mapNext {seen : List Nat} (hf : WF es c) (hx : ev E x=some (Pt r 0)) (hb : Has M b (MB f es c) wr) {Mf : List Nat→List ai} (hu : ∀ s',lE M r (IB b c seen c) (IB b c s' c) (Mf s')) (hd : Nat.blt d n=true)
    (k1 : (∀ e ∈ es,e.born ∈ seen)→JL P n w0 S ops Q l ((d,.tuple #[.bool false])::E) M)
    (k2 : ∀ e ∈ es,e.born ∉ seen→JL P n w0 S ops Q l ((d,.tuple #[.bool true,Z e.key,f e.val])::E) (Mf (seen++[e.born]))) : JL P n w0 S ops Q (⟨some d,.next x false,ty,pos,aft,none⟩::l) E M:=by
  refine ⟨fun a w ha hw=>wpList_plain rfl fun K hK=>?_⟩
  obtain ⟨o,ho,rfl⟩:=hw.get hb
  obtain ⟨o2,ho2,rfl⟩:=hw.get (hu seen).has
  have hlt:=(Array.getElem?_eq_some_iff.1 ho2).1
  rcases xy (P:=P) (ty:=ty) hf ho ho2 with ⟨h1,h2⟩ | ⟨e,he,hne,dr,h2⟩
  · unfold Oper.wp
    simp only [execOp,ha.eval hx,Sem.run_bind,h2,Result.andThen_ok]
    exact hK _ _ ((k1 h1).go _ _ (ha.put d _ hd) hw)
  · unfold Oper.wp
    simp only [execOp,ha.eval hx,Sem.run_bind,h2,Result.andThen_ok]
    refine hK _ _ ((k2 e he hne).go _ _ (ha.put d _ hd) (hw.write (hu _) (o':=.mapIter (some b) c (seen++[e.born]).toArray c) rfl ?_ ?_ ?_ rfl rfl rfl))
    · simp [hlt]
    · simp
    · intro k hk
      simp [Array.getElem?_setIfInBounds,Ne.symm hk]
theorem OQ.entry {seen : List Nat} {m : ME α} {wr' : Bool} (hf : WF es c) (hx : ev E x=some (Pt r 0)) (hb : Has M b (MB f es c) wr) (hi : Has M r (IB b c (seen++[m.born]) c) wr') (hm : m ∈ es) :
    OQ P n E (Holds w0 S M) ⟨dst,.entry x,ty,pos,aft,g⟩ (.tuple #[Z m.key,f m.val]):=
  OQ.run fun a ha w hw=>by
    have h1:=ha.eval hx
    obtain ⟨o,ho,rfl⟩:=hw.get hb
    obtain ⟨o2,ho2,rfl⟩:=hw.get hi
    have hg : (getObj r).run P w=.ok (.mapIter (some b) c (seen++[m.born]).toArray c) w:=by simp [getObj,Sem.run,ho2]
    have hfd : (es.map (ME.en f)).toArray.find? (·.born == (m.en f).born)=some (m.en f):=by
      rw [← Array.find?_toList]
      exact find_born (m.en f) (es.map (ME.en f)) (by rw [List.map_map];exact hf.qI) (List.mem_map_of_mem hm)
    have hbk : (seen++[m.born]).toArray.back?=some (m.en f).born:=by simp [ME.en]
    simp only [execOp,h1,Instr.entry,Sem.run_bind,hg,Result.andThen_ok,hbk,mG ho,bne_self_eq_false,Bool.false_eq_true,if_false,hfd,Sem.run_pure]
    rfl
end
end
section
set_option maxRecDepth 10000
open Sl cY dy fI
structure aM where
  key : Bk
  s : aC
  gone : Bool
def aM.cs (p : aM) : List Value:=[Z p.key,p.s.v,.bool p.gone]
def aM.p (p : aM) : Pq:=⟨p.key,p.s.l,p.gone⟩
theorem jK : dH Tryz.prog 78=some 3:=by kernel_rfl
theorem gX : jX Tryz.prog 78=true:=by kernel_rfl
theorem Cg : zc Tryz.prog 78=some [Z [],.slice none 0 0,.bool false]:=by kernel_rfl
theorem AK : EI Tryz.prog 78 (.agg #[Z [],.slice none 0 0,.bool false]) 3 48:=by unfold EI;kernel_rfl
theorem aM.one (p : aM) : p.cs.all Value.oneCell'=true:=by simp [aM.cs,Value.oneCell',aC.v]
section
variable {P : Program} {n : Nat} {E : Env} {C : World→Prop} {dst : Option Tmp} {t ty e : TypeId} {pos : String} {aft : Array Edge} {g : Option (Nat × Bool)} {x y x1 x2 x3 : Operand} {s : aC} {m : Nat} {k : IntKind}
theorem OQ.Bw {key : Bk} {b : Bool} (h1 : ev E x1=some (Z key)) (h2 : ev E x2=some s.v) (h3 : ev E x3=some (.bool b)) :
    OQ Tryz.prog n E C ⟨dst,.build 78 #[(0,x1),(1,x2),(2,x3)],ty,pos,aft,g⟩ (.agg #[Z key,s.v,.bool b]):=
  OQ.run fun a ha w _=>by
    have e1:=ha.eval h1
    have e2:=ha.eval h2
    have e3:=ha.eval h3
    have r:=run_build (P:=Tryz.prog) w 78 #[(0,Z key),(1,s.v),(2,.bool b)] #[Z key,s.v,.bool b] (by kernel_rfl)
    simp [execOp,e1,e2,e3,r]
theorem OQ.By (hu : P.underlying t=some (.slice e)) (hz : dH P e=some 1) (hx : ev E x=some s.v) (hh : ev E y=some (.int k (m : Int))) (h : m≤s.l.length) (hc : s.l.length≤s.cap) :
    OQ P n E C ⟨dst,.slice t x none (some y) none,ty,pos,aft,g⟩ (s.fst m).v:=
  OQ.to (OQ.run fun a ha w _=>by
    have h1:=ha.eval hx
    have h2:=ha.eval hh
    have h3 : (underlying t).run P w=.ok (.slice e) w:=run_underlying hu w
    have h4 : m≤s.cap:=Nat.le_trans h hc
    simp [execOp,h1,h2,aC.v,Instr.sliceAt,Sem.run_bind,h3,Instr.slice,Instr.sliceBounds,Instr.sliceBound,asIntOf,h4,aQ hz]) (aC.Av s m h)
theorem OQ.zx (hu : P.underlying t=some (.slice e)) (hz : dH P e=some 1) (hx : ev E x=some s.v) (hl : ev E y=some (.int k (m : Int))) (h : m≤s.l.length) :
    OQ P n E C ⟨dst,.slice t x (some y) none none,ty,pos,aft,g⟩ (s.snd m).v:=
  OQ.to (OQ.run fun a ha w _=>by
    have h1:=ha.eval hx
    have h2:=ha.eval hl
    have h3 : (underlying t).run P w=.ok (.slice e) w:=run_underlying hu w
    simp [execOp,h1,h2,aC.v,Instr.sliceAt,Sem.run_bind,h3,Instr.slice,Instr.sliceBounds,Instr.sliceBound,asIntOf,h,aQ hz]) (aC.Aw s m)
end
theorem je : aL Tryz.prog 84:=⟨_,Tryz.func84,rfl,by kernel_rfl⟩
theorem zy (p : Pq) : jU p=(decide ((1 : Int)≤(p.key.length : Int)) && (decide ((p.key.length : Int)≤1000) && !(p.gone && decide ((0 : Int)<(p.val.length : Int))))):=by
  unfold jU
  have h1 : decide ((1 : Int)≤(p.key.length : Int))=decide (1≤p.key.length):=decide_eq_decide.2 (by omega)
  have h2 : decide ((p.key.length : Int)≤1000)=decide (p.key.length≤1000):=decide_eq_decide.2 (by omega)
  have h3 : decide ((0 : Int)<(p.val.length : Int))=decide (0<p.val.length):=decide_eq_decide.2 (by omega)
  rw [h1,h2,h3]
set_option maxHeartbeats 8000000 in
theorem oo (p : aM) (w : World) : Calls Tryz.prog 84 [.agg p.cs.toArray].toArray w fun e w'=>e=.returned (.bool (jU p.p))∧Ext w w':=by
  refine enter (n:=24) Tryz.func84 rfl rfl rfl (Holds.start w []) ?_
  obtain ⟨key,s,gone⟩:=p
  obtain ⟨c1,g1⟩ : ∃ c,decide ((1 : Int)≤(key.length : Int))=c:=⟨_,rfl⟩
  obtain ⟨c2,g2⟩ : ∃ c,decide ((key.length : Int)≤1000)=c:=⟨_,rfl⟩
  obtain ⟨c3,g3⟩ : ∃ c,decide ((0 : Int)<(s.l.length : Int))=c:=⟨_,rfl⟩
  have e : jU (aM.p ⟨key,s,gone⟩)=(c1 && (c2 && !(gone && c3))):=by rw [zy,← g1,← g2,← g3];rfl
  rw [e]
  repeat (first | refine JC.seq ?_ | refine JC.region ?_)
  refine JL.box (r:=[Z key,s.v,.bool gone]) rfl rfl rfl fun b1 _=>?_
  cases c1 <;> cases c2 <;> cases gone <;> cases c3
  all_goals (
    repeat (first | refine JL.q (by first|(apply OQ.load;exact eE;rfl;exact .here;exact (Row.cell (v:=Z key) rfl))|(apply OQ.lQ;exact Tryz.underlying9;rfl)|(apply OQ.ee (b:=1);rfl;rfl;exact g1)|(apply OQ.lR (b:=1000);rfl;rfl;exact g2)|(apply OQ.load;exact gL;rfl;exact .here;exact (Row.cell (v:=.bool true) rfl))|(apply OQ.load;exact gL;rfl;exact .here;exact (Row.cell (v:=.bool false) rfl))|(apply OQ.load;exact qB;rfl;exact .here;exact (Row.cell (v:=s.v) rfl))|(apply OQ.len (k:=s.l.length) (ad:=s.ad) (cap:=s.cap);exact Tryz.underlying24;rfl)|(apply OQ.cD (b:=0);rfl;rfl;exact g3)|(apply OQ.aS;rfl;rfl)|(apply OQ.aJ;rfl;rfl)|(apply OQ.not;rfl)|(apply OQ.move;rfl)|(apply OQ.assign;rfl)|(apply OQ.aV;rfl;rfl;rfl;exact (by decide);rfl)) rfl ?_ | refine JC.seq ?_ | refine JC.region ?_ | refine JL.nil ?_ | refine JE.next ?_ | refine JL.aB rfl rfl ?_ | refine JL.bC rfl rfl rfl rfl ?_ | refine JL.gF rfl rfl rfl rfl ?_)
    exact JC.ret (JE.aR rfl (RV.tmp rfl) fun w' hw=>⟨rfl,hw.bf⟩))
theorem vi : aL Tryz.prog 85:=⟨_,Tryz.func85,rfl,by kernel_rfl⟩
section
variable {n : Nat} {w0 : World} {S : List Nat} {ops : Array Oper} {Q : Exit→Act→World→Prop} {l : List Oper} {E : Env} {M : List ai}
variable {d : Nat} {ty : TypeId} {pos : String} {aft : Array Edge} {x1 x2 x3 : Operand} {ats : Array TypeId}
theorem JL.uh {q : Acc} {xs : Bk} {m size : Nat} (h0 : 0<size) (h4 : size≤8) (hm : m<4294967296) (hq : q=none→xs=[]) (hl : xs.length≤70000000000000) (e1 : ev E x1=some (ah q xs.length)) (e2 : ev E x2=some (gA (BitVec.ofNat 64 m))) (e3 : ev E x3=some (N size)) (hd : Nat.blt d n=true)
    (kk : ∀ r : Nat × Nat,JL Tryz.prog n w0 S ops Q l ((d,ah (some r) (xs++be (BitVec.ofNat 32 m) size).length)::E) (aa 5 (some r) ((xs++be (BitVec.ofNat 32 m) size).map U8)++M)) : JL Tryz.prog n w0 S ops Q (⟨some d,.call ⟨.value (.func 62),#[x1,x2,x3],ats⟩,ty,pos,aft,none⟩::l) E (aa 5 q (xs.map U8)++M):=
  JL.r9 h0 h4 hq hl e1 e2 e3 hd (wN hm size ▸ kk)
end
set_option maxHeartbeats 16000000 in
theorem xz (q : Acc) (xs : Bk) (p : aM) (hq : q=none→xs=[]) (hl : xs.length≤60000000000000) (hok : jU p.p=true) (hv : p.s.l.length<4294967296) (w : World) (hs : p.s.ok w) (hap : gw p.s (keys (aa 5 q (xs.map U8)))) (hw : Holds w (keys (aa 5 q (xs.map U8))) (aa 5 q (xs.map U8)) w) :
    Calls Tryz.prog 85 [ah q xs.length,.agg p.cs.toArray].toArray w fun e w'=>∃ r : Nat × Nat,e=.returned (ah (some r) (xs++gR p.p).length)∧Holds w (keys (aa 5 q (xs.map U8))) (aa 5 (some r) ((xs++gR p.p).map U8)) w':=by
  generalize keys (aa 5 q (xs.map U8))=S at hw hap ⊢
  obtain ⟨key,s,gone⟩:=p
  have hk:=ij hok
  dsimp only [aM.p] at hk hv hs hap hok ⊢
  refine enter (n:=32) Tryz.func85 rfl rfl rfl hw ?_
  repeat (first | refine JC.seq ?_ | refine JC.region ?_)
  refine JL.box (r:=[Z key,s.v,.bool gone]) rfl rfl rfl fun b3 _=>?_
  repeat (first | refine JL.q (by first|(apply OQ.load;exact gL;rfl;exact .here;exact (Row.cell (v:=.bool gone) rfl))|(apply OQ.assign;rfl)|(apply OQ.aV;rfl;rfl;rfl;exact (by decide);rfl)) rfl ?_ | refine JC.seq ?_ | refine JC.region ?_ | refine JL.nil ?_ | refine JE.next ?_)
  refine JC.join (ι:=Unit) (fun _=>[(0,ah q xs.length),(3,Pt b3 0),(5,U8 (if gone then 1#8 else 0#8))]) (fun _=>aa 5 q (xs.map U8)++[⟨b3,Row 78 [Z key,s.v,.bool gone],true⟩]) (fun _=>True) ?_ fun _ _=>?_
  · refine JC.cond rfl (fun hc=>?_) (fun hc=>?_)
    · subst hc
      repeat (first | refine JL.q (by (apply OQ.assign;rfl)) rfl ?_ | refine JC.region ?_ | refine JL.nil ?_)
      exact JE.perm (List.perm_append_comm (l₁:=[_])) (JE.mid () trivial (by repeat (first | exact ag.nil | refine ag.cons _ _ _ rfl ?_)) (aj.refl _))
    · subst hc
      repeat (refine JC.skip ?_)
      exact JE.perm (List.perm_append_comm (l₁:=[_])) (JE.mid () trivial (by repeat (first | exact ag.nil | refine ag.cons _ _ _ rfl ?_)) (aj.refl _))
  have he : xs++gR ⟨key,s.l,gone⟩=xs++[if gone then 1#8 else 0#8]++be (BitVec.ofNat 32 key.length) 2++key++be (BitVec.ofNat 32 s.l.length) 4++s.l:=by
    unfold gR
    simp [List.append_assoc]
  rw [he]
  generalize (if gone=true then 1#8 else 0#8)=sg
  repeat (first | refine JL.q (by (apply OQ.move;rfl)) rfl ?_ | refine JC.seq ?_ | refine JC.region ?_)
  refine JL.gu (v:=U8 sg) Tryz.underlying24 pJ rfl rfl rfl rfl fun b10 _=>?_
  refine JL.perm (M':=aa 5 q (xs.map U8)++[⟨b10,Row 5 [U8 sg],true⟩,⟨b3,Row 78 [Z key,s.v,.bool gone],true⟩]) ?_ (by exact List.perm_middle.symm)
  refine JL.bM (xs:=xs.map U8) (cs:=[U8 sg]) (m:=1) (ad:=some ⟨b10,0,none⟩) (sc:=1) q Tryz.underlying24 pJ (fun e=>by rw [hq e];rfl) (by rw [List.length_map];rfl) rfl rfl (fun w' hw'=>?_) (by simp [Value.oneCell']) rfl (by rw [List.length_map];omega) (by rw [List.length_map];omega) rfl fun q1 hq1=>?_
  · obtain ⟨o,ho,hA⟩:=hw'.get (b:=b10) (A:=Row 5 [U8 sg]) (wr:=true) (aG .here)
    exact Reads.block ho (Row.all o hA)
  cases q1 with
  | none=>exact absurd (hq1 rfl) (by simp)
  | some r1=>
  clear hq1
  rw [show xs.map U8++[U8 sg]=(xs++[sg]).map U8 by simp,List.length_map]
  have l1 : (xs++[sg]).length=xs.length+1:=by simp
  generalize xs++[sg]=y1 at l1
  repeat (first | refine JL.q (by first|(apply OQ.load;exact eE;rfl;exact (aG (N:=aa 5 (some r1) (y1.map U8)) (.there .here));exact (Row.cell (v:=Z key) rfl))|(apply OQ.lQ;exact Tryz.underlying9;rfl)|(apply OQ.fq;exact Tryz.underlying3;exact Tryz.underlying90;rfl)|(apply OQ.move;rfl)|(apply OQ.assign;rfl)|(apply OQ.aV;rfl;rfl;rfl;exact (by decide);rfl)) rfl ?_ | refine JC.seq ?_ | refine JC.region ?_ | refine JL.nil ?_ | refine JE.next ?_)
  refine JL.uh (q:=some r1) (xs:=y1) (m:=key.length) (size:=2) (by decide) (by decide) (by omega) nofun (by omega) rfl rfl rfl rfl fun r2=>?_
  have l2 : (y1++be (BitVec.ofNat 32 key.length) 2).length=xs.length+3:=by rw [List.length_append,bw,l1]
  generalize y1++be (BitVec.ofNat 32 key.length) 2=y2 at l2
  repeat (first | refine JL.q (by first|(apply OQ.load;exact eE;rfl;exact (aG (N:=aa 5 (some r2) (y2.map U8)) (.there .here));exact (Row.cell (v:=Z key) rfl))|(apply OQ.move;rfl)|(apply OQ.assign;rfl)|(apply OQ.aV;rfl;rfl;rfl;exact (by decide);rfl)) rfl ?_ | refine JC.seq ?_ | refine JC.region ?_ | refine JL.nil ?_ | refine JE.next ?_)
  refine JL.yR (r:=key) (xs:=y2.map U8) (some r2) Tryz.underlying24 Tryz.underlying9 pJ nofun (by rw [List.length_map];rfl) rfl (fun e=>by rw [e] at hk;simp at hk) (by rw [List.length_map];omega) rfl fun r3=>?_
  rw [← List.map_append,List.length_map]
  have l3 : (y2++key).length=xs.length+3+key.length:=by rw [List.length_append,l2]
  generalize y2++key=y3 at l3
  repeat (first | refine JL.q (by first|(apply OQ.load;exact qB;rfl;exact (aG (N:=aa 5 (some r3) (y3.map U8)) (.there .here));exact (Row.cell (v:=s.v) rfl))|(apply OQ.len (k:=s.l.length) (ad:=s.ad) (cap:=s.cap);exact Tryz.underlying24;rfl)|(apply OQ.fq;exact Tryz.underlying3;exact Tryz.underlying90;rfl)|(apply OQ.move;rfl)|(apply OQ.assign;rfl)|(apply OQ.aV;rfl;rfl;rfl;exact (by decide);rfl)) rfl ?_ | refine JC.seq ?_ | refine JC.region ?_ | refine JL.nil ?_ | refine JE.next ?_)
  refine JL.uh (q:=some r3) (xs:=y3) (m:=s.l.length) (size:=4) (by decide) (by decide) hv nofun (by omega) rfl rfl rfl rfl fun r4=>?_
  have l4 : (y3++be (BitVec.ofNat 32 s.l.length) 4).length=xs.length+7+key.length:=by rw [List.length_append,bw,l3];omega
  generalize y3++be (BitVec.ofNat 32 s.l.length) 4=y4 at l4
  repeat (first | refine JL.q (by first|(apply OQ.load;exact qB;rfl;exact (aG (N:=aa 5 (some r4) (y4.map U8)) (.there .here));exact (Row.cell (v:=s.v) rfl))|(apply OQ.move;rfl)|(apply OQ.assign;rfl)|(apply OQ.aV;rfl;rfl;rfl;exact (by decide);rfl)) rfl ?_ | refine JC.seq ?_ | refine JC.region ?_ | refine JL.nil ?_ | refine JE.next ?_)
  refine JL.bM (xs:=y4.map U8) (cs:=s.l.map U8) (m:=s.l.length) (ad:=s.ad) (sc:=s.cap) (some r4) Tryz.underlying24 pJ nofun (by rw [List.length_map];rfl) rfl (by simp) (fun w' hw'=>(hs.iY hw' hap).reads) (p6 _) rfl (by rw [List.length_map];omega) (by rw [List.length_map];omega) rfl fun q5 hq5=>?_
  cases q5 with
  | none=>
    have:=congrArg List.length (List.append_eq_nil_iff.1 (hq5 rfl)).1
    rw [List.length_map,List.length_nil] at this
    omega
  | some r5=>
  clear hq5
  rw [← List.map_append,List.length_map]
  repeat (first | refine JL.q (by (apply OQ.assign;rfl)) rfl ?_ | refine JL.nil ?_ | refine JE.next ?_)
  exact JC.ret (JE.aR rfl (RV.tmp rfl) fun w' hw=>⟨r5,rfl,hw.weak (ax _ _)⟩)
theorem jL : aL Tryz.prog 121:=⟨_,Tryz.func121,rfl,by kernel_rfl⟩
def nw (s : aC) (size : Nat) : Value:=match jH s.l size with
  | none=>.tuple #[.slice none 0 0,.slice none 0 0,.bool false]
  | some (k,_)=>.tuple #[((s.snd size).fst k.length).v,((s.snd size).snd k.length).v,.bool true]
set_option maxHeartbeats 8000000 in
theorem kP (s : aC) (size : Nat) (h4 : size≤4) (w : World) (hs : s.ok w) (hl : s.l.length<9223372036854775808) : Calls Tryz.prog 121 [s.v,N size].toArray w fun e w'=>e=.returned (nw s size)∧Ext w w':=by
  refine enter (n:=30) Tryz.func121 rfl rfl rfl (Holds.start w []) ?_
  cases g1 : decide ((s.l.length : Int)<(size : Int))
  case true=>
    have e : nw s size=.tuple #[.slice none 0 0,.slice none 0 0,.bool false]:=by unfold nw jH;rw [if_pos (by have:=of_decide_eq_true g1;omega)]
    rw [e]
    repeat (first | refine JL.q (by first|(apply OQ.len (k:=s.l.length) (ad:=s.ad) (cap:=s.cap);exact Tryz.underlying24;rfl)|(apply OQ.gv;rfl;rfl;exact g1)|(apply OQ.move;rfl)|(apply OQ.assign;rfl)) rfl ?_ | refine JC.seq ?_ | refine JC.region ?_ | refine JL.nil ?_ | refine JE.next ?_)
    refine JC.cond_true rfl rfl ?_
    repeat (first | refine JL.q (by (apply OQ.assign;rfl)) rfl ?_ | refine JC.seq ?_ | refine JC.region ?_ | refine JL.nil ?_ | refine JE.next ?_)
    refine JC.ret ?_
    repeat (refine JE.aA ?_)
    exact JE.kV rfl (RV.tmp rfl) (RV.tmp rfl) (RV.tmp rfl) fun w' hw=>⟨rfl,hw.bf⟩
  have hsz : size≤s.l.length:=by have:=of_decide_eq_false g1;omega
  have hc:=hs.len
  have lf : (s.fst size).l.length=size:=by show (s.l.take size).length=_;rw [List.length_take];omega
  have ls : (s.snd size).l.length=s.l.length - size:=by show (s.l.drop size).length=_;rw [List.length_drop]
  have cN:=fun w' (ok : s.ok w')=>c6 (s.fst size) w' (ok.fst size) (by rw [lf];omega)
  have hn : (dR (s.fst size).l).toNat=fy (s.l.take size):=eW (by rw [lf];omega)
  have hlt : fy (s.l.take size)<4294967296:=by
    have h1:=tQ (l:=s.l.take size) (by rw [List.length_take];omega)
    have : 256 ^ (s.l.take size).length≤256 ^ 4:=Nat.pow_le_pow_right (by decide) (by rw [List.length_take];omega)
    omega
  have hcd : jH s.l size=if (s.l.drop size).length<fy (s.l.take size) then none else some ((s.l.drop size).take (fy (s.l.take size)),(s.l.drop size).drop (fy (s.l.take size))):=by unfold jH;rw [if_neg (by omega)]
  generalize fy (s.l.take size)=k at hn hlt hcd
  have hvv : gA (dR (s.fst size).l)=.int .u64 (k : Int):=by show Value.int .u64 _=_;rw [hn]
  rw [hvv] at cN
  repeat (first | refine JL.q (by first|(apply OQ.len (k:=s.l.length) (ad:=s.ad) (cap:=s.cap);exact Tryz.underlying24;rfl)|(apply OQ.gv;rfl;rfl;exact g1)|(apply OQ.move;rfl)|(apply OQ.assign;rfl)) rfl ?_ | refine JC.seq ?_ | refine JC.region ?_ | refine JL.nil ?_ | refine JE.next ?_)
  refine JC.cond_false rfl rfl ?_
  repeat (first | refine JC.seq ?_ | refine JC.skip ?_ | refine JE.next ?_)
  refine JC.quiet bZ (by kernel_rfl) ?_
  repeat (first | refine JL.q (by first|(apply OQ.By (s:=s) (m:=size);exact Tryz.underlying24;exact iD;rfl;rfl;exact hsz;exact hc)|(apply OQ.aF (vs:=[(s.fst size).v]);exact bW;rfl;exact (fun w' hw'=>cN w' (hs.holds hw' rfl)))|(apply OQ.zx (s:=s) (m:=size);exact Tryz.underlying24;exact iD;rfl;rfl;exact hsz)|(apply OQ.len (k:=(s.snd size).l.length) (ad:=(s.snd size).ad) (cap:=(s.snd size).cap);exact Tryz.underlying24;rfl)|(apply OQ.fq;exact Tryz.underlying3;exact Tryz.underlying90;rfl)|(apply OQ.move;rfl)|(apply OQ.assign;rfl)) rfl ?_ | refine JQ.q (by first|(apply OQ.By (s:=s) (m:=size);exact Tryz.underlying24;exact iD;rfl;rfl;exact hsz;exact hc)|(apply OQ.aF (vs:=[(s.fst size).v]);exact bW;rfl;exact (fun w' hw'=>cN w' (hs.holds hw' rfl)))|(apply OQ.zx (s:=s) (m:=size);exact Tryz.underlying24;exact iD;rfl;rfl;exact hsz)|(apply OQ.len (k:=(s.snd size).l.length) (ad:=(s.snd size).ad) (cap:=(s.snd size).cap);exact Tryz.underlying24;rfl)|(apply OQ.fq;exact Tryz.underlying3;exact Tryz.underlying90;rfl)|(apply OQ.move;rfl)|(apply OQ.assign;rfl)) rfl ?_ | refine JC.seq ?_ | refine JC.region ?_ | refine JQ.nil ?_ | refine JE.next ?_)
  have hw64 : ((BitVec.ofNat 64 (s.snd size).l.length).toNat : Int)=((s.snd size).l.length : Int):=by rw [BitVec.toNat_ofNat,ls];omega
  cases g2 : decide (((BitVec.ofNat 64 (s.snd size).l.length).toNat : Int)<(k : Int))
  case true=>
    have e : nw s size=.tuple #[.slice none 0 0,.slice none 0 0,.bool false]:=by
      unfold nw
      rw [hcd,if_pos (by have:=of_decide_eq_true g2;rw [hw64,ls] at this;rw [List.length_drop];omega)]
    rw [e]
    repeat (first | refine JL.q (by (apply OQ.cD;rfl;rfl;exact g2)) rfl ?_ | refine JL.nil ?_ | refine JE.next ?_)
    refine JC.cond_true rfl rfl ?_
    repeat (first | refine JL.q (by (apply OQ.assign;rfl)) rfl ?_ | refine JC.seq ?_ | refine JC.region ?_ | refine JL.nil ?_ | refine JE.next ?_)
    refine JC.ret ?_
    repeat (refine JE.aA ?_)
    exact JE.kV rfl (RV.tmp rfl) (RV.tmp rfl) (RV.tmp rfl) fun w' hw=>⟨rfl,hw.bf⟩
  have hk : k≤(s.snd size).l.length:=by have:=of_decide_eq_false g2;rw [hw64] at this;omega
  have e : nw s size=.tuple #[((s.snd size).fst k).v,((s.snd size).snd k).v,.bool true]:=by
    unfold nw
    rw [hcd,if_neg (by rw [ls] at hk;rw [List.length_drop];omega)]
    dsimp only
    rw [List.length_take,List.length_drop,Nat.min_eq_left (by rw [ls] at hk;exact hk)]
  rw [e]
  have hcs : (s.snd size).l.length≤(s.snd size).cap:=(hs.snd size hsz).len
  repeat (first | refine JL.q (by (apply OQ.cD;rfl;rfl;exact g2)) rfl ?_ | refine JL.nil ?_ | refine JE.next ?_)
  refine JC.cond_false rfl rfl ?_
  repeat (first | refine JC.seq ?_ | refine JC.skip ?_ | refine JE.next ?_)
  refine JC.quiet bZ (by kernel_rfl) ?_
  repeat (first | refine JQ.q (by first|(apply OQ.By (s:=s.snd size) (m:=k);exact Tryz.underlying24;exact iD;rfl;rfl;exact hk;exact hcs)|(apply OQ.zx (s:=s.snd size) (m:=k);exact Tryz.underlying24;exact iD;rfl;rfl;exact hk)|(apply OQ.move;rfl)|(apply OQ.assign;rfl)) rfl ?_ | refine JQ.nil ?_ | refine JE.next ?_)
  refine JC.ret ?_
  skip
  exact JE.kV rfl (RV.tmp rfl) (RV.tmp rfl) (RV.tmp rfl) fun w' hw=>⟨rfl,hw.bf⟩
theorem zA (s : aC) (w : World) (hs : s.ok w) (hl : s.l.length≤4294967296) : Calls Tryz.prog 65 [s.v].toArray w fun e w'=>∃ q : {q : Acc // q=none→s.l=[]},e=.returned (aI q.1 s.l).v∧Holds w [] (aa 5 q.1 (s.l.map U8)) w':=
  (od s w hs hl).mono fun e w' ⟨q,h1,h2,h3⟩=>⟨⟨q,h2⟩,by rw [iT];exact h1,h3⟩
theorem vj : aL Tryz.prog 86:=⟨_,Tryz.func86,rfl,by kernel_rfl⟩
structure Fz where
  key : Bk
  q : Acc
  v : Bk
  g : Bool
  r : aC
  there : Bool
def Fz.V (z : Fz) : Value:=.tuple #[.agg #[Z z.key,(aI z.q z.v).v,.bool z.g],z.r.v,.bool z.there]
structure Fz.ok (z : Fz) (s : aC) : Prop where
  q : z.q=none→z.v=[]
  t : kX s.l=if z.there then some (⟨z.key,z.v,z.g⟩,z.r.l) else none
  r : z.there=true→∀ w : World,s.ok w→z.r.ok w
theorem oq (s : aC) (m : Nat) : (s.snd m).l=s.l.drop m:=rfl
theorem CQ (s : aC) (m : Nat) : (s.fst m).l=s.l.take m:=rfl
theorem uj (s : aC) (size : Nat) : ∃ (k r : aC) (b : Bool),nw s size=.tuple #[k.v,r.v,.bool b]∧(jH s.l size=if b then some (k.l,r.l) else none)∧(∀ w : World,s.ok w→k.ok w∧r.ok w)∧k.l.length≤s.l.length∧r.l.length≤s.l.length:=by
  cases h : jH s.l size with
  | none=>exact ⟨bG,bG,false,by unfold nw;rw [h];rfl,rfl,fun w _=>⟨fO w,fO w⟩,Nat.zero_le _,Nat.zero_le _⟩
  | some kr=>
    obtain ⟨k,r⟩:=kr
    have h1:=mz h
    have e1 : s.l.drop size=k++r:=by
      have hs : size≤s.l.length:=by omega
      have h2:=h1.2
      have h3 : (s.l.take size).length=size:=by rw [List.length_take];omega
      rw [h2,List.append_assoc,List.drop_left' h3]
    have e2 : ((s.snd size).fst k.length).l=k:=by rw [CQ,oq,e1,List.take_left' rfl]
    have e3 : ((s.snd size).snd k.length).l=r:=by rw [oq,oq,e1,List.drop_left' rfl]
    refine ⟨(s.snd size).fst k.length,(s.snd size).snd k.length,true,by unfold nw;rw [h],by rw [e2,e3];rfl,fun w ok=>⟨(ok.snd size (by omega)).fst _,(ok.snd size (by omega)).snd _ (by rw [oq,e1,List.length_append];omega)⟩,by rw [e2];omega,by rw [e3];omega⟩
theorem BA (c : Bt) : decide ((c.toNat : Int)≤1)=decide (c.toNat≤1):=decide_eq_decide.2 (by omega)
set_option maxHeartbeats 32000000 in
theorem xA (s : aC) (w : World) (hs : s.ok w) (h0 : s.l≠[]) (hl : s.l.length≤4294967296) : Calls Tryz.prog 86 [s.v].toArray w fun e w'=>∃ z : {z : Fz // z.ok s},e=.returned z.1.V∧Holds w [] (aa 5 z.1.q (z.1.v.map U8)) w':=by
  have hpos : 0<s.l.length:=List.length_pos_iff.2 h0
  obtain ⟨ba,ja,hae,hca⟩:=hs.reads.at (by rw [List.length_map];exact hpos)
  have hca:=hca 0 _ (fL U8 0 hpos)
  have hsv : s.v=.slice (some ⟨ba,ja,none⟩) s.l.length s.cap:=by rw [← hae];rfl
  have hla : s.l=s.l.getD 0 0::s.l.drop 1:=by
    cases hll : s.l with
    | nil=>exact absurd hll h0
    | cons a t=>rfl
  generalize s.l.getD 0 0=c at hca hla
  refine enter (n:=47) Tryz.func86 rfl rfl rfl (Holds.start w []) ?_
  repeat (first | refine JC.seq ?_ | refine JC.region ?_)
  refine JL.alloc Cg rfl fun b2 _=>?_
  rw [hsv]
  repeat (first | refine JL.q (by first|(apply OQ.bD (i:=0);exact Tryz.underlying24;exact iD;rfl;rfl;exact hpos)|(apply OQ.bJ;exact A5;rfl;exact (block_lt_of_cell hca);exact (by simp);exact hca)|(apply OQ.move;rfl)|(apply OQ.assign;rfl)) rfl ?_ | refine JC.seq ?_ | refine JC.region ?_ | refine JL.nil ?_ | refine JE.next ?_)
  rw [← hsv]
  have ok1:=hs.snd 1 hpos
  obtain ⟨ks,r1,hk,ek,ck,okk1,lk,lr1⟩:=uj (s.snd 1) 2
  obtain ⟨vs8,r2,hv,ev,cv,okv1,lv,lr2⟩:=uj r1 4
  have okk:=(okk1 w ok1).1
  have okr1:=(okk1 w ok1).2
  have okv:=(okv1 w okr1).1
  have ls1 : (s.snd 1).l.length≤s.l.length:=by rw [oq,List.length_drop];omega
  have c1:=fun {w' : World} (ok : (s.snd 1).ok w')=>kP (s.snd 1) 2 (by decide) w' ok (by omega)
  have c2:=fun {w' : World} (ok : r1.ok w')=>kP r1 4 (by decide) w' ok (by omega)
  rw [ek] at c1
  rw [ev] at c2
  have hvl : vs8.l.length≤4294967296:=by omega
  repeat (first | refine JL.q (by first|(apply OQ.zx (s:=s) (m:=1);exact Tryz.underlying24;exact iD;rfl;rfl;exact hpos)|(apply OQ.aF (vs:=[(s.snd 1).v,N 2]);exact jL;rfl;exact (fun w' hw'=>c1 (ok1.holds hw' rfl)))|(apply OQ.aF (vs:=[r1.v,N 4]);exact jL;rfl;exact (fun w' hw'=>c2 (okr1.holds hw' rfl)))|(apply OQ.extract;rfl;rfl)|(apply OQ.move;rfl)|(apply OQ.assign;rfl)) rfl ?_ | refine JC.seq ?_ | refine JC.region ?_ | refine JL.nil ?_ | refine JE.next ?_)
  obtain ⟨g,hg⟩ : ∃ g,decide ((c.toNat : Int)=1)=g:=⟨_,rfl⟩
  have hg2 : decide (c.toNat=1)=g:=by rw [← hg];exact decide_eq_decide.2 (by omega)
  have ⟨rv,hRV⟩ : ∃ rv,r2.v=rv:=⟨_,rfl⟩
  rw [hRV]
  haveI : Inhabited {q : Acc // q=none→vs8.l=[]}:=⟨⟨some (0,0),nofun⟩⟩
  let vs : Nat→{q : Acc // q=none→vs8.l=[]}→Value:=fun j y=>match j with
    | 0=>ks.v
    | 1=>Z ks.l
    | 2=>vs8.v
    | 3=>(aI y.1 vs8.l).v
    | 4=>U8 c
    | 5=>.bool g
    | 6=>.agg #[Z ks.l,(aI y.1 vs8.l).v,.bool g]
    | _=>N 0
  let Ms : Nat→{q : Acc // q=none→vs8.l=[]}→List ai:=fun j y=>match j with
    | 3=>aa 5 y.1 (vs8.l.map U8)
    | 7=>[⟨b2,Row 78 [Z ks.l,(aI y.1 vs8.l).v,.bool g],true⟩]
    | 8=>[⟨b2,Row 78 [Z [],.slice none 0 0,.bool false],true⟩]
    | _=>[]
  refine JC.grow (g:=⟨[(0,s.v),(2,Pt b2 0),(3,rv),(5,U8 c),(6,ks.v),(7,.bool hk),(8,vs8.v),(9,.bool hv)],9,vs,Ms,(fun j=>match j with | 1=>[(0,26)] | 3=>[(2,28)] | 5=>[(4,30)] | 6=>[(1,27),(3,29),(5,31)] | 7=>[(6,32)] | _=>[]),(fun j=>match j with | 7=>[8] | _=>[]),(fun j=>match j with | 7=>[8] | _=>[]),(fun j=>match j with | 6=>some 3 | 7=>some 6 | _=>none)⟩) [] [7,3] bZ (by repeat (first | exact ag.nil | refine ag.cons _ _ _ rfl ?_)) ?_ (by kernel_rfl) (by kernel_rfl) (by kernel_rfl) ?_ ?_
  · exact aj.refl _
  · refine ⟨?_,?_,?_,?_,?_,?_,?_,?_,trivial⟩
    · (intro xx EF MF Q kk;(try refine JL.aB rfl rfl ?_);exact JL.q (OQ.move rfl) rfl (JL.nil (kk default nofun)))
    · (intro xx EF MF Q kk;(try refine JL.aB rfl rfl ?_);exact JL.q (OQ.ED (s:=ks) Tryz.underlying24 Tryz.underlying5 Tryz.underlying9 rfl (fun w' hw'=>okk.holds hw' rfl)) rfl (JL.nil (kk default nofun)))
    · (intro xx EF MF Q kk;(try refine JL.aB rfl rfl ?_);exact JL.q (OQ.move rfl) rfl (JL.nil (kk default nofun)))
    · (intro xx EF MF Q kk;exact JL.bA (ι:={q : Acc // q=none→vs8.l=[]}) (vs:=[vs8.v]) (fun q=>(aI q.1 vs8.l).v) (fun q=>aa 5 q.1 (vs8.l.map U8)) mw rfl rfl (fun _=>aP _ _ _) (fun w' hw'=>zA vs8 w' (okv.holds hw' rfl) hvl) fun q=>JL.nil (kk q nofun))
    · (intro xx EF MF Q kk;(try refine JL.aB rfl rfl ?_);exact JL.q (OQ.move rfl) rfl (JL.nil (kk default nofun)))
    · (intro xx EF MF Q kk;(try refine JL.aB rfl rfl ?_);exact JL.q (OQ.iC (a:=(c.toNat : Int)) (b:=1) rfl rfl hg) rfl (JL.nil (kk default nofun)))
    · (intro xx EF MF Q kk;exact JL.q (OQ.Bw rfl rfl rfl) rfl (JL.nil (kk (xx 3) (fun k h=>by cases h;rfl))))
    · (intro xx EF MF Q kk;exact JL.aq (cs:=[Z ks.l,(aI (xx 6).1 vs8.l).v,.bool g]) jK rfl rfl rfl (by simp [Value.oneCell',aC.v]) .here rfl (JL.nil (kk (xx 6) (fun k h=>by cases h;rfl))))
  · intro xx hx
    have e1:=hx 7 6 (by decide) rfl
    have e2:=hx 6 3 (by decide) rfl
    show JE _ _ _ _ _ [(0,s.v),(2,Pt b2 0),(3,rv),(5,U8 c),(6,ks.v),(7,.bool hk),(8,vs8.v),(9,.bool hv)] ([⟨b2,Row 78 [Z ks.l,(aI (xx 7).1 vs8.l).v,.bool g],true⟩]++(aa 5 (xx 3).1 (vs8.l.map U8)++[]))
    rw [e1,e2]
    generalize xx 3=q3
    clear hx e1 e2 xx vs Ms
    obtain ⟨q3,hq3⟩:=q3
    dsimp only
    refine JE.next ?_
    refine JC.seq ?_
    have hcp : (aI q3 vs8.l).l=vs8.l:=gI hq3
    obtain ⟨c5,g5⟩ : ∃ c5,decide ((c.toNat : Int)≤1)=c5:=⟨_,rfl⟩
    have g5' : decide (c.toNat≤1)=c5:=by rw [← BA];exact g5
    have cM:=fun (w' : World)=>oo ⟨ks.l,aI q3 vs8.l,g⟩ w'
    have eM : (aM.mk ks.l (aI q3 vs8.l) g).p=⟨ks.l,vs8.l,g⟩:=by show Pq.mk _ _ _=_;rw [hcp]
    rw [eM] at cM
    have hfs : kX s.l=if (hk && (hv && (c5 && jU ⟨ks.l,vs8.l,g⟩)))=true then some (⟨ks.l,vs8.l,g⟩,r2.l) else none:=by
      rw [hla,kX]
      rw [oq] at ck
      rw [ck]
      cases hk
      · rfl
      · simp only [if_true]
        rw [cv]
        cases hv
        · rfl
        · simp only [if_true,hg2]
          cases c5
          · rw [if_neg (fun hh=>by rw [decide_eq_true hh.1] at g5';cases g5')];rfl
          · cases hok : jU ⟨ks.l,vs8.l,g⟩
            · rw [if_neg (fun hh=>by cases hh.2)];rfl
            · rw [if_pos ⟨of_decide_eq_true g5',rfl⟩];rfl
    have hfin : ∀ there,there=(hk && (hv && (c5 && jU ⟨ks.l,vs8.l,g⟩)))→(Fz.mk ks.l q3 vs8.l g r2 there).ok s:=fun there ht=>⟨hq3,by rw [ht];exact hfs,fun _ w' ok=>(okv1 w' (okk1 w' (ok.snd 1 hpos)).2).2⟩
    have hfin:=hfin _ rfl
    generalize jU ⟨ks.l,vs8.l,g⟩=Cw at cM hfin
    clear hfs ck cv ek ev c1 c2
    cases hk
    · skip
      let vs : Nat→Unit→Value:=fun j y=>match j with
        | 0=>.agg (aM.mk ks.l (aI q3 vs8.l) g).cs.toArray
        | 1=>rv
        | 2=>.bool false
        | 3=>.bool false
        | 4=>undef
        | 5=>.bool false
        | 6=>.bool false
        | 7=>undef
        | 8=>undef
        | 9=>.bool false
        | 10=>.bool false
        | 11=>undef
        | 12=>undef
        | 13=>.bool false
        | 15=>rv
        | 16=>.bool false
        | _=>N 0
      let Ms : Nat→Unit→List ai:=fun j y=>match j with
        | 14=>[⟨b2,Row 78 (aM.mk ks.l (aI q3 vs8.l) g).cs,true⟩]
        | 17=>[⟨b2,Row 78 (aM.mk ks.l (aI q3 vs8.l) g).cs,true⟩]
        | 18=>aa 5 q3 (vs8.l.map U8)
        | _=>[]
      refine JC.pU (g:=⟨[(2,Pt b2 0),(5,U8 c),(7,.bool false),(9,.bool hv)],19,vs,Ms,(fun j=>match j with | 3=>[(2,35)] | 4=>[(3,36)] | 5=>[(3,36),(4,37)] | 6=>[(5,38)] | 7=>[(6,39)] | 8=>[(7,40),(6,39)] | 9=>[(6,39),(8,41)] | 10=>[(9,42)] | 11=>[(10,43)] | 12=>[(11,44),(10,43)] | 13=>[(10,43),(12,45)] | 14=>[(0,33)] | 15=>[(1,34)] | 16=>[(13,46)] | _=>[]),(fun j=>match j with | 0=>[17] | 14=>[17] | _=>[]),(fun j=>match j with | 14=>[17] | _=>[]),(fun j=>match j with | _=>none),(fun j=>match j with | 1=>[(3,rv)] | _=>[])⟩) [(15,3),(16,4)] [14,18] bZ (by repeat (first | exact ag.nil | refine ag.cons _ _ _ rfl ?_)) (fun i _=>by dsimp only;split <;> first | exact ag.nil | exact (by repeat (first | exact ag.nil | refine ag.cons _ _ _ rfl ?_))) ?_ (by kernel_rfl) (by kernel_rfl) (by kernel_rfl) ?_ ?_
      · exact aj.refl _
      · refine ⟨?_,?_,?_,?_,?_,?_,?_,?_,?_,?_,?_,?_,?_,?_,?_,?_,?_,trivial⟩
        · (intro xx EF MF Q kk;(try refine JL.aB rfl rfl ?_);exact JL.q (OQ.az (cs:=(aM.mk ks.l (aI q3 vs8.l) g).cs) gX jK rfl .here rfl Row.all) rfl (JL.nil (kk default nofun)))
        · (intro xx EF MF Q kk;(try refine JL.aB rfl rfl ?_);exact JL.q (OQ.move rfl) rfl (JL.nil (kk default nofun)))
        · (intro xx EF MF Q kk;(try refine JL.aB rfl rfl ?_);exact JL.q (OQ.move rfl) rfl (JL.nil (kk default nofun)))
        · (intro xx EF MF Q kk;(try refine JL.aB rfl rfl ?_);exact JL.q (OQ.move rfl) rfl (JL.nil (kk default nofun)))
        · (intro xx EF MF Q kk;exact JL.bC rfl rfl rfl rfl (JL.nil (kk default nofun)))
        · (intro xx EF MF Q kk;(try refine JL.aB rfl rfl ?_);exact JL.q (OQ.aJ rfl rfl) rfl (JL.nil (kk default nofun)))
        · (intro xx EF MF Q kk;(try refine JL.aB rfl rfl ?_);exact JL.q (OQ.move rfl) rfl (JL.nil (kk default nofun)))
        · (intro xx EF MF Q kk;exact JL.bC rfl rfl rfl rfl (JL.nil (kk default nofun)))
        · (intro xx EF MF Q kk;exact JL.bC rfl rfl rfl rfl (JL.nil (kk default nofun)))
        · (intro xx EF MF Q kk;(try refine JL.aB rfl rfl ?_);exact JL.q (OQ.aJ rfl rfl) rfl (JL.nil (kk default nofun)))
        · (intro xx EF MF Q kk;(try refine JL.aB rfl rfl ?_);exact JL.q (OQ.move rfl) rfl (JL.nil (kk default nofun)))
        · (intro xx EF MF Q kk;exact JL.bC rfl rfl rfl rfl (JL.nil (kk default nofun)))
        · (intro xx EF MF Q kk;exact JL.bC rfl rfl rfl rfl (JL.nil (kk default nofun)))
        · (intro xx EF MF Q kk;(try refine JL.aB rfl rfl ?_);exact JL.q (OQ.aJ rfl rfl) rfl (JL.nil (kk default nofun)))
        · (intro xx EF MF Q kk;exact JL.aq (cs:=(aM.mk ks.l (aI q3 vs8.l) g).cs) jK rfl rfl rfl (aM.one _) .here rfl (JL.nil (kk default nofun)))
        · (intro xx EF MF Q kk;(try refine JL.aB rfl rfl ?_);exact JL.q (OQ.assign rfl) rfl (JL.nil (kk default nofun)))
        · (intro xx EF MF Q kk;(try refine JL.aB rfl rfl ?_);exact JL.q (OQ.assign rfl) rfl (JL.nil (kk default nofun)))
      · intro xx hx
        show JE _ _ _ _ _ [(3,rv),(4,.bool false),(2,Pt b2 0),(5,U8 c),(7,.bool false),(9,.bool hv)] ([⟨b2,Row 78 (aM.mk ks.l (aI q3 vs8.l) g).cs,true⟩]++(aa 5 q3 (vs8.l.map U8)++[]))
        clear hx xx vs Ms
        refine JE.next ?_
        exact JC.ret (JE.kV rfl (RV.aT (cs:=(aM.mk ks.l (aI q3 vs8.l) g).cs) gX jK rfl .here rfl Row.all) (RV.tmp rfl) (RV.tmp rfl) fun w' hw=>⟨⟨_,hfin⟩,by rw [← hRV];rfl,(hw.weak (.drop _ _ _ (ax _ _)))⟩)
    · cases hv
      · skip
        let vs : Nat→Unit→Value:=fun j y=>match j with
          | 0=>.agg (aM.mk ks.l (aI q3 vs8.l) g).cs.toArray
          | 1=>rv
          | 2=>.bool true
          | 3=>.bool true
          | 4=>.bool false
          | 5=>.bool false
          | 6=>.bool false
          | 7=>undef
          | 8=>undef
          | 9=>.bool false
          | 10=>.bool false
          | 11=>undef
          | 12=>undef
          | 13=>.bool false
          | 15=>rv
          | 16=>.bool false
          | _=>N 0
        let Ms : Nat→Unit→List ai:=fun j y=>match j with
          | 14=>[⟨b2,Row 78 (aM.mk ks.l (aI q3 vs8.l) g).cs,true⟩]
          | 17=>[⟨b2,Row 78 (aM.mk ks.l (aI q3 vs8.l) g).cs,true⟩]
          | 18=>aa 5 q3 (vs8.l.map U8)
          | _=>[]
        refine JC.pU (g:=⟨[(2,Pt b2 0),(5,U8 c),(7,.bool true),(9,.bool false)],19,vs,Ms,(fun j=>match j with | 3=>[(2,35)] | 4=>[(3,36)] | 5=>[(3,36),(4,37)] | 6=>[(5,38)] | 7=>[(6,39)] | 8=>[(7,40),(6,39)] | 9=>[(6,39),(8,41)] | 10=>[(9,42)] | 11=>[(10,43)] | 12=>[(11,44),(10,43)] | 13=>[(10,43),(12,45)] | 14=>[(0,33)] | 15=>[(1,34)] | 16=>[(13,46)] | _=>[]),(fun j=>match j with | 0=>[17] | 14=>[17] | _=>[]),(fun j=>match j with | 14=>[17] | _=>[]),(fun j=>match j with | _=>none),(fun j=>match j with | 1=>[(3,rv)] | _=>[])⟩) [(15,3),(16,4)] [14,18] bZ (by repeat (first | exact ag.nil | refine ag.cons _ _ _ rfl ?_)) (fun i _=>by dsimp only;split <;> first | exact ag.nil | exact (by repeat (first | exact ag.nil | refine ag.cons _ _ _ rfl ?_))) ?_ (by kernel_rfl) (by kernel_rfl) (by kernel_rfl) ?_ ?_
        · exact aj.refl _
        · refine ⟨?_,?_,?_,?_,?_,?_,?_,?_,?_,?_,?_,?_,?_,?_,?_,?_,?_,trivial⟩
          · (intro xx EF MF Q kk;(try refine JL.aB rfl rfl ?_);exact JL.q (OQ.az (cs:=(aM.mk ks.l (aI q3 vs8.l) g).cs) gX jK rfl .here rfl Row.all) rfl (JL.nil (kk default nofun)))
          · (intro xx EF MF Q kk;(try refine JL.aB rfl rfl ?_);exact JL.q (OQ.move rfl) rfl (JL.nil (kk default nofun)))
          · (intro xx EF MF Q kk;(try refine JL.aB rfl rfl ?_);exact JL.q (OQ.move rfl) rfl (JL.nil (kk default nofun)))
          · (intro xx EF MF Q kk;(try refine JL.aB rfl rfl ?_);exact JL.q (OQ.move rfl) rfl (JL.nil (kk default nofun)))
          · (intro xx EF MF Q kk;(try refine JL.aB rfl rfl ?_);exact JL.q (OQ.move rfl) rfl (JL.nil (kk default nofun)))
          · (intro xx EF MF Q kk;(try refine JL.aB rfl rfl ?_);exact JL.q (OQ.aS rfl rfl) rfl (JL.nil (kk default nofun)))
          · (intro xx EF MF Q kk;(try refine JL.aB rfl rfl ?_);exact JL.q (OQ.move rfl) rfl (JL.nil (kk default nofun)))
          · (intro xx EF MF Q kk;exact JL.bC rfl rfl rfl rfl (JL.nil (kk default nofun)))
          · (intro xx EF MF Q kk;exact JL.bC rfl rfl rfl rfl (JL.nil (kk default nofun)))
          · (intro xx EF MF Q kk;(try refine JL.aB rfl rfl ?_);exact JL.q (OQ.aJ rfl rfl) rfl (JL.nil (kk default nofun)))
          · (intro xx EF MF Q kk;(try refine JL.aB rfl rfl ?_);exact JL.q (OQ.move rfl) rfl (JL.nil (kk default nofun)))
          · (intro xx EF MF Q kk;exact JL.bC rfl rfl rfl rfl (JL.nil (kk default nofun)))
          · (intro xx EF MF Q kk;exact JL.bC rfl rfl rfl rfl (JL.nil (kk default nofun)))
          · (intro xx EF MF Q kk;(try refine JL.aB rfl rfl ?_);exact JL.q (OQ.aJ rfl rfl) rfl (JL.nil (kk default nofun)))
          · (intro xx EF MF Q kk;exact JL.aq (cs:=(aM.mk ks.l (aI q3 vs8.l) g).cs) jK rfl rfl rfl (aM.one _) .here rfl (JL.nil (kk default nofun)))
          · (intro xx EF MF Q kk;(try refine JL.aB rfl rfl ?_);exact JL.q (OQ.assign rfl) rfl (JL.nil (kk default nofun)))
          · (intro xx EF MF Q kk;(try refine JL.aB rfl rfl ?_);exact JL.q (OQ.assign rfl) rfl (JL.nil (kk default nofun)))
        · intro xx hx
          show JE _ _ _ _ _ [(3,rv),(4,.bool false),(2,Pt b2 0),(5,U8 c),(7,.bool true),(9,.bool false)] ([⟨b2,Row 78 (aM.mk ks.l (aI q3 vs8.l) g).cs,true⟩]++(aa 5 q3 (vs8.l.map U8)++[]))
          clear hx xx vs Ms
          refine JE.next ?_
          exact JC.ret (JE.kV rfl (RV.aT (cs:=(aM.mk ks.l (aI q3 vs8.l) g).cs) gX jK rfl .here rfl Row.all) (RV.tmp rfl) (RV.tmp rfl) fun w' hw=>⟨⟨_,hfin⟩,by rw [← hRV];rfl,(hw.weak (.drop _ _ _ (ax _ _)))⟩)
      · cases c5
        · skip
          let vs : Nat→Unit→Value:=fun j y=>match j with
            | 0=>.agg (aM.mk ks.l (aI q3 vs8.l) g).cs.toArray
            | 1=>rv
            | 2=>.bool true
            | 3=>.bool true
            | 4=>.bool true
            | 5=>.bool true
            | 6=>.bool true
            | 7=>U8 c
            | 8=>.bool false
            | 9=>.bool false
            | 10=>.bool false
            | 11=>undef
            | 12=>undef
            | 13=>.bool false
            | 15=>rv
            | 16=>.bool false
            | _=>N 0
          let Ms : Nat→Unit→List ai:=fun j y=>match j with
            | 14=>[⟨b2,Row 78 (aM.mk ks.l (aI q3 vs8.l) g).cs,true⟩]
            | 17=>[⟨b2,Row 78 (aM.mk ks.l (aI q3 vs8.l) g).cs,true⟩]
            | 18=>aa 5 q3 (vs8.l.map U8)
            | _=>[]
          refine JC.pU (g:=⟨[(2,Pt b2 0),(5,U8 c),(7,.bool true),(9,.bool true)],19,vs,Ms,(fun j=>match j with | 3=>[(2,35)] | 4=>[(3,36)] | 5=>[(3,36),(4,37)] | 6=>[(5,38)] | 7=>[(6,39)] | 8=>[(7,40),(6,39)] | 9=>[(6,39),(8,41)] | 10=>[(9,42)] | 11=>[(10,43)] | 12=>[(11,44),(10,43)] | 13=>[(10,43),(12,45)] | 14=>[(0,33)] | 15=>[(1,34)] | 16=>[(13,46)] | _=>[]),(fun j=>match j with | 0=>[17] | 14=>[17] | _=>[]),(fun j=>match j with | 14=>[17] | _=>[]),(fun j=>match j with | _=>none),(fun j=>match j with | 1=>[(3,rv)] | _=>[])⟩) [(15,3),(16,4)] [14,18] bZ (by repeat (first | exact ag.nil | refine ag.cons _ _ _ rfl ?_)) (fun i _=>by dsimp only;split <;> first | exact ag.nil | exact (by repeat (first | exact ag.nil | refine ag.cons _ _ _ rfl ?_))) ?_ (by kernel_rfl) (by kernel_rfl) (by kernel_rfl) ?_ ?_
          · exact aj.refl _
          · refine ⟨?_,?_,?_,?_,?_,?_,?_,?_,?_,?_,?_,?_,?_,?_,?_,?_,?_,trivial⟩
            · (intro xx EF MF Q kk;(try refine JL.aB rfl rfl ?_);exact JL.q (OQ.az (cs:=(aM.mk ks.l (aI q3 vs8.l) g).cs) gX jK rfl .here rfl Row.all) rfl (JL.nil (kk default nofun)))
            · (intro xx EF MF Q kk;(try refine JL.aB rfl rfl ?_);exact JL.q (OQ.move rfl) rfl (JL.nil (kk default nofun)))
            · (intro xx EF MF Q kk;(try refine JL.aB rfl rfl ?_);exact JL.q (OQ.move rfl) rfl (JL.nil (kk default nofun)))
            · (intro xx EF MF Q kk;(try refine JL.aB rfl rfl ?_);exact JL.q (OQ.move rfl) rfl (JL.nil (kk default nofun)))
            · (intro xx EF MF Q kk;(try refine JL.aB rfl rfl ?_);exact JL.q (OQ.move rfl) rfl (JL.nil (kk default nofun)))
            · (intro xx EF MF Q kk;(try refine JL.aB rfl rfl ?_);exact JL.q (OQ.aS rfl rfl) rfl (JL.nil (kk default nofun)))
            · (intro xx EF MF Q kk;(try refine JL.aB rfl rfl ?_);exact JL.q (OQ.move rfl) rfl (JL.nil (kk default nofun)))
            · (intro xx EF MF Q kk;(try refine JL.aB rfl rfl ?_);exact JL.q (OQ.move rfl) rfl (JL.nil (kk default nofun)))
            · (intro xx EF MF Q kk;(try refine JL.aB rfl rfl ?_);exact JL.q (OQ.lR (a:=(c.toNat : Int)) (b:=1) rfl rfl g5) rfl (JL.nil (kk default nofun)))
            · (intro xx EF MF Q kk;(try refine JL.aB rfl rfl ?_);exact JL.q (OQ.aS rfl rfl) rfl (JL.nil (kk default nofun)))
            · (intro xx EF MF Q kk;(try refine JL.aB rfl rfl ?_);exact JL.q (OQ.move rfl) rfl (JL.nil (kk default nofun)))
            · (intro xx EF MF Q kk;exact JL.bC rfl rfl rfl rfl (JL.nil (kk default nofun)))
            · (intro xx EF MF Q kk;exact JL.bC rfl rfl rfl rfl (JL.nil (kk default nofun)))
            · (intro xx EF MF Q kk;(try refine JL.aB rfl rfl ?_);exact JL.q (OQ.aJ rfl rfl) rfl (JL.nil (kk default nofun)))
            · (intro xx EF MF Q kk;exact JL.aq (cs:=(aM.mk ks.l (aI q3 vs8.l) g).cs) jK rfl rfl rfl (aM.one _) .here rfl (JL.nil (kk default nofun)))
            · (intro xx EF MF Q kk;(try refine JL.aB rfl rfl ?_);exact JL.q (OQ.assign rfl) rfl (JL.nil (kk default nofun)))
            · (intro xx EF MF Q kk;(try refine JL.aB rfl rfl ?_);exact JL.q (OQ.assign rfl) rfl (JL.nil (kk default nofun)))
          · intro xx hx
            show JE _ _ _ _ _ [(3,rv),(4,.bool false),(2,Pt b2 0),(5,U8 c),(7,.bool true),(9,.bool true)] ([⟨b2,Row 78 (aM.mk ks.l (aI q3 vs8.l) g).cs,true⟩]++(aa 5 q3 (vs8.l.map U8)++[]))
            clear hx xx vs Ms
            refine JE.next ?_
            exact JC.ret (JE.kV rfl (RV.aT (cs:=(aM.mk ks.l (aI q3 vs8.l) g).cs) gX jK rfl .here rfl Row.all) (RV.tmp rfl) (RV.tmp rfl) fun w' hw=>⟨⟨_,hfin⟩,by rw [← hRV];rfl,(hw.weak (.drop _ _ _ (ax _ _)))⟩)
        · skip
          let vs : Nat→Unit→Value:=fun j y=>match j with
            | 0=>.agg (aM.mk ks.l (aI q3 vs8.l) g).cs.toArray
            | 1=>rv
            | 2=>.bool true
            | 3=>.bool true
            | 4=>.bool true
            | 5=>.bool true
            | 6=>.bool true
            | 7=>U8 c
            | 8=>.bool true
            | 9=>.bool true
            | 10=>.bool true
            | 11=>.agg (aM.mk ks.l (aI q3 vs8.l) g).cs.toArray
            | 12=>.bool Cw
            | 13=>.bool Cw
            | 15=>rv
            | 16=>.bool Cw
            | _=>N 0
          let Ms : Nat→Unit→List ai:=fun j y=>match j with
            | 14=>[⟨b2,Row 78 (aM.mk ks.l (aI q3 vs8.l) g).cs,true⟩]
            | 17=>[⟨b2,Row 78 (aM.mk ks.l (aI q3 vs8.l) g).cs,true⟩]
            | 18=>aa 5 q3 (vs8.l.map U8)
            | _=>[]
          refine JC.pU (g:=⟨[(2,Pt b2 0),(5,U8 c),(7,.bool true),(9,.bool true)],19,vs,Ms,(fun j=>match j with | 3=>[(2,35)] | 4=>[(3,36)] | 5=>[(3,36),(4,37)] | 6=>[(5,38)] | 7=>[(6,39)] | 8=>[(7,40),(6,39)] | 9=>[(6,39),(8,41)] | 10=>[(9,42)] | 11=>[(10,43)] | 12=>[(11,44),(10,43)] | 13=>[(10,43),(12,45)] | 14=>[(0,33)] | 15=>[(1,34)] | 16=>[(13,46)] | _=>[]),(fun j=>match j with | 0=>[17] | 11=>[17] | 14=>[17] | _=>[]),(fun j=>match j with | 14=>[17] | _=>[]),(fun j=>match j with | _=>none),(fun j=>match j with | 1=>[(3,rv)] | _=>[])⟩) [(15,3),(16,4)] [14,18] bZ (by repeat (first | exact ag.nil | refine ag.cons _ _ _ rfl ?_)) (fun i _=>by dsimp only;split <;> first | exact ag.nil | exact (by repeat (first | exact ag.nil | refine ag.cons _ _ _ rfl ?_))) ?_ (by kernel_rfl) (by kernel_rfl) (by kernel_rfl) ?_ ?_
          · exact aj.refl _
          · refine ⟨?_,?_,?_,?_,?_,?_,?_,?_,?_,?_,?_,?_,?_,?_,?_,?_,?_,trivial⟩
            · (intro xx EF MF Q kk;(try refine JL.aB rfl rfl ?_);exact JL.q (OQ.az (cs:=(aM.mk ks.l (aI q3 vs8.l) g).cs) gX jK rfl .here rfl Row.all) rfl (JL.nil (kk default nofun)))
            · (intro xx EF MF Q kk;(try refine JL.aB rfl rfl ?_);exact JL.q (OQ.move rfl) rfl (JL.nil (kk default nofun)))
            · (intro xx EF MF Q kk;(try refine JL.aB rfl rfl ?_);exact JL.q (OQ.move rfl) rfl (JL.nil (kk default nofun)))
            · (intro xx EF MF Q kk;(try refine JL.aB rfl rfl ?_);exact JL.q (OQ.move rfl) rfl (JL.nil (kk default nofun)))
            · (intro xx EF MF Q kk;(try refine JL.aB rfl rfl ?_);exact JL.q (OQ.move rfl) rfl (JL.nil (kk default nofun)))
            · (intro xx EF MF Q kk;(try refine JL.aB rfl rfl ?_);exact JL.q (OQ.aS rfl rfl) rfl (JL.nil (kk default nofun)))
            · (intro xx EF MF Q kk;(try refine JL.aB rfl rfl ?_);exact JL.q (OQ.move rfl) rfl (JL.nil (kk default nofun)))
            · (intro xx EF MF Q kk;(try refine JL.aB rfl rfl ?_);exact JL.q (OQ.move rfl) rfl (JL.nil (kk default nofun)))
            · (intro xx EF MF Q kk;(try refine JL.aB rfl rfl ?_);exact JL.q (OQ.lR (a:=(c.toNat : Int)) (b:=1) rfl rfl g5) rfl (JL.nil (kk default nofun)))
            · (intro xx EF MF Q kk;(try refine JL.aB rfl rfl ?_);exact JL.q (OQ.aS rfl rfl) rfl (JL.nil (kk default nofun)))
            · (intro xx EF MF Q kk;(try refine JL.aB rfl rfl ?_);exact JL.q (OQ.move rfl) rfl (JL.nil (kk default nofun)))
            · (intro xx EF MF Q kk;(try refine JL.aB rfl rfl ?_);exact JL.q (OQ.az (cs:=(aM.mk ks.l (aI q3 vs8.l) g).cs) gX jK rfl .here rfl Row.all) rfl (JL.nil (kk default nofun)))
            · (intro xx EF MF Q kk;(try refine JL.aB rfl rfl ?_);exact JL.q (OQ.aF (vs:=[.agg (aM.mk ks.l (aI q3 vs8.l) g).cs.toArray]) je rfl (fun w' _=>cM w')) rfl (JL.nil (kk default nofun)))
            · (intro xx EF MF Q kk;(try refine JL.aB rfl rfl ?_);exact JL.q (OQ.aS rfl rfl) rfl (JL.nil (kk default nofun)))
            · (intro xx EF MF Q kk;exact JL.aq (cs:=(aM.mk ks.l (aI q3 vs8.l) g).cs) jK rfl rfl rfl (aM.one _) .here rfl (JL.nil (kk default nofun)))
            · (intro xx EF MF Q kk;(try refine JL.aB rfl rfl ?_);exact JL.q (OQ.assign rfl) rfl (JL.nil (kk default nofun)))
            · (intro xx EF MF Q kk;(try refine JL.aB rfl rfl ?_);exact JL.q (OQ.assign rfl) rfl (JL.nil (kk default nofun)))
          · intro xx hx
            show JE _ _ _ _ _ [(3,rv),(4,.bool Cw),(2,Pt b2 0),(5,U8 c),(7,.bool true),(9,.bool true)] ([⟨b2,Row 78 (aM.mk ks.l (aI q3 vs8.l) g).cs,true⟩]++(aa 5 q3 (vs8.l.map U8)++[]))
            clear hx xx vs Ms
            refine JE.next ?_
            exact JC.ret (JE.kV rfl (RV.aT (cs:=(aM.mk ks.l (aI q3 vs8.l) g).cs) gX jK rfl .here rfl Row.all) (RV.tmp rfl) (RV.tmp rfl) fun w' hw=>⟨⟨_,hfin⟩,by rw [← hRV];rfl,(hw.weak (.drop _ _ _ (ax _ _)))⟩)
end
section
set_option maxRecDepth 10000
open Sl cY dy fI
structure ez where
  ad : Option Addr
  cap : Nat
  l : List aM
def ez.v (s : ez) : Value:=.slice s.ad s.l.length s.cap
def ez.ps (s : ez) : List Pq:=s.l.map aM.p
structure ez.ok (w : World) (s : ez) : Prop where
  len : s.l.length≤s.cap
  reads : Reads w s.ad (s.l.map aM.cs).flatten
  all : ∀ p ∈ s.l,p.s.ok w
def BB : aM:=⟨[],bG,false⟩
theorem Ej (l : List aM) : ∀ c ∈ l.map aM.cs,c.length=3:=by
  intro c hc
  obtain ⟨d,_,rfl⟩:=List.mem_map.1 hc
  rfl
theorem ez.ok.at {w : World} {s : ez} (h : s.ok w) {i : Nat} (hi : i<s.l.length) : ∃ b j,s.ad=some ⟨b,j,none⟩∧b<w.heap.size∧∀ k u,((s.l.getD i BB).cs)[k]?=some u→w.cell? ⟨b,j+i * 3+k,none⟩=some u:=by
  have hl:=bH (Ej s.l)
  rw [List.length_map] at hl
  have h0 : 0<(s.l.map aM.cs).flatten.length:=by omega
  obtain ⟨b,j,e,hc⟩:=h.reads.at h0
  refine ⟨b,j,e,?_,fun k u hu=>?_⟩
  · obtain ⟨v,hv⟩ : ∃ v,(s.l.map aM.cs).flatten[0]?=some v:=⟨_,List.getElem?_eq_getElem h0⟩
    exact block_lt_of_cell (hc 0 v hv)
  · have hat:=fu (i:=i) (Ej s.l) (by rw [List.length_map];exact hi)
    have e2 : (s.l.map aM.cs).getD i []=(s.l.getD i BB).cs:=by simp [hi]
    rw [e2] at hat
    rw [← hat,List.getElem?_take] at hu
    split at hu
    · rw [List.getElem?_drop] at hu
      rw [Nat.add_assoc]
      exact hc _ u hu
    · cases hu
theorem ez.get_mem {s : ez} {i : Nat} (hi : i<s.l.length) : s.l.getD i BB ∈ s.l:=by
  rw [List.getD_eq_getElem?_getD,List.getElem?_eq_getElem hi]
  exact List.getElem_mem _
theorem ez.ok.holds {w0 w : World} {S : List Nat} {M : List ai} {s : ez} (h : s.ok w0) (hw : Holds w0 S M w) (hS : S=[]) : s.ok w:=⟨h.len,hw.reads h.reads (fun _ a _=>by rw [hS];simp),fun p hp=>(h.all p hp).holds hw hS⟩
structure jM (s : ez) (S : List Nat) : Prop where
  a : s.l≠[]→∀ a,s.ad=some a→a.block ∉ S
  all : ∀ p ∈ s.l,gw p.s S
theorem ez.ok.iY {w0 w : World} {S : List Nat} {M : List ai} {s : ez} (h : s.ok w0) (hw : Holds w0 S M w) (ha : jM s S) : s.ok w:=by
  refine ⟨h.len,hw.reads h.reads fun h0 a e=>ha.a (fun h1=>h0 (by rw [h1];rfl)) a e,fun p hp=>(h.all p hp).iY hw (ha.all p hp)⟩
theorem ez.CR {s : ez} {i : Nat} (hi : i<s.l.length) : s.ps.take (i+1)=s.ps.take i++[(s.l.getD i BB).p]:=by
  unfold ez.ps
  rw [List.take_add_one]
  simp [List.getD_eq_getElem?_getD,hi]
theorem kq : aL Tryz.prog 56:=⟨_,Tryz.func56,rfl,by kernel_rfl⟩
theorem vk (l : List Pq) (p : Pq) : aZ (l++[p])=aZ l++gR p:=by simp [aZ]
theorem zB {l : List Pq} (h : ∀ p ∈ l,p.key.length≤1000∧p.val.length≤4000000) : (aZ l).length≤l.length * 4001007:=by
  induction l with
  | nil=>simp [aZ]
  | cons p l ih=>
    have h1:=h p (by simp)
    have h2:=ih fun q hq=>h q (by simp [hq])
    have e : aZ (p::l)=gR p++aZ l:=rfl
    rw [e,List.length_append,qH,List.length_cons]
    omega
theorem xB {l : List Pq} {i : Nat} {p : Pq} (ht : l.take (i+1)=l.take i++[p]) (hp : jU p=false) : fV l=false:=by
  have hm : p ∈ l:=List.mem_of_mem_take (i:=i+1) (by rw [ht];simp)
  unfold fV
  rw [List.all_eq_false]
  exact ⟨p,hm,by rw [hp];simp⟩
set_option maxHeartbeats 16000000 in
theorem mH (s : ez) (w : World) (hs : s.ok w) (hn : s.l.length≤1000000) (hv : ∀ p ∈ s.l,p.s.l.length≤4000000) :
    Calls Tryz.prog 56 [s.v].toArray w fun e w'=>∃ q : {q : Acc // q=none→(if fV s.ps then aZ s.ps else [])=[]},e=.returned (.tuple #[ah q.1 (if fV s.ps then aZ s.ps else []).length,N (if fV s.ps then 0 else 1)])∧Holds w [] (aa 5 q.1 ((if fV s.ps then aZ s.ps else []).map U8)) w':=by
  refine enter (n:=21) Tryz.func56 rfl rfl rfl (Holds.start w []) ?_
  repeat (first | refine JL.q (by first|(apply OQ.len (k:=s.l.length) (ad:=s.ad) (cap:=s.cap);exact Tryz.underlying81;rfl)|(apply OQ.move;rfl)|(apply OQ.assign;rfl)) rfl ?_ | refine JC.seq ?_ | refine JC.region ?_ | refine JC.block ?_ | refine JL.nil ?_ | refine JE.next ?_)
  refine JC.loop (fun z : Nat × Acc=>[(4,ah z.2 (aZ (s.ps.take z.1)).length),(7,s.v),(8,N s.l.length),(9,N z.1)]) (fun z=>aa 5 z.2 ((aZ (s.ps.take z.1)).map U8)) (fun z=>s.l.length - z.1) (fun z=>z.1≤s.l.length∧fV (s.ps.take z.1)=true∧(z.2=none→aZ (s.ps.take z.1)=[])) (0,none) ⟨Nat.zero_le _,rfl,fun _=>rfl⟩ (by repeat (first | exact ag.nil | refine ag.cons _ _ _ rfl ?_)) (aj.refl _) ?_
  rintro ⟨i,q⟩ ⟨hi,hok,hq⟩
  dsimp only at hi hok hq ⊢
  repeat (first | refine JL.q (by (apply OQ.dX;rfl;rfl)) rfl ?_ | refine JC.seq ?_ | refine JC.region ?_ | refine JL.nil ?_ | refine JE.next ?_)
  refine JC.cond rfl (fun hc=>?_) (fun hc=>?_)
  · have hi' : i<s.l.length:=Nat.lt_of_not_le fun h=>by have:=of_decide_eq_true hc;omega
    clear hc
    obtain ⟨b,j,e,lb,c⟩:=hs.at hi'
    have hm:=ez.get_mem hi'
    have ht:=ez.CR hi'
    generalize s.l.getD i BB=p at c hm ht
    have hsv : s.v=.slice (some ⟨b,j,none⟩) s.l.length s.cap:=by rw [← e];rfl
    rw [hsv]
    repeat (first | refine JL.q (by first|(apply OQ.fc (i:=i);exact Tryz.underlying81;exact jK;rfl;rfl;exact hi')|(apply OQ.dV (cs:=p.cs);exact gX;rfl;exact jK;exact lb;exact (by simp);exact c)) rfl ?_ | refine JC.seq ?_ | refine JC.region ?_ | refine JC.block ?_ | refine JC.skip ?_ | refine JE.next ?_)
    rw [← hsv]
    refine JL.alloc Cg rfl fun b6 _=>?_
    refine JL.aq (cs:=p.cs) jK rfl rfl rfl p.one .here rfl ?_
    have cM:=fun (w' : World)=>oo p w'
    cases g1 : jU p.p
    case false=>
      have ho : fV s.ps=false:=xB ht g1
      rw [ho]
      rw [g1] at cM
      repeat (first | refine JL.q (by first|(apply OQ.az (cs:=p.cs);exact gX;exact jK;rfl;exact .here;rfl;exact Row.all)|(apply OQ.aF (vs:=[.agg p.cs.toArray]);exact je;rfl;exact (fun w' _=>cM w'))|(apply OQ.not;rfl)) rfl ?_ | refine JC.seq ?_ | refine JC.region ?_ | refine JL.nil ?_ | refine JE.next ?_)
      refine JC.cond_true rfl rfl ?_
      repeat (first | refine JL.q (by (apply OQ.assign;rfl)) rfl ?_ | refine JC.seq ?_ | refine JC.region ?_ | refine JL.nil ?_ | refine JE.next ?_)
      refine JC.ret ?_
      repeat (first | refine JE.aA ?_ | refine JE.bV ?_)
      exact JE.cw rfl (RV.tmp rfl) (RV.tmp rfl) fun w' hw=>⟨⟨none,fun _=>rfl⟩,rfl,hw.weak (.nil _)⟩
    case true=>
      rw [g1] at cM
      have hkl:=ij g1
      have hvl:=hv p hm
      have hle:=zB (l:=s.ps.take i) (fun p hp=>by
        unfold fV at hok
        have h1:=ij (List.all_eq_true.1 hok p hp)
        obtain ⟨x,hx,rfl⟩:=List.mem_map.1 (List.mem_of_mem_take hp)
        exact ⟨h1.2.1,hv x hx⟩)
      have hll : (s.ps.take i).length≤1000000:=by rw [List.length_take];omega
      repeat (first | refine JL.q (by first|(apply OQ.az (cs:=p.cs);exact gX;exact jK;rfl;exact .here;rfl;exact Row.all)|(apply OQ.aF (vs:=[.agg p.cs.toArray]);exact je;rfl;exact (fun w' _=>cM w'))|(apply OQ.not;rfl)) rfl ?_ | refine JC.seq ?_ | refine JC.region ?_ | refine JL.nil ?_ | refine JE.next ?_)
      refine JC.cond_false rfl rfl ?_
      repeat (first | refine JL.q (by first|(apply OQ.az (cs:=p.cs);exact gX;exact jK;rfl;exact .here;rfl;exact Row.all)|(apply OQ.move;rfl)) rfl ?_ | refine JC.region ?_ | refine JC.skip ?_ | refine JE.next ?_)
      refine JL.perm (M':=aa 5 q ((aZ (s.ps.take i)).map U8)++[⟨b6,Row 78 p.cs,true⟩]) ?_ (by exact List.perm_append_comm (l₁:=[_]))
      refine JL.bE (ι:=Nat × Nat) (vs:=[ah q (aZ (s.ps.take i)).length,.agg p.cs.toArray]) (fun r=>ah (some r) (aZ (s.ps.take i)++gR p.p).length) (fun r=>aa 5 (some r) ((aZ (s.ps.take i)++gR p.p).map U8)) vi rfl rfl (aP _ _ _) (fun _=>aP _ _ _) (fun w' h0 hw'=>xz q _ p hq (by omega) g1 (by show p.s.l.length<_;omega) w' ((hs.all p hm).holds h0 rfl) (lV h0 (aP _ _ _) (hs.all p hm)) hw') fun r=>?_
      rw [← vk,← ht]
      repeat (first | refine JL.q (by first|(apply OQ.move;rfl)|(apply OQ.assign;rfl)|(apply OQ.addN;rfl;rfl;exact (by (try simp only []);omega))) rfl ?_ | refine JC.region ?_ | refine JL.nil ?_ | refine JE.next ?_ | refine JE.an ?_)
      refine JE.again (i:=(i,q)) (i+1,some r) ⟨hi',?_,nofun⟩ (by dsimp only;omega) (by repeat (first | exact ag.nil | refine ag.cons _ _ _ rfl ?_)) (ax _ _)
      rw [ht]
      unfold fV at hok ⊢
      rw [List.all_append,hok]
      simp [g1]
  · have hi' : i=s.l.length:=by have:=of_decide_eq_false hc;omega
    have hf : s.ps.take i=s.ps:=List.take_of_length_le (by unfold ez.ps;rw [List.length_map];omega)
    rw [hf] at hok hq ⊢
    rw [hok]
    repeat (first | refine JL.q (by first|(apply OQ.move;rfl)|(apply OQ.assign;rfl)) rfl ?_ | refine JC.seq ?_ | refine JC.region ?_ | refine JC.exit ?_ | refine JL.nil ?_ | refine JE.next ?_ | refine JE.aH ?_ | refine JE.aW ?_)
    exact JC.ret (JE.cw rfl (RV.tmp rfl) (RV.tmp rfl) fun w' hw=>⟨⟨q,hq⟩,rfl,hw⟩)
structure Gp where
  q : Acc
  ps : List aM
  hq : q=none→ps=[]
  h0 : ∀ p ∈ ps,p.s.ad=none→p.s.l=[]
def Gp.v (z : Gp) : Value:=ah z.q z.ps.length
def Gp.l (z : Gp) : List Pq:=z.ps.map aM.p
def Gp.E (z : Gp) : List ai:=aY 78 3 z.q (z.ps.map aM.cs)++ay (z.ps.map aM.s)
theorem Gp.wr (z : Gp) : ∀ e ∈ z.E,e.wr=true:=by
  intro e he
  rcases List.mem_append.1 he with h | h
  · exact jy _ _ _ _ e h
  · exact gO _ e h
def Gp.s (z : Gp) : ez:=match z.q with
  | none=>⟨none,0,[]⟩
  | some p=>⟨some ⟨p.1,0,none⟩,p.2,z.ps⟩
theorem Gp.sw (z : Gp) : z.s.v=z.v:=by
  obtain ⟨q,ps,hq,h0⟩:=z
  cases q with
  | none=>rfl
  | some p=>rfl
theorem Gp.AL (z : Gp) : z.s.l=z.ps:=by
  obtain ⟨q,ps,hq,h0⟩:=z
  cases q with
  | none=>exact (hq rfl).symm
  | some p=>rfl
theorem Gp.BC (z : Gp) : z.s.ps=z.l:=by unfold ez.ps Gp.l;rw [z.AL]
theorem Gp.ok {z : Gp} {w0 w : World} {S : List Nat} {A M : List ai} (h : Holds w0 S (A++(z.E++M)) w) : z.s.ok w:=by
  obtain ⟨q,ps,hq,h0⟩:=z
  cases q with
  | none=>exact ⟨Nat.le_refl _,Reads.nil _ _,nofun⟩
  | some p=>
    obtain ⟨o,ho,hA⟩:=h.get (b:=p.1) (A:=Sl.Own 78 3 (ps.map aM.cs).length p.2 (ps.map aM.cs).flatten) (wr:=true) (aG (N:=A) .here)
    have hc:=hA
    obtain ⟨sp,_,_,_,h4⟩:=hc
    rw [List.length_map] at h4
    refine ⟨h4,Reads.block ho (Sl.Own.cells o hA),fun y hy=>?_⟩
    have hf : Holds w0 S ((A++aY 78 3 (some p) (ps.map aM.cs))++ay (ps.map aM.s)) w:=by
      have:=h.weak (M':=A++(aY 78 3 (some p) (ps.map aM.cs)++ay (ps.map aM.s))) (dJ (aj.refl _) (by
        show aj _ ((aY 78 3 (some p) (ps.map aM.cs)++ay (ps.map aM.s))++M)
        exact ax _ _))
      rwa [← List.append_assoc] at this
    exact k6 hf (fun x hx hn=>by
      obtain ⟨u,hu,rfl⟩:=List.mem_map.1 hx
      exact h0 u hu hn) y.s (List.mem_map_of_mem hy)
def Ek : Gp:=⟨none,[],fun _=>rfl,nofun⟩
theorem ku : aL Tryz.prog 57:=⟨_,Tryz.func57,rfl,by kernel_rfl⟩
abbrev zC (o : Option (List Pq)):={z : Gp // z.l=o.getD []}
def sK (o : Option (List Pq)) (z : Gp) : Value:=.tuple #[z.v,N (if o.isSome then 0 else 3)]
theorem BD (bl b5 : ai) (A C F : List ai) : (bl::(b5::(A++(C++F)))).Perm (bl::(C++((F++A)++[b5]))):=by
  refine List.Perm.cons _ ?_
  rw [show C++((F++A)++[b5])=(C++F++A)++[b5] by simp]
  refine List.Perm.trans ?_ (List.perm_append_singleton _ _).symm
  refine List.Perm.cons _ ?_
  rw [show C++F++A=(C++F)++A by simp]
  exact List.perm_append_comm
set_option maxHeartbeats 16000000 in
theorem mI (s : aC) (w : World) (hs : s.ok w) (hl : s.l.length≤4294967296) :
    Calls Tryz.prog 57 [s.v].toArray w fun e w'=>∃ z : zC (dec s.l),e=.returned (sK (dec s.l) z.1)∧Holds w [] z.1.E w':=by
  refine enter (n:=25) Tryz.func57 rfl rfl rfl (Holds.start w []) ?_
  repeat (first | refine JL.q (by (apply OQ.assign;rfl)) rfl ?_ | refine JC.seq ?_ | refine JC.region ?_ | refine JC.block ?_ | refine JL.nil ?_ | refine JE.next ?_)
  refine JC.loop (fun z : aC × Gp=>[(0,z.1.v),(4,z.2.v)]) (fun z=>z.2.E) (fun z=>z.1.l.length) (fun z=>z.1.ok w∧dec s.l=(dec z.1.l).map (z.2.l++·)∧z.2.ps.length+z.1.l.length≤s.l.length) (s,Ek) ⟨hs,by show _=(dec s.l).map ([]++·);cases dec s.l <;> simp,by show 0+s.l.length≤s.l.length;omega⟩ (by repeat (first | exact ag.nil | refine ag.cons _ _ _ rfl ?_)) (.nil _) ?_
  rintro ⟨r,q,ps,hq,h0⟩ ⟨hr,hd,hn⟩
  dsimp only [Gp.v,Gp.l] at hr hd hn ⊢
  cases g1 : decide ((0 : Int)<(r.l.length : Int))
  case false=>
    have he : r.l=[]:=List.length_eq_zero_iff.1 (by have:=of_decide_eq_false g1;omega)
    rw [he,uf] at hd
    rw [hd]
    repeat (first | refine JL.q (by first|(apply OQ.len (k:=r.l.length) (ad:=r.ad) (cap:=r.cap);exact Tryz.underlying24;rfl)|(apply OQ.cD (b:=0);rfl;rfl;exact g1)|(apply OQ.move;rfl)) rfl ?_ | refine JC.seq ?_ | refine JC.region ?_ | refine JL.nil ?_ | refine JE.next ?_)
    refine JC.cond_false rfl rfl ?_
    repeat (first | refine JL.q (by first|(apply OQ.move;rfl)|(apply OQ.assign;rfl)) rfl ?_ | refine JC.seq ?_ | refine JC.region ?_ | refine JC.exit ?_ | refine JL.nil ?_ | refine JE.next ?_ | refine JE.aH ?_ | refine JE.aW ?_)
    exact JC.ret (JE.cw rfl (RV.tmp rfl) (RV.tmp rfl) fun w' hw=>⟨⟨⟨q,ps,hq,h0⟩,by show ps.map aM.p=(some (ps.map aM.p++[])).getD [];simp⟩,rfl,hw⟩)
  have hne : r.l≠[]:=fun e=>by rw [e] at g1;simp at g1
  rw [mA hne] at hd
  repeat (first | refine JL.q (by first|(apply OQ.len (k:=r.l.length) (ad:=r.ad) (cap:=r.cap);exact Tryz.underlying24;rfl)|(apply OQ.cD (b:=0);rfl;rfl;exact g1)|(apply OQ.move;rfl)) rfl ?_ | refine JC.seq ?_ | refine JC.region ?_ | refine JL.nil ?_ | refine JE.next ?_)
  refine JC.cond_true rfl rfl ?_
  repeat (first | refine JL.q (by (apply OQ.move;rfl)) rfl ?_ | refine JC.seq ?_ | refine JC.region ?_ | refine JC.block ?_ | refine JC.skip ?_ | refine JE.next ?_)
  refine JL.bA (ι:={z : Fz // z.ok r}) (vs:=[r.v]) (fun z=>z.1.V) (fun z=>aa 5 z.1.q (z.1.v.map U8)) vj rfl rfl (fun _=>aP _ _ _) (fun w' hw'=>xA r w' (hr.holds hw' rfl) hne (by omega)) fun z=>?_
  obtain ⟨⟨key,q1,v,g,r2,there⟩,hz⟩:=z
  have hz1:=hz.q;have hz2:=hz.t;have hz3:=hz.r
  dsimp only at hz1 hz2 hz3 ⊢
  dsimp only [Fz.V]
  repeat (refine JL.q (by first|(apply OQ.extract;rfl;rfl)|(apply OQ.move;rfl)) rfl ?_)
  refine JL.alloc Cg rfl fun b5 _=>?_
  refine JL.aq (cs:=(aM.mk key (aI q1 v) g).cs) jK rfl rfl rfl (aM.one _) .here rfl ?_
  have hcp : (aI q1 v).l=v:=gI hz1
  cases there
  case false=>
    rw [if_neg (by simp)] at hz2
    rw [hz2] at hd
    rw [show dec s.l=none from hd]
    repeat (first | refine JL.q (by first|(apply OQ.not;rfl)|(apply OQ.move;rfl)|(apply OQ.assign;rfl)) rfl ?_ | refine JC.seq ?_ | refine JC.region ?_ | refine JL.nil ?_ | refine JE.next ?_)
    refine JC.cond_true rfl rfl ?_
    repeat (first | refine JL.q (by (apply OQ.assign;rfl)) rfl ?_ | refine JC.seq ?_ | refine JC.region ?_ | refine JL.nil ?_ | refine JE.next ?_)
    refine JC.ret ?_
    repeat (first | refine JE.aA ?_ | refine JE.bV ?_)
    exact JE.cw rfl (RV.tmp rfl) (RV.tmp rfl) fun w' hw=>⟨⟨Ek,rfl⟩,rfl,hw.weak (.nil _)⟩
  rw [if_pos rfl] at hz2
  rw [hz2] at hd
  dsimp only at hd
  have hsz:=(ig hz2).2
  dsimp only at hsz
  have hr2:=hz3 rfl w hr
  have hq0 : q=none→ps.map aM.cs=[]:=fun e=>by rw [hq e];rfl
  have hm : (ps.map aM.cs).length=ps.length:=List.length_map _
  repeat (first | refine JL.q (by first|(apply OQ.not;rfl)|(apply OQ.move;rfl)|(apply OQ.assign;rfl)) rfl ?_ | refine JC.seq ?_ | refine JC.region ?_ | refine JL.nil ?_ | refine JE.next ?_)
  refine JC.cond_false rfl rfl ?_
  repeat (first | refine JL.q (by first|(apply OQ.az (cs:=(aM.mk key (aI q1 v) g).cs);exact gX;exact jK;rfl;exact .here;rfl;exact Row.all)|(apply OQ.move;rfl)) rfl ?_ | refine JC.seq ?_ | refine JC.region ?_ | refine JC.skip ?_ | refine JE.next ?_)
  refine JL.pW (cs:=(aM.mk key (aI q1 v) g).cs) Tryz.underlying81 AK rfl (by decide) (by decide) rfl rfl rfl fun bl _=>?_
  refine JL.perm (M':=⟨bl,Row 78 (aM.mk key (aI q1 v) g).cs,true⟩::(aY 78 3 q (ps.map aM.cs)++((ay (ps.map aM.s)++aa 5 q1 (v.map U8))++[⟨b5,Row 78 (aM.mk key (aI q1 v) g).cs,true⟩]))) ?_ (BD _ _ _ _ _)
  refine JL.fS (c:=(aM.mk key (aI q1 v) g).cs) (L:=ps.map aM.cs) q Tryz.underlying81 AK hq0 (by rw [hm];rfl) rfl rfl (fun u hu=>List.all_eq_true.1 (aM.one _) u hu) rfl (by decide) (by rw [hm];omega) (by rw [hm];omega) rfl fun b' cap'=>?_
  have eM : ps.map aM.cs++[(aM.mk key (aI q1 v) g).cs]=(ps++[aM.mk key (aI q1 v) g]).map aM.cs:=by rw [List.map_append,List.map_singleton]
  rw [eM,List.length_map]
  repeat (first | refine JL.q (by first|(apply OQ.move;rfl)|(apply OQ.assign;rfl)) rfl ?_ | refine JC.region ?_ | refine JL.nil ?_ | refine JE.next ?_ | refine JE.an ?_)
  refine JE.again (i:=(r,⟨q,ps,hq,h0⟩)) (r2,⟨some (b',cap'),ps++[aM.mk key (aI q1 v) g],nofun,fun p hp hn=>?_⟩) ⟨hr2,?_,?_⟩ (by dsimp only;omega) (by repeat (first | exact ag.nil | refine ag.cons _ _ _ rfl ?_)) ?_
  · rcases List.mem_append.1 hp with hp | hp
    · exact h0 p hp hn
    · rw [List.mem_singleton.1 hp] at hn ⊢
      exact nJ hn
  · dsimp only [Gp.l]
    rw [hd,List.map_append,List.map_singleton]
    have : (aM.mk key (aI q1 v) g).p=⟨key,v,g⟩:=by show Pq.mk _ _ _=_;rw [hcp]
    rw [this]
    cases dec r2.l with
    | none=>rfl
    | some l=>simp
  · dsimp only
    rw [List.length_append,List.length_singleton]
    omega
  · dsimp only [Gp.E]
    refine dJ (aj.refl _) ?_
    rw [List.map_append,List.map_singleton]
    have:=dJ (nU (e:=5) (ps.map aM.s) q1 v) (.nil [⟨b5,Row 78 (aM.mk key (aI q1 v) g).cs,true⟩])
    rwa [List.append_nil] at this
end
end Go.Proofs.YtmhlgnbdhnolaaaGreatDoor
