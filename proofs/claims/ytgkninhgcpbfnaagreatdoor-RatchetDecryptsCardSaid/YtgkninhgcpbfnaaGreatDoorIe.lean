/-
  Of no statement by itself: the texts CrvZ, CuvA, CuvB, CuvC, CuvD, CuvE, CuvF, CrvS, CuvG, CuvN, RatP, RatQ, Slhn, RatC, Slcv, KdfB, RatM, RatN, Slin in one.
  Conditions: each theorem's own.
-/
import Derived.Test.YtgkninhgcpbfnaaGreatDoorId
import Derived.Test.YtgkninhgcpbfnaaGreatDoorProg
import Derived.Laws.Tables
import Derived.Great.FillDense
import Derived.Laws.Cover3
set_option linter.unusedSimpArgs false
set_option linter.unusedVariables false
namespace Go.Proofs.YtgkninhgcpbfnaaGreatDoor
section
namespace dZ
structure L5 where
  x2 : N5
  z2 : N5
  x3 : N5
  z3 : N5
@[reducible] def L5.l (s : L5) : List dY:=s.x2.l++s.z2.l++s.x3.l++s.z3.l
def L5.f (s : L5) : L4:=⟨iT s.x2,iT s.z2,iT s.x3,iT s.z3⟩
structure L5.ok (s : L5) : Prop where
  x2 : dH s.x2
  z2 : dH s.z2
  x3 : dH s.x3
  z3 : dH s.z3
def xD : N5:=⟨1,0,0,0,0⟩
def bH : N5:=⟨0,0,0,0,0⟩
def cN : N5:=⟨121665,0,0,0,0⟩
theorem uH : dH xD:=⟨by decide,by decide,by decide,by decide,by decide⟩
theorem zJ : dH bH:=⟨by decide,by decide,by decide,by decide,by decide⟩
theorem GM : dH cN:=⟨by decide,by decide,by decide,by decide,by decide⟩
theorem GN : iT xD=1:=by decide +kernel
theorem EO : iT bH=0:=by decide +kernel
theorem Lj : iT cN=121665:=by decide +kernel
structure Ll where
  a : N5
  b : N5
  c : N5
  d : N5
  aa : N5
  bb : N5
  da : N5
  cb : N5
  e : N5
  m : N5
  s : N5
def Lm (s : L5) : Ll:=
  let a:=qe s.x2 s.z2
  let b:=oo s.x2 s.z2
  let c:=qe s.x3 s.z3
  let d:=oo s.x3 s.z3
  let aa:=di a a
  let bb:=di b b
  let da:=di d a
  let cb:=di c b
  let e:=oo aa bb
  ⟨a,b,c,d,aa,bb,da,cb,e,qe da cb,oo da cb⟩
def Ln (x1 : N5) (t : Ll) : L5:=⟨di t.aa t.bb,di t.e (qe t.aa (di cN t.e)),di t.m t.m,di x1 (di t.s t.s)⟩
def vQ (x1 : N5) (s : L5) : L5:=Ln x1 (Lm s)
def EP (b : Bool) (s : L5) : L5:=if b then ⟨s.x3,s.z3,s.x2,s.z2⟩ else s
theorem ER {s : L5} (h : s.ok) (b : Bool) : (EP b s).ok:=by
  cases b
  · exact h
  · exact ⟨h.x3,h.z3,h.x2,h.z2⟩
theorem Iq (s : L5) (b : Bool) : (EP b s).f=swap b s.f:=by cases b <;> rfl
theorem GO (x1 : N5) (s : L5) : (vQ x1 s).ok:=⟨bT _ _,bT _ _,bT _ _,bT _ _⟩
theorem JG {x1 : N5} {s : L5} (h1 : dH x1) (h : s.ok) : (vQ x1 s).f=core (iT x1) s.f:=by
  have ga:=kg s.x2 s.z2
  have gb:=iU s.x2 s.z2
  have gc:=kg s.x3 s.z3
  have gd:=iU s.x3 s.z3
  unfold L5.f vQ Ln Lm core
  simp only
  rw [fP (bT _ _) (bT _ _),fP (iU _ _) (kg _ _),qV (bT _ _) (bT _ _),fP GM (iU _ _),qW (bT _ _) (bT _ _),
    fP (kg (di _ _) _) (kg _ _),qV (bT (oo _ _) _) (bT _ _),fP h1 (bT _ _),fP (iU (di _ _) _) (iU _ _),qW (bT (oo _ _) _) (bT _ _),
    fP gd ga,fP gc gb,fP ga ga,fP gb gb,qV h.x2 h.z2,qW h.x2 h.z2,qV h.x3 h.z3,qW h.x3 h.z3,Lj]
def jM (x1 : N5) (k : Nat) : Nat→L5
  | 0=>⟨xD,bH,x1,xD⟩
  | n+1=>EP (k.testBit (254 - n)) (vQ x1 (EP (k.testBit (254 - n)) (jM x1 k n)))
theorem A7 {x1 : N5} (h : dH x1) (k : Nat) : ∀ n,(jM x1 k n).ok
  | 0=>⟨uH,zJ,h,uH⟩
  | _+1=>ER (GO _ _) _
theorem ES {x1 : N5} (h : dH x1) (k : Nat) : ∀ n,n≤255→AL (iT x1) k (255 - n) (jM x1 k n).f=AL (iT x1) k 255 (jM x1 k 0).f
  | 0,_=>rfl
  | n+1,hn=>by
    rw [← ES h k n (by omega)]
    have e : 255 - n=(255 - (n+1))+1:=by omega
    have e2 : 254 - n=255 - (n+1):=by omega
    rw [e]
    show AL (iT x1) k (255 - (n+1)) (EP (k.testBit (254 - n)) (vQ x1 (EP (k.testBit (254 - n)) (jM x1 k n)))).f=AL (iT x1) k (255 - (n+1)) (swap (k.testBit (255 - (n+1))) (core (iT x1) (swap (k.testBit (255 - (n+1))) (jM x1 k n).f)))
    rw [Iq,JG h (ER (A7 h k n) _),Iq,e2]
def JH (k u : List By) : List By:=Kl (di (jM (dm u) (le (dN k)) 255).x2 (sE (jM (dm u) (le (dN k)) 255).z2))
theorem GP (k u : List By) (hu : u.length=32) : JH k u=aP k u:=by
  have h:=Co u
  have g:=A7 h (le (dN k)) 255
  have e : (jM (dm u) (le (dN k)) 255).f=AL (iT (dm u)) (le (dN k)) 255 (jM (dm u) (le (dN k)) 0).f:=ES h _ 255 (by omega)
  have e0 : (jM (dm u) (le (dN k)) 0).f=⟨1,0,iT (dm u),1⟩:=by
    show (⟨iT xD,iT bH,iT (dm u),iT xD⟩ : L4)=_
    rw [GN,EO]
  rw [e0] at e
  unfold JH
  rw [JF (bT _ _),fP g.x2 (Cm g.z2),GH g.z2]
  unfold aP Gr
  rw [← GL hu,← e]
  rfl
def jq (c : Bool) (x y : List dY) (i : Nat) : List dY:=if c then y.take i++x.drop i else x
theorem xE (c : Bool) {x y : List dY} (h : x.length=y.length) (i : Nat) : (jq c x y i).length=x.length:=by
  cases c
  · rfl
  · show (y.take i++x.drop i).length=_
    rw [List.length_append,List.length_take,List.length_drop];omega
theorem xF (c : Bool) {x y : List dY} (h : x.length=y.length) {i : Nat} (hi : i<x.length) : (jq c x y i)[i]?=some (x.getD i 0):=by
  have e : x[i]?=some (x.getD i 0):=by rw [List.getD_eq_getElem?_getD,List.getElem?_eq_getElem hi];rfl
  cases c
  · exact e
  · show (y.take i++x.drop i)[i]?=_
    rw [List.getElem?_append_right (by rw [List.length_take];omega),List.length_take,List.getElem?_drop,← e]
    congr 1;omega
theorem xG (c : Bool) {x y : List dY} (h : x.length=y.length) {i : Nat} (hi : i<x.length) {v : dY} (hv : v=if c then y.getD i 0 else x.getD i 0) : (jq c x y i).set i v=jq c x y (i+1):=by
  subst hv
  cases c
  · show x.set i (x.getD i 0)=x
    rw [List.getD_eq_getElem?_getD,List.getElem?_eq_getElem hi]
    simp
  · show (y.take i++x.drop i).set i (y.getD i 0)=y.take (i+1)++x.drop (i+1)
    have e : y[i]?=some (y.getD i 0):=by rw [List.getD_eq_getElem?_getD,List.getElem?_eq_getElem (by omega)];rfl
    rw [List.set_append_right _ _ (by rw [List.length_take];omega),List.length_take,Nat.min_eq_left (by omega),Nat.sub_self,List.drop_eq_getElem_cons hi,List.set_cons_zero,List.take_add_one,e]
    simp
def bt (c : Bool) : By:=if c then 1#8 else 0#8
def Cp (c : Bool) : dY:=if c then BitVec.allOnes 64 else 0
theorem GR (c : Bool) : -((bt c).setWidth 64 : dY)=Cp c:=by cases c <;> decide
theorem Lo (x : By) (k : Nat) (h : k<8) : (x >>> k) &&& 1#8=bt (x.toNat.testBit k):=by
  have h8 : ∀ k : Fin 8,∀ x : By,(x >>> k.val) &&& 1#8=bt (x.toNat.testBit k.val):=by decide +kernel
  exact h8 ⟨k,h⟩ x
theorem ET (c : Bool) (a b : dY) : a ^^^ (Cp c &&& (a ^^^ b))=if c then b else a:=by
  cases c
  · show a ^^^ (0 &&& (a ^^^ b))=a
    simp
  · show a ^^^ (BitVec.allOnes 64 &&& (a ^^^ b))=b
    rw [BitVec.allOnes_and,← BitVec.xor_assoc,BitVec.xor_self,BitVec.zero_xor]
theorem JI (c : Bool) (a b : dY) : b ^^^ (Cp c &&& (a ^^^ b))=if c then a else b:=by
  rw [BitVec.xor_comm a b]
  exact ET c b a
end dZ
end
section
set_option maxRecDepth 10000
open Sl dZ
theorem xH : dW Tryz.prog 84=some 1:=by kernel_rfl
theorem gf : iV Tryz.prog 84=true:=by kernel_rfl
theorem cu : dW Tryz.prog 118=some 5:=by kernel_rfl
theorem eU : gM Tryz.prog 118=true:=by kernel_rfl
theorem mX : zc Tryz.prog 118=some (bH.l.map aj):=by kernel_rfl
theorem bn (l : List dY) : (l.map aj).all Value.oneCell'=true:=by simp [Value.oneCell']
theorem gh : aI Tryz.prog 94:=⟨_,Tryz.func94,rfl,by kernel_rfl⟩
theorem kW : aI Tryz.prog 110:=⟨_,Tryz.func110,rfl,by kernel_rfl⟩
theorem pg : aI Tryz.prog 96:=⟨_,Tryz.func96,rfl,by kernel_rfl⟩
theorem fQ : aI Tryz.prog 97:=⟨_,Tryz.func97,rfl,by kernel_rfl⟩
set_option maxHeartbeats 8000000 in
theorem mq (n : N5) (w : World) : Calls Tryz.prog 110 [.agg (n.l.map aj).toArray].toArray w fun e w'=>e=.returned (.agg ((tJ n).l.map aj).toArray)∧Ext w w':=by
  have c0 : (n.l.map aj)[0]?=some (aj n.a0):=rfl
  have c1 : (n.l.map aj)[1]?=some (aj n.a1):=rfl
  have c2 : (n.l.map aj)[2]?=some (aj n.a2):=rfl
  have c3 : (n.l.map aj)[3]?=some (aj n.a3):=rfl
  have c4 : (n.l.map aj)[4]?=some (aj n.a4):=rfl
  refine enter (n:=40) Tryz.func110 rfl rfl rfl (ah.start w []) ?_
  repeat (first | refine JC.seq ?_ | refine JC.region ?_)
  refine JL.box (r:=n.l.map aj) rfl rfl rfl fun b1 _=>?_
  refine JL.alloc mX rfl fun b2 _=>?_
  repeat (first | refine JL.q (by first|(apply OQ.aE;exact Tryz.underlying118;exact xH;rfl;rfl;exact (by decide))|(apply OQ.load;exact gf;rfl;exact (.there .here);exact (Row.cell c0))|(apply OQ.load;exact gf;rfl;exact (.there .here);exact (Row.cell c1))|(apply OQ.load;exact gf;rfl;exact (.there .here);exact (Row.cell c2))|(apply OQ.load;exact gf;rfl;exact (.there .here);exact (Row.cell c3))|(apply OQ.load;exact gf;rfl;exact (.there .here);exact (Row.cell c4))|(apply OQ.nC (b:=2251799813685247#64);rfl;rfl)|(apply OQ.qm (a:=19#64);rfl;rfl)|(apply OQ.oE;rfl;rfl)|(apply OQ.jR;rfl;rfl)) rfl ?_ | refine JC.seq ?_ | refine JC.region ?_ | refine JL.nil ?_ | refine JE.next ?_)
  refine JL.q (OQ.pure (v:=.agg ((tJ n).l.map aj).toArray) rfl rfl (by kernel_rfl)) rfl ?_
  refine JL.ag (cs:=(tJ n).l.map aj) cu rfl rfl rfl (bn _) .here rfl ?_
  repeat (first | refine JL.nil ?_ | refine JE.next ?_)
  refine JC.ret (JE.aJ rfl (RV.av eU cu rfl .here rfl Row.all) ?_)
  exact fun w' hw=>⟨rfl,hw.aM⟩
set_option maxHeartbeats 8000000 in
theorem qY (a b : N5) (w : World) : Calls Tryz.prog 96 [.agg (a.l.map aj).toArray,.agg (b.l.map aj).toArray].toArray w fun e w'=>e=.returned (.agg ((qe a b).l.map aj).toArray)∧Ext w w':=by
  have c0 : (a.l.map aj)[0]?=some (aj a.a0):=rfl
  have c1 : (a.l.map aj)[1]?=some (aj a.a1):=rfl
  have c2 : (a.l.map aj)[2]?=some (aj a.a2):=rfl
  have c3 : (a.l.map aj)[3]?=some (aj a.a3):=rfl
  have c4 : (a.l.map aj)[4]?=some (aj a.a4):=rfl
  have d0 : (b.l.map aj)[0]?=some (aj b.a0):=rfl
  have d1 : (b.l.map aj)[1]?=some (aj b.a1):=rfl
  have d2 : (b.l.map aj)[2]?=some (aj b.a2):=rfl
  have d3 : (b.l.map aj)[3]?=some (aj b.a3):=rfl
  have d4 : (b.l.map aj)[4]?=some (aj b.a4):=rfl
  have cc:=mq ⟨a.a0+b.a0,a.a1+b.a1,a.a2+b.a2,a.a3+b.a3,a.a4+b.a4⟩
  refine enter (n:=32) Tryz.func96 rfl rfl rfl (ah.start w []) ?_
  repeat (first | refine JC.seq ?_ | refine JC.region ?_)
  refine JL.box (r:=a.l.map aj) rfl rfl rfl fun b2 _=>?_
  refine JL.box (r:=b.l.map aj) rfl rfl rfl fun b3 _=>?_
  refine JL.alloc mX rfl fun b4 _=>?_
  repeat (first | refine JL.q (by first|(apply OQ.aE;exact Tryz.underlying118;exact xH;rfl;rfl;exact (by decide))|(apply OQ.load;exact gf;rfl;exact (.there (.there .here));exact (Row.cell c0))|(apply OQ.load;exact gf;rfl;exact (.there (.there .here));exact (Row.cell c1))|(apply OQ.load;exact gf;rfl;exact (.there (.there .here));exact (Row.cell c2))|(apply OQ.load;exact gf;rfl;exact (.there (.there .here));exact (Row.cell c3))|(apply OQ.load;exact gf;rfl;exact (.there (.there .here));exact (Row.cell c4))|(apply OQ.load;exact gf;rfl;exact (.there .here);exact (Row.cell d0))|(apply OQ.load;exact gf;rfl;exact (.there .here);exact (Row.cell d1))|(apply OQ.load;exact gf;rfl;exact (.there .here);exact (Row.cell d2))|(apply OQ.load;exact gf;rfl;exact (.there .here);exact (Row.cell d3))|(apply OQ.load;exact gf;rfl;exact (.there .here);exact (Row.cell d4))|(apply OQ.oE;rfl;rfl)) rfl ?_ | refine JC.seq ?_ | refine JC.region ?_ | refine JL.nil ?_ | refine JE.next ?_)
  refine JL.q (OQ.pure (v:=.agg ((⟨a.a0+b.a0,a.a1+b.a1,a.a2+b.a2,a.a3+b.a3,a.a4+b.a4⟩ : N5).l.map aj).toArray) rfl rfl (by kernel_rfl)) rfl ?_
  refine JL.q (OQ.au kW rfl fun w' _=>cc w') rfl ?_
  refine JL.ag (cs:=(qe a b).l.map aj) cu rfl rfl rfl (bn _) .here rfl ?_
  repeat (first | refine JL.nil ?_ | refine JE.next ?_)
  refine JC.ret (JE.aJ rfl (RV.av eU cu rfl .here rfl Row.all) ?_)
  exact fun w' hw=>⟨rfl,hw.aM⟩
set_option maxHeartbeats 8000000 in
theorem gI (a b : N5) (w : World) : Calls Tryz.prog 97 [.agg (a.l.map aj).toArray,.agg (b.l.map aj).toArray].toArray w fun e w'=>e=.returned (.agg ((oo a b).l.map aj).toArray)∧Ext w w':=by
  have c0 : (a.l.map aj)[0]?=some (aj a.a0):=rfl
  have c1 : (a.l.map aj)[1]?=some (aj a.a1):=rfl
  have c2 : (a.l.map aj)[2]?=some (aj a.a2):=rfl
  have c3 : (a.l.map aj)[3]?=some (aj a.a3):=rfl
  have c4 : (a.l.map aj)[4]?=some (aj a.a4):=rfl
  have d0 : (b.l.map aj)[0]?=some (aj b.a0):=rfl
  have d1 : (b.l.map aj)[1]?=some (aj b.a1):=rfl
  have d2 : (b.l.map aj)[2]?=some (aj b.a2):=rfl
  have d3 : (b.l.map aj)[3]?=some (aj b.a3):=rfl
  have d4 : (b.l.map aj)[4]?=some (aj b.a4):=rfl
  have cc:=mq ⟨a.a0+4503599627370458#64 - b.a0,a.a1+4503599627370494#64 - b.a1,a.a2+4503599627370494#64 - b.a2,a.a3+4503599627370494#64 - b.a3,a.a4+4503599627370494#64 - b.a4⟩
  refine enter (n:=37) Tryz.func97 rfl rfl rfl (ah.start w []) ?_
  repeat (first | refine JC.seq ?_ | refine JC.region ?_)
  refine JL.box (r:=a.l.map aj) rfl rfl rfl fun b2 _=>?_
  refine JL.box (r:=b.l.map aj) rfl rfl rfl fun b3 _=>?_
  refine JL.alloc mX rfl fun b4 _=>?_
  repeat (first | refine JL.q (by first|(apply OQ.aE;exact Tryz.underlying118;exact xH;rfl;rfl;exact (by decide))|(apply OQ.load;exact gf;rfl;exact (.there (.there .here));exact (Row.cell c0))|(apply OQ.load;exact gf;rfl;exact (.there (.there .here));exact (Row.cell c1))|(apply OQ.load;exact gf;rfl;exact (.there (.there .here));exact (Row.cell c2))|(apply OQ.load;exact gf;rfl;exact (.there (.there .here));exact (Row.cell c3))|(apply OQ.load;exact gf;rfl;exact (.there (.there .here));exact (Row.cell c4))|(apply OQ.load;exact gf;rfl;exact (.there .here);exact (Row.cell d0))|(apply OQ.load;exact gf;rfl;exact (.there .here);exact (Row.cell d1))|(apply OQ.load;exact gf;rfl;exact (.there .here);exact (Row.cell d2))|(apply OQ.load;exact gf;rfl;exact (.there .here);exact (Row.cell d3))|(apply OQ.load;exact gf;rfl;exact (.there .here);exact (Row.cell d4))|(apply OQ.oE (b:=4503599627370458#64);rfl;rfl)|(apply OQ.oE (b:=4503599627370494#64);rfl;rfl)|(apply OQ.yF;rfl;rfl)) rfl ?_ | refine JC.seq ?_ | refine JC.region ?_ | refine JL.nil ?_ | refine JE.next ?_)
  refine JL.q (OQ.pure (v:=.agg ((⟨a.a0+4503599627370458#64 - b.a0,a.a1+4503599627370494#64 - b.a1,a.a2+4503599627370494#64 - b.a2,a.a3+4503599627370494#64 - b.a3,a.a4+4503599627370494#64 - b.a4⟩ : N5).l.map aj).toArray) rfl rfl (by kernel_rfl)) rfl ?_
  refine JL.q (OQ.au kW rfl fun w' _=>cc w') rfl ?_
  refine JL.ag (cs:=(oo a b).l.map aj) cu rfl rfl rfl (bn _) .here rfl ?_
  repeat (first | refine JL.nil ?_ | refine JE.next ?_)
  refine JC.ret (JE.aJ rfl (RV.av eU cu rfl .here rfl Row.all) ?_)
  exact fun w' hw=>⟨rfl,hw.aM⟩
set_option maxHeartbeats 8000000 in
theorem pn (k : List By) (hk : k.length=32) (p : Nat) (hp : p<4) (w : World) : Calls Tryz.prog 94 [.agg (k.map U8).toArray,N p].toArray w fun e w'=>e=.returned (aj (th k p 8))∧Ext w w':=by
  refine enter (n:=24) Tryz.func94 rfl rfl rfl (ah.start w []) ?_
  repeat (first | refine JC.seq ?_ | refine JC.region ?_)
  refine JL.box (r:=k.map U8) rfl rfl rfl fun b2 _=>?_
  repeat (first | refine JL.q (by first|(apply OQ.move;rfl)|(apply OQ.assign;rfl)) rfl ?_ | refine JC.seq ?_ | refine JC.region ?_ | refine JC.block ?_ | refine JL.nil ?_ | refine JE.next ?_)
  refine JC.loop (fun i : Nat=>[(1,N p),(2,Pt b2 0),(5,aj (th k p i)),(7,N i)]) (fun _=>[⟨b2,Row 23 (k.map U8),true⟩])
    (fun i=>8 - i) (fun i=>i≤8) 0 (by omega) (by repeat (first | exact ai.nil | refine ai.cons _ _ _ rfl ?_)) (aq.refl _) ?_
  intro i hi
  repeat (first | refine JL.q (by (apply OQ.bP;rfl;rfl)) rfl ?_ | refine JC.seq ?_ | refine JC.region ?_ | refine JL.nil ?_ | refine JE.next ?_)
  refine JC.cond rfl (fun h=>?_) (fun h=>?_)
  · have hi' : i<8:=of_decide_eq_true h
    clear h hi
    have hc:=kS (l:=k) (i:=8 * p+i) (by omega)
    repeat (first | refine JL.q (by first|(apply OQ.aE;exact Tryz.underlying23;exact wo;rfl;rfl;exact (by (try simp only []);omega))|(apply OQ.load;exact GC;rfl;exact .here;exact (Row.cell hc))|(apply OQ.rE;rfl;rfl;rfl)|(apply OQ.uf;rfl;rfl)|(apply OQ.BE;rfl;rfl)|(apply OQ.move;rfl)|(apply OQ.assign;rfl)|(apply OQ.aZ;rfl;rfl;exact (by (try simp only []);omega))|(apply OQ.iW;rfl;rfl;exact (by (try simp only []);omega))) rfl ?_ | refine JC.seq ?_ | refine JC.region ?_ | refine JC.block ?_ | refine JC.skip ?_ | refine JL.nil ?_ | refine JE.next ?_ | refine JE.an ?_)
    exact JE.again (i:=i) (i+1) (by omega) (by omega) (by repeat (first | exact ai.nil | refine ai.cons _ _ _ rfl ?_)) (aq.refl _)
  · have hi' : ¬ i<8:=of_decide_eq_false h
    obtain rfl : i=8:=by omega
    clear h hi hi'
    generalize th k p 8=X
    repeat (first | refine JL.q (by first|(apply OQ.move;rfl)|(apply OQ.assign;rfl)) rfl ?_ | refine JC.seq ?_ | refine JC.region ?_ | refine JC.exit ?_ | refine JL.nil ?_ | refine JE.next ?_ | refine JE.ax ?_ | refine JE.aA ?_)
    refine JC.ret (JE.aJ rfl (RV.tmp rfl) ?_)
    exact fun w' hw=>⟨rfl,hw.aM⟩
theorem tK : aI Tryz.prog 75:=⟨_,Tryz.func75,rfl,by kernel_rfl⟩
set_option maxHeartbeats 8000000 in
theorem vR (u : List By) (hu : u.length=32) (w : World) : Calls Tryz.prog 75 [.agg (u.map U8).toArray].toArray w fun e w'=>e=.returned (.agg ((dm u).l.map aj).toArray)∧Ext w w':=by
  have hlu : (u.map U8).length=32:=by rw [List.length_map];exact hu
  have c0:=pn u hu 0 (by decide)
  have c1:=pn u hu 1 (by decide)
  have c2:=pn u hu 2 (by decide)
  have c3:=pn u hu 3 (by decide)
  have e : dm u=zI (th u 0 8) (th u 1 8) (th u 2 8) (th u 3 8):=rfl
  rw [e]
  generalize th u 0 8=W0 at *
  generalize th u 1 8=W1 at *
  generalize th u 2 8=W2 at *
  generalize th u 3 8=W3 at *
  clear e
  refine enter (n:=39) Tryz.func75 rfl rfl rfl (ah.start w []) ?_
  repeat (first | refine JC.seq ?_ | refine JC.region ?_)
  refine JL.box (r:=u.map U8) rfl rfl rfl fun b1 _=>?_
  refine JL.alloc mX rfl fun b2 _=>?_
  repeat (first | refine JC.seq ?_ | refine JL.nil ?_ | refine JE.next ?_)
  refine JC.quiet fc (by kernel_rfl) ?_
  repeat (first | refine JL.q (by first|(apply OQ.af (cs:=u.map U8);exact aN;exact aB;rfl;exact (.there .here);exact hlu;exact Row.all)|(apply OQ.au (vs:=[.agg (u.map U8).toArray,N 0]);exact gh;rfl;exact (fun w' _=>c0 w'))|(apply OQ.au (vs:=[.agg (u.map U8).toArray,N 1]);exact gh;rfl;exact (fun w' _=>c1 w'))|(apply OQ.au (vs:=[.agg (u.map U8).toArray,N 2]);exact gh;rfl;exact (fun w' _=>c2 w'))|(apply OQ.au (vs:=[.agg (u.map U8).toArray,N 3]);exact gh;rfl;exact (fun w' _=>c3 w'))|(apply OQ.nC (b:=2251799813685247#64);rfl;rfl)|(apply OQ.uf;rfl;rfl)|(apply OQ.BE;rfl;rfl)|(apply OQ.move;rfl)|(apply OQ.assign;rfl)|(apply OQ.jR;rfl;rfl)) rfl ?_ | refine JQ.q (by first|(apply OQ.af (cs:=u.map U8);exact aN;exact aB;rfl;exact (.there .here);exact hlu;exact Row.all)|(apply OQ.au (vs:=[.agg (u.map U8).toArray,N 0]);exact gh;rfl;exact (fun w' _=>c0 w'))|(apply OQ.au (vs:=[.agg (u.map U8).toArray,N 1]);exact gh;rfl;exact (fun w' _=>c1 w'))|(apply OQ.au (vs:=[.agg (u.map U8).toArray,N 2]);exact gh;rfl;exact (fun w' _=>c2 w'))|(apply OQ.au (vs:=[.agg (u.map U8).toArray,N 3]);exact gh;rfl;exact (fun w' _=>c3 w'))|(apply OQ.nC (b:=2251799813685247#64);rfl;rfl)|(apply OQ.uf;rfl;rfl)|(apply OQ.BE;rfl;rfl)|(apply OQ.move;rfl)|(apply OQ.assign;rfl)|(apply OQ.jR;rfl;rfl)) rfl ?_ | refine JC.seq ?_ | refine JC.region ?_ | refine JQ.nil ?_ | refine JE.next ?_)
  refine JL.q (OQ.pure (v:=.agg ((zI W0 W1 W2 W3).l.map aj).toArray) rfl rfl (by kernel_rfl)) rfl ?_
  refine JL.ag (cs:=(zI W0 W1 W2 W3).l.map aj) cu rfl rfl rfl (bn _) .here rfl ?_
  repeat (first | refine JL.nil ?_ | refine JE.next ?_)
  refine JC.ret (JE.aJ rfl (RV.av eU cu rfl .here rfl Row.all) ?_)
  exact fun w' hw=>⟨rfl,hw.aM⟩
end
section
set_option maxRecDepth 10000
open Sl dZ
def mulC (a b : dY) : dY:=
  (a >>> 32) * (b >>> 32)+((a >>> 32) * (b &&& 4294967295#64)+((a &&& 4294967295#64) * (b &&& 4294967295#64)) >>> 32) >>> 32 +
    ((((a >>> 32) * (b &&& 4294967295#64)+((a &&& 4294967295#64) * (b &&& 4294967295#64)) >>> 32) &&& 4294967295#64)+(a &&& 4294967295#64) * (b >>> 32)) >>> 32
theorem zK (x : dY) : (x &&& 4294967295#64).toNat=x.toNat % 4294967296:=by
  rw [BitVec.toNat_and,show (4294967295#64).toNat=2 ^ 32 - 1 from rfl,Nat.and_two_pow_sub_one_eq_mod]
theorem vS {x y : dY} (hx : x.toNat<4294967296) (hy : y.toNat<4294967296) : (x * y).toNat=x.toNat * y.toNat∧x.toNat * y.toNat≤18446744065119617025:=by
  have h : x.toNat * y.toNat≤4294967295 * 4294967295:=Nat.mul_le_mul (by omega) (by omega)
  refine ⟨?_,by omega⟩
  rw [BitVec.toNat_mul]
  exact Nat.mod_eq_of_lt (by omega)
theorem JK (x1 x0 y1 y0 : Nat) : (x1 * 4294967296+x0) * (y1 * 4294967296+y0)=x1 * y1 * 18446744073709551616+(x1 * y0+x0 * y1) * 4294967296+x0 * y0:=by
  grind
theorem GS (a b : dY) : mulC a b=sA a b:=by
  apply BitVec.eq_of_toNat_eq
  rw [sB]
  have ha:=a.isLt
  have hb:=b.isLt
  have a1:=dx a 32
  have b1:=dx b 32
  have a0:=zK a
  have b0:=zK b
  have ea : a.toNat=a.toNat / 4294967296 * 4294967296+a.toNat % 4294967296:=by omega
  have eb : b.toNat=b.toNat / 4294967296 * 4294967296+b.toNat % 4294967296:=by omega
  have e:=JK (a.toNat / 4294967296) (a.toNat % 4294967296) (b.toNat / 4294967296) (b.toNat % 4294967296)
  rw [← ea,← eb] at e
  unfold mulC
  have h1 : (a >>> 32).toNat<4294967296:=by omega
  have h2 : (b >>> 32).toNat<4294967296:=by omega
  have h3 : (a &&& 4294967295#64).toNat<4294967296:=by omega
  have h4 : (b &&& 4294967295#64).toNat<4294967296:=by omega
  have p11:=vS h1 h2
  have p10:=vS h1 h4
  have p01:=vS h3 h2
  have p00:=vS h3 h4
  rw [a1,b1] at p11
  rw [a1,b0] at p10
  rw [a0,b1] at p01
  rw [a0,b0] at p00
  clear ha hb ea eb h1 h2 h3 h4 a1 b1 a0 b0
  rw [show (2 : Nat) ^ 32=4294967296 from rfl] at *
  generalize (a >>> 32) * (b >>> 32)=q11 at *
  generalize (a >>> 32) * (b &&& 4294967295#64)=q10 at *
  generalize (a &&& 4294967295#64) * (b >>> 32)=q01 at *
  generalize (a &&& 4294967295#64) * (b &&& 4294967295#64)=q00 at *
  generalize a.toNat * b.toNat=pr at *
  generalize a.toNat / 4294967296 * (b.toNat / 4294967296)=n11 at *
  generalize a.toNat / 4294967296 * (b.toNat % 4294967296)=n10 at *
  generalize a.toNat % 4294967296 * (b.toNat / 4294967296)=n01 at *
  generalize a.toNat % 4294967296 * (b.toNat % 4294967296)=n00 at *
  have s1:=dx q00 32
  have t1:=toNat_add (x:=q10) (y:=q00 >>> 32) (by omega)
  have s2:=dx (q10+q00 >>> 32) 32
  have m1:=zK (q10+q00 >>> 32)
  have t2:=toNat_add (x:=(q10+q00 >>> 32) &&& 4294967295#64) (y:=q01) (by omega)
  have s3:=dx (((q10+q00 >>> 32) &&& 4294967295#64)+q01) 32
  have hbd : pr<18446744073709551616 * 18446744073709551616:=by omega
  have u1:=toNat_add (x:=q11) (y:=(q10+q00 >>> 32) >>> 32) (by omega)
  have u2:=toNat_add (x:=q11+(q10+q00 >>> 32) >>> 32) (y:=(((q10+q00 >>> 32) &&& 4294967295#64)+q01) >>> 32) (by omega)
  rw [u2,u1,s3,t2,m1,s2,t1,s1]
  omega
theorem sG : aI Tryz.prog 112:=⟨_,Tryz.func112,rfl,by kernel_rfl⟩
theorem EU : HI Tryz.prog 113:=⟨_,Tryz.func113,by kernel_rfl,by kernel_rfl,by kernel_rfl,by kernel_rfl⟩
set_option maxHeartbeats 8000000 in
theorem uI (a b : dY) (w : World) : Calls Tryz.prog 112 [aj a,aj b].toArray w fun e w'=>e=.returned (.tuple #[aj (sA a b),aj (a * b)])∧Ext w w':=by
  rw [← GS]
  refine enter (n:=51) Tryz.func112 rfl rfl rfl (ah.start w []) ?_
  repeat (first | refine JL.q (by first|(apply OQ.nC (b:=4294967295#64);rfl;rfl)|(apply OQ.qm;rfl;rfl)|(apply OQ.move;rfl)|(apply OQ.assign;rfl)|(apply OQ.oE;rfl;rfl)|(apply OQ.jR;rfl;rfl)) rfl ?_ | refine JC.seq ?_ | refine JC.region ?_ | refine JL.nil ?_ | refine JE.next ?_)
  refine JC.ret ?_
  refine JE.gN rfl (RV.tmp rfl) (RV.tmp rfl) ?_
  exact fun w' hw=>⟨rfl,hw.aM⟩
theorem GU : dW Tryz.prog 150=some 2:=by kernel_rfl
theorem JM : gM Tryz.prog 150=true:=by kernel_rfl
theorem Nz : zc Tryz.prog 150=some ((⟨0,0⟩ : W2).l.map aj):=by kernel_rfl
theorem vT : aI Tryz.prog 99:=⟨_,Tryz.func99,rfl,by kernel_rfl⟩
theorem Cq : aI Tryz.prog 100:=⟨_,Tryz.func100,rfl,by kernel_rfl⟩
theorem Cr : aI Tryz.prog 111:=⟨_,Tryz.func111,rfl,by kernel_rfl⟩
theorem xI : aI Tryz.prog 98:=⟨_,Tryz.func98,rfl,by kernel_rfl⟩
theorem aQ : aI Tryz.prog 78:=⟨_,Tryz.func78,rfl,by kernel_rfl⟩
set_option maxHeartbeats 8000000 in
theorem xJ (a b : dY) (w : World) : Calls Tryz.prog 99 [aj a,aj b].toArray w fun e w'=>e=.returned (.agg ((yo a b).l.map aj).toArray)∧Ext w w':=by
  refine enter (n:=16) Tryz.func99 rfl rfl rfl (ah.start w []) ?_
  repeat (first | refine JC.seq ?_ | refine JC.region ?_)
  refine JL.alloc Nz rfl fun b4 _=>?_
  repeat (first | refine JL.q (by first|(apply OQ.au;exact sG;rfl;exact (fun w' _=>uI a b w'))|(apply OQ.extract;rfl;rfl)|(apply OQ.move;rfl)|(apply OQ.assign;rfl)) rfl ?_ | refine JC.seq ?_ | refine JC.region ?_ | refine JL.nil ?_ | refine JE.next ?_)
  refine JL.q (OQ.pure (v:=.agg ((yo a b).l.map aj).toArray) rfl rfl (by kernel_rfl)) rfl ?_
  refine JL.ag (cs:=(yo a b).l.map aj) GU rfl rfl rfl (bn _) .here rfl ?_
  repeat (first | refine JL.nil ?_ | refine JE.next ?_)
  refine JC.ret (JE.aJ rfl (RV.av JM GU rfl .here rfl Row.all) ?_)
  exact fun w' hw=>⟨rfl,hw.aM⟩
theorem JN (a b : dY) : (Ip a b).toNat≤1:=by
  rw [zF]
  have:=a.isLt
  have:=b.isLt
  omega
theorem JO (a b : dY) : (a+b).toNat=(a.toNat+b.toNat+(0#64 : dY).toNat) % 18446744073709551616:=by
  rw [BitVec.toNat_add];rfl
theorem JP (a b : dY) : (Ip a b).toNat=(a.toNat+b.toNat+(0#64 : dY).toNat) / 18446744073709551616:=zF a b
theorem JR (a b c : dY) : (a+b+c).toNat=(a.toNat+b.toNat+c.toNat) % 18446744073709551616:=by
  rw [BitVec.toNat_add,BitVec.toNat_add]
  omega
theorem JS (a b c : dY) : (BitVec.ofNat 64 ((a.toNat+b.toNat+c.toNat) / 18446744073709551616)).toNat=(a.toNat+b.toNat+c.toNat) / 18446744073709551616:=by
  rw [BitVec.toNat_ofNat]
  have:=a.isLt
  have:=b.isLt
  have:=c.isLt
  omega
set_option maxHeartbeats 8000000 in
theorem EV (v : W2) (a b : dY) (w : World) : Calls Tryz.prog 100 [.agg (v.l.map aj).toArray,aj a,aj b].toArray w fun e w'=>e=.returned (.agg ((kV v a b).l.map aj).toArray)∧Ext w w':=by
  have c0 : (v.l.map aj)[0]?=some (aj v.hi):=rfl
  have c1 : (v.l.map aj)[1]?=some (aj v.lo):=rfl
  refine enter (n:=34) Tryz.func100 rfl rfl rfl (ah.start w []) ?_
  repeat (first | refine JC.seq ?_ | refine JC.region ?_)
  refine JL.box (r:=v.l.map aj) rfl rfl rfl fun b3 _=>?_
  refine JL.alloc Nz rfl fun b6 _=>?_
  repeat (first | refine JL.q (by first|(apply OQ.au;exact sG;rfl;exact (fun w' _=>uI a b w'))|(apply OQ.extract;rfl;rfl)|(apply OQ.load;exact gf;rfl;exact (.there .here);exact (Row.cell c1))|(apply OQ.load;exact gf;rfl;exact (.there .here);exact (Row.cell c0))|(apply OQ.Dx (c:=0#64) (s:=v.lo+a * b) (o:=Ip v.lo (a * b));exact EU;rfl;rfl;rfl;exact (by decide);exact (JO _ _);exact (JP _ _))|(apply OQ.Dx (c:=Ip v.lo (a * b)) (s:=v.hi+sA a b+Ip v.lo (a * b));exact EU;rfl;rfl;rfl;exact (JN _ _);exact (JR _ _ _);exact (JS _ _ _))|(apply OQ.move;rfl)|(apply OQ.assign;rfl)|(apply OQ.bM;rfl;rfl;rfl;exact (by decide);rfl)) rfl ?_ | refine JC.seq ?_ | refine JC.region ?_ | refine JL.nil ?_ | refine JE.next ?_)
  refine JL.q (OQ.pure (v:=.agg ((kV v a b).l.map aj).toArray) rfl rfl (by kernel_rfl)) rfl ?_
  refine JL.ag (cs:=(kV v a b).l.map aj) GU rfl rfl rfl (bn _) .here rfl ?_
  repeat (first | refine JL.nil ?_ | refine JE.next ?_)
  refine JC.ret (JE.aJ rfl (RV.av JM GU rfl .here rfl Row.all) ?_)
  exact fun w' hw=>⟨rfl,hw.aM⟩
set_option maxHeartbeats 8000000 in
theorem EW (v : W2) (w : World) : Calls Tryz.prog 111 [.agg (v.l.map aj).toArray].toArray w fun e w'=>e=.returned (aj (qX v))∧Ext w w':=by
  have c0 : (v.l.map aj)[0]?=some (aj v.hi):=rfl
  have c1 : (v.l.map aj)[1]?=some (aj v.lo):=rfl
  refine enter (n:=10) Tryz.func111 rfl rfl rfl (ah.start w []) ?_
  repeat (first | refine JC.seq ?_ | refine JC.region ?_)
  refine JL.box (r:=v.l.map aj) rfl rfl rfl fun b1 _=>?_
  repeat (first | refine JL.q (by first|(apply OQ.load;exact gf;rfl;exact .here;exact (Row.cell c1))|(apply OQ.load;exact gf;rfl;exact .here;exact (Row.cell c0))|(apply OQ.uf;rfl;rfl)|(apply OQ.BE;rfl;rfl)|(apply OQ.assign;rfl)|(apply OQ.jR;rfl;rfl)|(apply OQ.bM;rfl;rfl;rfl;exact (by decide);rfl)) rfl ?_ | refine JC.seq ?_ | refine JC.region ?_ | refine JL.nil ?_ | refine JE.next ?_)
  refine JC.ret (JE.aJ rfl (RV.tmp rfl) ?_)
  exact fun w' hw=>⟨rfl,hw.aM⟩
set_option maxHeartbeats 16000000 in
theorem zL (v0 v1 v2 v3 v4 : W2) (w : World) : Calls Tryz.prog 98 [.agg (v0.l.map aj).toArray,.agg (v1.l.map aj).toArray,.agg (v2.l.map aj).toArray,.agg (v3.l.map aj).toArray,.agg (v4.l.map aj).toArray].toArray w
    fun e w'=>e=.returned (.agg ((Lf v0 v1 v2 v3 v4).l.map aj).toArray)∧Ext w w':=by
  have c0 : (v0.l.map aj)[1]?=some (aj v0.lo):=rfl
  have c1 : (v1.l.map aj)[1]?=some (aj v1.lo):=rfl
  have c2 : (v2.l.map aj)[1]?=some (aj v2.lo):=rfl
  have c3 : (v3.l.map aj)[1]?=some (aj v3.lo):=rfl
  have c4 : (v4.l.map aj)[1]?=some (aj v4.lo):=rfl
  have cc:=mq ⟨(v0.lo &&& 2251799813685247#64)+19#64 * qX v4,(v1.lo &&& 2251799813685247#64)+qX v0,(v2.lo &&& 2251799813685247#64)+qX v1,(v3.lo &&& 2251799813685247#64)+qX v2,(v4.lo &&& 2251799813685247#64)+qX v3⟩
  refine enter (n:=44) Tryz.func98 rfl rfl rfl (ah.start w []) ?_
  repeat (first | refine JC.seq ?_ | refine JC.region ?_)
  refine JL.box (r:=v0.l.map aj) rfl rfl rfl fun b5 _=>?_
  refine JL.box (r:=v1.l.map aj) rfl rfl rfl fun b6 _=>?_
  refine JL.box (r:=v2.l.map aj) rfl rfl rfl fun b7 _=>?_
  refine JL.box (r:=v3.l.map aj) rfl rfl rfl fun b8 _=>?_
  refine JL.box (r:=v4.l.map aj) rfl rfl rfl fun b9 _=>?_
  refine JL.alloc mX rfl fun b10 _=>?_
  repeat (first | refine JC.seq ?_ | refine JL.nil ?_ | refine JE.next ?_)
  refine JC.tail 33 fc (by kernel_rfl) ?_
  simp only [List.take_succ_cons,List.take_zero,List.drop_succ_cons,List.drop_zero]
  repeat (refine JQ.q (by first|(apply OQ.load;exact gf;rfl;exact (by repeat (first | exact Has.here | apply Has.there));exact (Row.cell c0))|(apply OQ.load;exact gf;rfl;exact (by repeat (first | exact Has.here | apply Has.there));exact (Row.cell c1))|(apply OQ.load;exact gf;rfl;exact (by repeat (first | exact Has.here | apply Has.there));exact (Row.cell c2))|(apply OQ.load;exact gf;rfl;exact (by repeat (first | exact Has.here | apply Has.there));exact (Row.cell c3))|(apply OQ.load;exact gf;rfl;exact (by repeat (first | exact Has.here | apply Has.there));exact (Row.cell c4))|(apply OQ.af (cs:=v0.l.map aj);exact JM;exact GU;rfl;exact (by repeat (first | exact Has.here | apply Has.there));rfl;exact Row.all)|(apply OQ.af (cs:=v1.l.map aj);exact JM;exact GU;rfl;exact (by repeat (first | exact Has.here | apply Has.there));rfl;exact Row.all)|(apply OQ.af (cs:=v2.l.map aj);exact JM;exact GU;rfl;exact (by repeat (first | exact Has.here | apply Has.there));rfl;exact Row.all)|(apply OQ.af (cs:=v3.l.map aj);exact JM;exact GU;rfl;exact (by repeat (first | exact Has.here | apply Has.there));rfl;exact Row.all)|(apply OQ.af (cs:=v4.l.map aj);exact JM;exact GU;rfl;exact (by repeat (first | exact Has.here | apply Has.there));rfl;exact Row.all)|(apply OQ.au;exact Cr;rfl;exact (fun w' _=>EW _ w'))|(apply OQ.nC (b:=2251799813685247#64);rfl;rfl)|(apply OQ.qm (a:=19#64);rfl;rfl)|(apply OQ.oE;rfl;rfl)|(apply OQ.bM;rfl;rfl;rfl;exact (by decide);rfl)) rfl ?_)
  refine JQ.q (OQ.pure (v:=.agg ((⟨(v0.lo &&& 2251799813685247#64)+19#64 * qX v4,(v1.lo &&& 2251799813685247#64)+qX v0,(v2.lo &&& 2251799813685247#64)+qX v1,(v3.lo &&& 2251799813685247#64)+qX v2,(v4.lo &&& 2251799813685247#64)+qX v3⟩ : N5).l.map aj).toArray) rfl rfl (by kernel_rfl)) rfl ?_
  refine JQ.q (OQ.au kW rfl fun w' _=>cc w') rfl ?_
  repeat (refine JQ.bA ?_)
  refine JL.ag (cs:=(Lf v0 v1 v2 v3 v4).l.map aj) cu rfl rfl rfl (bn _) .here rfl ?_
  repeat (first | refine JL.nil ?_ | refine JE.next ?_)
  refine JC.ret (JE.aJ rfl (RV.av eU cu rfl .here rfl Row.all) ?_)
  exact fun w' hw=>⟨rfl,hw.aM⟩
end
section
set_option maxRecDepth 10000
open Sl dZ
set_option maxHeartbeats 32000000 in
set_option maxRecDepth 4000 in
theorem aV (a b : N5) (w : World) : Calls Tryz.prog 78 [.agg (a.l.map aj).toArray,.agg (b.l.map aj).toArray].toArray w fun e w'=>e=.returned (.agg ((di a b).l.map aj).toArray)∧Ext w w':=by
  have c0 : (a.l.map aj)[0]?=some (aj a.a0):=rfl
  have c1 : (a.l.map aj)[1]?=some (aj a.a1):=rfl
  have c2 : (a.l.map aj)[2]?=some (aj a.a2):=rfl
  have c3 : (a.l.map aj)[3]?=some (aj a.a3):=rfl
  have c4 : (a.l.map aj)[4]?=some (aj a.a4):=rfl
  have d0 : (b.l.map aj)[0]?=some (aj b.a0):=rfl
  have d1 : (b.l.map aj)[1]?=some (aj b.a1):=rfl
  have d2 : (b.l.map aj)[2]?=some (aj b.a2):=rfl
  have d3 : (b.l.map aj)[3]?=some (aj b.a3):=rfl
  have d4 : (b.l.map aj)[4]?=some (aj b.a4):=rfl
  refine enter (n:=123) Tryz.func78 rfl rfl rfl (ah.start w []) ?_
  repeat (first | refine JC.seq ?_ | refine JC.region ?_)
  refine JL.box (r:=a.l.map aj) rfl rfl rfl fun b2 _=>?_
  refine JL.box (r:=b.l.map aj) rfl rfl rfl fun b3 _=>?_
  refine JL.alloc mX rfl fun b4 _=>?_
  repeat (first | refine JC.seq ?_ | refine JL.nil ?_ | refine JE.next ?_)
  refine JC.quiet fc (by kernel_rfl) ?_
  repeat (first | refine JQ.q (by first|(apply OQ.aE;exact Tryz.underlying118;exact xH;rfl;rfl;exact (by decide))|(apply OQ.load;exact gf;rfl;exact (.there (.there .here));exact (Row.cell c0))|(apply OQ.load;exact gf;rfl;exact (.there (.there .here));exact (Row.cell c1))|(apply OQ.load;exact gf;rfl;exact (.there (.there .here));exact (Row.cell c2))|(apply OQ.load;exact gf;rfl;exact (.there (.there .here));exact (Row.cell c3))|(apply OQ.load;exact gf;rfl;exact (.there (.there .here));exact (Row.cell c4))|(apply OQ.assign;rfl)) rfl ?_ | refine JC.seq ?_ | refine JQ.nil ?_ | refine JE.next ?_)
  refine JC.quiet fc (by kernel_rfl) ?_
  repeat (first | refine JL.q (by first|(apply OQ.aE;exact Tryz.underlying118;exact xH;rfl;rfl;exact (by decide))|(apply OQ.load;exact gf;rfl;exact (.there .here);exact (Row.cell d0))|(apply OQ.load;exact gf;rfl;exact (.there .here);exact (Row.cell d1))|(apply OQ.load;exact gf;rfl;exact (.there .here);exact (Row.cell d2))|(apply OQ.load;exact gf;rfl;exact (.there .here);exact (Row.cell d3))|(apply OQ.load;exact gf;rfl;exact (.there .here);exact (Row.cell d4))|(apply OQ.qm (a:=19#64);rfl;rfl)|(apply OQ.move;rfl)|(apply OQ.assign;rfl)) rfl ?_ | refine JQ.q (by first|(apply OQ.aE;exact Tryz.underlying118;exact xH;rfl;rfl;exact (by decide))|(apply OQ.load;exact gf;rfl;exact (.there .here);exact (Row.cell d0))|(apply OQ.load;exact gf;rfl;exact (.there .here);exact (Row.cell d1))|(apply OQ.load;exact gf;rfl;exact (.there .here);exact (Row.cell d2))|(apply OQ.load;exact gf;rfl;exact (.there .here);exact (Row.cell d3))|(apply OQ.load;exact gf;rfl;exact (.there .here);exact (Row.cell d4))|(apply OQ.qm (a:=19#64);rfl;rfl)|(apply OQ.move;rfl)|(apply OQ.assign;rfl)) rfl ?_ | refine JC.seq ?_ | refine JC.region ?_ | refine JL.nil ?_ | refine JQ.nil ?_ | refine JE.next ?_)
  simp only [List.append]
  repeat (refine JL.q (by first|(apply OQ.au;exact vT;rfl;exact (fun w' _=>xJ _ _ w'))|(apply OQ.au;exact Cq;rfl;exact (fun w' _=>EV _ _ _ w'))|(apply OQ.move;rfl)) rfl ?_)
  refine JL.q (OQ.au xI rfl fun w' _=>zL _ _ _ _ _ w') rfl ?_
  refine JL.ag (cs:=(di a b).l.map aj) cu rfl rfl rfl (bn _) .here rfl ?_
  repeat (first | refine JL.nil ?_ | refine JE.next ?_)
  refine JC.ret (JE.aJ rfl (RV.av eU cu rfl .here rfl Row.all) ?_)
  exact fun w' hw=>⟨rfl,hw.aM⟩
theorem cv : aI Tryz.prog 101:=⟨_,Tryz.func101,rfl,by kernel_rfl⟩
theorem vU : aI Tryz.prog 79:=⟨_,Tryz.func79,rfl,by kernel_rfl⟩
set_option maxHeartbeats 8000000 in
theorem dr (a : N5) (k : Nat) (hk : k<1000) (w : World) : Calls Tryz.prog 101 [.agg (a.l.map aj).toArray,N k].toArray w fun e w'=>e=.returned (.agg ((nq a k).l.map aj).toArray)∧Ext w w':=by
  refine enter (n:=13) Tryz.func101 rfl rfl rfl (ah.start w []) ?_
  repeat (first | refine JC.seq ?_ | refine JC.region ?_)
  refine JL.box (r:=a.l.map aj) rfl rfl rfl fun b2 _=>?_
  refine JL.alloc mX rfl fun b4 _=>?_
  repeat (first | refine JL.q (by (apply OQ.move;rfl)) rfl ?_ | refine JC.seq ?_ | refine JC.region ?_ | refine JC.block ?_ | refine JL.nil ?_ | refine JE.next ?_)
  refine JC.loop (fun i : Nat=>[(2,Pt b2 0),(4,Pt b4 0),(5,N k),(6,N i)]) (fun i=>[⟨b4,Row 118 (bH.l.map aj),true⟩,⟨b2,Row 118 ((nq a i).l.map aj),true⟩])
    (fun i=>k - i) (fun i=>i≤k) 0 (by omega) (by repeat (first | exact ai.nil | refine ai.cons _ _ _ rfl ?_)) (aq.refl _) ?_
  intro i hi
  repeat (first | refine JL.q (by (apply OQ.bP;rfl;rfl)) rfl ?_ | refine JC.seq ?_ | refine JC.region ?_ | refine JL.nil ?_ | refine JE.next ?_)
  refine JC.cond rfl (fun h=>?_) (fun h=>?_)
  · have hi' : i<k:=of_decide_eq_true h
    clear h hi
    have c:=aV (nq a i) (nq a i)
    repeat (first | refine JL.q (by first|(apply OQ.af (cs:=(nq a i).l.map aj);exact eU;exact cu;rfl;exact (.there .here);rfl;exact Row.all)|(apply OQ.au;exact aQ;rfl;exact (fun w' _=>c w'))) rfl ?_ | refine JC.seq ?_ | refine JC.region ?_ | refine JC.block ?_ | refine JC.skip ?_ | refine JE.next ?_)
    refine JL.ag (cs:=(nq a (i+1)).l.map aj) cu rfl rfl rfl (bn _) (.there .here) rfl ?_
    repeat (first | refine JL.q (by first|(apply OQ.move;rfl)|(apply OQ.aZ;rfl;rfl;exact (by (try simp only []);omega))) rfl ?_ | refine JC.region ?_ | refine JL.nil ?_ | refine JE.next ?_ | refine JE.an ?_)
    exact JE.again (i:=i) (i+1) (by omega) (by omega) (by repeat (first | exact ai.nil | refine ai.cons _ _ _ rfl ?_)) (aq.refl _)
  · have hi' : ¬ i<k:=of_decide_eq_false h
    obtain rfl : i=k:=by omega
    clear h hi hi'
    generalize nq a i=X
    repeat (first | refine JL.q (by (apply OQ.af (cs:=X.l.map aj);exact eU;exact cu;rfl;exact (.there .here);rfl;exact Row.all)) rfl ?_ | refine JC.seq ?_ | refine JC.region ?_ | refine JC.exit ?_ | refine JE.next ?_ | refine JE.ax ?_ | refine JE.aA ?_)
    refine JL.ag (cs:=X.l.map aj) cu rfl rfl rfl (bn _) .here rfl ?_
    repeat (first | refine JL.nil ?_ | refine JE.next ?_)
    refine JC.ret (JE.aJ rfl (RV.av eU cu rfl .here rfl Row.all) ?_)
    exact fun w' hw=>⟨rfl,hw.aM⟩
end
section
set_option maxRecDepth 10000
open Sl dZ
set_option maxHeartbeats 64000000 in
set_option maxRecDepth 4000 in
theorem xK (n : N5) (w : World) : Calls Tryz.prog 79 [.agg (n.l.map aj).toArray].toArray w fun e w'=>e=.returned (.agg ((sE n).l.map aj).toArray)∧Ext w w':=by
  have c_two:=dr n 1 (by decide)
  generalize h_two : nq n 1=two at c_two
  have c_q2:=dr two 2 (by decide)
  generalize h_q2 : nq two 2=q2 at c_q2
  have c_nine:=aV q2 n
  generalize h_nine : di q2 n=nine at c_nine
  have c_elv:=aV nine two
  generalize h_elv : di nine two=elv at c_elv
  have c_q4:=dr elv 1 (by decide)
  generalize h_q4 : nq elv 1=q4 at c_q4
  have c_o5:=aV q4 nine
  generalize h_o5 : di q4 nine=o5 at c_o5
  have c_q5:=dr o5 5 (by decide)
  generalize h_q5 : nq o5 5=q5 at c_q5
  have c_o10:=aV q5 o5
  generalize h_o10 : di q5 o5=ki at c_o10
  have c_q6:=dr ki 10 (by decide)
  generalize h_q6 : nq ki 10=q6 at c_q6
  have c_o20:=aV q6 ki
  generalize h_o20 : di q6 ki=nN at c_o20
  have c_q7:=dr nN 20 (by decide)
  generalize h_q7 : nq nN 20=q7 at c_q7
  have c_o40:=aV q7 nN
  generalize h_o40 : di q7 nN=sD at c_o40
  have c_q8:=dr sD 10 (by decide)
  generalize h_q8 : nq sD 10=q8 at c_q8
  have c_o50:=aV q8 ki
  generalize h_o50 : di q8 ki=mj at c_o50
  have c_q9:=dr mj 50 (by decide)
  generalize h_q9 : nq mj 50=q9 at c_q9
  have c_o100:=aV q9 mj
  generalize h_o100 : di q9 mj=iu at c_o100
  have c_q10:=dr iu 100 (by decide)
  generalize h_q10 : nq iu 100=q10 at c_q10
  have c_o200:=aV q10 iu
  generalize h_o200 : di q10 iu=mo at c_o200
  have c_q11:=dr mo 50 (by decide)
  generalize h_q11 : nq mo 50=q11 at c_q11
  have c_o250:=aV q11 mj
  generalize h_o250 : di q11 mj=pe at c_o250
  have c_q12:=dr pe 5 (by decide)
  generalize h_q12 : nq pe 5=q12 at c_q12
  have c_fin:=aV q12 elv
  generalize h_fin : di q12 elv=fin at c_fin
  have eI : sE n=fin:=by
    subst h_fin h_q12 h_o250 h_q11 h_o200 h_q10 h_o100 h_q9 h_o50 h_q8 h_o40 h_q7 h_o20 h_q6 h_o10 h_q5 h_o5 h_q4 h_elv h_nine h_q2 h_two
    rfl
  rw [eI]
  clear eI h_two h_q2 h_nine h_elv h_q4 h_o5 h_q5 h_o10 h_q6 h_o20 h_q7 h_o40 h_q8 h_o50 h_q9 h_o100 h_q10 h_o200 h_q11 h_o250 h_q12 h_fin
  refine enter (n:=59) Tryz.func79 rfl rfl rfl (ah.start w []) ?_
  repeat (first | refine JC.seq ?_ | refine JC.region ?_)
  refine JL.box (r:=n.l.map aj) rfl rfl rfl fun b1 _=>?_
  refine JL.alloc mX rfl fun b2 _=>?_
  repeat (first | refine JL.q (by first|(apply OQ.af (cs:=n.l.map aj);exact eU;exact cu;rfl;exact (by repeat (first | exact Has.here | apply Has.there));rfl;exact Row.all)|(apply OQ.au (vs:=[.agg (n.l.map aj).toArray,N 1]);exact cv;rfl;exact (fun w' _=>c_two w'))) rfl ?_ | refine JC.seq ?_ | refine JC.region ?_ | refine JL.nil ?_ | refine JE.next ?_)
  refine JL.alloc mX rfl fun b3 _=>?_
  refine JL.ag (cs:=two.l.map aj) cu rfl rfl rfl (bn _) .here rfl ?_
  repeat (first | refine JC.seq ?_ | refine JL.nil ?_ | refine JE.next ?_)
  let vs : Nat→Nat→Value:=fun j x=>match j with
    | 0=>.agg (two.l.map aj).toArray
    | 1=>.agg (q2.l.map aj).toArray
    | 2=>.agg (n.l.map aj).toArray
    | 3=>.agg (nine.l.map aj).toArray
    | _=>Pt x 0
  let Ms : Nat→Nat→List aH:=fun j x=>match j with
    | 4=>[⟨x,Row 118 (bH.l.map aj),true⟩]
    | 5=>[⟨x,Row 118 (nine.l.map aj),true⟩]
    | 6=>[⟨b3,Row 118 (two.l.map aj),true⟩]
    | 7=>[⟨b2,Row 118 (bH.l.map aj),true⟩]
    | 8=>[⟨b1,Row 118 (n.l.map aj),true⟩]
    | _=>[]
  refine JC.grow (g:=⟨[(1,Pt b1 0),(2,Pt b2 0),(3,Pt b3 0)],9,vs,Ms,(fun j=>match j with | 1=>[(0,16)] | 3=>[(1,17),(2,18)] | 5=>[(4,4),(3,19)] | _=>[]),(fun j=>match j with | 0=>[6] | 2=>[8] | 5=>[4] | _=>[]),(fun j=>match j with | 5=>[4] | _=>[]),(fun j=>match j with | 5=>some 4 | _=>none)⟩) [(4,4)] [5,6,7,8] fc (by repeat (first | exact ai.nil | refine ai.cons _ _ _ rfl ?_)) (aq.refl _) (by kernel_rfl) (by kernel_rfl) (by kernel_rfl) ?_ ?_
  · refine ⟨?_,?_,?_,?_,?_,?_,trivial⟩
    · (intro x EF MF Q kk;exact JL.q (OQ.af (cs:=two.l.map aj) eU cu rfl .here rfl Row.all) rfl (JL.nil (kk default nofun)))
    · (intro x EF MF Q kk;exact JL.q (OQ.au (vs:=[.agg (two.l.map aj).toArray,N 2]) cv rfl fun w' _=>c_q2 w') rfl (JL.nil (kk default nofun)))
    · (intro x EF MF Q kk;exact JL.q (OQ.af (cs:=n.l.map aj) eU cu rfl .here rfl Row.all) rfl (JL.nil (kk default nofun)))
    · (intro x EF MF Q kk;exact JL.q (OQ.au (vs:=[.agg (q2.l.map aj).toArray,.agg (n.l.map aj).toArray]) aQ rfl fun w' _=>c_nine w') rfl (JL.nil (kk default nofun)))
    · (intro x EF MF Q kk;exact JL.alloc mX rfl fun b _=>JL.nil (kk b nofun))
    · (intro x EF MF Q kk;exact JL.ag (cs:=nine.l.map aj) cu rfl rfl rfl (bn _) .here rfl (JL.nil (kk (x 4) (fun k h=>by cases h;rfl))))
  · intro x hx
    have h5:=hx 5 4 (by decide) rfl
    show JE _ _ _ _ _ [(4,Pt (x 4) 0),(1,Pt b1 0),(2,Pt b2 0),(3,Pt b3 0)] [⟨(x 5),Row 118 (nine.l.map aj),true⟩,⟨b3,Row 118 (two.l.map aj),true⟩,⟨b2,Row 118 (bH.l.map aj),true⟩,⟨b1,Row 118 (n.l.map aj),true⟩]
    rw [h5]
    generalize x 4=b4
    clear hx h5 x vs Ms
    repeat (first | refine JC.seq ?_ | refine JC.region ?_ | refine JE.next ?_)
    repeat (refine JL.q (by first|(apply OQ.af (cs:=nine.l.map aj);exact eU;exact cu;rfl;exact (by repeat (first | exact Has.here | apply Has.there));rfl;exact Row.all)|(apply OQ.af (cs:=two.l.map aj);exact eU;exact cu;rfl;exact (by repeat (first | exact Has.here | apply Has.there));rfl;exact Row.all)|(apply OQ.au (vs:=[.agg (nine.l.map aj).toArray,.agg (two.l.map aj).toArray]);exact aQ;rfl;exact (fun w' _=>c_elv w'))) rfl ?_)
    refine JL.alloc mX rfl fun b5 _=>?_
    refine JL.ag (cs:=elv.l.map aj) cu rfl rfl rfl (bn _) .here rfl ?_
    repeat (first | refine JC.seq ?_ | refine JL.nil ?_ | refine JE.next ?_)
    let vs : Nat→Nat→Value:=fun j x=>match j with
      | 0=>.agg (elv.l.map aj).toArray
      | 1=>.agg (q4.l.map aj).toArray
      | 2=>.agg (nine.l.map aj).toArray
      | 3=>.agg (o5.l.map aj).toArray
      | _=>Pt x 0
    let Ms : Nat→Nat→List aH:=fun j x=>match j with
      | 4=>[⟨x,Row 118 (bH.l.map aj),true⟩]
      | 5=>[⟨x,Row 118 (o5.l.map aj),true⟩]
      | 6=>[⟨b5,Row 118 (elv.l.map aj),true⟩]
      | 7=>[⟨b4,Row 118 (nine.l.map aj),true⟩]
      | 8=>[⟨b3,Row 118 (two.l.map aj),true⟩]
      | 9=>[⟨b2,Row 118 (bH.l.map aj),true⟩]
      | 10=>[⟨b1,Row 118 (n.l.map aj),true⟩]
      | _=>[]
    refine JC.grow (g:=⟨[(5,Pt b5 0),(4,Pt b4 0),(1,Pt b1 0),(2,Pt b2 0),(3,Pt b3 0)],11,vs,Ms,(fun j=>match j with | 1=>[(0,23)] | 3=>[(1,24),(2,25)] | 5=>[(4,6),(3,26)] | _=>[]),(fun j=>match j with | 0=>[6] | 2=>[7] | 5=>[4] | _=>[]),(fun j=>match j with | 5=>[4] | _=>[]),(fun j=>match j with | 5=>some 4 | _=>none)⟩) [(4,6)] [5,6,7,8,9,10] fc (by repeat (first | exact ai.nil | refine ai.cons _ _ _ rfl ?_)) (aq.refl _) (by kernel_rfl) (by kernel_rfl) (by kernel_rfl) ?_ ?_
    · refine ⟨?_,?_,?_,?_,?_,?_,trivial⟩
      · (intro x EF MF Q kk;exact JL.q (OQ.af (cs:=elv.l.map aj) eU cu rfl .here rfl Row.all) rfl (JL.nil (kk default nofun)))
      · (intro x EF MF Q kk;exact JL.q (OQ.au (vs:=[.agg (elv.l.map aj).toArray,N 1]) cv rfl fun w' _=>c_q4 w') rfl (JL.nil (kk default nofun)))
      · (intro x EF MF Q kk;exact JL.q (OQ.af (cs:=nine.l.map aj) eU cu rfl .here rfl Row.all) rfl (JL.nil (kk default nofun)))
      · (intro x EF MF Q kk;exact JL.q (OQ.au (vs:=[.agg (q4.l.map aj).toArray,.agg (nine.l.map aj).toArray]) aQ rfl fun w' _=>c_o5 w') rfl (JL.nil (kk default nofun)))
      · (intro x EF MF Q kk;exact JL.alloc mX rfl fun b _=>JL.nil (kk b nofun))
      · (intro x EF MF Q kk;exact JL.ag (cs:=o5.l.map aj) cu rfl rfl rfl (bn _) .here rfl (JL.nil (kk (x 4) (fun k h=>by cases h;rfl))))
    · intro x hx
      have h5:=hx 5 4 (by decide) rfl
      show JE _ _ _ _ _ [(6,Pt (x 4) 0),(5,Pt b5 0),(4,Pt b4 0),(1,Pt b1 0),(2,Pt b2 0),(3,Pt b3 0)] [⟨(x 5),Row 118 (o5.l.map aj),true⟩,⟨b5,Row 118 (elv.l.map aj),true⟩,⟨b4,Row 118 (nine.l.map aj),true⟩,⟨b3,Row 118 (two.l.map aj),true⟩,⟨b2,Row 118 (bH.l.map aj),true⟩,⟨b1,Row 118 (n.l.map aj),true⟩]
      rw [h5]
      generalize x 4=b6
      clear hx h5 x vs Ms
      repeat (first | refine JC.seq ?_ | refine JE.next ?_)
      let vs : Nat→Nat→Value:=fun j x=>match j with
        | 0=>.agg (o5.l.map aj).toArray
        | 1=>.agg (q5.l.map aj).toArray
        | 2=>.agg (o5.l.map aj).toArray
        | 3=>.agg (ki.l.map aj).toArray
        | _=>Pt x 0
      let Ms : Nat→Nat→List aH:=fun j x=>match j with
        | 4=>[⟨x,Row 118 (bH.l.map aj),true⟩]
        | 5=>[⟨x,Row 118 (ki.l.map aj),true⟩]
        | 6=>[⟨b6,Row 118 (o5.l.map aj),true⟩]
        | 7=>[⟨b5,Row 118 (elv.l.map aj),true⟩]
        | 8=>[⟨b4,Row 118 (nine.l.map aj),true⟩]
        | 9=>[⟨b3,Row 118 (two.l.map aj),true⟩]
        | 10=>[⟨b2,Row 118 (bH.l.map aj),true⟩]
        | 11=>[⟨b1,Row 118 (n.l.map aj),true⟩]
        | _=>[]
      refine JC.grow (g:=⟨[(6,Pt b6 0),(5,Pt b5 0),(4,Pt b4 0),(1,Pt b1 0),(2,Pt b2 0),(3,Pt b3 0)],12,vs,Ms,(fun j=>match j with | 1=>[(0,27)] | 3=>[(1,28),(2,29)] | 5=>[(4,7),(3,30)] | _=>[]),(fun j=>match j with | 0=>[6] | 2=>[6] | 5=>[4] | _=>[]),(fun j=>match j with | 5=>[4] | _=>[]),(fun j=>match j with | 5=>some 4 | _=>none)⟩) [(4,7)] [5,6,7,8,9,10,11] fc (by repeat (first | exact ai.nil | refine ai.cons _ _ _ rfl ?_)) (aq.refl _) (by kernel_rfl) (by kernel_rfl) (by kernel_rfl) ?_ ?_
      · refine ⟨?_,?_,?_,?_,?_,?_,trivial⟩
        · (intro x EF MF Q kk;exact JL.q (OQ.af (cs:=o5.l.map aj) eU cu rfl .here rfl Row.all) rfl (JL.nil (kk default nofun)))
        · (intro x EF MF Q kk;exact JL.q (OQ.au (vs:=[.agg (o5.l.map aj).toArray,N 5]) cv rfl fun w' _=>c_q5 w') rfl (JL.nil (kk default nofun)))
        · (intro x EF MF Q kk;exact JL.q (OQ.af (cs:=o5.l.map aj) eU cu rfl .here rfl Row.all) rfl (JL.nil (kk default nofun)))
        · (intro x EF MF Q kk;exact JL.q (OQ.au (vs:=[.agg (q5.l.map aj).toArray,.agg (o5.l.map aj).toArray]) aQ rfl fun w' _=>c_o10 w') rfl (JL.nil (kk default nofun)))
        · (intro x EF MF Q kk;exact JL.alloc mX rfl fun b _=>JL.nil (kk b nofun))
        · (intro x EF MF Q kk;exact JL.ag (cs:=ki.l.map aj) cu rfl rfl rfl (bn _) .here rfl (JL.nil (kk (x 4) (fun k h=>by cases h;rfl))))
      · intro x hx
        have h5:=hx 5 4 (by decide) rfl
        show JE _ _ _ _ _ [(7,Pt (x 4) 0),(6,Pt b6 0),(5,Pt b5 0),(4,Pt b4 0),(1,Pt b1 0),(2,Pt b2 0),(3,Pt b3 0)] [⟨(x 5),Row 118 (ki.l.map aj),true⟩,⟨b6,Row 118 (o5.l.map aj),true⟩,⟨b5,Row 118 (elv.l.map aj),true⟩,⟨b4,Row 118 (nine.l.map aj),true⟩,⟨b3,Row 118 (two.l.map aj),true⟩,⟨b2,Row 118 (bH.l.map aj),true⟩,⟨b1,Row 118 (n.l.map aj),true⟩]
        rw [h5]
        generalize x 4=b7
        clear hx h5 x vs Ms
        repeat (first | refine JC.seq ?_ | refine JE.next ?_)
        let vs : Nat→Nat→Value:=fun j x=>match j with
          | 0=>.agg (ki.l.map aj).toArray
          | 1=>.agg (q6.l.map aj).toArray
          | 2=>.agg (ki.l.map aj).toArray
          | 3=>.agg (nN.l.map aj).toArray
          | _=>Pt x 0
        let Ms : Nat→Nat→List aH:=fun j x=>match j with
          | 4=>[⟨x,Row 118 (bH.l.map aj),true⟩]
          | 5=>[⟨x,Row 118 (nN.l.map aj),true⟩]
          | 6=>[⟨b7,Row 118 (ki.l.map aj),true⟩]
          | 7=>[⟨b6,Row 118 (o5.l.map aj),true⟩]
          | 8=>[⟨b5,Row 118 (elv.l.map aj),true⟩]
          | 9=>[⟨b4,Row 118 (nine.l.map aj),true⟩]
          | 10=>[⟨b3,Row 118 (two.l.map aj),true⟩]
          | 11=>[⟨b2,Row 118 (bH.l.map aj),true⟩]
          | 12=>[⟨b1,Row 118 (n.l.map aj),true⟩]
          | _=>[]
        refine JC.grow (g:=⟨[(7,Pt b7 0),(6,Pt b6 0),(5,Pt b5 0),(4,Pt b4 0),(1,Pt b1 0),(2,Pt b2 0),(3,Pt b3 0)],13,vs,Ms,(fun j=>match j with | 1=>[(0,31)] | 3=>[(1,32),(2,33)] | 5=>[(4,8),(3,34)] | _=>[]),(fun j=>match j with | 0=>[6] | 2=>[6] | 5=>[4] | _=>[]),(fun j=>match j with | 5=>[4] | _=>[]),(fun j=>match j with | 5=>some 4 | _=>none)⟩) [(4,8)] [5,6,7,8,9,10,11,12] fc (by repeat (first | exact ai.nil | refine ai.cons _ _ _ rfl ?_)) (aq.refl _) (by kernel_rfl) (by kernel_rfl) (by kernel_rfl) ?_ ?_
        · refine ⟨?_,?_,?_,?_,?_,?_,trivial⟩
          · (intro x EF MF Q kk;exact JL.q (OQ.af (cs:=ki.l.map aj) eU cu rfl .here rfl Row.all) rfl (JL.nil (kk default nofun)))
          · (intro x EF MF Q kk;exact JL.q (OQ.au (vs:=[.agg (ki.l.map aj).toArray,N 10]) cv rfl fun w' _=>c_q6 w') rfl (JL.nil (kk default nofun)))
          · (intro x EF MF Q kk;exact JL.q (OQ.af (cs:=ki.l.map aj) eU cu rfl .here rfl Row.all) rfl (JL.nil (kk default nofun)))
          · (intro x EF MF Q kk;exact JL.q (OQ.au (vs:=[.agg (q6.l.map aj).toArray,.agg (ki.l.map aj).toArray]) aQ rfl fun w' _=>c_o20 w') rfl (JL.nil (kk default nofun)))
          · (intro x EF MF Q kk;exact JL.alloc mX rfl fun b _=>JL.nil (kk b nofun))
          · (intro x EF MF Q kk;exact JL.ag (cs:=nN.l.map aj) cu rfl rfl rfl (bn _) .here rfl (JL.nil (kk (x 4) (fun k h=>by cases h;rfl))))
        · intro x hx
          have h5:=hx 5 4 (by decide) rfl
          show JE _ _ _ _ _ [(8,Pt (x 4) 0),(7,Pt b7 0),(6,Pt b6 0),(5,Pt b5 0),(4,Pt b4 0),(1,Pt b1 0),(2,Pt b2 0),(3,Pt b3 0)] [⟨(x 5),Row 118 (nN.l.map aj),true⟩,⟨b7,Row 118 (ki.l.map aj),true⟩,⟨b6,Row 118 (o5.l.map aj),true⟩,⟨b5,Row 118 (elv.l.map aj),true⟩,⟨b4,Row 118 (nine.l.map aj),true⟩,⟨b3,Row 118 (two.l.map aj),true⟩,⟨b2,Row 118 (bH.l.map aj),true⟩,⟨b1,Row 118 (n.l.map aj),true⟩]
          rw [h5]
          generalize x 4=b8
          clear hx h5 x vs Ms
          repeat (first | refine JC.seq ?_ | refine JE.next ?_)
          let vs : Nat→Nat→Value:=fun j x=>match j with
            | 0=>.agg (nN.l.map aj).toArray
            | 1=>.agg (q7.l.map aj).toArray
            | 2=>.agg (nN.l.map aj).toArray
            | 3=>.agg (sD.l.map aj).toArray
            | _=>Pt x 0
          let Ms : Nat→Nat→List aH:=fun j x=>match j with
            | 4=>[⟨x,Row 118 (bH.l.map aj),true⟩]
            | 5=>[⟨x,Row 118 (sD.l.map aj),true⟩]
            | 6=>[⟨b8,Row 118 (nN.l.map aj),true⟩]
            | 7=>[⟨b7,Row 118 (ki.l.map aj),true⟩]
            | 8=>[⟨b6,Row 118 (o5.l.map aj),true⟩]
            | 9=>[⟨b5,Row 118 (elv.l.map aj),true⟩]
            | 10=>[⟨b4,Row 118 (nine.l.map aj),true⟩]
            | 11=>[⟨b3,Row 118 (two.l.map aj),true⟩]
            | 12=>[⟨b2,Row 118 (bH.l.map aj),true⟩]
            | 13=>[⟨b1,Row 118 (n.l.map aj),true⟩]
            | _=>[]
          refine JC.grow (g:=⟨[(8,Pt b8 0),(7,Pt b7 0),(6,Pt b6 0),(5,Pt b5 0),(4,Pt b4 0),(1,Pt b1 0),(2,Pt b2 0),(3,Pt b3 0)],14,vs,Ms,(fun j=>match j with | 1=>[(0,35)] | 3=>[(1,36),(2,37)] | 5=>[(4,9),(3,38)] | _=>[]),(fun j=>match j with | 0=>[6] | 2=>[6] | 5=>[4] | _=>[]),(fun j=>match j with | 5=>[4] | _=>[]),(fun j=>match j with | 5=>some 4 | _=>none)⟩) [(4,9)] [5,6,7,8,9,10,11,12,13] fc (by repeat (first | exact ai.nil | refine ai.cons _ _ _ rfl ?_)) (aq.refl _) (by kernel_rfl) (by kernel_rfl) (by kernel_rfl) ?_ ?_
          · refine ⟨?_,?_,?_,?_,?_,?_,trivial⟩
            · (intro x EF MF Q kk;exact JL.q (OQ.af (cs:=nN.l.map aj) eU cu rfl .here rfl Row.all) rfl (JL.nil (kk default nofun)))
            · (intro x EF MF Q kk;exact JL.q (OQ.au (vs:=[.agg (nN.l.map aj).toArray,N 20]) cv rfl fun w' _=>c_q7 w') rfl (JL.nil (kk default nofun)))
            · (intro x EF MF Q kk;exact JL.q (OQ.af (cs:=nN.l.map aj) eU cu rfl .here rfl Row.all) rfl (JL.nil (kk default nofun)))
            · (intro x EF MF Q kk;exact JL.q (OQ.au (vs:=[.agg (q7.l.map aj).toArray,.agg (nN.l.map aj).toArray]) aQ rfl fun w' _=>c_o40 w') rfl (JL.nil (kk default nofun)))
            · (intro x EF MF Q kk;exact JL.alloc mX rfl fun b _=>JL.nil (kk b nofun))
            · (intro x EF MF Q kk;exact JL.ag (cs:=sD.l.map aj) cu rfl rfl rfl (bn _) .here rfl (JL.nil (kk (x 4) (fun k h=>by cases h;rfl))))
          · intro x hx
            have h5:=hx 5 4 (by decide) rfl
            show JE _ _ _ _ _ [(9,Pt (x 4) 0),(8,Pt b8 0),(7,Pt b7 0),(6,Pt b6 0),(5,Pt b5 0),(4,Pt b4 0),(1,Pt b1 0),(2,Pt b2 0),(3,Pt b3 0)] [⟨(x 5),Row 118 (sD.l.map aj),true⟩,⟨b8,Row 118 (nN.l.map aj),true⟩,⟨b7,Row 118 (ki.l.map aj),true⟩,⟨b6,Row 118 (o5.l.map aj),true⟩,⟨b5,Row 118 (elv.l.map aj),true⟩,⟨b4,Row 118 (nine.l.map aj),true⟩,⟨b3,Row 118 (two.l.map aj),true⟩,⟨b2,Row 118 (bH.l.map aj),true⟩,⟨b1,Row 118 (n.l.map aj),true⟩]
            rw [h5]
            generalize x 4=b9
            clear hx h5 x vs Ms
            repeat (first | refine JC.seq ?_ | refine JE.next ?_)
            let vs : Nat→Nat→Value:=fun j x=>match j with
              | 0=>.agg (sD.l.map aj).toArray
              | 1=>.agg (q8.l.map aj).toArray
              | 2=>.agg (ki.l.map aj).toArray
              | 3=>.agg (mj.l.map aj).toArray
              | _=>Pt x 0
            let Ms : Nat→Nat→List aH:=fun j x=>match j with
              | 4=>[⟨x,Row 118 (bH.l.map aj),true⟩]
              | 5=>[⟨x,Row 118 (mj.l.map aj),true⟩]
              | 6=>[⟨b9,Row 118 (sD.l.map aj),true⟩]
              | 7=>[⟨b8,Row 118 (nN.l.map aj),true⟩]
              | 8=>[⟨b7,Row 118 (ki.l.map aj),true⟩]
              | 9=>[⟨b6,Row 118 (o5.l.map aj),true⟩]
              | 10=>[⟨b5,Row 118 (elv.l.map aj),true⟩]
              | 11=>[⟨b4,Row 118 (nine.l.map aj),true⟩]
              | 12=>[⟨b3,Row 118 (two.l.map aj),true⟩]
              | 13=>[⟨b2,Row 118 (bH.l.map aj),true⟩]
              | 14=>[⟨b1,Row 118 (n.l.map aj),true⟩]
              | _=>[]
            refine JC.grow (g:=⟨[(9,Pt b9 0),(8,Pt b8 0),(7,Pt b7 0),(6,Pt b6 0),(5,Pt b5 0),(4,Pt b4 0),(1,Pt b1 0),(2,Pt b2 0),(3,Pt b3 0)],15,vs,Ms,(fun j=>match j with | 1=>[(0,39)] | 3=>[(1,40),(2,41)] | 5=>[(4,10),(3,42)] | _=>[]),(fun j=>match j with | 0=>[6] | 2=>[8] | 5=>[4] | _=>[]),(fun j=>match j with | 5=>[4] | _=>[]),(fun j=>match j with | 5=>some 4 | _=>none)⟩) [(4,10)] [5,6,7,8,9,10,11,12,13,14] fc (by repeat (first | exact ai.nil | refine ai.cons _ _ _ rfl ?_)) (aq.refl _) (by kernel_rfl) (by kernel_rfl) (by kernel_rfl) ?_ ?_
            · refine ⟨?_,?_,?_,?_,?_,?_,trivial⟩
              · (intro x EF MF Q kk;exact JL.q (OQ.af (cs:=sD.l.map aj) eU cu rfl .here rfl Row.all) rfl (JL.nil (kk default nofun)))
              · (intro x EF MF Q kk;exact JL.q (OQ.au (vs:=[.agg (sD.l.map aj).toArray,N 10]) cv rfl fun w' _=>c_q8 w') rfl (JL.nil (kk default nofun)))
              · (intro x EF MF Q kk;exact JL.q (OQ.af (cs:=ki.l.map aj) eU cu rfl .here rfl Row.all) rfl (JL.nil (kk default nofun)))
              · (intro x EF MF Q kk;exact JL.q (OQ.au (vs:=[.agg (q8.l.map aj).toArray,.agg (ki.l.map aj).toArray]) aQ rfl fun w' _=>c_o50 w') rfl (JL.nil (kk default nofun)))
              · (intro x EF MF Q kk;exact JL.alloc mX rfl fun b _=>JL.nil (kk b nofun))
              · (intro x EF MF Q kk;exact JL.ag (cs:=mj.l.map aj) cu rfl rfl rfl (bn _) .here rfl (JL.nil (kk (x 4) (fun k h=>by cases h;rfl))))
            · intro x hx
              have h5:=hx 5 4 (by decide) rfl
              show JE _ _ _ _ _ [(10,Pt (x 4) 0),(9,Pt b9 0),(8,Pt b8 0),(7,Pt b7 0),(6,Pt b6 0),(5,Pt b5 0),(4,Pt b4 0),(1,Pt b1 0),(2,Pt b2 0),(3,Pt b3 0)] [⟨(x 5),Row 118 (mj.l.map aj),true⟩,⟨b9,Row 118 (sD.l.map aj),true⟩,⟨b8,Row 118 (nN.l.map aj),true⟩,⟨b7,Row 118 (ki.l.map aj),true⟩,⟨b6,Row 118 (o5.l.map aj),true⟩,⟨b5,Row 118 (elv.l.map aj),true⟩,⟨b4,Row 118 (nine.l.map aj),true⟩,⟨b3,Row 118 (two.l.map aj),true⟩,⟨b2,Row 118 (bH.l.map aj),true⟩,⟨b1,Row 118 (n.l.map aj),true⟩]
              rw [h5]
              generalize x 4=b10
              clear hx h5 x vs Ms
              repeat (first | refine JC.seq ?_ | refine JE.next ?_)
              let vs : Nat→Nat→Value:=fun j x=>match j with
                | 0=>.agg (mj.l.map aj).toArray
                | 1=>.agg (q9.l.map aj).toArray
                | 2=>.agg (mj.l.map aj).toArray
                | 3=>.agg (iu.l.map aj).toArray
                | _=>Pt x 0
              let Ms : Nat→Nat→List aH:=fun j x=>match j with
                | 4=>[⟨x,Row 118 (bH.l.map aj),true⟩]
                | 5=>[⟨x,Row 118 (iu.l.map aj),true⟩]
                | 6=>[⟨b10,Row 118 (mj.l.map aj),true⟩]
                | 7=>[⟨b9,Row 118 (sD.l.map aj),true⟩]
                | 8=>[⟨b8,Row 118 (nN.l.map aj),true⟩]
                | 9=>[⟨b7,Row 118 (ki.l.map aj),true⟩]
                | 10=>[⟨b6,Row 118 (o5.l.map aj),true⟩]
                | 11=>[⟨b5,Row 118 (elv.l.map aj),true⟩]
                | 12=>[⟨b4,Row 118 (nine.l.map aj),true⟩]
                | 13=>[⟨b3,Row 118 (two.l.map aj),true⟩]
                | 14=>[⟨b2,Row 118 (bH.l.map aj),true⟩]
                | 15=>[⟨b1,Row 118 (n.l.map aj),true⟩]
                | _=>[]
              refine JC.grow (g:=⟨[(10,Pt b10 0),(9,Pt b9 0),(8,Pt b8 0),(7,Pt b7 0),(6,Pt b6 0),(5,Pt b5 0),(4,Pt b4 0),(1,Pt b1 0),(2,Pt b2 0),(3,Pt b3 0)],16,vs,Ms,(fun j=>match j with | 1=>[(0,43)] | 3=>[(1,44),(2,45)] | 5=>[(4,11),(3,46)] | _=>[]),(fun j=>match j with | 0=>[6] | 2=>[6] | 5=>[4] | _=>[]),(fun j=>match j with | 5=>[4] | _=>[]),(fun j=>match j with | 5=>some 4 | _=>none)⟩) [(4,11)] [5,6,7,8,9,10,11,12,13,14,15] fc (by repeat (first | exact ai.nil | refine ai.cons _ _ _ rfl ?_)) (aq.refl _) (by kernel_rfl) (by kernel_rfl) (by kernel_rfl) ?_ ?_
              · refine ⟨?_,?_,?_,?_,?_,?_,trivial⟩
                · (intro x EF MF Q kk;exact JL.q (OQ.af (cs:=mj.l.map aj) eU cu rfl .here rfl Row.all) rfl (JL.nil (kk default nofun)))
                · (intro x EF MF Q kk;exact JL.q (OQ.au (vs:=[.agg (mj.l.map aj).toArray,N 50]) cv rfl fun w' _=>c_q9 w') rfl (JL.nil (kk default nofun)))
                · (intro x EF MF Q kk;exact JL.q (OQ.af (cs:=mj.l.map aj) eU cu rfl .here rfl Row.all) rfl (JL.nil (kk default nofun)))
                · (intro x EF MF Q kk;exact JL.q (OQ.au (vs:=[.agg (q9.l.map aj).toArray,.agg (mj.l.map aj).toArray]) aQ rfl fun w' _=>c_o100 w') rfl (JL.nil (kk default nofun)))
                · (intro x EF MF Q kk;exact JL.alloc mX rfl fun b _=>JL.nil (kk b nofun))
                · (intro x EF MF Q kk;exact JL.ag (cs:=iu.l.map aj) cu rfl rfl rfl (bn _) .here rfl (JL.nil (kk (x 4) (fun k h=>by cases h;rfl))))
              · intro x hx
                have h5:=hx 5 4 (by decide) rfl
                show JE _ _ _ _ _ [(11,Pt (x 4) 0),(10,Pt b10 0),(9,Pt b9 0),(8,Pt b8 0),(7,Pt b7 0),(6,Pt b6 0),(5,Pt b5 0),(4,Pt b4 0),(1,Pt b1 0),(2,Pt b2 0),(3,Pt b3 0)] [⟨(x 5),Row 118 (iu.l.map aj),true⟩,⟨b10,Row 118 (mj.l.map aj),true⟩,⟨b9,Row 118 (sD.l.map aj),true⟩,⟨b8,Row 118 (nN.l.map aj),true⟩,⟨b7,Row 118 (ki.l.map aj),true⟩,⟨b6,Row 118 (o5.l.map aj),true⟩,⟨b5,Row 118 (elv.l.map aj),true⟩,⟨b4,Row 118 (nine.l.map aj),true⟩,⟨b3,Row 118 (two.l.map aj),true⟩,⟨b2,Row 118 (bH.l.map aj),true⟩,⟨b1,Row 118 (n.l.map aj),true⟩]
                rw [h5]
                generalize x 4=b11
                clear hx h5 x vs Ms
                repeat (first | refine JC.seq ?_ | refine JE.next ?_)
                let vs : Nat→Nat→Value:=fun j x=>match j with
                  | 0=>.agg (iu.l.map aj).toArray
                  | 1=>.agg (q10.l.map aj).toArray
                  | 2=>.agg (iu.l.map aj).toArray
                  | 3=>.agg (mo.l.map aj).toArray
                  | _=>Pt x 0
                let Ms : Nat→Nat→List aH:=fun j x=>match j with
                  | 4=>[⟨x,Row 118 (bH.l.map aj),true⟩]
                  | 5=>[⟨x,Row 118 (mo.l.map aj),true⟩]
                  | 6=>[⟨b11,Row 118 (iu.l.map aj),true⟩]
                  | 7=>[⟨b10,Row 118 (mj.l.map aj),true⟩]
                  | 8=>[⟨b9,Row 118 (sD.l.map aj),true⟩]
                  | 9=>[⟨b8,Row 118 (nN.l.map aj),true⟩]
                  | 10=>[⟨b7,Row 118 (ki.l.map aj),true⟩]
                  | 11=>[⟨b6,Row 118 (o5.l.map aj),true⟩]
                  | 12=>[⟨b5,Row 118 (elv.l.map aj),true⟩]
                  | 13=>[⟨b4,Row 118 (nine.l.map aj),true⟩]
                  | 14=>[⟨b3,Row 118 (two.l.map aj),true⟩]
                  | 15=>[⟨b2,Row 118 (bH.l.map aj),true⟩]
                  | 16=>[⟨b1,Row 118 (n.l.map aj),true⟩]
                  | _=>[]
                refine JC.grow (g:=⟨[(11,Pt b11 0),(10,Pt b10 0),(9,Pt b9 0),(8,Pt b8 0),(7,Pt b7 0),(6,Pt b6 0),(5,Pt b5 0),(4,Pt b4 0),(1,Pt b1 0),(2,Pt b2 0),(3,Pt b3 0)],17,vs,Ms,(fun j=>match j with | 1=>[(0,47)] | 3=>[(1,48),(2,49)] | 5=>[(4,12),(3,50)] | _=>[]),(fun j=>match j with | 0=>[6] | 2=>[6] | 5=>[4] | _=>[]),(fun j=>match j with | 5=>[4] | _=>[]),(fun j=>match j with | 5=>some 4 | _=>none)⟩) [(4,12)] [5,6,7,8,9,10,11,12,13,14,15,16] fc (by repeat (first | exact ai.nil | refine ai.cons _ _ _ rfl ?_)) (aq.refl _) (by kernel_rfl) (by kernel_rfl) (by kernel_rfl) ?_ ?_
                · refine ⟨?_,?_,?_,?_,?_,?_,trivial⟩
                  · (intro x EF MF Q kk;exact JL.q (OQ.af (cs:=iu.l.map aj) eU cu rfl .here rfl Row.all) rfl (JL.nil (kk default nofun)))
                  · (intro x EF MF Q kk;exact JL.q (OQ.au (vs:=[.agg (iu.l.map aj).toArray,N 100]) cv rfl fun w' _=>c_q10 w') rfl (JL.nil (kk default nofun)))
                  · (intro x EF MF Q kk;exact JL.q (OQ.af (cs:=iu.l.map aj) eU cu rfl .here rfl Row.all) rfl (JL.nil (kk default nofun)))
                  · (intro x EF MF Q kk;exact JL.q (OQ.au (vs:=[.agg (q10.l.map aj).toArray,.agg (iu.l.map aj).toArray]) aQ rfl fun w' _=>c_o200 w') rfl (JL.nil (kk default nofun)))
                  · (intro x EF MF Q kk;exact JL.alloc mX rfl fun b _=>JL.nil (kk b nofun))
                  · (intro x EF MF Q kk;exact JL.ag (cs:=mo.l.map aj) cu rfl rfl rfl (bn _) .here rfl (JL.nil (kk (x 4) (fun k h=>by cases h;rfl))))
                · intro x hx
                  have h5:=hx 5 4 (by decide) rfl
                  show JE _ _ _ _ _ [(12,Pt (x 4) 0),(11,Pt b11 0),(10,Pt b10 0),(9,Pt b9 0),(8,Pt b8 0),(7,Pt b7 0),(6,Pt b6 0),(5,Pt b5 0),(4,Pt b4 0),(1,Pt b1 0),(2,Pt b2 0),(3,Pt b3 0)] [⟨(x 5),Row 118 (mo.l.map aj),true⟩,⟨b11,Row 118 (iu.l.map aj),true⟩,⟨b10,Row 118 (mj.l.map aj),true⟩,⟨b9,Row 118 (sD.l.map aj),true⟩,⟨b8,Row 118 (nN.l.map aj),true⟩,⟨b7,Row 118 (ki.l.map aj),true⟩,⟨b6,Row 118 (o5.l.map aj),true⟩,⟨b5,Row 118 (elv.l.map aj),true⟩,⟨b4,Row 118 (nine.l.map aj),true⟩,⟨b3,Row 118 (two.l.map aj),true⟩,⟨b2,Row 118 (bH.l.map aj),true⟩,⟨b1,Row 118 (n.l.map aj),true⟩]
                  rw [h5]
                  generalize x 4=b12
                  clear hx h5 x vs Ms
                  repeat (first | refine JC.seq ?_ | refine JE.next ?_)
                  let vs : Nat→Nat→Value:=fun j x=>match j with
                    | 0=>.agg (mo.l.map aj).toArray
                    | 1=>.agg (q11.l.map aj).toArray
                    | 2=>.agg (mj.l.map aj).toArray
                    | 3=>.agg (pe.l.map aj).toArray
                    | _=>Pt x 0
                  let Ms : Nat→Nat→List aH:=fun j x=>match j with
                    | 4=>[⟨x,Row 118 (bH.l.map aj),true⟩]
                    | 5=>[⟨x,Row 118 (pe.l.map aj),true⟩]
                    | 6=>[⟨b12,Row 118 (mo.l.map aj),true⟩]
                    | 7=>[⟨b11,Row 118 (iu.l.map aj),true⟩]
                    | 8=>[⟨b10,Row 118 (mj.l.map aj),true⟩]
                    | 9=>[⟨b9,Row 118 (sD.l.map aj),true⟩]
                    | 10=>[⟨b8,Row 118 (nN.l.map aj),true⟩]
                    | 11=>[⟨b7,Row 118 (ki.l.map aj),true⟩]
                    | 12=>[⟨b6,Row 118 (o5.l.map aj),true⟩]
                    | 13=>[⟨b5,Row 118 (elv.l.map aj),true⟩]
                    | 14=>[⟨b4,Row 118 (nine.l.map aj),true⟩]
                    | 15=>[⟨b3,Row 118 (two.l.map aj),true⟩]
                    | 16=>[⟨b2,Row 118 (bH.l.map aj),true⟩]
                    | 17=>[⟨b1,Row 118 (n.l.map aj),true⟩]
                    | _=>[]
                  refine JC.grow (g:=⟨[(12,Pt b12 0),(11,Pt b11 0),(10,Pt b10 0),(9,Pt b9 0),(8,Pt b8 0),(7,Pt b7 0),(6,Pt b6 0),(5,Pt b5 0),(4,Pt b4 0),(1,Pt b1 0),(2,Pt b2 0),(3,Pt b3 0)],18,vs,Ms,(fun j=>match j with | 1=>[(0,51)] | 3=>[(1,52),(2,53)] | 5=>[(4,13),(3,54)] | _=>[]),(fun j=>match j with | 0=>[6] | 2=>[8] | 5=>[4] | _=>[]),(fun j=>match j with | 5=>[4] | _=>[]),(fun j=>match j with | 5=>some 4 | _=>none)⟩) [(4,13)] [5,6,7,8,9,10,11,12,13,14,15,16,17] fc (by repeat (first | exact ai.nil | refine ai.cons _ _ _ rfl ?_)) (aq.refl _) (by kernel_rfl) (by kernel_rfl) (by kernel_rfl) ?_ ?_
                  · refine ⟨?_,?_,?_,?_,?_,?_,trivial⟩
                    · (intro x EF MF Q kk;exact JL.q (OQ.af (cs:=mo.l.map aj) eU cu rfl .here rfl Row.all) rfl (JL.nil (kk default nofun)))
                    · (intro x EF MF Q kk;exact JL.q (OQ.au (vs:=[.agg (mo.l.map aj).toArray,N 50]) cv rfl fun w' _=>c_q11 w') rfl (JL.nil (kk default nofun)))
                    · (intro x EF MF Q kk;exact JL.q (OQ.af (cs:=mj.l.map aj) eU cu rfl .here rfl Row.all) rfl (JL.nil (kk default nofun)))
                    · (intro x EF MF Q kk;exact JL.q (OQ.au (vs:=[.agg (q11.l.map aj).toArray,.agg (mj.l.map aj).toArray]) aQ rfl fun w' _=>c_o250 w') rfl (JL.nil (kk default nofun)))
                    · (intro x EF MF Q kk;exact JL.alloc mX rfl fun b _=>JL.nil (kk b nofun))
                    · (intro x EF MF Q kk;exact JL.ag (cs:=pe.l.map aj) cu rfl rfl rfl (bn _) .here rfl (JL.nil (kk (x 4) (fun k h=>by cases h;rfl))))
                  · intro x hx
                    have h5:=hx 5 4 (by decide) rfl
                    show JE _ _ _ _ _ [(13,Pt (x 4) 0),(12,Pt b12 0),(11,Pt b11 0),(10,Pt b10 0),(9,Pt b9 0),(8,Pt b8 0),(7,Pt b7 0),(6,Pt b6 0),(5,Pt b5 0),(4,Pt b4 0),(1,Pt b1 0),(2,Pt b2 0),(3,Pt b3 0)] [⟨(x 5),Row 118 (pe.l.map aj),true⟩,⟨b12,Row 118 (mo.l.map aj),true⟩,⟨b11,Row 118 (iu.l.map aj),true⟩,⟨b10,Row 118 (mj.l.map aj),true⟩,⟨b9,Row 118 (sD.l.map aj),true⟩,⟨b8,Row 118 (nN.l.map aj),true⟩,⟨b7,Row 118 (ki.l.map aj),true⟩,⟨b6,Row 118 (o5.l.map aj),true⟩,⟨b5,Row 118 (elv.l.map aj),true⟩,⟨b4,Row 118 (nine.l.map aj),true⟩,⟨b3,Row 118 (two.l.map aj),true⟩,⟨b2,Row 118 (bH.l.map aj),true⟩,⟨b1,Row 118 (n.l.map aj),true⟩]
                    rw [h5]
                    generalize x 4=b13
                    clear hx h5 x vs Ms
                    repeat (first | refine JC.seq ?_ | refine JE.next ?_)
                    refine JC.tail 4 fc (by kernel_rfl) ?_
                    simp only [List.take_succ_cons,List.take_zero,List.drop_succ_cons,List.drop_zero]
                    repeat (first | refine JQ.q (by first|(apply OQ.af (cs:=pe.l.map aj);exact eU;exact cu;rfl;exact (by repeat (first | exact Has.here | apply Has.there));rfl;exact Row.all)|(apply OQ.af (cs:=elv.l.map aj);exact eU;exact cu;rfl;exact (by repeat (first | exact Has.here | apply Has.there));rfl;exact Row.all)|(apply OQ.au (vs:=[.agg (pe.l.map aj).toArray,N 5]);exact cv;rfl;exact (fun w' _=>c_q12 w'))|(apply OQ.au (vs:=[.agg (q12.l.map aj).toArray,.agg (elv.l.map aj).toArray]);exact aQ;rfl;exact (fun w' _=>c_fin w'))) rfl ?_ | refine JQ.bA ?_)
                    refine JL.ag (cs:=fin.l.map aj) cu rfl rfl rfl (bn _) (by repeat (first | exact ff.here | apply ff.there)) rfl ?_
                    repeat (first | refine JL.nil ?_ | refine JE.next ?_)
                    refine JC.ret (JE.aJ rfl (RV.av eU cu rfl (by repeat (first | exact Has.here | apply Has.there)) rfl Row.all) ?_)
                    exact fun w' hw=>⟨rfl,hw.aM⟩
end
section
set_option maxRecDepth 10000
open Sl dZ
theorem EX {l : List dY} {i : Nat} (h : i<l.length) : (l.map aj)[i]?=some (aj (l.getD i 0)):=by
  simp [h]
theorem EY (l : List dY) (i : Nat) (x : dY) : (l.map aj).set i (aj x)=(l.set i x).map aj:=by rw [List.map_set]
theorem zM : aI Tryz.prog 102:=⟨_,Tryz.func102,rfl,by kernel_rfl⟩
theorem Cs : aI Tryz.prog 80:=⟨_,Tryz.func80,rfl,by kernel_rfl⟩
theorem nO : aI Tryz.prog 95:=⟨_,Tryz.func95,rfl,by kernel_rfl⟩
theorem mu : aI Tryz.prog 76:=⟨_,Tryz.func76,rfl,by kernel_rfl⟩
set_option maxHeartbeats 16000000 in
theorem Ct (n : N5) (w : World) : Calls Tryz.prog 102 [.agg (n.l.map aj).toArray].toArray w fun e w'=>e=.returned (.agg ((vO n).l.map aj).toArray)∧Ext w w':=by
  have eL:=GI n
  have hll : ∀ c i,(FM n.l c i).length=5:=fun c i=>A3 n.l c i
  refine enter (n:=36) Tryz.func102 rfl rfl rfl (ah.start w []) ?_
  repeat (first | refine JC.seq ?_ | refine JC.region ?_)
  refine JL.box (r:=n.l.map aj) rfl rfl rfl fun b1 _=>?_
  refine JL.alloc mX rfl fun b2 _=>?_
  repeat (first | refine JL.q (by first|(apply OQ.af (cs:=n.l.map aj);exact eU;exact cu;rfl;exact (.there .here);rfl;exact Row.all)|(apply OQ.move;rfl)|(apply OQ.assign;rfl)) rfl ?_ | refine JC.seq ?_ | refine JC.region ?_ | refine JC.block ?_ | refine JL.nil ?_ | refine JE.next ?_)
  refine JC.loop (fun i : Nat=>[(1,Pt b1 0),(2,Pt b2 0),(3,aj (iP n.l 19#64 i)),(9,.agg (n.l.map aj).toArray),(10,N i)])
    (fun _=>[⟨b2,Row 118 (bH.l.map aj),true⟩,⟨b1,Row 118 (n.l.map aj),true⟩])
    (fun i=>5 - i) (fun i=>i≤5) 0 (by omega) (by repeat (first | exact ai.nil | refine ai.cons _ _ _ rfl ?_)) (aq.refl _) ?_
  intro i hi
  repeat (first | refine JL.q (by (apply OQ.bP;rfl;rfl)) rfl ?_ | refine JC.seq ?_ | refine JC.region ?_ | refine JL.nil ?_ | refine JE.next ?_)
  refine JC.cond rfl (fun h=>?_) (fun h=>?_)
  · have hi' : i<5:=of_decide_eq_true h
    clear h hi
    have hc : (n.l.map aj)[i]?=some (aj (n.l.getD i 0)):=EX hi'
    have eR : iP n.l 19#64 (i+1)=(n.l.getD i 0+iP n.l 19#64 i) >>> 51:=rfl
    generalize n.l.getD i 0=y at hc eR
    repeat (first | refine JL.q (by first|(apply OQ.index;exact Tryz.underlying118;exact xH;exact gf;rfl;rfl;exact hi';exact hc)|(apply OQ.move;rfl)|(apply OQ.assign;rfl)|(apply OQ.oE;rfl;rfl)|(apply OQ.jR;rfl;rfl)|(apply OQ.aZ;rfl;rfl;exact (by (try simp only []);omega))) rfl ?_ | refine JC.seq ?_ | refine JC.region ?_ | refine JC.block ?_ | refine JC.skip ?_ | refine JL.nil ?_ | refine JE.next ?_ | refine JE.an ?_)
    refine JE.again (i:=i) (i+1) (by omega) (by omega) ?_ (aq.refl _)
    rw [eR]
    exact (by repeat (first | exact ai.nil | refine ai.cons _ _ _ rfl ?_))
  · have hi' : ¬ i<5:=of_decide_eq_false h
    obtain rfl : i=5:=by omega
    clear h hi hi'
    generalize iP n.l 19#64 5=ov at eL ⊢
    repeat (first | refine JL.q (by first|(apply OQ.af (cs:=n.l.map aj);exact eU;exact cu;rfl;exact (.there .here);rfl;exact Row.all)|(apply OQ.qm (a:=19#64);rfl;rfl)|(apply OQ.move;rfl)|(apply OQ.assign;rfl)) rfl ?_ | refine JC.seq ?_ | refine JC.region ?_ | refine JC.block ?_ | refine JC.exit ?_ | refine JL.nil ?_ | refine JE.next ?_ | refine JE.ax ?_ | refine JE.aA ?_)
    generalize 19#64 * ov=C at eL ⊢
    refine JC.loop (fun i : Nat=>[(1,Pt b1 0),(2,Pt b2 0),(6,aj (iP n.l C i)),(20,.agg (n.l.map aj).toArray),(21,N i)])
      (fun i=>[⟨b2,Row 118 (bH.l.map aj),true⟩,⟨b1,Row 118 ((FM n.l C i).map aj),true⟩])
      (fun i=>5 - i) (fun i=>i≤5) 0 (by omega) (by repeat (first | exact ai.nil | refine ai.cons _ _ _ rfl ?_)) (aq.refl _) ?_
    intro i hi
    repeat (first | refine JL.q (by (apply OQ.bP;rfl;rfl)) rfl ?_ | refine JC.seq ?_ | refine JC.region ?_ | refine JL.nil ?_ | refine JE.next ?_)
    refine JC.cond rfl (fun h=>?_) (fun h=>?_)
    · have hi' : i<5:=of_decide_eq_true h
      clear h hi
      have hc : (n.l.map aj)[i]?=some (aj (n.l.getD i 0)):=EX hi'
      have eR : iP n.l C (i+1)=(n.l.getD i 0+iP n.l C i) >>> 51:=rfl
      have eS : FM n.l C (i+1)=(FM n.l C i).set i ((n.l.getD i 0+iP n.l C i) &&& 2251799813685247#64):=rfl
      have hlen:=hll C i
      generalize FM n.l C i=X at eS hlen ⊢
      generalize n.l.getD i 0=y at hc eR eS
      repeat (first | refine JL.q (by first|(apply OQ.index;exact Tryz.underlying118;exact xH;exact gf;rfl;rfl;exact hi';exact hc)|(apply OQ.nC (b:=2251799813685247#64);rfl;rfl)|(apply OQ.aE;exact Tryz.underlying118;exact xH;rfl;rfl;exact hi')|(apply OQ.move;rfl)|(apply OQ.assign;rfl)|(apply OQ.oE;rfl;rfl)|(apply OQ.jR;rfl;rfl)) rfl ?_ | refine JC.seq ?_ | refine JC.region ?_ | refine JC.block ?_ | refine JC.skip ?_ | refine JL.nil ?_ | refine JE.next ?_)
      refine JL.az (r':=(FM n.l C (i+1)).map aj) xH rfl rfl rfl rfl (.there .here) (by rw [List.length_map,hlen];exact hi') (by rw [eS];exact EY _ _ _) ?_
      repeat (first | refine JL.q (by first|(apply OQ.move;rfl)|(apply OQ.assign;rfl)|(apply OQ.aZ;rfl;rfl;exact (by (try simp only []);omega))) rfl ?_ | refine JC.region ?_ | refine JL.nil ?_ | refine JE.next ?_ | refine JE.an ?_)
      refine JE.again (i:=i) (i+1) (by omega) (by omega) ?_ (aq.refl _)
      rw [eR]
      exact (by repeat (first | exact ai.nil | refine ai.cons _ _ _ rfl ?_))
    · have hi' : ¬ i<5:=of_decide_eq_false h
      obtain rfl : i=5:=by omega
      clear h hi hi'
      rw [eL]
      generalize vO n=X
      repeat (first | refine JL.q (by (apply OQ.af (cs:=X.l.map aj);exact eU;exact cu;rfl;exact (.there .here);rfl;exact Row.all)) rfl ?_ | refine JC.seq ?_ | refine JC.region ?_ | refine JC.exit ?_ | refine JE.next ?_ | refine JE.ax ?_ | refine JE.aA ?_)
      refine JL.ag (cs:=X.l.map aj) cu rfl rfl rfl (bn _) .here rfl ?_
      repeat (first | refine JL.nil ?_ | refine JE.next ?_)
      refine JC.ret (JE.aJ rfl (RV.av eU cu rfl .here rfl Row.all) ?_)
      exact fun w' hw=>⟨rfl,hw.aM⟩
theorem NR : dW Tryz.prog 154=some 4:=by kernel_rfl
theorem NT : zc Tryz.prog 154=some (([0,0,0,0] : List dY).map aj):=by kernel_rfl
set_option maxHeartbeats 16000000 in
theorem EZ (n : N5) (w : World) : Calls Tryz.prog 80 [.agg (n.l.map aj).toArray].toArray w fun e w'=>e=.returned (.agg ((Kl n).map U8).toArray)∧Ext w w':=by
  have cl:=Ct n
  have eK : Kl n=A4 (xC (vO n)) 32:=rfl
  rw [eK]
  clear eK
  generalize vO n=m at cl ⊢
  have c0 : (m.l.map aj)[0]?=some (aj m.a0):=rfl
  have c1 : (m.l.map aj)[1]?=some (aj m.a1):=rfl
  have c2 : (m.l.map aj)[2]?=some (aj m.a2):=rfl
  have c3 : (m.l.map aj)[3]?=some (aj m.a3):=rfl
  have c4 : (m.l.map aj)[4]?=some (aj m.a4):=rfl
  refine enter (n:=52) Tryz.func80 rfl rfl rfl (ah.start w []) ?_
  repeat (first | refine JC.seq ?_ | refine JC.region ?_)
  refine JL.box (r:=n.l.map aj) rfl rfl rfl fun b1 _=>?_
  refine JL.alloc ir rfl fun b2 _=>?_
  repeat (first | refine JL.q (by first|(apply OQ.af (cs:=n.l.map aj);exact eU;exact cu;rfl;exact (.there .here);rfl;exact Row.all)|(apply OQ.au;exact zM;rfl;exact (fun w' _=>cl w'))) rfl ?_ | refine JC.seq ?_ | refine JC.region ?_ | refine JL.nil ?_ | refine JE.next ?_)
  refine JL.ag (cs:=m.l.map aj) cu rfl rfl rfl (bn _) (.there .here) rfl ?_
  repeat (first | refine JL.q (by first|(apply OQ.aE;exact Tryz.underlying118;exact xH;rfl;rfl;exact (by decide))|(apply OQ.load;exact gf;rfl;exact (.there .here);exact (Row.cell c0))|(apply OQ.load;exact gf;rfl;exact (.there .here);exact (Row.cell c1))|(apply OQ.load;exact gf;rfl;exact (.there .here);exact (Row.cell c2))|(apply OQ.load;exact gf;rfl;exact (.there .here);exact (Row.cell c3))|(apply OQ.load;exact gf;rfl;exact (.there .here);exact (Row.cell c4))|(apply OQ.uf;rfl;rfl)|(apply OQ.BE;rfl;rfl)|(apply OQ.jR;rfl;rfl)) rfl ?_ | refine JC.seq ?_ | refine JC.region ?_ | refine JL.nil ?_ | refine JE.next ?_)
  refine JL.q (OQ.pure (v:=.agg ((xC m).map aj).toArray) rfl rfl (by kernel_rfl)) rfl ?_
  refine JL.alloc NT rfl fun b3 _=>?_
  refine JL.ag (cs:=(xC m).map aj) NR rfl rfl rfl (bn _) .here rfl ?_
  have hw4 : (xC m).length=4:=rfl
  generalize xC m=W at hw4 ⊢
  repeat (first | refine JC.seq ?_ | refine JC.region ?_ | refine JL.nil ?_ | refine JE.next ?_)
  refine JL.alloc ir rfl fun b4 _=>?_
  repeat (first | refine JL.q (by (apply OQ.move;rfl)) rfl ?_ | refine JC.seq ?_ | refine JC.region ?_ | refine JC.block ?_ | refine JL.nil ?_ | refine JE.next ?_)
  refine JC.loop (fun i : Nat=>[(1,Pt b1 0),(2,Pt b2 0),(3,Pt b3 0),(4,Pt b4 0),(36,N i)])
    (fun i=>[⟨b4,Row 23 ((A4 W i).map U8),true⟩,⟨b3,Row 154 (W.map aj),true⟩,⟨b2,Row 23 ((List.replicate 32 (0 : By)).map U8),true⟩])
    (fun i=>32 - i) (fun i=>i≤32) 0 (by omega) (by repeat (first | exact ai.nil | refine ai.cons _ _ _ rfl ?_)) (.keep _ _ _ _ _ _ (fun _ h=>h) (.keep _ _ _ _ _ _ (fun _ h=>h) (.keep _ _ _ _ _ _ (fun _ h=>h) (.nil _)))) ?_
  intro i hi
  have hlen:=A5 W i
  repeat (first | refine JL.q (by (apply OQ.bP;rfl;rfl)) rfl ?_ | refine JC.seq ?_ | refine JC.region ?_ | refine JL.nil ?_ | refine JE.next ?_)
  refine JC.cond rfl (fun h=>?_) (fun h=>?_)
  · have hi' : i<32:=of_decide_eq_true h
    clear h hi
    have hc:=EX (l:=W) (i:=i / 8) (by omega)
    have eS : A4 W (i+1)=(A4 W i).set i ((W.getD (i / 8) 0 >>> (i % 8 * 8)).setWidth 8):=rfl
    generalize A4 W i=X at eS hlen ⊢
    repeat (first | refine JL.q (by first|(apply OQ.aE;exact Tryz.underlying154;exact xH;rfl;rfl;exact (by (try simp only []);omega))|(apply OQ.load;exact gf;rfl;exact (.there .here);exact (Row.cell hc))|(apply OQ.aE;exact Tryz.underlying23;exact wo;rfl;rfl;exact hi')|(apply OQ.move;rfl)|(apply OQ.assign;rfl)|(apply OQ.jR;rfl;rfl)|(apply OQ.iW;rfl;rfl;exact (by (try simp only []);omega))|(apply OQ.BA;rfl;rfl;exact (by (try simp only []);omega))|(apply OQ.Dd;rfl;rfl;exact (by (try simp only []);omega);exact (by (try simp only []);omega))|(apply OQ.lZ;rfl;rfl;rfl)) rfl ?_ | refine JC.seq ?_ | refine JC.region ?_ | refine JC.block ?_ | refine JC.skip ?_ | refine JL.nil ?_ | refine JE.next ?_)
    refine JL.az (r':=(A4 W (i+1)).map U8) wo rfl rfl rfl rfl .here (by rw [List.length_map,hlen];exact hi') (by rw [eS];exact sw _ _ _) ?_
    repeat (first | refine JL.q (by first|(apply OQ.move;rfl)|(apply OQ.aZ;rfl;rfl;exact (by (try simp only []);omega))) rfl ?_ | refine JC.region ?_ | refine JL.nil ?_ | refine JE.next ?_ | refine JE.an ?_)
    exact JE.again (i:=i) (i+1) (by omega) (by omega) (by repeat (first | exact ai.nil | refine ai.cons _ _ _ rfl ?_)) (aq.refl _)
  · have hi' : ¬ i<32:=of_decide_eq_false h
    obtain rfl : i=32:=by omega
    clear h hi hi'
    have hl' : ((A4 W 32).map U8).length=32:=by rw [List.length_map,hlen]
    generalize A4 W 32=X at hl' ⊢
    repeat (first | refine JL.q (by (apply OQ.af (cs:=X.map U8);exact aN;exact aB;rfl;exact .here;exact hl';exact Row.all)) rfl ?_ | refine JC.seq ?_ | refine JC.region ?_ | refine JC.exit ?_ | refine JE.next ?_ | refine JE.ax ?_ | refine JE.aA ?_)
    refine JL.ag (cs:=X.map U8) aB rfl rfl hl' (aX _) (.there (.there .here)) (by simp) ?_
    repeat (first | refine JL.nil ?_ | refine JE.next ?_)
    refine JC.ret (JE.aJ rfl (RV.av aN aB rfl (.there (.there .here)) hl' Row.all) ?_)
    exact fun w' hw=>⟨rfl,hw.aM⟩
set_option maxHeartbeats 16000000 in
theorem pq (c : Bool) (a b : N5) (w : World) : Calls Tryz.prog 95 [.agg (a.l.map aj).toArray,.agg (b.l.map aj).toArray,U8 (bt c)].toArray w
    fun e w'=>e=.returned (.tuple #[.agg ((if c then b else a).l.map aj).toArray,.agg ((if c then a else b).l.map aj).toArray])∧Ext w w':=by
  have hm:=GR c
  have hab : a.l.length=b.l.length:=rfl
  have eX : jq c a.l b.l 5=(if c then b else a).l:=by cases c <;> rfl
  have eY : jq c b.l a.l 5=(if c then a else b).l:=by cases c <;> rfl
  have z1 : jq c a.l b.l 0=a.l:=by cases c <;> rfl
  have z2 : jq c b.l a.l 0=b.l:=by cases c <;> rfl
  have lX : ∀ i,(jq c a.l b.l i).length=5:=fun i=>xE c hab i
  have lY : ∀ i,(jq c b.l a.l i).length=5:=fun i=>xE c hab.symm i
  have gX : ∀ i,i<5→((jq c a.l b.l i).map aj)[i]?=some (aj (a.l.getD i 0)):=fun i hi=>by rw [List.getElem?_map,xF c hab hi];rfl
  have gY : ∀ i,i<5→((jq c b.l a.l i).map aj)[i]?=some (aj (b.l.getD i 0)):=fun i hi=>by rw [List.getElem?_map,xF c hab.symm hi];rfl
  have sX : ∀ i,i<5→(jq c a.l b.l i).set i (a.l.getD i 0 ^^^ (Cp c &&& (a.l.getD i 0 ^^^ b.l.getD i 0)))=jq c a.l b.l (i+1):=fun i hi=>xG c hab hi (ET c _ _)
  have sY : ∀ i,i<5→(jq c b.l a.l i).set i (b.l.getD i 0 ^^^ (Cp c &&& (a.l.getD i 0 ^^^ b.l.getD i 0)))=jq c b.l a.l (i+1):=fun i hi=>xG c hab.symm hi (JI c _ _)
  generalize (if c then b else a).l=A at eX ⊢
  generalize (if c then a else b).l=B at eY ⊢
  refine enter (n:=41) Tryz.func95 rfl rfl rfl (ah.start w []) ?_
  repeat (first | refine JC.seq ?_ | refine JC.region ?_)
  refine JL.box (r:=a.l.map aj) rfl rfl rfl fun b3 _=>?_
  refine JL.box (r:=b.l.map aj) rfl rfl rfl fun b4 _=>?_
  refine JL.alloc mX rfl fun b6 _=>?_
  refine JL.alloc mX rfl fun b7 _=>?_
  repeat (first | refine JL.q (by first|(apply OQ.rE;rfl;rfl;rfl)|(apply OQ.KD;rfl)|(apply OQ.move;rfl)|(apply OQ.assign;rfl)) rfl ?_ | refine JC.seq ?_ | refine JC.region ?_ | refine JC.block ?_ | refine JL.nil ?_ | refine JE.next ?_)
  rw [hm]
  refine JC.loop (fun i : Nat=>[(3,Pt b3 0),(4,Pt b4 0),(6,Pt b6 0),(7,Pt b7 0),(8,aj (Cp c)),(14,N i)])
    (fun i=>[⟨b7,Row 118 (bH.l.map aj),true⟩,⟨b6,Row 118 (bH.l.map aj),true⟩,⟨b4,Row 118 ((jq c b.l a.l i).map aj),true⟩,⟨b3,Row 118 ((jq c a.l b.l i).map aj),true⟩])
    (fun i=>5 - i) (fun i=>i≤5) 0 (by omega) (by repeat (first | exact ai.nil | refine ai.cons _ _ _ rfl ?_)) (.keep _ _ _ _ _ _ (fun _ h=>h) (.keep _ _ _ _ _ _ (fun _ h=>h) (.keep _ _ _ _ _ _ (fun _ h=>by rw [z2];exact h) (.keep _ _ _ _ _ _ (fun _ h=>by rw [z1];exact h) (.nil _))))) ?_
  intro i hi
  repeat (first | refine JL.q (by (apply OQ.bP;rfl;rfl)) rfl ?_ | refine JC.seq ?_ | refine JC.region ?_ | refine JL.nil ?_ | refine JE.next ?_)
  refine JC.cond rfl (fun h=>?_) (fun h=>?_)
  · have hi' : i<5:=of_decide_eq_true h
    clear h hi eX eY z1 z2
    have hX:=gX i hi'
    have hY:=gY i hi'
    have tX:=sX i hi'
    have tY:=sY i hi'
    have kX:=lX i
    have kY:=lY i
    clear gX gY sX sY lX lY
    generalize jq c a.l b.l i=X at hX tX kX ⊢
    generalize jq c b.l a.l i=Y at hY tY kY ⊢
    generalize a.l.getD i 0=x at hX tX tY
    generalize b.l.getD i 0=y at hY tX tY
    repeat (first | refine JL.q (by first|(apply OQ.move;rfl)|(apply OQ.assign;rfl)) rfl ?_ | refine JC.seq ?_ | refine JC.region ?_ | refine JC.block ?_ | refine JC.skip ?_ | refine JL.nil ?_ | refine JE.next ?_)
    refine JC.quiet fc (by kernel_rfl) ?_
    repeat (first | refine JL.q (by first|(apply OQ.aE;exact Tryz.underlying118;exact xH;rfl;rfl;exact hi')|(apply OQ.load;exact gf;rfl;exact (by repeat (first | exact Has.here | apply Has.there));exact (Row.cell hX))|(apply OQ.load;exact gf;rfl;exact (by repeat (first | exact Has.here | apply Has.there));exact (Row.cell hY))|(apply OQ.Dw;rfl;rfl)|(apply OQ.nC;rfl;rfl)|(apply OQ.move;rfl)|(apply OQ.assign;rfl)) rfl ?_ | refine JQ.q (by first|(apply OQ.aE;exact Tryz.underlying118;exact xH;rfl;rfl;exact hi')|(apply OQ.load;exact gf;rfl;exact (by repeat (first | exact Has.here | apply Has.there));exact (Row.cell hX))|(apply OQ.load;exact gf;rfl;exact (by repeat (first | exact Has.here | apply Has.there));exact (Row.cell hY))|(apply OQ.Dw;rfl;rfl)|(apply OQ.nC;rfl;rfl)|(apply OQ.move;rfl)|(apply OQ.assign;rfl)) rfl ?_ | refine JC.seq ?_ | refine JC.region ?_ | refine JQ.nil ?_ | refine JE.next ?_)
    refine JL.az (r':=(jq c a.l b.l (i+1)).map aj) xH rfl rfl rfl rfl (by repeat (first | exact ff.here | apply ff.there)) (by rw [List.length_map,kX];exact hi') (by rw [← tX];exact EY _ _ _) ?_
    repeat (first | refine JL.q (by first|(apply OQ.aE;exact Tryz.underlying118;exact xH;rfl;rfl;exact hi')|(apply OQ.load;exact gf;rfl;exact (by repeat (first | exact Has.here | apply Has.there));exact (Row.cell hY))|(apply OQ.Dw;rfl;rfl)|(apply OQ.move;rfl)) rfl ?_ | refine JC.region ?_ | refine JL.nil ?_ | refine JE.next ?_)
    refine JL.az (r':=(jq c b.l a.l (i+1)).map aj) xH rfl rfl rfl rfl (by repeat (first | exact ff.here | apply ff.there)) (by rw [List.length_map,kY];exact hi') (by rw [← tY];exact EY _ _ _) ?_
    repeat (first | refine JL.q (by first|(apply OQ.move;rfl)|(apply OQ.aZ;rfl;rfl;exact (by (try simp only []);omega))) rfl ?_ | refine JC.region ?_ | refine JL.nil ?_ | refine JE.next ?_ | refine JE.an ?_)
    exact JE.again (i:=i) (i+1) (by omega) (by omega) (by repeat (first | exact ai.nil | refine ai.cons _ _ _ rfl ?_)) (aq.refl _)
  · have hi' : ¬ i<5:=of_decide_eq_false h
    obtain rfl : i=5:=by omega
    clear h hi hi'
    have hX:=lX 5
    have hY:=lY 5
    clear gX gY sX sY lX lY
    rw [eX] at hX ⊢
    rw [eY] at hY ⊢
    generalize A=X at *
    generalize B=Y at *
    repeat (first | refine JC.seq ?_ | refine JC.exit ?_ | refine JE.next ?_ | refine JE.ax ?_ | refine JE.aA ?_)
    let vs : Nat→Nat→Value:=fun j x=>match j with
      | 0=>.agg (X.map aj).toArray
      | 1=>.agg (Y.map aj).toArray
      | _=>Pt x 0
    let Ms : Nat→Nat→List aH:=fun j x=>match j with
      | 2=>[⟨b6,Row 118 (X.map aj),true⟩]
      | 3=>[⟨b7,Row 118 (Y.map aj),true⟩]
      | 4=>[⟨b7,Row 118 (bH.l.map aj),true⟩]
      | 5=>[⟨b6,Row 118 (bH.l.map aj),true⟩]
      | 6=>[⟨b4,Row 118 (Y.map aj),true⟩]
      | 7=>[⟨b3,Row 118 (X.map aj),true⟩]
      | _=>[]
    refine JC.grow (g:=⟨[(3,Pt b3 0),(4,Pt b4 0),(6,Pt b6 0),(7,Pt b7 0)],8,vs,Ms,(fun j=>match j with | 2=>[(0,39)] | 3=>[(1,40)] | _=>[]),(fun j=>match j with | 0=>[7] | 1=>[6] | 2=>[5] | 3=>[4] | _=>[]),(fun j=>match j with | 2=>[5] | 3=>[4] | _=>[]),(fun j=>match j with | _=>none)⟩) [] [2,3,6,7] fc (by repeat (first | exact ai.nil | refine ai.cons _ _ _ rfl ?_)) (aq.refl _) (by kernel_rfl) (by kernel_rfl) (by kernel_rfl) ?_ ?_
    · refine ⟨?_,?_,?_,?_,trivial⟩
      · (intro x EF MF Q kk;exact JL.q (OQ.af (cs:=X.map aj) eU cu rfl .here (by rw [List.length_map];exact hX) Row.all) rfl (JL.nil (kk default nofun)))
      · (intro x EF MF Q kk;exact JL.q (OQ.af (cs:=Y.map aj) eU cu rfl .here (by rw [List.length_map];exact hY) Row.all) rfl (JL.nil (kk default nofun)))
      · (intro x EF MF Q kk;exact JL.ag (cs:=X.map aj) cu rfl rfl (by rw [List.length_map];exact hX) (bn _) .here rfl (JL.nil (kk default nofun)))
      · (intro x EF MF Q kk;exact JL.ag (cs:=Y.map aj) cu rfl rfl (by rw [List.length_map];exact hY) (bn _) .here rfl (JL.nil (kk default nofun)))
    · intro x hx
      show JE _ _ _ _ _ [(3,Pt b3 0),(4,Pt b4 0),(6,Pt b6 0),(7,Pt b7 0)] [⟨b6,Row 118 (X.map aj),true⟩,⟨b7,Row 118 (Y.map aj),true⟩,⟨b4,Row 118 (Y.map aj),true⟩,⟨b3,Row 118 (X.map aj),true⟩]
      clear hx x vs Ms
      have kX : (X.map aj).length=5:=by rw [List.length_map];exact hX
      have kY : (Y.map aj).length=5:=by rw [List.length_map];exact hY
      refine JE.next ?_
      refine JC.ret ?_
      refine JE.gN rfl (RV.av eU cu rfl (by repeat (first | exact Has.here | apply Has.there)) kX Row.all) (RV.av eU cu rfl (by repeat (first | exact Has.here | apply Has.there)) kY Row.all) ?_
      exact fun w' hw=>⟨rfl,hw.aM⟩
end
section
set_option maxRecDepth 10000
open Sl dZ
def mw : L5:=⟨bH,bH,bH,bH⟩
theorem xL : dW Tryz.prog 121=some 20:=by kernel_rfl
theorem GV : gM Tryz.prog 121=true:=by kernel_rfl
theorem JT : zc Tryz.prog 121=some (mw.l.map aj):=by kernel_rfl
theorem vV : aI Tryz.prog 77:=⟨_,Tryz.func77,rfl,by kernel_rfl⟩
set_option maxHeartbeats 16000000 in
theorem nQ (c : Bool) (s : L5) (w : World) : Calls Tryz.prog 76 [.agg (s.l.map aj).toArray,U8 (bt c)].toArray w fun e w'=>e=.returned (.agg ((EP c s).l.map aj).toArray)∧Ext w w':=by
  obtain ⟨x2,z2,x3,z3⟩:=s
  have cx:=pq c x2 x3
  have cz:=pq c z2 z3
  have e : EP c ⟨x2,z2,x3,z3⟩=⟨if c then x3 else x2,if c then z3 else z2,if c then x2 else x3,if c then z2 else z3⟩:=by cases c <;> rfl
  rw [e]
  clear e
  generalize (if c then x3 else x2)=X2 at cx ⊢
  generalize (if c then x2 else x3)=X3 at cx ⊢
  generalize (if c then z3 else z2)=Z2 at cz ⊢
  generalize (if c then z2 else z3)=Z3 at cz ⊢
  refine enter (n:=28) Tryz.func76 rfl rfl rfl (ah.start w []) ?_
  repeat (first | refine JC.seq ?_ | refine JC.region ?_)
  refine JL.box (r:=(x2.l++z2.l++x3.l++z3.l).map aj) rfl rfl rfl fun b2 _=>?_
  refine JL.alloc JT rfl fun b4 _=>?_
  repeat (first | refine JL.q (by first|(apply OQ.af (cs:=x2.l.map aj);exact eU;exact cu;rfl;exact (.there .here);rfl;exact (Row.cells rfl))|(apply OQ.af (cs:=x3.l.map aj);exact eU;exact cu;rfl;exact (.there .here);rfl;exact (Row.cells rfl))|(apply OQ.au (vs:=[.agg (x2.l.map aj).toArray,.agg (x3.l.map aj).toArray,U8 (bt c)]);exact nO;rfl;exact (fun w' _=>cx w'))|(apply OQ.extract;rfl;rfl)|(apply OQ.move;rfl)|(apply OQ.bM;rfl;rfl;rfl;exact (by decide);rfl)) rfl ?_ | refine JC.seq ?_ | refine JC.region ?_ | refine JL.nil ?_ | refine JE.next ?_)
  refine JL.aW (cs:=X2.l.map aj) (r':=(X2.l++z2.l++x3.l++z3.l).map aj) cu rfl rfl rfl (bn _) (.there .here) (Nat.le_of_ble_eq_true rfl) rfl ?_
  repeat (refine JL.q (by (apply OQ.bM;rfl;rfl;rfl;exact (by decide);rfl)) rfl ?_)
  refine JL.aW (cs:=X3.l.map aj) (r':=(X2.l++z2.l++X3.l++z3.l).map aj) cu rfl rfl rfl (bn _) (.there .here) (Nat.le_of_ble_eq_true rfl) rfl ?_
  repeat (first | refine JL.q (by first|(apply OQ.af (cs:=z2.l.map aj);exact eU;exact cu;rfl;exact (.there .here);rfl;exact (Row.cells rfl))|(apply OQ.af (cs:=z3.l.map aj);exact eU;exact cu;rfl;exact (.there .here);rfl;exact (Row.cells rfl))|(apply OQ.au (vs:=[.agg (z2.l.map aj).toArray,.agg (z3.l.map aj).toArray,U8 (bt c)]);exact nO;rfl;exact (fun w' _=>cz w'))|(apply OQ.extract;rfl;rfl)|(apply OQ.move;rfl)|(apply OQ.bM;rfl;rfl;rfl;exact (by decide);rfl)) rfl ?_ | refine JC.seq ?_ | refine JC.region ?_ | refine JL.nil ?_ | refine JE.next ?_)
  refine JL.aW (cs:=Z2.l.map aj) (r':=(X2.l++Z2.l++X3.l++z3.l).map aj) cu rfl rfl rfl (bn _) (.there .here) (Nat.le_of_ble_eq_true rfl) rfl ?_
  repeat (refine JL.q (by (apply OQ.bM;rfl;rfl;rfl;exact (by decide);rfl)) rfl ?_)
  refine JL.aW (cs:=Z3.l.map aj) (r':=(X2.l++Z2.l++X3.l++Z3.l).map aj) cu rfl rfl rfl (bn _) (.there .here) (Nat.le_of_ble_eq_true rfl) rfl ?_
  repeat (first | refine JL.q (by (apply OQ.af (cs:=(X2.l++Z2.l++X3.l++Z3.l).map aj);exact GV;exact xL;rfl;exact (.there .here);rfl;exact Row.all)) rfl ?_ | refine JC.seq ?_ | refine JC.region ?_ | refine JL.nil ?_ | refine JE.next ?_)
  refine JL.ag (cs:=(X2.l++Z2.l++X3.l++Z3.l).map aj) xL rfl rfl rfl (bn _) .here rfl ?_
  repeat (first | refine JL.nil ?_ | refine JE.next ?_)
  refine JC.ret (JE.aJ rfl (RV.av GV xL rfl .here rfl Row.all) ?_)
  exact fun w' hw=>⟨rfl,hw.aM⟩
set_option maxHeartbeats 64000000 in
set_option maxRecDepth 4000 in
theorem xM (x1 : N5) (s : L5) (w : World) : Calls Tryz.prog 77 [.agg (s.l.map aj).toArray,.agg (x1.l.map aj).toArray].toArray w fun e w'=>e=.returned (.agg ((vQ x1 s).l.map aj).toArray)∧Ext w w':=by
  obtain ⟨X2,Z2,X3,Z3⟩:=s
  have c_A:=qY X2 Z2
  generalize h_A : qe X2 Z2=A at c_A
  have c_B:=gI X2 Z2
  generalize h_B : oo X2 Z2=B at c_B
  have c_C:=qY X3 Z3
  generalize h_C : qe X3 Z3=C at c_C
  have c_D:=gI X3 Z3
  generalize h_D : oo X3 Z3=D at c_D
  have c_AA:=aV A A
  generalize h_AA : di A A=AA at c_AA
  have c_BB:=aV B B
  generalize h_BB : di B B=BB at c_BB
  have c_DA:=aV D A
  generalize h_DA : di D A=DA at c_DA
  have c_CB:=aV C B
  generalize h_CB : di C B=CB at c_CB
  have c_E:=gI AA BB
  generalize h_E : oo AA BB=E at c_E
  have c_M:=qY DA CB
  generalize h_M : qe DA CB=M at c_M
  have c_S:=gI DA CB
  generalize h_S : oo DA CB=S at c_S
  have c_R1:=aV AA BB
  generalize h_R1 : di AA BB=R1 at c_R1
  have c_F:=aV cN E
  generalize h_F : di cN E=F at c_F
  have c_G:=qY AA F
  generalize h_G : qe AA F=G at c_G
  have c_R2:=aV E G
  generalize h_R2 : di E G=R2 at c_R2
  have c_R3:=aV M M
  generalize h_R3 : di M M=R3 at c_R3
  have c_SS:=aV S S
  generalize h_SS : di S S=SS at c_SS
  have c_R4:=aV x1 SS
  generalize h_R4 : di x1 SS=R4 at c_R4
  have eS : vQ x1 ⟨X2,Z2,X3,Z3⟩=⟨R1,R2,R3,R4⟩:=by
    subst h_R4 h_SS h_R3 h_R2 h_G h_F h_R1 h_S h_M h_E h_CB h_DA h_BB h_AA h_D h_C h_B h_A
    rfl
  rw [eS]
  clear eS h_A h_B h_C h_D h_AA h_BB h_DA h_CB h_E h_M h_S h_R1 h_F h_G h_R2 h_R3 h_SS h_R4
  refine enter (n:=76) Tryz.func77 rfl rfl rfl (ah.start w []) ?_
  repeat (first | refine JC.seq ?_ | refine JC.region ?_)
  refine JL.box (r:=(X2.l++Z2.l++X3.l++Z3.l).map aj) rfl rfl rfl fun b2 _=>?_
  refine JL.box (r:=x1.l.map aj) rfl rfl rfl fun b3 _=>?_
  refine JL.alloc JT rfl fun b4 _=>?_
  repeat (first | refine JC.seq ?_ | refine JL.nil ?_ | refine JE.next ?_)
  let vs : Nat→Nat→Value:=fun j x=>match j with
    | 0=>Pt b2 0
    | 1=>.agg (X2.l.map aj).toArray
    | 2=>Pt b2 5
    | 3=>.agg (Z2.l.map aj).toArray
    | 4=>.agg (A.l.map aj).toArray
    | 5=>Pt b2 0
    | 6=>.agg (X2.l.map aj).toArray
    | 7=>Pt b2 5
    | 8=>.agg (Z2.l.map aj).toArray
    | 9=>.agg (B.l.map aj).toArray
    | _=>Pt x 0
  let Ms : Nat→Nat→List aH:=fun j x=>match j with
    | 10=>[⟨x,Row 118 (bH.l.map aj),true⟩]
    | 11=>[⟨x,Row 118 (bH.l.map aj),true⟩]
    | 12=>[⟨x,Row 118 (A.l.map aj),true⟩]
    | 13=>[⟨x,Row 118 (B.l.map aj),true⟩]
    | 14=>[⟨b4,Row 121 (mw.l.map aj),true⟩]
    | 15=>[⟨b3,Row 118 (x1.l.map aj),true⟩]
    | 16=>[⟨b2,Row 121 ((X2.l++Z2.l++X3.l++Z3.l).map aj),true⟩]
    | _=>[]
  refine JC.grow (g:=⟨[(2,Pt b2 0),(3,Pt b3 0),(4,Pt b4 0)],17,vs,Ms,(fun j=>match j with | 1=>[(0,16)] | 3=>[(2,18)] | 4=>[(1,17),(3,19)] | 6=>[(5,21)] | 8=>[(7,23)] | 9=>[(6,22),(8,24)] | 12=>[(10,5),(4,20)] | 13=>[(11,6),(9,25)] | _=>[]),(fun j=>match j with | 1=>[16] | 3=>[16] | 6=>[16] | 8=>[16] | 12=>[10] | 13=>[11] | _=>[]),(fun j=>match j with | 12=>[10] | 13=>[11] | _=>[]),(fun j=>match j with | 12=>some 10 | 13=>some 11 | _=>none)⟩) [(10,5),(11,6)] [12,13,14,15,16] fc (by repeat (first | exact ai.nil | refine ai.cons _ _ _ rfl ?_)) (aq.refl _) (by kernel_rfl) (by kernel_rfl) (by kernel_rfl) ?_ ?_
  · refine ⟨?_,?_,?_,?_,?_,?_,?_,?_,?_,?_,?_,?_,?_,?_,trivial⟩
    · (intro x EF MF Q kk;exact JL.q (OQ.wF (o:=0) rfl rfl rfl (by decide) rfl rfl) rfl (JL.nil (kk default nofun)))
    · (intro x EF MF Q kk;exact JL.q (OQ.af (cs:=X2.l.map aj) eU cu rfl .here rfl (Row.cells rfl)) rfl (JL.nil (kk default nofun)))
    · (intro x EF MF Q kk;exact JL.q (OQ.wF (o:=5) rfl rfl rfl (by decide) rfl rfl) rfl (JL.nil (kk default nofun)))
    · (intro x EF MF Q kk;exact JL.q (OQ.af (cs:=Z2.l.map aj) eU cu rfl .here rfl (Row.cells rfl)) rfl (JL.nil (kk default nofun)))
    · (intro x EF MF Q kk;exact JL.q (OQ.au (vs:=[.agg (X2.l.map aj).toArray,.agg (Z2.l.map aj).toArray]) pg rfl fun w' _=>c_A w') rfl (JL.nil (kk default nofun)))
    · (intro x EF MF Q kk;exact JL.q (OQ.wF (o:=0) rfl rfl rfl (by decide) rfl rfl) rfl (JL.nil (kk default nofun)))
    · (intro x EF MF Q kk;exact JL.q (OQ.af (cs:=X2.l.map aj) eU cu rfl .here rfl (Row.cells rfl)) rfl (JL.nil (kk default nofun)))
    · (intro x EF MF Q kk;exact JL.q (OQ.wF (o:=5) rfl rfl rfl (by decide) rfl rfl) rfl (JL.nil (kk default nofun)))
    · (intro x EF MF Q kk;exact JL.q (OQ.af (cs:=Z2.l.map aj) eU cu rfl .here rfl (Row.cells rfl)) rfl (JL.nil (kk default nofun)))
    · (intro x EF MF Q kk;exact JL.q (OQ.au (vs:=[.agg (X2.l.map aj).toArray,.agg (Z2.l.map aj).toArray]) fQ rfl fun w' _=>c_B w') rfl (JL.nil (kk default nofun)))
    · (intro x EF MF Q kk;exact JL.alloc mX rfl fun b _=>JL.nil (kk b nofun))
    · (intro x EF MF Q kk;exact JL.alloc mX rfl fun b _=>JL.nil (kk b nofun))
    · (intro x EF MF Q kk;exact JL.ag (cs:=A.l.map aj) cu rfl rfl rfl (bn _) .here rfl (JL.nil (kk (x 10) (fun k h=>by cases h;rfl))))
    · (intro x EF MF Q kk;exact JL.ag (cs:=B.l.map aj) cu rfl rfl rfl (bn _) .here rfl (JL.nil (kk (x 11) (fun k h=>by cases h;rfl))))
  · intro x hx
    have h12:=hx 12 10 (by decide) rfl
    have h13:=hx 13 11 (by decide) rfl
    show JE _ _ _ _ _ [(5,Pt (x 10) 0),(6,Pt (x 11) 0),(2,Pt b2 0),(3,Pt b3 0),(4,Pt b4 0)] [⟨(x 12),Row 118 (A.l.map aj),true⟩,⟨(x 13),Row 118 (B.l.map aj),true⟩,⟨b4,Row 121 (mw.l.map aj),true⟩,⟨b3,Row 118 (x1.l.map aj),true⟩,⟨b2,Row 121 ((X2.l++Z2.l++X3.l++Z3.l).map aj),true⟩]
    rw [h12,h13]
    generalize x 10=b5
    generalize x 11=b6
    clear hx h12 h13 x vs Ms
    repeat (first | refine JC.seq ?_ | refine JE.next ?_)
    let vs : Nat→Nat→Value:=fun j x=>match j with
      | 0=>Pt b2 10
      | 1=>.agg (X3.l.map aj).toArray
      | 2=>Pt b2 15
      | 3=>.agg (Z3.l.map aj).toArray
      | 4=>.agg (C.l.map aj).toArray
      | 5=>Pt b2 10
      | 6=>.agg (X3.l.map aj).toArray
      | 7=>Pt b2 15
      | 8=>.agg (Z3.l.map aj).toArray
      | 9=>.agg (D.l.map aj).toArray
      | _=>Pt x 0
    let Ms : Nat→Nat→List aH:=fun j x=>match j with
      | 10=>[⟨x,Row 118 (bH.l.map aj),true⟩]
      | 11=>[⟨x,Row 118 (bH.l.map aj),true⟩]
      | 12=>[⟨x,Row 118 (C.l.map aj),true⟩]
      | 13=>[⟨x,Row 118 (D.l.map aj),true⟩]
      | 14=>[⟨b5,Row 118 (A.l.map aj),true⟩]
      | 15=>[⟨b6,Row 118 (B.l.map aj),true⟩]
      | 16=>[⟨b4,Row 121 (mw.l.map aj),true⟩]
      | 17=>[⟨b3,Row 118 (x1.l.map aj),true⟩]
      | 18=>[⟨b2,Row 121 ((X2.l++Z2.l++X3.l++Z3.l).map aj),true⟩]
      | _=>[]
    refine JC.grow (g:=⟨[(5,Pt b5 0),(6,Pt b6 0),(2,Pt b2 0),(3,Pt b3 0),(4,Pt b4 0)],19,vs,Ms,(fun j=>match j with | 1=>[(0,26)] | 3=>[(2,28)] | 4=>[(1,27),(3,29)] | 6=>[(5,31)] | 8=>[(7,33)] | 9=>[(6,32),(8,34)] | 12=>[(10,7),(4,30)] | 13=>[(11,8),(9,35)] | _=>[]),(fun j=>match j with | 1=>[18] | 3=>[18] | 6=>[18] | 8=>[18] | 12=>[10] | 13=>[11] | _=>[]),(fun j=>match j with | 12=>[10] | 13=>[11] | _=>[]),(fun j=>match j with | 12=>some 10 | 13=>some 11 | _=>none)⟩) [(10,7),(11,8)] [12,13,14,15,16,17,18] fc (by repeat (first | exact ai.nil | refine ai.cons _ _ _ rfl ?_)) (aq.refl _) (by kernel_rfl) (by kernel_rfl) (by kernel_rfl) ?_ ?_
    · refine ⟨?_,?_,?_,?_,?_,?_,?_,?_,?_,?_,?_,?_,?_,?_,trivial⟩
      · (intro x EF MF Q kk;exact JL.q (OQ.wF (o:=10) rfl rfl rfl (by decide) rfl rfl) rfl (JL.nil (kk default nofun)))
      · (intro x EF MF Q kk;exact JL.q (OQ.af (cs:=X3.l.map aj) eU cu rfl .here rfl (Row.cells rfl)) rfl (JL.nil (kk default nofun)))
      · (intro x EF MF Q kk;exact JL.q (OQ.wF (o:=15) rfl rfl rfl (by decide) rfl rfl) rfl (JL.nil (kk default nofun)))
      · (intro x EF MF Q kk;exact JL.q (OQ.af (cs:=Z3.l.map aj) eU cu rfl .here rfl (Row.cells rfl)) rfl (JL.nil (kk default nofun)))
      · (intro x EF MF Q kk;exact JL.q (OQ.au (vs:=[.agg (X3.l.map aj).toArray,.agg (Z3.l.map aj).toArray]) pg rfl fun w' _=>c_C w') rfl (JL.nil (kk default nofun)))
      · (intro x EF MF Q kk;exact JL.q (OQ.wF (o:=10) rfl rfl rfl (by decide) rfl rfl) rfl (JL.nil (kk default nofun)))
      · (intro x EF MF Q kk;exact JL.q (OQ.af (cs:=X3.l.map aj) eU cu rfl .here rfl (Row.cells rfl)) rfl (JL.nil (kk default nofun)))
      · (intro x EF MF Q kk;exact JL.q (OQ.wF (o:=15) rfl rfl rfl (by decide) rfl rfl) rfl (JL.nil (kk default nofun)))
      · (intro x EF MF Q kk;exact JL.q (OQ.af (cs:=Z3.l.map aj) eU cu rfl .here rfl (Row.cells rfl)) rfl (JL.nil (kk default nofun)))
      · (intro x EF MF Q kk;exact JL.q (OQ.au (vs:=[.agg (X3.l.map aj).toArray,.agg (Z3.l.map aj).toArray]) fQ rfl fun w' _=>c_D w') rfl (JL.nil (kk default nofun)))
      · (intro x EF MF Q kk;exact JL.alloc mX rfl fun b _=>JL.nil (kk b nofun))
      · (intro x EF MF Q kk;exact JL.alloc mX rfl fun b _=>JL.nil (kk b nofun))
      · (intro x EF MF Q kk;exact JL.ag (cs:=C.l.map aj) cu rfl rfl rfl (bn _) .here rfl (JL.nil (kk (x 10) (fun k h=>by cases h;rfl))))
      · (intro x EF MF Q kk;exact JL.ag (cs:=D.l.map aj) cu rfl rfl rfl (bn _) .here rfl (JL.nil (kk (x 11) (fun k h=>by cases h;rfl))))
    · intro x hx
      have h12:=hx 12 10 (by decide) rfl
      have h13:=hx 13 11 (by decide) rfl
      show JE _ _ _ _ _ [(7,Pt (x 10) 0),(8,Pt (x 11) 0),(5,Pt b5 0),(6,Pt b6 0),(2,Pt b2 0),(3,Pt b3 0),(4,Pt b4 0)] [⟨(x 12),Row 118 (C.l.map aj),true⟩,⟨(x 13),Row 118 (D.l.map aj),true⟩,⟨b5,Row 118 (A.l.map aj),true⟩,⟨b6,Row 118 (B.l.map aj),true⟩,⟨b4,Row 121 (mw.l.map aj),true⟩,⟨b3,Row 118 (x1.l.map aj),true⟩,⟨b2,Row 121 ((X2.l++Z2.l++X3.l++Z3.l).map aj),true⟩]
      rw [h12,h13]
      generalize x 10=b7
      generalize x 11=b8
      clear hx h12 h13 x vs Ms
      repeat (first | refine JC.seq ?_ | refine JE.next ?_)
      let vs : Nat→Nat→Value:=fun j x=>match j with
        | 0=>.agg (A.l.map aj).toArray
        | 1=>.agg (A.l.map aj).toArray
        | 2=>.agg (AA.l.map aj).toArray
        | 3=>.agg (B.l.map aj).toArray
        | 4=>.agg (B.l.map aj).toArray
        | 5=>.agg (BB.l.map aj).toArray
        | _=>Pt x 0
      let Ms : Nat→Nat→List aH:=fun j x=>match j with
        | 6=>[⟨x,Row 118 (bH.l.map aj),true⟩]
        | 7=>[⟨x,Row 118 (bH.l.map aj),true⟩]
        | 8=>[⟨x,Row 118 (AA.l.map aj),true⟩]
        | 9=>[⟨x,Row 118 (BB.l.map aj),true⟩]
        | 10=>[⟨b7,Row 118 (C.l.map aj),true⟩]
        | 11=>[⟨b8,Row 118 (D.l.map aj),true⟩]
        | 12=>[⟨b5,Row 118 (A.l.map aj),true⟩]
        | 13=>[⟨b6,Row 118 (B.l.map aj),true⟩]
        | 14=>[⟨b4,Row 121 (mw.l.map aj),true⟩]
        | 15=>[⟨b3,Row 118 (x1.l.map aj),true⟩]
        | 16=>[⟨b2,Row 121 ((X2.l++Z2.l++X3.l++Z3.l).map aj),true⟩]
        | _=>[]
      refine JC.grow (g:=⟨[(7,Pt b7 0),(8,Pt b8 0),(5,Pt b5 0),(6,Pt b6 0),(2,Pt b2 0),(3,Pt b3 0),(4,Pt b4 0)],17,vs,Ms,(fun j=>match j with | 2=>[(0,36),(1,37)] | 5=>[(3,39),(4,40)] | 8=>[(6,9),(2,38)] | 9=>[(7,10),(5,41)] | _=>[]),(fun j=>match j with | 0=>[12] | 1=>[12] | 3=>[13] | 4=>[13] | 8=>[6] | 9=>[7] | _=>[]),(fun j=>match j with | 8=>[6] | 9=>[7] | _=>[]),(fun j=>match j with | 8=>some 6 | 9=>some 7 | _=>none)⟩) [(6,9),(7,10)] [8,9,10,11,12,13,14,15,16] fc (by repeat (first | exact ai.nil | refine ai.cons _ _ _ rfl ?_)) (aq.refl _) (by kernel_rfl) (by kernel_rfl) (by kernel_rfl) ?_ ?_
      · refine ⟨?_,?_,?_,?_,?_,?_,?_,?_,?_,?_,trivial⟩
        · (intro x EF MF Q kk;exact JL.q (OQ.af (cs:=A.l.map aj) eU cu rfl .here rfl Row.all) rfl (JL.nil (kk default nofun)))
        · (intro x EF MF Q kk;exact JL.q (OQ.af (cs:=A.l.map aj) eU cu rfl .here rfl Row.all) rfl (JL.nil (kk default nofun)))
        · (intro x EF MF Q kk;exact JL.q (OQ.au (vs:=[.agg (A.l.map aj).toArray,.agg (A.l.map aj).toArray]) aQ rfl fun w' _=>c_AA w') rfl (JL.nil (kk default nofun)))
        · (intro x EF MF Q kk;exact JL.q (OQ.af (cs:=B.l.map aj) eU cu rfl .here rfl Row.all) rfl (JL.nil (kk default nofun)))
        · (intro x EF MF Q kk;exact JL.q (OQ.af (cs:=B.l.map aj) eU cu rfl .here rfl Row.all) rfl (JL.nil (kk default nofun)))
        · (intro x EF MF Q kk;exact JL.q (OQ.au (vs:=[.agg (B.l.map aj).toArray,.agg (B.l.map aj).toArray]) aQ rfl fun w' _=>c_BB w') rfl (JL.nil (kk default nofun)))
        · (intro x EF MF Q kk;exact JL.alloc mX rfl fun b _=>JL.nil (kk b nofun))
        · (intro x EF MF Q kk;exact JL.alloc mX rfl fun b _=>JL.nil (kk b nofun))
        · (intro x EF MF Q kk;exact JL.ag (cs:=AA.l.map aj) cu rfl rfl rfl (bn _) .here rfl (JL.nil (kk (x 6) (fun k h=>by cases h;rfl))))
        · (intro x EF MF Q kk;exact JL.ag (cs:=BB.l.map aj) cu rfl rfl rfl (bn _) .here rfl (JL.nil (kk (x 7) (fun k h=>by cases h;rfl))))
      · intro x hx
        have h8:=hx 8 6 (by decide) rfl
        have h9:=hx 9 7 (by decide) rfl
        show JE _ _ _ _ _ [(9,Pt (x 6) 0),(10,Pt (x 7) 0),(7,Pt b7 0),(8,Pt b8 0),(5,Pt b5 0),(6,Pt b6 0),(2,Pt b2 0),(3,Pt b3 0),(4,Pt b4 0)] [⟨(x 8),Row 118 (AA.l.map aj),true⟩,⟨(x 9),Row 118 (BB.l.map aj),true⟩,⟨b7,Row 118 (C.l.map aj),true⟩,⟨b8,Row 118 (D.l.map aj),true⟩,⟨b5,Row 118 (A.l.map aj),true⟩,⟨b6,Row 118 (B.l.map aj),true⟩,⟨b4,Row 121 (mw.l.map aj),true⟩,⟨b3,Row 118 (x1.l.map aj),true⟩,⟨b2,Row 121 ((X2.l++Z2.l++X3.l++Z3.l).map aj),true⟩]
        rw [h8,h9]
        generalize x 6=b9
        generalize x 7=b10
        clear hx h8 h9 x vs Ms
        repeat (first | refine JC.seq ?_ | refine JE.next ?_)
        let vs : Nat→Nat→Value:=fun j x=>match j with
          | 0=>.agg (D.l.map aj).toArray
          | 1=>.agg (A.l.map aj).toArray
          | 2=>.agg (DA.l.map aj).toArray
          | 3=>.agg (C.l.map aj).toArray
          | 4=>.agg (B.l.map aj).toArray
          | 5=>.agg (CB.l.map aj).toArray
          | _=>Pt x 0
        let Ms : Nat→Nat→List aH:=fun j x=>match j with
          | 6=>[⟨x,Row 118 (bH.l.map aj),true⟩]
          | 7=>[⟨x,Row 118 (bH.l.map aj),true⟩]
          | 8=>[⟨x,Row 118 (DA.l.map aj),true⟩]
          | 9=>[⟨x,Row 118 (CB.l.map aj),true⟩]
          | 10=>[⟨b9,Row 118 (AA.l.map aj),true⟩]
          | 11=>[⟨b10,Row 118 (BB.l.map aj),true⟩]
          | 12=>[⟨b7,Row 118 (C.l.map aj),true⟩]
          | 13=>[⟨b8,Row 118 (D.l.map aj),true⟩]
          | 14=>[⟨b5,Row 118 (A.l.map aj),true⟩]
          | 15=>[⟨b6,Row 118 (B.l.map aj),true⟩]
          | 16=>[⟨b4,Row 121 (mw.l.map aj),true⟩]
          | 17=>[⟨b3,Row 118 (x1.l.map aj),true⟩]
          | 18=>[⟨b2,Row 121 ((X2.l++Z2.l++X3.l++Z3.l).map aj),true⟩]
          | _=>[]
        refine JC.grow (g:=⟨[(9,Pt b9 0),(10,Pt b10 0),(7,Pt b7 0),(8,Pt b8 0),(5,Pt b5 0),(6,Pt b6 0),(2,Pt b2 0),(3,Pt b3 0),(4,Pt b4 0)],19,vs,Ms,(fun j=>match j with | 2=>[(0,42),(1,43)] | 5=>[(3,45),(4,46)] | 8=>[(6,11),(2,44)] | 9=>[(7,12),(5,47)] | _=>[]),(fun j=>match j with | 0=>[13] | 1=>[14] | 3=>[12] | 4=>[15] | 8=>[6] | 9=>[7] | _=>[]),(fun j=>match j with | 8=>[6] | 9=>[7] | _=>[]),(fun j=>match j with | 8=>some 6 | 9=>some 7 | _=>none)⟩) [(6,11),(7,12)] [8,9,10,11,12,13,14,15,16,17,18] fc (by repeat (first | exact ai.nil | refine ai.cons _ _ _ rfl ?_)) (aq.refl _) (by kernel_rfl) (by kernel_rfl) (by kernel_rfl) ?_ ?_
        · refine ⟨?_,?_,?_,?_,?_,?_,?_,?_,?_,?_,trivial⟩
          · (intro x EF MF Q kk;exact JL.q (OQ.af (cs:=D.l.map aj) eU cu rfl .here rfl Row.all) rfl (JL.nil (kk default nofun)))
          · (intro x EF MF Q kk;exact JL.q (OQ.af (cs:=A.l.map aj) eU cu rfl .here rfl Row.all) rfl (JL.nil (kk default nofun)))
          · (intro x EF MF Q kk;exact JL.q (OQ.au (vs:=[.agg (D.l.map aj).toArray,.agg (A.l.map aj).toArray]) aQ rfl fun w' _=>c_DA w') rfl (JL.nil (kk default nofun)))
          · (intro x EF MF Q kk;exact JL.q (OQ.af (cs:=C.l.map aj) eU cu rfl .here rfl Row.all) rfl (JL.nil (kk default nofun)))
          · (intro x EF MF Q kk;exact JL.q (OQ.af (cs:=B.l.map aj) eU cu rfl .here rfl Row.all) rfl (JL.nil (kk default nofun)))
          · (intro x EF MF Q kk;exact JL.q (OQ.au (vs:=[.agg (C.l.map aj).toArray,.agg (B.l.map aj).toArray]) aQ rfl fun w' _=>c_CB w') rfl (JL.nil (kk default nofun)))
          · (intro x EF MF Q kk;exact JL.alloc mX rfl fun b _=>JL.nil (kk b nofun))
          · (intro x EF MF Q kk;exact JL.alloc mX rfl fun b _=>JL.nil (kk b nofun))
          · (intro x EF MF Q kk;exact JL.ag (cs:=DA.l.map aj) cu rfl rfl rfl (bn _) .here rfl (JL.nil (kk (x 6) (fun k h=>by cases h;rfl))))
          · (intro x EF MF Q kk;exact JL.ag (cs:=CB.l.map aj) cu rfl rfl rfl (bn _) .here rfl (JL.nil (kk (x 7) (fun k h=>by cases h;rfl))))
        · intro x hx
          have h8:=hx 8 6 (by decide) rfl
          have h9:=hx 9 7 (by decide) rfl
          show JE _ _ _ _ _ [(11,Pt (x 6) 0),(12,Pt (x 7) 0),(9,Pt b9 0),(10,Pt b10 0),(7,Pt b7 0),(8,Pt b8 0),(5,Pt b5 0),(6,Pt b6 0),(2,Pt b2 0),(3,Pt b3 0),(4,Pt b4 0)] [⟨(x 8),Row 118 (DA.l.map aj),true⟩,⟨(x 9),Row 118 (CB.l.map aj),true⟩,⟨b9,Row 118 (AA.l.map aj),true⟩,⟨b10,Row 118 (BB.l.map aj),true⟩,⟨b7,Row 118 (C.l.map aj),true⟩,⟨b8,Row 118 (D.l.map aj),true⟩,⟨b5,Row 118 (A.l.map aj),true⟩,⟨b6,Row 118 (B.l.map aj),true⟩,⟨b4,Row 121 (mw.l.map aj),true⟩,⟨b3,Row 118 (x1.l.map aj),true⟩,⟨b2,Row 121 ((X2.l++Z2.l++X3.l++Z3.l).map aj),true⟩]
          rw [h8,h9]
          generalize x 6=b11
          generalize x 7=b12
          clear hx h8 h9 x vs Ms
          repeat (first | refine JC.seq ?_ | refine JC.region ?_ | refine JE.next ?_)
          repeat (refine JL.q (by first|(apply OQ.af (cs:=AA.l.map aj);exact eU;exact cu;rfl;exact (by repeat (first | exact Has.here | apply Has.there));rfl;exact Row.all)|(apply OQ.af (cs:=BB.l.map aj);exact eU;exact cu;rfl;exact (by repeat (first | exact Has.here | apply Has.there));rfl;exact Row.all)|(apply OQ.au (vs:=[.agg (AA.l.map aj).toArray,.agg (BB.l.map aj).toArray]);exact fQ;rfl;exact (fun w' _=>c_E w'))) rfl ?_)
          refine JL.alloc mX rfl fun b13 _=>?_
          refine JL.ag (cs:=E.l.map aj) cu rfl rfl rfl (bn _) .here rfl ?_
          repeat (first | refine JC.seq ?_ | refine JL.nil ?_ | refine JE.next ?_)
          let vs : Nat→Nat→Value:=fun j x=>match j with
            | 0=>.agg (DA.l.map aj).toArray
            | 1=>.agg (CB.l.map aj).toArray
            | 2=>.agg (M.l.map aj).toArray
            | 3=>.agg (DA.l.map aj).toArray
            | 4=>.agg (CB.l.map aj).toArray
            | 5=>.agg (S.l.map aj).toArray
            | _=>Pt x 0
          let Ms : Nat→Nat→List aH:=fun j x=>match j with
            | 6=>[⟨x,Row 118 (bH.l.map aj),true⟩]
            | 7=>[⟨x,Row 118 (bH.l.map aj),true⟩]
            | 8=>[⟨x,Row 118 (M.l.map aj),true⟩]
            | 9=>[⟨x,Row 118 (S.l.map aj),true⟩]
            | 10=>[⟨b13,Row 118 (E.l.map aj),true⟩]
            | 11=>[⟨b11,Row 118 (DA.l.map aj),true⟩]
            | 12=>[⟨b12,Row 118 (CB.l.map aj),true⟩]
            | 13=>[⟨b9,Row 118 (AA.l.map aj),true⟩]
            | 14=>[⟨b10,Row 118 (BB.l.map aj),true⟩]
            | 15=>[⟨b7,Row 118 (C.l.map aj),true⟩]
            | 16=>[⟨b8,Row 118 (D.l.map aj),true⟩]
            | 17=>[⟨b5,Row 118 (A.l.map aj),true⟩]
            | 18=>[⟨b6,Row 118 (B.l.map aj),true⟩]
            | 19=>[⟨b4,Row 121 (mw.l.map aj),true⟩]
            | 20=>[⟨b3,Row 118 (x1.l.map aj),true⟩]
            | 21=>[⟨b2,Row 121 ((X2.l++Z2.l++X3.l++Z3.l).map aj),true⟩]
            | _=>[]
          refine JC.grow (g:=⟨[(13,Pt b13 0),(11,Pt b11 0),(12,Pt b12 0),(9,Pt b9 0),(10,Pt b10 0),(7,Pt b7 0),(8,Pt b8 0),(5,Pt b5 0),(6,Pt b6 0),(2,Pt b2 0),(3,Pt b3 0),(4,Pt b4 0)],22,vs,Ms,(fun j=>match j with | 2=>[(0,51),(1,52)] | 5=>[(3,54),(4,55)] | 8=>[(6,14),(2,53)] | 9=>[(7,15),(5,56)] | _=>[]),(fun j=>match j with | 0=>[11] | 1=>[12] | 3=>[11] | 4=>[12] | 8=>[6] | 9=>[7] | _=>[]),(fun j=>match j with | 8=>[6] | 9=>[7] | _=>[]),(fun j=>match j with | 8=>some 6 | 9=>some 7 | _=>none)⟩) [(6,14),(7,15)] [8,9,10,11,12,13,14,15,16,17,18,19,20,21] fc (by repeat (first | exact ai.nil | refine ai.cons _ _ _ rfl ?_)) (aq.refl _) (by kernel_rfl) (by kernel_rfl) (by kernel_rfl) ?_ ?_
          · refine ⟨?_,?_,?_,?_,?_,?_,?_,?_,?_,?_,trivial⟩
            · (intro x EF MF Q kk;exact JL.q (OQ.af (cs:=DA.l.map aj) eU cu rfl .here rfl Row.all) rfl (JL.nil (kk default nofun)))
            · (intro x EF MF Q kk;exact JL.q (OQ.af (cs:=CB.l.map aj) eU cu rfl .here rfl Row.all) rfl (JL.nil (kk default nofun)))
            · (intro x EF MF Q kk;exact JL.q (OQ.au (vs:=[.agg (DA.l.map aj).toArray,.agg (CB.l.map aj).toArray]) pg rfl fun w' _=>c_M w') rfl (JL.nil (kk default nofun)))
            · (intro x EF MF Q kk;exact JL.q (OQ.af (cs:=DA.l.map aj) eU cu rfl .here rfl Row.all) rfl (JL.nil (kk default nofun)))
            · (intro x EF MF Q kk;exact JL.q (OQ.af (cs:=CB.l.map aj) eU cu rfl .here rfl Row.all) rfl (JL.nil (kk default nofun)))
            · (intro x EF MF Q kk;exact JL.q (OQ.au (vs:=[.agg (DA.l.map aj).toArray,.agg (CB.l.map aj).toArray]) fQ rfl fun w' _=>c_S w') rfl (JL.nil (kk default nofun)))
            · (intro x EF MF Q kk;exact JL.alloc mX rfl fun b _=>JL.nil (kk b nofun))
            · (intro x EF MF Q kk;exact JL.alloc mX rfl fun b _=>JL.nil (kk b nofun))
            · (intro x EF MF Q kk;exact JL.ag (cs:=M.l.map aj) cu rfl rfl rfl (bn _) .here rfl (JL.nil (kk (x 6) (fun k h=>by cases h;rfl))))
            · (intro x EF MF Q kk;exact JL.ag (cs:=S.l.map aj) cu rfl rfl rfl (bn _) .here rfl (JL.nil (kk (x 7) (fun k h=>by cases h;rfl))))
          · intro x hx
            have h8:=hx 8 6 (by decide) rfl
            have h9:=hx 9 7 (by decide) rfl
            show JE _ _ _ _ _ [(14,Pt (x 6) 0),(15,Pt (x 7) 0),(13,Pt b13 0),(11,Pt b11 0),(12,Pt b12 0),(9,Pt b9 0),(10,Pt b10 0),(7,Pt b7 0),(8,Pt b8 0),(5,Pt b5 0),(6,Pt b6 0),(2,Pt b2 0),(3,Pt b3 0),(4,Pt b4 0)] [⟨(x 8),Row 118 (M.l.map aj),true⟩,⟨(x 9),Row 118 (S.l.map aj),true⟩,⟨b13,Row 118 (E.l.map aj),true⟩,⟨b11,Row 118 (DA.l.map aj),true⟩,⟨b12,Row 118 (CB.l.map aj),true⟩,⟨b9,Row 118 (AA.l.map aj),true⟩,⟨b10,Row 118 (BB.l.map aj),true⟩,⟨b7,Row 118 (C.l.map aj),true⟩,⟨b8,Row 118 (D.l.map aj),true⟩,⟨b5,Row 118 (A.l.map aj),true⟩,⟨b6,Row 118 (B.l.map aj),true⟩,⟨b4,Row 121 (mw.l.map aj),true⟩,⟨b3,Row 118 (x1.l.map aj),true⟩,⟨b2,Row 121 ((X2.l++Z2.l++X3.l++Z3.l).map aj),true⟩]
            rw [h8,h9]
            generalize x 6=b14
            generalize x 7=b15
            clear hx h8 h9 x vs Ms
            repeat (first | refine JC.seq ?_ | refine JE.next ?_)
            refine JC.tail 19 fc (by kernel_rfl) ?_
            simp only [List.take_succ_cons,List.take_zero,List.drop_succ_cons,List.drop_zero]
            repeat (refine JQ.q (by first|(apply OQ.af (cs:=AA.l.map aj);exact eU;exact cu;rfl;exact (by repeat (first | exact Has.here | apply Has.there));rfl;exact Row.all)|(apply OQ.af (cs:=BB.l.map aj);exact eU;exact cu;rfl;exact (by repeat (first | exact Has.here | apply Has.there));rfl;exact Row.all)|(apply OQ.af (cs:=E.l.map aj);exact eU;exact cu;rfl;exact (by repeat (first | exact Has.here | apply Has.there));rfl;exact Row.all)|(apply OQ.au (vs:=[.agg (AA.l.map aj).toArray,.agg (BB.l.map aj).toArray]);exact aQ;rfl;exact (fun w' _=>c_R1 w'))) rfl ?_)
            refine JQ.q (OQ.pure (v:=.agg (cN.l.map aj).toArray) rfl rfl (by kernel_rfl)) rfl ?_
            repeat (refine JQ.q (by first|(apply OQ.af (cs:=E.l.map aj);exact eU;exact cu;rfl;exact (by repeat (first | exact Has.here | apply Has.there));rfl;exact Row.all)|(apply OQ.af (cs:=M.l.map aj);exact eU;exact cu;rfl;exact (by repeat (first | exact Has.here | apply Has.there));rfl;exact Row.all)|(apply OQ.af (cs:=S.l.map aj);exact eU;exact cu;rfl;exact (by repeat (first | exact Has.here | apply Has.there));rfl;exact Row.all)|(apply OQ.af (cs:=x1.l.map aj);exact eU;exact cu;rfl;exact (by repeat (first | exact Has.here | apply Has.there));rfl;exact Row.all)|(apply OQ.au (vs:=[.agg (cN.l.map aj).toArray,.agg (E.l.map aj).toArray]);exact aQ;rfl;exact (fun w' _=>c_F w'))|(apply OQ.au (vs:=[.agg (AA.l.map aj).toArray,.agg (F.l.map aj).toArray]);exact pg;rfl;exact (fun w' _=>c_G w'))|(apply OQ.au (vs:=[.agg (E.l.map aj).toArray,.agg (G.l.map aj).toArray]);exact aQ;rfl;exact (fun w' _=>c_R2 w'))|(apply OQ.au (vs:=[.agg (M.l.map aj).toArray,.agg (M.l.map aj).toArray]);exact aQ;rfl;exact (fun w' _=>c_R3 w'))|(apply OQ.au (vs:=[.agg (S.l.map aj).toArray,.agg (S.l.map aj).toArray]);exact aQ;rfl;exact (fun w' _=>c_SS w'))|(apply OQ.au (vs:=[.agg (x1.l.map aj).toArray,.agg (SS.l.map aj).toArray]);exact aQ;rfl;exact (fun w' _=>c_R4 w'))) rfl ?_)
            refine JQ.q (OQ.pure (v:=.agg ((R1.l++R2.l++R3.l++R4.l).map aj).toArray) rfl rfl (by kernel_rfl)) rfl ?_
            repeat (refine JQ.bA ?_)
            refine JL.ag (cs:=(R1.l++R2.l++R3.l++R4.l).map aj) xL rfl rfl rfl (bn _) (by repeat (first | exact ff.here | apply ff.there)) rfl ?_
            repeat (first | refine JL.nil ?_ | refine JE.next ?_)
            refine JC.ret (JE.aJ rfl (RV.av GV xL rfl (by repeat (first | exact Has.here | apply Has.there)) rfl Row.all) ?_)
            exact fun w' hw=>⟨rfl,hw.aM⟩
end
section
namespace dZ
def qJ (x : By) : List By:=x::List.replicate 31 0
end dZ
end
section
set_option maxRecDepth 10000
open Sl dZ
theorem xN : aI Tryz.prog 74:=⟨_,Tryz.func74,rfl,by kernel_rfl⟩
theorem kZ : aI Tryz.prog 54:=⟨_,Tryz.func54,rfl,by kernel_rfl⟩
theorem pA : aI Tryz.prog 33:=⟨_,Tryz.func33,rfl,by kernel_rfl⟩
theorem mY (k u : List By) : (aP k u).length=32:=jh _
section
variable {P : Program} {n : Nat} {E : Env} {C : World→Prop} {dst : Option Tmp} {ty t t' : TypeId} {pos : String} {aft : Array Edge} {g : Option (Nat × Bool)} {x y : Operand}
theorem OQ.Lp {a b r : BitVec 8} (hx : ev E x=some (U8 a)) (hy : ev E y=some (U8 b)) (h : a &&& b=r) : OQ P n E C ⟨dst,.binOp .and t x y t',ty,pos,aft,g⟩ (U8 r):=h ▸ OQ.FU hx hy
end
theorem JU : ∀ x : By,x &&& 248#8=x / 8 * 8:=by decide +kernel
theorem GW : ∀ x : By,x &&& 127#8 ||| 64#8=x % 64+64:=by decide +kernel
set_option maxHeartbeats 8000000 in
theorem zN (k : List By) (hk : k.length=32) (w : World) : Calls Tryz.prog 74 [.agg (k.map U8).toArray].toArray w fun e w'=>e=.returned (.agg ((dN k).map U8).toArray)∧Ext w w':=by
  have hc0:=kS (l:=k) (i:=0) (by omega)
  have hc31:=kS (l:=k.set 0 (k.getD 0 0 / 8 * 8)) (i:=31) (by rw [List.length_set];omega)
  have hlK : ((dN k).map U8).length=32:=by rw [List.length_map,om];exact hk
  refine enter (n:=16) Tryz.func74 rfl rfl rfl (ah.start w []) ?_
  repeat (first | refine JC.seq ?_ | refine JC.region ?_)
  refine JL.box (r:=k.map U8) rfl rfl rfl fun b1 _=>?_
  refine JL.alloc ir rfl fun b2 _=>?_
  repeat (first | refine JL.q (by first|(apply OQ.aE;exact Tryz.underlying23;exact wo;rfl;rfl;exact (by decide))|(apply OQ.load;exact GC;rfl;exact (.there .here);exact (Row.cell hc0))|(apply OQ.FU (b:=248#8);rfl;rfl)|(apply OQ.assign;rfl)) rfl ?_ | refine JC.seq ?_ | refine JC.region ?_ | refine JL.nil ?_ | refine JE.next ?_)
  refine JL.az (r':=(k.set 0 (k.getD 0 0 / 8 * 8)).map U8) wo rfl rfl rfl rfl (.there .here) (by rw [List.length_map,hk];decide) (by rw [JU];exact sw _ _ _) ?_
  repeat (first | refine JL.q (by first|(apply OQ.aE;exact Tryz.underlying23;exact wo;rfl;rfl;exact (by decide))|(apply OQ.load;exact GC;rfl;exact (.there .here);exact (Row.cell hc31))|(apply OQ.FU (b:=127#8);rfl;rfl)|(apply OQ.No (b:=64#8);rfl;rfl)|(apply OQ.move;rfl)) rfl ?_ | refine JC.seq ?_ | refine JC.region ?_ | refine JL.nil ?_ | refine JE.next ?_)
  refine JL.az (r':=(dN k).map U8) wo rfl rfl rfl rfl (.there .here) (by rw [List.length_map,List.length_set,hk];decide) (by rw [GW];exact sw _ _ _) ?_
  generalize dN k=K at hlK ⊢
  repeat (first | refine JL.q (by (apply OQ.af (cs:=K.map U8);exact aN;exact aB;rfl;exact (.there .here);exact hlK;exact Row.all)) rfl ?_ | refine JC.seq ?_ | refine JC.region ?_ | refine JL.nil ?_ | refine JE.next ?_)
  refine JL.ag (cs:=K.map U8) aB rfl rfl hlK (aX _) .here (by simp) ?_
  repeat (first | refine JL.nil ?_ | refine JE.next ?_)
  refine JC.ret (JE.aJ rfl (RV.av aN aB rfl .here hlK Row.all) ?_)
  exact fun w' hw=>⟨rfl,hw.aM⟩
set_option maxHeartbeats 32000000 in
set_option maxRecDepth 4000 in
theorem mZ (k u : List By) (hk : k.length=32) (hu : u.length=32) (w : World) : Calls Tryz.prog 54 [.agg (k.map U8).toArray,.agg (u.map U8).toArray].toArray w fun e w'=>e=.returned (.agg ((aP k u).map U8).toArray)∧Ext w w':=by
  have cC:=zN k hk
  have cN:=vR u hu
  have eM:=GP k u hu
  have lM:=mY k u
  unfold JH at eM
  have hK : (dN k).length=32:=by rw [om];exact hk
  have hlk : (k.map U8).length=32:=by rw [List.length_map];exact hk
  have hlu : (u.map U8).length=32:=by rw [List.length_map];exact hu
  have hlK : ((dN k).map U8).length=32:=by rw [List.length_map];exact hK
  generalize dN k=K at cC eM hK hlK
  generalize dm u=x1 at cN eM
  generalize aP k u=R at eM lM ⊢
  refine enter (n:=47) Tryz.func54 rfl rfl rfl (ah.start w []) ?_
  repeat (first | refine JC.seq ?_ | refine JC.region ?_)
  refine JL.box (r:=k.map U8) rfl rfl rfl fun b2 _=>?_
  refine JL.box (r:=u.map U8) rfl rfl rfl fun b3 _=>?_
  refine JL.alloc ir rfl fun b4 _=>?_
  repeat (first | refine JC.seq ?_ | refine JL.nil ?_ | refine JE.next ?_)
  let vs : Nat→Nat→Value:=fun j x=>match j with
    | 0=>.agg (k.map U8).toArray
    | 1=>.agg (K.map U8).toArray
    | 2=>.agg (u.map U8).toArray
    | 3=>.agg (x1.l.map aj).toArray
    | _=>Pt x 0
  let Ms : Nat→Nat→List aH:=fun j x=>match j with
    | 4=>[⟨x,Row 23 ((List.replicate 32 (0 : By)).map U8),true⟩]
    | 5=>[⟨x,Row 118 (bH.l.map aj),true⟩]
    | 6=>[⟨x,Row 23 (K.map U8),true⟩]
    | 7=>[⟨x,Row 118 (x1.l.map aj),true⟩]
    | 8=>[⟨b4,Row 23 ((List.replicate 32 (0 : By)).map U8),true⟩]
    | 9=>[⟨b3,Row 23 (u.map U8),true⟩]
    | 10=>[⟨b2,Row 23 (k.map U8),true⟩]
    | _=>[]
  refine JC.grow (g:=⟨[(2,Pt b2 0),(3,Pt b3 0),(4,Pt b4 0)],11,vs,Ms,(fun j=>match j with | 1=>[(0,11)] | 3=>[(2,13)] | 6=>[(4,5),(1,12)] | 7=>[(5,6),(3,14)] | _=>[]),(fun j=>match j with | 0=>[10] | 2=>[9] | 6=>[4] | 7=>[5] | _=>[]),(fun j=>match j with | 6=>[4] | 7=>[5] | _=>[]),(fun j=>match j with | 6=>some 4 | 7=>some 5 | _=>none)⟩) [(4,5),(5,6)] [6,7,8,9,10] fc (by repeat (first | exact ai.nil | refine ai.cons _ _ _ rfl ?_)) (aq.refl _) (by kernel_rfl) (by kernel_rfl) (by kernel_rfl) ?_ ?_
  · refine ⟨?_,?_,?_,?_,?_,?_,?_,?_,trivial⟩
    · (intro x EF MF Q kk;exact JL.q (OQ.af (cs:=k.map U8) aN aB rfl .here hlk Row.all) rfl (JL.nil (kk default nofun)))
    · (intro x EF MF Q kk;exact JL.q (OQ.au (vs:=[.agg (k.map U8).toArray]) xN rfl fun w' _=>cC w') rfl (JL.nil (kk default nofun)))
    · (intro x EF MF Q kk;exact JL.q (OQ.af (cs:=u.map U8) aN aB rfl .here hlu Row.all) rfl (JL.nil (kk default nofun)))
    · (intro x EF MF Q kk;exact JL.q (OQ.au (vs:=[.agg (u.map U8).toArray]) tK rfl fun w' _=>cN w') rfl (JL.nil (kk default nofun)))
    · (intro x EF MF Q kk;exact JL.alloc ir rfl fun b _=>JL.nil (kk b nofun))
    · (intro x EF MF Q kk;exact JL.alloc mX rfl fun b _=>JL.nil (kk b nofun))
    · (intro x EF MF Q kk;exact JL.ag (cs:=K.map U8) aB rfl rfl hlK (aX _) .here rfl (JL.nil (kk (x 4) (fun k h=>by cases h;rfl))))
    · (intro x EF MF Q kk;exact JL.ag (cs:=x1.l.map aj) cu rfl rfl rfl (bn _) .here rfl (JL.nil (kk (x 5) (fun k h=>by cases h;rfl))))
  · intro x hx
    have h6:=hx 6 4 (by decide) rfl
    have h7:=hx 7 5 (by decide) rfl
    show JE _ _ _ _ _ [(5,Pt (x 4) 0),(6,Pt (x 5) 0),(2,Pt b2 0),(3,Pt b3 0),(4,Pt b4 0)] [⟨(x 6),Row 23 (K.map U8),true⟩,⟨(x 7),Row 118 (x1.l.map aj),true⟩,⟨b4,Row 23 ((List.replicate 32 (0 : By)).map U8),true⟩,⟨b3,Row 23 (u.map U8),true⟩,⟨b2,Row 23 (k.map U8),true⟩]
    rw [h6,h7]
    generalize x 4=b5
    generalize x 5=b6
    clear hx h6 h7 x vs Ms
    repeat (first | refine JC.seq ?_ | refine JC.region ?_ | refine JE.next ?_)
    refine JL.q (OQ.pure (v:=.agg (xD.l.map aj).toArray) rfl rfl (by kernel_rfl)) rfl ?_
    repeat (refine JL.q (by (apply OQ.af (cs:=x1.l.map aj);exact eU;exact cu;rfl;exact (by repeat (first | exact Has.here | apply Has.there));rfl;exact Row.all)) rfl ?_)
    refine JL.q (OQ.pure (v:=.agg (xD.l.map aj).toArray) rfl rfl (by kernel_rfl)) rfl ?_
    refine JL.q (OQ.pure (v:=.agg ((jM x1 (le K) 0).l.map aj).toArray) rfl rfl (by kernel_rfl)) rfl ?_
    refine JL.alloc JT rfl fun b7 _=>?_
    refine JL.ag (cs:=(jM x1 (le K) 0).l.map aj) xL rfl rfl rfl (bn _) .here rfl ?_
    repeat (first | refine JL.q (by (apply OQ.move;rfl)) rfl ?_ | refine JC.seq ?_ | refine JC.region ?_ | refine JC.block ?_ | refine JL.nil ?_ | refine JE.next ?_)
    refine JC.loop (fun n : Nat=>[(4,Pt b4 0),(5,Pt b5 0),(6,Pt b6 0),(7,Pt b7 0),(19,N n)])
      (fun n=>[⟨b7,Row 121 ((jM x1 (le K) n).l.map aj),true⟩,⟨b5,Row 23 (K.map U8),true⟩,⟨b6,Row 118 (x1.l.map aj),true⟩,⟨b4,Row 23 ((List.replicate 32 (0 : By)).map U8),true⟩])
      (fun n=>255 - n) (fun n=>n≤255) 0 (by omega) (by repeat (first | exact ai.nil | refine ai.cons _ _ _ rfl ?_)) (.keep _ _ _ _ _ _ (fun _ h=>h) (.keep _ _ _ _ _ _ (fun _ h=>h) (.keep _ _ _ _ _ _ (fun _ h=>h) (.keep _ _ _ _ _ _ (fun _ h=>h) (.nil _))))) ?_
    intro n hn
    repeat (first | refine JL.q (by (apply OQ.bP;rfl;rfl)) rfl ?_ | refine JC.seq ?_ | refine JC.region ?_ | refine JL.nil ?_ | refine JE.next ?_)
    refine JC.cond rfl (fun h=>?_) (fun h=>?_)
    · have hn' : n<255:=of_decide_eq_true h
      clear h hn eM
      have eN : jM x1 (le K) (n+1)=EP ((le K).testBit (254 - n)) (vQ x1 (EP ((le K).testBit (254 - n)) (jM x1 (le K) n))):=rfl
      have hcb:=kS (l:=K) (i:=(254 - n) / 8) (by omega)
      have hbit : (K.getD ((254 - n) / 8) 0 >>> ((254 - n) % 8)) &&& 1#8=bt ((le K).testBit (254 - n)):=by rw [Lo _ _ (by omega),zD]
      have b32 : (254 - n) / 8<32:=by omega
      generalize (le K).testBit (254 - n)=c at eN hbit
      generalize jM x1 (le K) n=s at eN ⊢
      have c1:=nQ c s
      generalize EP c s=s1 at eN c1
      have c2:=xM x1 s1
      generalize vQ x1 s1=s2 at eN c2
      have c3:=nQ c s2
      rw [← eN] at c3
      have e3 : jM x1 (le K) (n+1)=jM x1 (le K) (n+1):=rfl
      generalize hs3 : jM x1 (le K) (n+1)=s3 at c3
      clear eN e3
      repeat (first | refine JL.q (by first|(apply OQ.aE;exact Tryz.underlying23;exact wo;rfl;rfl;exact b32)|(apply OQ.load;exact GC;rfl;exact (.there .here);exact (Row.cell hcb))|(apply OQ.KC;rfl;rfl)|(apply OQ.Lp (b:=1#8) (r:=bt c);rfl;rfl;exact hbit)|(apply OQ.move;rfl)|(apply OQ.assign;rfl)|(apply OQ.jE;rfl;rfl;exact (by (try simp only []);omega);exact (by (try simp only []);omega))|(apply OQ.BA;rfl;rfl;exact (by (try simp only []);omega))|(apply OQ.Dd;rfl;rfl;exact (by (try simp only []);omega);exact (by (try simp only []);omega))) rfl ?_ | refine JC.seq ?_ | refine JC.region ?_ | refine JC.block ?_ | refine JC.skip ?_ | refine JL.nil ?_ | refine JE.next ?_)
      refine JC.tail 7 fc (by kernel_rfl) ?_
      simp only [List.take_succ_cons,List.take_zero,List.drop_succ_cons,List.drop_zero]
      repeat (first | refine JQ.q (by first|(apply OQ.af (cs:=s.l.map aj);exact GV;exact xL;rfl;exact .here;rfl;exact Row.all)|(apply OQ.af (cs:=x1.l.map aj);exact eU;exact cu;rfl;exact (by repeat (first | exact Has.here | apply Has.there));rfl;exact Row.all)|(apply OQ.au (vs:=[.agg (s.l.map aj).toArray,U8 (bt c)]);exact mu;rfl;exact (fun w' _=>c1 w'))|(apply OQ.au (vs:=[.agg (s1.l.map aj).toArray,.agg (x1.l.map aj).toArray]);exact vV;rfl;exact (fun w' _=>c2 w'))|(apply OQ.au (vs:=[.agg (s2.l.map aj).toArray,U8 (bt c)]);exact mu;rfl;exact (fun w' _=>c3 w'))|(apply OQ.move;rfl)) rfl ?_ | refine JQ.bA ?_)
      refine JL.ag (cs:=s3.l.map aj) xL rfl rfl rfl (bn _) .here rfl ?_
      rw [← hs3]
      repeat (first | refine JL.q (by first|(apply OQ.move;rfl)|(apply OQ.aZ;rfl;rfl;exact (by (try simp only []);omega))) rfl ?_ | refine JC.region ?_ | refine JL.nil ?_ | refine JE.next ?_ | refine JE.an ?_)
      exact JE.again (i:=n) (n+1) (by omega) (by omega) (by repeat (first | exact ai.nil | refine ai.cons _ _ _ rfl ?_)) (aq.refl _)
    · have hn' : ¬ n<255:=of_decide_eq_false h
      obtain rfl : n=255:=by omega
      clear h hn hn'
      generalize jM x1 (le K) 255=s at eM ⊢
      obtain ⟨x2,z2,x3,z3⟩:=s
      have c1:=xK z2
      have c2:=aV x2 (sE z2)
      have c3:=EZ (di x2 (sE z2))
      have eM' : Kl (di x2 (sE z2))=R:=eM
      rw [eM'] at c3
      clear eM eM'
      generalize di x2 (sE z2)=q at c2 c3
      generalize sE z2=v at c1 c2
      have hR : (R.map U8).length=32:=by rw [List.length_map];exact lM
      repeat (first | refine JC.seq ?_ | refine JC.exit ?_ | refine JE.next ?_ | refine JE.ax ?_ | refine JE.aA ?_)
      refine JC.tail 7 fc (by kernel_rfl) ?_
      simp only [List.take_succ_cons,List.take_zero,List.drop_succ_cons,List.drop_zero]
      repeat (first | refine JQ.q (by first|(apply OQ.af (cs:=x2.l.map aj);exact eU;exact cu;rfl;exact .here;rfl;exact (Row.cells rfl))|(apply OQ.af (cs:=z2.l.map aj);exact eU;exact cu;rfl;exact .here;rfl;exact (Row.cells rfl))|(apply OQ.au (vs:=[.agg (z2.l.map aj).toArray]);exact vU;rfl;exact (fun w' _=>c1 w'))|(apply OQ.au (vs:=[.agg (x2.l.map aj).toArray,.agg (v.l.map aj).toArray]);exact aQ;rfl;exact (fun w' _=>c2 w'))|(apply OQ.au (vs:=[.agg (q.l.map aj).toArray]);exact Cs;rfl;exact (fun w' _=>c3 w'))|(apply OQ.bM;rfl;rfl;rfl;exact (by decide);rfl)) rfl ?_ | refine JQ.bA ?_)
      refine JL.ag (cs:=R.map U8) aB rfl rfl hR (aX _) (by repeat (first | exact ff.here | apply ff.there)) (by simp) ?_
      repeat (first | refine JL.nil ?_ | refine JE.next ?_)
      refine JC.ret (JE.aJ rfl (RV.av aN aB rfl (by repeat (first | exact Has.here | apply Has.there)) hR Row.all) ?_)
      exact fun w' hw=>⟨rfl,hw.aM⟩
set_option maxHeartbeats 8000000 in
theorem qD (k : List By) (hk : k.length=32) (w : World) : Calls Tryz.prog 33 [.agg (k.map U8).toArray].toArray w fun e w'=>e=.returned (.agg ((aP k (qJ 9)).map U8).toArray)∧Ext w w':=by
  have c:=mZ k (qJ 9) hk rfl
  have hlk : (k.map U8).length=32:=by rw [List.length_map];exact hk
  have hly : ((aP k (qJ 9)).map U8).length=32:=by rw [List.length_map];exact mY _ _
  generalize aP k (qJ 9)=Y at c hly ⊢
  refine enter (n:=6) Tryz.func33 rfl rfl rfl (ah.start w []) ?_
  repeat (first | refine JC.seq ?_ | refine JC.region ?_)
  refine JL.box (r:=k.map U8) rfl rfl rfl fun b1 _=>?_
  refine JL.alloc ir rfl fun b2 _=>?_
  repeat (first | refine JL.q (by (apply OQ.af (cs:=k.map U8);exact aN;exact aB;rfl;exact (.there .here);exact hlk;exact Row.all)) rfl ?_ | refine JC.seq ?_ | refine JC.region ?_ | refine JL.nil ?_ | refine JE.next ?_)
  refine JL.q (OQ.pure (v:=.agg ((qJ 9).map U8).toArray) rfl rfl (by kernel_rfl)) rfl ?_
  repeat (refine JL.q (by (apply OQ.au (vs:=[.agg (k.map U8).toArray,.agg ((qJ 9).map U8).toArray]);exact kZ;rfl;exact (fun w' _=>c w'))) rfl ?_)
  refine JL.ag (cs:=Y.map U8) aB rfl rfl hly (aX _) .here (by simp) ?_
  repeat (first | refine JL.nil ?_ | refine JE.next ?_)
  refine JC.ret (JE.aJ rfl (RV.av aN aB rfl .here hly Row.all) ?_)
  exact fun w' hw=>⟨rfl,hw.aM⟩
end
section
set_option maxRecDepth 10000
open Sl dZ
section
variable {P : Program} {n : Nat} {E : Env} {C : World→Prop} {dst : Option Tmp} {ty t t' : TypeId} {pos : String} {aft : Array Edge} {g : Option (Nat × Bool)} {x y : Operand} {v u : Value} {cs : List Value}
theorem OQ.JV (hx : ev E x=some v) (hy : ev E y=some u) (h : P.built t [(0,v),(1,u)]=some cs.toArray) : OQ P n E C ⟨dst,.build t #[(0,x),(1,y)],ty,pos,aft,g⟩ (.agg cs.toArray):=
  OQ.run fun a ha w _=>by
    have h1:=ha.eval hx
    have h2:=ha.eval hy
    have r:=run_build w t #[(0,v),(1,u)] cs.toArray (by simpa using h)
    simp [execOp,h1,h2,r]
end
theorem Lr (place : Nat→Option (Nat × Nat)) (h0 : place 0=some (0,32)) (h1 : place 1=some (32,32)) (a b : List By) (ha : a.length=32) (hb : b.length=32) :
    Instr.fill place (((List.replicate 64 (0 : By)).map U8).toArray) [(0,.agg (a.map U8).toArray),(1,.agg (b.map U8).toArray)]=some ((a++b).map U8).toArray:=by
  have e : Instr.fill place (((List.replicate 64 (0 : By)).map U8).toArray) [(0,.agg (a.map U8).toArray),(1,.agg (b.map U8).toArray)] =
      Instr.fill (fun i=>some (i * 32,32)) (((List.replicate 64 (0 : By)).map U8).toArray) [(0,.agg (a.map U8).toArray),(1,.agg (b.map U8).toArray)]:=by
    simp [Instr.fill,h0,h1]
  rw [e]
  obtain ⟨r,h6,h7,h8⟩:=Great.fill_dense (s:=32) (by decide) [.agg (a.map U8).toArray,.agg (b.map U8).toArray] 0 (((List.replicate 64 (0 : By)).map U8).toArray) (by simp [Value.cells,ha,hb]) (by simp)
  simp only [List.zipIdx_cons,List.zipIdx_nil,List.map_cons,List.map_nil] at h6
  have hr : r=((a++b).map U8).toArray:=by
    apply Array.ext_getElem?
    intro k
    rw [h8 k]
    by_cases hk : k<32
    · rw [if_pos (by simp;omega)]
      simp [Nat.div_eq_of_lt hk,Nat.mod_eq_of_lt hk,Value.cells,List.getElem?_append,ha,hk]
    · by_cases hk2 : k<64
      · rw [if_pos (by simp;omega)]
        have d : k / 32=1:=by omega
        have m : k % 32=k - 32:=by omega
        simp [d,m,Value.cells,List.getElem?_append,ha,hk]
      · rw [if_neg (by simp;omega),Array.getElem?_eq_none (by simp;omega),Array.getElem?_eq_none (by simp;omega)]
  rw [← hr]
  exact h6
theorem Cu : dW Tryz.prog 46=some 64:=by kernel_rfl
theorem GX : gM Tryz.prog 46=true:=by kernel_rfl
theorem Ls : zc Tryz.prog 46=some ((List.replicate 64 (0 : By)).map U8):=by kernel_rfl
theorem zO (a b : List By) (ha : a.length=32) (hb : b.length=32) : Tryz.prog.built 46 [(0,.agg (a.map U8).toArray),(1,.agg (b.map U8).toArray)]=some ((a++b).map U8).toArray:=by
  have h : Tryz.prog.built 46 [(0,.agg (a.map U8).toArray),(1,.agg (b.map U8).toArray)]=Instr.fill (fun i=>#[(0,32),(32,32)][i]?) (((List.replicate 64 (0 : By)).map U8).toArray) [(0,.agg (a.map U8).toArray),(1,.agg (b.map U8).toArray)]:=by kernel_rfl
  rw [h]
  exact Lr _ rfl rfl a b ha hb
theorem Cv : aI Tryz.prog 15:=⟨_,Tryz.func15,rfl,by kernel_rfl⟩
theorem vW : aI Tryz.prog 35:=⟨_,Tryz.func35,rfl,by kernel_rfl⟩
set_option maxHeartbeats 8000000 in
theorem E2 (k : List By) (hk : k.length=32) (w : World) : Calls Tryz.prog 15 [.agg (k.map U8).toArray].toArray w fun e w'=>e=.returned (.agg ((k++aP k (qJ 9)).map U8).toArray)∧Ext w w':=by
  have c:=qD k hk
  have hY:=mY k (qJ 9)
  generalize aP k (qJ 9)=Y at c hY ⊢
  have hlk : (k.map U8).length=32:=by rw [List.length_map];exact hk
  have hlp : ((k++Y).map U8).length=64:=by rw [List.length_map,List.length_append,hk,hY]
  have bt:=zO k Y hk hY
  refine enter (n:=7) Tryz.func15 rfl rfl rfl (ah.start w []) ?_
  repeat (first | refine JC.seq ?_ | refine JC.region ?_)
  refine JL.box (r:=k.map U8) rfl rfl rfl fun b1 _=>?_
  refine JL.alloc Ls rfl fun b2 _=>?_
  repeat (first | refine JC.seq ?_ | refine JL.nil ?_ | refine JE.next ?_)
  refine JC.tail 4 fc (by kernel_rfl) ?_
  simp only [List.take_succ_cons,List.take_zero,List.drop_succ_cons,List.drop_zero]
  repeat (first | refine JQ.q (by first|(apply OQ.af (cs:=k.map U8);exact aN;exact aB;rfl;exact (by repeat (first | exact Has.here | apply Has.there));exact hlk;exact Row.all)|(apply OQ.au (vs:=[.agg (k.map U8).toArray]);exact pA;rfl;exact (fun w' _=>c w'))|(apply OQ.JV;rfl;rfl;exact bt)) rfl ?_ | refine JQ.bA ?_)
  refine JL.ag (cs:=(k++Y).map U8) Cu rfl rfl hlp (aX _) .here (by simp) ?_
  repeat (first | refine JL.nil ?_ | refine JE.next ?_)
  refine JC.ret (JE.aJ rfl (RV.av GX Cu rfl .here hlp Row.all) ?_)
  exact fun w' hw=>⟨rfl,hw.aM⟩
theorem E3 {a b : List By} (_ha : a.length=32) : (((a++b).map U8).drop 0).take (a.map U8).length=a.map U8:=by
  simp [List.map_append]
theorem Lt {a b : List By} (ha : a.length=32) : (((a++b).map U8).drop 32).take (b.map U8).length=b.map U8:=by
  rw [List.map_append,List.drop_left' (by rw [List.length_map];exact ha),List.take_of_length_le (Nat.le_refl _)]
set_option maxHeartbeats 8000000 in
theorem xO (a Y u : List By) (ha : a.length=32) (hY : Y.length=32) (hu : u.length=32) (w : World) : Calls Tryz.prog 35 [.agg ((a++Y).map U8).toArray,.agg (u.map U8).toArray].toArray w
    fun e w'=>e=.returned (.agg ((aP a u).map U8).toArray)∧Ext w w':=by
  have c:=mZ a u ha hu
  have hla : (a.map U8).length=32:=by rw [List.length_map];exact ha
  have hlu : (u.map U8).length=32:=by rw [List.length_map];exact hu
  have hR : ((aP a u).map U8).length=32:=by rw [List.length_map];exact mY _ _
  have h0:=E3 (b:=Y) ha
  generalize aP a u=R at c hR ⊢
  refine enter (n:=9) Tryz.func35 rfl rfl rfl (ah.start w []) ?_
  repeat (first | refine JC.seq ?_ | refine JC.region ?_)
  refine JL.box (r:=(a++Y).map U8) rfl rfl rfl fun b2 _=>?_
  refine JL.box (r:=u.map U8) rfl rfl rfl fun b3 _=>?_
  refine JL.alloc ir rfl fun b4 _=>?_
  repeat (first | refine JL.q (by first|(apply OQ.af (cs:=a.map U8);exact aN;exact aB;rfl;exact (by repeat (first | exact Has.here | apply Has.there));exact hla;exact (Row.cells h0))|(apply OQ.af (cs:=u.map U8);exact aN;exact aB;rfl;exact (by repeat (first | exact Has.here | apply Has.there));exact hlu;exact Row.all)|(apply OQ.au (vs:=[.agg (a.map U8).toArray,.agg (u.map U8).toArray]);exact kZ;rfl;exact (fun w' _=>c w'))|(apply OQ.bM;rfl;rfl;rfl;exact (by decide);rfl)) rfl ?_ | refine JC.seq ?_ | refine JC.region ?_ | refine JL.nil ?_ | refine JE.next ?_)
  refine JL.ag (cs:=R.map U8) aB rfl rfl hR (aX _) .here (by simp) ?_
  repeat (first | refine JL.nil ?_ | refine JE.next ?_)
  refine JC.ret (JE.aJ rfl (RV.av aN aB rfl .here hR Row.all) ?_)
  exact fun w' hw=>⟨rfl,hw.aM⟩
end
section
open Sl iB mO dZ
namespace n5
open qG iH
def zP : ByteArray:=⟨#[114,97,116,99,104,101,116]⟩
def mz (root sh : Bk) : Bk:=jn (bV root sh) (bytesOf zP) (2 * 32)
def cw (root sh : Bk) : Bk:=(mz root sh).take 32
def en (root sh : Bk) : Bk:=(mz root sh).drop 32
theorem m5 (a b : Bk) : (mz a b).length=64:=dF _ _ _
theorem fH (a b : Bk) : (cw a b).length=32:=by simp [cw,m5]
theorem fe (a b : Bk) : (en a b).length=32:=by simp [en,m5]
def nt (c : Bk) : Bk:=bV c [2]
def lG (c : Bk) : Bk:=bV c [1]
def dz : Bk:=List.replicate 32 0
def xP : Bk:=List.replicate 12 0
def Cw (k : Bk) : Bk:=aP k (qJ 9)
theorem sH (k : Bk) : (Cw k).length=32:=jh _
theorem vX (k u : Bk) : (aP k u).length=32:=jh _
def iG (root own other : Bk) : bu:=⟨cw root (aP own other),own,other,true,false,en root (aP own other),dz,0,0,0,[]⟩
def ia (root own : Bk) : bu:=⟨root,own,dz,false,false,dz,dz,0,0,0,[]⟩
theorem uJ (root own other : Bk) (h2 : own.length=32) (h3 : other.length=32) : (iG root own other).ok:=
  ⟨fH _ _,h2,h3,fe _ _,rfl,nofun⟩
theorem sI (root own : Bk) (h1 : root.length=32) (h2 : own.length=32) : (ia root own).ok:=⟨h1,h2,rfl,rfl,rfl,nofun⟩
def vY (s : bu) : Hd:=⟨Cw s.own,s.prev,s.sent⟩
def j6 (key side p : Bk) : Bk:=qA (k1 key) (k2 key) xP side p
def iw (key side z : Bk) : Bk × Nat:=ij (k1 key) (k2 key) xP side z
def zQ (s : bu) : bu:={ s with send:=nt s.send,sent:=s.sent+1 }
def zR (s : bu) (side p : Bk) : Bk:=ee (vY s)++j6 (lG s.send) (side++ee (vY s)) p
def kn (s : bu) (side p : Bk) : bu × Bk × Nat:=
  if s.bI=false then (s,[],13) else if 2147483647≤s.sent then (s,[],12) else (zQ s,zR s side p,0)
theorem sJ (s : bu) : (vY s).chain.length=32:=sH _
theorem A8 {s : bu} (h : s.ok) : (zQ s).ok:=⟨h.root,h.own,h.other,rfl,h.take,h.kept⟩
def Ir : Nat→Bk→Bk
  | 0,c=>c
  | k+1,c=>Ir k (nt c)
def Cx (o : Bk) : Nat→Nat→Bk→List Kp
  | 0,_,_=>[]
  | k+1,t,c=>⟨o,t,lG c⟩::Cx o k (t+1) (nt c)
theorem sK : ∀ (k : Nat) (c : Bk),Ir (k+1) c=nt (Ir k c)
  | 0,_=>rfl
  | k+1,c=>sK k (nt c)
theorem GY {c : Bk} (h : c.length=32) : ∀ k : Nat,(Ir k c).length=32
  | 0=>h
  | k+1=>by rw [sK];rfl
theorem v5 (o : Bk) : ∀ (k t : Nat) (c : Bk),(Cx o k t c).length=k
  | 0,_,_=>rfl
  | k+1,t,c=>by rw [Cx,List.length_cons,v5 o k]
theorem xS (o : Bk) : ∀ (k t : Nat) (c : Bk),Cx o (k+1) t c=Cx o k t c++[⟨o,t+k,lG (Ir k c)⟩]
  | 0,t,c=>rfl
  | k+1,t,c=>by
    rw [Cx,xS o k (t+1) (nt c),Cx,List.cons_append,show t+1+k=t+(k+1) by omega]
    rfl
theorem E4 {o : Bk} (ho : o.length=32) : ∀ (k t : Nat) (c : Bk),∀ x ∈ Cx o k t c,x.ok
  | 0,_,_,x,h=>by cases h
  | k+1,t,c,x,h=>by
    rcases List.mem_cons.1 h with rfl | h
    · exact ⟨ho,rfl⟩
    · exact E4 ho k _ _ x h
def keep (l : List Kp) : List Kp:=(l.reverse.take 2000).reverse
theorem pB (l : List Kp) : keep l=l.drop (l.length - 2000):=by rw [keep,List.take_reverse,List.reverse_reverse]
theorem E5 {l : List Kp} {x : Kp} (h : x ∈ keep l) : x ∈ l:=by
  rw [pB] at h
  exact List.mem_of_mem_drop h
theorem GZ {l : List Kp} (h : l.length≤2000) : keep l=l:=by
  rw [pB,show l.length - 2000=0 by omega]
  rfl
theorem E6 (l : List Kp) : (keep l).length≤2000:=by rw [pB,List.length_drop];omega
def trim (s : bu) : bu:={ s with kept:=keep s.kept }
theorem qf (s : bu) : (trim s).kept=keep s.kept:=rfl
theorem A9 {s : bu} (h : s.ok) : (trim s).ok:=by
  refine ⟨h.root,h.own,h.other,h.send,h.take,fun x hx=>?_⟩
  rw [qf] at hx
  exact h.kept x (E5 hx)
theorem Ba {s : bu} (h : s.kept.length≤2000) : trim s=s:=by cases s;rw [trim,GZ h]
def m6 (s : bu) (k : Nat) : bu:={ s with take:=Ir k s.take,taken:=s.taken+k,kept:=s.kept++Cx s.other k s.taken s.take }
def leave (s : bu) (to : Nat) : Option bu:=
  if 1000<to - s.taken then none else some (trim (m6 s (to - s.taken)))
theorem mA (s : bu) : m6 s 0=s:=by cases s;simp [m6,Ir,Cx]
theorem zS {s : bu} (h : s.ok) (k : Nat) : (m6 s k).ok:=⟨h.root,h.own,h.other,h.send,GY h.take k,fun x hx=>by
  rcases List.mem_append.1 hx with hx | hx
  · exact h.kept x hx
  · exact E4 h.other _ _ _ x hx⟩
theorem sL {s : bu} {to : Nat} (h : 1000<to - s.taken) : leave s to=none:=by rw [leave,if_pos h]
theorem ot {s : bu} {to : Nat} (h : ¬ 1000<to - s.taken) : leave s to=some (trim (m6 s (to - s.taken))):=by rw [leave,if_neg h]
theorem E7 {s : bu} {to : Nat} (h : to≤s.taken) (hk : s.kept.length≤2000) : leave s to=some s:=by
  rw [ot (by omega),show to - s.taken=0 by omega,mA,Ba hk]
theorem mB {s n : bu} {to : Nat} (h : s.ok) (e : leave s to=some n) : n.ok∧n.kept.length≤2000∧n.taken=max s.taken to:=by
  rw [leave] at e
  split at e
  · cases e
  · cases e
    refine ⟨A9 (zS h _),by rw [qf];exact E6 _,?_⟩
    show s.taken+(to - s.taken)=_
    omega
def jk (n : bu) (ch fresh : Bk) : bu:=
  ⟨cw (cw n.root (aP n.own ch)) (aP fresh ch),fresh,ch,true,true,en (cw n.root (aP n.own ch)) (aP fresh ch),en n.root (aP n.own ch),0,0,n.sent,n.kept⟩
theorem qg {n : bu} (h : n.ok) {ch fresh : Bk} (hc : ch.length=32) (hf : fresh.length=32) : (jk n ch fresh).ok:=
  ⟨fH _ _,hf,hc,fe _ _,fe _ _,h.kept⟩
def ou (s : bu) (h : Hd) (fresh : Bk) : Option bu:=
  if s.takes=true then (leave s h.prev).map fun n=>jk n h.chain fresh else some (jk s h.chain fresh)
def sM (h : Hd) (k : Kp) : Bool:=decide (k.chain=h.chain) && decide (k.num=h.num)
def sN (h : Hd) (l : List Kp) : Option Nat:=l.findIdx? (sM h)
def ld (s : bu) (h : Hd) (fresh : Bk) : Option bu:=if h.chain=s.other∧s.takes=true then some s else ou s h fresh
def eE (m : bu) : bu:={ m with take:=nt m.take,taken:=m.taken+1 }
def ko (s : bu) (h : Hd) (fresh : Bk) : Nat ⊕ (bu × Bk):=
  match sN h s.kept with
  | some i=>.inr ({ s with kept:=s.kept.eraseIdx i },(s.kept.getD i ng).key)
  | none=>match ld s h fresh with
    | none=>.inl 12
    | some n=>if h.num<n.taken then .inl 11 else match leave n h.num with
      | none=>.inl 12
      | some m=>.inr (eE m,lG m.take)
def fO (s : bu) (side z fresh : Bk) : bu × Bk × Nat:=
  match dU z with
  | none=>(s,[],3)
  | some (h,rest)=>match ko s h fresh with
    | .inl c=>(s,[],c)
    | .inr (n,key)=>if (iw key (side++ee h) rest).2=0 then (n,(iw key (side++ee h) rest).1,0) else (s,[],(iw key (side++ee h) rest).2)
theorem qE {s : bu} (h : s.ok) (i : Nat) : ({ s with kept:=s.kept.eraseIdx i } : bu).ok:=⟨h.root,h.own,h.other,h.send,h.take,fun x hx=>h.kept x (List.mem_of_mem_eraseIdx hx)⟩
theorem pC {s : bu} (h : s.ok) : (eE s).ok:=⟨h.root,h.own,h.other,h.send,rfl,h.kept⟩
theorem v7 {s n : bu} {h : Hd} {fresh : Bk} (hs : s.ok) (hc : h.chain.length=32) (hf : fresh.length=32) (hk : s.kept.length≤2000) (e : ou s h fresh=some n) : n.ok∧n.kept.length≤2000∧n.taken=0:=by
  rw [ou] at e
  split at e
  · obtain ⟨m,hm,rfl⟩:=Option.map_eq_some_iff.1 e
    have:=mB hs hm
    exact ⟨qg this.1 hc hf,this.2.1,rfl⟩
  · cases e
    exact ⟨qg hs hc hf,hk,rfl⟩
theorem Cy {key side z : Bk} (h : ¬ (iw key side z).2=0) : (iw key side z).1=[]:=by
  rw [iw,ij] at h ⊢
  split
  · rfl
  · split at h
    · omega
    · split
      · next h2=>rw [if_pos h2] at h;exact absurd rfl h
      · rfl
theorem pD {s : bu} {side z fresh : Bk} (hh : dU z=none) : fO s side z fresh=(s,[],3):=by rw [fO,hh]
theorem m7 {s : bu} {side z fresh rest : Bk} {h : Hd} {c : Nat} (hh : dU z=some (h,rest)) (hm : ko s h fresh=.inl c) : fO s side z fresh=(s,[],c):=by
  rw [fO,hh]
  dsimp only
  rw [hm]
theorem pF {s n : bu} {side z fresh rest key : Bk} {h : Hd} (hh : dU z=some (h,rest)) (hm : ko s h fresh=.inr (n,key)) (ho : (iw key (side++ee h) rest).2=0) : fO s side z fresh=(n,(iw key (side++ee h) rest).1,0):=by
  rw [fO,hh]
  dsimp only
  rw [hm]
  dsimp only
  rw [if_pos ho]
theorem sO {s n : bu} {side z fresh rest key : Bk} {h : Hd} (hh : dU z=some (h,rest)) (hm : ko s h fresh=.inr (n,key)) (ho : ¬ (iw key (side++ee h) rest).2=0) : fO s side z fresh=(s,[],(iw key (side++ee h) rest).2):=by
  rw [fO,hh]
  dsimp only
  rw [hm]
  dsimp only
  rw [if_neg ho]
theorem xT {s : bu} {h : Hd} {fresh : Bk} {i : Nat} (hx : sN h s.kept=some i) : ko s h fresh=.inr ({ s with kept:=s.kept.eraseIdx i },(s.kept.getD i ng).key):=by rw [ko,hx]
theorem sP {s : bu} {h : Hd} {fresh : Bk} (hx : sN h s.kept=none) (ho : ld s h fresh=none) : ko s h fresh=.inl 12:=by
  rw [ko,hx]
  dsimp only
  rw [ho]
theorem Bb {s n : bu} {h : Hd} {fresh : Bk} (hx : sN h s.kept=none) (ho : ld s h fresh=some n) (hn : h.num<n.taken) : ko s h fresh=.inl 11:=by
  rw [ko,hx]
  dsimp only
  rw [ho]
  dsimp only
  rw [if_pos hn]
theorem Bc {s n : bu} {h : Hd} {fresh : Bk} (hx : sN h s.kept=none) (ho : ld s h fresh=some n) (hn : ¬ h.num<n.taken) (hl : leave n h.num=none) : ko s h fresh=.inl 12:=by
  rw [ko,hx]
  dsimp only
  rw [ho]
  dsimp only
  rw [if_neg hn,hl]
theorem Bd {s n m : bu} {h : Hd} {fresh : Bk} (hx : sN h s.kept=none) (ho : ld s h fresh=some n) (hn : ¬ h.num<n.taken) (hl : leave n h.num=some m) : ko s h fresh=.inr (eE m,lG m.take):=by
  rw [ko,hx]
  dsimp only
  rw [ho]
  dsimp only
  rw [if_neg hn,hl]
end n5
end
section
open Sl iB mO dZ
namespace n5
open qG iH
end n5
end
section
set_option maxRecDepth 10000
namespace Sl
section
variable {P : Program} {t tx e : TypeId}
theorem qK (w : World) (ty : TypeId) (i : TypeInfo) (ht : P.underlying t=some (.slice e)) (hk : P.underlying tx=some (.int .i64)) (hi : P.info? e=some i) (hz : i.zero=some (.int .u8 0)) (hs : i.size=1) (hb : i.bytes=1)
    (m : Nat) (hm : m≤281474976710656) (h0 : 0<m) (hfit : Builtin.nextslicecap m 0 * i.bytes≤281474976710656) :
    (Builtin.append_ #[t,tx] ty #[.slice none 0 0,N m]).run P w =
      .ok (.slice (some ⟨w.heap.size,0,none⟩) m (grownCap w m 0 e))
        (w.drew.alloc (.cells ((List.replicate m (Value.int .u8 0)).toArray++Builtin.zeroCells #[.int .u8 0] (grownCap w m 0 e - m)) e)):=by
  have h48' : ¬ (281474976710656<Builtin.nextslicecap m 0):=by rw [hb] at hfit;omega
  have hw : IntKind.i64.wrap (m : Int)=m:=jP (by omega) (by omega)
  have h1 : ¬ ((m : Int)<0):=by omega
  have h2 : ¬ ((281474976710656 : Int)<(m : Int)):=by omega
  have h3 : ¬ (m=0):=by omega
  have h63' : ¬ (9223372036854775807<(m : Int)):=by omega
  have hz' : (Value.int .u8 0).cells=#[Value.int .u8 0]:=rfl
  simp [Builtin.append_,Builtin.firstCells,run_underlying ht,run_underlying hk,sizeOf,typeInfo,zeroValue,hi,hz,hs,hb,asInt,asIntOf,N,hw,h1,h2,h3,h63',h48',Question.forced,newRow,grownCap,hz',u7]
variable {n : Nat} {w0 : World} {S : List Nat} {ops : Array Oper} {Q : Exit→Act→World→Prop} {l : List Oper} {E : Env} {M : List aH} {d b : Nat} {ty : TypeId} {pos : String} {aft : Array Edge} {x y : Operand}
theorem JL.E8 {m : Nat} (hu : P.underlying t=some (.slice e)) (hk : P.underlying tx=some (.int .i64)) (hi : EI P e (.int .u8 0) 1 1) (hx : ev E x=some (.slice none 0 0)) (hy : ev E y=some (N m)) (h0 : 0<m)
    (hsm : m≤140737488355328) (hd : Nat.blt d n=true)
    (kk : ∀ b' cap',JL P n w0 S ops Q l ((d,.slice (some ⟨b',0,none⟩) m cap')::E) (⟨b',Sl.aD e 1 m cap' (List.replicate m (Value.int .u8 0)),true⟩::M)) : JL P n w0 S ops Q (⟨some d,.call ⟨.builtin .append,#[x,y],#[t,tx]⟩,ty,pos,aft,none⟩::l) E M:=
  ⟨fun a w ha hw=>wpList_plain rfl fun K hK=>by
    obtain ⟨i,hi1,hi2,hi3,hi4⟩:=hi.get
    unfold Oper.wp
    simp only [execOp,resolve,invoke,builtin,Sem.run_bind,Sem.run_pure,Result.andThen_ok,List.map_toArray,List.map_cons,List.map_nil,ha.eval hx,ha.eval hy]
    have hfit:=growslice_fits (need:=m) (old:=0) (bytes:=1) (by omega) (by omega)
    rw [qK w ty i hu hk hi1 hi2 hi3 hi4 m (by omega) h0 (by rw [hi4];exact hfit)]
    have hge:=grownCap_ge w m 0 e
    generalize grownCap w m 0 e=nc at hge
    refine hK _ _ ((kk w.heap.size nc).go _ _ (ha.put d _ hd) (hw.push (.cells ((List.replicate m (Value.int .u8 0)).toArray++Builtin.zeroCells #[.int .u8 0] (nc - m)) e) ?_ rfl rfl rfl rfl))
    refine ⟨(Builtin.zeroCells #[.int .u8 0] (nc - m)).toList,by simp,?_,by rw [List.length_replicate,Nat.mul_one],hge⟩
    have h8 : (Builtin.zeroCells #[.int .u8 0] (nc - m)).size=nc - m:=by simp [Builtin.zeroCells]
    simp only [List.length_append,Array.length_toList,h8,List.length_replicate]
    omega⟩
end
end Sl
end
section
set_option maxRecDepth 10000
open Sl
theorem Lu : iV Tryz.prog 27=true:=by kernel_rfl
theorem G0 : dW Tryz.prog 27=some 1:=by kernel_rfl
theorem zT : aI Tryz.prog 61:=⟨_,Tryz.func61,rfl,by kernel_rfl⟩
theorem lf : aI Tryz.prog 39:=⟨_,Tryz.func39,rfl,by kernel_rfl⟩
theorem E9 {e : TypeId} {k cap : Nat} {xs : List Value} : ∀ o,Sl.aD e 1 k cap xs o→Sl.aD e 1 0 cap [] o:=by
  rintro o ⟨sp,rfl,h1,h2,h3⟩
  exact ⟨xs++sp,rfl,by simpa using h1,rfl,Nat.zero_le _⟩
set_option maxHeartbeats 4000000 in
theorem Cz (m : Nat) (h0 : 0<m) (hm : m≤1000000000) (w : World) :
    Calls Tryz.prog 61 [.slice none 0 0,N m].toArray w fun e w'=>∃ x : Nat × Nat,e=.returned (.slice (some ⟨x.1,0,none⟩) 0 x.2)∧ah w [] [⟨x.1,Sl.aD 5 1 0 x.2 [],true⟩] w':=by
  refine enter (n:=27) Tryz.func61 rfl rfl rfl (ah.start w []) ?_
  repeat (first | refine JL.q (by first|(apply OQ.gP (a:=m) (b:=0);rfl;rfl;exact (by omega))|(apply OQ.move;rfl)|(apply OQ.assign;rfl)) rfl ?_ | refine JC.seq ?_ | refine JC.region ?_ | refine JL.nil ?_ | refine JE.next ?_)
  refine JC.cond_false rfl rfl ?_
  repeat (first | refine JL.q (by first|(apply OQ.KH (k:=0) (cap:=0) (ad:=none);exact Tryz.underlying27;rfl)|(apply OQ.len (k:=0) (cap:=0) (ad:=none);exact Tryz.underlying27;rfl)|(apply OQ.jE (a:=0) (b:=0);rfl;rfl;exact (by decide);exact (by decide))|(apply OQ.jE (a:=m) (b:=0);rfl;rfl;exact (by omega);exact (by omega))|(apply OQ.Dl (a:=m - 0) (b:=0);rfl;rfl;exact (by omega))|(apply OQ.move;rfl)|(apply OQ.assign;rfl)) rfl ?_ | refine JC.seq ?_ | refine JC.region ?_ | refine JC.skip ?_ | refine JL.nil ?_ | refine JE.next ?_)
  refine JC.cond_true rfl rfl ?_
  repeat (first | refine JL.q (by first|(apply OQ.KH (k:=0) (cap:=0) (ad:=none);exact Tryz.underlying27;rfl)|(apply OQ.nW (hi:=0) (len:=0) (cap:=0) (ad:=none);exact Tryz.underlying27;exact lH;rfl;rfl;exact (by decide))|(apply OQ.move;rfl)) rfl ?_ | refine JC.region ?_)
  refine JL.E8 (m:=m - 0) Tryz.underlying27 Tryz.underlying3 uh rfl rfl (by omega) (by omega) rfl fun b cap=>?_
  rw [Nat.sub_zero]
  refine JL.KG (b:=b) .here (fun ob hA=>by obtain ⟨sp,_,_,_,h3⟩:=hA;exact h3) fun hcap=>?_
  repeat (first | refine JL.q (by first|(apply OQ.len (k:=0) (cap:=0) (ad:=none);exact Tryz.underlying27;rfl)|(apply OQ.to;exact (OQ.nW (ad:=some ⟨b,0,none⟩) (len:=m) (cap:=cap) (hi:=0) Tryz.underlying27 lH rfl rfl (Nat.zero_le _));exact wI)|(apply OQ.move;rfl)|(apply OQ.assign;rfl)) rfl ?_ | refine JC.seq ?_ | refine JC.region ?_ | refine JL.nil ?_ | refine JE.next ?_)
  exact JC.ret (JE.aJ rfl (RV.tmp rfl) fun w' hw=>⟨(b,cap),rfl,hw.weak (.keep _ _ _ _ _ _ E9 (.nil _))⟩)
def mC (a b : aO) : Nat→List Bt
  | 0=>[]
  | 1=>a.l
  | _=>a.l++b.l
def JW (a b : aO) : Nat→aO
  | 0=>a
  | _=>b
theorem zU {i : Nat} (h : i<2) : i=0∨i=1:=by omega
theorem uK (a b : aO) {i : Nat} (h : i<2) : mC a b (i+1)=mC a b i++(JW a b i).l:=by
  rcases zU h with rfl | rfl <;> rfl
theorem Fa (a b : aO) {i : Nat} (h : i<2) : [a.v,b.v][i]?=some (JW a b i).v:=by
  rcases zU h with rfl | rfl <;> rfl
theorem Be (a b : aO) (i : Nat) : (mC a b i).length≤a.l.length+b.l.length:=by
  match i with
  | 0=>exact Nat.zero_le _
  | 1=>exact Nat.le_add_right _ _
  | i+2=>exact Nat.le_of_eq List.length_append
set_option maxHeartbeats 8000000 in
theorem mD (a b : aO) (bs : Nat) (w : World) (ha : a.ok w) (hb : b.ok w) (hs : ∃ o,w.heap[bs]?=some o∧Row 27 [a.v,b.v] o) (h0 : 0<a.l.length+b.l.length) (hl : a.l.length+b.l.length≤1000000000) :
    Calls Tryz.prog 39 [.slice (some ⟨bs,0,none⟩) 2 2].toArray w fun e w'=>∃ x : Nat × Nat,e=.returned (.slice (some ⟨x.1,0,none⟩) (a.l++b.l).length x.2)∧ah w [] [⟨x.1,Sl.aD 5 1 (a.l++b.l).length x.2 ((a.l++b.l).map U8),true⟩] w':=by
  obtain ⟨o,ho,hA⟩:=hs
  have hok : ∀ i,i<2→(JW a b i).ok w:=fun i h=>by rcases zU h with rfl | rfl <;> assumption
  refine enter (n:=36) Tryz.func39 rfl rfl rfl (ah.seen (S:=[]) ho hA) ?_
  repeat (first | refine JL.q (by first|(apply OQ.len (k:=2);exact Tryz.underlying53;rfl)|(apply OQ.move;rfl)|(apply OQ.assign;rfl)) rfl ?_ | refine JC.seq ?_ | refine JC.region ?_ | refine JC.block ?_ | refine JL.nil ?_ | refine JE.next ?_)
  refine JC.loop (fun i : Nat=>[(0,.slice (some ⟨bs,0,none⟩) 2 2),(3,N (mC a b i).length),(9,.slice (some ⟨bs,0,none⟩) 2 2),(10,N 2),(11,N i)]) (fun _=>[⟨bs,Row 27 [a.v,b.v],false⟩]) (fun i=>2 - i) (fun i=>i≤2) 0 (by decide) (by repeat (first | exact ai.nil | refine ai.cons _ _ _ rfl ?_)) (aq.refl _) ?_
  intro i hi
  repeat (first | refine JL.q (by (apply OQ.bP (a:=i) (b:=2);rfl;rfl)) rfl ?_ | refine JC.seq ?_ | refine JC.region ?_ | refine JL.nil ?_ | refine JE.next ?_)
  refine JC.cond rfl (fun h=>?_) (fun h=>?_)
  · have hi' : i<2:=of_decide_eq_true h
    clear h
    have hv:=Fa a b hi'
    have hcs:=uK a b hi'
    have hle:=Be a b (i+1)
    have hln : (mC a b (i+1)).length=(mC a b i).length+(JW a b i).l.length:=by rw [hcs,List.length_append]
    generalize JW a b i=s at hv hln
    have hcell : ∀ o,Row 27 [a.v,b.v] o→cellAt o (0+i)=some s.v:=by rw [Nat.zero_add];exact Row.cell hv
    repeat (first | refine JL.q (by first|(apply OQ.ig (i:=i) (b:=bs) (j:=0);exact Tryz.underlying53;exact G0;rfl;rfl;exact hi')|(apply OQ.load (v:=s.v);exact Lu;rfl;exact .here;exact hcell)|(apply OQ.len (k:=s.l.length) (ad:=s.ad) (cap:=s.cap);exact Tryz.underlying27;rfl)|(apply OQ.aZ (a:=(mC a b i).length) (b:=s.l.length);rfl;rfl;exact (by omega))|(apply OQ.gP (a:=(mC a b i).length+s.l.length) (b:=0);rfl;rfl;exact (by omega))|(apply OQ.move;rfl)|(apply OQ.assign;rfl)) rfl ?_ | refine JC.seq ?_ | refine JC.region ?_ | refine JC.block ?_ | refine JC.skip ?_ | refine JL.nil ?_ | refine JE.next ?_)
    refine JC.cond_false rfl rfl ?_
    repeat (first | refine JL.q (by first|(apply OQ.aZ (a:=i) (b:=1);rfl;rfl;exact (by omega))|(apply OQ.move;rfl)) rfl ?_ | refine JC.region ?_ | refine JC.skip ?_ | refine JL.nil ?_ | refine JE.next ?_ | refine JE.an ?_)
    rw [← hln]
    exact JE.again (i:=i) (i+1) hi' (by omega) (by repeat (first | exact ai.nil | refine ai.cons _ _ _ rfl ?_)) (aq.refl _)
  · have hi' : i=2:=by have:=of_decide_eq_false h;omega
    subst hi'
    clear h hi
    have hcl : (mC a b 2).length=a.l.length+b.l.length:=List.length_append
    repeat (first | refine JL.q (by (apply OQ.move;rfl)) rfl ?_ | refine JC.seq ?_ | refine JC.region ?_ | refine JC.exit ?_ | refine JE.next ?_ | refine JE.ax ?_ | refine JE.aA ?_)
    refine JL.bY (ι:=Nat × Nat) (vs:=[.slice none 0 0,N (mC a b 2).length]) (fun x=>.slice (some ⟨x.1,0,none⟩) 0 x.2) (fun x=>[⟨x.1,Sl.aD 5 1 0 x.2 [],true⟩]) zT rfl rfl (fun i=>by simp) (fun w' hw'=>Cz _ (by omega) (by omega) w') ?_
    rintro ⟨bx,cap⟩
    try dsimp only
    repeat (first | refine JL.q (by first|(apply OQ.len (k:=2);exact Tryz.underlying53;rfl)|(apply OQ.move;rfl)|(apply OQ.assign;rfl)) rfl ?_ | refine JC.seq ?_ | refine JC.region ?_ | refine JC.block ?_ | refine JL.nil ?_ | refine JE.next ?_)
    refine JC.loop (fun z : Nat × Nat × Nat=>[(0,.slice (some ⟨bs,0,none⟩) 2 2),(6,.slice (some ⟨z.2.1,0,none⟩) (mC a b z.1).length z.2.2),(25,.slice (some ⟨bs,0,none⟩) 2 2),(26,N 2),(27,N z.1)]) (fun z=>[⟨z.2.1,Sl.aD 5 1 (mC a b z.1).length z.2.2 ((mC a b z.1).map U8),true⟩,⟨bs,Row 27 [a.v,b.v],false⟩]) (fun z=>2 - z.1) (fun z=>z.1≤2) (0,bx,cap) (Nat.zero_le _) (by repeat (first | exact ai.nil | refine ai.cons _ _ _ rfl ?_)) (aq.refl _) ?_
    rintro ⟨i,bx,cap⟩ hi
    dsimp only at hi ⊢
    repeat (first | refine JL.q (by (apply OQ.bP (a:=i) (b:=2);rfl;rfl)) rfl ?_ | refine JC.seq ?_ | refine JC.region ?_ | refine JL.nil ?_ | refine JE.next ?_)
    refine JC.cond rfl (fun h=>?_) (fun h=>?_)
    · have hi' : i<2:=of_decide_eq_true h
      clear h
      have hv:=Fa a b hi'
      have hso:=hok i hi'
      have hcs:=uK a b hi'
      have hle:=Be a b (i+1)
      have hln : (mC a b (i+1)).length=(mC a b i).length+(JW a b i).l.length:=by rw [hcs,List.length_append]
      generalize JW a b i=s at hv hln hcs hso
      have hcell : ∀ o,Row 27 [a.v,b.v] o→cellAt o (0+i)=some s.v:=by rw [Nat.zero_add];exact Row.cell hv
      repeat (first | refine JL.q (by first|(apply OQ.ig (i:=i) (b:=bs) (j:=0);exact Tryz.underlying53;exact G0;rfl;rfl;exact hi')|(apply OQ.load (v:=s.v);exact Lu;rfl;exact (.there .here);exact hcell)|(apply OQ.move;rfl)|(apply OQ.assign;rfl)) rfl ?_ | refine JC.seq ?_ | refine JC.region ?_ | refine JC.block ?_ | refine JC.skip ?_ | refine JL.nil ?_ | refine JE.next ?_)
      refine JL.append (cs:=s.l.map U8) (m:=s.l.length) (ad:=s.ad) (sc:=s.cap) (fun b' cap'=>[⟨b',Sl.aD 5 1 ((mC a b i).length+s.l.length) cap' ((mC a b i).map U8++s.l.map U8),true⟩,⟨bs,Row 27 [a.v,b.v],false⟩]) Tryz.underlying27 uh rfl rfl (by intro _ _;repeat (first | exact aY.here | apply aY.there)) (by rw [List.length_map,Nat.mul_one]) (fun w' hw'=>(hso.holds hw' rfl).reads) (fun v hv=>by obtain ⟨q,_,rfl⟩:=List.mem_map.1 hv;rfl) rfl (by decide) (by omega) (by omega) rfl fun b' cap'=>?_
      rw [← List.map_append,← hcs,← hln]
      repeat (first | refine JL.q (by first|(apply OQ.aZ (a:=i) (b:=1);rfl;rfl;exact (by omega))|(apply OQ.move;rfl)|(apply OQ.assign;rfl)) rfl ?_ | refine JC.region ?_ | refine JL.nil ?_ | refine JE.next ?_ | refine JE.an ?_)
      exact JE.again (ι:=Nat × Nat × Nat) (i:=(i,bx,cap)) (i+1,b',cap') hi' (by dsimp only;omega) (by repeat (first | exact ai.nil | refine ai.cons _ _ _ rfl ?_)) (aq.refl _)
    · have hi' : i=2:=by have:=of_decide_eq_false h;omega
      subst hi'
      clear h hi
      repeat (first | refine JL.q (by first|(apply OQ.move;rfl)|(apply OQ.assign;rfl)) rfl ?_ | refine JC.seq ?_ | refine JC.region ?_ | refine JC.exit ?_ | refine JL.nil ?_ | refine JE.next ?_ | refine JE.ax ?_ | refine JE.aA ?_)
      refine JC.ret (JE.aJ rfl (RV.tmp rfl) fun w' hw=>⟨(bx,cap),rfl,hw.weak (.keep _ _ _ _ _ _ (fun _ h=>h) (.nil _))⟩)
end
section
set_option maxRecDepth 10000
open Sl
section
variable {P : Program} {n : Nat} {w0 : World} {S : List Nat} {ops : Array Oper} {Q : Exit→Act→World→Prop} {l : List Oper} {E : Env} {M : List aH} {C : World→Prop}
variable {dst : Option Tmp} {d : Nat} {t t' e ty : TypeId} {pos : String} {aft : Array Edge} {g : Option (Nat × Bool)} {x y : Operand}
theorem JL.mE {ι : Type} {X M0 : List aH} (vf : ι→Value) (Yf : ι→List aH) {f : FuncId} {xs : List Operand} {ats : Array TypeId} {vs : List Value} (hg : aI P f) (hx : nw E xs=some vs) (hd : Nat.blt d n=true) (hX : ∀ e ∈ X,e.wr=true) (hY : ∀ i,∀ e ∈ Yf i,e.wr=true)
    (hc : ∀ w,ah w0 S (X++M0) w→ah w (keys X) X w→Calls P f vs.toArray w fun e w'=>∃ i,e=.returned (vf i)∧ah w (keys X) (Yf i) w')
    (k : ∀ i,JL P n w0 S ops Q l ((d,vf i)::E) (Yf i++M0)) : JL P n w0 S ops Q (⟨some d,.call ⟨.value (.func f),xs.toArray,ats⟩,ty,pos,aft,none⟩::l) E (X++M0):=
  JL.call (ι:=ι) vf (fun i=>Yf i++M0) hg hx hd (fun w hw=>(hc w hw (hw.own.weak (ef _ _))).mono fun _ _ ⟨i,h1,h2⟩=>⟨i,h1,hw.HL h2 hX (hY i)⟩) k
theorem OQ.Fb {ad : Option Addr} {k cap : Nat} (hu : P.underlying t=some (.slice e)) (hx : ev E x=some (.slice ad k cap)) (hy : ev E y=some (.slice none 0 0)) :
    OQ P n E C ⟨dst,.binOp .eql t x y t',ty,pos,aft,g⟩ (.bool ad.isNone):=
  OQ.run fun c ha w _=>by
    have h1:=ha.eval hx
    have h2:=ha.eval hy
    have h4 : (binOp .eql t (.slice ad k cap) (.slice none 0 0)).run P w=.ok (.bool ad.isNone) w:=by
      show (do pure (.bool (← Op.equal t (.slice ad k cap) (.slice none 0 0))) : Sem Value).run P w=_
      simp [Sem.run_bind,run_equal_slice_nil w t e ad k cap hu]
    simp [execOp,h1,h2,eqGuard,h4]
end
end
section
set_option maxRecDepth 10000
open Sl iB
def Lv : Nat→List (Nat × Nat)
  | 2=>[(1,5)]
  | 3=>[(0,4),(2,6)]
  | 6=>[(5,9)]
  | 7=>[(4,8),(6,10)]
  | 8=>[(3,7)]
  | 9=>[(7,11)]
  | _=>[]
def MX : Nat→List Nat
  | 2=>[1]
  | 3=>[2,12]
  | 6=>[5]
  | 7=>[6,12]
  | 8=>[11]
  | 9=>[10]
  | _=>[]
def MY : Nat→List Nat
  | 2=>[1]
  | 6=>[5]
  | 8=>[11]
  | 9=>[10]
  | _=>[]
theorem Fc {c : List B} (hc : c.length=32) {w' : World} {b b6 b5 : Nat} {u : B} (h1 : ∃ o,w'.heap[b]?=some o∧Row 23 (c.map U8) o) (h2 : ∃ o,w'.heap[b6]?=some o∧Row 27 [.slice (some ⟨b5,0,none⟩) 1 1] o) (h3 : ∃ o,w'.heap[b5]?=some o∧Row 5 [U8 u] o) (hG : iE w') :
    Calls Tryz.prog 57 [.slice (some ⟨b,0,none⟩) 32 32,.slice (some ⟨b6,0,none⟩) 1 1].toArray w' fun e w''=>e=.returned (.agg ((bV c [u]).map U8).toArray)∧Ext w' w'':=by
  obtain ⟨o1,ho1,hA1⟩:=h1
  obtain ⟨o2,ho2,hA2⟩:=h2
  obtain ⟨o3,ho3,hA3⟩:=h3
  have h4 : aO.ok w' ⟨some ⟨b5,0,none⟩,1,[u]⟩:=⟨by simp,Reads.block ho3 (Row.all _ hA3)⟩
  have:=oR ⟨some ⟨b,0,none⟩,32,c⟩ (some ⟨b6,0,none⟩) 1 [⟨some ⟨b5,0,none⟩,1,[u]⟩] w' hG ⟨Nat.le_of_eq hc,Reads.block ho1 (Row.all _ hA1)⟩ (Reads.block ho2 (Row.all _ hA2)) (by simpa using h4) (show c.length<4611686018427387904 by omega) (by simp) (by simp [total])
  simpa [aO.v,hc] using this
set_option maxHeartbeats 8000000 in
theorem uL (c : List B) (hc : c.length=32) (w : World) (hG : iE w) :
    Calls Tryz.prog 37 [.agg (c.map U8).toArray].toArray w fun e w'=>e=.returned (.tuple #[.agg ((bV c [2]).map U8).toArray,.agg ((bV c [1]).map U8).toArray])∧Ext w w':=by
  refine enter (n:=12) Tryz.func37 rfl rfl rfl (ah.start w []) ?_
  repeat (first | refine JC.seq ?_ | refine JC.region ?_)
  refine JL.box (r:=c.map U8) rfl rfl rfl fun b1 _=>?_
  refine JL.alloc fU rfl fun b2 _=>?_
  refine JL.alloc fU rfl fun b3 _=>?_
  repeat (first | refine JC.seq ?_ | refine JL.nil ?_ | refine JE.next ?_)
  let vs : Nat→X→Value:=fun i x=>match i with
    | 0=>.slice (some ⟨b1,0,none⟩) 32 32
    | 1=>.slice (some ⟨x.1,0,none⟩) 1 1
    | 2=>.slice (some ⟨x.1,0,none⟩) 1 1
    | 3=>.agg ((bV c [2]).map U8).toArray
    | 4=>.slice (some ⟨b1,0,none⟩) 32 32
    | 5=>.slice (some ⟨x.1,0,none⟩) 1 1
    | 6=>.slice (some ⟨x.1,0,none⟩) 1 1
    | _=>.agg ((bV c [1]).map U8).toArray
  let Ms : Nat→X→List aH:=fun i x=>match i with
    | 1=>[⟨x.1,Row 5 [U8 2],true⟩]
    | 2=>[⟨x.1,Row 27 [.slice (some ⟨x.2,0,none⟩) 1 1],true⟩,⟨x.2,Row 5 [U8 2],true⟩]
    | 5=>[⟨x.1,Row 5 [U8 1],true⟩]
    | 6=>[⟨x.1,Row 27 [.slice (some ⟨x.2,0,none⟩) 1 1],true⟩,⟨x.2,Row 5 [U8 1],true⟩]
    | 8=>[⟨b2,Row 23 ((bV c [2]).map U8),true⟩]
    | 9=>[⟨b3,Row 23 ((bV c [1]).map U8),true⟩]
    | 12=>[⟨b1,Row 23 (c.map U8),true⟩]
    | 11=>[⟨b2,Row 23 ((List.replicate 32 (0 : B)).map U8),true⟩]
    | 10=>[⟨b3,Row 23 ((List.replicate 32 (0 : B)).map U8),true⟩]
    | _=>[]
  refine JC.grow (g:=⟨[(1,Pt b1 0),(2,Pt b2 0),(3,Pt b3 0)],13,vs,Ms,Lv,MX,MY,fun _=>none⟩) [] [8,9] mixed (by repeat (first | exact ai.nil | refine ai.cons _ _ _ rfl ?_)) ?_ ?_ ?_ ?_ ?_ ?_
  · exact aq.refl _
  · rfl
  · rfl
  · rfl
  · refine ⟨?_,?_,?_,?_,?_,?_,?_,?_,?_,?_,trivial⟩
    · intro x EF MF Q kk
      exact JL.q (OQ.kz Tryz.underlying23 s5 rfl) rfl (JL.nil (kk (0,0) nofun))
    · intro x EF MF Q kk
      exact JL.fL Tryz.underlying27 e5 rfl rfl rfl rfl fun b _=>JL.nil (kk (b,0) nofun)
    · intro x EF MF Q kk
      exact JL.fL Tryz.underlying53 wQ rfl rfl rfl rfl fun b _=>JL.nil (kk (b,(x 1).1) nofun)
    · intro x EF MF Q kk
      refine JL.q (OQ.au (vs:=[.slice (some ⟨b1,0,none⟩) 32 32,.slice (some ⟨(x 2).1,0,none⟩) 1 1]) fY rfl fun w' hw'=>Fc hc (hw'.get (.there (.there .here))) (hw'.get .here) (hw'.get (.there .here)) (hG.aM hw'.aM (by simp))) rfl (JL.nil (kk (0,0) nofun))
    · intro x EF MF Q kk
      exact JL.q (OQ.kz Tryz.underlying23 s5 rfl) rfl (JL.nil (kk (0,0) nofun))
    · intro x EF MF Q kk
      exact JL.fL Tryz.underlying27 e5 rfl rfl rfl rfl fun b _=>JL.nil (kk (b,0) nofun)
    · intro x EF MF Q kk
      exact JL.fL Tryz.underlying53 wQ rfl rfl rfl rfl fun b _=>JL.nil (kk (b,(x 5).1) nofun)
    · intro x EF MF Q kk
      refine JL.q (OQ.au (vs:=[.slice (some ⟨b1,0,none⟩) 32 32,.slice (some ⟨(x 6).1,0,none⟩) 1 1]) fY rfl fun w' hw'=>Fc hc (hw'.get (.there (.there .here))) (hw'.get .here) (hw'.get (.there .here)) (hG.aM hw'.aM (by simp))) rfl (JL.nil (kk (0,0) nofun))
    · intro x EF MF Q kk
      exact JL.ag fm rfl rfl (dP _) (dX _) .here (by simp) (JL.nil (kk (0,0) nofun))
    · intro x EF MF Q kk
      exact JL.ag fm rfl rfl (dP _) (dX _) .here (by simp) (JL.nil (kk (0,0) nofun))
  · intro x _
    repeat (refine JE.next ?_)
    refine JC.ret ?_
    skip
    refine JE.gN rfl (RV.av ni fm rfl .here (dP _) Row.all) (RV.av ni fm rfl (.there .here) (dP _) Row.all) fun w' hw=>⟨rfl,hw.aM⟩
def Lw : Nat→List (Nat × Nat)
  | 2=>[(0,4),(1,5)]
  | 5=>[(3,7),(4,8)]
  | 6=>[(2,6)]
  | 7=>[(5,9)]
  | _=>[]
def MZ : Nat→List Nat
  | 2=>[1,10]
  | 5=>[4,10]
  | 6=>[9]
  | 7=>[8]
  | _=>[]
def M1 : Nat→List Nat
  | 6=>[9]
  | 7=>[8]
  | _=>[]
theorem Bf {c : List B} (hc : c.length=32) {w' : World} {b b5 : Nat} {u : B} (h1 : ∃ o,w'.heap[b]?=some o∧Row 23 (c.map U8) o) (h3 : ∃ o,w'.heap[b5]?=some o∧Row 5 [U8 u] o) :
    Calls Tryz.prog 45 [.slice (some ⟨b,0,none⟩) 32 32,.slice (some ⟨b5,0,none⟩) 1 1].toArray w' fun e w''=>e=.returned (.agg ((bV c [u]).map U8).toArray)∧Ext w' w'':=by
  obtain ⟨o1,ho1,hA1⟩:=h1
  obtain ⟨o3,ho3,hA3⟩:=h3
  have:=j5 ⟨some ⟨b,0,none⟩,32,c⟩ ⟨some ⟨b5,0,none⟩,1,[u]⟩ w' ⟨Nat.le_of_eq hc,Reads.block ho1 (Row.all _ hA1)⟩ ⟨by simp,Reads.block ho3 (Row.all _ hA3)⟩ (show c.length<35184372088000 by omega) (by simp)
  simpa [aO.v,hc] using this
set_option maxHeartbeats 8000000 in
theorem sQ (c : List B) (hc : c.length=32) (w : World) :
    Calls Tryz.prog 32 [.agg (c.map U8).toArray].toArray w fun e w'=>e=.returned (.tuple #[.agg ((bV c [2]).map U8).toArray,.agg ((bV c [1]).map U8).toArray])∧Ext w w':=by
  refine enter (n:=10) Tryz.func32 rfl rfl rfl (ah.start w []) ?_
  repeat (first | refine JC.seq ?_ | refine JC.region ?_)
  refine JL.box (r:=c.map U8) rfl rfl rfl fun b1 _=>?_
  refine JL.alloc fU rfl fun b2 _=>?_
  refine JL.alloc fU rfl fun b3 _=>?_
  repeat (first | refine JC.seq ?_ | refine JL.nil ?_ | refine JE.next ?_)
  let vs : Nat→X→Value:=fun i x=>match i with
    | 0=>.slice (some ⟨b1,0,none⟩) 32 32
    | 1=>.slice (some ⟨x.1,0,none⟩) 1 1
    | 2=>.agg ((bV c [2]).map U8).toArray
    | 3=>.slice (some ⟨b1,0,none⟩) 32 32
    | 4=>.slice (some ⟨x.1,0,none⟩) 1 1
    | _=>.agg ((bV c [1]).map U8).toArray
  let Ms : Nat→X→List aH:=fun i x=>match i with
    | 1=>[⟨x.1,Row 5 [U8 2],true⟩]
    | 4=>[⟨x.1,Row 5 [U8 1],true⟩]
    | 6=>[⟨b2,Row 23 ((bV c [2]).map U8),true⟩]
    | 7=>[⟨b3,Row 23 ((bV c [1]).map U8),true⟩]
    | 8=>[⟨b3,Row 23 ((List.replicate 32 (0 : B)).map U8),true⟩]
    | 9=>[⟨b2,Row 23 ((List.replicate 32 (0 : B)).map U8),true⟩]
    | 10=>[⟨b1,Row 23 (c.map U8),true⟩]
    | _=>[]
  refine JC.grow (g:=⟨[(1,Pt b1 0),(2,Pt b2 0),(3,Pt b3 0)],11,vs,Ms,Lw,MZ,M1,fun _=>none⟩) [] [6,7] mixed (by repeat (first | exact ai.nil | refine ai.cons _ _ _ rfl ?_)) ?_ ?_ ?_ ?_ ?_ ?_
  · exact aq.refl _
  · rfl
  · rfl
  · rfl
  · refine ⟨?_,?_,?_,?_,?_,?_,?_,?_,trivial⟩
    · intro x EF MF Q kk
      exact JL.q (OQ.kz Tryz.underlying23 s5 rfl) rfl (JL.nil (kk (0,0) nofun))
    · intro x EF MF Q kk
      exact JL.fL Tryz.underlying27 e5 rfl rfl rfl rfl fun b _=>JL.nil (kk (b,0) nofun)
    · intro x EF MF Q kk
      exact JL.q (OQ.au (vs:=[.slice (some ⟨b1,0,none⟩) 32 32,.slice (some ⟨(x 1).1,0,none⟩) 1 1]) gR rfl fun w' hw'=>Bf hc (hw'.get (.there .here)) (hw'.get .here)) rfl (JL.nil (kk (0,0) nofun))
    · intro x EF MF Q kk
      exact JL.q (OQ.kz Tryz.underlying23 s5 rfl) rfl (JL.nil (kk (0,0) nofun))
    · intro x EF MF Q kk
      exact JL.fL Tryz.underlying27 e5 rfl rfl rfl rfl fun b _=>JL.nil (kk (b,0) nofun)
    · intro x EF MF Q kk
      exact JL.q (OQ.au (vs:=[.slice (some ⟨b1,0,none⟩) 32 32,.slice (some ⟨(x 4).1,0,none⟩) 1 1]) gR rfl fun w' hw'=>Bf hc (hw'.get (.there .here)) (hw'.get .here)) rfl (JL.nil (kk (0,0) nofun))
    · intro x EF MF Q kk
      exact JL.ag fm rfl rfl (dP _) (dX _) .here (by simp) (JL.nil (kk (0,0) nofun))
    · intro x EF MF Q kk
      exact JL.ag fm rfl rfl (dP _) (dX _) .here (by simp) (JL.nil (kk (0,0) nofun))
  · intro x _
    repeat (refine JE.next ?_)
    refine JC.ret ?_
    skip
    refine JE.gN rfl (RV.av ni fm rfl .here (dP _) Row.all) (RV.av ni fm rfl (.there .here) (dP _) Row.all) fun w' hw=>⟨rfl,hw.aM⟩
end
section
set_option maxRecDepth 10000
open Sl iB mO dZ n5
open qG (Bk)
open iH
theorem dQ : dW Tryz.prog 26=some 166:=by kernel_rfl
theorem gL : gM Tryz.prog 26=true:=by kernel_rfl
theorem oy : dW Tryz.prog 32=some 34:=by kernel_rfl
theorem zV : gM Tryz.prog 32=true:=by kernel_rfl
theorem qi : dW Tryz.prog 57=some 65:=by kernel_rfl
theorem Lx : gM Tryz.prog 57=true:=by kernel_rfl
theorem zW : EI Tryz.prog 57 (.agg (eg ng).toArray) 65 72:=by unfold EI;kernel_rfl
theorem NU : zc Tryz.prog 57=some (eg ng):=by kernel_rfl
def dI : bu:=⟨dz,dz,dz,false,false,dz,dz,0,0,0,[]⟩
theorem bC : dI.ok:=⟨rfl,rfl,rfl,rfl,rfl,nofun⟩
theorem xU : zc Tryz.prog 26=some (sec dI (.slice none 0 0)):=by kernel_rfl
def bQ : Hd:=⟨dz,0,0⟩
theorem G1 : zc Tryz.prog 32=some (hdc bQ):=by kernel_rfl
theorem aR : iV Tryz.prog 3=true:=by kernel_rfl
theorem nR : dW Tryz.prog 3=some 1:=by kernel_rfl
theorem fj : iV Tryz.prog 4=true:=by kernel_rfl
theorem v8 : dW Tryz.prog 4=some 1:=by kernel_rfl
theorem fW : iV Tryz.prog 24=true:=by kernel_rfl
theorem zX : dW Tryz.prog 24=some 1:=by kernel_rfl
theorem mF : Tryz.prog.eqGuardType Tryz.prog.depth 23=false:=by kernel_rfl
structure lO where
  ad : Option Addr
  cap : Nat
  l : List Kp
def lO.v (s : lO) : Value:=.slice s.ad s.l.length s.cap
structure lO.ok (w : World) (s : lO) : Prop where
  len : s.l.length≤s.cap
  reads : Reads w s.ad (aT s.l).flatten
  all : ∀ k ∈ s.l,k.ok
theorem lO.ok.holds {w0 w : World} {S : List Nat} {M : List aH} {s : lO} (h : s.ok w0) (hw : ah w0 S M w) (hS : S=[]) : s.ok w:=⟨h.len,hw.reads h.reads (fun _ a _=>by rw [hS];simp),h.all⟩
def Ly : lO:=⟨none,0,[]⟩
theorem G3 (w : World) : Ly.ok w:=⟨Nat.le_refl _,Reads.nil _ _,nofun⟩
def v9 (q : Acc) (l : List Kp) : lO:=match q with
  | none=>Ly
  | some p=>⟨some ⟨p.1,0,none⟩,p.2,l⟩
theorem zY (q : Acc) (l : List Kp) : (v9 q l).v=aC q l.length:=by cases q <;> rfl
theorem we {q : Acc} {l : List Kp} (h : q=none→l=[]) : (v9 q l).l=l:=by
  cases q with
  | none=>exact (h rfl).symm
  | some p=>rfl
def gi (q : Acc) (l : List Kp) : List aH:=ve 57 65 q (aT l)
theorem jN (q : Acc) (l : List Kp) : ∀ x ∈ gi q l,x.wr=true:=FW _ _ _ _
theorem Bg {w0 w : World} {S : List Nat} {M : List aH} {q : Acc} {l : List Kp} (hl : ∀ k ∈ l,k.ok) (hw : ah w0 S (gi q l++M) w) : (v9 q l).ok w:=by
  cases q with
  | none=>exact G3 w
  | some p=>
    have hw : ah w0 S (⟨p.1,Sl.aD 57 65 (aT l).length p.2 (aT l).flatten,true⟩::M) w:=hw
    obtain ⟨o,ho,hA⟩:=hw.get .here
    have hh:=Sl.aD.cells _ hA
    obtain ⟨sp,rfl,h2,h3,h4⟩:=hA
    exact ⟨by rw [dS] at h4;exact h4,Reads.block ho hh,hl⟩
def fo (b : Nat) (q : Acc) (s : bu) : List aH:=⟨b,Row 26 (sec s (aC q s.kept.length)),true⟩::gi q s.kept
theorem ep (b : Nat) (q : Acc) (s : bu) : ∀ x ∈ fo b q s,x.wr=true:=by
  intro x hx
  rcases List.mem_cons.1 hx with rfl | hx
  · rfl
  · exact jN _ _ x hx
theorem gK (q : Acc) (k : Nat) : (aC q k).oneCell'=true:=by cases q <;> rfl
theorem lg (q : Acc) (k : Nat) : (aC q k).cells=#[aC q k]:=by cases q <;> rfl
def Tb (S : List Nat) (w : World) : Prop:=(iE w∧1 ∉ S)∧(GQ w∧0 ∉ S)
theorem Tb.g {w0 w : World} {S : List Nat} {M : List aH} (h : Tb S w0) (hw : ah w0 S M w) : iE w:=h.1.1.aM hw.aM h.1.2
theorem Tb.q {w0 w : World} {S : List Nat} {M : List aH} (h : Tb S w0) (hw : ah w0 S M w) : GQ w:=h.2.1.aM hw.aM h.2.2
theorem Tb.own {w0 w : World} {S : List Nat} {X M : List aH} (h : Tb S w0) (hw : ah w0 S (X++M) w) (hX : ∀ e ∈ X,e.wr=true) : Tb (keys X) w:=by
  have hk : ∀ g,g<w0.heap.size→g ∉ S→g ∉ keys X:=fun g hg hS hm=>by
    obtain ⟨e,he,rfl⟩:=List.mem_map.1 hm
    rcases (hw.all e (List.mem_append_left _ he)).2 (hX e he) with h1 | h1
    · exact hS h1
    · omega
  exact ⟨⟨h.g hw,hk _ h.1.1.lt h.1.2⟩,⟨h.q hw,hk _ h.2.1.lt h.2.2⟩⟩
theorem Tb.nil {w : World} (h1 : iE w) (h2 : GQ w) : Tb [] w:=⟨⟨h1,by simp⟩,⟨h2,by simp⟩⟩
theorem Tb.same {S : List Nat} {w0 w : World} {M : List aH} (h : Tb S w0) (hw : ah w0 S M w) : Tb S w:=⟨⟨h.g hw,h.1.2⟩,⟨h.q hw,h.2.2⟩⟩
def pG (a : Int) : Bool:=decide (0≤a) && decide (a≤2147483647)
theorem kq : aI Tryz.prog 22:=⟨_,Tryz.func22,rfl,by kernel_rfl⟩
set_option maxHeartbeats 4000000 in
theorem xV (a : Int) (w : World) : Calls Tryz.prog 22 [I a].toArray w fun e w'=>e=.returned (.bool (pG a))∧Ext w w':=by
  refine enter (n:=9) Tryz.func22 rfl rfl rfl (ah.start w []) ?_
  unfold pG
  obtain ⟨c1,h1⟩ : ∃ c,decide ((0 : Int)≤a)=c:=⟨_,rfl⟩
  obtain ⟨c2,h2⟩ : ∃ c,decide (a≤2147483647)=c:=⟨_,rfl⟩
  rw [h1,h2]
  cases c1
  · repeat (first | refine JL.q (by first|(apply OQ.wG (b:=0);rfl;rfl;exact h1)|(apply OQ.cq;rfl;rfl)|(apply OQ.move;rfl)|(apply OQ.assign;rfl)) rfl ?_ | refine JC.seq ?_ | refine JC.region ?_ | refine JL.nil ?_ | refine JE.next ?_ | refine JL.fK rfl rfl rfl rfl ?_)
    exact JC.ret (JE.aJ rfl (RV.tmp rfl) fun w' hw=>⟨rfl,hw.aM⟩)
  · repeat (first | refine JL.q (by first|(apply OQ.wG (b:=0);rfl;rfl;exact h1)|(apply OQ.KF (b:=2147483647);rfl;rfl;exact h2)|(apply OQ.c9;rfl;rfl)|(apply OQ.move;rfl)|(apply OQ.assign;rfl)) rfl ?_ | refine JC.seq ?_ | refine JC.region ?_ | refine JL.nil ?_ | refine JE.next ?_ | refine JL.aS rfl rfl ?_)
    exact JC.ret (JE.aJ rfl (RV.tmp rfl) fun w' hw=>⟨rfl,hw.aM⟩)
theorem CA : aI Tryz.prog 56:=⟨_,Tryz.func56,rfl,by kernel_rfl⟩
set_option maxHeartbeats 4000000 in
theorem Fe (q : Acc) (xs : Bk) (m : Nat) (hq : q=none→xs=[]) (hl : xs.length≤70000000000) (hm : m<9223372036854775808) (w : World) (hw : ah w (keys (bS 5 q (xs.map U8))) (bS 5 q (xs.map U8)) w) :
    Calls Tryz.prog 56 [aC q xs.length,N m].toArray w fun e w'=>∃ r : Nat × Nat,e=.returned (aC (some r) (xs++b4 m).length)∧ah w (keys (bS 5 q (xs.map U8))) (bS 5 (some r) ((xs++b4 m).map U8)) w':=by
  generalize hS : keys (bS 5 q (xs.map U8))=S at hw ⊢
  refine enter (n:=9) Tryz.func56 rfl rfl rfl hw ?_
  repeat (first | refine JL.q (by first|(apply OQ.ie;exact Tryz.underlying3;exact Tryz.underlying84;rfl)|(apply OQ.move;rfl)|(apply OQ.assign;rfl)) rfl ?_ | refine JC.seq ?_ | refine JC.region ?_ | refine JL.nil ?_ | refine JE.next ?_)
  refine JL.wZ (M':=bS 5 q (xs.map U8)++[]) (by rw [List.append_nil];exact aq.refl _) ?_
  refine JL.DX (m:=BitVec.ofNat 64 m) (by decide) (by decide) hq (by omega) rfl rfl rfl rfl fun r=>?_
  rw [List.append_nil]
  repeat (first | refine JL.q (by (apply OQ.assign;rfl)) rfl ?_ | refine JL.nil ?_ | refine JE.next ?_)
  exact JC.ret (JE.aJ rfl (RV.tmp rfl) fun w' hw=>⟨r,rfl,hw⟩)
theorem JL.Lz {n : Nat} {w0 : World} {S : List Nat} {ops : Array Oper} {Q : Exit→Act→World→Prop} {l : List Oper} {E : Env} {M : List aH} {d : Nat} {ty : TypeId} {pos : String} {aft : Array Edge} {x1 x2 : Operand} {ats : Array TypeId} {q : Acc} {xs : Bk} {m : Nat} (hq : q=none→xs=[]) (hl : xs.length≤70000000000) (hm : m<9223372036854775808) (e1 : ev E x1=some (aC q xs.length)) (e2 : ev E x2=some (N m)) (hd : Nat.blt d n=true)
    (kk : ∀ r : Nat × Nat,JL Tryz.prog n w0 S ops Q l ((d,aC (some r) (xs++b4 m).length)::E) (bS 5 (some r) ((xs++b4 m).map U8)++M)) : JL Tryz.prog n w0 S ops Q (⟨some d,.call ⟨.value (.func 56),#[x1,x2],ats⟩,ty,pos,aft,none⟩::l) E (bS 5 q (xs.map U8)++M):=
  JL.HM (ι:=Nat × Nat) (xs:=[x1,x2]) (vs:=[aC q xs.length,N m]) (fun r=>aC (some r) (xs++b4 m).length) (fun r=>bS 5 (some r) ((xs++b4 m).map U8)) CA (by simp [nw,e1,e2]) hd (iL _ _ _) (fun _=>iL _ _ _)
    (fun w hw=>Fe q xs m hq hl hm w (hw.weak (ef _ _))) kk
theorem xW : aI Tryz.prog 36:=⟨_,Tryz.func36,rfl,by kernel_rfl⟩
set_option maxHeartbeats 8000000 in
theorem Bh (h : Hd) (hl : h.chain.length=32) (h1 : h.prev<9223372036854775808) (h2 : h.num<9223372036854775808) (w : World) :
    Calls Tryz.prog 36 [.agg (hdc h).toArray].toArray w fun e w'=>∃ x : Nat × Nat,e=.returned (.slice (some ⟨x.1,0,none⟩) 40 x.2)∧ah w [] [⟨x.1,Sl.aD 5 1 40 x.2 ((ee h).map U8),true⟩] w':=by
  have hL:=oM hl
  have hcl : (h.chain.map U8).length=32:=by rw [List.length_map];exact hl
  refine enter (n:=17) Tryz.func36 rfl rfl rfl (ah.start w []) ?_
  repeat (first | refine JC.seq ?_ | refine JC.region ?_)
  refine JL.box (r:=hdc h) rfl rfl rfl fun b1 _=>?_
  repeat (first | refine JL.q (by (apply OQ.assign;rfl)) rfl ?_ | refine JC.seq ?_ | refine JC.region ?_ | refine JL.nil ?_ | refine JE.next ?_)
  refine JL.Du (c:=40) Tryz.underlying27 uh rfl rfl (by decide) rfl fun b3 _=>?_
  repeat (first | refine JL.q (by first|(apply OQ.kz;exact Tryz.underlying23;exact lH;rfl)|(apply OQ.move;rfl)|(apply OQ.assign;rfl)|(apply OQ.bM;rfl;rfl;rfl;exact (by decide);rfl)) rfl ?_ | refine JC.seq ?_ | refine JC.region ?_ | refine JL.nil ?_ | refine JE.next ?_)
  refine JL.append (cs:=h.chain.map U8) (m:=32) (fun b' cap'=>[⟨b',Sl.aD 5 1 (0+32) cap' ([]++h.chain.map U8),true⟩,⟨b1,Row 32 (hdc h),true⟩]) Tryz.underlying27 uh rfl rfl (by intro _ _;repeat (first | exact aY.here | apply aY.there)) hcl (fun w' hw'=>?_) (fun v hv=>List.all_eq_true.1 (dX h.chain) v hv) rfl (by decide) (by decide) (by decide) rfl fun b4' cap=>?_
  · obtain ⟨o,ho,hA⟩:=hw'.get (.there .here)
    exact Reads.block ho (Row.cells (ej hl) _ hA)
  rw [List.nil_append,Nat.zero_add]
  have hp : ∀ o,Row 32 (hdc h) o→cellAt o 32=some (N h.prev):=Row.cell (jX hl)
  have hn : ∀ o,Row 32 (hdc h) o→cellAt o 33=some (N h.num):=Row.cell (jv hl)
  have ev1 : Value.slice (some ⟨b4',0,none⟩) 32 cap=aC (some (b4',cap)) h.chain.length:=by rw [hl];rfl
  rw [ev1]
  refine JL.wZ (M':=bS 5 (some (b4',cap)) (h.chain.map U8)++[⟨b1,Row 32 (hdc h),true⟩]) (.keep _ _ _ _ _ _ (fun o ho=>by dsimp only;rw [hcl];exact ho) (aq.refl _)) ?_
  have hH : ∀ xs : List Value,Has (bS 5 (some (b4',cap)) xs++[(⟨b1,Row 32 (hdc h),true⟩ : aH)]) b1 (Row 32 (hdc h)) true:=fun _=>.there .here
  repeat (first | refine JL.q (by first|(apply OQ.load;exact aR;rfl;exact (hH _);exact hp)|(apply OQ.move;rfl)|(apply OQ.assign;rfl)|(apply OQ.bM;rfl;rfl;rfl;exact (by decide);rfl)) rfl ?_ | refine JC.seq ?_ | refine JC.region ?_ | refine JL.nil ?_ | refine JE.next ?_)
  refine JL.Lz (q:=some (b4',cap)) (xs:=h.chain) (m:=h.prev) nofun (by omega) h1 rfl rfl rfl fun r=>?_
  have hH2 : ∀ xs : List Value,Has (bS 5 (some r) xs++[(⟨b1,Row 32 (hdc h),true⟩ : aH)]) b1 (Row 32 (hdc h)) true:=fun _=>.there .here
  repeat (first | refine JL.q (by first|(apply OQ.load;exact aR;rfl;exact (hH2 _);exact hn)|(apply OQ.move;rfl)|(apply OQ.assign;rfl)|(apply OQ.bM;rfl;rfl;rfl;exact (by decide);rfl)) rfl ?_ | refine JC.seq ?_ | refine JC.region ?_ | refine JL.nil ?_ | refine JE.next ?_)
  refine JL.Lz (q:=some r) (xs:=h.chain++b4 h.prev) (m:=h.num) nofun (by rw [List.length_append,DB];omega) h2 rfl rfl rfl fun r2=>?_
  have e2 : h.chain++b4 h.prev++b4 h.num=ee h:=rfl
  rw [e2]
  repeat (first | refine JL.q (by (apply OQ.assign;rfl)) rfl ?_ | refine JL.nil ?_ | refine JE.next ?_)
  refine JC.ret (JE.aJ rfl (RV.tmp rfl) fun w' hw=>⟨r2,by rw [hL];rfl,hw.weak (.keep _ _ _ _ _ _ (fun o ho=>?_) (.nil _))⟩)
  rw [List.length_map,hL] at ho
  exact ho
end
section
set_option maxRecDepth 10000
open Sl iB mO dZ n5
open qG (Bk)
theorem LA {a : Bk} (h : a.length=64) : ((a.map U8).drop (0+0 * 32)).take ((a.take 32).map U8).length=(a.take 32).map U8:=by
  rw [List.length_map,List.length_take,h,List.map_take]
  rfl
theorem Is {a : Bk} (h : a.length=64) : ((a.map U8).drop (0+1 * 32)).take ((a.drop 32).map U8).length=(a.drop 32).map U8:=by
  rw [List.length_map,List.length_drop,h,← List.map_drop,Nat.zero_add,Nat.one_mul,List.take_of_length_le (by simp [h])]
theorem sR : aI Tryz.prog 34:=⟨_,Tryz.func34,rfl,by kernel_rfl⟩
set_option maxHeartbeats 8000000 in
theorem wg (root sh : Bk) (h1 : root.length=32) (h2 : sh.length=32) (w : World) (hG : iE w) :
    Calls Tryz.prog 34 [.agg (root.map U8).toArray,.agg (sh.map U8).toArray].toArray w fun e w'=>e=.returned (.tuple #[.agg ((cw root sh).map U8).toArray,.agg ((en root sh).map U8).toArray])∧Ext w w':=by
  have hk : ∀ (b1 b2 : Nat) (w : World),iE w→aO.ok w ⟨some ⟨b1,0,none⟩,32,root⟩→aO.ok w ⟨some ⟨b2,0,none⟩,32,sh⟩→Calls Tryz.prog 55 [.slice (some ⟨b1,0,none⟩) 32 32,.slice (some ⟨b2,0,none⟩) 32 32,.string zP,N 2].toArray w fun e w'=>∃ bq,e=.returned (.tuple #[.slice (some ⟨bq,0,none⟩) 2 2,N 0])∧ah w [] [⟨bq,Row 23 ((mz root sh).map U8),true⟩] w':=fun b1 b2 w hG ho1 ho2=>by
    have:=wW ⟨some ⟨b1,0,none⟩,32,root⟩ ⟨some ⟨b2,0,none⟩,32,sh⟩ zP 2 (by decide) w hG ho1 ho2 (by rw [h1];decide) (by rw [h2];decide) (by decide)
    rwa [show aO.v ⟨some ⟨b1,0,none⟩,32,root⟩=.slice (some ⟨b1,0,none⟩) 32 32 by simp [aO.v,h1],show aO.v ⟨some ⟨b2,0,none⟩,32,sh⟩=.slice (some ⟨b2,0,none⟩) 32 32 by simp [aO.v,h2]] at this
  have hlT:=m5 root sh
  have hlA : ((cw root sh).map U8).length=32:=by rw [List.length_map];exact fH _ _
  have hlC : ((en root sh).map U8).length=32:=by rw [List.length_map];exact fe _ _
  have r0 : (((mz root sh).map U8).drop (0+0 * 32)).take ((cw root sh).map U8).length=(cw root sh).map U8:=LA hlT
  have r1 : (((mz root sh).map U8).drop (0+1 * 32)).take ((en root sh).map U8).length=(en root sh).map U8:=Is hlT
  generalize cw root sh=tA at *
  generalize en root sh=tC at *
  generalize mz root sh=tB at *
  have hl1 : (root.map U8).length=32:=by rw [List.length_map];exact h1
  have hl2 : (sh.map U8).length=32:=by rw [List.length_map];exact h2
  refine enter (n:=20) Tryz.func34 rfl rfl rfl (ah.start w []) ?_
  repeat (first | refine JC.seq ?_ | refine JC.region ?_)
  refine JL.box (r:=root.map U8) rfl rfl rfl fun b2 _=>?_
  refine JL.box (r:=sh.map U8) rfl rfl rfl fun b3 _=>?_
  refine JL.alloc ir rfl fun b4 _=>?_
  refine JL.alloc ir rfl fun b5 _=>?_
  repeat (first | refine JC.seq ?_ | refine JL.nil ?_ | refine JE.next ?_)
  let vs : Nat→Nat→Value:=fun j y=>match j with
    | 0=>.slice (some ⟨b2,0,none⟩) 32 32
    | 1=>.slice (some ⟨b3,0,none⟩) 32 32
    | 2=>.tuple #[.slice (some ⟨y,0,none⟩) 2 2,N 0]
    | 3=>.tuple #[.slice (some ⟨y,0,none⟩) 2 2,N 0]
    | 4=>.slice (some ⟨y,0,none⟩) 2 2
    | 5=>N 0
    | 6=>.slice (some ⟨y,0,none⟩) 2 2
    | 7=>N 0
    | _=>N 0
  let Ms : Nat→Nat→List aH:=fun j y=>match j with
    | 2=>[⟨y,Row 23 (tB.map U8),true⟩]
    | 8=>[⟨b5,Row 23 ((List.replicate 32 (0 : B)).map U8),true⟩]
    | 9=>[⟨b4,Row 23 ((List.replicate 32 (0 : B)).map U8),true⟩]
    | 10=>[⟨b3,Row 23 (sh.map U8),true⟩]
    | 11=>[⟨b2,Row 23 (root.map U8),true⟩]
    | _=>[]
  refine JC.grow (g:=⟨[(2,Pt b2 0),(3,Pt b3 0),(4,Pt b4 0),(5,Pt b5 0)],12,vs,Ms,(fun j=>match j with | 2=>[(0,9),(1,10)] | 3=>[(2,11)] | 4=>[(3,8)] | 5=>[(3,8)] | 6=>[(4,12)] | 7=>[(5,13)] | _=>[]),(fun j=>match j with | 2=>[11,10] | _=>[]),(fun j=>match j with | _=>[]),(fun j=>match j with | 3=>some 2 | 4=>some 3 | 6=>some 4 | _=>none)⟩) [(6,6)] [2,9,8] gm (by repeat (first | exact ai.nil | refine ai.cons _ _ _ rfl ?_)) ?_ (by kernel_rfl) (by kernel_rfl) (by kernel_rfl) ?_ ?_
  · exact aq.refl _
  · refine ⟨?_,?_,?_,?_,?_,?_,?_,?_,trivial⟩
    · (intro xx EF MF Q kk;(try refine JL.aS rfl rfl ?_);exact JL.q (OQ.kz Tryz.underlying23 lH rfl) rfl (JL.nil (kk default nofun)))
    · (intro xx EF MF Q kk;(try refine JL.aS rfl rfl ?_);exact JL.q (OQ.kz Tryz.underlying23 lH rfl) rfl (JL.nil (kk default nofun)))
    · (intro xx EF MF Q kk;exact JL.bY (ι:=Nat) (vs:=[.slice (some ⟨b2,0,none⟩) 32 32,.slice (some ⟨b3,0,none⟩) 32 32,.string zP,N 2]) (fun b=>.tuple #[.slice (some ⟨b,0,none⟩) 2 2,N 0]) (fun b=>[⟨b,Row 23 (tB.map U8),true⟩]) uu rfl rfl (fun i=>by simp) (fun w' hw'=>hk b2 b3 w' (hG.aM hw'.aM (by simp)) (fS hw' .here rfl (Nat.le_of_eq h1)) (fS hw' (.there .here) rfl (Nat.le_of_eq h2))) fun b=>JL.nil (kk b nofun))
    · (intro xx EF MF Q kk;(try refine JL.aS rfl rfl ?_);exact JL.q (OQ.move rfl) rfl (JL.nil (kk (xx 2) (fun k h=>by cases h;rfl))))
    · (intro xx EF MF Q kk;(try refine JL.aS rfl rfl ?_);exact JL.q (OQ.extract rfl rfl) rfl (JL.nil (kk (xx 3) (fun k h=>by cases h;rfl))))
    · (intro xx EF MF Q kk;(try refine JL.aS rfl rfl ?_);exact JL.q (OQ.extract rfl rfl) rfl (JL.nil (kk default nofun)))
    · (intro xx EF MF Q kk;(try refine JL.aS rfl rfl ?_);exact JL.q (OQ.assign rfl) rfl (JL.nil (kk (xx 4) (fun k h=>by cases h;rfl))))
    · (intro xx EF MF Q kk;(try refine JL.aS rfl rfl ?_);exact JL.q (OQ.assign rfl) rfl (JL.nil (kk default nofun)))
  · intro xx hx
    have e1:=hx 6 4 (by decide) rfl
    have e2:=hx 4 3 (by decide) rfl
    have e3:=hx 3 2 (by decide) rfl
    show JE _ _ _ _ _ [(6,.slice (some ⟨xx 6,0,none⟩) 2 2),(2,Pt b2 0),(3,Pt b3 0),(4,Pt b4 0),(5,Pt b5 0)] [⟨xx 2,Row 23 (tB.map U8),true⟩,⟨b4,Row 23 ((List.replicate 32 (0 : B)).map U8),true⟩,⟨b5,Row 23 ((List.replicate 32 (0 : B)).map U8),true⟩]
    rw [e1,e2,e3]
    generalize xx 2=bk
    clear hx e1 e2 e3 xx vs Ms
    repeat (first | refine JC.seq ?_ | refine JE.next ?_)
    let vs : Nat→Nat→Value:=fun j y=>match j with
      | 0=>.slice (some ⟨bk,0,none⟩) 2 2
      | 1=>Pt bk 0
      | 2=>.agg (tA.map U8).toArray
      | 3=>.slice (some ⟨bk,0,none⟩) 2 2
      | 4=>Pt bk (0+1 * 32)
      | 5=>.agg (tC.map U8).toArray
      | _=>N 0
    let Ms : Nat→Nat→List aH:=fun j y=>match j with
      | 6=>[⟨b4,Row 23 (tA.map U8),true⟩]
      | 7=>[⟨b5,Row 23 (tC.map U8),true⟩]
      | 8=>[⟨bk,Row 23 (tB.map U8),true⟩]
      | 9=>[⟨b4,Row 23 ((List.replicate 32 (0 : B)).map U8),true⟩]
      | 10=>[⟨b5,Row 23 ((List.replicate 32 (0 : B)).map U8),true⟩]
      | _=>[]
    refine JC.grow (g:=⟨[(4,Pt b4 0),(5,Pt b5 0),(6,.slice (some ⟨bk,0,none⟩) 2 2)],11,vs,Ms,(fun j=>match j with | 1=>[(0,14)] | 2=>[(1,15)] | 4=>[(3,17)] | 5=>[(4,18)] | 6=>[(2,16)] | 7=>[(5,19)] | _=>[]),(fun j=>match j with | 2=>[8] | 5=>[8] | 6=>[9] | 7=>[10] | _=>[]),(fun j=>match j with | 6=>[9] | 7=>[10] | _=>[]),(fun j=>match j with | _=>none)⟩) [] [6,7] gm (by repeat (first | exact ai.nil | refine ai.cons _ _ _ rfl ?_)) ?_ (by kernel_rfl) (by kernel_rfl) (by kernel_rfl) ?_ ?_
    · exact aq.refl _
    · refine ⟨?_,?_,?_,?_,?_,?_,?_,?_,trivial⟩
      · (intro xx EF MF Q kk;(try refine JL.aS rfl rfl ?_);exact JL.q (OQ.move rfl) rfl (JL.nil (kk default nofun)))
      · (intro xx EF MF Q kk;(try refine JL.aS rfl rfl ?_);exact JL.q (OQ.iI (sz:=32) (i:=0) Tryz.underlying90 aB rfl rfl (by decide)) rfl (JL.nil (kk default nofun)))
      · (intro xx EF MF Q kk;(try refine JL.aS rfl rfl ?_);exact JL.q (OQ.af (cs:=tA.map U8) aN aB rfl .here hlA (Row.cells r0)) rfl (JL.nil (kk default nofun)))
      · (intro xx EF MF Q kk;(try refine JL.aS rfl rfl ?_);exact JL.q (OQ.move rfl) rfl (JL.nil (kk default nofun)))
      · (intro xx EF MF Q kk;(try refine JL.aS rfl rfl ?_);exact JL.q (OQ.iI (sz:=32) (i:=1) Tryz.underlying90 aB rfl rfl (by decide)) rfl (JL.nil (kk default nofun)))
      · (intro xx EF MF Q kk;(try refine JL.aS rfl rfl ?_);exact JL.q (OQ.af (cs:=tC.map U8) aN aB rfl .here hlC (Row.cells r1)) rfl (JL.nil (kk default nofun)))
      · (intro xx EF MF Q kk;exact JL.ag (cs:=tA.map U8) aB rfl rfl hlA (aX _) .here (by simp) (JL.nil (kk default nofun)))
      · (intro xx EF MF Q kk;exact JL.ag (cs:=tC.map U8) aB rfl rfl hlC (aX _) .here (by simp) (JL.nil (kk default nofun)))
    · intro xx hx
      show JE _ _ _ _ _ [(4,Pt b4 0),(5,Pt b5 0),(6,.slice (some ⟨bk,0,none⟩) 2 2)] [⟨b4,Row 23 (tA.map U8),true⟩,⟨b5,Row 23 (tC.map U8),true⟩]
      repeat (refine JE.next ?_)
      refine JC.ret (JE.gN rfl (RV.av aN aB rfl .here hlA Row.all) (RV.av aN aB rfl (.there .here) hlC Row.all) ?_)
      exact fun w' hw=>⟨rfl,hw.aM⟩
theorem xX : aI Tryz.prog 41:=⟨_,Tryz.func41,rfl,by kernel_rfl⟩
theorem gZ (l : List Kp) : ∀ v ∈ (aT l).flatten,v.oneCell'=true:=by
  intro v hv
  obtain ⟨c,hc,hv⟩:=List.mem_flatten.1 hv
  obtain ⟨k,_,rfl⟩:=List.mem_map.1 hc
  exact List.all_eq_true.1 (qQ k) v hv
theorem uM {l : List Kp} (h : ∀ k ∈ l,k.ok) : (aT l).flatten.length=l.length * 65:=by rw [dJ (fu h),dS]
abbrev qj (l : List Kp):={ q : Acc // q=none→l=[] }
set_option maxHeartbeats 4000000 in
theorem zZ (s : lO) (w : World) (hs : s.ok w) (hl : s.l.length≤1000000) : Calls Tryz.prog 41 [s.v].toArray w fun e w'=>∃ q : qj s.l,e=.returned (aC q.1 s.l.length)∧ah w [] (gi q.1 s.l) w':=by
  refine enter (n:=8) Tryz.func41 rfl rfl rfl (ah.start w []) ?_
  have hfl:=uM hs.all
  obtain ⟨ad,cap,l⟩:=s
  cases ad with
  | none=>
    have h0 : l=[]:=by
      cases l with
      | nil=>rfl
      | cons c l=>
        obtain ⟨b,j,h1,_⟩:=hs.reads.at (by simp only [] at hfl;rw [hfl];simp)
        cases h1
    subst h0
    repeat (first | refine JL.q (by first|(apply OQ.Fb (ad:=none) (k:=0) (cap:=cap);exact Tryz.underlying24;rfl;rfl)|(apply OQ.move;rfl)|(apply OQ.assign;rfl)) rfl ?_ | refine JC.seq ?_ | refine JC.region ?_ | refine JL.nil ?_ | refine JE.next ?_)
    refine JC.cond_true rfl rfl ?_
    repeat (first | refine JL.q (by (apply OQ.assign;rfl)) rfl ?_ | refine JC.seq ?_ | refine JC.region ?_ | refine JL.nil ?_ | refine JE.next ?_)
    refine JC.ret ?_
    repeat (refine JE.aF ?_)
    exact JE.aJ rfl (RV.tmp rfl) fun w' hw=>⟨⟨none,fun _=>rfl⟩,rfl,hw⟩
  | some ad=>
    repeat (first | refine JL.q (by first|(apply OQ.Fb (ad:=some ad) (k:=l.length) (cap:=cap);exact Tryz.underlying24;rfl;rfl)|(apply OQ.move;rfl)|(apply OQ.assign;rfl)) rfl ?_ | refine JC.seq ?_ | refine JC.region ?_ | refine JL.nil ?_ | refine JE.next ?_)
    refine JC.cond_false rfl rfl ?_
    repeat (first | refine JC.seq ?_ | refine JC.region ?_ | refine JC.skip ?_ | refine JE.next ?_)
    refine JL.tn Tryz.underlying24 zW rfl fun b0 _=>?_
    repeat (refine JL.q (by (apply OQ.move;rfl)) rfl ?_)
    refine JL.append (cs:=(aT l).flatten) (m:=l.length) (ad:=some ad) (sc:=cap) (xs:=[]) (fun b' cap'=>[⟨b',Sl.aD 57 65 (0+l.length) cap' ([]++(aT l).flatten),true⟩]) Tryz.underlying24 zW rfl rfl (by intro _ _;repeat (first | exact aY.here | apply aY.there)) hfl (fun w' hw'=>(hs.holds hw' rfl).reads) (gZ l) rfl (by decide) (by simp only [] at hl;omega) (by simp only [] at hl;omega) rfl fun b1 cap1=>?_
    rw [Nat.zero_add,List.nil_append]
    repeat (first | refine JL.q (by (apply OQ.assign;rfl)) rfl ?_ | refine JL.nil ?_ | refine JE.next ?_)
    refine JC.ret (JE.aJ rfl (RV.tmp rfl) fun w' hw=>⟨⟨some (b1,cap1),nofun⟩,rfl,?_⟩)
    show ah w [] [⟨b1,Sl.aD 57 65 (aT l).length cap1 (aT l).flatten,true⟩] w'
    rw [dS]
    exact hw
theorem mG : aI Tryz.prog 25:=⟨_,Tryz.func25,rfl,by kernel_rfl⟩
set_option maxHeartbeats 4000000 in
theorem ow (s : bu) (k : lO) (hs : s.ok) (w : World) (hk : k.ok w) (he : k.l=s.kept) (hl : s.kept.length≤1000000) : Calls Tryz.prog 25 [.agg (sec s k.v).toArray].toArray w fun e w'=>∃ q : qj s.kept,e=.returned (.agg (sec s (aC q.1 s.kept.length)).toArray)∧ah w [] (gi q.1 s.kept) w':=by
  have hv1 : k.v.oneCell'=true:=rfl
  have hl1:=ay hs k.v
  refine enter (n:=8) Tryz.func25 rfl rfl rfl (ah.start w []) ?_
  repeat (first | refine JC.seq ?_ | refine JC.region ?_)
  refine JL.box (r:=sec s k.v) rfl rfl rfl fun b1 _=>?_
  refine JL.alloc xU rfl fun b2 _=>?_
  repeat (first | refine JL.q (by first|(apply OQ.load;exact fW;rfl;exact (.there .here);exact (Row.cell (gr hs k.v)))|(apply OQ.bM;rfl;rfl;rfl;exact (by decide);rfl)) rfl ?_ | refine JC.seq ?_ | refine JC.region ?_ | refine JL.nil ?_ | refine JE.next ?_)
  rw [← he] at hl
  refine JL.bY (ι:=qj k.l) (vs:=[k.v]) (fun q=>aC q.1 k.l.length) (fun q=>gi q.1 k.l) xX rfl rfl (fun q=>jN _ _) (fun w' hw'=>zZ k w' (hk.holds hw' rfl) hl) ?_
  rintro ⟨q,hq⟩
  try dsimp only
  rw [he] at hq ⊢
  have hl2:=ay hs (aC q s.kept.length)
  refine JL.perm (M':=⟨b2,Row 26 (sec dI (.slice none 0 0)),true⟩::⟨b1,Row 26 (sec s k.v),true⟩::gi q s.kept) ?_ (by exact List.perm_append_comm (l₂:=[_,_]))
  repeat (refine JL.q (by (apply OQ.bM;rfl;rfl;rfl;exact (by decide);rfl)) rfl ?_)
  refine JL.az (r:=sec s k.v) (r':=sec s (aC q s.kept.length)) zX rfl rfl (gK _ _) (lg _ _) (.there .here) (by rw [hl1];decide) (eG hs _ _ _) ?_
  repeat (first | refine JL.q (by (apply OQ.af (cs:=sec s (aC q s.kept.length));exact gL;exact dQ;rfl;exact (.there .here);exact hl2;exact Row.all)) rfl ?_ | refine JC.seq ?_ | refine JC.region ?_ | refine JL.nil ?_ | refine JE.next ?_)
  refine JL.ag (cs:=sec s (aC q s.kept.length)) dQ rfl rfl hl2 (bD (gK _ _)) .here (ay bC _) ?_
  repeat (first | refine JL.nil ?_ | refine JE.next ?_)
  refine JC.ret (JE.aJ rfl (RV.av gL dQ rfl .here hl2 Row.all) ?_)
  exact fun w' hw=>⟨⟨q,hq⟩,rfl,hw.weak (.drop _ _ _ (.drop _ _ _ (aq.refl _)))⟩
theorem sS : aI Tryz.prog 67:=⟨_,Tryz.func67,rfl,by kernel_rfl⟩
set_option maxHeartbeats 8000000 in
theorem uN (b : Nat) (q : Acc) (s : bu) (hs : s.ok) (ht : s.taken<9000000000000000000) (w : World) (hT : Tb (keys (fo b q s)) w) (h0 : ah w (keys (fo b q s)) (fo b q s) w) :
    Calls Tryz.prog 67 [Pt b 0].toArray w fun e w'=>e=.returned (.agg ((lG s.take).map U8).toArray)∧ah w (keys (fo b q s)) (fo b q (eE s)) w':=by
  generalize keys (fo b q s)=S at h0 hT ⊢
  have hlt : (s.take.map U8).length=32:=by rw [List.length_map];exact hs.take
  have hst:=fun (w' : World) (M : List aH) (hw : ah w S M w')=>uL s.take hs.take w' (hT.g hw)
  have hs1 : ({ s with take:=nt s.take } : bu).ok:=⟨hs.root,hs.own,hs.other,hs.send,rfl,hs.kept⟩
  have hl0:=ay hs (aC q s.kept.length)
  have hl1:=ay hs1 (aC q s.kept.length)
  have p1:=gp hs (aC q s.kept.length) (nt s.take) rfl
  have p2:=fN hs1 (aC q s.kept.length) (s.taken+1)
  have hln : ((nt s.take).map U8).length=32:=rfl
  have hlm : ((lG s.take).map U8).length=32:=rfl
  have hst2 : ∀ (w' : World) (M : List aH) (hw : ah w S M w'),Calls Tryz.prog 37 [.agg (s.take.map U8).toArray].toArray w' fun e w''=>e=.returned (.tuple #[.agg ((nt s.take).map U8).toArray,.agg ((lG s.take).map U8).toArray])∧Ext w' w'':=hst
  clear hst
  have hR : fo b q (eE s)=⟨b,Row 26 (sec { s with take:=nt s.take,taken:=s.taken+1 } (aC q s.kept.length)),true⟩::gi q s.kept:=rfl
  rw [hR]
  generalize nt s.take=nx at *
  generalize lG s.take=ms at *
  refine enter (n:=23) Tryz.func67 rfl rfl rfl h0 ?_
  refine JC.seq (JC.region (JL.alloc ir rfl fun b2 _=>?_))
  repeat (first | refine JC.seq ?_ | refine JC.region ?_ | refine JL.nil ?_ | refine JE.next ?_)
  refine JL.alloc ir rfl fun b3 _=>?_
  unfold fo
  repeat (first | refine JL.q (by first|(apply OQ.af (cs:=s.take.map U8);exact aN;exact aB;rfl;exact (.there (.there .here));exact hlt;exact (Row.cells (l9 hs _)))|(apply OQ.au (vs:=[.agg (s.take.map U8).toArray]);exact rS;rfl;exact (fun w' hw'=>hst2 w' _ hw'))|(apply OQ.extract;rfl;rfl)|(apply OQ.move;rfl)|(apply OQ.dj;rfl)|(apply OQ.bM;rfl;rfl;rfl;exact (by decide);rfl)) rfl ?_ | refine JC.seq ?_ | refine JC.region ?_ | refine JL.nil ?_ | refine JE.next ?_)
  refine JL.aW (r:=sec s (aC q s.kept.length)) (r':=sec { s with take:=nx } (aC q s.kept.length)) aB rfl rfl hln (aX _) (.there (.there .here)) (by rw [hl0,hln];decide) p1 ?_
  refine JL.ag (cs:=ms.map U8) aB rfl rfl hlm (aX _) .here (by simp) ?_
  repeat (first | refine JL.q (by first|(apply OQ.load;exact aR;rfl;exact (.there (.there .here));exact (Row.cell (dR hs1 _)))|(apply OQ.aZ (a:=s.taken) (b:=1);rfl;rfl;exact (by omega))|(apply OQ.move;rfl)|(apply OQ.dj;rfl)|(apply OQ.bM;rfl;rfl;rfl;exact (by decide);rfl)) rfl ?_ | refine JC.seq ?_ | refine JC.region ?_ | refine JL.nil ?_ | refine JE.next ?_)
  refine JL.az (r:=sec { s with take:=nx } (aC q s.kept.length)) (r':=sec { s with take:=nx,taken:=s.taken+1 } (aC q s.kept.length)) nR rfl rfl rfl rfl (.there (.there .here)) (by rw [hl1];decide) p2 ?_
  repeat (first | refine JL.q (by (apply OQ.af (cs:=ms.map U8);exact aN;exact aB;rfl;exact .here;exact hlm;exact Row.all)) rfl ?_ | refine JC.seq ?_ | refine JC.region ?_ | refine JL.nil ?_ | refine JE.next ?_)
  refine JL.ag (cs:=ms.map U8) aB rfl rfl hlm (aX _) (.there .here) (by simp) ?_
  repeat (first | refine JL.nil ?_ | refine JE.next ?_)
  refine JC.ret (JE.aJ rfl (RV.av aN aB rfl (.there .here) hlm Row.all) ?_)
  exact fun w' hw=>⟨rfl,hw.weak (.drop _ _ _ (.drop _ _ _ (aq.refl _)))⟩
end
section
set_option maxRecDepth 10000
open Sl
namespace Sl
section
variable {P : Program} {n : Nat} {w0 : World} {S : List Nat} {ops : Array Oper} {Q : Exit→Act→World→Prop} {l : List Oper} {E : Env} {M M' : List aH} {C : World→Prop}
variable {dst : Option Tmp} {d b : Nat} {t e ty : TypeId} {pos : String} {aft : Array Edge} {g : Option (Nat × Bool)} {x y z u : Operand} {cs : List Value}
theorem OQ.Ff {len cap lo hi mx sz : Nat} {ad : Option Addr} (hu : P.underlying t=some (.slice e)) (hz : dW P e=some sz) (hx : ev E x=some (.slice ad len cap)) (hl : ev E y=some (N lo)) (hh : ev E z=some (N hi)) (hm : ev E u=some (N mx)) (h : lo≤hi) (h2 : hi≤mx) (h' : mx≤cap) :
    OQ P n E C ⟨dst,.slice t x (some y) (some z) (some u),ty,pos,aft,g⟩ (.slice (if mx=lo then ad else ad.map (·.add (lo * sz))) (hi - lo) (mx - lo)):=
  OQ.run fun a ha w _=>by
    have h1:=ha.eval hx
    have h4:=ha.eval hl
    have h5:=ha.eval hh
    have h6:=ha.eval hm
    have h3 : (underlying t).run P w=.ok (.slice e) w:=run_underlying hu w
    simp [execOp,h1,h4,h5,h6,Instr.sliceAt,Sem.run_bind,h3,Instr.slice,Instr.sliceBounds,Instr.sliceBound,asIntOf,h,h2,h',aL hz]
theorem JL.Fg {zv : Value} {ad : Option Addr} {sz by' i k m cap sc : Nat} {xs xs' : List Value} (hu : P.underlying t=some (.slice e)) (hi : EI P e zv sz by') (hx : ev E x=some (.slice (some ⟨b,0,none⟩) i cap)) (hy : ev E y=some (.slice ad m sc))
    (hup : ff M b (Sl.aD e sz k cap xs) (Sl.aD e sz k cap xs') M') (hl : cs.length=m * sz) (hr : ∀ w,ah w0 S M w→Reads w ad cs) (h1 : ∀ v ∈ cs,v.oneCell'=true) (h0 : 0<sz) (hroom : i+m≤k) (he : xs.take (i * sz)++cs++xs.drop (i * sz+m * sz)=xs') (hd : Nat.blt d n=true)
    (kk : JL P n w0 S ops Q l ((d,.slice (some ⟨b,0,none⟩) (i+m) cap)::E) M') : JL P n w0 S ops Q (⟨some d,.call ⟨.builtin .append,#[x,y],#[t,t]⟩,ty,pos,aft,none⟩::l) E M:=
  ⟨fun a w ha hw=>wpList_plain rfl fun K hK=>by
    obtain ⟨inf,hi1,hi2,hi3,hi4⟩:=hi.get
    obtain ⟨o,ho,sp,rfl,hc1,hc2,hc3⟩:=hw.get hup.has
    have hru:=hr w hw
    have hle : i * sz+m * sz≤k * sz:=by rw [← Nat.add_mul];exact Nat.mul_le_mul_right _ hroom
    unfold Oper.wp
    simp only [execOp,resolve,invoke,builtin,Sem.run_bind,Sem.run_pure,Result.andThen_ok,List.map_toArray,List.map_cons,List.map_nil,ha.eval hx,ha.eval hy]
    by_cases hm : m=0
    · subst hm
      have hcs : cs=[]:=List.eq_nil_of_length_eq_zero (by simpa using hl)
      subst hcs
      rw [l7 (_t':=t) hu hi1 (by omega)]
      refine hK _ _ (kk.go _ _ (ha.put d _ hd) (hw.write hup (o':=.cells (xs++sp).toArray e (0,0)) ?_ ho rfl (fun _ _=>rfl) rfl rfl rfl))
      rw [← he]
      refine ⟨sp,?_,?_,?_,hc3⟩
      · simp
      · simpa using hc1
      · simpa using hc2
    · have hpos : 0<cs.length:=by rw [hl];exact Nat.mul_pos (Nat.pos_of_ne_zero hm) h0
      obtain ⟨b2,j2,rfl,hcell⟩:=hru.at hpos
      have hfit : i * inf.size+cs.length≤(xs++sp).toArray.size:=by
        rw [hl,hi3,List.size_toArray,List.length_append];omega
      rw [run_append_room (P:=P) w t ty e inf hu hi1 b i cap (xs++sp).toArray ho ⟨b2,j2,none⟩ m sc cs (by rw [hl,hi3]) (fun u v hv=>by rw [cQ];exact hcell u v hv) h1 (by omega) hfit]
      refine hK _ _ (kk.go _ _ (ha.put d _ hd) (hw.write hup (o':=.cells ((xs++sp).take (i * inf.size)++cs++(xs++sp).drop (i * inf.size+cs.length)).toArray e (0,0)) ?_ (setRow_heap w b _ _ e _ ho) (by simp) (fun q hq=>setRow_other w b q _ hq) rfl rfl rfl))
      rw [hi3,hl,List.take_append_of_le_length (by omega),List.drop_append_of_le_length (by omega),← List.append_assoc,he]
      have hxl : xs'.length=xs.length:=by rw [← he];simp only [List.length_append,List.length_take,List.length_drop,hl];omega
      exact ⟨sp,rfl,by rw [List.length_append] at hc1 ⊢;omega,by omega,hc3⟩⟩
theorem zip_map {a : Act} (hk : bN n E a) : ∀ {is : List Nat} {xs : List Operand} {vs : List Value},nw E xs=some vs→(is.zip xs).map (fun p=>(p.1,a.eval p.2))=is.zip vs
  | [],xs,vs,_=>by simp
  | i::is,[],vs,h=>by
    simp only [nw,Option.some.injEq] at h
    subst h
    rfl
  | i::is,x::xs,vs,h=>by
    simp only [nw] at h
    cases h1 : ev E x with
    | none=>simp [h1] at h
    | some v=>
      cases h2 : nw E xs with
      | none=>simp [h1,h2] at h
      | some us=>
        simp only [h1,h2,Option.some.injEq] at h
        subst h
        simp [hk.eval h1,zip_map hk h2]
theorem OQ.mH {ps : Array (Nat × Operand)} (is : List Nat) (xs : List Operand) {vs : List Value} (hps : ps=(is.zip xs).toArray) (hx : nw E xs=some vs) (h : P.built t (is.zip vs)=some cs.toArray) : OQ P n E C ⟨dst,.build t ps,ty,pos,aft,g⟩ (.agg cs.toArray):=
  OQ.run fun a ha w _=>by
    have hm : ps.map (fun (i,x)=>(i,a.eval x))=(is.zip vs).toArray:=by
      rw [hps,List.map_toArray,← zip_map ha hx]
    have r:=run_build w t (is.zip vs).toArray cs.toArray (by simpa using h)
    simp only [execOp,hm,Sem.run_bind,r,Result.andThen_ok]
    rfl
end
theorem OQ.JX {P : Program} {n : Nat} {E : Env} {C : World→Prop} {dst : Option Tmp} {t t' ty e : TypeId} {x y : Operand} {pos : String} {aft : Array Edge} {g : Option (Nat × Bool)} {m : Nat} {r q : List (BitVec 8)} (hu : P.underlying t=some (.array m e)) (he : P.underlying e=some (.int .u8)) (hz : dW P e=some 1) (hgd : P.eqGuardType P.depth t=false) (hx : ev E x=some (.agg (r.map U8).toArray)) (hy : ev E y=some (.agg (q.map U8).toArray)) (hr : r.length=m) (hq : q.length=m) (h : ¬ r=q) :
    OQ P n E C ⟨dst,.binOp .eql t x y t',ty,pos,aft,g⟩ (.bool false):=(decide_eq_false h : decide (r=q)=false) ▸ OQ.L3 hu he hz hgd hx hy hr hq
theorem OQ.LB {P : Program} {n : Nat} {E : Env} {C : World→Prop} {dst : Option Tmp} {t ty e : TypeId} {pos : String} {aft : Array Edge} {g : Option (Nat × Bool)} {x : Operand} {q : Acc} {k : Nat} (hu : P.underlying t=some (.slice e)) (hq : q=none→k=0) (hx : ev E x=some (aC q k)) : OQ P n E C ⟨dst,.call ⟨.builtin .len,#[x],#[t]⟩,ty,pos,aft,g⟩ (N k):=by
  cases q with
  | none=>obtain rfl:=hq rfl;exact OQ.len hu hx
  | some r=>exact OQ.len hu hx
theorem OQ.Fh {P : Program} {n : Nat} {w0 : World} {S : List Nat} {M : List aH} {E : Env} {dst : Option Tmp} {ty : TypeId} {pos : String} {aft : Array Edge} {g : Option (Nat × Bool)} {x : Operand} {ats : Array TypeId} {f : FuncId} {caps vs : List Value} {xs : List Operand} {v : Value} (hg : aI P f) (hx : ev E x=some (.func (.func f) #[] caps.toArray)) (hy : nw E xs=some vs)
    (hc : ∀ w,ah w0 S M w→Calls P f (vs++caps).toArray w fun e w'=>e=.returned v∧Ext w w') : OQ P n E (ah w0 S M) ⟨dst,.call ⟨.value x,xs.toArray,ats⟩,ty,pos,aft,g⟩ v:=by
  refine ⟨fun a hk w hw=>?_⟩
  unfold Oper.quietAt
  rw [yH (xs:=xs) hg hk hx hy w]
  exact ⟨rfl,(hc w hw).mono fun e w' ⟨k1,k2⟩=>⟨k1,hw.ext k2⟩⟩
end Sl
end
end Go.Proofs.YtgkninhgcpbfnaaGreatDoor
