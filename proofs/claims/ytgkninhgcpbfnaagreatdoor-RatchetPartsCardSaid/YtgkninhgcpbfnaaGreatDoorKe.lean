/-
  Of no statement by itself: the texts CrvZ, CuvA, CuvB, CuvC, CuvD, CuvE, CuvF, CrvS, CuvG, CuvN, RatP, RatQ, Slhn, RatC, Slcv, KdfB, RatM, RatN, Slin in one.
  Conditions: each theorem's own.
-/
import Derived.Test.YtgkninhgcpbfnaaGreatDoorKd
import Derived.Test.YtgkninhgcpbfnaaGreatDoorProg
import Derived.Laws.Tables
import Derived.Great.FillDense
import Derived.Laws.Cover3
set_option linter.unusedSimpArgs false
set_option linter.unusedVariables false
namespace Go.Proofs.YtgkninhgcpbfnaaGreatDoor
section
namespace dO
structure L5 where
  x2 : N5
  z2 : N5
  x3 : N5
  z3 : N5
@[reducible] def L5.l (s : L5) : List dM:=s.x2.l++s.z2.l++s.x3.l++s.z3.l
def L5.f (s : L5) : L4:=⟨iy s.x2,iy s.z2,iy s.x3,iy s.z3⟩
structure L5.ok (s : L5) : Prop where
  x2 : dw s.x2
  z2 : dw s.z2
  x3 : dw s.x3
  z3 : dw s.z3
def xd : N5:=⟨1,0,0,0,0⟩
def bG : N5:=⟨0,0,0,0,0⟩
def cN : N5:=⟨121665,0,0,0,0⟩
theorem uf : dw xd:=⟨by decide,by decide,by decide,by decide,by decide⟩
theorem zh : dw bG:=⟨by decide,by decide,by decide,by decide,by decide⟩
theorem F1 : dw cN:=⟨by decide,by decide,by decide,by decide,by decide⟩
theorem F2 : iy xd=1:=by decide +kernel
theorem Ea : iy bG=0:=by decide +kernel
theorem Kz : iy cN=121665:=by decide +kernel
structure KA where
  a : N5
  b : N5
  c : N5
  d : N5
  aa : N5
  bb : N5
  da : N5
  cb : N5
  e : N5
  m : N5
  s : N5
def KB (s : L5) : KA:=
  let a:=pI s.x2 s.z2
  let b:=nN s.x2 s.z2
  let c:=pI s.x3 s.z3
  let d:=nN s.x3 s.z3
  let aa:=cI a a
  let bb:=cI b b
  let da:=cI d a
  let cb:=cI c b
  let e:=nN aa bb
  ⟨a,b,c,d,aa,bb,da,cb,e,pI da cb,nN da cb⟩
def KC (x1 : N5) (t : KA) : L5:=⟨cI t.aa t.bb,cI t.e (pI t.aa (cI cN t.e)),cI t.m t.m,cI x1 (cI t.s t.s)⟩
def vo (x1 : N5) (s : L5) : L5:=KC x1 (KB s)
def Eb (b : Bool) (s : L5) : L5:=if b then ⟨s.x3,s.z3,s.x2,s.z2⟩ else s
theorem Ec {s : L5} (h : s.ok) (b : Bool) : (Eb b s).ok:=by
  cases b
  · exact h
  · exact ⟨h.x3,h.z3,h.x2,h.z2⟩
theorem Ht (s : L5) (b : Bool) : (Eb b s).f=swap b s.f:=by cases b <;> rfl
theorem F3 (x1 : N5) (s : L5) : (vo x1 s).ok:=⟨bP _ _,bP _ _,bP _ _,bP _ _⟩
theorem IP {x1 : N5} {s : L5} (h1 : dw x1) (h : s.ok) : (vo x1 s).f=core (iy x1) s.f:=by
  have ga:=jM s.x2 s.z2
  have gb:=iz s.x2 s.z2
  have gc:=jM s.x3 s.z3
  have gd:=iz s.x3 s.z3
  unfold L5.f vo KC KB core
  simp only
  rw [fH (bP _ _) (bP _ _),fH (iz _ _) (jM _ _),qF (bP _ _) (bP _ _),fH F1 (iz _ _),qG (bP _ _) (bP _ _),
    fH (jM (cI _ _) _) (jM _ _),qF (bP (nN _ _) _) (bP _ _),fH h1 (bP _ _),fH (iz (cI _ _) _) (iz _ _),qG (bP (nN _ _) _) (bP _ _),
    fH gd ga,fH gc gb,fH ga ga,fH gb gb,qF h.x2 h.z2,qG h.x2 h.z2,qF h.x3 h.z3,qG h.x3 h.z3,Kz]
def js (x1 : N5) (k : Nat) : Nat→L5
  | 0=>⟨xd,bG,x1,xd⟩
  | n+1=>Eb (k.testBit (254 - n)) (vo x1 (Eb (k.testBit (254 - n)) (js x1 k n)))
theorem AE {x1 : N5} (h : dw x1) (k : Nat) : ∀ n,(js x1 k n).ok
  | 0=>⟨uf,zh,h,uf⟩
  | _+1=>Ec (F3 _ _) _
theorem Ed {x1 : N5} (h : dw x1) (k : Nat) : ∀ n,n≤255→Ag (iy x1) k (255 - n) (js x1 k n).f=Ag (iy x1) k 255 (js x1 k 0).f
  | 0,_=>rfl
  | n+1,hn=>by
    rw [← Ed h k n (by omega)]
    have e : 255 - n=(255 - (n+1))+1:=by omega
    have e2 : 254 - n=255 - (n+1):=by omega
    rw [e]
    show Ag (iy x1) k (255 - (n+1)) (Eb (k.testBit (254 - n)) (vo x1 (Eb (k.testBit (254 - n)) (js x1 k n)))).f=Ag (iy x1) k (255 - (n+1)) (swap (k.testBit (255 - (n+1))) (core (iy x1) (swap (k.testBit (255 - (n+1))) (js x1 k n).f)))
    rw [Ht,IP h (Ec (AE h k n) _),Ht,e2]
def IQ (k u : List By) : List By:=Ju (cI (js (cU u) (le (dA k)) 255).x2 (r9 (js (cU u) (le (dA k)) 255).z2))
theorem F4 (k u : List By) (hu : u.length=32) : IQ k u=aN k u:=by
  have h:=BT u
  have g:=AE h (le (dA k)) 255
  have e : (js (cU u) (le (dA k)) 255).f=Ag (iy (cU u)) (le (dA k)) 255 (js (cU u) (le (dA k)) 0).f:=Ed h _ 255 (by omega)
  have e0 : (js (cU u) (le (dA k)) 0).f=⟨1,0,iy (cU u),1⟩:=by
    show (⟨iy xd,iy bG,iy (cU u),iy xd⟩ : L4)=_
    rw [F2,Ea]
  rw [e0] at e
  unfold IQ
  rw [IN (bP _ _),fH g.x2 (BR g.z2),FW g.z2]
  unfold aN FH
  rw [← F0 hu,← e]
  rfl
def iU (c : Bool) (x y : List dM) (i : Nat) : List dM:=if c then y.take i++x.drop i else x
theorem xe (c : Bool) {x y : List dM} (h : x.length=y.length) (i : Nat) : (iU c x y i).length=x.length:=by
  cases c
  · rfl
  · show (y.take i++x.drop i).length=_
    rw [List.length_append,List.length_take,List.length_drop];omega
theorem xg (c : Bool) {x y : List dM} (h : x.length=y.length) {i : Nat} (hi : i<x.length) : (iU c x y i)[i]?=some (x.getD i 0):=by
  have e : x[i]?=some (x.getD i 0):=by rw [List.getD_eq_getElem?_getD,List.getElem?_eq_getElem hi];rfl
  cases c
  · exact e
  · show (y.take i++x.drop i)[i]?=_
    rw [List.getElem?_append_right (by rw [List.length_take];omega),List.length_take,List.getElem?_drop,← e]
    congr 1;omega
theorem xh (c : Bool) {x y : List dM} (h : x.length=y.length) {i : Nat} (hi : i<x.length) {v : dM} (hv : v=if c then y.getD i 0 else x.getD i 0) : (iU c x y i).set i v=iU c x y (i+1):=by
  subst hv
  cases c
  · show x.set i (x.getD i 0)=x
    rw [List.getD_eq_getElem?_getD,List.getElem?_eq_getElem hi]
    simp
  · show (y.take i++x.drop i).set i (y.getD i 0)=y.take (i+1)++x.drop (i+1)
    have e : y[i]?=some (y.getD i 0):=by rw [List.getD_eq_getElem?_getD,List.getElem?_eq_getElem (by omega)];rfl
    rw [List.set_append_right _ _ (by rw [List.length_take];omega),List.length_take,Nat.min_eq_left (by omega),Nat.sub_self,List.drop_eq_getElem_cons hi,List.set_cons_zero,List.take_add_one,e]
    simp
def bt (c : Bool) : By:=if c then 1#8 else 0#8
def BU (c : Bool) : dM:=if c then BitVec.allOnes 64 else 0
theorem F5 (c : Bool) : -((bt c).setWidth 64 : dM)=BU c:=by cases c <;> decide
theorem KD (x : By) (k : Nat) (h : k<8) : (x >>> k) &&& 1#8=bt (x.toNat.testBit k):=by
  have h8 : ∀ k : Fin 8,∀ x : By,(x >>> k.val) &&& 1#8=bt (x.toNat.testBit k.val):=by decide +kernel
  exact h8 ⟨k,h⟩ x
theorem Ee (c : Bool) (a b : dM) : a ^^^ (BU c &&& (a ^^^ b))=if c then b else a:=by
  cases c
  · show a ^^^ (0 &&& (a ^^^ b))=a
    simp
  · show a ^^^ (BitVec.allOnes 64 &&& (a ^^^ b))=b
    rw [BitVec.allOnes_and,← BitVec.xor_assoc,BitVec.xor_self,BitVec.zero_xor]
theorem IS (c : Bool) (a b : dM) : b ^^^ (BU c &&& (a ^^^ b))=if c then a else b:=by
  rw [BitVec.xor_comm a b]
  exact Ee c b a
end dO
end
section
set_option maxRecDepth 10000
open Sl dO
theorem xj : dJ Tryz.prog 84=some 1:=by kernel_rfl
theorem fS : ie Tryz.prog 84=true:=by kernel_rfl
theorem bZ : dJ Tryz.prog 118=some 5:=by kernel_rfl
theorem en : gm Tryz.prog 118=true:=by kernel_rfl
theorem mH : zc Tryz.prog 118=some (bG.l.map aj):=by kernel_rfl
theorem bn (l : List dM) : (l.map aj).all Value.oneCell'=true:=by simp [Value.oneCell']
theorem fT : aK Tryz.prog 94:=⟨_,Tryz.func94,rfl,by kernel_rfl⟩
theorem kz : aK Tryz.prog 110:=⟨_,Tryz.func110,rfl,by kernel_rfl⟩
theorem oH : aK Tryz.prog 96:=⟨_,Tryz.func96,rfl,by kernel_rfl⟩
theorem fI : aK Tryz.prog 97:=⟨_,Tryz.func97,rfl,by kernel_rfl⟩
set_option maxHeartbeats 8000000 in
theorem lI (n : N5) (w : World) : Calls Tryz.prog 110 [.agg (n.l.map aj).toArray].toArray w fun e w'=>e=.returned (.agg ((sW n).l.map aj).toArray)∧Ext w w':=by
  have c0 : (n.l.map aj)[0]?=some (aj n.a0):=rfl
  have c1 : (n.l.map aj)[1]?=some (aj n.a1):=rfl
  have c2 : (n.l.map aj)[2]?=some (aj n.a2):=rfl
  have c3 : (n.l.map aj)[3]?=some (aj n.a3):=rfl
  have c4 : (n.l.map aj)[4]?=some (aj n.a4):=rfl
  refine enter (n:=40) Tryz.func110 rfl rfl rfl (ah.start w []) ?_
  repeat (first | refine JC.seq ?_ | refine JC.region ?_)
  refine JL.box (r:=n.l.map aj) rfl rfl rfl fun b1 _=>?_
  refine JL.alloc mH rfl fun b2 _=>?_
  repeat (first | refine JL.q (by first|(apply OQ.aD;exact Tryz.underlying118;exact xj;rfl;rfl;exact (by decide))|(apply OQ.load;exact fS;rfl;exact (.there .here);exact (Row.cell c0))|(apply OQ.load;exact fS;rfl;exact (.there .here);exact (Row.cell c1))|(apply OQ.load;exact fS;rfl;exact (.there .here);exact (Row.cell c2))|(apply OQ.load;exact fS;rfl;exact (.there .here);exact (Row.cell c3))|(apply OQ.load;exact fS;rfl;exact (.there .here);exact (Row.cell c4))|(apply OQ.mY (b:=2251799813685247#64);rfl;rfl)|(apply OQ.pV (a:=19#64);rfl;rfl)|(apply OQ.n8;rfl;rfl)|(apply OQ.jx;rfl;rfl)) rfl ?_ | refine JC.seq ?_ | refine JC.region ?_ | refine JL.nil ?_ | refine JE.next ?_)
  refine JL.q (OQ.pure (v:=.agg ((sW n).l.map aj).toArray) rfl rfl (by kernel_rfl)) rfl ?_
  refine JL.ag (cs:=(sW n).l.map aj) bZ rfl rfl rfl (bn _) .here rfl ?_
  repeat (first | refine JL.nil ?_ | refine JE.next ?_)
  refine JC.ret (JE.aQ rfl (RV.av en bZ rfl .here rfl Row.all) ?_)
  exact fun w' hw=>⟨rfl,hw.aL⟩
set_option maxHeartbeats 8000000 in
theorem qI (a b : N5) (w : World) : Calls Tryz.prog 96 [.agg (a.l.map aj).toArray,.agg (b.l.map aj).toArray].toArray w fun e w'=>e=.returned (.agg ((pI a b).l.map aj).toArray)∧Ext w w':=by
  have c0 : (a.l.map aj)[0]?=some (aj a.a0):=rfl
  have c1 : (a.l.map aj)[1]?=some (aj a.a1):=rfl
  have c2 : (a.l.map aj)[2]?=some (aj a.a2):=rfl
  have c3 : (a.l.map aj)[3]?=some (aj a.a3):=rfl
  have c4 : (a.l.map aj)[4]?=some (aj a.a4):=rfl
  have d0 : (b.l.map aj)[0]?=some (aj b.a0):=rfl
  have d1 : (b.l.map aj)[1]?=some (aj b.a1):=rfl
  have d2 : (b.l.map aj)[2]?=some (aj b.a2):=rfl
  have d3 : (b.l.map aj)[3]?=some (aj b.a3):=rfl
  have d4 : (b.l.map aj)[4]?=some (aj b.a4):=rfl
  have cc:=lI ⟨a.a0+b.a0,a.a1+b.a1,a.a2+b.a2,a.a3+b.a3,a.a4+b.a4⟩
  refine enter (n:=32) Tryz.func96 rfl rfl rfl (ah.start w []) ?_
  repeat (first | refine JC.seq ?_ | refine JC.region ?_)
  refine JL.box (r:=a.l.map aj) rfl rfl rfl fun b2 _=>?_
  refine JL.box (r:=b.l.map aj) rfl rfl rfl fun b3 _=>?_
  refine JL.alloc mH rfl fun b4 _=>?_
  repeat (first | refine JL.q (by first|(apply OQ.aD;exact Tryz.underlying118;exact xj;rfl;rfl;exact (by decide))|(apply OQ.load;exact fS;rfl;exact (.there (.there .here));exact (Row.cell c0))|(apply OQ.load;exact fS;rfl;exact (.there (.there .here));exact (Row.cell c1))|(apply OQ.load;exact fS;rfl;exact (.there (.there .here));exact (Row.cell c2))|(apply OQ.load;exact fS;rfl;exact (.there (.there .here));exact (Row.cell c3))|(apply OQ.load;exact fS;rfl;exact (.there (.there .here));exact (Row.cell c4))|(apply OQ.load;exact fS;rfl;exact (.there .here);exact (Row.cell d0))|(apply OQ.load;exact fS;rfl;exact (.there .here);exact (Row.cell d1))|(apply OQ.load;exact fS;rfl;exact (.there .here);exact (Row.cell d2))|(apply OQ.load;exact fS;rfl;exact (.there .here);exact (Row.cell d3))|(apply OQ.load;exact fS;rfl;exact (.there .here);exact (Row.cell d4))|(apply OQ.n8;rfl;rfl)) rfl ?_ | refine JC.seq ?_ | refine JC.region ?_ | refine JL.nil ?_ | refine JE.next ?_)
  refine JL.q (OQ.pure (v:=.agg ((⟨a.a0+b.a0,a.a1+b.a1,a.a2+b.a2,a.a3+b.a3,a.a4+b.a4⟩ : N5).l.map aj).toArray) rfl rfl (by kernel_rfl)) rfl ?_
  refine JL.q (OQ.au kz rfl fun w' _=>cc w') rfl ?_
  refine JL.ag (cs:=(pI a b).l.map aj) bZ rfl rfl rfl (bn _) .here rfl ?_
  repeat (first | refine JL.nil ?_ | refine JE.next ?_)
  refine JC.ret (JE.aQ rfl (RV.av en bZ rfl .here rfl Row.all) ?_)
  exact fun w' hw=>⟨rfl,hw.aL⟩
set_option maxHeartbeats 8000000 in
theorem gi (a b : N5) (w : World) : Calls Tryz.prog 97 [.agg (a.l.map aj).toArray,.agg (b.l.map aj).toArray].toArray w fun e w'=>e=.returned (.agg ((nN a b).l.map aj).toArray)∧Ext w w':=by
  have c0 : (a.l.map aj)[0]?=some (aj a.a0):=rfl
  have c1 : (a.l.map aj)[1]?=some (aj a.a1):=rfl
  have c2 : (a.l.map aj)[2]?=some (aj a.a2):=rfl
  have c3 : (a.l.map aj)[3]?=some (aj a.a3):=rfl
  have c4 : (a.l.map aj)[4]?=some (aj a.a4):=rfl
  have d0 : (b.l.map aj)[0]?=some (aj b.a0):=rfl
  have d1 : (b.l.map aj)[1]?=some (aj b.a1):=rfl
  have d2 : (b.l.map aj)[2]?=some (aj b.a2):=rfl
  have d3 : (b.l.map aj)[3]?=some (aj b.a3):=rfl
  have d4 : (b.l.map aj)[4]?=some (aj b.a4):=rfl
  have cc:=lI ⟨a.a0+4503599627370458#64 - b.a0,a.a1+4503599627370494#64 - b.a1,a.a2+4503599627370494#64 - b.a2,a.a3+4503599627370494#64 - b.a3,a.a4+4503599627370494#64 - b.a4⟩
  refine enter (n:=37) Tryz.func97 rfl rfl rfl (ah.start w []) ?_
  repeat (first | refine JC.seq ?_ | refine JC.region ?_)
  refine JL.box (r:=a.l.map aj) rfl rfl rfl fun b2 _=>?_
  refine JL.box (r:=b.l.map aj) rfl rfl rfl fun b3 _=>?_
  refine JL.alloc mH rfl fun b4 _=>?_
  repeat (first | refine JL.q (by first|(apply OQ.aD;exact Tryz.underlying118;exact xj;rfl;rfl;exact (by decide))|(apply OQ.load;exact fS;rfl;exact (.there (.there .here));exact (Row.cell c0))|(apply OQ.load;exact fS;rfl;exact (.there (.there .here));exact (Row.cell c1))|(apply OQ.load;exact fS;rfl;exact (.there (.there .here));exact (Row.cell c2))|(apply OQ.load;exact fS;rfl;exact (.there (.there .here));exact (Row.cell c3))|(apply OQ.load;exact fS;rfl;exact (.there (.there .here));exact (Row.cell c4))|(apply OQ.load;exact fS;rfl;exact (.there .here);exact (Row.cell d0))|(apply OQ.load;exact fS;rfl;exact (.there .here);exact (Row.cell d1))|(apply OQ.load;exact fS;rfl;exact (.there .here);exact (Row.cell d2))|(apply OQ.load;exact fS;rfl;exact (.there .here);exact (Row.cell d3))|(apply OQ.load;exact fS;rfl;exact (.there .here);exact (Row.cell d4))|(apply OQ.n8 (b:=4503599627370458#64);rfl;rfl)|(apply OQ.n8 (b:=4503599627370494#64);rfl;rfl)|(apply OQ.ym;rfl;rfl)) rfl ?_ | refine JC.seq ?_ | refine JC.region ?_ | refine JL.nil ?_ | refine JE.next ?_)
  refine JL.q (OQ.pure (v:=.agg ((⟨a.a0+4503599627370458#64 - b.a0,a.a1+4503599627370494#64 - b.a1,a.a2+4503599627370494#64 - b.a2,a.a3+4503599627370494#64 - b.a3,a.a4+4503599627370494#64 - b.a4⟩ : N5).l.map aj).toArray) rfl rfl (by kernel_rfl)) rfl ?_
  refine JL.q (OQ.au kz rfl fun w' _=>cc w') rfl ?_
  refine JL.ag (cs:=(nN a b).l.map aj) bZ rfl rfl rfl (bn _) .here rfl ?_
  repeat (first | refine JL.nil ?_ | refine JE.next ?_)
  refine JC.ret (JE.aQ rfl (RV.av en bZ rfl .here rfl Row.all) ?_)
  exact fun w' hw=>⟨rfl,hw.aL⟩
set_option maxHeartbeats 8000000 in
theorem oI (k : List By) (hk : k.length=32) (p : Nat) (hp : p<4) (w : World) : Calls Tryz.prog 94 [.agg (k.map U8).toArray,N p].toArray w fun e w'=>e=.returned (aj (sM k p 8))∧Ext w w':=by
  refine enter (n:=24) Tryz.func94 rfl rfl rfl (ah.start w []) ?_
  repeat (first | refine JC.seq ?_ | refine JC.region ?_)
  refine JL.box (r:=k.map U8) rfl rfl rfl fun b2 _=>?_
  repeat (first | refine JL.q (by first|(apply OQ.move;rfl)|(apply OQ.assign;rfl)) rfl ?_ | refine JC.seq ?_ | refine JC.region ?_ | refine JC.block ?_ | refine JL.nil ?_ | refine JE.next ?_)
  refine JC.loop (fun i : Nat=>[(1,N p),(2,Pt b2 0),(5,aj (sM k p i)),(7,N i)]) (fun _=>[⟨b2,Row 23 (k.map U8),true⟩])
    (fun i=>8 - i) (fun i=>i≤8) 0 (by omega) (by repeat (first | exact ai.nil | refine ai.cons _ _ _ rfl ?_)) (aq.refl _) ?_
  intro i hi
  repeat (first | refine JL.q (by (apply OQ.bJ;rfl;rfl)) rfl ?_ | refine JC.seq ?_ | refine JC.region ?_ | refine JL.nil ?_ | refine JE.next ?_)
  refine JC.cond rfl (fun h=>?_) (fun h=>?_)
  · have hi' : i<8:=of_decide_eq_true h
    clear h hi
    have hc:=ko (l:=k) (i:=8 * p+i) (by omega)
    repeat (first | refine JL.q (by first|(apply OQ.aD;exact Tryz.underlying23;exact vS;rfl;rfl;exact (by (try simp only []);omega))|(apply OQ.load;exact FR;rfl;exact .here;exact (Row.cell hc))|(apply OQ.qU;rfl;rfl;rfl)|(apply OQ.tF;rfl;rfl)|(apply OQ.A3;rfl;rfl)|(apply OQ.move;rfl)|(apply OQ.assign;rfl)|(apply OQ.aY;rfl;rfl;exact (by (try simp only []);omega))|(apply OQ.iB;rfl;rfl;exact (by (try simp only []);omega))) rfl ?_ | refine JC.seq ?_ | refine JC.region ?_ | refine JC.block ?_ | refine JC.skip ?_ | refine JL.nil ?_ | refine JE.next ?_ | refine JE.an ?_)
    exact JE.again (i:=i) (i+1) (by omega) (by omega) (by repeat (first | exact ai.nil | refine ai.cons _ _ _ rfl ?_)) (aq.refl _)
  · have hi' : ¬ i<8:=of_decide_eq_false h
    obtain rfl : i=8:=by omega
    clear h hi hi'
    generalize sM k p 8=X
    repeat (first | refine JL.q (by first|(apply OQ.move;rfl)|(apply OQ.assign;rfl)) rfl ?_ | refine JC.seq ?_ | refine JC.region ?_ | refine JC.exit ?_ | refine JL.nil ?_ | refine JE.next ?_ | refine JE.ax ?_ | refine JE.aA ?_)
    refine JC.ret (JE.aQ rfl (RV.tmp rfl) ?_)
    exact fun w' hw=>⟨rfl,hw.aL⟩
theorem sZ : aK Tryz.prog 75:=⟨_,Tryz.func75,rfl,by kernel_rfl⟩
set_option maxHeartbeats 8000000 in
theorem vq (u : List By) (hu : u.length=32) (w : World) : Calls Tryz.prog 75 [.agg (u.map U8).toArray].toArray w fun e w'=>e=.returned (.agg ((cU u).l.map aj).toArray)∧Ext w w':=by
  have hlu : (u.map U8).length=32:=by rw [List.length_map];exact hu
  have c0:=oI u hu 0 (by decide)
  have c1:=oI u hu 1 (by decide)
  have c2:=oI u hu 2 (by decide)
  have c3:=oI u hu 3 (by decide)
  have e : cU u=zg (sM u 0 8) (sM u 1 8) (sM u 2 8) (sM u 3 8):=rfl
  rw [e]
  generalize sM u 0 8=W0 at *
  generalize sM u 1 8=W1 at *
  generalize sM u 2 8=W2 at *
  generalize sM u 3 8=W3 at *
  clear e
  refine enter (n:=39) Tryz.func75 rfl rfl rfl (ah.start w []) ?_
  repeat (first | refine JC.seq ?_ | refine JC.region ?_)
  refine JL.box (r:=u.map U8) rfl rfl rfl fun b1 _=>?_
  refine JL.alloc mH rfl fun b2 _=>?_
  repeat (first | refine JC.seq ?_ | refine JL.nil ?_ | refine JE.next ?_)
  refine JC.quiet eD (by kernel_rfl) ?_
  repeat (first | refine JL.q (by first|(apply OQ.af (cs:=u.map U8);exact aP;exact aB;rfl;exact (.there .here);exact hlu;exact Row.all)|(apply OQ.au (vs:=[.agg (u.map U8).toArray,N 0]);exact fT;rfl;exact (fun w' _=>c0 w'))|(apply OQ.au (vs:=[.agg (u.map U8).toArray,N 1]);exact fT;rfl;exact (fun w' _=>c1 w'))|(apply OQ.au (vs:=[.agg (u.map U8).toArray,N 2]);exact fT;rfl;exact (fun w' _=>c2 w'))|(apply OQ.au (vs:=[.agg (u.map U8).toArray,N 3]);exact fT;rfl;exact (fun w' _=>c3 w'))|(apply OQ.mY (b:=2251799813685247#64);rfl;rfl)|(apply OQ.tF;rfl;rfl)|(apply OQ.A3;rfl;rfl)|(apply OQ.move;rfl)|(apply OQ.assign;rfl)|(apply OQ.jx;rfl;rfl)) rfl ?_ | refine JQ.q (by first|(apply OQ.af (cs:=u.map U8);exact aP;exact aB;rfl;exact (.there .here);exact hlu;exact Row.all)|(apply OQ.au (vs:=[.agg (u.map U8).toArray,N 0]);exact fT;rfl;exact (fun w' _=>c0 w'))|(apply OQ.au (vs:=[.agg (u.map U8).toArray,N 1]);exact fT;rfl;exact (fun w' _=>c1 w'))|(apply OQ.au (vs:=[.agg (u.map U8).toArray,N 2]);exact fT;rfl;exact (fun w' _=>c2 w'))|(apply OQ.au (vs:=[.agg (u.map U8).toArray,N 3]);exact fT;rfl;exact (fun w' _=>c3 w'))|(apply OQ.mY (b:=2251799813685247#64);rfl;rfl)|(apply OQ.tF;rfl;rfl)|(apply OQ.A3;rfl;rfl)|(apply OQ.move;rfl)|(apply OQ.assign;rfl)|(apply OQ.jx;rfl;rfl)) rfl ?_ | refine JC.seq ?_ | refine JC.region ?_ | refine JQ.nil ?_ | refine JE.next ?_)
  refine JL.q (OQ.pure (v:=.agg ((zg W0 W1 W2 W3).l.map aj).toArray) rfl rfl (by kernel_rfl)) rfl ?_
  refine JL.ag (cs:=(zg W0 W1 W2 W3).l.map aj) bZ rfl rfl rfl (bn _) .here rfl ?_
  repeat (first | refine JL.nil ?_ | refine JE.next ?_)
  refine JC.ret (JE.aQ rfl (RV.av en bZ rfl .here rfl Row.all) ?_)
  exact fun w' hw=>⟨rfl,hw.aL⟩
end
section
set_option maxRecDepth 10000
open Sl dO
def mulC (a b : dM) : dM:=
  (a >>> 32) * (b >>> 32)+((a >>> 32) * (b &&& 4294967295#64)+((a &&& 4294967295#64) * (b &&& 4294967295#64)) >>> 32) >>> 32 +
    ((((a >>> 32) * (b &&& 4294967295#64)+((a &&& 4294967295#64) * (b &&& 4294967295#64)) >>> 32) &&& 4294967295#64)+(a &&& 4294967295#64) * (b >>> 32)) >>> 32
theorem zi (x : dM) : (x &&& 4294967295#64).toNat=x.toNat % 4294967296:=by
  rw [BitVec.toNat_and,show (4294967295#64).toNat=2 ^ 32 - 1 from rfl,Nat.and_two_pow_sub_one_eq_mod]
theorem vr {x y : dM} (hx : x.toNat<4294967296) (hy : y.toNat<4294967296) : (x * y).toNat=x.toNat * y.toNat∧x.toNat * y.toNat≤18446744065119617025:=by
  have h : x.toNat * y.toNat≤4294967295 * 4294967295:=Nat.mul_le_mul (by omega) (by omega)
  refine ⟨?_,by omega⟩
  rw [BitVec.toNat_mul]
  exact Nat.mod_eq_of_lt (by omega)
theorem IT (x1 x0 y1 y0 : Nat) : (x1 * 4294967296+x0) * (y1 * 4294967296+y0)=x1 * y1 * 18446744073709551616+(x1 * y0+x0 * y1) * 4294967296+x0 * y0:=by
  grind
theorem F6 (a b : dM) : mulC a b=rX a b:=by
  apply BitVec.eq_of_toNat_eq
  rw [rY]
  have ha:=a.isLt
  have hb:=b.isLt
  have a1:=de a 32
  have b1:=de b 32
  have a0:=zi a
  have b0:=zi b
  have ea : a.toNat=a.toNat / 4294967296 * 4294967296+a.toNat % 4294967296:=by omega
  have eb : b.toNat=b.toNat / 4294967296 * 4294967296+b.toNat % 4294967296:=by omega
  have e:=IT (a.toNat / 4294967296) (a.toNat % 4294967296) (b.toNat / 4294967296) (b.toNat % 4294967296)
  rw [← ea,← eb] at e
  unfold mulC
  have h1 : (a >>> 32).toNat<4294967296:=by omega
  have h2 : (b >>> 32).toNat<4294967296:=by omega
  have h3 : (a &&& 4294967295#64).toNat<4294967296:=by omega
  have h4 : (b &&& 4294967295#64).toNat<4294967296:=by omega
  have p11:=vr h1 h2
  have p10:=vr h1 h4
  have p01:=vr h3 h2
  have p00:=vr h3 h4
  rw [a1,b1] at p11
  rw [a1,b0] at p10
  rw [a0,b1] at p01
  rw [a0,b0] at p00
  clear ha hb ea eb h1 h2 h3 h4 a1 b1 a0 b0
  rw [show (2 : Nat) ^ 32=4294967296 from rfl] at *
  generalize (a >>> 32) * (b >>> 32)=q11 at *
  generalize (a >>> 32) * (b &&& 4294967295#64)=q10 at *
  generalize (a &&& 4294967295#64) * (b >>> 32)=q01 at *
  generalize (a &&& 4294967295#64) * (b &&& 4294967295#64)=q00 at *
  generalize a.toNat * b.toNat=pr at *
  generalize a.toNat / 4294967296 * (b.toNat / 4294967296)=n11 at *
  generalize a.toNat / 4294967296 * (b.toNat % 4294967296)=n10 at *
  generalize a.toNat % 4294967296 * (b.toNat / 4294967296)=n01 at *
  generalize a.toNat % 4294967296 * (b.toNat % 4294967296)=n00 at *
  have s1:=de q00 32
  have t1:=toNat_add (x:=q10) (y:=q00 >>> 32) (by omega)
  have s2:=de (q10+q00 >>> 32) 32
  have m1:=zi (q10+q00 >>> 32)
  have t2:=toNat_add (x:=(q10+q00 >>> 32) &&& 4294967295#64) (y:=q01) (by omega)
  have s3:=de (((q10+q00 >>> 32) &&& 4294967295#64)+q01) 32
  have hbd : pr<18446744073709551616 * 18446744073709551616:=by omega
  have u1:=toNat_add (x:=q11) (y:=(q10+q00 >>> 32) >>> 32) (by omega)
  have u2:=toNat_add (x:=q11+(q10+q00 >>> 32) >>> 32) (y:=(((q10+q00 >>> 32) &&& 4294967295#64)+q01) >>> 32) (by omega)
  rw [u2,u1,s3,t2,m1,s2,t1,s1]
  omega
theorem si : aK Tryz.prog 112:=⟨_,Tryz.func112,rfl,by kernel_rfl⟩
theorem Ef : GJ Tryz.prog 113:=⟨_,Tryz.func113,by kernel_rfl,by kernel_rfl,by kernel_rfl,by kernel_rfl⟩
set_option maxHeartbeats 8000000 in
theorem ug (a b : dM) (w : World) : Calls Tryz.prog 112 [aj a,aj b].toArray w fun e w'=>e=.returned (.tuple #[aj (rX a b),aj (a * b)])∧Ext w w':=by
  rw [← F6]
  refine enter (n:=51) Tryz.func112 rfl rfl rfl (ah.start w []) ?_
  repeat (first | refine JL.q (by first|(apply OQ.mY (b:=4294967295#64);rfl;rfl)|(apply OQ.pV;rfl;rfl)|(apply OQ.move;rfl)|(apply OQ.assign;rfl)|(apply OQ.n8;rfl;rfl)|(apply OQ.jx;rfl;rfl)) rfl ?_ | refine JC.seq ?_ | refine JC.region ?_ | refine JL.nil ?_ | refine JE.next ?_)
  refine JC.ret ?_
  refine JE.gp rfl (RV.tmp rfl) (RV.tmp rfl) ?_
  exact fun w' hw=>⟨rfl,hw.aL⟩
theorem F7 : dJ Tryz.prog 150=some 2:=by kernel_rfl
theorem IU : gm Tryz.prog 150=true:=by kernel_rfl
theorem MP : zc Tryz.prog 150=some ((⟨0,0⟩ : W2).l.map aj):=by kernel_rfl
theorem vt : aK Tryz.prog 99:=⟨_,Tryz.func99,rfl,by kernel_rfl⟩
theorem BV : aK Tryz.prog 100:=⟨_,Tryz.func100,rfl,by kernel_rfl⟩
theorem BW : aK Tryz.prog 111:=⟨_,Tryz.func111,rfl,by kernel_rfl⟩
theorem xo : aK Tryz.prog 98:=⟨_,Tryz.func98,rfl,by kernel_rfl⟩
theorem aO : aK Tryz.prog 78:=⟨_,Tryz.func78,rfl,by kernel_rfl⟩
set_option maxHeartbeats 8000000 in
theorem xp (a b : dM) (w : World) : Calls Tryz.prog 99 [aj a,aj b].toArray w fun e w'=>e=.returned (.agg ((x6 a b).l.map aj).toArray)∧Ext w w':=by
  refine enter (n:=16) Tryz.func99 rfl rfl rfl (ah.start w []) ?_
  repeat (first | refine JC.seq ?_ | refine JC.region ?_)
  refine JL.alloc MP rfl fun b4 _=>?_
  repeat (first | refine JL.q (by first|(apply OQ.au;exact si;rfl;exact (fun w' _=>ug a b w'))|(apply OQ.extract;rfl;rfl)|(apply OQ.move;rfl)|(apply OQ.assign;rfl)) rfl ?_ | refine JC.seq ?_ | refine JC.region ?_ | refine JL.nil ?_ | refine JE.next ?_)
  refine JL.q (OQ.pure (v:=.agg ((x6 a b).l.map aj).toArray) rfl rfl (by kernel_rfl)) rfl ?_
  refine JL.ag (cs:=(x6 a b).l.map aj) F7 rfl rfl rfl (bn _) .here rfl ?_
  repeat (first | refine JL.nil ?_ | refine JE.next ?_)
  refine JC.ret (JE.aQ rfl (RV.av IU F7 rfl .here rfl Row.all) ?_)
  exact fun w' hw=>⟨rfl,hw.aL⟩
theorem IV (a b : dM) : (Hs a b).toNat≤1:=by
  rw [zb]
  have:=a.isLt
  have:=b.isLt
  omega
theorem IW (a b : dM) : (a+b).toNat=(a.toNat+b.toNat+(0#64 : dM).toNat) % 18446744073709551616:=by
  rw [BitVec.toNat_add];rfl
theorem IX (a b : dM) : (Hs a b).toNat=(a.toNat+b.toNat+(0#64 : dM).toNat) / 18446744073709551616:=zb a b
theorem IY (a b c : dM) : (a+b+c).toNat=(a.toNat+b.toNat+c.toNat) % 18446744073709551616:=by
  rw [BitVec.toNat_add,BitVec.toNat_add]
  omega
theorem IZ (a b c : dM) : (BitVec.ofNat 64 ((a.toNat+b.toNat+c.toNat) / 18446744073709551616)).toNat=(a.toNat+b.toNat+c.toNat) / 18446744073709551616:=by
  rw [BitVec.toNat_ofNat]
  have:=a.isLt
  have:=b.isLt
  have:=c.isLt
  omega
set_option maxHeartbeats 8000000 in
theorem Eg (v : W2) (a b : dM) (w : World) : Calls Tryz.prog 100 [.agg (v.l.map aj).toArray,aj a,aj b].toArray w fun e w'=>e=.returned (.agg ((ku v a b).l.map aj).toArray)∧Ext w w':=by
  have c0 : (v.l.map aj)[0]?=some (aj v.hi):=rfl
  have c1 : (v.l.map aj)[1]?=some (aj v.lo):=rfl
  refine enter (n:=34) Tryz.func100 rfl rfl rfl (ah.start w []) ?_
  repeat (first | refine JC.seq ?_ | refine JC.region ?_)
  refine JL.box (r:=v.l.map aj) rfl rfl rfl fun b3 _=>?_
  refine JL.alloc MP rfl fun b6 _=>?_
  repeat (first | refine JL.q (by first|(apply OQ.au;exact si;rfl;exact (fun w' _=>ug a b w'))|(apply OQ.extract;rfl;rfl)|(apply OQ.load;exact fS;rfl;exact (.there .here);exact (Row.cell c1))|(apply OQ.load;exact fS;rfl;exact (.there .here);exact (Row.cell c0))|(apply OQ.CW (c:=0#64) (s:=v.lo+a * b) (o:=Hs v.lo (a * b));exact Ef;rfl;rfl;rfl;exact (by decide);exact (IW _ _);exact (IX _ _))|(apply OQ.CW (c:=Hs v.lo (a * b)) (s:=v.hi+rX a b+Hs v.lo (a * b));exact Ef;rfl;rfl;rfl;exact (IV _ _);exact (IY _ _ _);exact (IZ _ _ _))|(apply OQ.move;rfl)|(apply OQ.assign;rfl)|(apply OQ.bM;rfl;rfl;rfl;exact (by decide);rfl)) rfl ?_ | refine JC.seq ?_ | refine JC.region ?_ | refine JL.nil ?_ | refine JE.next ?_)
  refine JL.q (OQ.pure (v:=.agg ((ku v a b).l.map aj).toArray) rfl rfl (by kernel_rfl)) rfl ?_
  refine JL.ag (cs:=(ku v a b).l.map aj) F7 rfl rfl rfl (bn _) .here rfl ?_
  repeat (first | refine JL.nil ?_ | refine JE.next ?_)
  refine JC.ret (JE.aQ rfl (RV.av IU F7 rfl .here rfl Row.all) ?_)
  exact fun w' hw=>⟨rfl,hw.aL⟩
set_option maxHeartbeats 8000000 in
theorem Eh (v : W2) (w : World) : Calls Tryz.prog 111 [.agg (v.l.map aj).toArray].toArray w fun e w'=>e=.returned (aj (qH v))∧Ext w w':=by
  have c0 : (v.l.map aj)[0]?=some (aj v.hi):=rfl
  have c1 : (v.l.map aj)[1]?=some (aj v.lo):=rfl
  refine enter (n:=10) Tryz.func111 rfl rfl rfl (ah.start w []) ?_
  repeat (first | refine JC.seq ?_ | refine JC.region ?_)
  refine JL.box (r:=v.l.map aj) rfl rfl rfl fun b1 _=>?_
  repeat (first | refine JL.q (by first|(apply OQ.load;exact fS;rfl;exact .here;exact (Row.cell c1))|(apply OQ.load;exact fS;rfl;exact .here;exact (Row.cell c0))|(apply OQ.tF;rfl;rfl)|(apply OQ.A3;rfl;rfl)|(apply OQ.assign;rfl)|(apply OQ.jx;rfl;rfl)|(apply OQ.bM;rfl;rfl;rfl;exact (by decide);rfl)) rfl ?_ | refine JC.seq ?_ | refine JC.region ?_ | refine JL.nil ?_ | refine JE.next ?_)
  refine JC.ret (JE.aQ rfl (RV.tmp rfl) ?_)
  exact fun w' hw=>⟨rfl,hw.aL⟩
set_option maxHeartbeats 16000000 in
theorem zj (v0 v1 v2 v3 v4 : W2) (w : World) : Calls Tryz.prog 98 [.agg (v0.l.map aj).toArray,.agg (v1.l.map aj).toArray,.agg (v2.l.map aj).toArray,.agg (v3.l.map aj).toArray,.agg (v4.l.map aj).toArray].toArray w
    fun e w'=>e=.returned (.agg ((Kv v0 v1 v2 v3 v4).l.map aj).toArray)∧Ext w w':=by
  have c0 : (v0.l.map aj)[1]?=some (aj v0.lo):=rfl
  have c1 : (v1.l.map aj)[1]?=some (aj v1.lo):=rfl
  have c2 : (v2.l.map aj)[1]?=some (aj v2.lo):=rfl
  have c3 : (v3.l.map aj)[1]?=some (aj v3.lo):=rfl
  have c4 : (v4.l.map aj)[1]?=some (aj v4.lo):=rfl
  have cc:=lI ⟨(v0.lo &&& 2251799813685247#64)+19#64 * qH v4,(v1.lo &&& 2251799813685247#64)+qH v0,(v2.lo &&& 2251799813685247#64)+qH v1,(v3.lo &&& 2251799813685247#64)+qH v2,(v4.lo &&& 2251799813685247#64)+qH v3⟩
  refine enter (n:=44) Tryz.func98 rfl rfl rfl (ah.start w []) ?_
  repeat (first | refine JC.seq ?_ | refine JC.region ?_)
  refine JL.box (r:=v0.l.map aj) rfl rfl rfl fun b5 _=>?_
  refine JL.box (r:=v1.l.map aj) rfl rfl rfl fun b6 _=>?_
  refine JL.box (r:=v2.l.map aj) rfl rfl rfl fun b7 _=>?_
  refine JL.box (r:=v3.l.map aj) rfl rfl rfl fun b8 _=>?_
  refine JL.box (r:=v4.l.map aj) rfl rfl rfl fun b9 _=>?_
  refine JL.alloc mH rfl fun b10 _=>?_
  repeat (first | refine JC.seq ?_ | refine JL.nil ?_ | refine JE.next ?_)
  refine JC.tail 33 eD (by kernel_rfl) ?_
  simp only [List.take_succ_cons,List.take_zero,List.drop_succ_cons,List.drop_zero]
  repeat (refine JQ.q (by first|(apply OQ.load;exact fS;rfl;exact (by repeat (first | exact Has.here | apply Has.there));exact (Row.cell c0))|(apply OQ.load;exact fS;rfl;exact (by repeat (first | exact Has.here | apply Has.there));exact (Row.cell c1))|(apply OQ.load;exact fS;rfl;exact (by repeat (first | exact Has.here | apply Has.there));exact (Row.cell c2))|(apply OQ.load;exact fS;rfl;exact (by repeat (first | exact Has.here | apply Has.there));exact (Row.cell c3))|(apply OQ.load;exact fS;rfl;exact (by repeat (first | exact Has.here | apply Has.there));exact (Row.cell c4))|(apply OQ.af (cs:=v0.l.map aj);exact IU;exact F7;rfl;exact (by repeat (first | exact Has.here | apply Has.there));rfl;exact Row.all)|(apply OQ.af (cs:=v1.l.map aj);exact IU;exact F7;rfl;exact (by repeat (first | exact Has.here | apply Has.there));rfl;exact Row.all)|(apply OQ.af (cs:=v2.l.map aj);exact IU;exact F7;rfl;exact (by repeat (first | exact Has.here | apply Has.there));rfl;exact Row.all)|(apply OQ.af (cs:=v3.l.map aj);exact IU;exact F7;rfl;exact (by repeat (first | exact Has.here | apply Has.there));rfl;exact Row.all)|(apply OQ.af (cs:=v4.l.map aj);exact IU;exact F7;rfl;exact (by repeat (first | exact Has.here | apply Has.there));rfl;exact Row.all)|(apply OQ.au;exact BW;rfl;exact (fun w' _=>Eh _ w'))|(apply OQ.mY (b:=2251799813685247#64);rfl;rfl)|(apply OQ.pV (a:=19#64);rfl;rfl)|(apply OQ.n8;rfl;rfl)|(apply OQ.bM;rfl;rfl;rfl;exact (by decide);rfl)) rfl ?_)
  refine JQ.q (OQ.pure (v:=.agg ((⟨(v0.lo &&& 2251799813685247#64)+19#64 * qH v4,(v1.lo &&& 2251799813685247#64)+qH v0,(v2.lo &&& 2251799813685247#64)+qH v1,(v3.lo &&& 2251799813685247#64)+qH v2,(v4.lo &&& 2251799813685247#64)+qH v3⟩ : N5).l.map aj).toArray) rfl rfl (by kernel_rfl)) rfl ?_
  refine JQ.q (OQ.au kz rfl fun w' _=>cc w') rfl ?_
  repeat (refine JQ.bC ?_)
  refine JL.ag (cs:=(Kv v0 v1 v2 v3 v4).l.map aj) bZ rfl rfl rfl (bn _) .here rfl ?_
  repeat (first | refine JL.nil ?_ | refine JE.next ?_)
  refine JC.ret (JE.aQ rfl (RV.av en bZ rfl .here rfl Row.all) ?_)
  exact fun w' hw=>⟨rfl,hw.aL⟩
end
section
set_option maxRecDepth 10000
open Sl dO
set_option maxHeartbeats 32000000 in
set_option maxRecDepth 4000 in
theorem aT (a b : N5) (w : World) : Calls Tryz.prog 78 [.agg (a.l.map aj).toArray,.agg (b.l.map aj).toArray].toArray w fun e w'=>e=.returned (.agg ((cI a b).l.map aj).toArray)∧Ext w w':=by
  have c0 : (a.l.map aj)[0]?=some (aj a.a0):=rfl
  have c1 : (a.l.map aj)[1]?=some (aj a.a1):=rfl
  have c2 : (a.l.map aj)[2]?=some (aj a.a2):=rfl
  have c3 : (a.l.map aj)[3]?=some (aj a.a3):=rfl
  have c4 : (a.l.map aj)[4]?=some (aj a.a4):=rfl
  have d0 : (b.l.map aj)[0]?=some (aj b.a0):=rfl
  have d1 : (b.l.map aj)[1]?=some (aj b.a1):=rfl
  have d2 : (b.l.map aj)[2]?=some (aj b.a2):=rfl
  have d3 : (b.l.map aj)[3]?=some (aj b.a3):=rfl
  have d4 : (b.l.map aj)[4]?=some (aj b.a4):=rfl
  refine enter (n:=123) Tryz.func78 rfl rfl rfl (ah.start w []) ?_
  repeat (first | refine JC.seq ?_ | refine JC.region ?_)
  refine JL.box (r:=a.l.map aj) rfl rfl rfl fun b2 _=>?_
  refine JL.box (r:=b.l.map aj) rfl rfl rfl fun b3 _=>?_
  refine JL.alloc mH rfl fun b4 _=>?_
  repeat (first | refine JC.seq ?_ | refine JL.nil ?_ | refine JE.next ?_)
  refine JC.quiet eD (by kernel_rfl) ?_
  repeat (first | refine JQ.q (by first|(apply OQ.aD;exact Tryz.underlying118;exact xj;rfl;rfl;exact (by decide))|(apply OQ.load;exact fS;rfl;exact (.there (.there .here));exact (Row.cell c0))|(apply OQ.load;exact fS;rfl;exact (.there (.there .here));exact (Row.cell c1))|(apply OQ.load;exact fS;rfl;exact (.there (.there .here));exact (Row.cell c2))|(apply OQ.load;exact fS;rfl;exact (.there (.there .here));exact (Row.cell c3))|(apply OQ.load;exact fS;rfl;exact (.there (.there .here));exact (Row.cell c4))|(apply OQ.assign;rfl)) rfl ?_ | refine JC.seq ?_ | refine JQ.nil ?_ | refine JE.next ?_)
  refine JC.quiet eD (by kernel_rfl) ?_
  repeat (first | refine JL.q (by first|(apply OQ.aD;exact Tryz.underlying118;exact xj;rfl;rfl;exact (by decide))|(apply OQ.load;exact fS;rfl;exact (.there .here);exact (Row.cell d0))|(apply OQ.load;exact fS;rfl;exact (.there .here);exact (Row.cell d1))|(apply OQ.load;exact fS;rfl;exact (.there .here);exact (Row.cell d2))|(apply OQ.load;exact fS;rfl;exact (.there .here);exact (Row.cell d3))|(apply OQ.load;exact fS;rfl;exact (.there .here);exact (Row.cell d4))|(apply OQ.pV (a:=19#64);rfl;rfl)|(apply OQ.move;rfl)|(apply OQ.assign;rfl)) rfl ?_ | refine JQ.q (by first|(apply OQ.aD;exact Tryz.underlying118;exact xj;rfl;rfl;exact (by decide))|(apply OQ.load;exact fS;rfl;exact (.there .here);exact (Row.cell d0))|(apply OQ.load;exact fS;rfl;exact (.there .here);exact (Row.cell d1))|(apply OQ.load;exact fS;rfl;exact (.there .here);exact (Row.cell d2))|(apply OQ.load;exact fS;rfl;exact (.there .here);exact (Row.cell d3))|(apply OQ.load;exact fS;rfl;exact (.there .here);exact (Row.cell d4))|(apply OQ.pV (a:=19#64);rfl;rfl)|(apply OQ.move;rfl)|(apply OQ.assign;rfl)) rfl ?_ | refine JC.seq ?_ | refine JC.region ?_ | refine JL.nil ?_ | refine JQ.nil ?_ | refine JE.next ?_)
  simp only [List.append]
  repeat (refine JL.q (by first|(apply OQ.au;exact vt;rfl;exact (fun w' _=>xp _ _ w'))|(apply OQ.au;exact BV;rfl;exact (fun w' _=>Eg _ _ _ w'))|(apply OQ.move;rfl)) rfl ?_)
  refine JL.q (OQ.au xo rfl fun w' _=>zj _ _ _ _ _ w') rfl ?_
  refine JL.ag (cs:=(cI a b).l.map aj) bZ rfl rfl rfl (bn _) .here rfl ?_
  repeat (first | refine JL.nil ?_ | refine JE.next ?_)
  refine JC.ret (JE.aQ rfl (RV.av en bZ rfl .here rfl Row.all) ?_)
  exact fun w' hw=>⟨rfl,hw.aL⟩
theorem cg : aK Tryz.prog 101:=⟨_,Tryz.func101,rfl,by kernel_rfl⟩
theorem vu : aK Tryz.prog 79:=⟨_,Tryz.func79,rfl,by kernel_rfl⟩
set_option maxHeartbeats 8000000 in
theorem c6 (a : N5) (k : Nat) (hk : k<1000) (w : World) : Calls Tryz.prog 101 [.agg (a.l.map aj).toArray,N k].toArray w fun e w'=>e=.returned (.agg ((mT a k).l.map aj).toArray)∧Ext w w':=by
  refine enter (n:=13) Tryz.func101 rfl rfl rfl (ah.start w []) ?_
  repeat (first | refine JC.seq ?_ | refine JC.region ?_)
  refine JL.box (r:=a.l.map aj) rfl rfl rfl fun b2 _=>?_
  refine JL.alloc mH rfl fun b4 _=>?_
  repeat (first | refine JL.q (by (apply OQ.move;rfl)) rfl ?_ | refine JC.seq ?_ | refine JC.region ?_ | refine JC.block ?_ | refine JL.nil ?_ | refine JE.next ?_)
  refine JC.loop (fun i : Nat=>[(2,Pt b2 0),(4,Pt b4 0),(5,N k),(6,N i)]) (fun i=>[⟨b4,Row 118 (bG.l.map aj),true⟩,⟨b2,Row 118 ((mT a i).l.map aj),true⟩])
    (fun i=>k - i) (fun i=>i≤k) 0 (by omega) (by repeat (first | exact ai.nil | refine ai.cons _ _ _ rfl ?_)) (aq.refl _) ?_
  intro i hi
  repeat (first | refine JL.q (by (apply OQ.bJ;rfl;rfl)) rfl ?_ | refine JC.seq ?_ | refine JC.region ?_ | refine JL.nil ?_ | refine JE.next ?_)
  refine JC.cond rfl (fun h=>?_) (fun h=>?_)
  · have hi' : i<k:=of_decide_eq_true h
    clear h hi
    have c:=aT (mT a i) (mT a i)
    repeat (first | refine JL.q (by first|(apply OQ.af (cs:=(mT a i).l.map aj);exact en;exact bZ;rfl;exact (.there .here);rfl;exact Row.all)|(apply OQ.au;exact aO;rfl;exact (fun w' _=>c w'))) rfl ?_ | refine JC.seq ?_ | refine JC.region ?_ | refine JC.block ?_ | refine JC.skip ?_ | refine JE.next ?_)
    refine JL.ag (cs:=(mT a (i+1)).l.map aj) bZ rfl rfl rfl (bn _) (.there .here) rfl ?_
    repeat (first | refine JL.q (by first|(apply OQ.move;rfl)|(apply OQ.aY;rfl;rfl;exact (by (try simp only []);omega))) rfl ?_ | refine JC.region ?_ | refine JL.nil ?_ | refine JE.next ?_ | refine JE.an ?_)
    exact JE.again (i:=i) (i+1) (by omega) (by omega) (by repeat (first | exact ai.nil | refine ai.cons _ _ _ rfl ?_)) (aq.refl _)
  · have hi' : ¬ i<k:=of_decide_eq_false h
    obtain rfl : i=k:=by omega
    clear h hi hi'
    generalize mT a i=X
    repeat (first | refine JL.q (by (apply OQ.af (cs:=X.l.map aj);exact en;exact bZ;rfl;exact (.there .here);rfl;exact Row.all)) rfl ?_ | refine JC.seq ?_ | refine JC.region ?_ | refine JC.exit ?_ | refine JE.next ?_ | refine JE.ax ?_ | refine JE.aA ?_)
    refine JL.ag (cs:=X.l.map aj) bZ rfl rfl rfl (bn _) .here rfl ?_
    repeat (first | refine JL.nil ?_ | refine JE.next ?_)
    refine JC.ret (JE.aQ rfl (RV.av en bZ rfl .here rfl Row.all) ?_)
    exact fun w' hw=>⟨rfl,hw.aL⟩
end
section
set_option maxRecDepth 10000
open Sl dO
set_option maxHeartbeats 64000000 in
set_option maxRecDepth 4000 in
theorem xq (n : N5) (w : World) : Calls Tryz.prog 79 [.agg (n.l.map aj).toArray].toArray w fun e w'=>e=.returned (.agg ((r9 n).l.map aj).toArray)∧Ext w w':=by
  have c_two:=c6 n 1 (by decide)
  generalize h_two : mT n 1=two at c_two
  have c_q2:=c6 two 2 (by decide)
  generalize h_q2 : mT two 2=q2 at c_q2
  have c_nine:=aT q2 n
  generalize h_nine : cI q2 n=nine at c_nine
  have c_elv:=aT nine two
  generalize h_elv : cI nine two=elv at c_elv
  have c_q4:=c6 elv 1 (by decide)
  generalize h_q4 : mT elv 1=q4 at c_q4
  have c_o5:=aT q4 nine
  generalize h_o5 : cI q4 nine=o5 at c_o5
  have c_q5:=c6 o5 5 (by decide)
  generalize h_q5 : mT o5 5=q5 at c_q5
  have c_o10:=aT q5 o5
  generalize h_o10 : cI q5 o5=jN at c_o10
  have c_q6:=c6 jN 10 (by decide)
  generalize h_q6 : mT jN 10=q6 at c_q6
  have c_o20:=aT q6 jN
  generalize h_o20 : cI q6 jN=ni at c_o20
  have c_q7:=c6 ni 20 (by decide)
  generalize h_q7 : mT ni 20=q7 at c_q7
  have c_o40:=aT q7 ni
  generalize h_o40 : cI q7 ni=r8 at c_o40
  have c_q8:=c6 r8 10 (by decide)
  generalize h_q8 : mT r8 10=q8 at c_q8
  have c_o50:=aT q8 jN
  generalize h_o50 : cI q8 jN=lG at c_o50
  have c_q9:=c6 lG 50 (by decide)
  generalize h_q9 : mT lG 50=q9 at c_q9
  have c_o100:=aT q9 lG
  generalize h_o100 : cI q9 lG=gS at c_o100
  have c_q10:=c6 gS 100 (by decide)
  generalize h_q10 : mT gS 100=q10 at c_q10
  have c_o200:=aT q10 gS
  generalize h_o200 : cI q10 gS=lH at c_o200
  have c_q11:=c6 lH 50 (by decide)
  generalize h_q11 : mT lH 50=q11 at c_q11
  have c_o250:=aT q11 lG
  generalize h_o250 : cI q11 lG=oG at c_o250
  have c_q12:=c6 oG 5 (by decide)
  generalize h_q12 : mT oG 5=q12 at c_q12
  have c_fin:=aT q12 elv
  generalize h_fin : cI q12 elv=fin at c_fin
  have eI : r9 n=fin:=by
    subst h_fin h_q12 h_o250 h_q11 h_o200 h_q10 h_o100 h_q9 h_o50 h_q8 h_o40 h_q7 h_o20 h_q6 h_o10 h_q5 h_o5 h_q4 h_elv h_nine h_q2 h_two
    rfl
  rw [eI]
  clear eI h_two h_q2 h_nine h_elv h_q4 h_o5 h_q5 h_o10 h_q6 h_o20 h_q7 h_o40 h_q8 h_o50 h_q9 h_o100 h_q10 h_o200 h_q11 h_o250 h_q12 h_fin
  refine enter (n:=59) Tryz.func79 rfl rfl rfl (ah.start w []) ?_
  repeat (first | refine JC.seq ?_ | refine JC.region ?_)
  refine JL.box (r:=n.l.map aj) rfl rfl rfl fun b1 _=>?_
  refine JL.alloc mH rfl fun b2 _=>?_
  repeat (first | refine JL.q (by first|(apply OQ.af (cs:=n.l.map aj);exact en;exact bZ;rfl;exact (by repeat (first | exact Has.here | apply Has.there));rfl;exact Row.all)|(apply OQ.au (vs:=[.agg (n.l.map aj).toArray,N 1]);exact cg;rfl;exact (fun w' _=>c_two w'))) rfl ?_ | refine JC.seq ?_ | refine JC.region ?_ | refine JL.nil ?_ | refine JE.next ?_)
  refine JL.alloc mH rfl fun b3 _=>?_
  refine JL.ag (cs:=two.l.map aj) bZ rfl rfl rfl (bn _) .here rfl ?_
  repeat (first | refine JC.seq ?_ | refine JL.nil ?_ | refine JE.next ?_)
  let vs : Nat→Nat→Value:=fun j x=>match j with
    | 0=>.agg (two.l.map aj).toArray
    | 1=>.agg (q2.l.map aj).toArray
    | 2=>.agg (n.l.map aj).toArray
    | 3=>.agg (nine.l.map aj).toArray
    | _=>Pt x 0
  let Ms : Nat→Nat→List aG:=fun j x=>match j with
    | 4=>[⟨x,Row 118 (bG.l.map aj),true⟩]
    | 5=>[⟨x,Row 118 (nine.l.map aj),true⟩]
    | 6=>[⟨b3,Row 118 (two.l.map aj),true⟩]
    | 7=>[⟨b2,Row 118 (bG.l.map aj),true⟩]
    | 8=>[⟨b1,Row 118 (n.l.map aj),true⟩]
    | _=>[]
  refine JC.grow (g:=⟨[(1,Pt b1 0),(2,Pt b2 0),(3,Pt b3 0)],9,vs,Ms,(fun j=>match j with | 1=>[(0,16)] | 3=>[(1,17),(2,18)] | 5=>[(4,4),(3,19)] | _=>[]),(fun j=>match j with | 0=>[6] | 2=>[8] | 5=>[4] | _=>[]),(fun j=>match j with | 5=>[4] | _=>[]),(fun j=>match j with | 5=>some 4 | _=>none)⟩) [(4,4)] [5,6,7,8] eD (by repeat (first | exact ai.nil | refine ai.cons _ _ _ rfl ?_)) (aq.refl _) (by kernel_rfl) (by kernel_rfl) (by kernel_rfl) ?_ ?_
  · refine ⟨?_,?_,?_,?_,?_,?_,trivial⟩
    · (intro x EF MF Q kk;exact JL.q (OQ.af (cs:=two.l.map aj) en bZ rfl .here rfl Row.all) rfl (JL.nil (kk default nofun)))
    · (intro x EF MF Q kk;exact JL.q (OQ.au (vs:=[.agg (two.l.map aj).toArray,N 2]) cg rfl fun w' _=>c_q2 w') rfl (JL.nil (kk default nofun)))
    · (intro x EF MF Q kk;exact JL.q (OQ.af (cs:=n.l.map aj) en bZ rfl .here rfl Row.all) rfl (JL.nil (kk default nofun)))
    · (intro x EF MF Q kk;exact JL.q (OQ.au (vs:=[.agg (q2.l.map aj).toArray,.agg (n.l.map aj).toArray]) aO rfl fun w' _=>c_nine w') rfl (JL.nil (kk default nofun)))
    · (intro x EF MF Q kk;exact JL.alloc mH rfl fun b _=>JL.nil (kk b nofun))
    · (intro x EF MF Q kk;exact JL.ag (cs:=nine.l.map aj) bZ rfl rfl rfl (bn _) .here rfl (JL.nil (kk (x 4) (fun k h=>by cases h;rfl))))
  · intro x hx
    have h5:=hx 5 4 (by decide) rfl
    show JE _ _ _ _ _ [(4,Pt (x 4) 0),(1,Pt b1 0),(2,Pt b2 0),(3,Pt b3 0)] [⟨(x 5),Row 118 (nine.l.map aj),true⟩,⟨b3,Row 118 (two.l.map aj),true⟩,⟨b2,Row 118 (bG.l.map aj),true⟩,⟨b1,Row 118 (n.l.map aj),true⟩]
    rw [h5]
    generalize x 4=b4
    clear hx h5 x vs Ms
    repeat (first | refine JC.seq ?_ | refine JC.region ?_ | refine JE.next ?_)
    repeat (refine JL.q (by first|(apply OQ.af (cs:=nine.l.map aj);exact en;exact bZ;rfl;exact (by repeat (first | exact Has.here | apply Has.there));rfl;exact Row.all)|(apply OQ.af (cs:=two.l.map aj);exact en;exact bZ;rfl;exact (by repeat (first | exact Has.here | apply Has.there));rfl;exact Row.all)|(apply OQ.au (vs:=[.agg (nine.l.map aj).toArray,.agg (two.l.map aj).toArray]);exact aO;rfl;exact (fun w' _=>c_elv w'))) rfl ?_)
    refine JL.alloc mH rfl fun b5 _=>?_
    refine JL.ag (cs:=elv.l.map aj) bZ rfl rfl rfl (bn _) .here rfl ?_
    repeat (first | refine JC.seq ?_ | refine JL.nil ?_ | refine JE.next ?_)
    let vs : Nat→Nat→Value:=fun j x=>match j with
      | 0=>.agg (elv.l.map aj).toArray
      | 1=>.agg (q4.l.map aj).toArray
      | 2=>.agg (nine.l.map aj).toArray
      | 3=>.agg (o5.l.map aj).toArray
      | _=>Pt x 0
    let Ms : Nat→Nat→List aG:=fun j x=>match j with
      | 4=>[⟨x,Row 118 (bG.l.map aj),true⟩]
      | 5=>[⟨x,Row 118 (o5.l.map aj),true⟩]
      | 6=>[⟨b5,Row 118 (elv.l.map aj),true⟩]
      | 7=>[⟨b4,Row 118 (nine.l.map aj),true⟩]
      | 8=>[⟨b3,Row 118 (two.l.map aj),true⟩]
      | 9=>[⟨b2,Row 118 (bG.l.map aj),true⟩]
      | 10=>[⟨b1,Row 118 (n.l.map aj),true⟩]
      | _=>[]
    refine JC.grow (g:=⟨[(5,Pt b5 0),(4,Pt b4 0),(1,Pt b1 0),(2,Pt b2 0),(3,Pt b3 0)],11,vs,Ms,(fun j=>match j with | 1=>[(0,23)] | 3=>[(1,24),(2,25)] | 5=>[(4,6),(3,26)] | _=>[]),(fun j=>match j with | 0=>[6] | 2=>[7] | 5=>[4] | _=>[]),(fun j=>match j with | 5=>[4] | _=>[]),(fun j=>match j with | 5=>some 4 | _=>none)⟩) [(4,6)] [5,6,7,8,9,10] eD (by repeat (first | exact ai.nil | refine ai.cons _ _ _ rfl ?_)) (aq.refl _) (by kernel_rfl) (by kernel_rfl) (by kernel_rfl) ?_ ?_
    · refine ⟨?_,?_,?_,?_,?_,?_,trivial⟩
      · (intro x EF MF Q kk;exact JL.q (OQ.af (cs:=elv.l.map aj) en bZ rfl .here rfl Row.all) rfl (JL.nil (kk default nofun)))
      · (intro x EF MF Q kk;exact JL.q (OQ.au (vs:=[.agg (elv.l.map aj).toArray,N 1]) cg rfl fun w' _=>c_q4 w') rfl (JL.nil (kk default nofun)))
      · (intro x EF MF Q kk;exact JL.q (OQ.af (cs:=nine.l.map aj) en bZ rfl .here rfl Row.all) rfl (JL.nil (kk default nofun)))
      · (intro x EF MF Q kk;exact JL.q (OQ.au (vs:=[.agg (q4.l.map aj).toArray,.agg (nine.l.map aj).toArray]) aO rfl fun w' _=>c_o5 w') rfl (JL.nil (kk default nofun)))
      · (intro x EF MF Q kk;exact JL.alloc mH rfl fun b _=>JL.nil (kk b nofun))
      · (intro x EF MF Q kk;exact JL.ag (cs:=o5.l.map aj) bZ rfl rfl rfl (bn _) .here rfl (JL.nil (kk (x 4) (fun k h=>by cases h;rfl))))
    · intro x hx
      have h5:=hx 5 4 (by decide) rfl
      show JE _ _ _ _ _ [(6,Pt (x 4) 0),(5,Pt b5 0),(4,Pt b4 0),(1,Pt b1 0),(2,Pt b2 0),(3,Pt b3 0)] [⟨(x 5),Row 118 (o5.l.map aj),true⟩,⟨b5,Row 118 (elv.l.map aj),true⟩,⟨b4,Row 118 (nine.l.map aj),true⟩,⟨b3,Row 118 (two.l.map aj),true⟩,⟨b2,Row 118 (bG.l.map aj),true⟩,⟨b1,Row 118 (n.l.map aj),true⟩]
      rw [h5]
      generalize x 4=b6
      clear hx h5 x vs Ms
      repeat (first | refine JC.seq ?_ | refine JE.next ?_)
      let vs : Nat→Nat→Value:=fun j x=>match j with
        | 0=>.agg (o5.l.map aj).toArray
        | 1=>.agg (q5.l.map aj).toArray
        | 2=>.agg (o5.l.map aj).toArray
        | 3=>.agg (jN.l.map aj).toArray
        | _=>Pt x 0
      let Ms : Nat→Nat→List aG:=fun j x=>match j with
        | 4=>[⟨x,Row 118 (bG.l.map aj),true⟩]
        | 5=>[⟨x,Row 118 (jN.l.map aj),true⟩]
        | 6=>[⟨b6,Row 118 (o5.l.map aj),true⟩]
        | 7=>[⟨b5,Row 118 (elv.l.map aj),true⟩]
        | 8=>[⟨b4,Row 118 (nine.l.map aj),true⟩]
        | 9=>[⟨b3,Row 118 (two.l.map aj),true⟩]
        | 10=>[⟨b2,Row 118 (bG.l.map aj),true⟩]
        | 11=>[⟨b1,Row 118 (n.l.map aj),true⟩]
        | _=>[]
      refine JC.grow (g:=⟨[(6,Pt b6 0),(5,Pt b5 0),(4,Pt b4 0),(1,Pt b1 0),(2,Pt b2 0),(3,Pt b3 0)],12,vs,Ms,(fun j=>match j with | 1=>[(0,27)] | 3=>[(1,28),(2,29)] | 5=>[(4,7),(3,30)] | _=>[]),(fun j=>match j with | 0=>[6] | 2=>[6] | 5=>[4] | _=>[]),(fun j=>match j with | 5=>[4] | _=>[]),(fun j=>match j with | 5=>some 4 | _=>none)⟩) [(4,7)] [5,6,7,8,9,10,11] eD (by repeat (first | exact ai.nil | refine ai.cons _ _ _ rfl ?_)) (aq.refl _) (by kernel_rfl) (by kernel_rfl) (by kernel_rfl) ?_ ?_
      · refine ⟨?_,?_,?_,?_,?_,?_,trivial⟩
        · (intro x EF MF Q kk;exact JL.q (OQ.af (cs:=o5.l.map aj) en bZ rfl .here rfl Row.all) rfl (JL.nil (kk default nofun)))
        · (intro x EF MF Q kk;exact JL.q (OQ.au (vs:=[.agg (o5.l.map aj).toArray,N 5]) cg rfl fun w' _=>c_q5 w') rfl (JL.nil (kk default nofun)))
        · (intro x EF MF Q kk;exact JL.q (OQ.af (cs:=o5.l.map aj) en bZ rfl .here rfl Row.all) rfl (JL.nil (kk default nofun)))
        · (intro x EF MF Q kk;exact JL.q (OQ.au (vs:=[.agg (q5.l.map aj).toArray,.agg (o5.l.map aj).toArray]) aO rfl fun w' _=>c_o10 w') rfl (JL.nil (kk default nofun)))
        · (intro x EF MF Q kk;exact JL.alloc mH rfl fun b _=>JL.nil (kk b nofun))
        · (intro x EF MF Q kk;exact JL.ag (cs:=jN.l.map aj) bZ rfl rfl rfl (bn _) .here rfl (JL.nil (kk (x 4) (fun k h=>by cases h;rfl))))
      · intro x hx
        have h5:=hx 5 4 (by decide) rfl
        show JE _ _ _ _ _ [(7,Pt (x 4) 0),(6,Pt b6 0),(5,Pt b5 0),(4,Pt b4 0),(1,Pt b1 0),(2,Pt b2 0),(3,Pt b3 0)] [⟨(x 5),Row 118 (jN.l.map aj),true⟩,⟨b6,Row 118 (o5.l.map aj),true⟩,⟨b5,Row 118 (elv.l.map aj),true⟩,⟨b4,Row 118 (nine.l.map aj),true⟩,⟨b3,Row 118 (two.l.map aj),true⟩,⟨b2,Row 118 (bG.l.map aj),true⟩,⟨b1,Row 118 (n.l.map aj),true⟩]
        rw [h5]
        generalize x 4=b7
        clear hx h5 x vs Ms
        repeat (first | refine JC.seq ?_ | refine JE.next ?_)
        let vs : Nat→Nat→Value:=fun j x=>match j with
          | 0=>.agg (jN.l.map aj).toArray
          | 1=>.agg (q6.l.map aj).toArray
          | 2=>.agg (jN.l.map aj).toArray
          | 3=>.agg (ni.l.map aj).toArray
          | _=>Pt x 0
        let Ms : Nat→Nat→List aG:=fun j x=>match j with
          | 4=>[⟨x,Row 118 (bG.l.map aj),true⟩]
          | 5=>[⟨x,Row 118 (ni.l.map aj),true⟩]
          | 6=>[⟨b7,Row 118 (jN.l.map aj),true⟩]
          | 7=>[⟨b6,Row 118 (o5.l.map aj),true⟩]
          | 8=>[⟨b5,Row 118 (elv.l.map aj),true⟩]
          | 9=>[⟨b4,Row 118 (nine.l.map aj),true⟩]
          | 10=>[⟨b3,Row 118 (two.l.map aj),true⟩]
          | 11=>[⟨b2,Row 118 (bG.l.map aj),true⟩]
          | 12=>[⟨b1,Row 118 (n.l.map aj),true⟩]
          | _=>[]
        refine JC.grow (g:=⟨[(7,Pt b7 0),(6,Pt b6 0),(5,Pt b5 0),(4,Pt b4 0),(1,Pt b1 0),(2,Pt b2 0),(3,Pt b3 0)],13,vs,Ms,(fun j=>match j with | 1=>[(0,31)] | 3=>[(1,32),(2,33)] | 5=>[(4,8),(3,34)] | _=>[]),(fun j=>match j with | 0=>[6] | 2=>[6] | 5=>[4] | _=>[]),(fun j=>match j with | 5=>[4] | _=>[]),(fun j=>match j with | 5=>some 4 | _=>none)⟩) [(4,8)] [5,6,7,8,9,10,11,12] eD (by repeat (first | exact ai.nil | refine ai.cons _ _ _ rfl ?_)) (aq.refl _) (by kernel_rfl) (by kernel_rfl) (by kernel_rfl) ?_ ?_
        · refine ⟨?_,?_,?_,?_,?_,?_,trivial⟩
          · (intro x EF MF Q kk;exact JL.q (OQ.af (cs:=jN.l.map aj) en bZ rfl .here rfl Row.all) rfl (JL.nil (kk default nofun)))
          · (intro x EF MF Q kk;exact JL.q (OQ.au (vs:=[.agg (jN.l.map aj).toArray,N 10]) cg rfl fun w' _=>c_q6 w') rfl (JL.nil (kk default nofun)))
          · (intro x EF MF Q kk;exact JL.q (OQ.af (cs:=jN.l.map aj) en bZ rfl .here rfl Row.all) rfl (JL.nil (kk default nofun)))
          · (intro x EF MF Q kk;exact JL.q (OQ.au (vs:=[.agg (q6.l.map aj).toArray,.agg (jN.l.map aj).toArray]) aO rfl fun w' _=>c_o20 w') rfl (JL.nil (kk default nofun)))
          · (intro x EF MF Q kk;exact JL.alloc mH rfl fun b _=>JL.nil (kk b nofun))
          · (intro x EF MF Q kk;exact JL.ag (cs:=ni.l.map aj) bZ rfl rfl rfl (bn _) .here rfl (JL.nil (kk (x 4) (fun k h=>by cases h;rfl))))
        · intro x hx
          have h5:=hx 5 4 (by decide) rfl
          show JE _ _ _ _ _ [(8,Pt (x 4) 0),(7,Pt b7 0),(6,Pt b6 0),(5,Pt b5 0),(4,Pt b4 0),(1,Pt b1 0),(2,Pt b2 0),(3,Pt b3 0)] [⟨(x 5),Row 118 (ni.l.map aj),true⟩,⟨b7,Row 118 (jN.l.map aj),true⟩,⟨b6,Row 118 (o5.l.map aj),true⟩,⟨b5,Row 118 (elv.l.map aj),true⟩,⟨b4,Row 118 (nine.l.map aj),true⟩,⟨b3,Row 118 (two.l.map aj),true⟩,⟨b2,Row 118 (bG.l.map aj),true⟩,⟨b1,Row 118 (n.l.map aj),true⟩]
          rw [h5]
          generalize x 4=b8
          clear hx h5 x vs Ms
          repeat (first | refine JC.seq ?_ | refine JE.next ?_)
          let vs : Nat→Nat→Value:=fun j x=>match j with
            | 0=>.agg (ni.l.map aj).toArray
            | 1=>.agg (q7.l.map aj).toArray
            | 2=>.agg (ni.l.map aj).toArray
            | 3=>.agg (r8.l.map aj).toArray
            | _=>Pt x 0
          let Ms : Nat→Nat→List aG:=fun j x=>match j with
            | 4=>[⟨x,Row 118 (bG.l.map aj),true⟩]
            | 5=>[⟨x,Row 118 (r8.l.map aj),true⟩]
            | 6=>[⟨b8,Row 118 (ni.l.map aj),true⟩]
            | 7=>[⟨b7,Row 118 (jN.l.map aj),true⟩]
            | 8=>[⟨b6,Row 118 (o5.l.map aj),true⟩]
            | 9=>[⟨b5,Row 118 (elv.l.map aj),true⟩]
            | 10=>[⟨b4,Row 118 (nine.l.map aj),true⟩]
            | 11=>[⟨b3,Row 118 (two.l.map aj),true⟩]
            | 12=>[⟨b2,Row 118 (bG.l.map aj),true⟩]
            | 13=>[⟨b1,Row 118 (n.l.map aj),true⟩]
            | _=>[]
          refine JC.grow (g:=⟨[(8,Pt b8 0),(7,Pt b7 0),(6,Pt b6 0),(5,Pt b5 0),(4,Pt b4 0),(1,Pt b1 0),(2,Pt b2 0),(3,Pt b3 0)],14,vs,Ms,(fun j=>match j with | 1=>[(0,35)] | 3=>[(1,36),(2,37)] | 5=>[(4,9),(3,38)] | _=>[]),(fun j=>match j with | 0=>[6] | 2=>[6] | 5=>[4] | _=>[]),(fun j=>match j with | 5=>[4] | _=>[]),(fun j=>match j with | 5=>some 4 | _=>none)⟩) [(4,9)] [5,6,7,8,9,10,11,12,13] eD (by repeat (first | exact ai.nil | refine ai.cons _ _ _ rfl ?_)) (aq.refl _) (by kernel_rfl) (by kernel_rfl) (by kernel_rfl) ?_ ?_
          · refine ⟨?_,?_,?_,?_,?_,?_,trivial⟩
            · (intro x EF MF Q kk;exact JL.q (OQ.af (cs:=ni.l.map aj) en bZ rfl .here rfl Row.all) rfl (JL.nil (kk default nofun)))
            · (intro x EF MF Q kk;exact JL.q (OQ.au (vs:=[.agg (ni.l.map aj).toArray,N 20]) cg rfl fun w' _=>c_q7 w') rfl (JL.nil (kk default nofun)))
            · (intro x EF MF Q kk;exact JL.q (OQ.af (cs:=ni.l.map aj) en bZ rfl .here rfl Row.all) rfl (JL.nil (kk default nofun)))
            · (intro x EF MF Q kk;exact JL.q (OQ.au (vs:=[.agg (q7.l.map aj).toArray,.agg (ni.l.map aj).toArray]) aO rfl fun w' _=>c_o40 w') rfl (JL.nil (kk default nofun)))
            · (intro x EF MF Q kk;exact JL.alloc mH rfl fun b _=>JL.nil (kk b nofun))
            · (intro x EF MF Q kk;exact JL.ag (cs:=r8.l.map aj) bZ rfl rfl rfl (bn _) .here rfl (JL.nil (kk (x 4) (fun k h=>by cases h;rfl))))
          · intro x hx
            have h5:=hx 5 4 (by decide) rfl
            show JE _ _ _ _ _ [(9,Pt (x 4) 0),(8,Pt b8 0),(7,Pt b7 0),(6,Pt b6 0),(5,Pt b5 0),(4,Pt b4 0),(1,Pt b1 0),(2,Pt b2 0),(3,Pt b3 0)] [⟨(x 5),Row 118 (r8.l.map aj),true⟩,⟨b8,Row 118 (ni.l.map aj),true⟩,⟨b7,Row 118 (jN.l.map aj),true⟩,⟨b6,Row 118 (o5.l.map aj),true⟩,⟨b5,Row 118 (elv.l.map aj),true⟩,⟨b4,Row 118 (nine.l.map aj),true⟩,⟨b3,Row 118 (two.l.map aj),true⟩,⟨b2,Row 118 (bG.l.map aj),true⟩,⟨b1,Row 118 (n.l.map aj),true⟩]
            rw [h5]
            generalize x 4=b9
            clear hx h5 x vs Ms
            repeat (first | refine JC.seq ?_ | refine JE.next ?_)
            let vs : Nat→Nat→Value:=fun j x=>match j with
              | 0=>.agg (r8.l.map aj).toArray
              | 1=>.agg (q8.l.map aj).toArray
              | 2=>.agg (jN.l.map aj).toArray
              | 3=>.agg (lG.l.map aj).toArray
              | _=>Pt x 0
            let Ms : Nat→Nat→List aG:=fun j x=>match j with
              | 4=>[⟨x,Row 118 (bG.l.map aj),true⟩]
              | 5=>[⟨x,Row 118 (lG.l.map aj),true⟩]
              | 6=>[⟨b9,Row 118 (r8.l.map aj),true⟩]
              | 7=>[⟨b8,Row 118 (ni.l.map aj),true⟩]
              | 8=>[⟨b7,Row 118 (jN.l.map aj),true⟩]
              | 9=>[⟨b6,Row 118 (o5.l.map aj),true⟩]
              | 10=>[⟨b5,Row 118 (elv.l.map aj),true⟩]
              | 11=>[⟨b4,Row 118 (nine.l.map aj),true⟩]
              | 12=>[⟨b3,Row 118 (two.l.map aj),true⟩]
              | 13=>[⟨b2,Row 118 (bG.l.map aj),true⟩]
              | 14=>[⟨b1,Row 118 (n.l.map aj),true⟩]
              | _=>[]
            refine JC.grow (g:=⟨[(9,Pt b9 0),(8,Pt b8 0),(7,Pt b7 0),(6,Pt b6 0),(5,Pt b5 0),(4,Pt b4 0),(1,Pt b1 0),(2,Pt b2 0),(3,Pt b3 0)],15,vs,Ms,(fun j=>match j with | 1=>[(0,39)] | 3=>[(1,40),(2,41)] | 5=>[(4,10),(3,42)] | _=>[]),(fun j=>match j with | 0=>[6] | 2=>[8] | 5=>[4] | _=>[]),(fun j=>match j with | 5=>[4] | _=>[]),(fun j=>match j with | 5=>some 4 | _=>none)⟩) [(4,10)] [5,6,7,8,9,10,11,12,13,14] eD (by repeat (first | exact ai.nil | refine ai.cons _ _ _ rfl ?_)) (aq.refl _) (by kernel_rfl) (by kernel_rfl) (by kernel_rfl) ?_ ?_
            · refine ⟨?_,?_,?_,?_,?_,?_,trivial⟩
              · (intro x EF MF Q kk;exact JL.q (OQ.af (cs:=r8.l.map aj) en bZ rfl .here rfl Row.all) rfl (JL.nil (kk default nofun)))
              · (intro x EF MF Q kk;exact JL.q (OQ.au (vs:=[.agg (r8.l.map aj).toArray,N 10]) cg rfl fun w' _=>c_q8 w') rfl (JL.nil (kk default nofun)))
              · (intro x EF MF Q kk;exact JL.q (OQ.af (cs:=jN.l.map aj) en bZ rfl .here rfl Row.all) rfl (JL.nil (kk default nofun)))
              · (intro x EF MF Q kk;exact JL.q (OQ.au (vs:=[.agg (q8.l.map aj).toArray,.agg (jN.l.map aj).toArray]) aO rfl fun w' _=>c_o50 w') rfl (JL.nil (kk default nofun)))
              · (intro x EF MF Q kk;exact JL.alloc mH rfl fun b _=>JL.nil (kk b nofun))
              · (intro x EF MF Q kk;exact JL.ag (cs:=lG.l.map aj) bZ rfl rfl rfl (bn _) .here rfl (JL.nil (kk (x 4) (fun k h=>by cases h;rfl))))
            · intro x hx
              have h5:=hx 5 4 (by decide) rfl
              show JE _ _ _ _ _ [(10,Pt (x 4) 0),(9,Pt b9 0),(8,Pt b8 0),(7,Pt b7 0),(6,Pt b6 0),(5,Pt b5 0),(4,Pt b4 0),(1,Pt b1 0),(2,Pt b2 0),(3,Pt b3 0)] [⟨(x 5),Row 118 (lG.l.map aj),true⟩,⟨b9,Row 118 (r8.l.map aj),true⟩,⟨b8,Row 118 (ni.l.map aj),true⟩,⟨b7,Row 118 (jN.l.map aj),true⟩,⟨b6,Row 118 (o5.l.map aj),true⟩,⟨b5,Row 118 (elv.l.map aj),true⟩,⟨b4,Row 118 (nine.l.map aj),true⟩,⟨b3,Row 118 (two.l.map aj),true⟩,⟨b2,Row 118 (bG.l.map aj),true⟩,⟨b1,Row 118 (n.l.map aj),true⟩]
              rw [h5]
              generalize x 4=b10
              clear hx h5 x vs Ms
              repeat (first | refine JC.seq ?_ | refine JE.next ?_)
              let vs : Nat→Nat→Value:=fun j x=>match j with
                | 0=>.agg (lG.l.map aj).toArray
                | 1=>.agg (q9.l.map aj).toArray
                | 2=>.agg (lG.l.map aj).toArray
                | 3=>.agg (gS.l.map aj).toArray
                | _=>Pt x 0
              let Ms : Nat→Nat→List aG:=fun j x=>match j with
                | 4=>[⟨x,Row 118 (bG.l.map aj),true⟩]
                | 5=>[⟨x,Row 118 (gS.l.map aj),true⟩]
                | 6=>[⟨b10,Row 118 (lG.l.map aj),true⟩]
                | 7=>[⟨b9,Row 118 (r8.l.map aj),true⟩]
                | 8=>[⟨b8,Row 118 (ni.l.map aj),true⟩]
                | 9=>[⟨b7,Row 118 (jN.l.map aj),true⟩]
                | 10=>[⟨b6,Row 118 (o5.l.map aj),true⟩]
                | 11=>[⟨b5,Row 118 (elv.l.map aj),true⟩]
                | 12=>[⟨b4,Row 118 (nine.l.map aj),true⟩]
                | 13=>[⟨b3,Row 118 (two.l.map aj),true⟩]
                | 14=>[⟨b2,Row 118 (bG.l.map aj),true⟩]
                | 15=>[⟨b1,Row 118 (n.l.map aj),true⟩]
                | _=>[]
              refine JC.grow (g:=⟨[(10,Pt b10 0),(9,Pt b9 0),(8,Pt b8 0),(7,Pt b7 0),(6,Pt b6 0),(5,Pt b5 0),(4,Pt b4 0),(1,Pt b1 0),(2,Pt b2 0),(3,Pt b3 0)],16,vs,Ms,(fun j=>match j with | 1=>[(0,43)] | 3=>[(1,44),(2,45)] | 5=>[(4,11),(3,46)] | _=>[]),(fun j=>match j with | 0=>[6] | 2=>[6] | 5=>[4] | _=>[]),(fun j=>match j with | 5=>[4] | _=>[]),(fun j=>match j with | 5=>some 4 | _=>none)⟩) [(4,11)] [5,6,7,8,9,10,11,12,13,14,15] eD (by repeat (first | exact ai.nil | refine ai.cons _ _ _ rfl ?_)) (aq.refl _) (by kernel_rfl) (by kernel_rfl) (by kernel_rfl) ?_ ?_
              · refine ⟨?_,?_,?_,?_,?_,?_,trivial⟩
                · (intro x EF MF Q kk;exact JL.q (OQ.af (cs:=lG.l.map aj) en bZ rfl .here rfl Row.all) rfl (JL.nil (kk default nofun)))
                · (intro x EF MF Q kk;exact JL.q (OQ.au (vs:=[.agg (lG.l.map aj).toArray,N 50]) cg rfl fun w' _=>c_q9 w') rfl (JL.nil (kk default nofun)))
                · (intro x EF MF Q kk;exact JL.q (OQ.af (cs:=lG.l.map aj) en bZ rfl .here rfl Row.all) rfl (JL.nil (kk default nofun)))
                · (intro x EF MF Q kk;exact JL.q (OQ.au (vs:=[.agg (q9.l.map aj).toArray,.agg (lG.l.map aj).toArray]) aO rfl fun w' _=>c_o100 w') rfl (JL.nil (kk default nofun)))
                · (intro x EF MF Q kk;exact JL.alloc mH rfl fun b _=>JL.nil (kk b nofun))
                · (intro x EF MF Q kk;exact JL.ag (cs:=gS.l.map aj) bZ rfl rfl rfl (bn _) .here rfl (JL.nil (kk (x 4) (fun k h=>by cases h;rfl))))
              · intro x hx
                have h5:=hx 5 4 (by decide) rfl
                show JE _ _ _ _ _ [(11,Pt (x 4) 0),(10,Pt b10 0),(9,Pt b9 0),(8,Pt b8 0),(7,Pt b7 0),(6,Pt b6 0),(5,Pt b5 0),(4,Pt b4 0),(1,Pt b1 0),(2,Pt b2 0),(3,Pt b3 0)] [⟨(x 5),Row 118 (gS.l.map aj),true⟩,⟨b10,Row 118 (lG.l.map aj),true⟩,⟨b9,Row 118 (r8.l.map aj),true⟩,⟨b8,Row 118 (ni.l.map aj),true⟩,⟨b7,Row 118 (jN.l.map aj),true⟩,⟨b6,Row 118 (o5.l.map aj),true⟩,⟨b5,Row 118 (elv.l.map aj),true⟩,⟨b4,Row 118 (nine.l.map aj),true⟩,⟨b3,Row 118 (two.l.map aj),true⟩,⟨b2,Row 118 (bG.l.map aj),true⟩,⟨b1,Row 118 (n.l.map aj),true⟩]
                rw [h5]
                generalize x 4=b11
                clear hx h5 x vs Ms
                repeat (first | refine JC.seq ?_ | refine JE.next ?_)
                let vs : Nat→Nat→Value:=fun j x=>match j with
                  | 0=>.agg (gS.l.map aj).toArray
                  | 1=>.agg (q10.l.map aj).toArray
                  | 2=>.agg (gS.l.map aj).toArray
                  | 3=>.agg (lH.l.map aj).toArray
                  | _=>Pt x 0
                let Ms : Nat→Nat→List aG:=fun j x=>match j with
                  | 4=>[⟨x,Row 118 (bG.l.map aj),true⟩]
                  | 5=>[⟨x,Row 118 (lH.l.map aj),true⟩]
                  | 6=>[⟨b11,Row 118 (gS.l.map aj),true⟩]
                  | 7=>[⟨b10,Row 118 (lG.l.map aj),true⟩]
                  | 8=>[⟨b9,Row 118 (r8.l.map aj),true⟩]
                  | 9=>[⟨b8,Row 118 (ni.l.map aj),true⟩]
                  | 10=>[⟨b7,Row 118 (jN.l.map aj),true⟩]
                  | 11=>[⟨b6,Row 118 (o5.l.map aj),true⟩]
                  | 12=>[⟨b5,Row 118 (elv.l.map aj),true⟩]
                  | 13=>[⟨b4,Row 118 (nine.l.map aj),true⟩]
                  | 14=>[⟨b3,Row 118 (two.l.map aj),true⟩]
                  | 15=>[⟨b2,Row 118 (bG.l.map aj),true⟩]
                  | 16=>[⟨b1,Row 118 (n.l.map aj),true⟩]
                  | _=>[]
                refine JC.grow (g:=⟨[(11,Pt b11 0),(10,Pt b10 0),(9,Pt b9 0),(8,Pt b8 0),(7,Pt b7 0),(6,Pt b6 0),(5,Pt b5 0),(4,Pt b4 0),(1,Pt b1 0),(2,Pt b2 0),(3,Pt b3 0)],17,vs,Ms,(fun j=>match j with | 1=>[(0,47)] | 3=>[(1,48),(2,49)] | 5=>[(4,12),(3,50)] | _=>[]),(fun j=>match j with | 0=>[6] | 2=>[6] | 5=>[4] | _=>[]),(fun j=>match j with | 5=>[4] | _=>[]),(fun j=>match j with | 5=>some 4 | _=>none)⟩) [(4,12)] [5,6,7,8,9,10,11,12,13,14,15,16] eD (by repeat (first | exact ai.nil | refine ai.cons _ _ _ rfl ?_)) (aq.refl _) (by kernel_rfl) (by kernel_rfl) (by kernel_rfl) ?_ ?_
                · refine ⟨?_,?_,?_,?_,?_,?_,trivial⟩
                  · (intro x EF MF Q kk;exact JL.q (OQ.af (cs:=gS.l.map aj) en bZ rfl .here rfl Row.all) rfl (JL.nil (kk default nofun)))
                  · (intro x EF MF Q kk;exact JL.q (OQ.au (vs:=[.agg (gS.l.map aj).toArray,N 100]) cg rfl fun w' _=>c_q10 w') rfl (JL.nil (kk default nofun)))
                  · (intro x EF MF Q kk;exact JL.q (OQ.af (cs:=gS.l.map aj) en bZ rfl .here rfl Row.all) rfl (JL.nil (kk default nofun)))
                  · (intro x EF MF Q kk;exact JL.q (OQ.au (vs:=[.agg (q10.l.map aj).toArray,.agg (gS.l.map aj).toArray]) aO rfl fun w' _=>c_o200 w') rfl (JL.nil (kk default nofun)))
                  · (intro x EF MF Q kk;exact JL.alloc mH rfl fun b _=>JL.nil (kk b nofun))
                  · (intro x EF MF Q kk;exact JL.ag (cs:=lH.l.map aj) bZ rfl rfl rfl (bn _) .here rfl (JL.nil (kk (x 4) (fun k h=>by cases h;rfl))))
                · intro x hx
                  have h5:=hx 5 4 (by decide) rfl
                  show JE _ _ _ _ _ [(12,Pt (x 4) 0),(11,Pt b11 0),(10,Pt b10 0),(9,Pt b9 0),(8,Pt b8 0),(7,Pt b7 0),(6,Pt b6 0),(5,Pt b5 0),(4,Pt b4 0),(1,Pt b1 0),(2,Pt b2 0),(3,Pt b3 0)] [⟨(x 5),Row 118 (lH.l.map aj),true⟩,⟨b11,Row 118 (gS.l.map aj),true⟩,⟨b10,Row 118 (lG.l.map aj),true⟩,⟨b9,Row 118 (r8.l.map aj),true⟩,⟨b8,Row 118 (ni.l.map aj),true⟩,⟨b7,Row 118 (jN.l.map aj),true⟩,⟨b6,Row 118 (o5.l.map aj),true⟩,⟨b5,Row 118 (elv.l.map aj),true⟩,⟨b4,Row 118 (nine.l.map aj),true⟩,⟨b3,Row 118 (two.l.map aj),true⟩,⟨b2,Row 118 (bG.l.map aj),true⟩,⟨b1,Row 118 (n.l.map aj),true⟩]
                  rw [h5]
                  generalize x 4=b12
                  clear hx h5 x vs Ms
                  repeat (first | refine JC.seq ?_ | refine JE.next ?_)
                  let vs : Nat→Nat→Value:=fun j x=>match j with
                    | 0=>.agg (lH.l.map aj).toArray
                    | 1=>.agg (q11.l.map aj).toArray
                    | 2=>.agg (lG.l.map aj).toArray
                    | 3=>.agg (oG.l.map aj).toArray
                    | _=>Pt x 0
                  let Ms : Nat→Nat→List aG:=fun j x=>match j with
                    | 4=>[⟨x,Row 118 (bG.l.map aj),true⟩]
                    | 5=>[⟨x,Row 118 (oG.l.map aj),true⟩]
                    | 6=>[⟨b12,Row 118 (lH.l.map aj),true⟩]
                    | 7=>[⟨b11,Row 118 (gS.l.map aj),true⟩]
                    | 8=>[⟨b10,Row 118 (lG.l.map aj),true⟩]
                    | 9=>[⟨b9,Row 118 (r8.l.map aj),true⟩]
                    | 10=>[⟨b8,Row 118 (ni.l.map aj),true⟩]
                    | 11=>[⟨b7,Row 118 (jN.l.map aj),true⟩]
                    | 12=>[⟨b6,Row 118 (o5.l.map aj),true⟩]
                    | 13=>[⟨b5,Row 118 (elv.l.map aj),true⟩]
                    | 14=>[⟨b4,Row 118 (nine.l.map aj),true⟩]
                    | 15=>[⟨b3,Row 118 (two.l.map aj),true⟩]
                    | 16=>[⟨b2,Row 118 (bG.l.map aj),true⟩]
                    | 17=>[⟨b1,Row 118 (n.l.map aj),true⟩]
                    | _=>[]
                  refine JC.grow (g:=⟨[(12,Pt b12 0),(11,Pt b11 0),(10,Pt b10 0),(9,Pt b9 0),(8,Pt b8 0),(7,Pt b7 0),(6,Pt b6 0),(5,Pt b5 0),(4,Pt b4 0),(1,Pt b1 0),(2,Pt b2 0),(3,Pt b3 0)],18,vs,Ms,(fun j=>match j with | 1=>[(0,51)] | 3=>[(1,52),(2,53)] | 5=>[(4,13),(3,54)] | _=>[]),(fun j=>match j with | 0=>[6] | 2=>[8] | 5=>[4] | _=>[]),(fun j=>match j with | 5=>[4] | _=>[]),(fun j=>match j with | 5=>some 4 | _=>none)⟩) [(4,13)] [5,6,7,8,9,10,11,12,13,14,15,16,17] eD (by repeat (first | exact ai.nil | refine ai.cons _ _ _ rfl ?_)) (aq.refl _) (by kernel_rfl) (by kernel_rfl) (by kernel_rfl) ?_ ?_
                  · refine ⟨?_,?_,?_,?_,?_,?_,trivial⟩
                    · (intro x EF MF Q kk;exact JL.q (OQ.af (cs:=lH.l.map aj) en bZ rfl .here rfl Row.all) rfl (JL.nil (kk default nofun)))
                    · (intro x EF MF Q kk;exact JL.q (OQ.au (vs:=[.agg (lH.l.map aj).toArray,N 50]) cg rfl fun w' _=>c_q11 w') rfl (JL.nil (kk default nofun)))
                    · (intro x EF MF Q kk;exact JL.q (OQ.af (cs:=lG.l.map aj) en bZ rfl .here rfl Row.all) rfl (JL.nil (kk default nofun)))
                    · (intro x EF MF Q kk;exact JL.q (OQ.au (vs:=[.agg (q11.l.map aj).toArray,.agg (lG.l.map aj).toArray]) aO rfl fun w' _=>c_o250 w') rfl (JL.nil (kk default nofun)))
                    · (intro x EF MF Q kk;exact JL.alloc mH rfl fun b _=>JL.nil (kk b nofun))
                    · (intro x EF MF Q kk;exact JL.ag (cs:=oG.l.map aj) bZ rfl rfl rfl (bn _) .here rfl (JL.nil (kk (x 4) (fun k h=>by cases h;rfl))))
                  · intro x hx
                    have h5:=hx 5 4 (by decide) rfl
                    show JE _ _ _ _ _ [(13,Pt (x 4) 0),(12,Pt b12 0),(11,Pt b11 0),(10,Pt b10 0),(9,Pt b9 0),(8,Pt b8 0),(7,Pt b7 0),(6,Pt b6 0),(5,Pt b5 0),(4,Pt b4 0),(1,Pt b1 0),(2,Pt b2 0),(3,Pt b3 0)] [⟨(x 5),Row 118 (oG.l.map aj),true⟩,⟨b12,Row 118 (lH.l.map aj),true⟩,⟨b11,Row 118 (gS.l.map aj),true⟩,⟨b10,Row 118 (lG.l.map aj),true⟩,⟨b9,Row 118 (r8.l.map aj),true⟩,⟨b8,Row 118 (ni.l.map aj),true⟩,⟨b7,Row 118 (jN.l.map aj),true⟩,⟨b6,Row 118 (o5.l.map aj),true⟩,⟨b5,Row 118 (elv.l.map aj),true⟩,⟨b4,Row 118 (nine.l.map aj),true⟩,⟨b3,Row 118 (two.l.map aj),true⟩,⟨b2,Row 118 (bG.l.map aj),true⟩,⟨b1,Row 118 (n.l.map aj),true⟩]
                    rw [h5]
                    generalize x 4=b13
                    clear hx h5 x vs Ms
                    repeat (first | refine JC.seq ?_ | refine JE.next ?_)
                    refine JC.tail 4 eD (by kernel_rfl) ?_
                    simp only [List.take_succ_cons,List.take_zero,List.drop_succ_cons,List.drop_zero]
                    repeat (first | refine JQ.q (by first|(apply OQ.af (cs:=oG.l.map aj);exact en;exact bZ;rfl;exact (by repeat (first | exact Has.here | apply Has.there));rfl;exact Row.all)|(apply OQ.af (cs:=elv.l.map aj);exact en;exact bZ;rfl;exact (by repeat (first | exact Has.here | apply Has.there));rfl;exact Row.all)|(apply OQ.au (vs:=[.agg (oG.l.map aj).toArray,N 5]);exact cg;rfl;exact (fun w' _=>c_q12 w'))|(apply OQ.au (vs:=[.agg (q12.l.map aj).toArray,.agg (elv.l.map aj).toArray]);exact aO;rfl;exact (fun w' _=>c_fin w'))) rfl ?_ | refine JQ.bC ?_)
                    refine JL.ag (cs:=fin.l.map aj) bZ rfl rfl rfl (bn _) (by repeat (first | exact eJ.here | apply eJ.there)) rfl ?_
                    repeat (first | refine JL.nil ?_ | refine JE.next ?_)
                    refine JC.ret (JE.aQ rfl (RV.av en bZ rfl (by repeat (first | exact Has.here | apply Has.there)) rfl Row.all) ?_)
                    exact fun w' hw=>⟨rfl,hw.aL⟩
end
section
set_option maxRecDepth 10000
open Sl dO
theorem Ej {l : List dM} {i : Nat} (h : i<l.length) : (l.map aj)[i]?=some (aj (l.getD i 0)):=by
  simp [h]
theorem Ek (l : List dM) (i : Nat) (x : dM) : (l.map aj).set i (aj x)=(l.set i x).map aj:=by rw [List.map_set]
theorem zk : aK Tryz.prog 102:=⟨_,Tryz.func102,rfl,by kernel_rfl⟩
theorem BX : aK Tryz.prog 80:=⟨_,Tryz.func80,rfl,by kernel_rfl⟩
theorem nj : aK Tryz.prog 95:=⟨_,Tryz.func95,rfl,by kernel_rfl⟩
theorem lJ : aK Tryz.prog 76:=⟨_,Tryz.func76,rfl,by kernel_rfl⟩
set_option maxHeartbeats 16000000 in
theorem BY (n : N5) (w : World) : Calls Tryz.prog 102 [.agg (n.l.map aj).toArray].toArray w fun e w'=>e=.returned (.agg ((vm n).l.map aj).toArray)∧Ext w w':=by
  have eL:=FX n
  have hll : ∀ c i,(EZ n.l c i).length=5:=fun c i=>Ay n.l c i
  refine enter (n:=36) Tryz.func102 rfl rfl rfl (ah.start w []) ?_
  repeat (first | refine JC.seq ?_ | refine JC.region ?_)
  refine JL.box (r:=n.l.map aj) rfl rfl rfl fun b1 _=>?_
  refine JL.alloc mH rfl fun b2 _=>?_
  repeat (first | refine JL.q (by first|(apply OQ.af (cs:=n.l.map aj);exact en;exact bZ;rfl;exact (.there .here);rfl;exact Row.all)|(apply OQ.move;rfl)|(apply OQ.assign;rfl)) rfl ?_ | refine JC.seq ?_ | refine JC.region ?_ | refine JC.block ?_ | refine JL.nil ?_ | refine JE.next ?_)
  refine JC.loop (fun i : Nat=>[(1,Pt b1 0),(2,Pt b2 0),(3,aj (ir n.l 19#64 i)),(9,.agg (n.l.map aj).toArray),(10,N i)])
    (fun _=>[⟨b2,Row 118 (bG.l.map aj),true⟩,⟨b1,Row 118 (n.l.map aj),true⟩])
    (fun i=>5 - i) (fun i=>i≤5) 0 (by omega) (by repeat (first | exact ai.nil | refine ai.cons _ _ _ rfl ?_)) (aq.refl _) ?_
  intro i hi
  repeat (first | refine JL.q (by (apply OQ.bJ;rfl;rfl)) rfl ?_ | refine JC.seq ?_ | refine JC.region ?_ | refine JL.nil ?_ | refine JE.next ?_)
  refine JC.cond rfl (fun h=>?_) (fun h=>?_)
  · have hi' : i<5:=of_decide_eq_true h
    clear h hi
    have hc : (n.l.map aj)[i]?=some (aj (n.l.getD i 0)):=Ej hi'
    have eR : ir n.l 19#64 (i+1)=(n.l.getD i 0+ir n.l 19#64 i) >>> 51:=rfl
    generalize n.l.getD i 0=y at hc eR
    repeat (first | refine JL.q (by first|(apply OQ.index;exact Tryz.underlying118;exact xj;exact fS;rfl;rfl;exact hi';exact hc)|(apply OQ.move;rfl)|(apply OQ.assign;rfl)|(apply OQ.n8;rfl;rfl)|(apply OQ.jx;rfl;rfl)|(apply OQ.aY;rfl;rfl;exact (by (try simp only []);omega))) rfl ?_ | refine JC.seq ?_ | refine JC.region ?_ | refine JC.block ?_ | refine JC.skip ?_ | refine JL.nil ?_ | refine JE.next ?_ | refine JE.an ?_)
    refine JE.again (i:=i) (i+1) (by omega) (by omega) ?_ (aq.refl _)
    rw [eR]
    exact (by repeat (first | exact ai.nil | refine ai.cons _ _ _ rfl ?_))
  · have hi' : ¬ i<5:=of_decide_eq_false h
    obtain rfl : i=5:=by omega
    clear h hi hi'
    generalize ir n.l 19#64 5=ov at eL ⊢
    repeat (first | refine JL.q (by first|(apply OQ.af (cs:=n.l.map aj);exact en;exact bZ;rfl;exact (.there .here);rfl;exact Row.all)|(apply OQ.pV (a:=19#64);rfl;rfl)|(apply OQ.move;rfl)|(apply OQ.assign;rfl)) rfl ?_ | refine JC.seq ?_ | refine JC.region ?_ | refine JC.block ?_ | refine JC.exit ?_ | refine JL.nil ?_ | refine JE.next ?_ | refine JE.ax ?_ | refine JE.aA ?_)
    generalize 19#64 * ov=C at eL ⊢
    refine JC.loop (fun i : Nat=>[(1,Pt b1 0),(2,Pt b2 0),(6,aj (ir n.l C i)),(20,.agg (n.l.map aj).toArray),(21,N i)])
      (fun i=>[⟨b2,Row 118 (bG.l.map aj),true⟩,⟨b1,Row 118 ((EZ n.l C i).map aj),true⟩])
      (fun i=>5 - i) (fun i=>i≤5) 0 (by omega) (by repeat (first | exact ai.nil | refine ai.cons _ _ _ rfl ?_)) (aq.refl _) ?_
    intro i hi
    repeat (first | refine JL.q (by (apply OQ.bJ;rfl;rfl)) rfl ?_ | refine JC.seq ?_ | refine JC.region ?_ | refine JL.nil ?_ | refine JE.next ?_)
    refine JC.cond rfl (fun h=>?_) (fun h=>?_)
    · have hi' : i<5:=of_decide_eq_true h
      clear h hi
      have hc : (n.l.map aj)[i]?=some (aj (n.l.getD i 0)):=Ej hi'
      have eR : ir n.l C (i+1)=(n.l.getD i 0+ir n.l C i) >>> 51:=rfl
      have eS : EZ n.l C (i+1)=(EZ n.l C i).set i ((n.l.getD i 0+ir n.l C i) &&& 2251799813685247#64):=rfl
      have hlen:=hll C i
      generalize EZ n.l C i=X at eS hlen ⊢
      generalize n.l.getD i 0=y at hc eR eS
      repeat (first | refine JL.q (by first|(apply OQ.index;exact Tryz.underlying118;exact xj;exact fS;rfl;rfl;exact hi';exact hc)|(apply OQ.mY (b:=2251799813685247#64);rfl;rfl)|(apply OQ.aD;exact Tryz.underlying118;exact xj;rfl;rfl;exact hi')|(apply OQ.move;rfl)|(apply OQ.assign;rfl)|(apply OQ.n8;rfl;rfl)|(apply OQ.jx;rfl;rfl)) rfl ?_ | refine JC.seq ?_ | refine JC.region ?_ | refine JC.block ?_ | refine JC.skip ?_ | refine JL.nil ?_ | refine JE.next ?_)
      refine JL.az (r':=(EZ n.l C (i+1)).map aj) xj rfl rfl rfl rfl (.there .here) (by rw [List.length_map,hlen];exact hi') (by rw [eS];exact Ek _ _ _) ?_
      repeat (first | refine JL.q (by first|(apply OQ.move;rfl)|(apply OQ.assign;rfl)|(apply OQ.aY;rfl;rfl;exact (by (try simp only []);omega))) rfl ?_ | refine JC.region ?_ | refine JL.nil ?_ | refine JE.next ?_ | refine JE.an ?_)
      refine JE.again (i:=i) (i+1) (by omega) (by omega) ?_ (aq.refl _)
      rw [eR]
      exact (by repeat (first | exact ai.nil | refine ai.cons _ _ _ rfl ?_))
    · have hi' : ¬ i<5:=of_decide_eq_false h
      obtain rfl : i=5:=by omega
      clear h hi hi'
      rw [eL]
      generalize vm n=X
      repeat (first | refine JL.q (by (apply OQ.af (cs:=X.l.map aj);exact en;exact bZ;rfl;exact (.there .here);rfl;exact Row.all)) rfl ?_ | refine JC.seq ?_ | refine JC.region ?_ | refine JC.exit ?_ | refine JE.next ?_ | refine JE.ax ?_ | refine JE.aA ?_)
      refine JL.ag (cs:=X.l.map aj) bZ rfl rfl rfl (bn _) .here rfl ?_
      repeat (first | refine JL.nil ?_ | refine JE.next ?_)
      refine JC.ret (JE.aQ rfl (RV.av en bZ rfl .here rfl Row.all) ?_)
      exact fun w' hw=>⟨rfl,hw.aL⟩
theorem M9 : dJ Tryz.prog 154=some 4:=by kernel_rfl
theorem Na : zc Tryz.prog 154=some (([0,0,0,0] : List dM).map aj):=by kernel_rfl
set_option maxHeartbeats 16000000 in
theorem El (n : N5) (w : World) : Calls Tryz.prog 80 [.agg (n.l.map aj).toArray].toArray w fun e w'=>e=.returned (.agg ((Ju n).map U8).toArray)∧Ext w w':=by
  have cl:=BY n
  have eK : Ju n=Az (xb (vm n)) 32:=rfl
  rw [eK]
  clear eK
  generalize vm n=m at cl ⊢
  have c0 : (m.l.map aj)[0]?=some (aj m.a0):=rfl
  have c1 : (m.l.map aj)[1]?=some (aj m.a1):=rfl
  have c2 : (m.l.map aj)[2]?=some (aj m.a2):=rfl
  have c3 : (m.l.map aj)[3]?=some (aj m.a3):=rfl
  have c4 : (m.l.map aj)[4]?=some (aj m.a4):=rfl
  refine enter (n:=52) Tryz.func80 rfl rfl rfl (ah.start w []) ?_
  repeat (first | refine JC.seq ?_ | refine JC.region ?_)
  refine JL.box (r:=n.l.map aj) rfl rfl rfl fun b1 _=>?_
  refine JL.alloc gR rfl fun b2 _=>?_
  repeat (first | refine JL.q (by first|(apply OQ.af (cs:=n.l.map aj);exact en;exact bZ;rfl;exact (.there .here);rfl;exact Row.all)|(apply OQ.au;exact zk;rfl;exact (fun w' _=>cl w'))) rfl ?_ | refine JC.seq ?_ | refine JC.region ?_ | refine JL.nil ?_ | refine JE.next ?_)
  refine JL.ag (cs:=m.l.map aj) bZ rfl rfl rfl (bn _) (.there .here) rfl ?_
  repeat (first | refine JL.q (by first|(apply OQ.aD;exact Tryz.underlying118;exact xj;rfl;rfl;exact (by decide))|(apply OQ.load;exact fS;rfl;exact (.there .here);exact (Row.cell c0))|(apply OQ.load;exact fS;rfl;exact (.there .here);exact (Row.cell c1))|(apply OQ.load;exact fS;rfl;exact (.there .here);exact (Row.cell c2))|(apply OQ.load;exact fS;rfl;exact (.there .here);exact (Row.cell c3))|(apply OQ.load;exact fS;rfl;exact (.there .here);exact (Row.cell c4))|(apply OQ.tF;rfl;rfl)|(apply OQ.A3;rfl;rfl)|(apply OQ.jx;rfl;rfl)) rfl ?_ | refine JC.seq ?_ | refine JC.region ?_ | refine JL.nil ?_ | refine JE.next ?_)
  refine JL.q (OQ.pure (v:=.agg ((xb m).map aj).toArray) rfl rfl (by kernel_rfl)) rfl ?_
  refine JL.alloc Na rfl fun b3 _=>?_
  refine JL.ag (cs:=(xb m).map aj) M9 rfl rfl rfl (bn _) .here rfl ?_
  have hw4 : (xb m).length=4:=rfl
  generalize xb m=W at hw4 ⊢
  repeat (first | refine JC.seq ?_ | refine JC.region ?_ | refine JL.nil ?_ | refine JE.next ?_)
  refine JL.alloc gR rfl fun b4 _=>?_
  repeat (first | refine JL.q (by (apply OQ.move;rfl)) rfl ?_ | refine JC.seq ?_ | refine JC.region ?_ | refine JC.block ?_ | refine JL.nil ?_ | refine JE.next ?_)
  refine JC.loop (fun i : Nat=>[(1,Pt b1 0),(2,Pt b2 0),(3,Pt b3 0),(4,Pt b4 0),(36,N i)])
    (fun i=>[⟨b4,Row 23 ((Az W i).map U8),true⟩,⟨b3,Row 154 (W.map aj),true⟩,⟨b2,Row 23 ((List.replicate 32 (0 : By)).map U8),true⟩])
    (fun i=>32 - i) (fun i=>i≤32) 0 (by omega) (by repeat (first | exact ai.nil | refine ai.cons _ _ _ rfl ?_)) (.keep _ _ _ _ _ _ (fun _ h=>h) (.keep _ _ _ _ _ _ (fun _ h=>h) (.keep _ _ _ _ _ _ (fun _ h=>h) (.nil _)))) ?_
  intro i hi
  have hlen:=AB W i
  repeat (first | refine JL.q (by (apply OQ.bJ;rfl;rfl)) rfl ?_ | refine JC.seq ?_ | refine JC.region ?_ | refine JL.nil ?_ | refine JE.next ?_)
  refine JC.cond rfl (fun h=>?_) (fun h=>?_)
  · have hi' : i<32:=of_decide_eq_true h
    clear h hi
    have hc:=Ej (l:=W) (i:=i / 8) (by omega)
    have eS : Az W (i+1)=(Az W i).set i ((W.getD (i / 8) 0 >>> (i % 8 * 8)).setWidth 8):=rfl
    generalize Az W i=X at eS hlen ⊢
    repeat (first | refine JL.q (by first|(apply OQ.aD;exact Tryz.underlying154;exact xj;rfl;rfl;exact (by (try simp only []);omega))|(apply OQ.load;exact fS;rfl;exact (.there .here);exact (Row.cell hc))|(apply OQ.aD;exact Tryz.underlying23;exact vS;rfl;rfl;exact hi')|(apply OQ.move;rfl)|(apply OQ.assign;rfl)|(apply OQ.jx;rfl;rfl)|(apply OQ.iB;rfl;rfl;exact (by (try simp only []);omega))|(apply OQ.AZ;rfl;rfl;exact (by (try simp only []);omega))|(apply OQ.CE;rfl;rfl;exact (by (try simp only []);omega);exact (by (try simp only []);omega))|(apply OQ.ld;rfl;rfl;rfl)) rfl ?_ | refine JC.seq ?_ | refine JC.region ?_ | refine JC.block ?_ | refine JC.skip ?_ | refine JL.nil ?_ | refine JE.next ?_)
    refine JL.az (r':=(Az W (i+1)).map U8) vS rfl rfl rfl rfl .here (by rw [List.length_map,hlen];exact hi') (by rw [eS];exact rU _ _ _) ?_
    repeat (first | refine JL.q (by first|(apply OQ.move;rfl)|(apply OQ.aY;rfl;rfl;exact (by (try simp only []);omega))) rfl ?_ | refine JC.region ?_ | refine JL.nil ?_ | refine JE.next ?_ | refine JE.an ?_)
    exact JE.again (i:=i) (i+1) (by omega) (by omega) (by repeat (first | exact ai.nil | refine ai.cons _ _ _ rfl ?_)) (aq.refl _)
  · have hi' : ¬ i<32:=of_decide_eq_false h
    obtain rfl : i=32:=by omega
    clear h hi hi'
    have hl' : ((Az W 32).map U8).length=32:=by rw [List.length_map,hlen]
    generalize Az W 32=X at hl' ⊢
    repeat (first | refine JL.q (by (apply OQ.af (cs:=X.map U8);exact aP;exact aB;rfl;exact .here;exact hl';exact Row.all)) rfl ?_ | refine JC.seq ?_ | refine JC.region ?_ | refine JC.exit ?_ | refine JE.next ?_ | refine JE.ax ?_ | refine JE.aA ?_)
    refine JL.ag (cs:=X.map U8) aB rfl rfl hl' (aV _) (.there (.there .here)) (by simp) ?_
    repeat (first | refine JL.nil ?_ | refine JE.next ?_)
    refine JC.ret (JE.aQ rfl (RV.av aP aB rfl (.there (.there .here)) hl' Row.all) ?_)
    exact fun w' hw=>⟨rfl,hw.aL⟩
set_option maxHeartbeats 16000000 in
theorem oJ (c : Bool) (a b : N5) (w : World) : Calls Tryz.prog 95 [.agg (a.l.map aj).toArray,.agg (b.l.map aj).toArray,U8 (bt c)].toArray w
    fun e w'=>e=.returned (.tuple #[.agg ((if c then b else a).l.map aj).toArray,.agg ((if c then a else b).l.map aj).toArray])∧Ext w w':=by
  have hm:=F5 c
  have hab : a.l.length=b.l.length:=rfl
  have eX : iU c a.l b.l 5=(if c then b else a).l:=by cases c <;> rfl
  have eY : iU c b.l a.l 5=(if c then a else b).l:=by cases c <;> rfl
  have z1 : iU c a.l b.l 0=a.l:=by cases c <;> rfl
  have z2 : iU c b.l a.l 0=b.l:=by cases c <;> rfl
  have lX : ∀ i,(iU c a.l b.l i).length=5:=fun i=>xe c hab i
  have lY : ∀ i,(iU c b.l a.l i).length=5:=fun i=>xe c hab.symm i
  have gX : ∀ i,i<5→((iU c a.l b.l i).map aj)[i]?=some (aj (a.l.getD i 0)):=fun i hi=>by rw [List.getElem?_map,xg c hab hi];rfl
  have gY : ∀ i,i<5→((iU c b.l a.l i).map aj)[i]?=some (aj (b.l.getD i 0)):=fun i hi=>by rw [List.getElem?_map,xg c hab.symm hi];rfl
  have sX : ∀ i,i<5→(iU c a.l b.l i).set i (a.l.getD i 0 ^^^ (BU c &&& (a.l.getD i 0 ^^^ b.l.getD i 0)))=iU c a.l b.l (i+1):=fun i hi=>xh c hab hi (Ee c _ _)
  have sY : ∀ i,i<5→(iU c b.l a.l i).set i (b.l.getD i 0 ^^^ (BU c &&& (a.l.getD i 0 ^^^ b.l.getD i 0)))=iU c b.l a.l (i+1):=fun i hi=>xh c hab.symm hi (IS c _ _)
  generalize (if c then b else a).l=A at eX ⊢
  generalize (if c then a else b).l=B at eY ⊢
  refine enter (n:=41) Tryz.func95 rfl rfl rfl (ah.start w []) ?_
  repeat (first | refine JC.seq ?_ | refine JC.region ?_)
  refine JL.box (r:=a.l.map aj) rfl rfl rfl fun b3 _=>?_
  refine JL.box (r:=b.l.map aj) rfl rfl rfl fun b4 _=>?_
  refine JL.alloc mH rfl fun b6 _=>?_
  refine JL.alloc mH rfl fun b7 _=>?_
  repeat (first | refine JL.q (by first|(apply OQ.qU;rfl;rfl;rfl)|(apply OQ.JT;rfl)|(apply OQ.move;rfl)|(apply OQ.assign;rfl)) rfl ?_ | refine JC.seq ?_ | refine JC.region ?_ | refine JC.block ?_ | refine JL.nil ?_ | refine JE.next ?_)
  rw [hm]
  refine JC.loop (fun i : Nat=>[(3,Pt b3 0),(4,Pt b4 0),(6,Pt b6 0),(7,Pt b7 0),(8,aj (BU c)),(14,N i)])
    (fun i=>[⟨b7,Row 118 (bG.l.map aj),true⟩,⟨b6,Row 118 (bG.l.map aj),true⟩,⟨b4,Row 118 ((iU c b.l a.l i).map aj),true⟩,⟨b3,Row 118 ((iU c a.l b.l i).map aj),true⟩])
    (fun i=>5 - i) (fun i=>i≤5) 0 (by omega) (by repeat (first | exact ai.nil | refine ai.cons _ _ _ rfl ?_)) (.keep _ _ _ _ _ _ (fun _ h=>h) (.keep _ _ _ _ _ _ (fun _ h=>h) (.keep _ _ _ _ _ _ (fun _ h=>by rw [z2];exact h) (.keep _ _ _ _ _ _ (fun _ h=>by rw [z1];exact h) (.nil _))))) ?_
  intro i hi
  repeat (first | refine JL.q (by (apply OQ.bJ;rfl;rfl)) rfl ?_ | refine JC.seq ?_ | refine JC.region ?_ | refine JL.nil ?_ | refine JE.next ?_)
  refine JC.cond rfl (fun h=>?_) (fun h=>?_)
  · have hi' : i<5:=of_decide_eq_true h
    clear h hi eX eY z1 z2
    have hX:=gX i hi'
    have hY:=gY i hi'
    have tX:=sX i hi'
    have tY:=sY i hi'
    have kX:=lX i
    have kY:=lY i
    clear gX gY sX sY lX lY
    generalize iU c a.l b.l i=X at hX tX kX ⊢
    generalize iU c b.l a.l i=Y at hY tY kY ⊢
    generalize a.l.getD i 0=x at hX tX tY
    generalize b.l.getD i 0=y at hY tX tY
    repeat (first | refine JL.q (by first|(apply OQ.move;rfl)|(apply OQ.assign;rfl)) rfl ?_ | refine JC.seq ?_ | refine JC.region ?_ | refine JC.block ?_ | refine JC.skip ?_ | refine JL.nil ?_ | refine JE.next ?_)
    refine JC.quiet eD (by kernel_rfl) ?_
    repeat (first | refine JL.q (by first|(apply OQ.aD;exact Tryz.underlying118;exact xj;rfl;rfl;exact hi')|(apply OQ.load;exact fS;rfl;exact (by repeat (first | exact Has.here | apply Has.there));exact (Row.cell hX))|(apply OQ.load;exact fS;rfl;exact (by repeat (first | exact Has.here | apply Has.there));exact (Row.cell hY))|(apply OQ.CV;rfl;rfl)|(apply OQ.mY;rfl;rfl)|(apply OQ.move;rfl)|(apply OQ.assign;rfl)) rfl ?_ | refine JQ.q (by first|(apply OQ.aD;exact Tryz.underlying118;exact xj;rfl;rfl;exact hi')|(apply OQ.load;exact fS;rfl;exact (by repeat (first | exact Has.here | apply Has.there));exact (Row.cell hX))|(apply OQ.load;exact fS;rfl;exact (by repeat (first | exact Has.here | apply Has.there));exact (Row.cell hY))|(apply OQ.CV;rfl;rfl)|(apply OQ.mY;rfl;rfl)|(apply OQ.move;rfl)|(apply OQ.assign;rfl)) rfl ?_ | refine JC.seq ?_ | refine JC.region ?_ | refine JQ.nil ?_ | refine JE.next ?_)
    refine JL.az (r':=(iU c a.l b.l (i+1)).map aj) xj rfl rfl rfl rfl (by repeat (first | exact eJ.here | apply eJ.there)) (by rw [List.length_map,kX];exact hi') (by rw [← tX];exact Ek _ _ _) ?_
    repeat (first | refine JL.q (by first|(apply OQ.aD;exact Tryz.underlying118;exact xj;rfl;rfl;exact hi')|(apply OQ.load;exact fS;rfl;exact (by repeat (first | exact Has.here | apply Has.there));exact (Row.cell hY))|(apply OQ.CV;rfl;rfl)|(apply OQ.move;rfl)) rfl ?_ | refine JC.region ?_ | refine JL.nil ?_ | refine JE.next ?_)
    refine JL.az (r':=(iU c b.l a.l (i+1)).map aj) xj rfl rfl rfl rfl (by repeat (first | exact eJ.here | apply eJ.there)) (by rw [List.length_map,kY];exact hi') (by rw [← tY];exact Ek _ _ _) ?_
    repeat (first | refine JL.q (by first|(apply OQ.move;rfl)|(apply OQ.aY;rfl;rfl;exact (by (try simp only []);omega))) rfl ?_ | refine JC.region ?_ | refine JL.nil ?_ | refine JE.next ?_ | refine JE.an ?_)
    exact JE.again (i:=i) (i+1) (by omega) (by omega) (by repeat (first | exact ai.nil | refine ai.cons _ _ _ rfl ?_)) (aq.refl _)
  · have hi' : ¬ i<5:=of_decide_eq_false h
    obtain rfl : i=5:=by omega
    clear h hi hi'
    have hX:=lX 5
    have hY:=lY 5
    clear gX gY sX sY lX lY
    rw [eX] at hX ⊢
    rw [eY] at hY ⊢
    generalize A=X at *
    generalize B=Y at *
    repeat (first | refine JC.seq ?_ | refine JC.exit ?_ | refine JE.next ?_ | refine JE.ax ?_ | refine JE.aA ?_)
    let vs : Nat→Nat→Value:=fun j x=>match j with
      | 0=>.agg (X.map aj).toArray
      | 1=>.agg (Y.map aj).toArray
      | _=>Pt x 0
    let Ms : Nat→Nat→List aG:=fun j x=>match j with
      | 2=>[⟨b6,Row 118 (X.map aj),true⟩]
      | 3=>[⟨b7,Row 118 (Y.map aj),true⟩]
      | 4=>[⟨b7,Row 118 (bG.l.map aj),true⟩]
      | 5=>[⟨b6,Row 118 (bG.l.map aj),true⟩]
      | 6=>[⟨b4,Row 118 (Y.map aj),true⟩]
      | 7=>[⟨b3,Row 118 (X.map aj),true⟩]
      | _=>[]
    refine JC.grow (g:=⟨[(3,Pt b3 0),(4,Pt b4 0),(6,Pt b6 0),(7,Pt b7 0)],8,vs,Ms,(fun j=>match j with | 2=>[(0,39)] | 3=>[(1,40)] | _=>[]),(fun j=>match j with | 0=>[7] | 1=>[6] | 2=>[5] | 3=>[4] | _=>[]),(fun j=>match j with | 2=>[5] | 3=>[4] | _=>[]),(fun j=>match j with | _=>none)⟩) [] [2,3,6,7] eD (by repeat (first | exact ai.nil | refine ai.cons _ _ _ rfl ?_)) (aq.refl _) (by kernel_rfl) (by kernel_rfl) (by kernel_rfl) ?_ ?_
    · refine ⟨?_,?_,?_,?_,trivial⟩
      · (intro x EF MF Q kk;exact JL.q (OQ.af (cs:=X.map aj) en bZ rfl .here (by rw [List.length_map];exact hX) Row.all) rfl (JL.nil (kk default nofun)))
      · (intro x EF MF Q kk;exact JL.q (OQ.af (cs:=Y.map aj) en bZ rfl .here (by rw [List.length_map];exact hY) Row.all) rfl (JL.nil (kk default nofun)))
      · (intro x EF MF Q kk;exact JL.ag (cs:=X.map aj) bZ rfl rfl (by rw [List.length_map];exact hX) (bn _) .here rfl (JL.nil (kk default nofun)))
      · (intro x EF MF Q kk;exact JL.ag (cs:=Y.map aj) bZ rfl rfl (by rw [List.length_map];exact hY) (bn _) .here rfl (JL.nil (kk default nofun)))
    · intro x hx
      show JE _ _ _ _ _ [(3,Pt b3 0),(4,Pt b4 0),(6,Pt b6 0),(7,Pt b7 0)] [⟨b6,Row 118 (X.map aj),true⟩,⟨b7,Row 118 (Y.map aj),true⟩,⟨b4,Row 118 (Y.map aj),true⟩,⟨b3,Row 118 (X.map aj),true⟩]
      clear hx x vs Ms
      have kX : (X.map aj).length=5:=by rw [List.length_map];exact hX
      have kY : (Y.map aj).length=5:=by rw [List.length_map];exact hY
      refine JE.next ?_
      refine JC.ret ?_
      refine JE.gp rfl (RV.av en bZ rfl (by repeat (first | exact Has.here | apply Has.there)) kX Row.all) (RV.av en bZ rfl (by repeat (first | exact Has.here | apply Has.there)) kY Row.all) ?_
      exact fun w' hw=>⟨rfl,hw.aL⟩
end
section
set_option maxRecDepth 10000
open Sl dO
def lN : L5:=⟨bG,bG,bG,bG⟩
theorem xu : dJ Tryz.prog 121=some 20:=by kernel_rfl
theorem F8 : gm Tryz.prog 121=true:=by kernel_rfl
theorem I0 : zc Tryz.prog 121=some (lN.l.map aj):=by kernel_rfl
theorem vv : aK Tryz.prog 77:=⟨_,Tryz.func77,rfl,by kernel_rfl⟩
set_option maxHeartbeats 16000000 in
theorem nq (c : Bool) (s : L5) (w : World) : Calls Tryz.prog 76 [.agg (s.l.map aj).toArray,U8 (bt c)].toArray w fun e w'=>e=.returned (.agg ((Eb c s).l.map aj).toArray)∧Ext w w':=by
  obtain ⟨x2,z2,x3,z3⟩:=s
  have cx:=oJ c x2 x3
  have cz:=oJ c z2 z3
  have e : Eb c ⟨x2,z2,x3,z3⟩=⟨if c then x3 else x2,if c then z3 else z2,if c then x2 else x3,if c then z2 else z3⟩:=by cases c <;> rfl
  rw [e]
  clear e
  generalize (if c then x3 else x2)=X2 at cx ⊢
  generalize (if c then x2 else x3)=X3 at cx ⊢
  generalize (if c then z3 else z2)=Z2 at cz ⊢
  generalize (if c then z2 else z3)=Z3 at cz ⊢
  refine enter (n:=28) Tryz.func76 rfl rfl rfl (ah.start w []) ?_
  repeat (first | refine JC.seq ?_ | refine JC.region ?_)
  refine JL.box (r:=(x2.l++z2.l++x3.l++z3.l).map aj) rfl rfl rfl fun b2 _=>?_
  refine JL.alloc I0 rfl fun b4 _=>?_
  repeat (first | refine JL.q (by first|(apply OQ.af (cs:=x2.l.map aj);exact en;exact bZ;rfl;exact (.there .here);rfl;exact (Row.cells rfl))|(apply OQ.af (cs:=x3.l.map aj);exact en;exact bZ;rfl;exact (.there .here);rfl;exact (Row.cells rfl))|(apply OQ.au (vs:=[.agg (x2.l.map aj).toArray,.agg (x3.l.map aj).toArray,U8 (bt c)]);exact nj;rfl;exact (fun w' _=>cx w'))|(apply OQ.extract;rfl;rfl)|(apply OQ.move;rfl)|(apply OQ.bM;rfl;rfl;rfl;exact (by decide);rfl)) rfl ?_ | refine JC.seq ?_ | refine JC.region ?_ | refine JL.nil ?_ | refine JE.next ?_)
  refine JL.aW (cs:=X2.l.map aj) (r':=(X2.l++z2.l++x3.l++z3.l).map aj) bZ rfl rfl rfl (bn _) (.there .here) (Nat.le_of_ble_eq_true rfl) rfl ?_
  repeat (refine JL.q (by (apply OQ.bM;rfl;rfl;rfl;exact (by decide);rfl)) rfl ?_)
  refine JL.aW (cs:=X3.l.map aj) (r':=(X2.l++z2.l++X3.l++z3.l).map aj) bZ rfl rfl rfl (bn _) (.there .here) (Nat.le_of_ble_eq_true rfl) rfl ?_
  repeat (first | refine JL.q (by first|(apply OQ.af (cs:=z2.l.map aj);exact en;exact bZ;rfl;exact (.there .here);rfl;exact (Row.cells rfl))|(apply OQ.af (cs:=z3.l.map aj);exact en;exact bZ;rfl;exact (.there .here);rfl;exact (Row.cells rfl))|(apply OQ.au (vs:=[.agg (z2.l.map aj).toArray,.agg (z3.l.map aj).toArray,U8 (bt c)]);exact nj;rfl;exact (fun w' _=>cz w'))|(apply OQ.extract;rfl;rfl)|(apply OQ.move;rfl)|(apply OQ.bM;rfl;rfl;rfl;exact (by decide);rfl)) rfl ?_ | refine JC.seq ?_ | refine JC.region ?_ | refine JL.nil ?_ | refine JE.next ?_)
  refine JL.aW (cs:=Z2.l.map aj) (r':=(X2.l++Z2.l++X3.l++z3.l).map aj) bZ rfl rfl rfl (bn _) (.there .here) (Nat.le_of_ble_eq_true rfl) rfl ?_
  repeat (refine JL.q (by (apply OQ.bM;rfl;rfl;rfl;exact (by decide);rfl)) rfl ?_)
  refine JL.aW (cs:=Z3.l.map aj) (r':=(X2.l++Z2.l++X3.l++Z3.l).map aj) bZ rfl rfl rfl (bn _) (.there .here) (Nat.le_of_ble_eq_true rfl) rfl ?_
  repeat (first | refine JL.q (by (apply OQ.af (cs:=(X2.l++Z2.l++X3.l++Z3.l).map aj);exact F8;exact xu;rfl;exact (.there .here);rfl;exact Row.all)) rfl ?_ | refine JC.seq ?_ | refine JC.region ?_ | refine JL.nil ?_ | refine JE.next ?_)
  refine JL.ag (cs:=(X2.l++Z2.l++X3.l++Z3.l).map aj) xu rfl rfl rfl (bn _) .here rfl ?_
  repeat (first | refine JL.nil ?_ | refine JE.next ?_)
  refine JC.ret (JE.aQ rfl (RV.av F8 xu rfl .here rfl Row.all) ?_)
  exact fun w' hw=>⟨rfl,hw.aL⟩
set_option maxHeartbeats 64000000 in
set_option maxRecDepth 4000 in
theorem xw (x1 : N5) (s : L5) (w : World) : Calls Tryz.prog 77 [.agg (s.l.map aj).toArray,.agg (x1.l.map aj).toArray].toArray w fun e w'=>e=.returned (.agg ((vo x1 s).l.map aj).toArray)∧Ext w w':=by
  obtain ⟨X2,Z2,X3,Z3⟩:=s
  have c_A:=qI X2 Z2
  generalize h_A : pI X2 Z2=A at c_A
  have c_B:=gi X2 Z2
  generalize h_B : nN X2 Z2=B at c_B
  have c_C:=qI X3 Z3
  generalize h_C : pI X3 Z3=C at c_C
  have c_D:=gi X3 Z3
  generalize h_D : nN X3 Z3=D at c_D
  have c_AA:=aT A A
  generalize h_AA : cI A A=AA at c_AA
  have c_BB:=aT B B
  generalize h_BB : cI B B=BB at c_BB
  have c_DA:=aT D A
  generalize h_DA : cI D A=DA at c_DA
  have c_CB:=aT C B
  generalize h_CB : cI C B=CB at c_CB
  have c_E:=gi AA BB
  generalize h_E : nN AA BB=E at c_E
  have c_M:=qI DA CB
  generalize h_M : pI DA CB=M at c_M
  have c_S:=gi DA CB
  generalize h_S : nN DA CB=S at c_S
  have c_R1:=aT AA BB
  generalize h_R1 : cI AA BB=R1 at c_R1
  have c_F:=aT cN E
  generalize h_F : cI cN E=F at c_F
  have c_G:=qI AA F
  generalize h_G : pI AA F=G at c_G
  have c_R2:=aT E G
  generalize h_R2 : cI E G=R2 at c_R2
  have c_R3:=aT M M
  generalize h_R3 : cI M M=R3 at c_R3
  have c_SS:=aT S S
  generalize h_SS : cI S S=SS at c_SS
  have c_R4:=aT x1 SS
  generalize h_R4 : cI x1 SS=R4 at c_R4
  have eS : vo x1 ⟨X2,Z2,X3,Z3⟩=⟨R1,R2,R3,R4⟩:=by
    subst h_R4 h_SS h_R3 h_R2 h_G h_F h_R1 h_S h_M h_E h_CB h_DA h_BB h_AA h_D h_C h_B h_A
    rfl
  rw [eS]
  clear eS h_A h_B h_C h_D h_AA h_BB h_DA h_CB h_E h_M h_S h_R1 h_F h_G h_R2 h_R3 h_SS h_R4
  refine enter (n:=76) Tryz.func77 rfl rfl rfl (ah.start w []) ?_
  repeat (first | refine JC.seq ?_ | refine JC.region ?_)
  refine JL.box (r:=(X2.l++Z2.l++X3.l++Z3.l).map aj) rfl rfl rfl fun b2 _=>?_
  refine JL.box (r:=x1.l.map aj) rfl rfl rfl fun b3 _=>?_
  refine JL.alloc I0 rfl fun b4 _=>?_
  repeat (first | refine JC.seq ?_ | refine JL.nil ?_ | refine JE.next ?_)
  let vs : Nat→Nat→Value:=fun j x=>match j with
    | 0=>Pt b2 0
    | 1=>.agg (X2.l.map aj).toArray
    | 2=>Pt b2 5
    | 3=>.agg (Z2.l.map aj).toArray
    | 4=>.agg (A.l.map aj).toArray
    | 5=>Pt b2 0
    | 6=>.agg (X2.l.map aj).toArray
    | 7=>Pt b2 5
    | 8=>.agg (Z2.l.map aj).toArray
    | 9=>.agg (B.l.map aj).toArray
    | _=>Pt x 0
  let Ms : Nat→Nat→List aG:=fun j x=>match j with
    | 10=>[⟨x,Row 118 (bG.l.map aj),true⟩]
    | 11=>[⟨x,Row 118 (bG.l.map aj),true⟩]
    | 12=>[⟨x,Row 118 (A.l.map aj),true⟩]
    | 13=>[⟨x,Row 118 (B.l.map aj),true⟩]
    | 14=>[⟨b4,Row 121 (lN.l.map aj),true⟩]
    | 15=>[⟨b3,Row 118 (x1.l.map aj),true⟩]
    | 16=>[⟨b2,Row 121 ((X2.l++Z2.l++X3.l++Z3.l).map aj),true⟩]
    | _=>[]
  refine JC.grow (g:=⟨[(2,Pt b2 0),(3,Pt b3 0),(4,Pt b4 0)],17,vs,Ms,(fun j=>match j with | 1=>[(0,16)] | 3=>[(2,18)] | 4=>[(1,17),(3,19)] | 6=>[(5,21)] | 8=>[(7,23)] | 9=>[(6,22),(8,24)] | 12=>[(10,5),(4,20)] | 13=>[(11,6),(9,25)] | _=>[]),(fun j=>match j with | 1=>[16] | 3=>[16] | 6=>[16] | 8=>[16] | 12=>[10] | 13=>[11] | _=>[]),(fun j=>match j with | 12=>[10] | 13=>[11] | _=>[]),(fun j=>match j with | 12=>some 10 | 13=>some 11 | _=>none)⟩) [(10,5),(11,6)] [12,13,14,15,16] eD (by repeat (first | exact ai.nil | refine ai.cons _ _ _ rfl ?_)) (aq.refl _) (by kernel_rfl) (by kernel_rfl) (by kernel_rfl) ?_ ?_
  · refine ⟨?_,?_,?_,?_,?_,?_,?_,?_,?_,?_,?_,?_,?_,?_,trivial⟩
    · (intro x EF MF Q kk;exact JL.q (OQ.wj (o:=0) rfl rfl rfl (by decide) rfl rfl) rfl (JL.nil (kk default nofun)))
    · (intro x EF MF Q kk;exact JL.q (OQ.af (cs:=X2.l.map aj) en bZ rfl .here rfl (Row.cells rfl)) rfl (JL.nil (kk default nofun)))
    · (intro x EF MF Q kk;exact JL.q (OQ.wj (o:=5) rfl rfl rfl (by decide) rfl rfl) rfl (JL.nil (kk default nofun)))
    · (intro x EF MF Q kk;exact JL.q (OQ.af (cs:=Z2.l.map aj) en bZ rfl .here rfl (Row.cells rfl)) rfl (JL.nil (kk default nofun)))
    · (intro x EF MF Q kk;exact JL.q (OQ.au (vs:=[.agg (X2.l.map aj).toArray,.agg (Z2.l.map aj).toArray]) oH rfl fun w' _=>c_A w') rfl (JL.nil (kk default nofun)))
    · (intro x EF MF Q kk;exact JL.q (OQ.wj (o:=0) rfl rfl rfl (by decide) rfl rfl) rfl (JL.nil (kk default nofun)))
    · (intro x EF MF Q kk;exact JL.q (OQ.af (cs:=X2.l.map aj) en bZ rfl .here rfl (Row.cells rfl)) rfl (JL.nil (kk default nofun)))
    · (intro x EF MF Q kk;exact JL.q (OQ.wj (o:=5) rfl rfl rfl (by decide) rfl rfl) rfl (JL.nil (kk default nofun)))
    · (intro x EF MF Q kk;exact JL.q (OQ.af (cs:=Z2.l.map aj) en bZ rfl .here rfl (Row.cells rfl)) rfl (JL.nil (kk default nofun)))
    · (intro x EF MF Q kk;exact JL.q (OQ.au (vs:=[.agg (X2.l.map aj).toArray,.agg (Z2.l.map aj).toArray]) fI rfl fun w' _=>c_B w') rfl (JL.nil (kk default nofun)))
    · (intro x EF MF Q kk;exact JL.alloc mH rfl fun b _=>JL.nil (kk b nofun))
    · (intro x EF MF Q kk;exact JL.alloc mH rfl fun b _=>JL.nil (kk b nofun))
    · (intro x EF MF Q kk;exact JL.ag (cs:=A.l.map aj) bZ rfl rfl rfl (bn _) .here rfl (JL.nil (kk (x 10) (fun k h=>by cases h;rfl))))
    · (intro x EF MF Q kk;exact JL.ag (cs:=B.l.map aj) bZ rfl rfl rfl (bn _) .here rfl (JL.nil (kk (x 11) (fun k h=>by cases h;rfl))))
  · intro x hx
    have h12:=hx 12 10 (by decide) rfl
    have h13:=hx 13 11 (by decide) rfl
    show JE _ _ _ _ _ [(5,Pt (x 10) 0),(6,Pt (x 11) 0),(2,Pt b2 0),(3,Pt b3 0),(4,Pt b4 0)] [⟨(x 12),Row 118 (A.l.map aj),true⟩,⟨(x 13),Row 118 (B.l.map aj),true⟩,⟨b4,Row 121 (lN.l.map aj),true⟩,⟨b3,Row 118 (x1.l.map aj),true⟩,⟨b2,Row 121 ((X2.l++Z2.l++X3.l++Z3.l).map aj),true⟩]
    rw [h12,h13]
    generalize x 10=b5
    generalize x 11=b6
    clear hx h12 h13 x vs Ms
    repeat (first | refine JC.seq ?_ | refine JE.next ?_)
    let vs : Nat→Nat→Value:=fun j x=>match j with
      | 0=>Pt b2 10
      | 1=>.agg (X3.l.map aj).toArray
      | 2=>Pt b2 15
      | 3=>.agg (Z3.l.map aj).toArray
      | 4=>.agg (C.l.map aj).toArray
      | 5=>Pt b2 10
      | 6=>.agg (X3.l.map aj).toArray
      | 7=>Pt b2 15
      | 8=>.agg (Z3.l.map aj).toArray
      | 9=>.agg (D.l.map aj).toArray
      | _=>Pt x 0
    let Ms : Nat→Nat→List aG:=fun j x=>match j with
      | 10=>[⟨x,Row 118 (bG.l.map aj),true⟩]
      | 11=>[⟨x,Row 118 (bG.l.map aj),true⟩]
      | 12=>[⟨x,Row 118 (C.l.map aj),true⟩]
      | 13=>[⟨x,Row 118 (D.l.map aj),true⟩]
      | 14=>[⟨b5,Row 118 (A.l.map aj),true⟩]
      | 15=>[⟨b6,Row 118 (B.l.map aj),true⟩]
      | 16=>[⟨b4,Row 121 (lN.l.map aj),true⟩]
      | 17=>[⟨b3,Row 118 (x1.l.map aj),true⟩]
      | 18=>[⟨b2,Row 121 ((X2.l++Z2.l++X3.l++Z3.l).map aj),true⟩]
      | _=>[]
    refine JC.grow (g:=⟨[(5,Pt b5 0),(6,Pt b6 0),(2,Pt b2 0),(3,Pt b3 0),(4,Pt b4 0)],19,vs,Ms,(fun j=>match j with | 1=>[(0,26)] | 3=>[(2,28)] | 4=>[(1,27),(3,29)] | 6=>[(5,31)] | 8=>[(7,33)] | 9=>[(6,32),(8,34)] | 12=>[(10,7),(4,30)] | 13=>[(11,8),(9,35)] | _=>[]),(fun j=>match j with | 1=>[18] | 3=>[18] | 6=>[18] | 8=>[18] | 12=>[10] | 13=>[11] | _=>[]),(fun j=>match j with | 12=>[10] | 13=>[11] | _=>[]),(fun j=>match j with | 12=>some 10 | 13=>some 11 | _=>none)⟩) [(10,7),(11,8)] [12,13,14,15,16,17,18] eD (by repeat (first | exact ai.nil | refine ai.cons _ _ _ rfl ?_)) (aq.refl _) (by kernel_rfl) (by kernel_rfl) (by kernel_rfl) ?_ ?_
    · refine ⟨?_,?_,?_,?_,?_,?_,?_,?_,?_,?_,?_,?_,?_,?_,trivial⟩
      · (intro x EF MF Q kk;exact JL.q (OQ.wj (o:=10) rfl rfl rfl (by decide) rfl rfl) rfl (JL.nil (kk default nofun)))
      · (intro x EF MF Q kk;exact JL.q (OQ.af (cs:=X3.l.map aj) en bZ rfl .here rfl (Row.cells rfl)) rfl (JL.nil (kk default nofun)))
      · (intro x EF MF Q kk;exact JL.q (OQ.wj (o:=15) rfl rfl rfl (by decide) rfl rfl) rfl (JL.nil (kk default nofun)))
      · (intro x EF MF Q kk;exact JL.q (OQ.af (cs:=Z3.l.map aj) en bZ rfl .here rfl (Row.cells rfl)) rfl (JL.nil (kk default nofun)))
      · (intro x EF MF Q kk;exact JL.q (OQ.au (vs:=[.agg (X3.l.map aj).toArray,.agg (Z3.l.map aj).toArray]) oH rfl fun w' _=>c_C w') rfl (JL.nil (kk default nofun)))
      · (intro x EF MF Q kk;exact JL.q (OQ.wj (o:=10) rfl rfl rfl (by decide) rfl rfl) rfl (JL.nil (kk default nofun)))
      · (intro x EF MF Q kk;exact JL.q (OQ.af (cs:=X3.l.map aj) en bZ rfl .here rfl (Row.cells rfl)) rfl (JL.nil (kk default nofun)))
      · (intro x EF MF Q kk;exact JL.q (OQ.wj (o:=15) rfl rfl rfl (by decide) rfl rfl) rfl (JL.nil (kk default nofun)))
      · (intro x EF MF Q kk;exact JL.q (OQ.af (cs:=Z3.l.map aj) en bZ rfl .here rfl (Row.cells rfl)) rfl (JL.nil (kk default nofun)))
      · (intro x EF MF Q kk;exact JL.q (OQ.au (vs:=[.agg (X3.l.map aj).toArray,.agg (Z3.l.map aj).toArray]) fI rfl fun w' _=>c_D w') rfl (JL.nil (kk default nofun)))
      · (intro x EF MF Q kk;exact JL.alloc mH rfl fun b _=>JL.nil (kk b nofun))
      · (intro x EF MF Q kk;exact JL.alloc mH rfl fun b _=>JL.nil (kk b nofun))
      · (intro x EF MF Q kk;exact JL.ag (cs:=C.l.map aj) bZ rfl rfl rfl (bn _) .here rfl (JL.nil (kk (x 10) (fun k h=>by cases h;rfl))))
      · (intro x EF MF Q kk;exact JL.ag (cs:=D.l.map aj) bZ rfl rfl rfl (bn _) .here rfl (JL.nil (kk (x 11) (fun k h=>by cases h;rfl))))
    · intro x hx
      have h12:=hx 12 10 (by decide) rfl
      have h13:=hx 13 11 (by decide) rfl
      show JE _ _ _ _ _ [(7,Pt (x 10) 0),(8,Pt (x 11) 0),(5,Pt b5 0),(6,Pt b6 0),(2,Pt b2 0),(3,Pt b3 0),(4,Pt b4 0)] [⟨(x 12),Row 118 (C.l.map aj),true⟩,⟨(x 13),Row 118 (D.l.map aj),true⟩,⟨b5,Row 118 (A.l.map aj),true⟩,⟨b6,Row 118 (B.l.map aj),true⟩,⟨b4,Row 121 (lN.l.map aj),true⟩,⟨b3,Row 118 (x1.l.map aj),true⟩,⟨b2,Row 121 ((X2.l++Z2.l++X3.l++Z3.l).map aj),true⟩]
      rw [h12,h13]
      generalize x 10=b7
      generalize x 11=b8
      clear hx h12 h13 x vs Ms
      repeat (first | refine JC.seq ?_ | refine JE.next ?_)
      let vs : Nat→Nat→Value:=fun j x=>match j with
        | 0=>.agg (A.l.map aj).toArray
        | 1=>.agg (A.l.map aj).toArray
        | 2=>.agg (AA.l.map aj).toArray
        | 3=>.agg (B.l.map aj).toArray
        | 4=>.agg (B.l.map aj).toArray
        | 5=>.agg (BB.l.map aj).toArray
        | _=>Pt x 0
      let Ms : Nat→Nat→List aG:=fun j x=>match j with
        | 6=>[⟨x,Row 118 (bG.l.map aj),true⟩]
        | 7=>[⟨x,Row 118 (bG.l.map aj),true⟩]
        | 8=>[⟨x,Row 118 (AA.l.map aj),true⟩]
        | 9=>[⟨x,Row 118 (BB.l.map aj),true⟩]
        | 10=>[⟨b7,Row 118 (C.l.map aj),true⟩]
        | 11=>[⟨b8,Row 118 (D.l.map aj),true⟩]
        | 12=>[⟨b5,Row 118 (A.l.map aj),true⟩]
        | 13=>[⟨b6,Row 118 (B.l.map aj),true⟩]
        | 14=>[⟨b4,Row 121 (lN.l.map aj),true⟩]
        | 15=>[⟨b3,Row 118 (x1.l.map aj),true⟩]
        | 16=>[⟨b2,Row 121 ((X2.l++Z2.l++X3.l++Z3.l).map aj),true⟩]
        | _=>[]
      refine JC.grow (g:=⟨[(7,Pt b7 0),(8,Pt b8 0),(5,Pt b5 0),(6,Pt b6 0),(2,Pt b2 0),(3,Pt b3 0),(4,Pt b4 0)],17,vs,Ms,(fun j=>match j with | 2=>[(0,36),(1,37)] | 5=>[(3,39),(4,40)] | 8=>[(6,9),(2,38)] | 9=>[(7,10),(5,41)] | _=>[]),(fun j=>match j with | 0=>[12] | 1=>[12] | 3=>[13] | 4=>[13] | 8=>[6] | 9=>[7] | _=>[]),(fun j=>match j with | 8=>[6] | 9=>[7] | _=>[]),(fun j=>match j with | 8=>some 6 | 9=>some 7 | _=>none)⟩) [(6,9),(7,10)] [8,9,10,11,12,13,14,15,16] eD (by repeat (first | exact ai.nil | refine ai.cons _ _ _ rfl ?_)) (aq.refl _) (by kernel_rfl) (by kernel_rfl) (by kernel_rfl) ?_ ?_
      · refine ⟨?_,?_,?_,?_,?_,?_,?_,?_,?_,?_,trivial⟩
        · (intro x EF MF Q kk;exact JL.q (OQ.af (cs:=A.l.map aj) en bZ rfl .here rfl Row.all) rfl (JL.nil (kk default nofun)))
        · (intro x EF MF Q kk;exact JL.q (OQ.af (cs:=A.l.map aj) en bZ rfl .here rfl Row.all) rfl (JL.nil (kk default nofun)))
        · (intro x EF MF Q kk;exact JL.q (OQ.au (vs:=[.agg (A.l.map aj).toArray,.agg (A.l.map aj).toArray]) aO rfl fun w' _=>c_AA w') rfl (JL.nil (kk default nofun)))
        · (intro x EF MF Q kk;exact JL.q (OQ.af (cs:=B.l.map aj) en bZ rfl .here rfl Row.all) rfl (JL.nil (kk default nofun)))
        · (intro x EF MF Q kk;exact JL.q (OQ.af (cs:=B.l.map aj) en bZ rfl .here rfl Row.all) rfl (JL.nil (kk default nofun)))
        · (intro x EF MF Q kk;exact JL.q (OQ.au (vs:=[.agg (B.l.map aj).toArray,.agg (B.l.map aj).toArray]) aO rfl fun w' _=>c_BB w') rfl (JL.nil (kk default nofun)))
        · (intro x EF MF Q kk;exact JL.alloc mH rfl fun b _=>JL.nil (kk b nofun))
        · (intro x EF MF Q kk;exact JL.alloc mH rfl fun b _=>JL.nil (kk b nofun))
        · (intro x EF MF Q kk;exact JL.ag (cs:=AA.l.map aj) bZ rfl rfl rfl (bn _) .here rfl (JL.nil (kk (x 6) (fun k h=>by cases h;rfl))))
        · (intro x EF MF Q kk;exact JL.ag (cs:=BB.l.map aj) bZ rfl rfl rfl (bn _) .here rfl (JL.nil (kk (x 7) (fun k h=>by cases h;rfl))))
      · intro x hx
        have h8:=hx 8 6 (by decide) rfl
        have h9:=hx 9 7 (by decide) rfl
        show JE _ _ _ _ _ [(9,Pt (x 6) 0),(10,Pt (x 7) 0),(7,Pt b7 0),(8,Pt b8 0),(5,Pt b5 0),(6,Pt b6 0),(2,Pt b2 0),(3,Pt b3 0),(4,Pt b4 0)] [⟨(x 8),Row 118 (AA.l.map aj),true⟩,⟨(x 9),Row 118 (BB.l.map aj),true⟩,⟨b7,Row 118 (C.l.map aj),true⟩,⟨b8,Row 118 (D.l.map aj),true⟩,⟨b5,Row 118 (A.l.map aj),true⟩,⟨b6,Row 118 (B.l.map aj),true⟩,⟨b4,Row 121 (lN.l.map aj),true⟩,⟨b3,Row 118 (x1.l.map aj),true⟩,⟨b2,Row 121 ((X2.l++Z2.l++X3.l++Z3.l).map aj),true⟩]
        rw [h8,h9]
        generalize x 6=b9
        generalize x 7=b10
        clear hx h8 h9 x vs Ms
        repeat (first | refine JC.seq ?_ | refine JE.next ?_)
        let vs : Nat→Nat→Value:=fun j x=>match j with
          | 0=>.agg (D.l.map aj).toArray
          | 1=>.agg (A.l.map aj).toArray
          | 2=>.agg (DA.l.map aj).toArray
          | 3=>.agg (C.l.map aj).toArray
          | 4=>.agg (B.l.map aj).toArray
          | 5=>.agg (CB.l.map aj).toArray
          | _=>Pt x 0
        let Ms : Nat→Nat→List aG:=fun j x=>match j with
          | 6=>[⟨x,Row 118 (bG.l.map aj),true⟩]
          | 7=>[⟨x,Row 118 (bG.l.map aj),true⟩]
          | 8=>[⟨x,Row 118 (DA.l.map aj),true⟩]
          | 9=>[⟨x,Row 118 (CB.l.map aj),true⟩]
          | 10=>[⟨b9,Row 118 (AA.l.map aj),true⟩]
          | 11=>[⟨b10,Row 118 (BB.l.map aj),true⟩]
          | 12=>[⟨b7,Row 118 (C.l.map aj),true⟩]
          | 13=>[⟨b8,Row 118 (D.l.map aj),true⟩]
          | 14=>[⟨b5,Row 118 (A.l.map aj),true⟩]
          | 15=>[⟨b6,Row 118 (B.l.map aj),true⟩]
          | 16=>[⟨b4,Row 121 (lN.l.map aj),true⟩]
          | 17=>[⟨b3,Row 118 (x1.l.map aj),true⟩]
          | 18=>[⟨b2,Row 121 ((X2.l++Z2.l++X3.l++Z3.l).map aj),true⟩]
          | _=>[]
        refine JC.grow (g:=⟨[(9,Pt b9 0),(10,Pt b10 0),(7,Pt b7 0),(8,Pt b8 0),(5,Pt b5 0),(6,Pt b6 0),(2,Pt b2 0),(3,Pt b3 0),(4,Pt b4 0)],19,vs,Ms,(fun j=>match j with | 2=>[(0,42),(1,43)] | 5=>[(3,45),(4,46)] | 8=>[(6,11),(2,44)] | 9=>[(7,12),(5,47)] | _=>[]),(fun j=>match j with | 0=>[13] | 1=>[14] | 3=>[12] | 4=>[15] | 8=>[6] | 9=>[7] | _=>[]),(fun j=>match j with | 8=>[6] | 9=>[7] | _=>[]),(fun j=>match j with | 8=>some 6 | 9=>some 7 | _=>none)⟩) [(6,11),(7,12)] [8,9,10,11,12,13,14,15,16,17,18] eD (by repeat (first | exact ai.nil | refine ai.cons _ _ _ rfl ?_)) (aq.refl _) (by kernel_rfl) (by kernel_rfl) (by kernel_rfl) ?_ ?_
        · refine ⟨?_,?_,?_,?_,?_,?_,?_,?_,?_,?_,trivial⟩
          · (intro x EF MF Q kk;exact JL.q (OQ.af (cs:=D.l.map aj) en bZ rfl .here rfl Row.all) rfl (JL.nil (kk default nofun)))
          · (intro x EF MF Q kk;exact JL.q (OQ.af (cs:=A.l.map aj) en bZ rfl .here rfl Row.all) rfl (JL.nil (kk default nofun)))
          · (intro x EF MF Q kk;exact JL.q (OQ.au (vs:=[.agg (D.l.map aj).toArray,.agg (A.l.map aj).toArray]) aO rfl fun w' _=>c_DA w') rfl (JL.nil (kk default nofun)))
          · (intro x EF MF Q kk;exact JL.q (OQ.af (cs:=C.l.map aj) en bZ rfl .here rfl Row.all) rfl (JL.nil (kk default nofun)))
          · (intro x EF MF Q kk;exact JL.q (OQ.af (cs:=B.l.map aj) en bZ rfl .here rfl Row.all) rfl (JL.nil (kk default nofun)))
          · (intro x EF MF Q kk;exact JL.q (OQ.au (vs:=[.agg (C.l.map aj).toArray,.agg (B.l.map aj).toArray]) aO rfl fun w' _=>c_CB w') rfl (JL.nil (kk default nofun)))
          · (intro x EF MF Q kk;exact JL.alloc mH rfl fun b _=>JL.nil (kk b nofun))
          · (intro x EF MF Q kk;exact JL.alloc mH rfl fun b _=>JL.nil (kk b nofun))
          · (intro x EF MF Q kk;exact JL.ag (cs:=DA.l.map aj) bZ rfl rfl rfl (bn _) .here rfl (JL.nil (kk (x 6) (fun k h=>by cases h;rfl))))
          · (intro x EF MF Q kk;exact JL.ag (cs:=CB.l.map aj) bZ rfl rfl rfl (bn _) .here rfl (JL.nil (kk (x 7) (fun k h=>by cases h;rfl))))
        · intro x hx
          have h8:=hx 8 6 (by decide) rfl
          have h9:=hx 9 7 (by decide) rfl
          show JE _ _ _ _ _ [(11,Pt (x 6) 0),(12,Pt (x 7) 0),(9,Pt b9 0),(10,Pt b10 0),(7,Pt b7 0),(8,Pt b8 0),(5,Pt b5 0),(6,Pt b6 0),(2,Pt b2 0),(3,Pt b3 0),(4,Pt b4 0)] [⟨(x 8),Row 118 (DA.l.map aj),true⟩,⟨(x 9),Row 118 (CB.l.map aj),true⟩,⟨b9,Row 118 (AA.l.map aj),true⟩,⟨b10,Row 118 (BB.l.map aj),true⟩,⟨b7,Row 118 (C.l.map aj),true⟩,⟨b8,Row 118 (D.l.map aj),true⟩,⟨b5,Row 118 (A.l.map aj),true⟩,⟨b6,Row 118 (B.l.map aj),true⟩,⟨b4,Row 121 (lN.l.map aj),true⟩,⟨b3,Row 118 (x1.l.map aj),true⟩,⟨b2,Row 121 ((X2.l++Z2.l++X3.l++Z3.l).map aj),true⟩]
          rw [h8,h9]
          generalize x 6=b11
          generalize x 7=b12
          clear hx h8 h9 x vs Ms
          repeat (first | refine JC.seq ?_ | refine JC.region ?_ | refine JE.next ?_)
          repeat (refine JL.q (by first|(apply OQ.af (cs:=AA.l.map aj);exact en;exact bZ;rfl;exact (by repeat (first | exact Has.here | apply Has.there));rfl;exact Row.all)|(apply OQ.af (cs:=BB.l.map aj);exact en;exact bZ;rfl;exact (by repeat (first | exact Has.here | apply Has.there));rfl;exact Row.all)|(apply OQ.au (vs:=[.agg (AA.l.map aj).toArray,.agg (BB.l.map aj).toArray]);exact fI;rfl;exact (fun w' _=>c_E w'))) rfl ?_)
          refine JL.alloc mH rfl fun b13 _=>?_
          refine JL.ag (cs:=E.l.map aj) bZ rfl rfl rfl (bn _) .here rfl ?_
          repeat (first | refine JC.seq ?_ | refine JL.nil ?_ | refine JE.next ?_)
          let vs : Nat→Nat→Value:=fun j x=>match j with
            | 0=>.agg (DA.l.map aj).toArray
            | 1=>.agg (CB.l.map aj).toArray
            | 2=>.agg (M.l.map aj).toArray
            | 3=>.agg (DA.l.map aj).toArray
            | 4=>.agg (CB.l.map aj).toArray
            | 5=>.agg (S.l.map aj).toArray
            | _=>Pt x 0
          let Ms : Nat→Nat→List aG:=fun j x=>match j with
            | 6=>[⟨x,Row 118 (bG.l.map aj),true⟩]
            | 7=>[⟨x,Row 118 (bG.l.map aj),true⟩]
            | 8=>[⟨x,Row 118 (M.l.map aj),true⟩]
            | 9=>[⟨x,Row 118 (S.l.map aj),true⟩]
            | 10=>[⟨b13,Row 118 (E.l.map aj),true⟩]
            | 11=>[⟨b11,Row 118 (DA.l.map aj),true⟩]
            | 12=>[⟨b12,Row 118 (CB.l.map aj),true⟩]
            | 13=>[⟨b9,Row 118 (AA.l.map aj),true⟩]
            | 14=>[⟨b10,Row 118 (BB.l.map aj),true⟩]
            | 15=>[⟨b7,Row 118 (C.l.map aj),true⟩]
            | 16=>[⟨b8,Row 118 (D.l.map aj),true⟩]
            | 17=>[⟨b5,Row 118 (A.l.map aj),true⟩]
            | 18=>[⟨b6,Row 118 (B.l.map aj),true⟩]
            | 19=>[⟨b4,Row 121 (lN.l.map aj),true⟩]
            | 20=>[⟨b3,Row 118 (x1.l.map aj),true⟩]
            | 21=>[⟨b2,Row 121 ((X2.l++Z2.l++X3.l++Z3.l).map aj),true⟩]
            | _=>[]
          refine JC.grow (g:=⟨[(13,Pt b13 0),(11,Pt b11 0),(12,Pt b12 0),(9,Pt b9 0),(10,Pt b10 0),(7,Pt b7 0),(8,Pt b8 0),(5,Pt b5 0),(6,Pt b6 0),(2,Pt b2 0),(3,Pt b3 0),(4,Pt b4 0)],22,vs,Ms,(fun j=>match j with | 2=>[(0,51),(1,52)] | 5=>[(3,54),(4,55)] | 8=>[(6,14),(2,53)] | 9=>[(7,15),(5,56)] | _=>[]),(fun j=>match j with | 0=>[11] | 1=>[12] | 3=>[11] | 4=>[12] | 8=>[6] | 9=>[7] | _=>[]),(fun j=>match j with | 8=>[6] | 9=>[7] | _=>[]),(fun j=>match j with | 8=>some 6 | 9=>some 7 | _=>none)⟩) [(6,14),(7,15)] [8,9,10,11,12,13,14,15,16,17,18,19,20,21] eD (by repeat (first | exact ai.nil | refine ai.cons _ _ _ rfl ?_)) (aq.refl _) (by kernel_rfl) (by kernel_rfl) (by kernel_rfl) ?_ ?_
          · refine ⟨?_,?_,?_,?_,?_,?_,?_,?_,?_,?_,trivial⟩
            · (intro x EF MF Q kk;exact JL.q (OQ.af (cs:=DA.l.map aj) en bZ rfl .here rfl Row.all) rfl (JL.nil (kk default nofun)))
            · (intro x EF MF Q kk;exact JL.q (OQ.af (cs:=CB.l.map aj) en bZ rfl .here rfl Row.all) rfl (JL.nil (kk default nofun)))
            · (intro x EF MF Q kk;exact JL.q (OQ.au (vs:=[.agg (DA.l.map aj).toArray,.agg (CB.l.map aj).toArray]) oH rfl fun w' _=>c_M w') rfl (JL.nil (kk default nofun)))
            · (intro x EF MF Q kk;exact JL.q (OQ.af (cs:=DA.l.map aj) en bZ rfl .here rfl Row.all) rfl (JL.nil (kk default nofun)))
            · (intro x EF MF Q kk;exact JL.q (OQ.af (cs:=CB.l.map aj) en bZ rfl .here rfl Row.all) rfl (JL.nil (kk default nofun)))
            · (intro x EF MF Q kk;exact JL.q (OQ.au (vs:=[.agg (DA.l.map aj).toArray,.agg (CB.l.map aj).toArray]) fI rfl fun w' _=>c_S w') rfl (JL.nil (kk default nofun)))
            · (intro x EF MF Q kk;exact JL.alloc mH rfl fun b _=>JL.nil (kk b nofun))
            · (intro x EF MF Q kk;exact JL.alloc mH rfl fun b _=>JL.nil (kk b nofun))
            · (intro x EF MF Q kk;exact JL.ag (cs:=M.l.map aj) bZ rfl rfl rfl (bn _) .here rfl (JL.nil (kk (x 6) (fun k h=>by cases h;rfl))))
            · (intro x EF MF Q kk;exact JL.ag (cs:=S.l.map aj) bZ rfl rfl rfl (bn _) .here rfl (JL.nil (kk (x 7) (fun k h=>by cases h;rfl))))
          · intro x hx
            have h8:=hx 8 6 (by decide) rfl
            have h9:=hx 9 7 (by decide) rfl
            show JE _ _ _ _ _ [(14,Pt (x 6) 0),(15,Pt (x 7) 0),(13,Pt b13 0),(11,Pt b11 0),(12,Pt b12 0),(9,Pt b9 0),(10,Pt b10 0),(7,Pt b7 0),(8,Pt b8 0),(5,Pt b5 0),(6,Pt b6 0),(2,Pt b2 0),(3,Pt b3 0),(4,Pt b4 0)] [⟨(x 8),Row 118 (M.l.map aj),true⟩,⟨(x 9),Row 118 (S.l.map aj),true⟩,⟨b13,Row 118 (E.l.map aj),true⟩,⟨b11,Row 118 (DA.l.map aj),true⟩,⟨b12,Row 118 (CB.l.map aj),true⟩,⟨b9,Row 118 (AA.l.map aj),true⟩,⟨b10,Row 118 (BB.l.map aj),true⟩,⟨b7,Row 118 (C.l.map aj),true⟩,⟨b8,Row 118 (D.l.map aj),true⟩,⟨b5,Row 118 (A.l.map aj),true⟩,⟨b6,Row 118 (B.l.map aj),true⟩,⟨b4,Row 121 (lN.l.map aj),true⟩,⟨b3,Row 118 (x1.l.map aj),true⟩,⟨b2,Row 121 ((X2.l++Z2.l++X3.l++Z3.l).map aj),true⟩]
            rw [h8,h9]
            generalize x 6=b14
            generalize x 7=b15
            clear hx h8 h9 x vs Ms
            repeat (first | refine JC.seq ?_ | refine JE.next ?_)
            refine JC.tail 19 eD (by kernel_rfl) ?_
            simp only [List.take_succ_cons,List.take_zero,List.drop_succ_cons,List.drop_zero]
            repeat (refine JQ.q (by first|(apply OQ.af (cs:=AA.l.map aj);exact en;exact bZ;rfl;exact (by repeat (first | exact Has.here | apply Has.there));rfl;exact Row.all)|(apply OQ.af (cs:=BB.l.map aj);exact en;exact bZ;rfl;exact (by repeat (first | exact Has.here | apply Has.there));rfl;exact Row.all)|(apply OQ.af (cs:=E.l.map aj);exact en;exact bZ;rfl;exact (by repeat (first | exact Has.here | apply Has.there));rfl;exact Row.all)|(apply OQ.au (vs:=[.agg (AA.l.map aj).toArray,.agg (BB.l.map aj).toArray]);exact aO;rfl;exact (fun w' _=>c_R1 w'))) rfl ?_)
            refine JQ.q (OQ.pure (v:=.agg (cN.l.map aj).toArray) rfl rfl (by kernel_rfl)) rfl ?_
            repeat (refine JQ.q (by first|(apply OQ.af (cs:=E.l.map aj);exact en;exact bZ;rfl;exact (by repeat (first | exact Has.here | apply Has.there));rfl;exact Row.all)|(apply OQ.af (cs:=M.l.map aj);exact en;exact bZ;rfl;exact (by repeat (first | exact Has.here | apply Has.there));rfl;exact Row.all)|(apply OQ.af (cs:=S.l.map aj);exact en;exact bZ;rfl;exact (by repeat (first | exact Has.here | apply Has.there));rfl;exact Row.all)|(apply OQ.af (cs:=x1.l.map aj);exact en;exact bZ;rfl;exact (by repeat (first | exact Has.here | apply Has.there));rfl;exact Row.all)|(apply OQ.au (vs:=[.agg (cN.l.map aj).toArray,.agg (E.l.map aj).toArray]);exact aO;rfl;exact (fun w' _=>c_F w'))|(apply OQ.au (vs:=[.agg (AA.l.map aj).toArray,.agg (F.l.map aj).toArray]);exact oH;rfl;exact (fun w' _=>c_G w'))|(apply OQ.au (vs:=[.agg (E.l.map aj).toArray,.agg (G.l.map aj).toArray]);exact aO;rfl;exact (fun w' _=>c_R2 w'))|(apply OQ.au (vs:=[.agg (M.l.map aj).toArray,.agg (M.l.map aj).toArray]);exact aO;rfl;exact (fun w' _=>c_R3 w'))|(apply OQ.au (vs:=[.agg (S.l.map aj).toArray,.agg (S.l.map aj).toArray]);exact aO;rfl;exact (fun w' _=>c_SS w'))|(apply OQ.au (vs:=[.agg (x1.l.map aj).toArray,.agg (SS.l.map aj).toArray]);exact aO;rfl;exact (fun w' _=>c_R4 w'))) rfl ?_)
            refine JQ.q (OQ.pure (v:=.agg ((R1.l++R2.l++R3.l++R4.l).map aj).toArray) rfl rfl (by kernel_rfl)) rfl ?_
            repeat (refine JQ.bC ?_)
            refine JL.ag (cs:=(R1.l++R2.l++R3.l++R4.l).map aj) xu rfl rfl rfl (bn _) (by repeat (first | exact eJ.here | apply eJ.there)) rfl ?_
            repeat (first | refine JL.nil ?_ | refine JE.next ?_)
            refine JC.ret (JE.aQ rfl (RV.av F8 xu rfl (by repeat (first | exact Has.here | apply Has.there)) rfl Row.all) ?_)
            exact fun w' hw=>⟨rfl,hw.aL⟩
end
section
namespace dO
def qt (x : By) : List By:=x::List.replicate 31 0
end dO
end
section
set_option maxRecDepth 10000
open Sl dO
theorem xy : aK Tryz.prog 74:=⟨_,Tryz.func74,rfl,by kernel_rfl⟩
theorem kC : aK Tryz.prog 54:=⟨_,Tryz.func54,rfl,by kernel_rfl⟩
theorem oK : aK Tryz.prog 33:=⟨_,Tryz.func33,rfl,by kernel_rfl⟩
theorem mI (k u : List By) : (aN k u).length=32:=iL _
section
variable {P : Program} {n : Nat} {E : Env} {C : World→Prop} {dst : Option Tmp} {ty t t' : TypeId} {pos : String} {aft : Array Edge} {g : Option (Nat × Bool)} {x y : Operand}
theorem OQ.KE {a b r : BitVec 8} (hx : ev E x=some (U8 a)) (hy : ev E y=some (U8 b)) (h : a &&& b=r) : OQ P n E C ⟨dst,.binOp .and t x y t',ty,pos,aft,g⟩ (U8 r):=h ▸ OQ.E8 hx hy
end
theorem I1 : ∀ x : By,x &&& 248#8=x / 8 * 8:=by decide +kernel
theorem F9 : ∀ x : By,x &&& 127#8 ||| 64#8=x % 64+64:=by decide +kernel
set_option maxHeartbeats 8000000 in
theorem zm (k : List By) (hk : k.length=32) (w : World) : Calls Tryz.prog 74 [.agg (k.map U8).toArray].toArray w fun e w'=>e=.returned (.agg ((dA k).map U8).toArray)∧Ext w w':=by
  have hc0:=ko (l:=k) (i:=0) (by omega)
  have hc31:=ko (l:=k.set 0 (k.getD 0 0 / 8 * 8)) (i:=31) (by rw [List.length_set];omega)
  have hlK : ((dA k).map U8).length=32:=by rw [List.length_map,nM];exact hk
  refine enter (n:=16) Tryz.func74 rfl rfl rfl (ah.start w []) ?_
  repeat (first | refine JC.seq ?_ | refine JC.region ?_)
  refine JL.box (r:=k.map U8) rfl rfl rfl fun b1 _=>?_
  refine JL.alloc gR rfl fun b2 _=>?_
  repeat (first | refine JL.q (by first|(apply OQ.aD;exact Tryz.underlying23;exact vS;rfl;rfl;exact (by decide))|(apply OQ.load;exact FR;rfl;exact (.there .here);exact (Row.cell hc0))|(apply OQ.E8 (b:=248#8);rfl;rfl)|(apply OQ.assign;rfl)) rfl ?_ | refine JC.seq ?_ | refine JC.region ?_ | refine JL.nil ?_ | refine JE.next ?_)
  refine JL.az (r':=(k.set 0 (k.getD 0 0 / 8 * 8)).map U8) vS rfl rfl rfl rfl (.there .here) (by rw [List.length_map,hk];decide) (by rw [I1];exact rU _ _ _) ?_
  repeat (first | refine JL.q (by first|(apply OQ.aD;exact Tryz.underlying23;exact vS;rfl;rfl;exact (by decide))|(apply OQ.load;exact FR;rfl;exact (.there .here);exact (Row.cell hc31))|(apply OQ.E8 (b:=127#8);rfl;rfl)|(apply OQ.MD (b:=64#8);rfl;rfl)|(apply OQ.move;rfl)) rfl ?_ | refine JC.seq ?_ | refine JC.region ?_ | refine JL.nil ?_ | refine JE.next ?_)
  refine JL.az (r':=(dA k).map U8) vS rfl rfl rfl rfl (.there .here) (by rw [List.length_map,List.length_set,hk];decide) (by rw [F9];exact rU _ _ _) ?_
  generalize dA k=K at hlK ⊢
  repeat (first | refine JL.q (by (apply OQ.af (cs:=K.map U8);exact aP;exact aB;rfl;exact (.there .here);exact hlK;exact Row.all)) rfl ?_ | refine JC.seq ?_ | refine JC.region ?_ | refine JL.nil ?_ | refine JE.next ?_)
  refine JL.ag (cs:=K.map U8) aB rfl rfl hlK (aV _) .here (by simp) ?_
  repeat (first | refine JL.nil ?_ | refine JE.next ?_)
  refine JC.ret (JE.aQ rfl (RV.av aP aB rfl .here hlK Row.all) ?_)
  exact fun w' hw=>⟨rfl,hw.aL⟩
set_option maxHeartbeats 32000000 in
set_option maxRecDepth 4000 in
theorem mJ (k u : List By) (hk : k.length=32) (hu : u.length=32) (w : World) : Calls Tryz.prog 54 [.agg (k.map U8).toArray,.agg (u.map U8).toArray].toArray w fun e w'=>e=.returned (.agg ((aN k u).map U8).toArray)∧Ext w w':=by
  have cC:=zm k hk
  have cN:=vq u hu
  have eM:=F4 k u hu
  have lM:=mI k u
  unfold IQ at eM
  have hK : (dA k).length=32:=by rw [nM];exact hk
  have hlk : (k.map U8).length=32:=by rw [List.length_map];exact hk
  have hlu : (u.map U8).length=32:=by rw [List.length_map];exact hu
  have hlK : ((dA k).map U8).length=32:=by rw [List.length_map];exact hK
  generalize dA k=K at cC eM hK hlK
  generalize cU u=x1 at cN eM
  generalize aN k u=R at eM lM ⊢
  refine enter (n:=47) Tryz.func54 rfl rfl rfl (ah.start w []) ?_
  repeat (first | refine JC.seq ?_ | refine JC.region ?_)
  refine JL.box (r:=k.map U8) rfl rfl rfl fun b2 _=>?_
  refine JL.box (r:=u.map U8) rfl rfl rfl fun b3 _=>?_
  refine JL.alloc gR rfl fun b4 _=>?_
  repeat (first | refine JC.seq ?_ | refine JL.nil ?_ | refine JE.next ?_)
  let vs : Nat→Nat→Value:=fun j x=>match j with
    | 0=>.agg (k.map U8).toArray
    | 1=>.agg (K.map U8).toArray
    | 2=>.agg (u.map U8).toArray
    | 3=>.agg (x1.l.map aj).toArray
    | _=>Pt x 0
  let Ms : Nat→Nat→List aG:=fun j x=>match j with
    | 4=>[⟨x,Row 23 ((List.replicate 32 (0 : By)).map U8),true⟩]
    | 5=>[⟨x,Row 118 (bG.l.map aj),true⟩]
    | 6=>[⟨x,Row 23 (K.map U8),true⟩]
    | 7=>[⟨x,Row 118 (x1.l.map aj),true⟩]
    | 8=>[⟨b4,Row 23 ((List.replicate 32 (0 : By)).map U8),true⟩]
    | 9=>[⟨b3,Row 23 (u.map U8),true⟩]
    | 10=>[⟨b2,Row 23 (k.map U8),true⟩]
    | _=>[]
  refine JC.grow (g:=⟨[(2,Pt b2 0),(3,Pt b3 0),(4,Pt b4 0)],11,vs,Ms,(fun j=>match j with | 1=>[(0,11)] | 3=>[(2,13)] | 6=>[(4,5),(1,12)] | 7=>[(5,6),(3,14)] | _=>[]),(fun j=>match j with | 0=>[10] | 2=>[9] | 6=>[4] | 7=>[5] | _=>[]),(fun j=>match j with | 6=>[4] | 7=>[5] | _=>[]),(fun j=>match j with | 6=>some 4 | 7=>some 5 | _=>none)⟩) [(4,5),(5,6)] [6,7,8,9,10] eD (by repeat (first | exact ai.nil | refine ai.cons _ _ _ rfl ?_)) (aq.refl _) (by kernel_rfl) (by kernel_rfl) (by kernel_rfl) ?_ ?_
  · refine ⟨?_,?_,?_,?_,?_,?_,?_,?_,trivial⟩
    · (intro x EF MF Q kk;exact JL.q (OQ.af (cs:=k.map U8) aP aB rfl .here hlk Row.all) rfl (JL.nil (kk default nofun)))
    · (intro x EF MF Q kk;exact JL.q (OQ.au (vs:=[.agg (k.map U8).toArray]) xy rfl fun w' _=>cC w') rfl (JL.nil (kk default nofun)))
    · (intro x EF MF Q kk;exact JL.q (OQ.af (cs:=u.map U8) aP aB rfl .here hlu Row.all) rfl (JL.nil (kk default nofun)))
    · (intro x EF MF Q kk;exact JL.q (OQ.au (vs:=[.agg (u.map U8).toArray]) sZ rfl fun w' _=>cN w') rfl (JL.nil (kk default nofun)))
    · (intro x EF MF Q kk;exact JL.alloc gR rfl fun b _=>JL.nil (kk b nofun))
    · (intro x EF MF Q kk;exact JL.alloc mH rfl fun b _=>JL.nil (kk b nofun))
    · (intro x EF MF Q kk;exact JL.ag (cs:=K.map U8) aB rfl rfl hlK (aV _) .here rfl (JL.nil (kk (x 4) (fun k h=>by cases h;rfl))))
    · (intro x EF MF Q kk;exact JL.ag (cs:=x1.l.map aj) bZ rfl rfl rfl (bn _) .here rfl (JL.nil (kk (x 5) (fun k h=>by cases h;rfl))))
  · intro x hx
    have h6:=hx 6 4 (by decide) rfl
    have h7:=hx 7 5 (by decide) rfl
    show JE _ _ _ _ _ [(5,Pt (x 4) 0),(6,Pt (x 5) 0),(2,Pt b2 0),(3,Pt b3 0),(4,Pt b4 0)] [⟨(x 6),Row 23 (K.map U8),true⟩,⟨(x 7),Row 118 (x1.l.map aj),true⟩,⟨b4,Row 23 ((List.replicate 32 (0 : By)).map U8),true⟩,⟨b3,Row 23 (u.map U8),true⟩,⟨b2,Row 23 (k.map U8),true⟩]
    rw [h6,h7]
    generalize x 4=b5
    generalize x 5=b6
    clear hx h6 h7 x vs Ms
    repeat (first | refine JC.seq ?_ | refine JC.region ?_ | refine JE.next ?_)
    refine JL.q (OQ.pure (v:=.agg (xd.l.map aj).toArray) rfl rfl (by kernel_rfl)) rfl ?_
    repeat (refine JL.q (by (apply OQ.af (cs:=x1.l.map aj);exact en;exact bZ;rfl;exact (by repeat (first | exact Has.here | apply Has.there));rfl;exact Row.all)) rfl ?_)
    refine JL.q (OQ.pure (v:=.agg (xd.l.map aj).toArray) rfl rfl (by kernel_rfl)) rfl ?_
    refine JL.q (OQ.pure (v:=.agg ((js x1 (le K) 0).l.map aj).toArray) rfl rfl (by kernel_rfl)) rfl ?_
    refine JL.alloc I0 rfl fun b7 _=>?_
    refine JL.ag (cs:=(js x1 (le K) 0).l.map aj) xu rfl rfl rfl (bn _) .here rfl ?_
    repeat (first | refine JL.q (by (apply OQ.move;rfl)) rfl ?_ | refine JC.seq ?_ | refine JC.region ?_ | refine JC.block ?_ | refine JL.nil ?_ | refine JE.next ?_)
    refine JC.loop (fun n : Nat=>[(4,Pt b4 0),(5,Pt b5 0),(6,Pt b6 0),(7,Pt b7 0),(19,N n)])
      (fun n=>[⟨b7,Row 121 ((js x1 (le K) n).l.map aj),true⟩,⟨b5,Row 23 (K.map U8),true⟩,⟨b6,Row 118 (x1.l.map aj),true⟩,⟨b4,Row 23 ((List.replicate 32 (0 : By)).map U8),true⟩])
      (fun n=>255 - n) (fun n=>n≤255) 0 (by omega) (by repeat (first | exact ai.nil | refine ai.cons _ _ _ rfl ?_)) (.keep _ _ _ _ _ _ (fun _ h=>h) (.keep _ _ _ _ _ _ (fun _ h=>h) (.keep _ _ _ _ _ _ (fun _ h=>h) (.keep _ _ _ _ _ _ (fun _ h=>h) (.nil _))))) ?_
    intro n hn
    repeat (first | refine JL.q (by (apply OQ.bJ;rfl;rfl)) rfl ?_ | refine JC.seq ?_ | refine JC.region ?_ | refine JL.nil ?_ | refine JE.next ?_)
    refine JC.cond rfl (fun h=>?_) (fun h=>?_)
    · have hn' : n<255:=of_decide_eq_true h
      clear h hn eM
      have eN : js x1 (le K) (n+1)=Eb ((le K).testBit (254 - n)) (vo x1 (Eb ((le K).testBit (254 - n)) (js x1 (le K) n))):=rfl
      have hcb:=ko (l:=K) (i:=(254 - n) / 8) (by omega)
      have hbit : (K.getD ((254 - n) / 8) 0 >>> ((254 - n) % 8)) &&& 1#8=bt ((le K).testBit (254 - n)):=by rw [KD _ _ (by omega),y9]
      have b32 : (254 - n) / 8<32:=by omega
      generalize (le K).testBit (254 - n)=c at eN hbit
      generalize js x1 (le K) n=s at eN ⊢
      have c1:=nq c s
      generalize Eb c s=s1 at eN c1
      have c2:=xw x1 s1
      generalize vo x1 s1=s2 at eN c2
      have c3:=nq c s2
      rw [← eN] at c3
      have e3 : js x1 (le K) (n+1)=js x1 (le K) (n+1):=rfl
      generalize hs3 : js x1 (le K) (n+1)=s3 at c3
      clear eN e3
      repeat (first | refine JL.q (by first|(apply OQ.aD;exact Tryz.underlying23;exact vS;rfl;rfl;exact b32)|(apply OQ.load;exact FR;rfl;exact (.there .here);exact (Row.cell hcb))|(apply OQ.JS;rfl;rfl)|(apply OQ.KE (b:=1#8) (r:=bt c);rfl;rfl;exact hbit)|(apply OQ.move;rfl)|(apply OQ.assign;rfl)|(apply OQ.jk;rfl;rfl;exact (by (try simp only []);omega);exact (by (try simp only []);omega))|(apply OQ.AZ;rfl;rfl;exact (by (try simp only []);omega))|(apply OQ.CE;rfl;rfl;exact (by (try simp only []);omega);exact (by (try simp only []);omega))) rfl ?_ | refine JC.seq ?_ | refine JC.region ?_ | refine JC.block ?_ | refine JC.skip ?_ | refine JL.nil ?_ | refine JE.next ?_)
      refine JC.tail 7 eD (by kernel_rfl) ?_
      simp only [List.take_succ_cons,List.take_zero,List.drop_succ_cons,List.drop_zero]
      repeat (first | refine JQ.q (by first|(apply OQ.af (cs:=s.l.map aj);exact F8;exact xu;rfl;exact .here;rfl;exact Row.all)|(apply OQ.af (cs:=x1.l.map aj);exact en;exact bZ;rfl;exact (by repeat (first | exact Has.here | apply Has.there));rfl;exact Row.all)|(apply OQ.au (vs:=[.agg (s.l.map aj).toArray,U8 (bt c)]);exact lJ;rfl;exact (fun w' _=>c1 w'))|(apply OQ.au (vs:=[.agg (s1.l.map aj).toArray,.agg (x1.l.map aj).toArray]);exact vv;rfl;exact (fun w' _=>c2 w'))|(apply OQ.au (vs:=[.agg (s2.l.map aj).toArray,U8 (bt c)]);exact lJ;rfl;exact (fun w' _=>c3 w'))|(apply OQ.move;rfl)) rfl ?_ | refine JQ.bC ?_)
      refine JL.ag (cs:=s3.l.map aj) xu rfl rfl rfl (bn _) .here rfl ?_
      rw [← hs3]
      repeat (first | refine JL.q (by first|(apply OQ.move;rfl)|(apply OQ.aY;rfl;rfl;exact (by (try simp only []);omega))) rfl ?_ | refine JC.region ?_ | refine JL.nil ?_ | refine JE.next ?_ | refine JE.an ?_)
      exact JE.again (i:=n) (n+1) (by omega) (by omega) (by repeat (first | exact ai.nil | refine ai.cons _ _ _ rfl ?_)) (aq.refl _)
    · have hn' : ¬ n<255:=of_decide_eq_false h
      obtain rfl : n=255:=by omega
      clear h hn hn'
      generalize js x1 (le K) 255=s at eM ⊢
      obtain ⟨x2,z2,x3,z3⟩:=s
      have c1:=xq z2
      have c2:=aT x2 (r9 z2)
      have c3:=El (cI x2 (r9 z2))
      have eM' : Ju (cI x2 (r9 z2))=R:=eM
      rw [eM'] at c3
      clear eM eM'
      generalize cI x2 (r9 z2)=q at c2 c3
      generalize r9 z2=v at c1 c2
      have hR : (R.map U8).length=32:=by rw [List.length_map];exact lM
      repeat (first | refine JC.seq ?_ | refine JC.exit ?_ | refine JE.next ?_ | refine JE.ax ?_ | refine JE.aA ?_)
      refine JC.tail 7 eD (by kernel_rfl) ?_
      simp only [List.take_succ_cons,List.take_zero,List.drop_succ_cons,List.drop_zero]
      repeat (first | refine JQ.q (by first|(apply OQ.af (cs:=x2.l.map aj);exact en;exact bZ;rfl;exact .here;rfl;exact (Row.cells rfl))|(apply OQ.af (cs:=z2.l.map aj);exact en;exact bZ;rfl;exact .here;rfl;exact (Row.cells rfl))|(apply OQ.au (vs:=[.agg (z2.l.map aj).toArray]);exact vu;rfl;exact (fun w' _=>c1 w'))|(apply OQ.au (vs:=[.agg (x2.l.map aj).toArray,.agg (v.l.map aj).toArray]);exact aO;rfl;exact (fun w' _=>c2 w'))|(apply OQ.au (vs:=[.agg (q.l.map aj).toArray]);exact BX;rfl;exact (fun w' _=>c3 w'))|(apply OQ.bM;rfl;rfl;rfl;exact (by decide);rfl)) rfl ?_ | refine JQ.bC ?_)
      refine JL.ag (cs:=R.map U8) aB rfl rfl hR (aV _) (by repeat (first | exact eJ.here | apply eJ.there)) (by simp) ?_
      repeat (first | refine JL.nil ?_ | refine JE.next ?_)
      refine JC.ret (JE.aQ rfl (RV.av aP aB rfl (by repeat (first | exact Has.here | apply Has.there)) hR Row.all) ?_)
      exact fun w' hw=>⟨rfl,hw.aL⟩
set_option maxHeartbeats 8000000 in
theorem qj (k : List By) (hk : k.length=32) (w : World) : Calls Tryz.prog 33 [.agg (k.map U8).toArray].toArray w fun e w'=>e=.returned (.agg ((aN k (qt 9)).map U8).toArray)∧Ext w w':=by
  have c:=mJ k (qt 9) hk rfl
  have hlk : (k.map U8).length=32:=by rw [List.length_map];exact hk
  have hly : ((aN k (qt 9)).map U8).length=32:=by rw [List.length_map];exact mI _ _
  generalize aN k (qt 9)=Y at c hly ⊢
  refine enter (n:=6) Tryz.func33 rfl rfl rfl (ah.start w []) ?_
  repeat (first | refine JC.seq ?_ | refine JC.region ?_)
  refine JL.box (r:=k.map U8) rfl rfl rfl fun b1 _=>?_
  refine JL.alloc gR rfl fun b2 _=>?_
  repeat (first | refine JL.q (by (apply OQ.af (cs:=k.map U8);exact aP;exact aB;rfl;exact (.there .here);exact hlk;exact Row.all)) rfl ?_ | refine JC.seq ?_ | refine JC.region ?_ | refine JL.nil ?_ | refine JE.next ?_)
  refine JL.q (OQ.pure (v:=.agg ((qt 9).map U8).toArray) rfl rfl (by kernel_rfl)) rfl ?_
  repeat (refine JL.q (by (apply OQ.au (vs:=[.agg (k.map U8).toArray,.agg ((qt 9).map U8).toArray]);exact kC;rfl;exact (fun w' _=>c w'))) rfl ?_)
  refine JL.ag (cs:=Y.map U8) aB rfl rfl hly (aV _) .here (by simp) ?_
  repeat (first | refine JL.nil ?_ | refine JE.next ?_)
  refine JC.ret (JE.aQ rfl (RV.av aP aB rfl .here hly Row.all) ?_)
  exact fun w' hw=>⟨rfl,hw.aL⟩
end
section
set_option maxRecDepth 10000
open Sl dO
section
variable {P : Program} {n : Nat} {E : Env} {C : World→Prop} {dst : Option Tmp} {ty t t' : TypeId} {pos : String} {aft : Array Edge} {g : Option (Nat × Bool)} {x y : Operand} {v u : Value} {cs : List Value}
theorem OQ.I2 (hx : ev E x=some v) (hy : ev E y=some u) (h : P.built t [(0,v),(1,u)]=some cs.toArray) : OQ P n E C ⟨dst,.build t #[(0,x),(1,y)],ty,pos,aft,g⟩ (.agg cs.toArray):=
  OQ.run fun a ha w _=>by
    have h1:=ha.eval hx
    have h2:=ha.eval hy
    have r:=run_build w t #[(0,v),(1,u)] cs.toArray (by simpa using h)
    simp [execOp,h1,h2,r]
end
theorem KF (place : Nat→Option (Nat × Nat)) (h0 : place 0=some (0,32)) (h1 : place 1=some (32,32)) (a b : List By) (ha : a.length=32) (hb : b.length=32) :
    Instr.fill place (((List.replicate 64 (0 : By)).map U8).toArray) [(0,.agg (a.map U8).toArray),(1,.agg (b.map U8).toArray)]=some ((a++b).map U8).toArray:=by
  have e : Instr.fill place (((List.replicate 64 (0 : By)).map U8).toArray) [(0,.agg (a.map U8).toArray),(1,.agg (b.map U8).toArray)] =
      Instr.fill (fun i=>some (i * 32,32)) (((List.replicate 64 (0 : By)).map U8).toArray) [(0,.agg (a.map U8).toArray),(1,.agg (b.map U8).toArray)]:=by
    simp [Instr.fill,h0,h1]
  rw [e]
  obtain ⟨r,h6,h7,h8⟩:=Great.fill_dense (s:=32) (by decide) [.agg (a.map U8).toArray,.agg (b.map U8).toArray] 0 (((List.replicate 64 (0 : By)).map U8).toArray) (by simp [Value.cells,ha,hb]) (by simp)
  simp only [List.zipIdx_cons,List.zipIdx_nil,List.map_cons,List.map_nil] at h6
  have hr : r=((a++b).map U8).toArray:=by
    apply Array.ext_getElem?
    intro k
    rw [h8 k]
    by_cases hk : k<32
    · rw [if_pos (by simp;omega)]
      simp [Nat.div_eq_of_lt hk,Nat.mod_eq_of_lt hk,Value.cells,List.getElem?_append,ha,hk]
    · by_cases hk2 : k<64
      · rw [if_pos (by simp;omega)]
        have d : k / 32=1:=by omega
        have m : k % 32=k - 32:=by omega
        simp [d,m,Value.cells,List.getElem?_append,ha,hk]
      · rw [if_neg (by simp;omega),Array.getElem?_eq_none (by simp;omega),Array.getElem?_eq_none (by simp;omega)]
  rw [← hr]
  exact h6
theorem xA : dJ Tryz.prog 46=some 64:=by kernel_rfl
theorem Em : gm Tryz.prog 46=true:=by kernel_rfl
theorem I3 : zc Tryz.prog 46=some ((List.replicate 64 (0 : By)).map U8):=by kernel_rfl
theorem zn (a b : List By) (ha : a.length=32) (hb : b.length=32) : Tryz.prog.built 46 [(0,.agg (a.map U8).toArray),(1,.agg (b.map U8).toArray)]=some ((a++b).map U8).toArray:=by
  have h : Tryz.prog.built 46 [(0,.agg (a.map U8).toArray),(1,.agg (b.map U8).toArray)]=Instr.fill (fun i=>#[(0,32),(32,32)][i]?) (((List.replicate 64 (0 : By)).map U8).toArray) [(0,.agg (a.map U8).toArray),(1,.agg (b.map U8).toArray)]:=by kernel_rfl
  rw [h]
  exact KF _ rfl rfl a b ha hb
theorem pJ : aK Tryz.prog 15:=⟨_,Tryz.func15,rfl,by kernel_rfl⟩
theorem vw : aK Tryz.prog 35:=⟨_,Tryz.func35,rfl,by kernel_rfl⟩
set_option maxHeartbeats 8000000 in
theorem sj (k : List By) (hk : k.length=32) (w : World) : Calls Tryz.prog 15 [.agg (k.map U8).toArray].toArray w fun e w'=>e=.returned (.agg ((k++aN k (qt 9)).map U8).toArray)∧Ext w w':=by
  have c:=qj k hk
  have hY:=mI k (qt 9)
  generalize aN k (qt 9)=Y at c hY ⊢
  have hlk : (k.map U8).length=32:=by rw [List.length_map];exact hk
  have hlp : ((k++Y).map U8).length=64:=by rw [List.length_map,List.length_append,hk,hY]
  have bt:=zn k Y hk hY
  refine enter (n:=7) Tryz.func15 rfl rfl rfl (ah.start w []) ?_
  repeat (first | refine JC.seq ?_ | refine JC.region ?_)
  refine JL.box (r:=k.map U8) rfl rfl rfl fun b1 _=>?_
  refine JL.alloc I3 rfl fun b2 _=>?_
  repeat (first | refine JC.seq ?_ | refine JL.nil ?_ | refine JE.next ?_)
  refine JC.tail 4 eD (by kernel_rfl) ?_
  simp only [List.take_succ_cons,List.take_zero,List.drop_succ_cons,List.drop_zero]
  repeat (first | refine JQ.q (by first|(apply OQ.af (cs:=k.map U8);exact aP;exact aB;rfl;exact (by repeat (first | exact Has.here | apply Has.there));exact hlk;exact Row.all)|(apply OQ.au (vs:=[.agg (k.map U8).toArray]);exact oK;rfl;exact (fun w' _=>c w'))|(apply OQ.I2;rfl;rfl;exact bt)) rfl ?_ | refine JQ.bC ?_)
  refine JL.ag (cs:=(k++Y).map U8) xA rfl rfl hlp (aV _) .here (by simp) ?_
  repeat (first | refine JL.nil ?_ | refine JE.next ?_)
  refine JC.ret (JE.aQ rfl (RV.av Em xA rfl .here hlp Row.all) ?_)
  exact fun w' hw=>⟨rfl,hw.aL⟩
theorem En {a b : List By} (_ha : a.length=32) : (((a++b).map U8).drop 0).take (a.map U8).length=a.map U8:=by
  simp [List.map_append]
theorem Hu {a b : List By} (ha : a.length=32) : (((a++b).map U8).drop 32).take (b.map U8).length=b.map U8:=by
  rw [List.map_append,List.drop_left' (by rw [List.length_map];exact ha),List.take_of_length_le (Nat.le_refl _)]
set_option maxHeartbeats 8000000 in
theorem xB (a Y u : List By) (ha : a.length=32) (hY : Y.length=32) (hu : u.length=32) (w : World) : Calls Tryz.prog 35 [.agg ((a++Y).map U8).toArray,.agg (u.map U8).toArray].toArray w
    fun e w'=>e=.returned (.agg ((aN a u).map U8).toArray)∧Ext w w':=by
  have c:=mJ a u ha hu
  have hla : (a.map U8).length=32:=by rw [List.length_map];exact ha
  have hlu : (u.map U8).length=32:=by rw [List.length_map];exact hu
  have hR : ((aN a u).map U8).length=32:=by rw [List.length_map];exact mI _ _
  have h0:=En (b:=Y) ha
  generalize aN a u=R at c hR ⊢
  refine enter (n:=9) Tryz.func35 rfl rfl rfl (ah.start w []) ?_
  repeat (first | refine JC.seq ?_ | refine JC.region ?_)
  refine JL.box (r:=(a++Y).map U8) rfl rfl rfl fun b2 _=>?_
  refine JL.box (r:=u.map U8) rfl rfl rfl fun b3 _=>?_
  refine JL.alloc gR rfl fun b4 _=>?_
  repeat (first | refine JL.q (by first|(apply OQ.af (cs:=a.map U8);exact aP;exact aB;rfl;exact (by repeat (first | exact Has.here | apply Has.there));exact hla;exact (Row.cells h0))|(apply OQ.af (cs:=u.map U8);exact aP;exact aB;rfl;exact (by repeat (first | exact Has.here | apply Has.there));exact hlu;exact Row.all)|(apply OQ.au (vs:=[.agg (a.map U8).toArray,.agg (u.map U8).toArray]);exact kC;rfl;exact (fun w' _=>c w'))|(apply OQ.bM;rfl;rfl;rfl;exact (by decide);rfl)) rfl ?_ | refine JC.seq ?_ | refine JC.region ?_ | refine JL.nil ?_ | refine JE.next ?_)
  refine JL.ag (cs:=R.map U8) aB rfl rfl hR (aV _) .here (by simp) ?_
  repeat (first | refine JL.nil ?_ | refine JE.next ?_)
  refine JC.ret (JE.aQ rfl (RV.av aP aB rfl .here hR Row.all) ?_)
  exact fun w' hw=>⟨rfl,hw.aL⟩
end
section
open Sl g5 lz dO
namespace mP
open pT ia
def zp : ByteArray:=⟨#[114,97,116,99,104,101,116]⟩
def lO (root sh : Bk) : Bk:=iS (bS root sh) (bytesOf zp) (2 * 32)
def cq (root sh : Bk) : Bk:=(lO root sh).take 32
def dX (root sh : Bk) : Bk:=(lO root sh).drop 32
theorem mK (a b : Bk) : (lO a b).length=64:=dn _ _ _
theorem fy (a b : Bk) : (cq a b).length=32:=by simp [cq,mK]
theorem eH (a b : Bk) : (dX a b).length=32:=by simp [dX,mK]
def mU (c : Bk) : Bk:=bS c [2]
def kD (c : Bk) : Bk:=bS c [1]
def dN : Bk:=List.replicate 32 0
def xC : Bk:=List.replicate 12 0
def gU (k : Bk) : Bk:=aN k (qt 9)
theorem iO (k : Bk) : (gU k).length=32:=iL _
theorem vC (k u : Bk) : (aN k u).length=32:=iL _
def ep (root own other : Bk) : bA:=⟨cq root (aN own other),own,other,true,false,dX root (aN own other),dN,0,0,0,[]⟩
def fJ (root own : Bk) : bA:=⟨root,own,dN,false,false,dN,dN,0,0,0,[]⟩
theorem pK (root own other : Bk) (h2 : own.length=32) (h3 : other.length=32) : (ep root own other).ok:=
  ⟨fy _ _,h2,h3,eH _ _,rfl,nofun⟩
theorem nQ (root own : Bk) (h1 : root.length=32) (h2 : own.length=32) : (fJ root own).ok:=⟨h1,h2,rfl,rfl,rfl,nofun⟩
def sn (s : bA) : Hd:=⟨gU s.own,s.prev,s.sent⟩
def jd (key side p : Bk) : Bk:=qf (k1 key) (k2 key) xC side p
def gZ (key side z : Bk) : Bk × Nat:=gP (k1 key) (k2 key) xC side z
def xD (s : bA) : bA:={ s with send:=mU s.send,sent:=s.sent+1 }
def vD (s : bA) (side p : Bk) : Bk:=dP (sn s)++jd (kD s.send) (side++dP (sn s)) p
def jt (s : bA) (side p : Bk) : bA × Bk × Nat:=
  if s.bY=false then (s,[],13) else if 2147483647≤s.sent then (s,[],12) else (xD s,vD s side p,0)
theorem so (s : bA) : (sn s).chain.length=32:=iO _
theorem vE {s : bA} (h : s.ok) : (xD s).ok:=⟨h.root,h.own,h.other,rfl,h.take,h.kept⟩
def Hv : Nat→Bk→Bk
  | 0,c=>c
  | k+1,c=>Hv k (mU c)
def BZ (o : Bk) : Nat→Nat→Bk→List Kp
  | 0,_,_=>[]
  | k+1,t,c=>⟨o,t,kD c⟩::BZ o k (t+1) (mU c)
theorem sr : ∀ (k : Nat) (c : Bk),Hv (k+1) c=mU (Hv k c)
  | 0,_=>rfl
  | k+1,c=>sr k (mU c)
theorem Ga {c : Bk} (h : c.length=32) : ∀ k : Nat,(Hv k c).length=32
  | 0=>h
  | k+1=>by rw [sr];rfl
theorem vF (o : Bk) : ∀ (k t : Nat) (c : Bk),(BZ o k t c).length=k
  | 0,_,_=>rfl
  | k+1,t,c=>by rw [BZ,List.length_cons,vF o k]
theorem xE (o : Bk) : ∀ (k t : Nat) (c : Bk),BZ o (k+1) t c=BZ o k t c++[⟨o,t+k,kD (Hv k c)⟩]
  | 0,t,c=>rfl
  | k+1,t,c=>by
    rw [BZ,xE o k (t+1) (mU c),BZ,List.cons_append,show t+1+k=t+(k+1) by omega]
    rfl
theorem Eo {o : Bk} (ho : o.length=32) : ∀ (k t : Nat) (c : Bk),∀ x ∈ BZ o k t c,x.ok
  | 0,_,_,x,h=>by cases h
  | k+1,t,c,x,h=>by
    rcases List.mem_cons.1 h with rfl | h
    · exact ⟨ho,rfl⟩
    · exact Eo ho k _ _ x h
def keep (l : List Kp) : List Kp:=(l.reverse.take 2000).reverse
theorem oL (l : List Kp) : keep l=l.drop (l.length - 2000):=by rw [keep,List.take_reverse,List.reverse_reverse]
theorem Ep {l : List Kp} {x : Kp} (h : x ∈ keep l) : x ∈ l:=by
  rw [oL] at h
  exact List.mem_of_mem_drop h
theorem Gb {l : List Kp} (h : l.length≤2000) : keep l=l:=by
  rw [oL,show l.length - 2000=0 by omega]
  rfl
theorem Er (l : List Kp) : (keep l).length≤2000:=by rw [oL,List.length_drop];omega
def trim (s : bA) : bA:={ s with kept:=keep s.kept }
theorem pM (s : bA) : (trim s).kept=keep s.kept:=rfl
theorem AF {s : bA} (h : s.ok) : (trim s).ok:=by
  refine ⟨h.root,h.own,h.other,h.send,h.take,fun x hx=>?_⟩
  rw [pM] at hx
  exact h.kept x (Ep hx)
theorem AG {s : bA} (h : s.kept.length≤2000) : trim s=s:=by cases s;rw [trim,Gb h]
def mL (s : bA) (k : Nat) : bA:={ s with take:=Hv k s.take,taken:=s.taken+k,kept:=s.kept++BZ s.other k s.taken s.take }
def leave (s : bA) (to : Nat) : Option bA:=
  if 1000<to - s.taken then none else some (trim (mL s (to - s.taken)))
theorem lQ (s : bA) : mL s 0=s:=by cases s;simp [mL,Hv,BZ]
theorem zq {s : bA} (h : s.ok) (k : Nat) : (mL s k).ok:=⟨h.root,h.own,h.other,h.send,Ga h.take k,fun x hx=>by
  rcases List.mem_append.1 hx with hx | hx
  · exact h.kept x hx
  · exact Eo h.other _ _ _ x hx⟩
theorem su {s : bA} {to : Nat} (h : 1000<to - s.taken) : leave s to=none:=by rw [leave,if_pos h]
theorem nR {s : bA} {to : Nat} (h : ¬ 1000<to - s.taken) : leave s to=some (trim (mL s (to - s.taken))):=by rw [leave,if_neg h]
theorem Es {s : bA} {to : Nat} (h : to≤s.taken) (hk : s.kept.length≤2000) : leave s to=some s:=by
  rw [nR (by omega),show to - s.taken=0 by omega,lQ,AG hk]
theorem lR {s n : bA} {to : Nat} (h : s.ok) (e : leave s to=some n) : n.ok∧n.kept.length≤2000∧n.taken=max s.taken to:=by
  rw [leave] at e
  split at e
  · cases e
  · cases e
    refine ⟨AF (zq h _),by rw [pM];exact Er _,?_⟩
    show s.taken+(to - s.taken)=_
    omega
def iP (n : bA) (ch fresh : Bk) : bA:=
  ⟨cq (cq n.root (aN n.own ch)) (aN fresh ch),fresh,ch,true,true,dX (cq n.root (aN n.own ch)) (aN fresh ch),dX n.root (aN n.own ch),0,0,n.sent,n.kept⟩
theorem pN {n : bA} (h : n.ok) {ch fresh : Bk} (hc : ch.length=32) (hf : fresh.length=32) : (iP n ch fresh).ok:=
  ⟨fy _ _,hf,hc,eH _ _,eH _ _,h.kept⟩
def nU (s : bA) (h : Hd) (fresh : Bk) : Option bA:=
  if s.takes=true then (leave s h.prev).map fun n=>iP n h.chain fresh else some (iP s h.chain fresh)
def sv (h : Hd) (k : Kp) : Bool:=decide (k.chain=h.chain) && decide (k.num=h.num)
def sw (h : Hd) (l : List Kp) : Option Nat:=l.findIdx? (sv h)
def kE (s : bA) (h : Hd) (fresh : Bk) : Option bA:=if h.chain=s.other∧s.takes=true then some s else nU s h fresh
def ee (m : bA) : bA:={ m with take:=mU m.take,taken:=m.taken+1 }
def jO (s : bA) (h : Hd) (fresh : Bk) : Nat ⊕ (bA × Bk):=
  match sw h s.kept with
  | some i=>.inr ({ s with kept:=s.kept.eraseIdx i },(s.kept.getD i mQ).key)
  | none=>match kE s h fresh with
    | none=>.inl 12
    | some n=>if h.num<n.taken then .inl 11 else match leave n h.num with
      | none=>.inl 12
      | some m=>.inr (ee m,kD m.take)
def fG (s : bA) (side z fresh : Bk) : bA × Bk × Nat:=
  match dI z with
  | none=>(s,[],3)
  | some (h,rest)=>match jO s h fresh with
    | .inl c=>(s,[],c)
    | .inr (n,key)=>if (gZ key (side++dP h) rest).2=0 then (n,(gZ key (side++dP h) rest).1,0) else (s,[],(gZ key (side++dP h) rest).2)
theorem qk {s : bA} (h : s.ok) (i : Nat) : ({ s with kept:=s.kept.eraseIdx i } : bA).ok:=⟨h.root,h.own,h.other,h.send,h.take,fun x hx=>h.kept x (List.mem_of_mem_eraseIdx hx)⟩
theorem oM {s : bA} (h : s.ok) : (ee s).ok:=⟨h.root,h.own,h.other,h.send,rfl,h.kept⟩
theorem vG {s n : bA} {h : Hd} {fresh : Bk} (hs : s.ok) (hc : h.chain.length=32) (hf : fresh.length=32) (hk : s.kept.length≤2000) (e : nU s h fresh=some n) : n.ok∧n.kept.length≤2000∧n.taken=0:=by
  rw [nU] at e
  split at e
  · obtain ⟨m,hm,rfl⟩:=Option.map_eq_some_iff.1 e
    have:=lR hs hm
    exact ⟨pN this.1 hc hf,this.2.1,rfl⟩
  · cases e
    exact ⟨pN hs hc hf,hk,rfl⟩
theorem B0 {key side z : Bk} (h : ¬ (gZ key side z).2=0) : (gZ key side z).1=[]:=by
  rw [gZ,gP] at h ⊢
  split
  · rfl
  · split at h
    · omega
    · split
      · next h2=>rw [if_pos h2] at h;exact absurd rfl h
      · rfl
theorem oN {s : bA} {side z fresh : Bk} (hh : dI z=none) : fG s side z fresh=(s,[],3):=by rw [fG,hh]
theorem mM {s : bA} {side z fresh rest : Bk} {h : Hd} {c : Nat} (hh : dI z=some (h,rest)) (hm : jO s h fresh=.inl c) : fG s side z fresh=(s,[],c):=by
  rw [fG,hh]
  dsimp only
  rw [hm]
theorem oO {s n : bA} {side z fresh rest key : Bk} {h : Hd} (hh : dI z=some (h,rest)) (hm : jO s h fresh=.inr (n,key)) (ho : (gZ key (side++dP h) rest).2=0) : fG s side z fresh=(n,(gZ key (side++dP h) rest).1,0):=by
  rw [fG,hh]
  dsimp only
  rw [hm]
  dsimp only
  rw [if_pos ho]
theorem sx {s n : bA} {side z fresh rest key : Bk} {h : Hd} (hh : dI z=some (h,rest)) (hm : jO s h fresh=.inr (n,key)) (ho : ¬ (gZ key (side++dP h) rest).2=0) : fG s side z fresh=(s,[],(gZ key (side++dP h) rest).2):=by
  rw [fG,hh]
  dsimp only
  rw [hm]
  dsimp only
  rw [if_neg ho]
theorem xF {s : bA} {h : Hd} {fresh : Bk} {i : Nat} (hx : sw h s.kept=some i) : jO s h fresh=.inr ({ s with kept:=s.kept.eraseIdx i },(s.kept.getD i mQ).key):=by rw [jO,hx]
theorem sy {s : bA} {h : Hd} {fresh : Bk} (hx : sw h s.kept=none) (ho : kE s h fresh=none) : jO s h fresh=.inl 12:=by
  rw [jO,hx]
  dsimp only
  rw [ho]
theorem AH {s n : bA} {h : Hd} {fresh : Bk} (hx : sw h s.kept=none) (ho : kE s h fresh=some n) (hn : h.num<n.taken) : jO s h fresh=.inl 11:=by
  rw [jO,hx]
  dsimp only
  rw [ho]
  dsimp only
  rw [if_pos hn]
theorem AI {s n : bA} {h : Hd} {fresh : Bk} (hx : sw h s.kept=none) (ho : kE s h fresh=some n) (hn : ¬ h.num<n.taken) (hl : leave n h.num=none) : jO s h fresh=.inl 12:=by
  rw [jO,hx]
  dsimp only
  rw [ho]
  dsimp only
  rw [if_neg hn,hl]
theorem AJ {s n m : bA} {h : Hd} {fresh : Bk} (hx : sw h s.kept=none) (ho : kE s h fresh=some n) (hn : ¬ h.num<n.taken) (hl : leave n h.num=some m) : jO s h fresh=.inr (ee m,kD m.take):=by
  rw [jO,hx]
  dsimp only
  rw [ho]
  dsimp only
  rw [if_neg hn,hl]
end mP
end
section
open Sl g5 lz dO
namespace mP
open pT ia
end mP
end
section
set_option maxRecDepth 10000
namespace Sl
section
variable {P : Program} {t tx e : TypeId}
theorem qu (w : World) (ty : TypeId) (i : TypeInfo) (ht : P.underlying t=some (.slice e)) (hk : P.underlying tx=some (.int .i64)) (hi : P.info? e=some i) (hz : i.zero=some (.int .u8 0)) (hs : i.size=1) (hb : i.bytes=1)
    (m : Nat) (hm : m≤281474976710656) (h0 : 0<m) (hfit : Builtin.nextslicecap m 0 * i.bytes≤281474976710656) :
    (Builtin.append_ #[t,tx] ty #[.slice none 0 0,N m]).run P w =
      .ok (.slice (some ⟨w.heap.size,0,none⟩) m (grownCap w m 0 e))
        (w.drew.alloc (.cells ((List.replicate m (Value.int .u8 0)).toArray++Builtin.zeroCells #[.int .u8 0] (grownCap w m 0 e - m)) e)):=by
  have h48' : ¬ (281474976710656<Builtin.nextslicecap m 0):=by rw [hb] at hfit;omega
  have hw : IntKind.i64.wrap (m : Int)=m:=jv (by omega) (by omega)
  have h1 : ¬ ((m : Int)<0):=by omega
  have h2 : ¬ ((281474976710656 : Int)<(m : Int)):=by omega
  have h3 : ¬ (m=0):=by omega
  have h63' : ¬ (9223372036854775807<(m : Int)):=by omega
  have hz' : (Value.int .u8 0).cells=#[Value.int .u8 0]:=rfl
  simp [Builtin.append_,Builtin.firstCells,run_underlying ht,run_underlying hk,sizeOf,typeInfo,zeroValue,hi,hz,hs,hb,asInt,asIntOf,N,hw,h1,h2,h3,h63',h48',Question.forced,newRow,grownCap,hz',uD]
variable {n : Nat} {w0 : World} {S : List Nat} {ops : Array Oper} {Q : Exit→Act→World→Prop} {l : List Oper} {E : Env} {M : List aG} {d b : Nat} {ty : TypeId} {pos : String} {aft : Array Edge} {x y : Operand}
theorem JL.Et {m : Nat} (hu : P.underlying t=some (.slice e)) (hk : P.underlying tx=some (.int .i64)) (hi : EI P e (.int .u8 0) 1 1) (hx : ev E x=some (.slice none 0 0)) (hy : ev E y=some (N m)) (h0 : 0<m)
    (hsm : m≤140737488355328) (hd : Nat.blt d n=true)
    (kk : ∀ b' cap',JL P n w0 S ops Q l ((d,.slice (some ⟨b',0,none⟩) m cap')::E) (⟨b',Sl.aE e 1 m cap' (List.replicate m (Value.int .u8 0)),true⟩::M)) : JL P n w0 S ops Q (⟨some d,.call ⟨.builtin .append,#[x,y],#[t,tx]⟩,ty,pos,aft,none⟩::l) E M:=
  ⟨fun a w ha hw=>wpList_plain rfl fun K hK=>by
    obtain ⟨i,hi1,hi2,hi3,hi4⟩:=hi.get
    unfold Oper.wp
    simp only [execOp,resolve,invoke,builtin,Sem.run_bind,Sem.run_pure,Result.andThen_ok,List.map_toArray,List.map_cons,List.map_nil,ha.eval hx,ha.eval hy]
    have hfit:=growslice_fits (need:=m) (old:=0) (bytes:=1) (by omega) (by omega)
    rw [qu w ty i hu hk hi1 hi2 hi3 hi4 m (by omega) h0 (by rw [hi4];exact hfit)]
    have hge:=grownCap_ge w m 0 e
    generalize grownCap w m 0 e=nc at hge
    refine hK _ _ ((kk w.heap.size nc).go _ _ (ha.put d _ hd) (hw.push (.cells ((List.replicate m (Value.int .u8 0)).toArray++Builtin.zeroCells #[.int .u8 0] (nc - m)) e) ?_ rfl rfl rfl rfl))
    refine ⟨(Builtin.zeroCells #[.int .u8 0] (nc - m)).toList,by simp,?_,by rw [List.length_replicate,Nat.mul_one],hge⟩
    have h8 : (Builtin.zeroCells #[.int .u8 0] (nc - m)).size=nc - m:=by simp [Builtin.zeroCells]
    simp only [List.length_append,Array.length_toList,h8,List.length_replicate]
    omega⟩
end
end Sl
end
section
set_option maxRecDepth 10000
open Sl
theorem KG : ie Tryz.prog 27=true:=by kernel_rfl
theorem Gc : dJ Tryz.prog 27=some 1:=by kernel_rfl
theorem zu : aK Tryz.prog 61:=⟨_,Tryz.func61,rfl,by kernel_rfl⟩
theorem kF : aK Tryz.prog 39:=⟨_,Tryz.func39,rfl,by kernel_rfl⟩
theorem Eu {e : TypeId} {k cap : Nat} {xs : List Value} : ∀ o,Sl.aE e 1 k cap xs o→Sl.aE e 1 0 cap [] o:=by
  rintro o ⟨sp,rfl,h1,h2,h3⟩
  exact ⟨xs++sp,rfl,by simpa using h1,rfl,Nat.zero_le _⟩
set_option maxHeartbeats 4000000 in
theorem B1 (m : Nat) (h0 : 0<m) (hm : m≤1000000000) (w : World) :
    Calls Tryz.prog 61 [.slice none 0 0,N m].toArray w fun e w'=>∃ x : Nat × Nat,e=.returned (.slice (some ⟨x.1,0,none⟩) 0 x.2)∧ah w [] [⟨x.1,Sl.aE 5 1 0 x.2 [],true⟩] w':=by
  refine enter (n:=27) Tryz.func61 rfl rfl rfl (ah.start w []) ?_
  repeat (first | refine JL.q (by first|(apply OQ.gu (a:=m) (b:=0);rfl;rfl;exact (by omega))|(apply OQ.move;rfl)|(apply OQ.assign;rfl)) rfl ?_ | refine JC.seq ?_ | refine JC.region ?_ | refine JL.nil ?_ | refine JE.next ?_)
  refine JC.cond_false rfl rfl ?_
  repeat (first | refine JL.q (by first|(apply OQ.JW (k:=0) (cap:=0) (ad:=none);exact Tryz.underlying27;rfl)|(apply OQ.len (k:=0) (cap:=0) (ad:=none);exact Tryz.underlying27;rfl)|(apply OQ.jk (a:=0) (b:=0);rfl;rfl;exact (by decide);exact (by decide))|(apply OQ.jk (a:=m) (b:=0);rfl;rfl;exact (by omega);exact (by omega))|(apply OQ.CL (a:=m - 0) (b:=0);rfl;rfl;exact (by omega))|(apply OQ.move;rfl)|(apply OQ.assign;rfl)) rfl ?_ | refine JC.seq ?_ | refine JC.region ?_ | refine JC.skip ?_ | refine JL.nil ?_ | refine JE.next ?_)
  refine JC.cond_true rfl rfl ?_
  repeat (first | refine JL.q (by first|(apply OQ.JW (k:=0) (cap:=0) (ad:=none);exact Tryz.underlying27;rfl)|(apply OQ.nw (hi:=0) (len:=0) (cap:=0) (ad:=none);exact Tryz.underlying27;exact kM;rfl;rfl;exact (by decide))|(apply OQ.move;rfl)) rfl ?_ | refine JC.region ?_)
  refine JL.Et (m:=m - 0) Tryz.underlying27 Tryz.underlying3 zS rfl rfl (by omega) (by omega) rfl fun b cap=>?_
  rw [Nat.sub_zero]
  refine JL.JV (b:=b) .here (fun ob hA=>by obtain ⟨sp,_,_,_,h3⟩:=hA;exact h3) fun hcap=>?_
  repeat (first | refine JL.q (by first|(apply OQ.len (k:=0) (cap:=0) (ad:=none);exact Tryz.underlying27;rfl)|(apply OQ.to;exact (OQ.nw (ad:=some ⟨b,0,none⟩) (len:=m) (cap:=cap) (hi:=0) Tryz.underlying27 kM rfl rfl (Nat.zero_le _));exact wk)|(apply OQ.move;rfl)|(apply OQ.assign;rfl)) rfl ?_ | refine JC.seq ?_ | refine JC.region ?_ | refine JL.nil ?_ | refine JE.next ?_)
  exact JC.ret (JE.aQ rfl (RV.tmp rfl) fun w' hw=>⟨(b,cap),rfl,hw.weak (.keep _ _ _ _ _ _ Eu (.nil _))⟩)
def lS (a b : aM) : Nat→List Bt
  | 0=>[]
  | 1=>a.l
  | _=>a.l++b.l
def I4 (a b : aM) : Nat→aM
  | 0=>a
  | _=>b
theorem zw {i : Nat} (h : i<2) : i=0∨i=1:=by omega
theorem uh (a b : aM) {i : Nat} (h : i<2) : lS a b (i+1)=lS a b i++(I4 a b i).l:=by
  rcases zw h with rfl | rfl <;> rfl
theorem Ev (a b : aM) {i : Nat} (h : i<2) : [a.v,b.v][i]?=some (I4 a b i).v:=by
  rcases zw h with rfl | rfl <;> rfl
theorem AK (a b : aM) (i : Nat) : (lS a b i).length≤a.l.length+b.l.length:=by
  match i with
  | 0=>exact Nat.zero_le _
  | 1=>exact Nat.le_add_right _ _
  | i+2=>exact Nat.le_of_eq List.length_append
set_option maxHeartbeats 8000000 in
theorem lU (a b : aM) (bs : Nat) (w : World) (ha : a.ok w) (hb : b.ok w) (hs : ∃ o,w.heap[bs]?=some o∧Row 27 [a.v,b.v] o) (h0 : 0<a.l.length+b.l.length) (hl : a.l.length+b.l.length≤1000000000) :
    Calls Tryz.prog 39 [.slice (some ⟨bs,0,none⟩) 2 2].toArray w fun e w'=>∃ x : Nat × Nat,e=.returned (.slice (some ⟨x.1,0,none⟩) (a.l++b.l).length x.2)∧ah w [] [⟨x.1,Sl.aE 5 1 (a.l++b.l).length x.2 ((a.l++b.l).map U8),true⟩] w':=by
  obtain ⟨o,ho,hA⟩:=hs
  have hok : ∀ i,i<2→(I4 a b i).ok w:=fun i h=>by rcases zw h with rfl | rfl <;> assumption
  refine enter (n:=36) Tryz.func39 rfl rfl rfl (ah.seen (S:=[]) ho hA) ?_
  repeat (first | refine JL.q (by first|(apply OQ.len (k:=2);exact Tryz.underlying53;rfl)|(apply OQ.move;rfl)|(apply OQ.assign;rfl)) rfl ?_ | refine JC.seq ?_ | refine JC.region ?_ | refine JC.block ?_ | refine JL.nil ?_ | refine JE.next ?_)
  refine JC.loop (fun i : Nat=>[(0,.slice (some ⟨bs,0,none⟩) 2 2),(3,N (lS a b i).length),(9,.slice (some ⟨bs,0,none⟩) 2 2),(10,N 2),(11,N i)]) (fun _=>[⟨bs,Row 27 [a.v,b.v],false⟩]) (fun i=>2 - i) (fun i=>i≤2) 0 (by decide) (by repeat (first | exact ai.nil | refine ai.cons _ _ _ rfl ?_)) (aq.refl _) ?_
  intro i hi
  repeat (first | refine JL.q (by (apply OQ.bJ (a:=i) (b:=2);rfl;rfl)) rfl ?_ | refine JC.seq ?_ | refine JC.region ?_ | refine JL.nil ?_ | refine JE.next ?_)
  refine JC.cond rfl (fun h=>?_) (fun h=>?_)
  · have hi' : i<2:=of_decide_eq_true h
    clear h
    have hv:=Ev a b hi'
    have hcs:=uh a b hi'
    have hle:=AK a b (i+1)
    have hln : (lS a b (i+1)).length=(lS a b i).length+(I4 a b i).l.length:=by rw [hcs,List.length_append]
    generalize I4 a b i=s at hv hln
    have hcell : ∀ o,Row 27 [a.v,b.v] o→cellAt o (0+i)=some s.v:=by rw [Nat.zero_add];exact Row.cell hv
    repeat (first | refine JL.q (by first|(apply OQ.gN (i:=i) (b:=bs) (j:=0);exact Tryz.underlying53;exact Gc;rfl;rfl;exact hi')|(apply OQ.load (v:=s.v);exact KG;rfl;exact .here;exact hcell)|(apply OQ.len (k:=s.l.length) (ad:=s.ad) (cap:=s.cap);exact Tryz.underlying27;rfl)|(apply OQ.aY (a:=(lS a b i).length) (b:=s.l.length);rfl;rfl;exact (by omega))|(apply OQ.gu (a:=(lS a b i).length+s.l.length) (b:=0);rfl;rfl;exact (by omega))|(apply OQ.move;rfl)|(apply OQ.assign;rfl)) rfl ?_ | refine JC.seq ?_ | refine JC.region ?_ | refine JC.block ?_ | refine JC.skip ?_ | refine JL.nil ?_ | refine JE.next ?_)
    refine JC.cond_false rfl rfl ?_
    repeat (first | refine JL.q (by first|(apply OQ.aY (a:=i) (b:=1);rfl;rfl;exact (by omega))|(apply OQ.move;rfl)) rfl ?_ | refine JC.region ?_ | refine JC.skip ?_ | refine JL.nil ?_ | refine JE.next ?_ | refine JE.an ?_)
    rw [← hln]
    exact JE.again (i:=i) (i+1) hi' (by omega) (by repeat (first | exact ai.nil | refine ai.cons _ _ _ rfl ?_)) (aq.refl _)
  · have hi' : i=2:=by have:=of_decide_eq_false h;omega
    subst hi'
    clear h hi
    have hcl : (lS a b 2).length=a.l.length+b.l.length:=List.length_append
    repeat (first | refine JL.q (by (apply OQ.move;rfl)) rfl ?_ | refine JC.seq ?_ | refine JC.region ?_ | refine JC.exit ?_ | refine JE.next ?_ | refine JE.ax ?_ | refine JE.aA ?_)
    refine JL.bX (ι:=Nat × Nat) (vs:=[.slice none 0 0,N (lS a b 2).length]) (fun x=>.slice (some ⟨x.1,0,none⟩) 0 x.2) (fun x=>[⟨x.1,Sl.aE 5 1 0 x.2 [],true⟩]) zu rfl rfl (fun i=>by simp) (fun w' hw'=>B1 _ (by omega) (by omega) w') ?_
    rintro ⟨bx,cap⟩
    try dsimp only
    repeat (first | refine JL.q (by first|(apply OQ.len (k:=2);exact Tryz.underlying53;rfl)|(apply OQ.move;rfl)|(apply OQ.assign;rfl)) rfl ?_ | refine JC.seq ?_ | refine JC.region ?_ | refine JC.block ?_ | refine JL.nil ?_ | refine JE.next ?_)
    refine JC.loop (fun z : Nat × Nat × Nat=>[(0,.slice (some ⟨bs,0,none⟩) 2 2),(6,.slice (some ⟨z.2.1,0,none⟩) (lS a b z.1).length z.2.2),(25,.slice (some ⟨bs,0,none⟩) 2 2),(26,N 2),(27,N z.1)]) (fun z=>[⟨z.2.1,Sl.aE 5 1 (lS a b z.1).length z.2.2 ((lS a b z.1).map U8),true⟩,⟨bs,Row 27 [a.v,b.v],false⟩]) (fun z=>2 - z.1) (fun z=>z.1≤2) (0,bx,cap) (Nat.zero_le _) (by repeat (first | exact ai.nil | refine ai.cons _ _ _ rfl ?_)) (aq.refl _) ?_
    rintro ⟨i,bx,cap⟩ hi
    dsimp only at hi ⊢
    repeat (first | refine JL.q (by (apply OQ.bJ (a:=i) (b:=2);rfl;rfl)) rfl ?_ | refine JC.seq ?_ | refine JC.region ?_ | refine JL.nil ?_ | refine JE.next ?_)
    refine JC.cond rfl (fun h=>?_) (fun h=>?_)
    · have hi' : i<2:=of_decide_eq_true h
      clear h
      have hv:=Ev a b hi'
      have hso:=hok i hi'
      have hcs:=uh a b hi'
      have hle:=AK a b (i+1)
      have hln : (lS a b (i+1)).length=(lS a b i).length+(I4 a b i).l.length:=by rw [hcs,List.length_append]
      generalize I4 a b i=s at hv hln hcs hso
      have hcell : ∀ o,Row 27 [a.v,b.v] o→cellAt o (0+i)=some s.v:=by rw [Nat.zero_add];exact Row.cell hv
      repeat (first | refine JL.q (by first|(apply OQ.gN (i:=i) (b:=bs) (j:=0);exact Tryz.underlying53;exact Gc;rfl;rfl;exact hi')|(apply OQ.load (v:=s.v);exact KG;rfl;exact (.there .here);exact hcell)|(apply OQ.move;rfl)|(apply OQ.assign;rfl)) rfl ?_ | refine JC.seq ?_ | refine JC.region ?_ | refine JC.block ?_ | refine JC.skip ?_ | refine JL.nil ?_ | refine JE.next ?_)
      refine JL.append (cs:=s.l.map U8) (m:=s.l.length) (ad:=s.ad) (sc:=s.cap) (fun b' cap'=>[⟨b',Sl.aE 5 1 ((lS a b i).length+s.l.length) cap' ((lS a b i).map U8++s.l.map U8),true⟩,⟨bs,Row 27 [a.v,b.v],false⟩]) Tryz.underlying27 zS rfl rfl (by intro _ _;repeat (first | exact aZ.here | apply aZ.there)) (by rw [List.length_map,Nat.mul_one]) (fun w' hw'=>(hso.holds hw' rfl).reads) (fun v hv=>by obtain ⟨q,_,rfl⟩:=List.mem_map.1 hv;rfl) rfl (by decide) (by omega) (by omega) rfl fun b' cap'=>?_
      rw [← List.map_append,← hcs,← hln]
      repeat (first | refine JL.q (by first|(apply OQ.aY (a:=i) (b:=1);rfl;rfl;exact (by omega))|(apply OQ.move;rfl)|(apply OQ.assign;rfl)) rfl ?_ | refine JC.region ?_ | refine JL.nil ?_ | refine JE.next ?_ | refine JE.an ?_)
      exact JE.again (ι:=Nat × Nat × Nat) (i:=(i,bx,cap)) (i+1,b',cap') hi' (by dsimp only;omega) (by repeat (first | exact ai.nil | refine ai.cons _ _ _ rfl ?_)) (aq.refl _)
    · have hi' : i=2:=by have:=of_decide_eq_false h;omega
      subst hi'
      clear h hi
      repeat (first | refine JL.q (by first|(apply OQ.move;rfl)|(apply OQ.assign;rfl)) rfl ?_ | refine JC.seq ?_ | refine JC.region ?_ | refine JC.exit ?_ | refine JL.nil ?_ | refine JE.next ?_ | refine JE.ax ?_ | refine JE.aA ?_)
      refine JC.ret (JE.aQ rfl (RV.tmp rfl) fun w' hw=>⟨(bx,cap),rfl,hw.weak (.keep _ _ _ _ _ _ (fun _ h=>h) (.nil _))⟩)
end
section
set_option maxRecDepth 10000
open Sl
section
variable {P : Program} {n : Nat} {w0 : World} {S : List Nat} {ops : Array Oper} {Q : Exit→Act→World→Prop} {l : List Oper} {E : Env} {M : List aG} {C : World→Prop}
variable {dst : Option Tmp} {d : Nat} {t t' e ty : TypeId} {pos : String} {aft : Array Edge} {g : Option (Nat × Bool)} {x y : Operand}
theorem JL.lV {ι : Type} {X M0 : List aG} (vf : ι→Value) (Yf : ι→List aG) {f : FuncId} {xs : List Operand} {ats : Array TypeId} {vs : List Value} (hg : aK P f) (hx : mO E xs=some vs) (hd : Nat.blt d n=true) (hX : ∀ e ∈ X,e.wr=true) (hY : ∀ i,∀ e ∈ Yf i,e.wr=true)
    (hc : ∀ w,ah w0 S (X++M0) w→ah w (keys X) X w→Calls P f vs.toArray w fun e w'=>∃ i,e=.returned (vf i)∧ah w (keys X) (Yf i) w')
    (k : ∀ i,JL P n w0 S ops Q l ((d,vf i)::E) (Yf i++M0)) : JL P n w0 S ops Q (⟨some d,.call ⟨.value (.func f),xs.toArray,ats⟩,ty,pos,aft,none⟩::l) E (X++M0):=
  JL.call (ι:=ι) vf (fun i=>Yf i++M0) hg hx hd (fun w hw=>(hc w hw (hw.own.weak (dS _ _))).mono fun _ _ ⟨i,h1,h2⟩=>⟨i,h1,hw.GN h2 hX (hY i)⟩) k
theorem OQ.Ew {ad : Option Addr} {k cap : Nat} (hu : P.underlying t=some (.slice e)) (hx : ev E x=some (.slice ad k cap)) (hy : ev E y=some (.slice none 0 0)) :
    OQ P n E C ⟨dst,.binOp .eql t x y t',ty,pos,aft,g⟩ (.bool ad.isNone):=
  OQ.run fun c ha w _=>by
    have h1:=ha.eval hx
    have h2:=ha.eval hy
    have h4 : (binOp .eql t (.slice ad k cap) (.slice none 0 0)).run P w=.ok (.bool ad.isNone) w:=by
      show (do pure (.bool (← Op.equal t (.slice ad k cap) (.slice none 0 0))) : Sem Value).run P w=_
      simp [Sem.run_bind,run_equal_slice_nil w t e ad k cap hu]
    simp [execOp,h1,h2,eqGuard,h4]
end
end
section
set_option maxRecDepth 10000
open Sl g5
def KH : Nat→List (Nat × Nat)
  | 2=>[(1,5)]
  | 3=>[(0,4),(2,6)]
  | 6=>[(5,9)]
  | 7=>[(4,8),(6,10)]
  | 8=>[(3,7)]
  | 9=>[(7,11)]
  | _=>[]
def Ma : Nat→List Nat
  | 2=>[1]
  | 3=>[2,12]
  | 6=>[5]
  | 7=>[6,12]
  | 8=>[11]
  | 9=>[10]
  | _=>[]
def Mb : Nat→List Nat
  | 2=>[1]
  | 6=>[5]
  | 8=>[11]
  | 9=>[10]
  | _=>[]
theorem Ex {c : List B} (hc : c.length=32) {w' : World} {b b6 b5 : Nat} {u : B} (h1 : ∃ o,w'.heap[b]?=some o∧Row 23 (c.map U8) o) (h2 : ∃ o,w'.heap[b6]?=some o∧Row 27 [.slice (some ⟨b5,0,none⟩) 1 1] o) (h3 : ∃ o,w'.heap[b5]?=some o∧Row 5 [U8 u] o) (hG : g7 w') :
    Calls Tryz.prog 57 [.slice (some ⟨b,0,none⟩) 32 32,.slice (some ⟨b6,0,none⟩) 1 1].toArray w' fun e w''=>e=.returned (.agg ((bS c [u]).map U8).toArray)∧Ext w' w'':=by
  obtain ⟨o1,ho1,hA1⟩:=h1
  obtain ⟨o2,ho2,hA2⟩:=h2
  obtain ⟨o3,ho3,hA3⟩:=h3
  have h4 : aM.ok w' ⟨some ⟨b5,0,none⟩,1,[u]⟩:=⟨by simp,Reads.block ho3 (Row.all _ hA3)⟩
  have:=ox ⟨some ⟨b,0,none⟩,32,c⟩ (some ⟨b6,0,none⟩) 1 [⟨some ⟨b5,0,none⟩,1,[u]⟩] w' hG ⟨Nat.le_of_eq hc,Reads.block ho1 (Row.all _ hA1)⟩ (Reads.block ho2 (Row.all _ hA2)) (by simpa using h4) (show c.length<4611686018427387904 by omega) (by simp) (by simp [total])
  simpa [aM.v,hc] using this
set_option maxHeartbeats 8000000 in
theorem uj (c : List B) (hc : c.length=32) (w : World) (hG : g7 w) :
    Calls Tryz.prog 37 [.agg (c.map U8).toArray].toArray w fun e w'=>e=.returned (.tuple #[.agg ((bS c [2]).map U8).toArray,.agg ((bS c [1]).map U8).toArray])∧Ext w w':=by
  refine enter (n:=12) Tryz.func37 rfl rfl rfl (ah.start w []) ?_
  repeat (first | refine JC.seq ?_ | refine JC.region ?_)
  refine JL.box (r:=c.map U8) rfl rfl rfl fun b1 _=>?_
  refine JL.alloc fN rfl fun b2 _=>?_
  refine JL.alloc fN rfl fun b3 _=>?_
  repeat (first | refine JC.seq ?_ | refine JL.nil ?_ | refine JE.next ?_)
  let vs : Nat→X→Value:=fun i x=>match i with
    | 0=>.slice (some ⟨b1,0,none⟩) 32 32
    | 1=>.slice (some ⟨x.1,0,none⟩) 1 1
    | 2=>.slice (some ⟨x.1,0,none⟩) 1 1
    | 3=>.agg ((bS c [2]).map U8).toArray
    | 4=>.slice (some ⟨b1,0,none⟩) 32 32
    | 5=>.slice (some ⟨x.1,0,none⟩) 1 1
    | 6=>.slice (some ⟨x.1,0,none⟩) 1 1
    | _=>.agg ((bS c [1]).map U8).toArray
  let Ms : Nat→X→List aG:=fun i x=>match i with
    | 1=>[⟨x.1,Row 5 [U8 2],true⟩]
    | 2=>[⟨x.1,Row 27 [.slice (some ⟨x.2,0,none⟩) 1 1],true⟩,⟨x.2,Row 5 [U8 2],true⟩]
    | 5=>[⟨x.1,Row 5 [U8 1],true⟩]
    | 6=>[⟨x.1,Row 27 [.slice (some ⟨x.2,0,none⟩) 1 1],true⟩,⟨x.2,Row 5 [U8 1],true⟩]
    | 8=>[⟨b2,Row 23 ((bS c [2]).map U8),true⟩]
    | 9=>[⟨b3,Row 23 ((bS c [1]).map U8),true⟩]
    | 12=>[⟨b1,Row 23 (c.map U8),true⟩]
    | 11=>[⟨b2,Row 23 ((List.replicate 32 (0 : B)).map U8),true⟩]
    | 10=>[⟨b3,Row 23 ((List.replicate 32 (0 : B)).map U8),true⟩]
    | _=>[]
  refine JC.grow (g:=⟨[(1,Pt b1 0),(2,Pt b2 0),(3,Pt b3 0)],13,vs,Ms,KH,Ma,Mb,fun _=>none⟩) [] [8,9] mixed (by repeat (first | exact ai.nil | refine ai.cons _ _ _ rfl ?_)) ?_ ?_ ?_ ?_ ?_ ?_
  · exact aq.refl _
  · rfl
  · rfl
  · rfl
  · refine ⟨?_,?_,?_,?_,?_,?_,?_,?_,?_,?_,trivial⟩
    · intro x EF MF Q kk
      exact JL.q (OQ.jT Tryz.underlying23 s5 rfl) rfl (JL.nil (kk (0,0) nofun))
    · intro x EF MF Q kk
      exact JL.fC Tryz.underlying27 e5 rfl rfl rfl rfl fun b _=>JL.nil (kk (b,0) nofun)
    · intro x EF MF Q kk
      exact JL.fC Tryz.underlying53 wC rfl rfl rfl rfl fun b _=>JL.nil (kk (b,(x 1).1) nofun)
    · intro x EF MF Q kk
      refine JL.q (OQ.au (vs:=[.slice (some ⟨b1,0,none⟩) 32 32,.slice (some ⟨(x 2).1,0,none⟩) 1 1]) fQ rfl fun w' hw'=>Ex hc (hw'.get (.there (.there .here))) (hw'.get .here) (hw'.get (.there .here)) (hG.aL hw'.aL (by simp))) rfl (JL.nil (kk (0,0) nofun))
    · intro x EF MF Q kk
      exact JL.q (OQ.jT Tryz.underlying23 s5 rfl) rfl (JL.nil (kk (0,0) nofun))
    · intro x EF MF Q kk
      exact JL.fC Tryz.underlying27 e5 rfl rfl rfl rfl fun b _=>JL.nil (kk (b,0) nofun)
    · intro x EF MF Q kk
      exact JL.fC Tryz.underlying53 wC rfl rfl rfl rfl fun b _=>JL.nil (kk (b,(x 5).1) nofun)
    · intro x EF MF Q kk
      refine JL.q (OQ.au (vs:=[.slice (some ⟨b1,0,none⟩) 32 32,.slice (some ⟨(x 6).1,0,none⟩) 1 1]) fQ rfl fun w' hw'=>Ex hc (hw'.get (.there (.there .here))) (hw'.get .here) (hw'.get (.there .here)) (hG.aL hw'.aL (by simp))) rfl (JL.nil (kk (0,0) nofun))
    · intro x EF MF Q kk
      exact JL.ag eV rfl rfl (dF _) (dL _) .here (by simp) (JL.nil (kk (0,0) nofun))
    · intro x EF MF Q kk
      exact JL.ag eV rfl rfl (dF _) (dL _) .here (by simp) (JL.nil (kk (0,0) nofun))
  · intro x _
    repeat (refine JE.next ?_)
    refine JC.ret ?_
    skip
    refine JE.gp rfl (RV.av mS eV rfl .here (dF _) Row.all) (RV.av mS eV rfl (.there .here) (dF _) Row.all) fun w' hw=>⟨rfl,hw.aL⟩
def KI : Nat→List (Nat × Nat)
  | 2=>[(0,4),(1,5)]
  | 5=>[(3,7),(4,8)]
  | 6=>[(2,6)]
  | 7=>[(5,9)]
  | _=>[]
def Mc : Nat→List Nat
  | 2=>[1,10]
  | 5=>[4,10]
  | 6=>[9]
  | 7=>[8]
  | _=>[]
def Md : Nat→List Nat
  | 6=>[9]
  | 7=>[8]
  | _=>[]
theorem AL {c : List B} (hc : c.length=32) {w' : World} {b b5 : Nat} {u : B} (h1 : ∃ o,w'.heap[b]?=some o∧Row 23 (c.map U8) o) (h3 : ∃ o,w'.heap[b5]?=some o∧Row 5 [U8 u] o) :
    Calls Tryz.prog 45 [.slice (some ⟨b,0,none⟩) 32 32,.slice (some ⟨b5,0,none⟩) 1 1].toArray w' fun e w''=>e=.returned (.agg ((bS c [u]).map U8).toArray)∧Ext w' w'':=by
  obtain ⟨o1,ho1,hA1⟩:=h1
  obtain ⟨o3,ho3,hA3⟩:=h3
  have:=jG ⟨some ⟨b,0,none⟩,32,c⟩ ⟨some ⟨b5,0,none⟩,1,[u]⟩ w' ⟨Nat.le_of_eq hc,Reads.block ho1 (Row.all _ hA1)⟩ ⟨by simp,Reads.block ho3 (Row.all _ hA3)⟩ (show c.length<35184372088000 by omega) (by simp)
  simpa [aM.v,hc] using this
set_option maxHeartbeats 8000000 in
theorem sA (c : List B) (hc : c.length=32) (w : World) :
    Calls Tryz.prog 32 [.agg (c.map U8).toArray].toArray w fun e w'=>e=.returned (.tuple #[.agg ((bS c [2]).map U8).toArray,.agg ((bS c [1]).map U8).toArray])∧Ext w w':=by
  refine enter (n:=10) Tryz.func32 rfl rfl rfl (ah.start w []) ?_
  repeat (first | refine JC.seq ?_ | refine JC.region ?_)
  refine JL.box (r:=c.map U8) rfl rfl rfl fun b1 _=>?_
  refine JL.alloc fN rfl fun b2 _=>?_
  refine JL.alloc fN rfl fun b3 _=>?_
  repeat (first | refine JC.seq ?_ | refine JL.nil ?_ | refine JE.next ?_)
  let vs : Nat→X→Value:=fun i x=>match i with
    | 0=>.slice (some ⟨b1,0,none⟩) 32 32
    | 1=>.slice (some ⟨x.1,0,none⟩) 1 1
    | 2=>.agg ((bS c [2]).map U8).toArray
    | 3=>.slice (some ⟨b1,0,none⟩) 32 32
    | 4=>.slice (some ⟨x.1,0,none⟩) 1 1
    | _=>.agg ((bS c [1]).map U8).toArray
  let Ms : Nat→X→List aG:=fun i x=>match i with
    | 1=>[⟨x.1,Row 5 [U8 2],true⟩]
    | 4=>[⟨x.1,Row 5 [U8 1],true⟩]
    | 6=>[⟨b2,Row 23 ((bS c [2]).map U8),true⟩]
    | 7=>[⟨b3,Row 23 ((bS c [1]).map U8),true⟩]
    | 8=>[⟨b3,Row 23 ((List.replicate 32 (0 : B)).map U8),true⟩]
    | 9=>[⟨b2,Row 23 ((List.replicate 32 (0 : B)).map U8),true⟩]
    | 10=>[⟨b1,Row 23 (c.map U8),true⟩]
    | _=>[]
  refine JC.grow (g:=⟨[(1,Pt b1 0),(2,Pt b2 0),(3,Pt b3 0)],11,vs,Ms,KI,Mc,Md,fun _=>none⟩) [] [6,7] mixed (by repeat (first | exact ai.nil | refine ai.cons _ _ _ rfl ?_)) ?_ ?_ ?_ ?_ ?_ ?_
  · exact aq.refl _
  · rfl
  · rfl
  · rfl
  · refine ⟨?_,?_,?_,?_,?_,?_,?_,?_,trivial⟩
    · intro x EF MF Q kk
      exact JL.q (OQ.jT Tryz.underlying23 s5 rfl) rfl (JL.nil (kk (0,0) nofun))
    · intro x EF MF Q kk
      exact JL.fC Tryz.underlying27 e5 rfl rfl rfl rfl fun b _=>JL.nil (kk (b,0) nofun)
    · intro x EF MF Q kk
      exact JL.q (OQ.au (vs:=[.slice (some ⟨b1,0,none⟩) 32 32,.slice (some ⟨(x 1).1,0,none⟩) 1 1]) gw rfl fun w' hw'=>AL hc (hw'.get (.there .here)) (hw'.get .here)) rfl (JL.nil (kk (0,0) nofun))
    · intro x EF MF Q kk
      exact JL.q (OQ.jT Tryz.underlying23 s5 rfl) rfl (JL.nil (kk (0,0) nofun))
    · intro x EF MF Q kk
      exact JL.fC Tryz.underlying27 e5 rfl rfl rfl rfl fun b _=>JL.nil (kk (b,0) nofun)
    · intro x EF MF Q kk
      exact JL.q (OQ.au (vs:=[.slice (some ⟨b1,0,none⟩) 32 32,.slice (some ⟨(x 4).1,0,none⟩) 1 1]) gw rfl fun w' hw'=>AL hc (hw'.get (.there .here)) (hw'.get .here)) rfl (JL.nil (kk (0,0) nofun))
    · intro x EF MF Q kk
      exact JL.ag eV rfl rfl (dF _) (dL _) .here (by simp) (JL.nil (kk (0,0) nofun))
    · intro x EF MF Q kk
      exact JL.ag eV rfl rfl (dF _) (dL _) .here (by simp) (JL.nil (kk (0,0) nofun))
  · intro x _
    repeat (refine JE.next ?_)
    refine JC.ret ?_
    skip
    refine JE.gp rfl (RV.av mS eV rfl .here (dF _) Row.all) (RV.av mS eV rfl (.there .here) (dF _) Row.all) fun w' hw=>⟨rfl,hw.aL⟩
end
section
set_option maxRecDepth 10000
open Sl g5 lz dO mP
open pT (Bk)
open ia
theorem dB : dJ Tryz.prog 26=some 166:=by kernel_rfl
theorem gK : gm Tryz.prog 26=true:=by kernel_rfl
theorem ql : dJ Tryz.prog 32=some 34:=by kernel_rfl
theorem B2 : gm Tryz.prog 32=true:=by kernel_rfl
theorem ta : dJ Tryz.prog 57=some 65:=by kernel_rfl
theorem KJ : gm Tryz.prog 57=true:=by kernel_rfl
theorem B3 : EI Tryz.prog 57 (.agg (dU mQ).toArray) 65 72:=by unfold EI;kernel_rfl
theorem Nb : zc Tryz.prog 57=some (dU mQ):=by kernel_rfl
def dh : bA:=⟨dN,dN,dN,false,false,dN,dN,0,0,0,[]⟩
theorem br : dh.ok:=⟨rfl,rfl,rfl,rfl,rfl,nofun⟩
theorem uk : zc Tryz.prog 26=some (sec dh (.slice none 0 0)):=by kernel_rfl
def bN : Hd:=⟨dN,0,0⟩
theorem I5 : zc Tryz.prog 32=some (hdc bN):=by kernel_rfl
theorem bB : ie Tryz.prog 3=true:=by kernel_rfl
theorem nt : dJ Tryz.prog 3=some 1:=by kernel_rfl
theorem gj : ie Tryz.prog 4=true:=by kernel_rfl
theorem vH : dJ Tryz.prog 4=some 1:=by kernel_rfl
theorem iV : ie Tryz.prog 24=true:=by kernel_rfl
theorem B4 : dJ Tryz.prog 24=some 1:=by kernel_rfl
theorem lW : Tryz.prog.eqGuardType Tryz.prog.depth 23=false:=by kernel_rfl
structure mV where
  ad : Option Addr
  cap : Nat
  l : List Kp
def mV.v (s : mV) : Value:=.slice s.ad s.l.length s.cap
structure mV.ok (w : World) (s : mV) : Prop where
  len : s.l.length≤s.cap
  reads : Reads w s.ad (aX s.l).flatten
  all : ∀ k ∈ s.l,k.ok
theorem mV.ok.holds {w0 w : World} {S : List Nat} {M : List aG} {s : mV} (h : s.ok w0) (hw : ah w0 S M w) (hS : S=[]) : s.ok w:=⟨h.len,hw.reads h.reads (fun _ a _=>by rw [hS];simp),h.all⟩
def KK : mV:=⟨none,0,[]⟩
theorem Gd (w : World) : KK.ok w:=⟨Nat.le_refl _,Reads.nil _ _,nofun⟩
def sB (q : Acc) (l : List Kp) : mV:=match q with
  | none=>KK
  | some p=>⟨some ⟨p.1,0,none⟩,p.2,l⟩
theorem vI (q : Acc) (l : List Kp) : (sB q l).v=aC q l.length:=by cases q <;> rfl
theorem vJ {q : Acc} {l : List Kp} (h : q=none→l=[]) : (sB q l).l=l:=by
  cases q with
  | none=>exact (h rfl).symm
  | some p=>rfl
def fU (q : Acc) (l : List Kp) : List aG:=uK 57 65 q (aX l)
theorem ju (q : Acc) (l : List Kp) : ∀ x ∈ fU q l,x.wr=true:=Fa _ _ _ _
theorem AM {w0 w : World} {S : List Nat} {M : List aG} {q : Acc} {l : List Kp} (hl : ∀ k ∈ l,k.ok) (hw : ah w0 S (fU q l++M) w) : (sB q l).ok w:=by
  cases q with
  | none=>exact Gd w
  | some p=>
    have hw : ah w0 S (⟨p.1,Sl.aE 57 65 (aX l).length p.2 (aX l).flatten,true⟩::M) w:=hw
    obtain ⟨o,ho,hA⟩:=hw.get .here
    have hh:=Sl.aE.cells _ hA
    obtain ⟨sp,rfl,h2,h3,h4⟩:=hA
    exact ⟨by rw [dV] at h4;exact h4,Reads.block ho hh,hl⟩
def e7 (b : Nat) (q : Acc) (s : bA) : List aG:=⟨b,Row 26 (sec s (aC q s.kept.length)),true⟩::fU q s.kept
theorem dY (b : Nat) (q : Acc) (s : bA) : ∀ x ∈ e7 b q s,x.wr=true:=by
  intro x hx
  rcases List.mem_cons.1 hx with rfl | hx
  · rfl
  · exact ju _ _ x hx
theorem gk (q : Acc) (k : Nat) : (aC q k).oneCell'=true:=by cases q <;> rfl
theorem kG (q : Acc) (k : Nat) : (aC q k).cells=#[aC q k]:=by cases q <;> rfl
def Tb (S : List Nat) (w : World) : Prop:=(g7 w∧1 ∉ S)∧(GQ w∧0 ∉ S)
theorem Tb.g {w0 w : World} {S : List Nat} {M : List aG} (h : Tb S w0) (hw : ah w0 S M w) : g7 w:=h.1.1.aL hw.aL h.1.2
theorem Tb.q {w0 w : World} {S : List Nat} {M : List aG} (h : Tb S w0) (hw : ah w0 S M w) : GQ w:=h.2.1.aL hw.aL h.2.2
theorem Tb.own {w0 w : World} {S : List Nat} {X M : List aG} (h : Tb S w0) (hw : ah w0 S (X++M) w) (hX : ∀ e ∈ X,e.wr=true) : Tb (keys X) w:=by
  have hk : ∀ g,g<w0.heap.size→g ∉ S→g ∉ keys X:=fun g hg hS hm=>by
    obtain ⟨e,he,rfl⟩:=List.mem_map.1 hm
    rcases (hw.all e (List.mem_append_left _ he)).2 (hX e he) with h1 | h1
    · exact hS h1
    · omega
  exact ⟨⟨h.g hw,hk _ h.1.1.lt h.1.2⟩,⟨h.q hw,hk _ h.2.1.lt h.2.2⟩⟩
theorem Tb.nil {w : World} (h1 : g7 w) (h2 : GQ w) : Tb [] w:=⟨⟨h1,by simp⟩,⟨h2,by simp⟩⟩
def B5 (a : Int) : Bool:=decide (0≤a) && decide (a≤2147483647)
theorem jP : aK Tryz.prog 22:=⟨_,Tryz.func22,rfl,by kernel_rfl⟩
set_option maxHeartbeats 4000000 in
theorem xG (a : Int) (w : World) : Calls Tryz.prog 22 [I a].toArray w fun e w'=>e=.returned (.bool (B5 a))∧Ext w w':=by
  refine enter (n:=9) Tryz.func22 rfl rfl rfl (ah.start w []) ?_
  unfold B5
  obtain ⟨c1,h1⟩ : ∃ c,decide ((0 : Int)≤a)=c:=⟨_,rfl⟩
  obtain ⟨c2,h2⟩ : ∃ c,decide (a≤2147483647)=c:=⟨_,rfl⟩
  rw [h1,h2]
  cases c1
  · repeat (first | refine JL.q (by first|(apply OQ.A4 (b:=0);rfl;rfl;exact h1)|(apply OQ.dK;rfl;rfl)|(apply OQ.move;rfl)|(apply OQ.assign;rfl)) rfl ?_ | refine JC.seq ?_ | refine JC.region ?_ | refine JL.nil ?_ | refine JE.next ?_ | refine JL.iX rfl rfl rfl rfl ?_)
    exact JC.ret (JE.aQ rfl (RV.tmp rfl) fun w' hw=>⟨rfl,hw.aL⟩)
  · repeat (first | refine JL.q (by first|(apply OQ.A4 (b:=0);rfl;rfl;exact h1)|(apply OQ.Lu (b:=2147483647);rfl;rfl;exact h2)|(apply OQ.eP;rfl;rfl)|(apply OQ.move;rfl)|(apply OQ.assign;rfl)) rfl ?_ | refine JC.seq ?_ | refine JC.region ?_ | refine JL.nil ?_ | refine JE.next ?_ | refine JL.aU rfl rfl ?_)
    exact JC.ret (JE.aQ rfl (RV.tmp rfl) fun w' hw=>⟨rfl,hw.aL⟩)
theorem B6 : aK Tryz.prog 56:=⟨_,Tryz.func56,rfl,by kernel_rfl⟩
set_option maxHeartbeats 4000000 in
theorem Ey (q : Acc) (xs : Bk) (m : Nat) (hq : q=none→xs=[]) (hl : xs.length≤70000000000) (hm : m<9223372036854775808) (w : World) (hw : ah w (keys (bR 5 q (xs.map U8))) (bR 5 q (xs.map U8)) w) :
    Calls Tryz.prog 56 [aC q xs.length,N m].toArray w fun e w'=>∃ r : Nat × Nat,e=.returned (aC (some r) (xs++b4 m).length)∧ah w (keys (bR 5 q (xs.map U8))) (bR 5 (some r) ((xs++b4 m).map U8)) w':=by
  generalize hS : keys (bR 5 q (xs.map U8))=S at hw ⊢
  refine enter (n:=9) Tryz.func56 rfl rfl rfl hw ?_
  repeat (first | refine JL.q (by first|(apply OQ.gM;exact Tryz.underlying3;exact Tryz.underlying84;rfl)|(apply OQ.move;rfl)|(apply OQ.assign;rfl)) rfl ?_ | refine JC.seq ?_ | refine JC.region ?_ | refine JL.nil ?_ | refine JE.next ?_)
  refine JL.wL (M':=bR 5 q (xs.map U8)++[]) (by rw [List.append_nil];exact aq.refl _) ?_
  refine JL.Dl (m:=BitVec.ofNat 64 m) (by decide) (by decide) hq (by omega) rfl rfl rfl rfl fun r=>?_
  rw [List.append_nil]
  repeat (first | refine JL.q (by (apply OQ.assign;rfl)) rfl ?_ | refine JL.nil ?_ | refine JE.next ?_)
  exact JC.ret (JE.aQ rfl (RV.tmp rfl) fun w' hw=>⟨r,rfl,hw⟩)
theorem JL.KL {n : Nat} {w0 : World} {S : List Nat} {ops : Array Oper} {Q : Exit→Act→World→Prop} {l : List Oper} {E : Env} {M : List aG} {d : Nat} {ty : TypeId} {pos : String} {aft : Array Edge} {x1 x2 : Operand} {ats : Array TypeId} {q : Acc} {xs : Bk} {m : Nat} (hq : q=none→xs=[]) (hl : xs.length≤70000000000) (hm : m<9223372036854775808) (e1 : ev E x1=some (aC q xs.length)) (e2 : ev E x2=some (N m)) (hd : Nat.blt d n=true)
    (kk : ∀ r : Nat × Nat,JL Tryz.prog n w0 S ops Q l ((d,aC (some r) (xs++b4 m).length)::E) (bR 5 (some r) ((xs++b4 m).map U8)++M)) : JL Tryz.prog n w0 S ops Q (⟨some d,.call ⟨.value (.func 56),#[x1,x2],ats⟩,ty,pos,aft,none⟩::l) E (bR 5 q (xs.map U8)++M):=
  JL.GO (ι:=Nat × Nat) (xs:=[x1,x2]) (vs:=[aC q xs.length,N m]) (fun r=>aC (some r) (xs++b4 m).length) (fun r=>bR 5 (some r) ((xs++b4 m).map U8)) B6 (by simp [mO,e1,e2]) hd (jX _ _ _) (fun _=>jX _ _ _)
    (fun w hw=>Ey q xs m hq hl hm w (hw.weak (dS _ _))) kk
theorem xH : aK Tryz.prog 36:=⟨_,Tryz.func36,rfl,by kernel_rfl⟩
set_option maxHeartbeats 8000000 in
theorem AN (h : Hd) (hl : h.chain.length=32) (h1 : h.prev<9223372036854775808) (h2 : h.num<9223372036854775808) (w : World) :
    Calls Tryz.prog 36 [.agg (hdc h).toArray].toArray w fun e w'=>∃ x : Nat × Nat,e=.returned (.slice (some ⟨x.1,0,none⟩) 40 x.2)∧ah w [] [⟨x.1,Sl.aE 5 1 40 x.2 ((dP h).map U8),true⟩] w':=by
  have hL:=mu hl
  have hcl : (h.chain.map U8).length=32:=by rw [List.length_map];exact hl
  refine enter (n:=17) Tryz.func36 rfl rfl rfl (ah.start w []) ?_
  repeat (first | refine JC.seq ?_ | refine JC.region ?_)
  refine JL.box (r:=hdc h) rfl rfl rfl fun b1 _=>?_
  repeat (first | refine JL.q (by (apply OQ.assign;rfl)) rfl ?_ | refine JC.seq ?_ | refine JC.region ?_ | refine JL.nil ?_ | refine JE.next ?_)
  refine JL.CT (c:=40) Tryz.underlying27 zS rfl rfl (by decide) rfl fun b3 _=>?_
  repeat (first | refine JL.q (by first|(apply OQ.jT;exact Tryz.underlying23;exact kM;rfl)|(apply OQ.move;rfl)|(apply OQ.assign;rfl)|(apply OQ.bM;rfl;rfl;rfl;exact (by decide);rfl)) rfl ?_ | refine JC.seq ?_ | refine JC.region ?_ | refine JL.nil ?_ | refine JE.next ?_)
  refine JL.append (cs:=h.chain.map U8) (m:=32) (fun b' cap'=>[⟨b',Sl.aE 5 1 (0+32) cap' ([]++h.chain.map U8),true⟩,⟨b1,Row 32 (hdc h),true⟩]) Tryz.underlying27 zS rfl rfl (by intro _ _;repeat (first | exact aZ.here | apply aZ.there)) hcl (fun w' hw'=>?_) (fun v hv=>List.all_eq_true.1 (dL h.chain) v hv) rfl (by decide) (by decide) (by decide) rfl fun b4' cap=>?_
  · obtain ⟨o,ho,hA⟩:=hw'.get (.there .here)
    exact Reads.block ho (Row.cells (eG hl) _ hA)
  rw [List.nil_append,Nat.zero_add]
  have hp : ∀ o,Row 32 (hdc h) o→cellAt o 32=some (N h.prev):=Row.cell (lq hl)
  have hn : ∀ o,Row 32 (hdc h) o→cellAt o 33=some (N h.num):=Row.cell (j4 hl)
  have ev1 : Value.slice (some ⟨b4',0,none⟩) 32 cap=aC (some (b4',cap)) h.chain.length:=by rw [hl];rfl
  rw [ev1]
  refine JL.wL (M':=bR 5 (some (b4',cap)) (h.chain.map U8)++[⟨b1,Row 32 (hdc h),true⟩]) (.keep _ _ _ _ _ _ (fun o ho=>by dsimp only;rw [hcl];exact ho) (aq.refl _)) ?_
  have hH : ∀ xs : List Value,Has (bR 5 (some (b4',cap)) xs++[(⟨b1,Row 32 (hdc h),true⟩ : aG)]) b1 (Row 32 (hdc h)) true:=fun _=>.there .here
  repeat (first | refine JL.q (by first|(apply OQ.load;exact bB;rfl;exact (hH _);exact hp)|(apply OQ.move;rfl)|(apply OQ.assign;rfl)|(apply OQ.bM;rfl;rfl;rfl;exact (by decide);rfl)) rfl ?_ | refine JC.seq ?_ | refine JC.region ?_ | refine JL.nil ?_ | refine JE.next ?_)
  refine JL.KL (q:=some (b4',cap)) (xs:=h.chain) (m:=h.prev) nofun (by omega) h1 rfl rfl rfl fun r=>?_
  have hH2 : ∀ xs : List Value,Has (bR 5 (some r) xs++[(⟨b1,Row 32 (hdc h),true⟩ : aG)]) b1 (Row 32 (hdc h)) true:=fun _=>.there .here
  repeat (first | refine JL.q (by first|(apply OQ.load;exact bB;rfl;exact (hH2 _);exact hn)|(apply OQ.move;rfl)|(apply OQ.assign;rfl)|(apply OQ.bM;rfl;rfl;rfl;exact (by decide);rfl)) rfl ?_ | refine JC.seq ?_ | refine JC.region ?_ | refine JL.nil ?_ | refine JE.next ?_)
  refine JL.KL (q:=some r) (xs:=h.chain++b4 h.prev) (m:=h.num) nofun (by rw [List.length_append,CZ];omega) h2 rfl rfl rfl fun r2=>?_
  have e2 : h.chain++b4 h.prev++b4 h.num=dP h:=rfl
  rw [e2]
  repeat (first | refine JL.q (by (apply OQ.assign;rfl)) rfl ?_ | refine JL.nil ?_ | refine JE.next ?_)
  refine JC.ret (JE.aQ rfl (RV.tmp rfl) fun w' hw=>⟨r2,by rw [hL];rfl,hw.weak (.keep _ _ _ _ _ _ (fun o ho=>?_) (.nil _))⟩)
  rw [List.length_map,hL] at ho
  exact ho
end
section
set_option maxRecDepth 10000
open Sl g5 lz dO mP
open pT (Bk)
theorem KM {a : Bk} (h : a.length=64) : ((a.map U8).drop (0+0 * 32)).take ((a.take 32).map U8).length=(a.take 32).map U8:=by
  rw [List.length_map,List.length_take,h,List.map_take]
  rfl
theorem Hw {a : Bk} (h : a.length=64) : ((a.map U8).drop (0+1 * 32)).take ((a.drop 32).map U8).length=(a.drop 32).map U8:=by
  rw [List.length_map,List.length_drop,h,← List.map_drop,Nat.zero_add,Nat.one_mul,List.take_of_length_le (by simp [h])]
theorem sC : aK Tryz.prog 34:=⟨_,Tryz.func34,rfl,by kernel_rfl⟩
set_option maxHeartbeats 8000000 in
theorem vK (root sh : Bk) (h1 : root.length=32) (h2 : sh.length=32) (w : World) (hG : g7 w) :
    Calls Tryz.prog 34 [.agg (root.map U8).toArray,.agg (sh.map U8).toArray].toArray w fun e w'=>e=.returned (.tuple #[.agg ((cq root sh).map U8).toArray,.agg ((dX root sh).map U8).toArray])∧Ext w w':=by
  have hk : ∀ (b1 b2 : Nat) (w : World),g7 w→aM.ok w ⟨some ⟨b1,0,none⟩,32,root⟩→aM.ok w ⟨some ⟨b2,0,none⟩,32,sh⟩→Calls Tryz.prog 55 [.slice (some ⟨b1,0,none⟩) 32 32,.slice (some ⟨b2,0,none⟩) 32 32,.string zp,N 2].toArray w fun e w'=>∃ bq,e=.returned (.tuple #[.slice (some ⟨bq,0,none⟩) 2 2,N 0])∧ah w [] [⟨bq,Row 23 ((lO root sh).map U8),true⟩] w':=fun b1 b2 w hG ho1 ho2=>by
    have:=wI ⟨some ⟨b1,0,none⟩,32,root⟩ ⟨some ⟨b2,0,none⟩,32,sh⟩ zp 2 (by decide) w hG ho1 ho2 (by rw [h1];decide) (by rw [h2];decide) (by decide)
    rwa [show aM.v ⟨some ⟨b1,0,none⟩,32,root⟩=.slice (some ⟨b1,0,none⟩) 32 32 by simp [aM.v,h1],show aM.v ⟨some ⟨b2,0,none⟩,32,sh⟩=.slice (some ⟨b2,0,none⟩) 32 32 by simp [aM.v,h2]] at this
  have hlT:=mK root sh
  have hlA : ((cq root sh).map U8).length=32:=by rw [List.length_map];exact fy _ _
  have hlC : ((dX root sh).map U8).length=32:=by rw [List.length_map];exact eH _ _
  have r0 : (((lO root sh).map U8).drop (0+0 * 32)).take ((cq root sh).map U8).length=(cq root sh).map U8:=KM hlT
  have r1 : (((lO root sh).map U8).drop (0+1 * 32)).take ((dX root sh).map U8).length=(dX root sh).map U8:=Hw hlT
  generalize cq root sh=tA at *
  generalize dX root sh=tC at *
  generalize lO root sh=tB at *
  have hl1 : (root.map U8).length=32:=by rw [List.length_map];exact h1
  have hl2 : (sh.map U8).length=32:=by rw [List.length_map];exact h2
  refine enter (n:=20) Tryz.func34 rfl rfl rfl (ah.start w []) ?_
  repeat (first | refine JC.seq ?_ | refine JC.region ?_)
  refine JL.box (r:=root.map U8) rfl rfl rfl fun b2 _=>?_
  refine JL.box (r:=sh.map U8) rfl rfl rfl fun b3 _=>?_
  refine JL.alloc gR rfl fun b4 _=>?_
  refine JL.alloc gR rfl fun b5 _=>?_
  repeat (first | refine JC.seq ?_ | refine JL.nil ?_ | refine JE.next ?_)
  let vs : Nat→Nat→Value:=fun j y=>match j with
    | 0=>.slice (some ⟨b2,0,none⟩) 32 32
    | 1=>.slice (some ⟨b3,0,none⟩) 32 32
    | 2=>.tuple #[.slice (some ⟨y,0,none⟩) 2 2,N 0]
    | 3=>.tuple #[.slice (some ⟨y,0,none⟩) 2 2,N 0]
    | 4=>.slice (some ⟨y,0,none⟩) 2 2
    | 5=>N 0
    | 6=>.slice (some ⟨y,0,none⟩) 2 2
    | 7=>N 0
    | _=>N 0
  let Ms : Nat→Nat→List aG:=fun j y=>match j with
    | 2=>[⟨y,Row 23 (tB.map U8),true⟩]
    | 8=>[⟨b5,Row 23 ((List.replicate 32 (0 : B)).map U8),true⟩]
    | 9=>[⟨b4,Row 23 ((List.replicate 32 (0 : B)).map U8),true⟩]
    | 10=>[⟨b3,Row 23 (sh.map U8),true⟩]
    | 11=>[⟨b2,Row 23 (root.map U8),true⟩]
    | _=>[]
  refine JC.grow (g:=⟨[(2,Pt b2 0),(3,Pt b3 0),(4,Pt b4 0),(5,Pt b5 0)],12,vs,Ms,(fun j=>match j with | 2=>[(0,9),(1,10)] | 3=>[(2,11)] | 4=>[(3,8)] | 5=>[(3,8)] | 6=>[(4,12)] | 7=>[(5,13)] | _=>[]),(fun j=>match j with | 2=>[11,10] | _=>[]),(fun j=>match j with | _=>[]),(fun j=>match j with | 3=>some 2 | 4=>some 3 | 6=>some 4 | _=>none)⟩) [(6,6)] [2,9,8] gr (by repeat (first | exact ai.nil | refine ai.cons _ _ _ rfl ?_)) ?_ (by kernel_rfl) (by kernel_rfl) (by kernel_rfl) ?_ ?_
  · exact aq.refl _
  · refine ⟨?_,?_,?_,?_,?_,?_,?_,?_,trivial⟩
    · (intro xx EF MF Q kk;(try refine JL.aU rfl rfl ?_);exact JL.q (OQ.jT Tryz.underlying23 kM rfl) rfl (JL.nil (kk default nofun)))
    · (intro xx EF MF Q kk;(try refine JL.aU rfl rfl ?_);exact JL.q (OQ.jT Tryz.underlying23 kM rfl) rfl (JL.nil (kk default nofun)))
    · (intro xx EF MF Q kk;exact JL.bX (ι:=Nat) (vs:=[.slice (some ⟨b2,0,none⟩) 32 32,.slice (some ⟨b3,0,none⟩) 32 32,.string zp,N 2]) (fun b=>.tuple #[.slice (some ⟨b,0,none⟩) 2 2,N 0]) (fun b=>[⟨b,Row 23 (tB.map U8),true⟩]) tM rfl rfl (fun i=>by simp) (fun w' hw'=>hk b2 b3 w' (hG.aL hw'.aL (by simp)) (fL hw' .here rfl (Nat.le_of_eq h1)) (fL hw' (.there .here) rfl (Nat.le_of_eq h2))) fun b=>JL.nil (kk b nofun))
    · (intro xx EF MF Q kk;(try refine JL.aU rfl rfl ?_);exact JL.q (OQ.move rfl) rfl (JL.nil (kk (xx 2) (fun k h=>by cases h;rfl))))
    · (intro xx EF MF Q kk;(try refine JL.aU rfl rfl ?_);exact JL.q (OQ.extract rfl rfl) rfl (JL.nil (kk (xx 3) (fun k h=>by cases h;rfl))))
    · (intro xx EF MF Q kk;(try refine JL.aU rfl rfl ?_);exact JL.q (OQ.extract rfl rfl) rfl (JL.nil (kk default nofun)))
    · (intro xx EF MF Q kk;(try refine JL.aU rfl rfl ?_);exact JL.q (OQ.assign rfl) rfl (JL.nil (kk (xx 4) (fun k h=>by cases h;rfl))))
    · (intro xx EF MF Q kk;(try refine JL.aU rfl rfl ?_);exact JL.q (OQ.assign rfl) rfl (JL.nil (kk default nofun)))
  · intro xx hx
    have e1:=hx 6 4 (by decide) rfl
    have e2:=hx 4 3 (by decide) rfl
    have e3:=hx 3 2 (by decide) rfl
    show JE _ _ _ _ _ [(6,.slice (some ⟨xx 6,0,none⟩) 2 2),(2,Pt b2 0),(3,Pt b3 0),(4,Pt b4 0),(5,Pt b5 0)] [⟨xx 2,Row 23 (tB.map U8),true⟩,⟨b4,Row 23 ((List.replicate 32 (0 : B)).map U8),true⟩,⟨b5,Row 23 ((List.replicate 32 (0 : B)).map U8),true⟩]
    rw [e1,e2,e3]
    generalize xx 2=bk
    clear hx e1 e2 e3 xx vs Ms
    repeat (first | refine JC.seq ?_ | refine JE.next ?_)
    let vs : Nat→Nat→Value:=fun j y=>match j with
      | 0=>.slice (some ⟨bk,0,none⟩) 2 2
      | 1=>Pt bk 0
      | 2=>.agg (tA.map U8).toArray
      | 3=>.slice (some ⟨bk,0,none⟩) 2 2
      | 4=>Pt bk (0+1 * 32)
      | 5=>.agg (tC.map U8).toArray
      | _=>N 0
    let Ms : Nat→Nat→List aG:=fun j y=>match j with
      | 6=>[⟨b4,Row 23 (tA.map U8),true⟩]
      | 7=>[⟨b5,Row 23 (tC.map U8),true⟩]
      | 8=>[⟨bk,Row 23 (tB.map U8),true⟩]
      | 9=>[⟨b4,Row 23 ((List.replicate 32 (0 : B)).map U8),true⟩]
      | 10=>[⟨b5,Row 23 ((List.replicate 32 (0 : B)).map U8),true⟩]
      | _=>[]
    refine JC.grow (g:=⟨[(4,Pt b4 0),(5,Pt b5 0),(6,.slice (some ⟨bk,0,none⟩) 2 2)],11,vs,Ms,(fun j=>match j with | 1=>[(0,14)] | 2=>[(1,15)] | 4=>[(3,17)] | 5=>[(4,18)] | 6=>[(2,16)] | 7=>[(5,19)] | _=>[]),(fun j=>match j with | 2=>[8] | 5=>[8] | 6=>[9] | 7=>[10] | _=>[]),(fun j=>match j with | 6=>[9] | 7=>[10] | _=>[]),(fun j=>match j with | _=>none)⟩) [] [6,7] gr (by repeat (first | exact ai.nil | refine ai.cons _ _ _ rfl ?_)) ?_ (by kernel_rfl) (by kernel_rfl) (by kernel_rfl) ?_ ?_
    · exact aq.refl _
    · refine ⟨?_,?_,?_,?_,?_,?_,?_,?_,trivial⟩
      · (intro xx EF MF Q kk;(try refine JL.aU rfl rfl ?_);exact JL.q (OQ.move rfl) rfl (JL.nil (kk default nofun)))
      · (intro xx EF MF Q kk;(try refine JL.aU rfl rfl ?_);exact JL.q (OQ.jS (sz:=32) (i:=0) Tryz.underlying90 aB rfl rfl (by decide)) rfl (JL.nil (kk default nofun)))
      · (intro xx EF MF Q kk;(try refine JL.aU rfl rfl ?_);exact JL.q (OQ.af (cs:=tA.map U8) aP aB rfl .here hlA (Row.cells r0)) rfl (JL.nil (kk default nofun)))
      · (intro xx EF MF Q kk;(try refine JL.aU rfl rfl ?_);exact JL.q (OQ.move rfl) rfl (JL.nil (kk default nofun)))
      · (intro xx EF MF Q kk;(try refine JL.aU rfl rfl ?_);exact JL.q (OQ.jS (sz:=32) (i:=1) Tryz.underlying90 aB rfl rfl (by decide)) rfl (JL.nil (kk default nofun)))
      · (intro xx EF MF Q kk;(try refine JL.aU rfl rfl ?_);exact JL.q (OQ.af (cs:=tC.map U8) aP aB rfl .here hlC (Row.cells r1)) rfl (JL.nil (kk default nofun)))
      · (intro xx EF MF Q kk;exact JL.ag (cs:=tA.map U8) aB rfl rfl hlA (aV _) .here (by simp) (JL.nil (kk default nofun)))
      · (intro xx EF MF Q kk;exact JL.ag (cs:=tC.map U8) aB rfl rfl hlC (aV _) .here (by simp) (JL.nil (kk default nofun)))
    · intro xx hx
      show JE _ _ _ _ _ [(4,Pt b4 0),(5,Pt b5 0),(6,.slice (some ⟨bk,0,none⟩) 2 2)] [⟨b4,Row 23 (tA.map U8),true⟩,⟨b5,Row 23 (tC.map U8),true⟩]
      repeat (refine JE.next ?_)
      refine JC.ret (JE.gp rfl (RV.av aP aB rfl .here hlA Row.all) (RV.av aP aB rfl (.there .here) hlC Row.all) ?_)
      exact fun w' hw=>⟨rfl,hw.aL⟩
theorem xI : aK Tryz.prog 41:=⟨_,Tryz.func41,rfl,by kernel_rfl⟩
theorem iA (l : List Kp) : ∀ v ∈ (aX l).flatten,v.oneCell'=true:=by
  intro v hv
  obtain ⟨c,hc,hv⟩:=List.mem_flatten.1 hv
  obtain ⟨k,_,rfl⟩:=List.mem_map.1 hc
  exact List.all_eq_true.1 (qA k) v hv
theorem um {l : List Kp} (h : ∀ k ∈ l,k.ok) : (aX l).flatten.length=l.length * 65:=by rw [dQ (fE h),dV]
abbrev pO (l : List Kp):={ q : Acc // q=none→l=[] }
set_option maxHeartbeats 4000000 in
theorem zx (s : mV) (w : World) (hs : s.ok w) (hl : s.l.length≤1000000) : Calls Tryz.prog 41 [s.v].toArray w fun e w'=>∃ q : pO s.l,e=.returned (aC q.1 s.l.length)∧ah w [] (fU q.1 s.l) w':=by
  refine enter (n:=8) Tryz.func41 rfl rfl rfl (ah.start w []) ?_
  have hfl:=um hs.all
  obtain ⟨ad,cap,l⟩:=s
  cases ad with
  | none=>
    have h0 : l=[]:=by
      cases l with
      | nil=>rfl
      | cons c l=>
        obtain ⟨b,j,h1,_⟩:=hs.reads.at (by simp only [] at hfl;rw [hfl];simp)
        cases h1
    subst h0
    repeat (first | refine JL.q (by first|(apply OQ.Ew (ad:=none) (k:=0) (cap:=cap);exact Tryz.underlying24;rfl;rfl)|(apply OQ.move;rfl)|(apply OQ.assign;rfl)) rfl ?_ | refine JC.seq ?_ | refine JC.region ?_ | refine JL.nil ?_ | refine JE.next ?_)
    refine JC.cond_true rfl rfl ?_
    repeat (first | refine JL.q (by (apply OQ.assign;rfl)) rfl ?_ | refine JC.seq ?_ | refine JC.region ?_ | refine JL.nil ?_ | refine JE.next ?_)
    refine JC.ret ?_
    repeat (refine JE.aH ?_)
    exact JE.aQ rfl (RV.tmp rfl) fun w' hw=>⟨⟨none,fun _=>rfl⟩,rfl,hw⟩
  | some ad=>
    repeat (first | refine JL.q (by first|(apply OQ.Ew (ad:=some ad) (k:=l.length) (cap:=cap);exact Tryz.underlying24;rfl;rfl)|(apply OQ.move;rfl)|(apply OQ.assign;rfl)) rfl ?_ | refine JC.seq ?_ | refine JC.region ?_ | refine JL.nil ?_ | refine JE.next ?_)
    refine JC.cond_false rfl rfl ?_
    repeat (first | refine JC.seq ?_ | refine JC.region ?_ | refine JC.skip ?_ | refine JE.next ?_)
    refine JL.uF Tryz.underlying24 B3 rfl fun b0 _=>?_
    repeat (refine JL.q (by (apply OQ.move;rfl)) rfl ?_)
    refine JL.append (cs:=(aX l).flatten) (m:=l.length) (ad:=some ad) (sc:=cap) (xs:=[]) (fun b' cap'=>[⟨b',Sl.aE 57 65 (0+l.length) cap' ([]++(aX l).flatten),true⟩]) Tryz.underlying24 B3 rfl rfl (by intro _ _;repeat (first | exact aZ.here | apply aZ.there)) hfl (fun w' hw'=>(hs.holds hw' rfl).reads) (iA l) rfl (by decide) (by simp only [] at hl;omega) (by simp only [] at hl;omega) rfl fun b1 cap1=>?_
    rw [Nat.zero_add,List.nil_append]
    repeat (first | refine JL.q (by (apply OQ.assign;rfl)) rfl ?_ | refine JL.nil ?_ | refine JE.next ?_)
    refine JC.ret (JE.aQ rfl (RV.tmp rfl) fun w' hw=>⟨⟨some (b1,cap1),nofun⟩,rfl,?_⟩)
    show ah w [] [⟨b1,Sl.aE 57 65 (aX l).length cap1 (aX l).flatten,true⟩] w'
    rw [dV]
    exact hw
theorem l7 : aK Tryz.prog 25:=⟨_,Tryz.func25,rfl,by kernel_rfl⟩
set_option maxHeartbeats 4000000 in
theorem nV (s : bA) (k : mV) (hs : s.ok) (w : World) (hk : k.ok w) (he : k.l=s.kept) (hl : s.kept.length≤1000000) : Calls Tryz.prog 25 [.agg (sec s k.v).toArray].toArray w fun e w'=>∃ q : pO s.kept,e=.returned (.agg (sec s (aC q.1 s.kept.length)).toArray)∧ah w [] (fU q.1 s.kept) w':=by
  have hv1 : k.v.oneCell'=true:=rfl
  have hl1:=ay hs k.v
  refine enter (n:=8) Tryz.func25 rfl rfl rfl (ah.start w []) ?_
  repeat (first | refine JC.seq ?_ | refine JC.region ?_)
  refine JL.box (r:=sec s k.v) rfl rfl rfl fun b1 _=>?_
  refine JL.alloc uk rfl fun b2 _=>?_
  repeat (first | refine JL.q (by first|(apply OQ.load;exact iV;rfl;exact (.there .here);exact (Row.cell (gO hs k.v)))|(apply OQ.bM;rfl;rfl;rfl;exact (by decide);rfl)) rfl ?_ | refine JC.seq ?_ | refine JC.region ?_ | refine JL.nil ?_ | refine JE.next ?_)
  rw [← he] at hl
  refine JL.bX (ι:=pO k.l) (vs:=[k.v]) (fun q=>aC q.1 k.l.length) (fun q=>fU q.1 k.l) xI rfl rfl (fun q=>ju _ _) (fun w' hw'=>zx k w' (hk.holds hw' rfl) hl) ?_
  rintro ⟨q,hq⟩
  try dsimp only
  rw [he] at hq ⊢
  have hl2:=ay hs (aC q s.kept.length)
  refine JL.perm (M':=⟨b2,Row 26 (sec dh (.slice none 0 0)),true⟩::⟨b1,Row 26 (sec s k.v),true⟩::fU q s.kept) ?_ (by exact List.perm_append_comm (l₂:=[_,_]))
  repeat (refine JL.q (by (apply OQ.bM;rfl;rfl;rfl;exact (by decide);rfl)) rfl ?_)
  refine JL.az (r:=sec s k.v) (r':=sec s (aC q s.kept.length)) B4 rfl rfl (gk _ _) (kG _ _) (.there .here) (by rw [hl1];decide) (fo hs _ _ _) ?_
  repeat (first | refine JL.q (by (apply OQ.af (cs:=sec s (aC q s.kept.length));exact gK;exact dB;rfl;exact (.there .here);exact hl2;exact Row.all)) rfl ?_ | refine JC.seq ?_ | refine JC.region ?_ | refine JL.nil ?_ | refine JE.next ?_)
  refine JL.ag (cs:=sec s (aC q s.kept.length)) dB rfl rfl hl2 (bw (gk _ _)) .here (ay br _) ?_
  repeat (first | refine JL.nil ?_ | refine JE.next ?_)
  refine JC.ret (JE.aQ rfl (RV.av gK dB rfl .here hl2 Row.all) ?_)
  exact fun w' hw=>⟨⟨q,hq⟩,rfl,hw.weak (.drop _ _ _ (.drop _ _ _ (aq.refl _)))⟩
theorem sD : aK Tryz.prog 67:=⟨_,Tryz.func67,rfl,by kernel_rfl⟩
set_option maxHeartbeats 8000000 in
theorem uo (b : Nat) (q : Acc) (s : bA) (hs : s.ok) (ht : s.taken<9000000000000000000) (w : World) (hT : Tb (keys (e7 b q s)) w) (h0 : ah w (keys (e7 b q s)) (e7 b q s) w) :
    Calls Tryz.prog 67 [Pt b 0].toArray w fun e w'=>e=.returned (.agg ((kD s.take).map U8).toArray)∧ah w (keys (e7 b q s)) (e7 b q (ee s)) w':=by
  generalize keys (e7 b q s)=S at h0 hT ⊢
  have hlt : (s.take.map U8).length=32:=by rw [List.length_map];exact hs.take
  have hst:=fun (w' : World) (M : List aG) (hw : ah w S M w')=>uj s.take hs.take w' (hT.g hw)
  have hs1 : ({ s with take:=mU s.take } : bA).ok:=⟨hs.root,hs.own,hs.other,hs.send,rfl,hs.kept⟩
  have hl0:=ay hs (aC q s.kept.length)
  have hl1:=ay hs1 (aC q s.kept.length)
  have p1:=fX hs (aC q s.kept.length) (mU s.take) rfl
  have p2:=fF hs1 (aC q s.kept.length) (s.taken+1)
  have hln : ((mU s.take).map U8).length=32:=rfl
  have hlm : ((kD s.take).map U8).length=32:=rfl
  have hst2 : ∀ (w' : World) (M : List aG) (hw : ah w S M w'),Calls Tryz.prog 37 [.agg (s.take.map U8).toArray].toArray w' fun e w''=>e=.returned (.tuple #[.agg ((mU s.take).map U8).toArray,.agg ((kD s.take).map U8).toArray])∧Ext w' w'':=hst
  clear hst
  have hR : e7 b q (ee s)=⟨b,Row 26 (sec { s with take:=mU s.take,taken:=s.taken+1 } (aC q s.kept.length)),true⟩::fU q s.kept:=rfl
  rw [hR]
  generalize mU s.take=nx at *
  generalize kD s.take=ms at *
  refine enter (n:=23) Tryz.func67 rfl rfl rfl h0 ?_
  refine JC.seq (JC.region (JL.alloc gR rfl fun b2 _=>?_))
  repeat (first | refine JC.seq ?_ | refine JC.region ?_ | refine JL.nil ?_ | refine JE.next ?_)
  refine JL.alloc gR rfl fun b3 _=>?_
  unfold e7
  repeat (first | refine JL.q (by first|(apply OQ.af (cs:=s.take.map U8);exact aP;exact aB;rfl;exact (.there (.there .here));exact hlt;exact (Row.cells (lg hs _)))|(apply OQ.au (vs:=[.agg (s.take.map U8).toArray]);exact rB;rfl;exact (fun w' hw'=>hst2 w' _ hw'))|(apply OQ.extract;rfl;rfl)|(apply OQ.move;rfl)|(apply OQ.cQ;rfl)|(apply OQ.bM;rfl;rfl;rfl;exact (by decide);rfl)) rfl ?_ | refine JC.seq ?_ | refine JC.region ?_ | refine JL.nil ?_ | refine JE.next ?_)
  refine JL.aW (r:=sec s (aC q s.kept.length)) (r':=sec { s with take:=nx } (aC q s.kept.length)) aB rfl rfl hln (aV _) (.there (.there .here)) (by rw [hl0,hln];decide) p1 ?_
  refine JL.ag (cs:=ms.map U8) aB rfl rfl hlm (aV _) .here (by simp) ?_
  repeat (first | refine JL.q (by first|(apply OQ.load;exact bB;rfl;exact (.there (.there .here));exact (Row.cell (dG hs1 _)))|(apply OQ.aY (a:=s.taken) (b:=1);rfl;rfl;exact (by omega))|(apply OQ.move;rfl)|(apply OQ.cQ;rfl)|(apply OQ.bM;rfl;rfl;rfl;exact (by decide);rfl)) rfl ?_ | refine JC.seq ?_ | refine JC.region ?_ | refine JL.nil ?_ | refine JE.next ?_)
  refine JL.az (r:=sec { s with take:=nx } (aC q s.kept.length)) (r':=sec { s with take:=nx,taken:=s.taken+1 } (aC q s.kept.length)) nt rfl rfl rfl rfl (.there (.there .here)) (by rw [hl1];decide) p2 ?_
  repeat (first | refine JL.q (by (apply OQ.af (cs:=ms.map U8);exact aP;exact aB;rfl;exact .here;exact hlm;exact Row.all)) rfl ?_ | refine JC.seq ?_ | refine JC.region ?_ | refine JL.nil ?_ | refine JE.next ?_)
  refine JL.ag (cs:=ms.map U8) aB rfl rfl hlm (aV _) (.there .here) (by simp) ?_
  repeat (first | refine JL.nil ?_ | refine JE.next ?_)
  refine JC.ret (JE.aQ rfl (RV.av aP aB rfl (.there .here) hlm Row.all) ?_)
  exact fun w' hw=>⟨rfl,hw.weak (.drop _ _ _ (.drop _ _ _ (aq.refl _)))⟩
end
section
set_option maxRecDepth 10000
open Sl
namespace Sl
section
variable {P : Program} {n : Nat} {w0 : World} {S : List Nat} {ops : Array Oper} {Q : Exit→Act→World→Prop} {l : List Oper} {E : Env} {M M' : List aG} {C : World→Prop}
variable {dst : Option Tmp} {d b : Nat} {t e ty : TypeId} {pos : String} {aft : Array Edge} {g : Option (Nat × Bool)} {x y z u : Operand} {cs : List Value}
theorem OQ.Ez {len cap lo hi mx sz : Nat} {ad : Option Addr} (hu : P.underlying t=some (.slice e)) (hz : dJ P e=some sz) (hx : ev E x=some (.slice ad len cap)) (hl : ev E y=some (N lo)) (hh : ev E z=some (N hi)) (hm : ev E u=some (N mx)) (h : lo≤hi) (h2 : hi≤mx) (h' : mx≤cap) :
    OQ P n E C ⟨dst,.slice t x (some y) (some z) (some u),ty,pos,aft,g⟩ (.slice (if mx=lo then ad else ad.map (·.add (lo * sz))) (hi - lo) (mx - lo)):=
  OQ.run fun a ha w _=>by
    have h1:=ha.eval hx
    have h4:=ha.eval hl
    have h5:=ha.eval hh
    have h6:=ha.eval hm
    have h3 : (underlying t).run P w=.ok (.slice e) w:=run_underlying hu w
    simp [execOp,h1,h4,h5,h6,Instr.sliceAt,Sem.run_bind,h3,Instr.slice,Instr.sliceBounds,Instr.sliceBound,asIntOf,h,h2,h',aJ hz]
theorem JL.EA {zv : Value} {ad : Option Addr} {sz by' i k m cap sc : Nat} {xs xs' : List Value} (hu : P.underlying t=some (.slice e)) (hi : EI P e zv sz by') (hx : ev E x=some (.slice (some ⟨b,0,none⟩) i cap)) (hy : ev E y=some (.slice ad m sc))
    (hup : eJ M b (Sl.aE e sz k cap xs) (Sl.aE e sz k cap xs') M') (hl : cs.length=m * sz) (hr : ∀ w,ah w0 S M w→Reads w ad cs) (h1 : ∀ v ∈ cs,v.oneCell'=true) (h0 : 0<sz) (hroom : i+m≤k) (he : xs.take (i * sz)++cs++xs.drop (i * sz+m * sz)=xs') (hd : Nat.blt d n=true)
    (kk : JL P n w0 S ops Q l ((d,.slice (some ⟨b,0,none⟩) (i+m) cap)::E) M') : JL P n w0 S ops Q (⟨some d,.call ⟨.builtin .append,#[x,y],#[t,t]⟩,ty,pos,aft,none⟩::l) E M:=
  ⟨fun a w ha hw=>wpList_plain rfl fun K hK=>by
    obtain ⟨inf,hi1,hi2,hi3,hi4⟩:=hi.get
    obtain ⟨o,ho,sp,rfl,hc1,hc2,hc3⟩:=hw.get hup.has
    have hru:=hr w hw
    have hle : i * sz+m * sz≤k * sz:=by rw [← Nat.add_mul];exact Nat.mul_le_mul_right _ hroom
    unfold Oper.wp
    simp only [execOp,resolve,invoke,builtin,Sem.run_bind,Sem.run_pure,Result.andThen_ok,List.map_toArray,List.map_cons,List.map_nil,ha.eval hx,ha.eval hy]
    by_cases hm : m=0
    · subst hm
      have hcs : cs=[]:=List.eq_nil_of_length_eq_zero (by simpa using hl)
      subst hcs
      rw [lf (_t':=t) hu hi1 (by omega)]
      refine hK _ _ (kk.go _ _ (ha.put d _ hd) (hw.write hup (o':=.cells (xs++sp).toArray e (0,0)) ?_ ho rfl (fun _ _=>rfl) rfl rfl rfl))
      rw [← he]
      refine ⟨sp,?_,?_,?_,hc3⟩
      · simp
      · simpa using hc1
      · simpa using hc2
    · have hpos : 0<cs.length:=by rw [hl];exact Nat.mul_pos (Nat.pos_of_ne_zero hm) h0
      obtain ⟨b2,j2,rfl,hcell⟩:=hru.at hpos
      have hfit : i * inf.size+cs.length≤(xs++sp).toArray.size:=by
        rw [hl,hi3,List.size_toArray,List.length_append];omega
      rw [run_append_room (P:=P) w t ty e inf hu hi1 b i cap (xs++sp).toArray ho ⟨b2,j2,none⟩ m sc cs (by rw [hl,hi3]) (fun u v hv=>by rw [c9];exact hcell u v hv) h1 (by omega) hfit]
      refine hK _ _ (kk.go _ _ (ha.put d _ hd) (hw.write hup (o':=.cells ((xs++sp).take (i * inf.size)++cs++(xs++sp).drop (i * inf.size+cs.length)).toArray e (0,0)) ?_ (setRow_heap w b _ _ e _ ho) (by simp) (fun q hq=>setRow_other w b q _ hq) rfl rfl rfl))
      rw [hi3,hl,List.take_append_of_le_length (by omega),List.drop_append_of_le_length (by omega),← List.append_assoc,he]
      have hxl : xs'.length=xs.length:=by rw [← he];simp only [List.length_append,List.length_take,List.length_drop,hl];omega
      exact ⟨sp,rfl,by rw [List.length_append] at hc1 ⊢;omega,by omega,hc3⟩⟩
theorem zip_map {a : Act} (hk : bK n E a) : ∀ {is : List Nat} {xs : List Operand} {vs : List Value},mO E xs=some vs→(is.zip xs).map (fun p=>(p.1,a.eval p.2))=is.zip vs
  | [],xs,vs,_=>by simp
  | i::is,[],vs,h=>by
    simp only [mO,Option.some.injEq] at h
    subst h
    rfl
  | i::is,x::xs,vs,h=>by
    simp only [mO] at h
    cases h1 : ev E x with
    | none=>simp [h1] at h
    | some v=>
      cases h2 : mO E xs with
      | none=>simp [h1,h2] at h
      | some us=>
        simp only [h1,h2,Option.some.injEq] at h
        subst h
        simp [hk.eval h1,zip_map hk h2]
theorem OQ.l9 {ps : Array (Nat × Operand)} (is : List Nat) (xs : List Operand) {vs : List Value} (hps : ps=(is.zip xs).toArray) (hx : mO E xs=some vs) (h : P.built t (is.zip vs)=some cs.toArray) : OQ P n E C ⟨dst,.build t ps,ty,pos,aft,g⟩ (.agg cs.toArray):=
  OQ.run fun a ha w _=>by
    have hm : ps.map (fun (i,x)=>(i,a.eval x))=(is.zip vs).toArray:=by
      rw [hps,List.map_toArray,← zip_map ha hx]
    have r:=run_build w t (is.zip vs).toArray cs.toArray (by simpa using h)
    simp only [execOp,hm,Sem.run_bind,r,Result.andThen_ok]
    rfl
end
theorem OQ.I6 {P : Program} {n : Nat} {E : Env} {C : World→Prop} {dst : Option Tmp} {t t' ty e : TypeId} {x y : Operand} {pos : String} {aft : Array Edge} {g : Option (Nat × Bool)} {m : Nat} {r q : List (BitVec 8)} (hu : P.underlying t=some (.array m e)) (he : P.underlying e=some (.int .u8)) (hz : dJ P e=some 1) (hgd : P.eqGuardType P.depth t=false) (hx : ev E x=some (.agg (r.map U8).toArray)) (hy : ev E y=some (.agg (q.map U8).toArray)) (hr : r.length=m) (hq : q.length=m) (h : ¬ r=q) :
    OQ P n E C ⟨dst,.binOp .eql t x y t',ty,pos,aft,g⟩ (.bool false):=(decide_eq_false h : decide (r=q)=false) ▸ OQ.Lf hu he hz hgd hx hy hr hq
theorem OQ.KN {P : Program} {n : Nat} {E : Env} {C : World→Prop} {dst : Option Tmp} {t ty e : TypeId} {pos : String} {aft : Array Edge} {g : Option (Nat × Bool)} {x : Operand} {q : Acc} {k : Nat} (hu : P.underlying t=some (.slice e)) (hq : q=none→k=0) (hx : ev E x=some (aC q k)) : OQ P n E C ⟨dst,.call ⟨.builtin .len,#[x],#[t]⟩,ty,pos,aft,g⟩ (N k):=by
  cases q with
  | none=>obtain rfl:=hq rfl;exact OQ.len hu hx
  | some r=>exact OQ.len hu hx
theorem OQ.EB {P : Program} {n : Nat} {w0 : World} {S : List Nat} {M : List aG} {E : Env} {dst : Option Tmp} {ty : TypeId} {pos : String} {aft : Array Edge} {g : Option (Nat × Bool)} {x : Operand} {ats : Array TypeId} {f : FuncId} {caps vs : List Value} {xs : List Operand} {v : Value} (hg : aK P f) (hx : ev E x=some (.func (.func f) #[] caps.toArray)) (hy : mO E xs=some vs)
    (hc : ∀ w,ah w0 S M w→Calls P f (vs++caps).toArray w fun e w'=>e=.returned v∧Ext w w') : OQ P n E (ah w0 S M) ⟨dst,.call ⟨.value x,xs.toArray,ats⟩,ty,pos,aft,g⟩ v:=by
  refine ⟨fun a hk w hw=>?_⟩
  unfold Oper.quietAt
  rw [yp (xs:=xs) hg hk hx hy w]
  exact ⟨rfl,(hc w hw).mono fun e w' ⟨k1,k2⟩=>⟨k1,hw.ext k2⟩⟩
end Sl
end
end Go.Proofs.YtgkninhgcpbfnaaGreatDoor
