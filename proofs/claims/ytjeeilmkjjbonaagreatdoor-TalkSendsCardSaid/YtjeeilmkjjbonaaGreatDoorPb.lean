/-
  Of no statement by itself: the texts Slq, Slr, Sls, Slp, Slac, Typ, Prs, Prz, Slap, Slsu, Slfv, Slwi, Slcc, Slin, Slja, Sliv, Slmv, TalA, Slcv, FieT, FieA, LsP, LsA, TokH, TokJ, TokK, TokC, TokW, TkA, TkB, LsC in one.
  Conditions: each theorem's own.
-/
import Derived.Test.YtjeeilmkjjbonaaGreatDoorPa
import Derived.Laws.BytesString
import Derived.Deep.AppendSrc
import Derived.Test.YtjeeilmkjjbonaaGreatDoorProg
import Derived.Laws.StructEq
import Derived.Laws.Slices
import Derived.Laws.Strings2
import Derived.ScopeJumps
import Derived.Lib.Overlaps
import Derived.Laws.Tables
import Derived.Laws.Cover3
import Derived.Lib.SlTrimSet
import Derived.Lib.IndexAny
import Derived.Laws.Externs
import Derived.Shelf.Strings.SlTrimAscii
import Derived.Shelf.Strings.OnBuilder
import Derived.Shelf.Strings.Split
set_option linter.unusedSimpArgs false
set_option linter.unusedVariables false
namespace Go.Proofs.YtjeeilmkjjbonaaGreatDoor
section
open Sl
def bz (l : List Bt) : ByteArray:=⟨(l.map UInt8.ofBitVec).toArray⟩
@[reducible] def Z (l : List Bt) : Value:=.string (bz l)
theorem bt (l : List Bt) : (bz l).size=l.length:=by
  show (l.map UInt8.ofBitVec).toArray.size=l.length
  simp
theorem iT (s : ByteArray) : bz (bytesOf s)=s:=by
  apply ByteArray.ext
  show ((s.data.toList.map UInt8.toBitVec).map UInt8.ofBitVec).toArray=s.data
  simp [Function.comp_def]
theorem oS (l r : List Bt) : bz l++bz r=bz (l++r):=by
  apply ByteArray.ext
  rw [ByteArray.data_append]
  show (l.map UInt8.ofBitVec).toArray++(r.map UInt8.ofBitVec).toArray=((l++r).map UInt8.ofBitVec).toArray
  simp
theorem su (l r : List Bt) : ((bz l).toList == (bz r).toList)=decide (l=r):=by
  rw [ByteArray.toList_eq,ByteArray.toList_eq]
  show ((l.map UInt8.ofBitVec).toArray.toList == (r.map UInt8.ofBitVec).toArray.toList)=_
  rw [List.toList_toArray,List.toList_toArray]
  exact ya l r
section
variable {P : Program} {n : Nat} {E : Env} {C : World→Prop} {dst : Option Tmp} {ty t t' e : TypeId} {pos : String} {aft : Array Edge} {g : Option (Nat × Bool)} {x y : Operand} {l r : List Bt}
theorem OQ.bC (hu : P.underlying t=some .string) (hx : ev E x=some (Z l)) : OQ P n E C ⟨dst,.call ⟨.builtin .len,#[x],#[t]⟩,ty,pos,aft,g⟩ (N l.length):=
  bt l ▸ OQ.BF hu hx
theorem OQ.jZ {k : IntKind} {i : Nat} (hu : P.underlying t=some .string) (hx : ev E x=some (Z l)) (hy : ev E y=some (.int k i)) (hi : i<l.length) : OQ P n E C ⟨dst,.index t x y,ty,pos,aft,g⟩ (U8 (l.getD i 0)):=
  OQ.run fun a ha w _=>by
    have h1:=ha.eval hx
    have h2:=ha.eval hy
    have h3 : (underlying t).run P w=.ok .string w:=run_underlying hu w
    have h4 : (bz l)[i]?=some (UInt8.ofBitVec (l.getD i 0)):=by
      have hs : i<(bz l).size:=by rw [bt];exact hi
      rw [getElem?_pos (bz l) i hs]
      show some (((l.map UInt8.ofBitVec).toArray)[i]'(by simpa using hi))=_
      rw [List.getElem_toArray,List.getElem_map,List.getD_eq_getElem?_getD,List.getElem?_eq_getElem hi];rfl
    simp [execOp,h1,h2,Instr.index,asIntOf,Sem.run_bind,h3,h4]
theorem OQ.Bz (hx : ev E x=some (Z l)) (hy : ev E y=some (Z r)) : OQ P n E C ⟨dst,.binOp .eql t x y t',ty,pos,aft,g⟩ (.bool (decide (l=r))):=
  OQ.run fun a ha w _=>by
    have h1:=ha.eval hx
    have h2:=ha.eval hy
    simp [execOp,h1,h2,eqGuard,binOp,Op.stringOp,su]
theorem OQ.Ca (hx : ev E x=some (Z l)) (hy : ev E y=some (Z r)) : OQ P n E C ⟨dst,.binOp .neq t x y t',ty,pos,aft,g⟩ (.bool (!decide (l=r))):=
  OQ.run fun a ha w _=>by
    have h1:=ha.eval hx
    have h2:=ha.eval hy
    simp [execOp,h1,h2,eqGuard,binOp,Op.stringOp,su]
theorem OQ.zd (hx : ev E x=some (Z l)) (hy : ev E y=some (Z r)) (h : l=r) : OQ P n E C ⟨dst,.binOp .eql t x y t',ty,pos,aft,g⟩ (.bool true):=
  (decide_eq_true h : decide (l=r)=true) ▸ OQ.Bz hx hy
theorem OQ.AQ (hx : ev E x=some (Z l)) (hy : ev E y=some (Z r)) (h : ¬ l=r) : OQ P n E C ⟨dst,.binOp .eql t x y t',ty,pos,aft,g⟩ (.bool false):=
  (decide_eq_false h : decide (l=r)=false) ▸ OQ.Bz hx hy
theorem OQ.bS (hx : ev E x=some (Z l)) (hy : ev E y=some (Z r)) (h : l.length+r.length<9223372036854775808) : OQ P n E C ⟨dst,.binOp .add t x y t',ty,pos,aft,g⟩ (Z (l++r)):=
  OQ.run fun a ha w _=>by
    have h1:=ha.eval hx
    have h2:=ha.eval hy
    have h3 : ¬ ((((bz l).size+(bz r).size : Nat) : Int)>IntKind.i64.max):=by
      rw [bt,bt,show IntKind.i64.max=9223372036854775807 from rfl]
      omega
    have h4 : (Op.stringOp .add (bz l) (bz r)).run P w=.ok (Z (l++r)) w:=by
      unfold Op.stringOp
      simp only
      rw [if_neg h3,oS];rfl
    simp [execOp,h1,h2,eqGuard,binOp,h4,Sem.run_bind]
end
theorem oT : ∀ (l : List Bt) (s : ByteArray),(l.map fun b=>(b.toNat : Int)).foldl (fun r n=>r.push (UInt8.ofNat n.toNat)) s=s++bz l
  | [],s=>by
    apply ByteArray.ext
    rw [ByteArray.data_append]
    show s.data=s.data++#[]
    simp
  | b::l,s=>by
    rw [List.map_cons,List.foldl_cons,oT l]
    apply ByteArray.ext
    rw [ByteArray.data_append,ByteArray.data_append,ByteArray.data_push]
    have e : UInt8.ofNat ((b.toNat : Int)).toNat=UInt8.ofBitVec b:=by
      apply UInt8.toNat_inj.1
      simp
    rw [e]
    show s.data.push (UInt8.ofBitVec b)++(l.map UInt8.ofBitVec).toArray=s.data++((b::l).map UInt8.ofBitVec).toArray
    simp
theorem j0 {P : Program} {w : World} {ad : Addr} {cs : List Value} (h : Reads w (some ad) cs) : (loadCells ad cs.length).run P w=.ok cs.toArray w:=by
  refine run_loadCells_list (P:=P) w ad cs fun i v hv=>?_
  obtain ⟨b,j,h1,h2⟩:=h i v hv
  cases h1
  rw [bX];exact h2
section
variable {P : Program} {n : Nat} {E : Env} {w0 : World} {S : List Nat} {M : List aN} {dst : Option Tmp} {ty t t' e : TypeId} {pos : String} {aft : Array Edge} {g : Option (Nat × Bool)} {x : Operand}
theorem OQ.qQ {s : aB} (hs : P.underlying t=some (.slice e)) (he : P.underlying e=some (.int .u8)) (hd : P.underlying t'=some .string) (hx : ev E x=some s.v) (hr : ∀ w,aa w0 S M w→s.ok w) :
    OQ P n E (aa w0 S M) ⟨dst,.convert t t' x,ty,pos,aft,g⟩ (Z s.l):=
  OQ.run fun a ha w hw=>by
    have h1:=ha.eval hx
    have ok:=(hr w hw).reads
    have h2 : (convert t t' s.v).run P w=.ok (Z s.l) w:=by
      obtain ⟨ad,cap,l⟩:=s
      show (convert t t' (.slice ad l.length cap)).run P w=_
      rw [run_convert_bytes_string w t t' e ad l.length cap hs he hd]
      cases ad with
      | none=>
        have : l=[]:=by
          cases l with
          | nil=>rfl
          | cons b l=>
            obtain ⟨_,_,h,_⟩:=ok 0 (U8 b) rfl
            cases h
        subst this
        rfl
      | some ad=>
        have h3 : (loadCells ad l.length).run P w=.ok ((l.map fun b=>(b.toNat : Int)).map (Value.int .u8)).toArray w:=by
          have:=j0 (P:=P) ok
          rw [List.length_map] at this
          rw [this,List.map_map];rfl
        rw [run_bytesToString w ad l.length cap _ h3,oT]
        have : ByteArray.empty++bz l=bz l:=by
          apply ByteArray.ext
          rw [ByteArray.data_append]
          show #[]++(bz l).data=_
          simp
        rw [this]
    simp only [execOp,h1,Sem.run_bind,h2,Result.andThen_ok];rfl
end
theorem JL.dI {P : Program} {n : Nat} {w0 : World} {S : List Nat} {ops : Array Oper} {Q : Exit→Act→World→Prop} {l : List Oper} {E : Env} {M : List aN} {t e ty ty' : TypeId} {x1 x2 y : Operand} {z v1 v2 : Value} {by' k cap b d1 d2 : Nat} {pos pos' : String} {aft aft' : Array Edge} {xs : List Value}
    (M' : Nat→Nat→List aN) (hu : P.underlying t=some (.slice e)) (hi : EI P e z 1 by') (hz : z.cells.size=1) (hx1 : ev E x1=some v1) (hx2 : ev E x2=some v2) (hv1 : v1.cells=#[v1]) (hv2 : v2.cells=#[v2]) (h1 : v1.oneCell'=true) (h2 : v2.oneCell'=true)
    (ha : ∀ bl,ev ((d1,.slice (some ⟨bl,0,none⟩) 2 2)::E) y=some (.slice (some ⟨b,0,none⟩) k cap)) (hup : ∀ b' cap',az M b (Sl.aG e 1 k cap xs) b' (Sl.aG e 1 (k+2) cap' (xs++[v1,v2])) (M' b' cap'))
    (hsm : (k+2) * by'≤140737488355328) (hsm2 : k+2<9223372036854775808) (hd1 : Nat.blt d1 n=true) (hd2 : Nat.blt d2 n=true)
    (kk : ∀ bl b' cap',JL P n w0 S ops Q l ((d2,.slice (some ⟨b',0,none⟩) (k+2) cap')::(d1,.slice (some ⟨bl,0,none⟩) 2 2)::E) (M' b' cap')) :
    JL P n w0 S ops Q (⟨some d1,.buildSlice t 2 #[(0,x1),(1,x2)],ty,pos,aft,none⟩::⟨some d2,.call ⟨.builtin .append,#[y,.tmp d1],#[t,t]⟩,ty',pos',aft',none⟩::l) E M:=by
  refine JL.lX (xs:=[x1,x2]) (vs:=[v1,v2]) hu hi hz rfl (by simp [fQ,hx1,hx2]) (by simp [h1,h2]) (by simp [hv1,hv2]) rfl (by decide) (by decide) hd1 fun bl _=>?_
  refine JL.append (cs:=[v1,v2]) (m:=2) (ad:=some ⟨bl,0,none⟩) (sc:=2) (fun b' cap'=>⟨bl,Row e [v1,v2],true⟩::M' b' cap') hu hi (ha bl) (by simp [ev,lk]) (fun b' cap'=>.there (hup b' cap')) rfl (fun w hw=>?_) (by simp [h1,h2]) hz (by decide) hsm hsm2 hd2 fun b' cap'=>?_
  · obtain ⟨o,ho,hA⟩:=hw.get (b:=bl) (A:=Row e [v1,v2]) (wr:=true) .here
    exact Reads.block ho (Row.all _ hA)
  · exact ⟨fun a w ha hw=>(kk bl b' cap').go a w ha (hw.weak (.drop _ _ _ (aq.refl _)))⟩
structure BA (x : aB) (l : List Bt) : Prop where
  val : x.l=l
  none : x.ad=.none→x.l=[]
theorem tK (A M : List aN) : aq M (A++M):=by
  induction A with
  | nil=>exact aq.refl _
  | cons e A ih=>exact .drop _ _ _ ih
theorem BA.ok {x : aB} {l : List Bt} {w0 w : World} {S : List Nat} {M : List aN} (h : BA x l) (hw : aa w0 S (x.iS++M) w) : x.ok w:=aB.ny hw h.none
theorem BA.B0 {x : aB} {l : List Bt} {w0 w : World} {S : List Nat} {A M : List aN} (h : BA x l) (hw : aa w0 S (A++(x.iS++M)) w) : x.ok w:=h.ok (hw.weak (tK _ _))
theorem OQ.sw {P : Program} {n : Nat} {E : Env} {C : World→Prop} {dst : Option Tmp} {ty t t' : TypeId} {pos : String} {aft : Array Edge} {g : Option (Nat × Bool)} {x y : Operand} {k : IntKind} {a b : Int} (hx : ev E x=some (.int k a)) (hy : ev E y=some (.int k b)) (h : ¬ a=b) : OQ P n E C ⟨dst,.binOp .neq t x y t',ty,pos,aft,g⟩ (.bool true):=by
  have e : (!decide (a=b))=true:=by rw [decide_eq_false h];rfl
  exact e ▸ OQ.AI hx hy
theorem eC {c d : Bt} (h : ¬ c=d) : ¬ (c.toNat : Int)=(d.toNat : Int):=fun e=>h (BitVec.eq_of_toNat_eq (by omega))
end
section
open Sl
theorem kM.over {w0 w1 w2 : World} {S : List Nat} (h1 : Ext w0 w1) (h2 : kM S w1 w2) (hS : ∀ b ∈ S,w0.heap.size≤b) : Ext w0 w2:=
  ⟨h2.os.trans h1.os,h2.tape.trans h1.tape,h2.output.trans h1.output,Nat.le_trans h1.size h2.size,
   fun k hk hk'=>(h2.block k (Nat.lt_of_lt_of_le hk h1.size) (fun h=>by have:=hS k h;omega)).trans (h1.block k hk hk')⟩
theorem JL.sx {P : Program} {n : Nat} {w0 : World} {S S' : List Nat} {ops : Array Oper} {Q : Exit→Act→World→Prop} {l : List Oper} {E : Env} {M : List aN} {d : Nat} {ty : TypeId} {pos : String} {aft : Array Edge} {ι : Type} (vf : ι→Value) (F : ι→World→Prop) (M' : List aN)
    {f : FuncId} {xs : List Operand} {ats : Array TypeId} {vs : List Value} (hg : aO P f) (hx : fQ E xs=some vs) (hd : Nat.blt d n=true)
    (hc : ∀ w1,aa w0 S M w1→Calls P f vs.toArray w1 fun e w2=>∃ i,e=.returned (vf i)∧Ext w1 w2∧F i w2)
    (hM : aq M' M) (hS : ∀ e ∈ M',e.wr=true→e.b ∈ S')
    (k : ∀ i w1,aa w0 S M w1→F i w1→JL P n w1 S' ops Q l ((d,vf i)::E) M') : JL P n w0 S ops Q (⟨some d,.call ⟨.value (.func f),xs.toArray,ats⟩,ty,pos,aft,none⟩::l) E M:=
  ⟨fun a w ha hw=>wpList_plain rfl fun K hK=>by
    unfold Oper.wp
    rw [jr hg ha hx w]
    exact (hc w hw).mono fun e w' ⟨i,h1,h2,h3⟩=>by
      subst h1
      have hw':=hw.ext h2
      have hm:=hw'.weak hM
      exact hK _ _ ((k i w' hw' h3).go _ _ (ha.put d _ hd) ⟨kM.refl _ _,hm.nodup,fun e he=>⟨(hm.all e he).1,fun hr=>.inl (hS e he hr)⟩⟩)⟩
def fH (rs : List aB) : List aN:=rs.flatMap aB.iS
theorem c7 {A B : List aN} (C : List aN) (h : aq A B) : aq A (C++B):=by
  induction C with
  | nil=>exact h
  | cons e C ih=>exact .drop _ _ _ ih
theorem oU {x : aB} : ∀ {rs : List aB},x ∈ rs→aq x.iS (fH rs)
  | y::rs,h=>by
    rcases List.mem_cons.1 h with rfl | h
    · exact ew _ _
    · exact c7 y.iS (oU h)
theorem yd {rs : List aB} {w0 w : World} {S : List Nat} {A : List aN} (hw : aa w0 S (A++fH rs) w) (h0 : ∀ x ∈ rs,x.ad=none→x.l=[]) : ∀ x ∈ rs,x.ok w:=fun x hx=>
  aB.ny (M:=[]) (by rw [List.append_nil];exact hw.weak (c7 A (oU hx))) (h0 x hx)
theorem mA {B B' : List aN} (h : aq B' B) : ∀ A : List aN,aq (A++B') (A++B)
  | []=>h
  | ⟨_,_,_⟩::A=>.keep _ _ _ _ _ _ (fun _ h=>h) (mA h A)
theorem JE.perm {n : Nat} {w0 : World} {S : List Nat} {Q : Exit→Act→World→Prop} {e : Exit} {E : Env} {M M' : List aN} (hp : M.Perm M') (h : JE n w0 S Q e E M') : JE n w0 S Q e E M:=
  ⟨fun a w ha hw=>h.go a w ha ⟨hw.aS,(hp.map aN.b).nodup_iff.1 hw.nodup,fun e he=>hw.all e (hp.mem_iff.2 he)⟩⟩
structure ov where
  ad : Option Addr
  cap : Nat
  rs : List aB
def ov.v (s : ov) : Value:=.slice s.ad s.rs.length s.cap
def ov.ls (s : ov) : List (List Bt):=s.rs.map aB.l
structure ov.ok (w : World) (s : ov) : Prop where
  len : s.rs.length≤s.cap
  reads : Reads w s.ad (s.rs.map aB.v)
  all : ∀ y ∈ s.rs,y.ok w
theorem ye {w0 w : World} {S : List Nat} {A : List aN} {b cap : Nat} {e : TypeId} {rs : List aB} {wr : Bool} (hw : aa w0 S (A++fH rs) w) (hM : Has (A++fH rs) b (Sl.aG e 1 rs.length cap (rs.map aB.v)) wr) (h0 : ∀ x ∈ rs,x.ad=none→x.l=[]) : ov.ok w ⟨some ⟨b,0,none⟩,cap,rs⟩:=by
  obtain ⟨o,ho,hA⟩:=hw.get hM
  have hh:=Sl.aG.cells _ hA
  obtain ⟨sp,rfl,h2,h3,h4⟩:=hA
  exact ⟨h4,Reads.block ho hh,yd hw h0⟩
theorem vK {e : TypeId} {k cap b : Nat} {l : List Bt} (h : l.length=k) : aq (aB.iS ⟨some ⟨b,0,none⟩,cap,l⟩) [⟨b,Sl.aG e 1 k cap (l.map U8),true⟩]:=by
  refine .keep _ _ _ _ _ _ (fun o ho=>?_) (.nil _)
  obtain ⟨sp,rfl,h1,h2,h3⟩:=ho
  refine ⟨⟨_,_,_,rfl,fun i hi=>?_⟩,?_,rfl⟩
  · have hi : i<l.length:=by simpa using hi
    simp [List.getElem?_append_left,hi]
  · show l.length≤cap
    omega
theorem tL {e : TypeId} {cap b : Nat} {l : List Bt} (rs : List aB) : aq (fH (rs++[⟨some ⟨b,0,none⟩,cap,l⟩])) (fH rs++[⟨b,Sl.aG e 1 l.length cap (l.map U8),true⟩]):=by
  unfold fH
  rw [List.flatMap_append]
  refine mA ?_ _
  show aq (aB.iS _++[]) _
  rw [List.append_nil]
  exact vK rfl
theorem AR (c a b : aN) (F : List aN) : (c::([a,b]++F)).Perm (c::b::(F++[a])):=.cons _ (List.perm_append_singleton a (b::F)).symm
theorem Sl.aa.base {w0 w1 w2 : World} {M : List aN} (h1 : Ext w0 w1) (h : aa w1 [] M w2) : aa w0 [] M w2:=
  ⟨kM.over h1 h.aS (by simp),h.nodup,fun e he=>⟨(h.all e he).1,fun hr=>.inr (((h.all e he).2 hr).elim (fun h=>by simp at h) (fun h=>Nat.le_trans h1.size h))⟩⟩
theorem JL.AS {P : Program} {n : Nat} {w0 : World} {S : List Nat} {ops : Array Oper} {Q : Exit→Act→World→Prop} {l : List Oper} {E : Env} {M : List aN} {t e ty ty' : TypeId} {x1 x2 x3 y : Operand} {z v1 v2 v3 : Value} {by' k cap b d1 d2 : Nat} {pos pos' : String} {aft aft' : Array Edge} {xs : List Value}
    (M' : Nat→Nat→List aN) (hu : P.underlying t=some (.slice e)) (hi : EI P e z 1 by') (hz : z.cells.size=1) (hx1 : ev E x1=some v1) (hx2 : ev E x2=some v2) (hx3 : ev E x3=some v3) (hv1 : v1.cells=#[v1]) (hv2 : v2.cells=#[v2]) (hv3 : v3.cells=#[v3]) (h1 : v1.oneCell'=true) (h2 : v2.oneCell'=true) (h3 : v3.oneCell'=true)
    (ha : ∀ bl,ev ((d1,.slice (some ⟨bl,0,none⟩) 3 3)::E) y=some (.slice (some ⟨b,0,none⟩) k cap)) (hup : ∀ b' cap',az M b (Sl.aG e 1 k cap xs) b' (Sl.aG e 1 (k+3) cap' (xs++[v1,v2,v3])) (M' b' cap'))
    (hsm : (k+3) * by'≤140737488355328) (hsm2 : k+3<9223372036854775808) (hd1 : Nat.blt d1 n=true) (hd2 : Nat.blt d2 n=true)
    (kk : ∀ bl b' cap',JL P n w0 S ops Q l ((d2,.slice (some ⟨b',0,none⟩) (k+3) cap')::(d1,.slice (some ⟨bl,0,none⟩) 3 3)::E) (M' b' cap')) :
    JL P n w0 S ops Q (⟨some d1,.buildSlice t 3 #[(0,x1),(1,x2),(2,x3)],ty,pos,aft,none⟩::⟨some d2,.call ⟨.builtin .append,#[y,.tmp d1],#[t,t]⟩,ty',pos',aft',none⟩::l) E M:=by
  refine JL.lX (xs:=[x1,x2,x3]) (vs:=[v1,v2,v3]) hu hi hz rfl (by simp [fQ,hx1,hx2,hx3]) (by simp [h1,h2,h3]) (by simp [hv1,hv2,hv3]) rfl (by decide) (by decide) hd1 fun bl _=>?_
  refine JL.append (cs:=[v1,v2,v3]) (m:=3) (ad:=some ⟨bl,0,none⟩) (sc:=3) (fun b' cap'=>⟨bl,Row e [v1,v2,v3],true⟩::M' b' cap') hu hi (ha bl) (by simp [ev,lk]) (fun b' cap'=>.there (hup b' cap')) rfl (fun w hw=>?_) (by simp [h1,h2,h3]) hz (by decide) hsm hsm2 hd2 fun b' cap'=>?_
  · obtain ⟨o,ho,hA⟩:=hw.get (b:=bl) (A:=Row e [v1,v2,v3]) (wr:=true) .here
    exact Reads.block ho (Row.all _ hA)
  · exact ⟨fun a w ha hw=>(kk bl b' cap').go a w ha (hw.weak (.drop _ _ _ (aq.refl _)))⟩
theorem c8 (l : List Bt) : ∀ v ∈ l.map U8,v.oneCell'=true:=by
  intro v hv
  obtain ⟨x,_,rfl⟩:=List.mem_map.1 hv
  rfl
theorem JE.oV {P : Program} {fn : Func} {R : Ending→World→Prop} {n : Nat} {w0 : World} {S : List Nat} {E : Env} {M : List aN} {r1 r2 r3 : ResultVar} {v1 v2 v3 : Value} (hr : fn.results=#[r1,r2,r3]) (h1 : RV P n w0 S E M r1 v1) (h2 : RV P n w0 S E M r2 v2) (h3 : RV P n w0 S E M r3 v3) (hR : ∀ w,aa w0 S M w→R (.returned (.tuple #[v1,v2,v3])) w) : JE n w0 S (bodyPost P fn R) .ret E M:=by
  refine ⟨fun a w ha hw=>?_⟩
  refine ⟨ha.defers,.tuple #[v1,v2,v3],?_,hR w hw⟩
  have e1:=h1 a w ha hw
  have e2:=h2 a w ha hw
  have e3:=h3 a w ha hw
  rw [iC,hr]
  simp [Sem.run_bind,e1,e2,e3]
theorem ov.ok.holds {w0 w : World} {S : List Nat} {M : List aN} {s : ov} (h : s.ok w0) (hw : aa w0 S M w) (hS : S=[]) : s.ok w:=⟨h.len,hw.reads h.reads (fun _ a _=>by rw [hS];simp),fun y hy=>(h.all y hy).holds hw hS⟩
section
variable {P : Program} {n : Nat} {E : Env} {C : World→Prop} {dst : Option Tmp} {ty t t' : TypeId} {pos : String} {aft : Array Edge} {g : Option (Nat × Bool)} {x y : Operand}
end
end
section
namespace Sl
section
variable {P : Program} {t tx e : TypeId}
theorem dR (l : List Bt) : Go.byteCells (bz l)=l.map U8:=by
  unfold Go.byteCells bz
  simp [U8,Function.comp_def]
theorem jw (w : World) (ty : TypeId) (i : TypeInfo) (ht : P.underlying t=some (.slice e)) (hi : P.info? e=some i)
    (g sLen sCap : Nat) (x : Value) (m : Nat) (news : List Value) (hs : Src P i.size tx x m news w) (cur : Array Value) (hg : w.heap[g]?=some (.cells cur e (0,0)))
    (hroom : sLen+m≤sCap) (hfit : sLen * i.size+news.length≤cur.size) :
    (Builtin.append_ #[t,tx] ty #[.slice (some ⟨g,0,none⟩) sLen sCap,x]).run P w =
      .ok (.slice (some ⟨g,0,none⟩) (sLen+m) sCap) (w.setRow g (cur.toList.take (sLen * i.size)++news++cur.toList.drop (sLen * i.size+news.length)).toArray):=by
  have hst:=run_storeCells_at P g (sLen * i.size) e news 0 cur w hg (by simpa using hfit) hs.one
  simp only [Nat.add_zero] at hst
  rcases hs.kind with ⟨e',hk⟩ | hk <;> simp [Builtin.append_,run_underlying ht,run_underlying hk,sizeOf,typeInfo,hi,hs.len,hroom,hs.cells,Addr.add_lit] at hst ⊢ <;> simp [hst]
variable {n : Nat} {w0 : World} {S : List Nat} {ops : Array Oper} {Q : Exit→Act→World→Prop} {l : List Oper} {E : Env} {M : List aN} {d b : Nat} {ty : TypeId} {pos : String} {aft : Array Edge} {x y : Operand}
theorem JL.gQ {k cap : Nat} {xs : List Value} {r : List Bt} (M' : Nat→Nat→List aN) (hu : P.underlying t=some (.slice e)) (hk : P.underlying tx=some .string) (hi : EI P e (.int .u8 0) 1 1) (hx : ev E x=some (.slice (some ⟨b,0,none⟩) k cap)) (hy : ev E y=some (Z r))
    (hup : ∀ b' cap',az M b (Sl.aG e 1 k cap xs) b' (Sl.aG e 1 (k+r.length) cap' (xs++r.map U8)) (M' b' cap'))
    (hsm : (k+r.length)≤140737488355328) (hd : Nat.blt d n=true)
    (kk : ∀ b' cap',JL P n w0 S ops Q l ((d,.slice (some ⟨b',0,none⟩) (k+r.length) cap')::E) (M' b' cap')) : JL P n w0 S ops Q (⟨some d,.call ⟨.builtin .append,#[x,y],#[t,tx]⟩,ty,pos,aft,none⟩::l) E M:=
  ⟨fun a w ha hw=>wpList_plain rfl fun K hK=>by
    obtain ⟨i,hi1,hi2,hi3,hi4⟩:=hi.get
    obtain ⟨o,ho,sp,rfl,hc1,hc2,hc3⟩:=hw.get (hup 0 0).has
    have hsrc : Src P i.size tx (Z r) r.length (r.map U8) w:=by
      have:=Src.ofString (P:=P) w hk (bz r)
      rw [dR,bt] at this
      rw [hi3];exact this
    unfold Oper.wp
    simp only [execOp,resolve,invoke,builtin,Sem.run_bind,Sem.run_pure,Result.andThen_ok,List.map_toArray,List.map_cons,List.map_nil,ha.eval hx,ha.eval hy]
    by_cases hroom : k+r.length≤cap
    · have hfit : k * i.size+(r.map U8).length≤(xs++sp).toArray.size:=by
        rw [List.size_toArray,hc1,hi3,List.length_map];omega
      rw [jw w ty i hu hi1 b k cap (Z r) r.length (r.map U8) hsrc (xs++sp).toArray ho hroom hfit]
      refine hK _ _ ((kk b cap).go _ _ (ha.put d _ hd) (hw.write (hup b cap).Bx (o':=.cells ((xs++sp).take (k * i.size)++r.map U8++(xs++sp).drop (k * i.size+(r.map U8).length)).toArray e (0,0)) ?_ (setRow_heap w b _ _ e _ ho) (by simp) (fun q hq=>setRow_other w b q _ hq) rfl rfl rfl))
      rw [hi3,← hc2,List.take_left]
      refine ⟨(xs++sp).drop (xs.length+(r.map U8).length),rfl,?_,by rw [List.length_append,hc2,List.length_map,Nat.add_mul,Nat.mul_one r.length],hroom⟩
      simp only [List.size_toArray] at hfit
      simp only [List.length_append,List.length_drop,List.length_map] at hfit hc1 ⊢
      rw [hi3] at hfit
      omega
    · have hold : ∀ u v,xs[u]?=some v→w.cell? ((⟨b,0,none⟩ : Addr).add u)=some v:=fun u v hv=>by
        rw [bX]
        have hu' : u<xs.length:=(List.getElem?_eq_some_iff.1 hv).1
        exact cell_of ho (by simpa [cellAt,List.getElem?_append_left hu'] using hv)
      have hfit:=growslice_fits (need:=k+r.length) (old:=cap) (bytes:=1) (by omega) (by omega)
      have hfo:=run_firstCells_some (P:=P) w.drew i.size k ⟨b,0,none⟩ k cap xs (by rw [hc2,hi3]) (by simpa using hold)
      rw [run_append_grow_src w t tx ty e i (.int .u8 0) hu hi1 hi2 (some ⟨b,0,none⟩) k cap xs hfo (Z r) r.length (r.map U8) hsrc (by omega) (by omega) (by rw [hi4];exact hfit)]
      have hge:=grownCap_ge w (k+r.length) cap e
      generalize grownCap w (k+r.length) cap e=nc at hge
      refine hK _ _ ((kk w.heap.size nc).go _ _ (ha.put d _ hd) (hw.renew (.cells ((xs++r.map U8).toArray++Builtin.zeroCells (Value.int .u8 0).cells (nc - (k+r.length))) e) (hup _ _) ?_ rfl rfl rfl rfl))
      have h8 : (Builtin.zeroCells (Value.int .u8 0).cells (nc - (k+r.length))).size=(nc - (k+r.length)):=by
        rw [show (Value.int .u8 0).cells=#[Value.int .u8 0] from rfl];simp [Builtin.zeroCells]
      refine ⟨(Builtin.zeroCells (Value.int .u8 0).cells (nc - (k+r.length))).toList,by simp,?_,by rw [List.length_append,hc2,List.length_map,Nat.add_mul,Nat.mul_one r.length],hge⟩
      simp only [List.length_append,Array.length_toList,h8,hc2,List.length_map]
      omega⟩
end
end Sl
end
section
namespace Sl
section
variable {P : Program} {n : Nat} {E : Env} {C : World→Prop} {dst : Option Tmp} {t t' ty : TypeId} {pos : String} {aft : Array Edge} {g : Option (Nat × Bool)} {x y : Operand} {c : Bool}
theorem OQ.dV {k : IntKind} {a b : Int} (hx : ev E x=some (.int k a)) (hy : ev E y=some (.int k b)) (h : decide (a<b)=c) : OQ P n E C ⟨dst,.binOp .lss t x y t',ty,pos,aft,g⟩ (.bool c):=OQ.bin hx hy rfl fun _=>by cases k <;> exact iD h
theorem OQ.oW {k : IntKind} {a b : Int} (hx : ev E x=some (.int k a)) (hy : ev E y=some (.int k b)) (h : decide (a≤b)=c) : OQ P n E C ⟨dst,.binOp .leq t x y t',ty,pos,aft,g⟩ (.bool c):=OQ.bin hx hy rfl fun _=>by cases k <;> exact iD h
theorem OQ.cW {k : IntKind} {a b : Int} (hx : ev E x=some (.int k a)) (hy : ev E y=some (.int k b)) (h : decide (b<a)=c) : OQ P n E C ⟨dst,.binOp .gtr t x y t',ty,pos,aft,g⟩ (.bool c):=OQ.bin hx hy rfl fun _=>by cases k <;> exact iD h
theorem OQ.dK {k : IntKind} {a b : Int} (hx : ev E x=some (.int k a)) (hy : ev E y=some (.int k b)) (h : decide (b≤a)=c) : OQ P n E C ⟨dst,.binOp .geq t x y t',ty,pos,aft,g⟩ (.bool c):=OQ.bin hx hy rfl fun _=>by cases k <;> exact iD h
theorem OQ.gj {k : IntKind} {a b : Int} (hx : ev E x=some (.int k a)) (hy : ev E y=some (.int k b)) (h : decide (a=b)=c) : OQ P n E C ⟨dst,.binOp .eql t x y t',ty,pos,aft,g⟩ (.bool c):=h ▸ OQ.AH hx hy
theorem OQ.qA {k : IntKind} {a b : Int} (hx : ev E x=some (.int k a)) (hy : ev E y=some (.int k b)) (h : decide (a=b)=c) : OQ P n E C ⟨dst,.binOp .neq t x y t',ty,pos,aft,g⟩ (.bool (!c)):=by
  have:=OQ.AI (P:=P) (n:=n) (C:=C) (dst:=dst) (ty:=ty) (t:=t) (t':=t') (pos:=pos) (aft:=aft) (g:=g) hx hy
  rw [h] at this
  exact this
theorem OQ.qR {a b : BitVec 8} (hx : ev E x=some (U8 a)) (hy : ev E y=some (U8 b)) (h : decide (a=b)=c) : OQ P n E C ⟨dst,.binOp .neq t x y t',ty,pos,aft,g⟩ (.bool (!c)):=by
  have:=OQ.BY (P:=P) (n:=n) (C:=C) (dst:=dst) (ty:=ty) (t:=t) (t':=t') (pos:=pos) (aft:=aft) (g:=g) hx hy
  rw [h] at this
  exact this
theorem OQ.mB {w0 : World} {S : List Nat} {M : List aN} {f : FuncId} {xs : List Operand} {ats : Array TypeId} {vs : List Value} {b : Bool} (hg : aO P f) (hx : fQ E xs=some vs) (hc : ∀ w,Calls P f vs.toArray w fun e w'=>e=.returned (.bool b)∧Ext w w') (h : b=c) :
    OQ P n E (aa w0 S M) ⟨dst,.call ⟨.value (.func f),xs.toArray,ats⟩,ty,pos,aft,g⟩ (.bool c):=h ▸ OQ.an hg hx fun w _=>hc w
end
theorem JC.aE {P : Program} {n : Nat} {w0 : World} {S : List Nat} {Q Q' : Exit→Act→World→Prop} {E : Env} {M : List aN} {ι : Type} {id : Nat} (Ei : ι→Env) (Mi : ι→List aN) (I : ι→Prop) {p q : Code} (h : JC P n w0 S (Exit.inBlock id (Exit.then (fun a' w'=>∃ i,I i∧bf n (Ei i) a'∧aa w0 S (Mi i) w') Q)) p E M)
    (k : ∀ i,I i→JC P n w0 S Q' q (Ei i) (Mi i)) : JC P n w0 S (Exit.inBlock id (Exit.then (q.wp P Q') Q)) p E M:=
  ⟨fun a w ha hw=>wp_mono (h.go a w ha hw) fun e a' w' he=>by
    cases e with
    | normal=>obtain ⟨i,hi,h1,h2⟩:=he;exact (k i hi).go a' w' h1 h2
    | exit id'=>
      by_cases hid : id'=id
      · subst hid
        have he : (if id'=id' then (Exit.then (fun a' w'=>∃ i,I i∧bf n (Ei i) a'∧aa w0 S (Mi i) w') Q) .normal a' w' else _):=he
        rw [if_pos rfl] at he
        obtain ⟨i,hi,h1,h2⟩:=he
        show (if id'=id' then _ else _)
        rw [if_pos rfl]
        exact (k i hi).go a' w' h1 h2
      · have he : (if id'=id then _ else (Exit.then _ Q) (.exit id') a' w'):=he
        rw [if_neg hid] at he
        show (if id'=id then _ else _)
        rw [if_neg hid]
        exact he
    | goto _=>exact he
    | ret=>exact he
    | panic _=>exact he
    | outgrown=>exact he⟩
def ro (M : List aN) : List aN:=M.map fun e=>⟨e.b,e.A,false⟩
theorem iU {w0 w : World} {S : List Nat} {M : List aN} (h : aa w0 S M w) : aa w [] (ro M) w:=by
  refine ⟨kM.refl _ _,?_,fun e he=>?_⟩
  · have e : (ro M).map aN.b=M.map aN.b:=by simp [ro,Function.comp_def]
    rw [e];exact h.nodup
  · obtain ⟨e',he',rfl⟩:=List.mem_map.1 he
    exact ⟨(h.all e' he').1,fun h=>by cases h⟩
theorem fI {α : Type} (p : α→Bool) (l : List α) (d : α) {i : Nat} (h : i<l.length) : (l.take (i+1)).all p=((l.take i).all p && p (l.getD i d)):=by
  rw [List.take_add_one,List.getD_eq_getElem?_getD,List.getElem?_eq_getElem h,List.all_append]
  simp only [Option.toList_some,Option.getD_some,List.all_cons,List.all_nil,Bool.and_true]
theorem yf {α : Type} (p : α→Bool) (l : List α) (d : α) {i : Nat} (h : i<l.length) (hb : p (l.getD i d)=false) : l.all p=false:=by
  rw [List.all_eq_false]
  refine ⟨l.getD i d,?_,by rw [hb];decide⟩
  rw [List.getD_eq_getElem?_getD,List.getElem?_eq_getElem h]
  exact List.getElem_mem h
end Sl
end
section
open Sl
abbrev Acc:=Option (Nat × Nat)
def ak (q : Acc) (k : Nat) : Value:=match q with
  | none=>.slice none 0 0
  | some p=>.slice (some ⟨p.1,0,none⟩) k p.2
def aL (e : TypeId) (q : Acc) (xs : List Value) : List aN:=match q with
  | none=>[]
  | some p=>[⟨p.1,Sl.aG e 1 xs.length p.2 xs,true⟩]
def dL (q : Acc) (l : List Bt) : aB:=match q with
  | none=>tJ
  | some p=>⟨some ⟨p.1,0,none⟩,p.2,l⟩
theorem jx (q : Acc) (l : List Bt) : (dL q l).v=ak q l.length:=by cases q <;> rfl
theorem jz {q : Acc} {l : List Bt} (h : q=none→l=[]) : (dL q l).l=l:=by
  cases q with
  | none=>exact (h rfl).symm
  | some p=>rfl
theorem iE {w0 w : World} {S : List Nat} {M : List aN} {e : TypeId} {q : Acc} {l : List Bt} (hw : aa w0 S (aL e q (l.map U8)++M) w) : (dL q l).ok w:=by
  cases q with
  | none=>exact j8 w
  | some p=>
    have hw : aa w0 S (⟨p.1,Sl.aG e 1 (l.map U8).length p.2 (l.map U8),true⟩::M) w:=hw
    rw [List.length_map] at hw
    exact b8 hw .here
theorem cN (e : TypeId) (q : Acc) (xs : List Value) : ∀ x ∈ aL e q xs,x.wr=true:=by
  intro x hx
  cases q with
  | none=>cases hx
  | some p=>rw [List.mem_singleton.1 hx]
section
variable {P : Program} {n : Nat} {w0 : World} {S : List Nat} {ops : Array Oper} {Q : Exit→Act→World→Prop} {l : List Oper} {E : Env} {M : List aN} {d : Nat} {t tx e ty : TypeId} {pos : String} {aft : Array Edge} {x y : Operand}
theorem JL.vL {i : TypeInfo} {ad : Option Addr} {sc : Nat} (hu : P.underlying t=some (.slice e)) (hi : P.info? e=some i) (hx : ev E x=some (.slice none 0 0)) (hy : ev E y=some (.slice ad 0 sc)) (hd : Nat.blt d n=true)
    (kk : JL P n w0 S ops Q l ((d,.slice none 0 0)::E) M) : JL P n w0 S ops Q (⟨some d,.call ⟨.builtin .append,#[x,y],#[t,t]⟩,ty,pos,aft,none⟩::l) E M:=
  ⟨fun a w ha hw=>wpList_plain rfl fun K hK=>by
    unfold Oper.wp
    simp only [execOp,resolve,invoke,builtin,Sem.run_bind,Sem.run_pure,Result.andThen_ok,List.map_toArray,List.map_cons,List.map_nil,ha.eval hx,ha.eval hy]
    rw [gG (_t':=t) hu hi (Nat.le_refl 0)]
    exact hK _ _ (kk.go _ _ (ha.put d _ hd) hw)⟩
theorem JL.iV {z : Value} {by' m sc : Nat} {ad : Option Addr} {xs cs : List Value} (q : Acc) (hu : P.underlying t=some (.slice e)) (hi : EI P e z 1 by') (hq : q=none→xs=[]) (hx : ev E x=some (ak q xs.length)) (hy : ev E y=some (.slice ad m sc))
    (hl : cs.length=m) (hr : ∀ w,aa w0 S (aL e q xs++M) w→Reads w ad cs) (h1 : ∀ v ∈ cs,v.oneCell'=true)
    (hzz : z.cells.size=1) (hsm : (xs.length+m) * by'≤140737488355328) (hsm2 : xs.length+m<9223372036854775808) (hd : Nat.blt d n=true)
    (kk : ∀ q' : Acc,(q'=none→xs++cs=[])→JL P n w0 S ops Q l ((d,ak q' (xs++cs).length)::E) (aL e q' (xs++cs)++M)) : JL P n w0 S ops Q (⟨some d,.call ⟨.builtin .append,#[x,y],#[t,t]⟩,ty,pos,aft,none⟩::l) E (aL e q xs++M):=by
  subst hl
  cases q with
  | none=>
    obtain rfl:=hq rfl
    cases cs with
    | nil=>
      obtain ⟨i,hi1,_⟩:=hi.get
      exact JL.vL hu hi1 hx hy hd (kk none fun _=>rfl)
    | cons c cs=>
      refine JL.append_nil (cs:=c::cs) hu hi hx hy (by rw [Nat.mul_one]) hr (by simp) hzz (by decide) (by simpa using hsm) (by simpa using hsm2) hd fun b' cap' _=>?_
      exact kk (some (b',cap')) (fun h=>by cases h)
  | some p=>
    have e1 : (xs++cs).length=xs.length+cs.length:=List.length_append
    refine JL.append (cs:=cs) (b:=p.1) (cap:=p.2) (xs:=xs) (fun b' cap'=>aL e (some (b',cap')) (xs++cs)++M) hu hi hx hy (fun b' cap'=>?_) (by rw [Nat.mul_one]) hr h1 hzz (by decide) hsm hsm2 hd fun b' cap'=>?_
    · show az (⟨p.1,Sl.aG e 1 xs.length p.2 xs,true⟩::M) _ _ _ _ (⟨b',Sl.aG e 1 (xs++cs).length cap' (xs++cs),true⟩::M)
      rw [e1]
      exact .here
    · have:=kk (some (b',cap')) (fun h=>by cases h)
      show JL P n w0 S ops Q l ((d,.slice (some ⟨b',0,none⟩) (xs.length+cs.length) cap')::E) _
      rw [← e1]
      exact this
theorem JL.gR {r : List Bt} {xs : List Value} (q : Acc) (hu : P.underlying t=some (.slice e)) (hk : P.underlying tx=some .string) (hi : EI P e (.int .u8 0) 1 1) (hq : q=none→xs=[]) (hx : ev E x=some (ak q xs.length)) (hy : ev E y=some (Z r)) (h0 : r≠[])
    (hsm : (xs.length+r.length)≤140737488355328) (hd : Nat.blt d n=true)
    (kk : ∀ p : Nat × Nat,JL P n w0 S ops Q l ((d,ak (some p) (xs++r.map U8).length)::E) (aL e (some p) (xs++r.map U8)++M)) : JL P n w0 S ops Q (⟨some d,.call ⟨.builtin .append,#[x,y],#[t,tx]⟩,ty,pos,aft,none⟩::l) E (aL e q xs++M):=by
  cases q with
  | none=>
    obtain rfl:=hq rfl
    refine ⟨fun a w ha hw=>wpList_plain rfl fun K hK=>?_⟩
    obtain ⟨i,hi1,hi2,hi3,hi4⟩:=hi.get
    have hpos : 0<r.length:=List.length_pos_iff.2 h0
    have hsrc : Src P i.size tx (Z r) r.length (r.map U8) w:=by
      have:=Src.ofString (P:=P) w hk (bz r)
      rw [dR,bt] at this
      rw [hi3];exact this
    simp only [List.length_nil,Nat.zero_add] at hsm
    have hx' : a.eval x=.slice none 0 0:=ha.eval hx
    unfold Oper.wp
    simp only [execOp,resolve,invoke,builtin,Sem.run_bind,Sem.run_pure,Result.andThen_ok,List.map_toArray,List.map_cons,List.map_nil,hx',ha.eval hy]
    have hfit:=growslice_fits (need:=r.length) (old:=0) (bytes:=1) (by omega) (by omega)
    have hfo : (Builtin.firstCells i.size 0 (.slice none 0 0)).run P w.drew=.ok ([] : List Value).toArray w.drew:=by simp [Builtin.firstCells]
    have hrun:=run_append_grow_src (P:=P) w t tx ty e i (.int .u8 0) hu hi1 hi2 none 0 0 [] hfo (Z r) r.length (r.map U8) hsrc (by omega) (by omega) (by rw [hi4,Nat.zero_add];exact hfit)
    rw [hrun]
    simp only [Nat.zero_add]
    have hge:=grownCap_ge w r.length 0 e
    generalize grownCap w r.length 0 e=nc at hge
    refine hK _ _ ?_
    have k:=kk (w.heap.size,nc)
    have e1 : ([]++r.map U8 : List Value).length=r.length:=by simp
    refine JL.go (E:=(d,ak (some (w.heap.size,nc)) r.length)::E) ?_ _ _ (ha.put d _ hd) (aa.push hw (.cells (([]++r.map U8 : List Value).toArray++Builtin.zeroCells (Value.int .u8 0).cells (nc - r.length)) e) (A:=Sl.aG e 1 r.length nc (r.map U8)) ?_ ?_ rfl rfl rfl)
    · rw [e1] at k
      have k2 : aL e (some (w.heap.size,nc)) ([]++r.map U8)++M=⟨w.heap.size,Sl.aG e 1 r.length nc (r.map U8),true⟩::M:=by
        show ⟨w.heap.size,Sl.aG e 1 ([]++r.map U8 : List Value).length nc ([]++r.map U8),true⟩::M=_
        rw [e1,List.nil_append]
      rw [k2] at k
      exact k
    · have h8 : (Builtin.zeroCells (Value.int .u8 0).cells (nc - r.length)).size=nc - r.length:=by
        rw [show (Value.int .u8 0).cells=#[Value.int .u8 0] from rfl];simp [Builtin.zeroCells]
      refine ⟨(Builtin.zeroCells (Value.int .u8 0).cells (nc - r.length)).toList,by simp,?_,by simp,hge⟩
      simp only [List.length_append,Array.length_toList,h8,List.length_map]
      omega
    · rfl
  | some p=>
    have e1 : (xs++r.map U8).length=xs.length+r.length:=by simp
    refine JL.gQ (b:=p.1) (cap:=p.2) (k:=xs.length) (xs:=xs) (fun b' cap'=>aL e (some (b',cap')) (xs++r.map U8)++M) hu hk hi hx hy (fun b' cap'=>?_) hsm hd fun b' cap'=>?_
    · show az (⟨p.1,Sl.aG e 1 xs.length p.2 xs,true⟩::M) _ _ _ _ (⟨b',Sl.aG e 1 (xs++r.map U8).length cap' (xs++r.map U8),true⟩::M)
      rw [e1]
      exact .here
    · have:=kk (b',cap')
      rw [e1] at this
      exact this
end
end
section
set_option maxRecDepth 10000
open Sl
theorem fD : Tryz.prog.follows .mixedOrders=true:=by kernel_rfl
theorem bH : gv Tryz.prog 5=some 1:=by kernel_rfl
theorem eD : fG Tryz.prog 5=true:=by kernel_rfl
theorem bQ : EI Tryz.prog 5 (.int .u8 0) 1 1:=by unfold EI;kernel_rfl
end
section
set_option maxRecDepth 10000
open Sl
abbrev Pr:=List Bt × List Bt
def pc (p : Pr) : List Value:=[Z p.1,Z p.2]
structure tM where
  ad : Option Addr
  cap : Nat
  l : List Pr
def tM.cells (s : tM) : List Value:=s.l.flatMap pc
def tM.v (s : tM) : Value:=.slice s.ad s.l.length s.cap
structure tM.ok (w : World) (s : tM) : Prop where
  len : s.l.length≤s.cap
  reads : Reads w s.ad s.cells
theorem tM.ok.holds {w0 w : World} {S : List Nat} {M : List aN} {s : tM} (h : s.ok w0) (hw : aa w0 S M w) (hS : S=[]) : s.ok w:=⟨h.len,hw.reads h.reads (fun _ a _=>by rw [hS];simp)⟩
theorem tM.ok.ext {w w' : World} {s : tM} (h : s.ok w) (hx : Ext w w') : s.ok w':=h.holds (⟨hx,by simp,by simp⟩ : aa w [] [] w') rfl
theorem ze : ∀ (l : List Pr) {i : Nat},i<l.length→(l.flatMap pc)[2 * i]?=some (Z (l.getD i ([],[])).1)∧(l.flatMap pc)[2 * i+1]?=some (Z (l.getD i ([],[])).2)
  | [],i,h=>by simp at h
  | p::l,0,_=>⟨rfl,rfl⟩
  | p::l,i+1,h=>by
    have:=ze l (i:=i) (by simpa using h)
    simp only [List.flatMap_cons,List.getD_cons_succ]
    rw [show 2 * (i+1)=2 * i+2 by omega]
    exact this
theorem tM.ok.at {w : World} {s : tM} (h : s.ok w) {i : Nat} (hi : i<s.l.length) : ∃ b j,s.ad=some ⟨b,j,none⟩∧b<w.heap.size∧w.cell? ⟨b,j+i * 2,none⟩=some (Z (s.l.getD i ([],[])).1)∧w.cell? ⟨b,j+i * 2+1,none⟩=some (Z (s.l.getD i ([],[])).2):=by
  obtain ⟨h1,h2⟩:=ze s.l hi
  obtain ⟨b,j,e1,c1⟩:=h.reads _ _ h1
  obtain ⟨b',j',e2,c2⟩:=h.reads _ _ h2
  rw [e1] at e2
  cases e2
  exact ⟨b,j,e1,block_lt_of_cell c1,by rw [Nat.mul_comm];exact c1,by rw [Nat.mul_comm,Nat.add_assoc];exact c2⟩
section
variable {P : Program} {n : Nat} {E : Env} {C : World→Prop} {dst : Option Tmp} {t t' ty : TypeId} {pos : String} {aft : Array Edge} {g : Option (Nat × Bool)} {x y : Operand} {p q : Pr}
end
end
section
set_option maxRecDepth 10000
open Sl
structure kV where
  ad : Option Addr
  cap : Nat
  l : List (List Bt)
def kV.cells (s : kV) : List Value:=s.l.map Z
def kV.v (s : kV) : Value:=.slice s.ad s.l.length s.cap
structure kV.ok (w : World) (s : kV) : Prop where
  len : s.l.length≤s.cap
  reads : Reads w s.ad s.cells
theorem kV.ok.holds {w0 w : World} {S : List Nat} {M : List aN} {s : kV} (h : s.ok w0) (hw : aa w0 S M w) (hS : S=[]) : s.ok w:=⟨h.len,hw.reads h.reads (fun _ a _=>by rw [hS];simp)⟩
theorem kV.ok.ext {w w' : World} {s : kV} (h : s.ok w) (hx : Ext w w') : s.ok w':=h.holds (⟨hx,by simp,by simp⟩ : aa w [] [] w') rfl
def zQ : kV:=⟨none,0,[]⟩
theorem yg (w : World) : zQ.ok w:=⟨by simp [zQ],Reads.nil _ _⟩
theorem kW : EI Tryz.prog 9 (Z []) 1 16:=by unfold EI;kernel_rfl
theorem kV.ok.at {w : World} {s : kV} (h : s.ok w) (h0 : 0<s.l.length) : ∃ b j,s.ad=some ⟨b,j,none⟩∧b<w.heap.size∧∀ i,i<s.l.length→w.cell? ⟨b,j+i,none⟩=some (Z (s.l.getD i [])):=by
  obtain ⟨b,j,h1,h2⟩:=h.reads.at (by simpa [kV.cells] using h0)
  have hc : ∀ i,i<s.l.length→w.cell? ⟨b,j+i,none⟩=some (Z (s.l.getD i [])):=fun i hi=>h2 i _ (cw Z [] hi)
  exact ⟨b,j,h1,block_lt_of_cell (hc 0 h0),hc⟩
structure Gz (A : List (List Bt)) where
  z : kV
  h : z.l=A
  n : z.ad=none→z.l=[]
structure G2 (A : List Pr) where
  z : tM
  h : z.l=A
  n : z.ad=none→z.l=[]
def qS (M : List aN) : List aN:=M.map fun e=>⟨e.b,e.A,false⟩
theorem aa.qS {w0 w : World} {S : List Nat} {M : List aN} (h : aa w0 S M w) : aa w [] (qS M) w:=by
  refine ⟨kM.refl _ _,?_,fun e he=>?_⟩
  · rw [Proofs.YtjeeilmkjjbonaaGreatDoor.qS,List.map_map]
    exact h.nodup
  · obtain ⟨q,hq,rfl⟩:=List.mem_map.1 he
    exact ⟨(h.all q hq).1,nofun⟩
end
section
set_option maxRecDepth 10000
namespace Sl
theorem zR {N M : List aN} {b : Nat} {A : Obj→Prop} {wr : Bool} (h : Has M b A wr) : Has (N++M) b A wr:=by
  induction N with
  | nil=>exact h
  | cons e N ih=>exact .there ih
section
variable {P : Program} {n : Nat} {w0 : World} {S : List Nat} {ops : Array Oper} {Q : Exit→Act→World→Prop} {l : List Oper} {E : Env} {M M' M0 : List aN} {d : Nat} {t e ty : TypeId} {pos : String} {aft : Array Edge} {x y : Operand}
theorem aa.perm' {w0 w : World} {S : List Nat} {M M' : List aN} (hp : M.Perm M') (h : aa w0 S M w) : aa w0 S M' w:=
  h.sub ((hp.map aN.b).nodup_iff.1 h.nodup) fun e he=>hp.mem_iff.2 he
theorem JL.eY (h : JL P n w0 S ops Q l E M') (hM : aq M' M) : JL P n w0 S ops Q l E M:=⟨fun a w ha hw=>h.go a w ha (hw.weak hM)⟩
theorem JL.perm (h : JL P n w0 S ops Q l E M') (hp : M.Perm M') : JL P n w0 S ops Q l E M:=⟨fun a w ha hw=>h.go a w ha (hw.perm' hp)⟩
theorem JC.eY {c : Code} (h : JC P n w0 S Q c E M') (hM : aq M' M) : JC P n w0 S Q c E M:=⟨fun a w ha hw=>h.go a w ha (hw.weak hM)⟩
theorem JL.nB {z : Value} {by' bl : Nat} {p : List Bt} {L : List (List Bt)} (q : Acc) (hu : P.underlying t=some (.slice e)) (hi : EI P e z 1 by') (hq : q=none→L=[]) (hx : ev E x=some (ak q L.length)) (hy : ev E y=some (.slice (some ⟨bl,0,none⟩) 1 1))
    (hzz : z.cells.size=1) (hsm : (L.length+1) * by'≤140737488355328) (hsm2 : L.length+1<9223372036854775808) (hd : Nat.blt d n=true)
    (kk : ∀ b' cap',JL P n w0 S ops Q l ((d,ak (some (b',cap')) (L++[p]).length)::E) (aL e (some (b',cap')) ((L++[p]).map Z)++M0)) :
    JL P n w0 S ops Q (⟨some d,.call ⟨.builtin .append,#[x,y],#[t,t]⟩,ty,pos,aft,none⟩::l) E (⟨bl,Row e [Z p],true⟩::(aL e q (L.map Z)++M0)):=by
  have hr : ∀ w,aa w0 S (⟨bl,Row e [Z p],true⟩::(aL e q (L.map Z)++M0)) w→Reads w (some ⟨bl,0,none⟩) [Z p]:=fun w hw=>by
    obtain ⟨o,ho,hA⟩:=hw.get (b:=bl) (A:=Row e [Z p]) (wr:=true) .here
    exact Reads.block ho (Row.all _ hA)
  have h1 : ∀ v ∈ [Z p],v.oneCell'=true:=fun v hv=>by rw [List.mem_singleton.1 hv];rfl
  have eN : (L++[p]).length=L.length+1:=List.length_append
  have eM : (L++[p]).map Z=L.map Z++[Z p]:=by rw [List.map_append];rfl
  have eL : ((L++[p]).map Z).length=L.length+1:=by rw [List.length_map,eN]
  cases q with
  | none=>
    obtain rfl:=hq rfl
    refine JL.append_nil (cs:=[Z p]) (m:=1) hu hi hx hy rfl hr (by decide) hzz (by decide) (by simpa using hsm) (by decide) hd fun b' cap' _=>?_
    exact (kk b' cap').eY (.keep _ _ _ _ _ _ (fun o h=>h) (.drop _ _ _ (aq.refl _)))
  | some r=>
    refine JL.append (cs:=[Z p]) (m:=1) (b:=r.1) (cap:=r.2) (k:=L.length) (xs:=L.map Z) (fun b' cap'=>⟨bl,Row e [Z p],true⟩::(aL e (some (b',cap')) ((L++[p]).map Z)++M0)) hu hi hx hy (fun b' cap'=>?_) rfl hr h1 hzz (by decide) hsm hsm2 hd fun b' cap'=>?_
    · show az (_::⟨r.1,Sl.aG e 1 (L.map Z).length r.2 (L.map Z),true⟩::M0) _ _ _ _ (_::⟨b',Sl.aG e 1 ((L++[p]).map Z).length cap' ((L++[p]).map Z),true⟩::M0)
      rw [eL,eM,List.length_map]
      exact .there .here
    · have:=kk b' cap'
      rw [show ak (some (b',cap')) (L++[p]).length=Value.slice (some ⟨b',0,none⟩) (L.length+1) cap' by rw [eN];rfl] at this
      exact this.eY (.drop _ _ _ (aq.refl _))
end
end Sl
end
section
namespace Sl
theorem fW (l : List Bt) (i j : Nat) : (bz l).extract i j=bz ((l.take j).drop i):=by
  apply ByteArray.ext
  rw [ByteArray.data_extract]
  show (l.map UInt8.ofBitVec).toArray.extract i j=(((l.take j).drop i).map UInt8.ofBitVec).toArray
  rw [List.extract_toArray,List.extract_eq_drop_take',List.map_drop,List.map_take]
section
variable {P : Program} {n : Nat} {E : Env} {C : World→Prop} {dst : Option Tmp} {t ty : TypeId} {pos : String} {aft : Array Edge} {g : Option (Nat × Bool)} {x y z : Operand} {l : List Bt}
theorem OQ.cc {i : Nat} (hu : P.underlying t=some .string) (hx : ev E x=some (Z l)) (hy : ev E y=some (N i)) (h : i≤l.length) : OQ P n E C ⟨dst,.slice t x (some y) none none,ty,pos,aft,g⟩ (Z (l.drop i)):=
  OQ.run fun a ha w _=>by
    have h1:=ha.eval hx
    have h2:=ha.eval hy
    have h3 : (underlying t).run P w=.ok .string w:=run_underlying hu w
    have h4:=run_slice_string_l w t (bz l) hu .i64 (i : Int) (by omega) (by rw [bt];omega)
    rw [bt,fW,List.take_length,Int.toNat_natCast] at h4
    simp [execOp,h1,h2,Instr.sliceAt,Sem.run_bind,h3,h4]
theorem OQ.dx {j : Nat} (hu : P.underlying t=some .string) (hx : ev E x=some (Z l)) (hy : ev E y=some (N j)) (h : j≤l.length) : OQ P n E C ⟨dst,.slice t x none (some y) none,ty,pos,aft,g⟩ (Z (l.take j)):=
  OQ.run fun a ha w _=>by
    have h1:=ha.eval hx
    have h2:=ha.eval hy
    have h3 : (underlying t).run P w=.ok .string w:=run_underlying hu w
    have h4:=run_slice_string_h w t (bz l) hu .i64 (j : Int) (by omega) (by rw [bt];omega)
    rw [fW,List.drop_zero,Int.toNat_natCast] at h4
    simp [execOp,h1,h2,Instr.sliceAt,Sem.run_bind,h3,h4]
theorem OQ.zS {i j : Nat} (hu : P.underlying t=some .string) (hx : ev E x=some (Z l)) (hy : ev E y=some (N i)) (hz : ev E z=some (N j)) (h : i≤j) (h' : j≤l.length) : OQ P n E C ⟨dst,.slice t x (some y) (some z) none,ty,pos,aft,g⟩ (Z ((l.take j).drop i)):=
  OQ.run fun a ha w _=>by
    have h1:=ha.eval hx
    have h2:=ha.eval hy
    have h5:=ha.eval hz
    have h3 : (underlying t).run P w=.ok .string w:=run_underlying hu w
    have h4:=run_slice_string w t (bz l) .i64 .i64 (i : Int) (j : Int) hu (by omega) (by omega) (by rw [bt];omega)
    rw [fW,Int.toNat_natCast,Int.toNat_natCast] at h4
    simp [execOp,h1,h2,h5,Instr.sliceAt,Sem.run_bind,h3,h4]
end
end Sl
end
section
set_option maxRecDepth 10000
namespace Sl
def lY (P : Program) (w0 : World) (fv : Value) (p : Bt→Bool) : Prop:=
  ∃ (f : FuncId) (caps : List Value),fv=.func (.func f) #[] caps.toArray∧aO P f∧∀ (c : Bt) (w : World),Ext w0 w→Calls P f (U8 c::caps).toArray w fun e w'=>e=.returned (.bool (p c))∧Ext w w'
theorem lY.ext {P : Program} {w0 w1 : World} {fv : Value} {p : Bt→Bool} (h : lY P w0 fv p) (hx : Ext w0 w1) : lY P w1 fv p:=by
  obtain ⟨f,caps,h1,h2,h3⟩:=h
  exact ⟨f,caps,h1,h2,fun c w hw=>h3 c w (hx.trans hw)⟩
theorem lY.holds {P : Program} {w0 w1 : World} {M : List aN} {fv : Value} {p : Bt→Bool} (h : lY P w0 fv p) (hw : aa w0 [] M w1) : lY P w1 fv p:=h.ext hw.aS
section
variable {P : Program} {n : Nat} {w0 : World} {S : List Nat} {Q Q' : Exit→Act→World→Prop} {E E' : Env} {M M' : List aN}
variable {dst : Option Tmp} {ty : TypeId} {pos : String} {aft : Array Edge} {g : Option (Nat × Bool)} {x y : Operand} {ats : Array TypeId}
theorem qT {f : FuncId} {caps : List Value} {xs : List Operand} {vs : List Value} {a : Act} (hg : aO P f) (hk : bf n E a) (hf : ev E x=some (.func (.func f) #[] caps.toArray)) (hx : fQ E xs=some vs) (w : World) :
    (execOp a.eval ⟨dst,.call ⟨.value x,xs.toArray,ats⟩,ty,pos,aft,g⟩).run P w=.ok (.enter f (vs++caps).toArray) w:=by
  obtain ⟨fn,h1,h2,h3⟩:=hg
  have hm : xs.toArray.map a.eval=vs.toArray:=by simp [fR hk hx]
  have h2' : ¬ fn.body=none:=fun h=>by rw [h] at h2;cases h2
  have h3' : ¬ fn.name = "runtime.NumGoroutine" := by simpa using h3
  have hf':=hk.eval hf
  simp [execOp,resolve,Sem.run_bind,hm,hf',Deferred.ofValue,invoke,callFunc,program,Sem.run,h1,h2',h3']
theorem OQ.zf {fv : Value} {p : Bt→Bool} {c : Bt} {b : Bool} (hF : lY P w0 fv p) (hx : ev E x=some fv) (hy : ev E y=some (U8 c)) (h : p c=b) : OQ P n E (aa w0 [] M) ⟨dst,.call ⟨.value x,#[y],ats⟩,ty,pos,aft,g⟩ (.bool b):=by
  obtain ⟨f,caps,h1,h2,h3⟩:=hF
  subst h1
  refine ⟨fun a hk w hw=>?_⟩
  have hy' : fQ E [y]=some [U8 c]:=by simp [fQ,hy]
  unfold Oper.quietAt
  rw [show (#[y] : Array Operand)=[y].toArray from rfl,qT (xs:=[y]) h2 hk hx hy' w]
  refine ⟨rfl,(h3 c w hw.aS).mono fun e w' ⟨k1,k2⟩=>⟨?_,hw.ext k2⟩⟩
  rw [k1,h]
theorem OQ.Cb {f : FuncId} {xs : Array Operand} {caps : List Value} (hx : fQ E xs.toList=some caps) : OQ P n E (aa w0 S M) ⟨dst,.makeFunc (.func f) #[] xs,ty,pos,aft,g⟩ (.func (.func f) #[] caps.toArray):=by
  refine OQ.run fun a hk w _=>?_
  have hm : xs.map a.eval=caps.toArray:=by
    have h1:=fR hk hx
    rw [← h1]
    apply Array.ext'
    simp
  simp [execOp,Instr.makeFunc,Sem.run_bind,hm]
theorem JC.mono {c : Code} (h : JC P n w0 S Q c E M) (hq : ∀ e a w,Q e a w→Q' e a w) : JC P n w0 S Q' c E M:=
  ⟨fun a w ha hw b k cs=>let ⟨e,a',w',h1,h2⟩:=h.go a w ha hw b k cs;⟨e,a',w',hq e a' w' h1,h2⟩⟩
theorem OQ.iW {C : World→Prop} {t t' : TypeId} {l r : List Bt} {c : Bool} (hx : ev E x=some (Z l)) (hy : ev E y=some (Z r)) (h : decide (l=r)=c) : OQ P n E C ⟨dst,.binOp .neq t x y t',ty,pos,aft,g⟩ (.bool (!c)):=h ▸ OQ.Ca hx hy
theorem OQ.fX {C : World→Prop} {t t' : TypeId} {l r : List Bt} {c : Bool} (hx : ev E x=some (Z l)) (hy : ev E y=some (Z r)) (h : decide (l=r)=c) : OQ P n E C ⟨dst,.binOp .eql t x y t',ty,pos,aft,g⟩ (.bool c):=h ▸ OQ.Bz hx hy
abbrev yh (n : Nat) (w0 : World) (S : List Nat) {ι : Type} (Ei : ι→Env) (Mi : ι→List aN) (p : ι→Prop) : Act→World→Prop:=fun a w=>∃ j,p j∧bf n (Ei j) a∧aa w0 S (Mi j) w
theorem JC.scope {ι : Type} (l : Nat) (Ei : ι→Env) (Mi : ι→List aN) (μ : ι→Nat) (I : ι→Prop) {c rest : Code} (hf : findLabel c l=some rest)
    (first : JC P n w0 S (Exit.jump l (yh n w0 S Ei Mi I) Q) c E M)
    (pass : ∀ i,I i→JC P n w0 S (Exit.jump l (yh n w0 S Ei Mi fun j=>I j∧μ j<μ i) Q) rest (Ei i) (Mi i)) : JC P n w0 S Q (.scope c) E M:=by
  refine ⟨fun a0 w0' ha0 hw0 b k cs=>?_⟩
  have hg : gotoIn l (.inScope c::k)=some (.code rest::.inScope c::k):=by simp [gotoIn,hf]
  have key : ∀ m i,μ i=m→I i→∀ a w,bf n (Ei i) a→aa w0 S (Mi i) w→∃ e a' w',Q e a' w'∧Arrives P (lone (b.at a (.code rest::.inScope c::k)) cs w) b k cs e a' w':=by
    intro m
    induction m using Nat.strongRecOn with
    | _ m ih=>
      intro i hm hI a w ha hw
      obtain ⟨e,a₁,w₁,hq,harr⟩:=(pass i hI).go a w ha hw b (.inScope c::k) cs
      cases e with
      | normal=>exact ⟨.normal,a₁,w₁,hq,Steps.trans harr (.one step_inScope)⟩
      | exit id=>exact ⟨.exit id,a₁,w₁,hq,fun k' hk=>harr k' (by simp [exitTo,hk])⟩
      | goto l'=>
        obtain ⟨rfl,j,⟨hJ,hlt⟩,ha₁,hw₁⟩:=hq
        obtain ⟨e₂,a₂,w₂,hq₂,harr₂⟩:=ih (μ j) (by omega) j rfl hJ a₁ w₁ ha₁ hw₁
        exact ⟨e₂,a₂,w₂,hq₂,.of_steps (harr _ hg) harr₂⟩
      | ret=>exact ⟨_,a₁,w₁,hq,harr⟩
      | panic ch=>exact ⟨_,a₁,w₁,hq,harr⟩
      | outgrown=>exact ⟨_,a₁,w₁,hq,harr⟩
  obtain ⟨e,a₁,w₁,hq,harr⟩:=first.go a0 w0' ha0 hw0 b (.inScope c::k) cs
  cases e with
  | normal=>exact ⟨.normal,a₁,w₁,hq,.head step_scope (Steps.trans harr (.one step_inScope))⟩
  | exit id=>exact ⟨.exit id,a₁,w₁,hq,fun k' hk=>.head step_scope (harr k' (by simp [exitTo,hk]))⟩
  | goto l'=>
    obtain ⟨rfl,j,hJ,ha₁,hw₁⟩:=hq
    obtain ⟨e₂,a₂,w₂,hq₂,harr₂⟩:=key _ j rfl hJ a₁ w₁ ha₁ hw₁
    exact ⟨e₂,a₂,w₂,hq₂,.of_steps (.head step_scope (harr _ hg)) harr₂⟩
  | ret=>exact ⟨_,a₁,w₁,hq,.of_steps (.one step_scope) harr⟩
  | panic ch=>exact ⟨_,a₁,w₁,hq,.of_steps (.one step_scope) harr⟩
  | outgrown=>exact ⟨_,a₁,w₁,hq,.of_steps (.one step_scope) harr⟩
theorem JC.goto {l : Nat} (h : JE n w0 S Q (.goto l) E M) : JC P n w0 S Q (.goto l) E M:=⟨fun a w ha hw=>wp_goto (h.go a w ha hw)⟩
theorem JE.gS {ι : Type} {l : Nat} {Ei : ι→Env} {Mi : ι→List aN} {p : ι→Prop} (j : ι) (hp : p j) (hE : af E (Ei j)) (hM : aq (Mi j) M) : JE n w0 S (Exit.jump l (yh n w0 S Ei Mi p) Q) (.goto l) E M:=
  ⟨fun _ _ ha hw=>⟨rfl,j,hp,ha.sub hE,hw.weak hM⟩⟩
theorem JE.gH {l : Nat} {J : Act→World→Prop} (h : JE n w0 S Q .ret E M) : JE n w0 S (Exit.jump l J Q) .ret E M:=⟨h.go⟩
theorem JE.gT {K : Act→World→Prop} {l : Nat} (h : JE n w0 S Q (.goto l) E M) : JE n w0 S (Exit.then K Q) (.goto l) E M:=⟨h.go⟩
end
end Sl
end
section
set_option maxRecDepth 10000
namespace Sl
section
variable {w0 w w' : World} {S : List Nat} {X Y M M0 : List aN}
theorem fJ {A B C D : List aN} (h : aq A B) (k : aq C D) : aq (A++C) (B++D):=by
  induction h with
  | nil N=>
    induction N with
    | nil=>exact k
    | cons e N ih=>exact .drop _ _ _ ih
  | keep b A A' wr N N' h _ ih=>exact .keep b A A' wr _ _ h ih
  | drop e N N' _ ih=>exact .drop e _ _ ih
def keys (X : List aN) : List Nat:=X.map aN.b
theorem aa.own (h : aa w0 S (X++M0) w) : aa w (keys X) (X++qS M0) w:=by
  refine ⟨kM.refl _ _,?_,fun e he=>?_⟩
  · have : (X++qS M0).map aN.b=(X++M0).map aN.b:=by simp [qS,Function.comp_def]
    rw [this];exact h.nodup
  · rcases List.mem_append.1 he with he | he
    · exact ⟨(h.all e (List.mem_append_left _ he)).1,fun _=>.inl (List.mem_map_of_mem he)⟩
    · obtain ⟨q,hq,rfl⟩:=List.mem_map.1 he
      exact ⟨(h.all q (List.mem_append_right _ hq)).1,nofun⟩
theorem aa.zg (h : aa w0 S (X++M0) w) (h2 : aa w (keys X) Y w') (hX : ∀ e ∈ X,e.wr=true) (hY : ∀ e ∈ Y,e.wr=true) : aa w0 S (Y++M0) w':=by
  have hs : ∀ k ∈ keys X,k ∈ S∨w0.heap.size≤k:=fun k hk=>by
    obtain ⟨e,he,rfl⟩:=List.mem_map.1 hk
    exact (h.all e (List.mem_append_left _ he)).2 (hX e he)
  have hnd:=h.nodup
  rw [List.map_append,List.nodup_append] at hnd
  refine ⟨⟨h2.aS.os.trans h.aS.os,h2.aS.tape.trans h.aS.tape,h2.aS.output.trans h.aS.output,Nat.le_trans h.aS.size h2.aS.size,fun k hk hS=>?_⟩,?_,fun e he=>?_⟩
  · refine (h2.aS.block k (Nat.lt_of_lt_of_le hk h.aS.size) fun hm=>?_).trans (h.aS.block k hk hS)
    rcases hs k hm with h | h
    · exact hS h
    · omega
  · rw [List.map_append,List.nodup_append]
    refine ⟨h2.nodup,hnd.2.1,fun a ha b hb e=>?_⟩
    subst e
    obtain ⟨e1,he1,rfl⟩:=List.mem_map.1 ha
    obtain ⟨e2,he2,hb2⟩:=List.mem_map.1 hb
    rcases (h2.all e1 he1).2 (hY e1 he1) with hk | hk
    · exact hnd.2.2 _ hk _ hb rfl
    · have:=h.lt (List.mem_append_right X he2)
      omega
  · rcases List.mem_append.1 he with he | he
    · refine ⟨(h2.all e he).1,fun hw=>?_⟩
      rcases (h2.all e he).2 hw with hk | hk
      · exact hs _ hk
      · exact .inr (Nat.le_trans h.aS.size hk)
    · obtain ⟨⟨o,ho,hA⟩,hw⟩:=h.all e (List.mem_append_right X he)
      refine ⟨⟨o,(h2.aS.block e.b (h.lt (List.mem_append_right X he)) fun hm=>?_).trans ho,hA⟩,hw⟩
      exact hnd.2.2 _ hm _ (List.mem_map_of_mem he) rfl
end
section
variable {P : Program} {n : Nat} {w0 : World} {S : List Nat} {ops : Array Oper} {Q : Exit→Act→World→Prop} {l : List Oper} {E : Env} {M M' : List aN} {C : World→Prop}
variable {dst : Option Tmp} {d b j : Nat} {op : Op} {t t' ty e : TypeId} {pos : String} {aft : Array Edge} {g : Option (Nat × Bool)} {x y : Operand} {cs : List Value}
theorem vM {b hi cap : Nat} : Value.slice (if cap=0 then some ⟨b,0,none⟩ else (some ⟨b,0,none⟩ : Option Addr).map (·.add 0)) hi cap=.slice (some ⟨b,0,none⟩) hi cap:=by
  split <;> simp [Addr.add]
theorem JL.AT {A : Obj→Prop} {wr : Bool} {F : Prop} (hM : Has M b A wr) (hA : ∀ o,A o→F) (k : F→JL P n w0 S ops Q l E M) : JL P n w0 S ops Q l E M:=
  ⟨fun a w ha hw=>by obtain ⟨o,_,h⟩:=hw.get hM;exact (k (hA o h)).go a w ha hw⟩
theorem OQ.AU {ad : Option Addr} {k cap : Nat} (hu : P.underlying t=some (.slice e)) (hx : ev E x=some (.slice ad k cap)) : OQ P n E C ⟨dst,.call ⟨.builtin .cap,#[x],#[t]⟩,ty,pos,aft,g⟩ (N cap):=
  OQ.run fun a hk w _=>by
    have h1:=hk.eval hx
    have h3 : (underlying t).run P w=.ok (.slice e) w:=run_underlying hu w
    simp [execOp,h1,resolve,invoke,builtin,Builtin.cap_,Sem.run_bind,h3,goInt]
structure B1 (P : Program) (f : FuncId) (tS tR : TypeId) : Prop where
  go : ∃ fn,P.funcs[f]?=some fn∧(fn.name == "runtime.NumGoroutine")=false∧fn.body.isNone=true∧Extern.findNext fn=none∧Extern.find fn=some (Extern.SlicesOverlaps.overlaps #[tS,tS] #[tR])
end
end Sl
end
section
set_option maxRecDepth 10000
open Sl
namespace Sl
section
variable {P : Program} {n : Nat} {w0 : World} {S : List Nat} {ops : Array Oper} {Q : Exit→Act→World→Prop} {l : List Oper} {E : Env} {M M' M0 : List aN} {d : Nat} {t e ty : TypeId} {pos : String} {aft : Array Edge} {x y : Operand}
def c9 (e : TypeId) (sz : Nat) (q : Acc) (L : List (List Value)) : List aN:=match q with
  | none=>[]
  | some p=>[⟨p.1,Sl.aG e sz L.length p.2 L.flatten,true⟩]
theorem j9 (e : TypeId) (sz : Nat) (q : Acc) (L : List (List Value)) : ∀ x ∈ c9 e sz q L,x.wr=true:=by
  cases q with
  | none=>nofun
  | some p=>intro x hx;rw [List.mem_singleton.1 hx]
theorem JL.sy {z : Value} {by' bl sz : Nat} {c : List Value} {L : List (List Value)} (q : Acc) (hu : P.underlying t=some (.slice e)) (hi : EI P e z sz by') (hq : q=none→L=[]) (hx : ev E x=some (ak q L.length)) (hy : ev E y=some (.slice (some ⟨bl,0,none⟩) 1 1))
    (hcl : c.length=sz) (h1 : ∀ v ∈ c,v.oneCell'=true) (hzz : z.cells.size=sz) (h0 : 0<sz) (hsm : (L.length+1) * by'≤140737488355328) (hsm2 : L.length+1<9223372036854775808) (hd : Nat.blt d n=true)
    (kk : ∀ b' cap',JL P n w0 S ops Q l ((d,ak (some (b',cap')) (L++[c]).length)::E) (c9 e sz (some (b',cap')) (L++[c])++M0)) :
    JL P n w0 S ops Q (⟨some d,.call ⟨.builtin .append,#[x,y],#[t,t]⟩,ty,pos,aft,none⟩::l) E (⟨bl,Row e c,true⟩::(c9 e sz q L++M0)):=by
  have hr : ∀ w,aa w0 S (⟨bl,Row e c,true⟩::(c9 e sz q L++M0)) w→Reads w (some ⟨bl,0,none⟩) c:=fun w hw=>by
    obtain ⟨o,ho,hA⟩:=hw.get (b:=bl) (A:=Row e c) (wr:=true) .here
    exact Reads.block ho (Row.all _ hA)
  have eN : (L++[c]).length=L.length+1:=List.length_append
  have eF : (L++[c]).flatten=L.flatten++c:=by rw [List.flatten_append];simp
  cases q with
  | none=>
    obtain rfl:=hq rfl
    refine JL.append_nil (cs:=c) (m:=1) hu hi hx hy (by rw [hcl,Nat.one_mul]) hr (by decide) hzz h0 (by simpa using hsm) (by decide) hd fun b' cap' _=>?_
    refine (kk b' cap').eY ?_
    refine .keep _ _ _ _ _ _ (fun o h=>?_) (.drop _ _ _ (aq.refl _))
    rw [eF]
    exact h
  | some r=>
    refine JL.append (cs:=c) (m:=1) (b:=r.1) (cap:=r.2) (k:=L.length) (xs:=L.flatten) (fun b' cap'=>⟨bl,Row e c,true⟩::(c9 e sz (some (b',cap')) (L++[c])++M0)) hu hi hx hy (fun b' cap'=>?_) (by rw [hcl,Nat.one_mul]) hr h1 hzz h0 hsm hsm2 hd fun b' cap'=>?_
    · show az (_::⟨r.1,Sl.aG e sz L.length r.2 L.flatten,true⟩::M0) _ _ _ _ (_::⟨b',Sl.aG e sz (L++[c]).length cap' (L++[c]).flatten,true⟩::M0)
      rw [eN,eF]
      exact .there .here
    · have:=kk b' cap'
      rw [show ak (some (b',cap')) (L++[c]).length=Value.slice (some ⟨b',0,none⟩) (L.length+1) cap' by rw [eN];rfl] at this
      exact this.eY (.drop _ _ _ (aq.refl _))
end
theorem ei {sz : Nat} : ∀ {L : List (List Value)} (_ : ∀ c ∈ L,c.length=sz),L.flatten.length=L.length * sz
  | [],_=>by simp
  | c::L,h=>by
    rw [List.flatten_cons,List.length_append,h c (by simp),ei fun d hd=>h d (by simp [hd]),List.length_cons,Nat.succ_mul]
    omega
theorem iF {sz : Nat} : ∀ {L : List (List Value)} (_ : ∀ c ∈ L,c.length=sz) (i : Nat),L.flatten.drop (i * sz)=(L.drop i).flatten
  | [],_,i=>by simp
  | c::L,h,0=>by simp
  | c::L,h,i+1=>by
    rw [List.flatten_cons,Nat.succ_mul,Nat.add_comm,← List.drop_drop,← h c (by simp),List.drop_left,h c (by simp),iF (fun d hd=>h d (by simp [hd])) i]
    rfl
theorem kX {sz : Nat} : ∀ {L : List (List Value)} (_ : ∀ c ∈ L,c.length=sz) (i : Nat),L.flatten.take (i * sz)=(L.take i).flatten
  | [],_,i=>by simp
  | c::L,h,0=>by simp
  | c::L,h,i+1=>by
    have hc:=h c (by simp)
    rw [List.flatten_cons,Nat.succ_mul,Nat.add_comm,List.take_append,List.take_of_length_le (by omega),hc,Nat.add_sub_cancel_left,kX (fun d hd=>h d (by simp [hd])) i]
    rfl
theorem kY {sz i : Nat} {L : List (List Value)} (h : ∀ c ∈ L,c.length=sz) (hi : i<L.length) : (L.flatten.drop (i * sz)).take sz=L.getD i []:=by
  rw [iF h,List.drop_eq_getElem_cons hi,List.flatten_cons,List.take_append_of_le_length (by rw [h _ (List.getElem_mem hi)];exact Nat.le_refl _),List.take_of_length_le (by rw [h _ (List.getElem_mem hi)];exact Nat.le_refl _)]
  simp [hi]
theorem tN {sz i : Nat} {L : List (List Value)} {c : List Value} (h : ∀ c ∈ L,c.length=sz) (hi : i<L.length) : L.flatten.take (i * sz)++c++L.flatten.drop (i * sz+sz)=(L.set i c).flatten:=by
  rw [← Nat.succ_mul,iF h,kX h,List.set_eq_take_append_cons_drop,if_pos hi,List.flatten_append,List.flatten_cons,List.append_assoc]
theorem Sl.aG.chunk {e : TypeId} {sz k cap i : Nat} {L : List (List Value)} (h : ∀ c ∈ L,c.length=sz) (hi : i<L.length) : ∀ o,Sl.aG e sz k cap L.flatten o→b6 o (i * sz) (L.getD i []):=by
  intro o ho
  have h1:=Sl.aG.cells o ho
  have hl:=ei h
  have hle : i * sz+sz≤L.flatten.length:=by rw [hl,← Nat.succ_mul];exact Nat.mul_le_mul_right _ hi
  have h2:=vI (k:=i * sz) (t:=sz) h1 hle
  rwa [kY h hi,Nat.zero_add] at h2
section
variable {P : Program} {n : Nat} {w0 : World} {S : List Nat} {ops : Array Oper} {Q : Exit→Act→World→Prop} {l : List Oper} {E : Env} {M M' : List aN} {C : World→Prop}
variable {dst : Option Tmp} {d b : Nat} {t e ty : TypeId} {pos : String} {aft : Array Edge} {g : Option (Nat × Bool)} {x y : Operand} {c : List Value} {L : List (List Value)} {wr : Bool}
theorem OQ.AV {sz k cap i o : Nat} (ha : qI P t=true) (hz : gv P t=some sz) (hx : ev E x=some (.pointer (some ⟨b,o,none⟩))) (ho : o=i * sz) (hM : Has M b (Sl.aG e sz k cap L.flatten) wr) (hL : ∀ c ∈ L,c.length=sz) (hi : i<L.length) : OQ P n E (aa w0 S M) ⟨dst,.load t x,ty,pos,aft,g⟩ (.agg (L.getD i []).toArray):=by
  subst ho
  exact OQ.er ha hz hx hM (hL _ (by rw [List.getD_eq_getElem?_getD,List.getElem?_eq_getElem hi];exact List.getElem_mem _)) (Sl.aG.chunk hL hi)
end
theorem qU {sz sz' i off : Nat} {L : List (List Value)} {c : List Value} (h : ∀ c ∈ L,c.length=sz) (hi : i<L.length) (ho : off+sz'≤sz) : L.flatten.take (i * sz+off)++c++L.flatten.drop (i * sz+off+sz')=(L.set i ((L.getD i []).take off++c++(L.getD i []).drop (off+sz'))).flatten:=by
  rw [← tN h hi,← kY h hi,List.take_add,List.take_take,Nat.min_eq_left (by omega)]
  have e : L.flatten.drop (i * sz)=(L.flatten.drop (i * sz)).take sz++L.flatten.drop (i * sz+sz):=by rw [← List.drop_drop,List.take_append_drop]
  have hl : ((L.flatten.drop (i * sz)).take sz).length=sz:=by
    rw [kY h hi,List.getD_eq_getElem?_getD,List.getElem?_eq_getElem hi]
    exact h _ (List.getElem_mem _)
  have e2 : L.flatten.drop (i * sz+off+sz')=((L.flatten.drop (i * sz)).take sz).drop (off+sz')++L.flatten.drop (i * sz+sz):=by
    rw [Nat.add_assoc,← List.drop_drop,e,List.drop_append_of_le_length (by omega),← e]
  rw [e2]
  simp only [List.append_assoc]
section
variable {P : Program} {n : Nat} {w0 : World} {S : List Nat} {ops : Array Oper} {Q : Exit→Act→World→Prop} {l : List Oper} {E : Env} {M M' : List aN}
variable {b : Nat} {t e ty : TypeId} {pos : String} {aft : Array Edge} {x y : Operand} {c : List Value} {L : List (List Value)}
end
end Sl
end
section
set_option maxRecDepth 10000
open Sl
namespace Sl
section
variable {P : Program} {n : Nat} {w0 : World} {S : List Nat} {ops : Array Oper} {Q : Exit→Act→World→Prop} {l : List Oper} {E : Env} {M M' : List aN} {C : World→Prop}
variable {dst : Option Tmp} {d b : Nat} {t e ty : TypeId} {pos : String} {aft : Array Edge} {g : Option (Nat × Bool)} {x y z u : Operand} {cs : List Value}
theorem JL.oX {zv : Value} {ad : Option Addr} {sz by' i k m cap sc : Nat} {xs xs' : List Value} (hu : P.underlying t=some (.slice e)) (hi : EI P e zv sz by') (hx : ev E x=some (.slice (some ⟨b,0,none⟩) i cap)) (hy : ev E y=some (.slice ad m sc))
    (hup : nr M b (Sl.aG e sz k cap xs) (Sl.aG e sz k cap xs') M') (hl : cs.length=m * sz) (hr : ∀ w,aa w0 S M w→Reads w ad cs) (h1 : ∀ v ∈ cs,v.oneCell'=true) (h0 : 0<sz) (hroom : i+m≤k) (he : xs.take (i * sz)++cs++xs.drop (i * sz+m * sz)=xs') (hd : Nat.blt d n=true)
    (kk : JL P n w0 S ops Q l ((d,.slice (some ⟨b,0,none⟩) (i+m) cap)::E) M') : JL P n w0 S ops Q (⟨some d,.call ⟨.builtin .append,#[x,y],#[t,t]⟩,ty,pos,aft,none⟩::l) E M:=
  ⟨fun a w ha hw=>wpList_plain rfl fun K hK=>by
    obtain ⟨inf,hi1,hi2,hi3,hi4⟩:=hi.get
    obtain ⟨o,ho,sp,rfl,hc1,hc2,hc3⟩:=hw.get hup.has
    have hru:=hr w hw
    have hle : i * sz+m * sz≤k * sz:=by rw [← Nat.add_mul];exact Nat.mul_le_mul_right _ hroom
    unfold Oper.wp
    simp only [execOp,resolve,invoke,builtin,Sem.run_bind,Sem.run_pure,Result.andThen_ok,List.map_toArray,List.map_cons,List.map_nil,ha.eval hx,ha.eval hy]
    by_cases hm : m=0
    · subst hm
      have hcs : cs=[]:=List.eq_nil_of_length_eq_zero (by simpa using hl)
      subst hcs
      rw [gG (_t':=t) hu hi1 (by omega)]
      refine hK _ _ (kk.go _ _ (ha.put d _ hd) (hw.write hup (o':=.cells (xs++sp).toArray e (0,0)) ?_ ho rfl (fun _ _=>rfl) rfl rfl rfl))
      rw [← he]
      refine ⟨sp,?_,?_,?_,hc3⟩
      · simp
      · simpa using hc1
      · simpa using hc2
    · have hpos : 0<cs.length:=by rw [hl];exact Nat.mul_pos (Nat.pos_of_ne_zero hm) h0
      obtain ⟨b2,j2,rfl,hcell⟩:=hru.at hpos
      have hfit : i * inf.size+cs.length≤(xs++sp).toArray.size:=by
        rw [hl,hi3,List.size_toArray,List.length_append];omega
      rw [run_append_room (P:=P) w t ty e inf hu hi1 b i cap (xs++sp).toArray ho ⟨b2,j2,none⟩ m sc cs (by rw [hl,hi3]) (fun u v hv=>by rw [bX];exact hcell u v hv) h1 (by omega) hfit]
      refine hK _ _ (kk.go _ _ (ha.put d _ hd) (hw.write hup (o':=.cells ((xs++sp).take (i * inf.size)++cs++(xs++sp).drop (i * inf.size+cs.length)).toArray e (0,0)) ?_ (setRow_heap w b _ _ e _ ho) (by simp) (fun q hq=>setRow_other w b q _ hq) rfl rfl rfl))
      rw [hi3,hl,List.take_append_of_le_length (by omega),List.drop_append_of_le_length (by omega),← List.append_assoc,he]
      have hxl : xs'.length=xs.length:=by rw [← he];simp only [List.length_append,List.length_take,List.length_drop,hl];omega
      exact ⟨sp,rfl,by rw [List.length_append] at hc1 ⊢;omega,by omega,hc3⟩⟩
theorem zip_map {a : Act} (hk : bf n E a) : ∀ {is : List Nat} {xs : List Operand} {vs : List Value},fQ E xs=some vs→(is.zip xs).map (fun p=>(p.1,a.eval p.2))=is.zip vs
  | [],xs,vs,_=>by simp
  | i::is,[],vs,h=>by
    simp only [fQ,Option.some.injEq] at h
    subst h
    rfl
  | i::is,x::xs,vs,h=>by
    simp only [fQ] at h
    cases h1 : ev E x with
    | none=>simp [h1] at h
    | some v=>
      cases h2 : fQ E xs with
      | none=>simp [h1,h2] at h
      | some us=>
        simp only [h1,h2,Option.some.injEq] at h
        subst h
        simp [hk.eval h1,zip_map hk h2]
theorem OQ.eZ {ps : Array (Nat × Operand)} (is : List Nat) (xs : List Operand) {vs : List Value} (hps : ps=(is.zip xs).toArray) (hx : fQ E xs=some vs) (h : P.built t (is.zip vs)=some cs.toArray) : OQ P n E C ⟨dst,.build t ps,ty,pos,aft,g⟩ (.agg cs.toArray):=
  OQ.run fun a ha w _=>by
    have hm : ps.map (fun (i,x)=>(i,a.eval x))=(is.zip vs).toArray:=by
      rw [hps,List.map_toArray,← zip_map ha hx]
    have r:=run_build w t (is.zip vs).toArray cs.toArray (by simpa using h)
    simp only [execOp,hm,Sem.run_bind,r,Result.andThen_ok]
    rfl
end
theorem OQ.ir {P : Program} {n : Nat} {E : Env} {C : World→Prop} {dst : Option Tmp} {t ty e : TypeId} {pos : String} {aft : Array Edge} {g : Option (Nat × Bool)} {x : Operand} {q : Acc} {k : Nat} (hu : P.underlying t=some (.slice e)) (hq : q=none→k=0) (hx : ev E x=some (ak q k)) : OQ P n E C ⟨dst,.call ⟨.builtin .len,#[x],#[t]⟩,ty,pos,aft,g⟩ (N k):=by
  cases q with
  | none=>obtain rfl:=hq rfl;exact OQ.len hu hx
  | some r=>exact OQ.len hu hx
end Sl
end
section
namespace Sl
section
variable {P : Program} {n : Nat} {w0 : World} {S : List Nat} {ops : Array Oper} {Q : Exit→Act→World→Prop} {l : List Oper} {E : Env} {M : List aN}
variable {d : Nat} {t e ty : TypeId} {pos : String} {aft : Array Edge} {v z : Value} {x y : Operand} {sz by' : Nat} {cs ds : List Value}
end
end Sl
end
section
set_option maxRecDepth 10000
namespace Sl
section
variable {P : Program} {n : Nat} {w0 : World} {S : List Nat} {ops : Array Oper} {Q : Exit→Act→World→Prop} {l : List Oper} {E : Env} {M : List aN} {C : World→Prop}
variable {dst : Option Tmp} {d : Nat} {t ty : TypeId} {pos name : String} {aft : Array Edge} {g : Option (Nat × Bool)} {r : Operand} {v u : Value} {f : FuncId} {xs : List Operand} {ats ats' : Array TypeId}
theorem tO (A M : List aN) : aq A (A++M):=by
  induction A with
  | nil=>exact .nil _
  | cons e A ih=>exact .keep _ _ _ _ _ _ (fun _ h=>h) ih
def vN (P : Program) (t : TypeId) (v : Value) (name : String) (f : FuncId) : Prop:=vB P (Go.method (P.types.size+Made.depth) t v name)=some (f,v)
theorem vO {a : Act} (hm : vN P t v name f) (hk : bf n E a) (hr : ev E r=some (.iface t v)) (w : World) :
    (execOp a.eval ⟨dst,.call ⟨.invoke r name,xs.toArray,ats⟩,ty,pos,aft,g⟩).run P w=(execOp a.eval ⟨dst,.call ⟨.value (.func f),(.const v::xs).toArray,ats'⟩,ty,pos,aft,g⟩).run P w:=by
  have h1:=hk.eval hr
  have h2 : (Go.method (P.types.size+Made.depth) t v name).run P w=.ok (f,v) w:=iO hm
  have e2 : a.eval (.func f)=.func (.func f) #[] #[]:=rfl
  have e3 : a.eval (.const v)=v:=rfl
  have e4 : List.take xs.length (List.map a.eval xs)=List.map a.eval xs:=List.take_of_length_le (by simp)
  simp only [execOp,resolve,Sem.run_bind,Sem.run_pure,Result.andThen_ok,e2,Deferred.ofValue,invoke]
  simp [h1,callMethod,program,Sem.run_bind,Sem.run,h2,e3,e4]
theorem OQ.inv (hm : vN P t v name f) (hr : ev E r=some (.iface t v)) (h : OQ P n E C ⟨dst,.call ⟨.value (.func f),(.const v::xs).toArray,ats⟩,ty,pos,aft,g⟩ u) : OQ P n E C ⟨dst,.call ⟨.invoke r name,xs.toArray,ats⟩,ty,pos,aft,g⟩ u:=by
  refine ⟨fun a ha w hw=>?_⟩
  have h1:=h.go a ha w hw
  unfold Oper.quietAt at h1 ⊢
  rw [vO hm ha hr]
  exact h1
theorem JL.AW {ι : Type} {op : Op} {X M0 : List aN} {vs : List Value} (vf : ι→Value) (Yf : ι→List aN) (hex : ∀ a,bf n E a→∀ w,(execOp a.eval ⟨some d,op,ty,pos,aft,none⟩).run P w=.ok (.enter f vs.toArray) w) (hd : Nat.blt d n=true) (hX : ∀ e ∈ X,e.wr=true) (hY : ∀ i,∀ e ∈ Yf i,e.wr=true)
    (hc : ∀ w,aa w0 S (X++M0) w→aa w (keys X) X w→Calls P f vs.toArray w fun e w'=>∃ i,e=.returned (vf i)∧aa w (keys X) (Yf i) w')
    (k : ∀ i,JL P n w0 S ops Q l ((d,vf i)::E) (Yf i++M0)) : JL P n w0 S ops Q (⟨some d,op,ty,pos,aft,none⟩::l) E (X++M0):=
  ⟨fun a w ha hw=>wpList_plain rfl fun K hK=>by
    unfold Oper.wp
    rw [hex a ha w]
    exact (hc w hw (hw.own.weak (tO _ _))).mono fun e w' ⟨i,h1,h2⟩=>by subst h1;exact hK _ _ ((k i).go _ _ (ha.put d _ hd) (hw.zg h2 hX (hY i)))⟩
end
end Sl
end
section
set_option maxRecDepth 10000
open Sl
namespace Sl
section
variable {P : Program} {n : Nat} {w0 : World} {S : List Nat} {ops : Array Oper} {Q : Exit→Act→World→Prop} {l : List Oper} {E : Env} {M : List aN} {C : World→Prop}
variable {dst : Option Tmp} {d b : Nat} {t t' e ty : TypeId} {pos : String} {aft : Array Edge} {g : Option (Nat × Bool)} {zv : Value} {x y z : Operand} {sz by' : Nat} {ats : Array TypeId}
theorem OQ.Cc {f : FuncId} {fs xs : Array Operand} {rs caps : List Value} (hf : fQ E fs.toList=some rs) (hx : fQ E xs.toList=some caps) : OQ P n E C ⟨dst,.makeFunc (.func f) fs xs,ty,pos,aft,g⟩ (.func (.func f) rs.toArray caps.toArray):=by
  refine OQ.run fun a hk w _=>?_
  have hm : xs.map a.eval=caps.toArray:=by
    have h1:=fR hk hx
    rw [← h1]
    apply Array.ext'
    simp
  have hm2 : fs.map a.eval=rs.toArray:=by
    have h1:=fR hk hf
    rw [← h1]
    apply Array.ext'
    simp
  simp [execOp,Instr.makeFunc,Sem.run_bind,hm,hm2]
theorem qV {f : FuncId} {rs caps : List Value} {xs : List Operand} {vs : List Value} {a : Act} (hg : aO P f) (hk : bf n E a) (hf : ev E x=some (.func (.func f) rs.toArray caps.toArray)) (hx : fQ E xs=some vs) (w : World) :
    (execOp a.eval ⟨dst,.call ⟨.value x,xs.toArray,ats⟩,ty,pos,aft,g⟩).run P w=.ok (.enter f (rs++vs++caps).toArray) w:=by
  obtain ⟨fn,h1,h2,h3⟩:=hg
  have hm : xs.toArray.map a.eval=vs.toArray:=by simp [fR hk hx]
  have h2' : ¬ fn.body=none:=fun h=>by rw [h] at h2;cases h2
  have h3' : ¬ fn.name = "runtime.NumGoroutine" := by simpa using h3
  have hf':=hk.eval hf
  simp [execOp,resolve,Sem.run_bind,hm,hf',Deferred.ofValue,invoke,callFunc,program,Sem.run,h1,h2',h3']
theorem jA : ∀ {L : List (List Value)} (_ : ∀ c ∈ L,c.length=sz) (_ : 0<sz) (k : Nat),L.flatten[k]?=(L[k / sz]?).bind fun c=>c[k % sz]?
  | [],_,_,k=>by simp
  | c::L,h,h0,k=>by
    have hc : c.length=sz:=h c (by simp)
    by_cases hk : k<sz
    · rw [List.flatten_cons,List.getElem?_append_left (by omega),Nat.div_eq_of_lt hk,Nat.mod_eq_of_lt hk]
      rfl
    · have e1 : k / sz=(k - sz) / sz+1:=by
        rw [← Nat.sub_add_cancel (Nat.le_of_not_lt hk),Nat.add_div_right _ h0,Nat.add_sub_cancel]
      have e2 : k % sz=(k - sz) % sz:=Nat.mod_eq_sub_mod (Nat.le_of_not_lt hk)
      rw [List.flatten_cons,List.getElem?_append_right (by omega),hc,jA (fun d hd=>h d (by simp [hd])) h0 (k - sz),e1,e2,List.getElem?_cons_succ]
theorem oY {w : World} {css : List (List Value)} {m : Nat} (hu : P.underlying t=some (.slice e)) (hi : EI P e zv sz by') (_hz : zv.cells.size=sz) (h0 : 0<sz) (hl : ∀ c ∈ css,c.length=sz) (hm : css.length=m) (hm0 : 0<m) (hsm : m * sz≤16777216) :
    (Instr.buildSlice t m (((css.map fun c=>Value.agg c.toArray).zipIdx 0).map fun x=>(x.2,x.1)).toArray).run P w=.ok (.slice (some ⟨w.heap.size,0,none⟩) m m) { w with heap:=w.heap.push (.cells css.flatten.toArray e (0,0)) }:=by
  have h3 : (underlying t).run P w=.ok (.slice e) w:=run_underlying hu w
  obtain ⟨i,h4,h5,_⟩:=hi.get
  obtain ⟨r,h6,h7,h8⟩:=Great.fill_dense h0 (css.map fun c=>Value.agg c.toArray) 0 ((Array.range (m * sz)).map (zv.cells[· % zv.cells.size]!)) (by
    intro v hv
    obtain ⟨c,hc,rfl⟩:=List.mem_map.1 hv
    simp [Value.cells,hl c hc]) (by simp [hm])
  have hfl:=ei hl
  have hr : r=css.flatten.toArray:=by
    apply Array.ext_getElem?
    intro k
    rw [h8 k,List.length_map,Nat.zero_mul,Nat.zero_add,hm,show css.flatten.toArray[k]?=css.flatten[k]? from by simp]
    by_cases hk : k<m * sz
    · rw [if_pos ⟨Nat.zero_le _,hk⟩,jA hl h0 k,Nat.sub_zero,List.getElem?_map]
      cases css[k / sz]? with
      | none=>rfl
      | some c=>simp [Value.cells]
    · have e2 : css.flatten[k]?=none:=List.getElem?_eq_none (by rw [hfl,hm];omega)
      rw [if_neg (fun h=>hk h.2),e2]
      exact Array.getElem?_eq_none (by simp;omega)
  subst hr
  have h11 : (zeroValue e).run P w=.ok zv w:=by simp [zeroValue,typeInfo,h4,h5]
  have hpos : 0<m * sz:=Nat.mul_pos hm0 h0
  have h12 : ¬ (16777216<m * sz):=by omega
  have h13 : ¬ (m=0):=by omega
  have h15 : ¬ (sz=0):=by omega
  have h16 : ¬ (m * sz=0):=by omega
  simp [Instr.buildSlice,Sem.run_bind,h3,bF hi.sz,h11,h12,h13,h15,h16,h6,newRow,newObj,Sem.run]
theorem JL.AX {xs : List Operand} {ps : Array (Nat × Operand)} {css : List (List Value)} {m : Nat} (hu : P.underlying t=some (.slice e)) (hi : EI P e zv sz by') (hz : zv.cells.size=sz) (h0 : 0<sz) (hps : ps=(pairs 0 xs).toArray) (hx : fQ E xs=some (css.map fun c=>Value.agg c.toArray)) (hl : ∀ c ∈ css,c.length=sz) (hm : css.length=m) (hm0 : 0<m) (hsm : m * sz≤16777216) (hd : Nat.blt d n=true)
    (k : ∀ b,w0.heap.size≤b→JL P n w0 S ops Q l ((d,.slice (some ⟨b,0,none⟩) m m)::E) (⟨b,Row e css.flatten,true⟩::M)) : JL P n w0 S ops Q (⟨some d,.buildSlice t m ps,ty,pos,aft,none⟩::l) E M:=
  ⟨fun a w ha hw=>wpList_plain rfl fun K hK=>by
    unfold Oper.wp
    have hm' : ps.map (fun (i,x)=>(i,a.eval x))=(((css.map fun c=>Value.agg c.toArray).zipIdx 0).map fun x=>(x.2,x.1)).toArray:=by
      rw [hps,List.map_toArray,← jv ha 0 hx]
    simp only [execOp,hm',Sem.run_bind,oY hu hi hz h0 hl hm hm0 hsm,Result.andThen_ok]
    exact hK _ _ ((k w.heap.size hw.aS.size).go _ _ (ha.put d _ hd) (hw.push _ rfl rfl rfl rfl rfl))⟩
end
theorem vP {e : TypeId} {sz k cap j : Nat} {xs : List Value} (hj : j≤k) : ∀ o,Sl.aG e sz k cap xs o→Sl.aG e sz j cap (xs.take (j * sz)) o:=by
  rintro o ⟨sp,rfl,h1,h2,h3⟩
  have hm : j * sz≤k * sz:=Nat.mul_le_mul_right _ hj
  refine ⟨xs.drop (j * sz)++sp,by rw [← List.append_assoc,List.take_append_drop],?_,?_,by omega⟩
  · rw [List.length_append] at h1 ⊢
    rw [List.length_take,List.length_append,List.length_drop]
    omega
  · rw [List.length_take]
    omega
end Sl
end
section
set_option maxRecDepth 10000
open Sl
namespace dF
structure Mz where
  qt : Acc
  qb : Acc
  m : Ml
  ht : qt=none→m.to=[]
  hb : qb=none→m.b=[]
def Mz.cs (z : Mz) : List Value:=[Z z.m.fr,ak z.qt z.m.to.length,ak z.qb z.m.b.length]
def Mz.E (z : Mz) : List aN:=aL 9 z.qt (z.m.to.map Z)++aL 5 z.qb (z.m.b.map U8)
structure Pw where
  st : Nat
  fr : List Bt
  qt : Acc
  to : List (List Bt)
  ql : Acc
  ln : List Bt
  qd : Acc
  dt : List Bt
  qm : Acc
  zs : List Mz
structure Pw.ok (z : Pw) : Prop where
  t : z.qt=none→z.to=[]
  l : z.ql=none→z.ln=[]
  d : z.qd=none→z.dt=[]
  m : z.qm=none→z.zs=[]
def Pw.cs (z : Pw) : List Value:=[N z.st,Z z.fr,ak z.qt z.to.length,ak z.ql z.ln.length,ak z.qd z.dt.length,ak z.qm z.zs.length]
def Pw.T (z : Pw) : List aN:=aL 9 z.qt (z.to.map Z)
def Pw.L (z : Pw) : List aN:=aL 5 z.ql (z.ln.map U8)
def Pw.D (z : Pw) : List aN:=aL 5 z.qd (z.dt.map U8)
def Pw.M (z : Pw) : List aN:=c9 38 3 z.qm (z.zs.map Mz.cs)++z.zs.flatMap Mz.E
def Pw.R (z : Pw) : List aN:=z.T++(z.L++(z.D++z.M))
def Pw.E (b : Nat) (z : Pw) : List aN:=⟨b,Row 75 z.cs,true⟩::z.R
theorem AY (z : Mz) : ∀ e ∈ z.E,e.wr=true:=by
  intro e he
  rcases List.mem_append.1 he with h | h
  · exact cN _ _ _ e h
  · exact cN _ _ _ e h
theorem qW (zs : List Mz) : ∀ e ∈ zs.flatMap Mz.E,e.wr=true:=by
  intro e he
  obtain ⟨z,_,hz⟩:=List.mem_flatMap.1 he
  exact AY z e hz
theorem Pw.wr (b : Nat) (z : Pw) : ∀ e ∈ z.E b,e.wr=true:=by
  intro e he
  rcases List.mem_cons.1 he with rfl | he
  · rfl
  rcases List.mem_append.1 he with h | he
  · exact cN _ _ _ e h
  rcases List.mem_append.1 he with h | he
  · exact cN _ _ _ e h
  rcases List.mem_append.1 he with h | he
  · exact cN _ _ _ e h
  rcases List.mem_append.1 he with h | he
  · exact j9 _ _ _ _ e h
  · exact qW _ e he
def tr (l : List Bt) : List Bt:=if 515<l.length then l.take 513++l.drop (l.length - 2) else l
def qX (S : Po) : List Bt:=if S.st=4 then S.ln else tr S.ln
structure Pw.is (z : Pw) (S : Po) : Prop where
  st : z.st=S.st
  fr : z.fr=S.fr
  to : z.to=S.to
  ln : z.ln=qX S
  dt : z.dt=S.dt
  ms : z.zs.map Mz.m=S.ms
theorem zT : tr []=[]:=rfl
theorem iX {S : Po} (h : S.ln=[]) : qX S=[]:=by
  unfold qX
  rw [h,zT]
  split <;> rfl
theorem qY : qI Tryz.prog 38=true:=by kernel_rfl
theorem zU : EI Tryz.prog 38 (.agg #[Z [],.slice none 0 0,.slice none 0 0]) 3 64:=by unfold EI;kernel_rfl
theorem cX : fG Tryz.prog 3=true:=by kernel_rfl
theorem bJ : fG Tryz.prog 9=true:=by kernel_rfl
theorem b7 : fG Tryz.prog 30=true:=by kernel_rfl
theorem dY : fG Tryz.prog 22=true:=by kernel_rfl
theorem vQ : fG Tryz.prog 31=true:=by kernel_rfl
theorem zh : gv Tryz.prog 3=some 1:=by kernel_rfl
theorem di : gv Tryz.prog 9=some 1:=by kernel_rfl
theorem vR : gv Tryz.prog 30=some 1:=by kernel_rfl
theorem oZ : gv Tryz.prog 22=some 1:=by kernel_rfl
theorem zi : gv Tryz.prog 31=some 1:=by kernel_rfl
theorem fk (q : Acc) (k : Nat) : (ak q k).oneCell'=true:=by cases q <;> rfl
theorem eJ (q : Acc) (k : Nat) : (ak q k).cells=#[ak q k]:=by cases q <;> rfl
section
variable {n : Nat} {w0 : World} {S : List Nat} {ops : Array Oper} {Q : Exit→Act→World→Prop} {l : List Oper} {E : Env} {M : List aN} {pos : String} {aft : Array Edge} {ty : TypeId} {x y : Operand} {b : Nat} {z : Pw} {rest : List aN}
theorem JL.kZ (k : Nat) (hx : ev E x=some (Pt b 0)) (hy : ev E y=some (N k)) (hk : JL Tryz.prog n w0 S ops Q l E (⟨b,Row 75 (Pw.cs { z with st:=k }),true⟩::rest)) : JL Tryz.prog n w0 S ops Q (⟨none,.store 3 x y,ty,pos,aft,none⟩::l) E (⟨b,Row 75 z.cs,true⟩::rest):=
  JL.cm (b:=b) (r:=z.cs) zh hx hy rfl rfl .here (show 0<6 by decide) rfl hk
theorem JL.vS (s : List Bt) (hx : ev E x=some (Pt b 1)) (hy : ev E y=some (Z s)) (hk : JL Tryz.prog n w0 S ops Q l E (⟨b,Row 75 (Pw.cs { z with fr:=s }),true⟩::rest)) : JL Tryz.prog n w0 S ops Q (⟨none,.store 9 x y,ty,pos,aft,none⟩::l) E (⟨b,Row 75 z.cs,true⟩::rest):=
  JL.cm (b:=b) (r:=z.cs) di hx hy rfl rfl .here (show 1<6 by decide) rfl hk
theorem JL.sA (q : Acc) (to : List (List Bt)) (hx : ev E x=some (Pt b 2)) (hy : ev E y=some (ak q to.length)) (hk : JL Tryz.prog n w0 S ops Q l E (⟨b,Row 75 (Pw.cs { z with qt:=q,to:=to }),true⟩::rest)) : JL Tryz.prog n w0 S ops Q (⟨none,.store 30 x y,ty,pos,aft,none⟩::l) E (⟨b,Row 75 z.cs,true⟩::rest):=
  JL.cm (b:=b) (r:=z.cs) vR hx hy (fk _ _) (eJ _ _) .here (show 2<6 by decide) rfl hk
theorem JL.vT (q : Acc) (s : List Bt) (hx : ev E x=some (Pt b 3)) (hy : ev E y=some (ak q s.length)) (hk : JL Tryz.prog n w0 S ops Q l E (⟨b,Row 75 (Pw.cs { z with ql:=q,ln:=s }),true⟩::rest)) : JL Tryz.prog n w0 S ops Q (⟨none,.store 22 x y,ty,pos,aft,none⟩::l) E (⟨b,Row 75 z.cs,true⟩::rest):=
  JL.cm (b:=b) (r:=z.cs) oZ hx hy (fk _ _) (eJ _ _) .here (show 3<6 by decide) rfl hk
theorem JL.sB (q : Acc) (s : List Bt) (hx : ev E x=some (Pt b 4)) (hy : ev E y=some (ak q s.length)) (hk : JL Tryz.prog n w0 S ops Q l E (⟨b,Row 75 (Pw.cs { z with qd:=q,dt:=s }),true⟩::rest)) : JL Tryz.prog n w0 S ops Q (⟨none,.store 22 x y,ty,pos,aft,none⟩::l) E (⟨b,Row 75 z.cs,true⟩::rest):=
  JL.cm (b:=b) (r:=z.cs) oZ hx hy (fk _ _) (eJ _ _) .here (show 4<6 by decide) rfl hk
end
end dF
end
section
set_option maxRecDepth 10000
open Sl
section
variable {P : Program} {n : Nat} {w0 : World} {S : List Nat} {ops : Array Oper} {Q : Exit→Act→World→Prop} {l : List Oper} {E : Env} {M : List aN} {C : World→Prop}
variable {dst : Option Tmp} {d : Nat} {t t' e ty : TypeId} {pos : String} {aft : Array Edge} {g : Option (Nat × Bool)} {x y : Operand}
theorem JL.iw {ι : Type} {X M0 : List aN} (vf : ι→Value) (Yf : ι→List aN) {f : FuncId} {xs : List Operand} {ats : Array TypeId} {vs : List Value} (hg : aO P f) (hx : fQ E xs=some vs) (hd : Nat.blt d n=true) (hX : ∀ e ∈ X,e.wr=true) (hY : ∀ i,∀ e ∈ Yf i,e.wr=true)
    (hc : ∀ w,aa w0 S (X++M0) w→aa w (keys X) X w→Calls P f vs.toArray w fun e w'=>∃ i,e=.returned (vf i)∧aa w (keys X) (Yf i) w')
    (k : ∀ i,JL P n w0 S ops Q l ((d,vf i)::E) (Yf i++M0)) : JL P n w0 S ops Q (⟨some d,.call ⟨.value (.func f),xs.toArray,ats⟩,ty,pos,aft,none⟩::l) E (X++M0):=
  JL.call (ι:=ι) vf (fun i=>Yf i++M0) hg hx hd (fun w hw=>(hc w hw (hw.own.weak (ew _ _))).mono fun _ _ ⟨i,h1,h2⟩=>⟨i,h1,hw.zg h2 hX (hY i)⟩) k
theorem OQ.nC {ad : Option Addr} {k cap : Nat} (hu : P.underlying t=some (.slice e)) (hx : ev E x=some (.slice ad k cap)) (hy : ev E y=some (.slice none 0 0)) :
    OQ P n E C ⟨dst,.binOp .eql t x y t',ty,pos,aft,g⟩ (.bool ad.isNone):=
  OQ.run fun c ha w _=>by
    have h1:=ha.eval hx
    have h2:=ha.eval hy
    have h4 : (binOp .eql t (.slice ad k cap) (.slice none 0 0)).run P w=.ok (.bool ad.isNone) w:=by
      show (do pure (.bool (← Op.equal t (.slice ad k cap) (.slice none 0 0))) : Sem Value).run P w=_
      simp [Sem.run_bind,run_equal_slice_nil w t e ad k cap hu]
    simp [execOp,h1,h2,eqGuard,h4]
theorem OQ.bR {k : IntKind} {len cap b j i sz : Nat} (hu : P.underlying t=some (.slice e)) (hz : gv P e=some sz) (hx : ev E x=some (.slice (some ⟨b,j,none⟩) len cap)) (hy : ev E y=some (.int k (i : Int))) (hi : i<len) :
    OQ P n E C ⟨dst,.indexAddr t x y,ty,pos,aft,g⟩ (.pointer (some ⟨b,j+i * sz,none⟩)):=
  OQ.run fun a ha w _=>by
    have h1:=ha.eval hx
    have h2:=ha.eval hy
    have h3 : (underlying t).run P w=.ok (.slice e) w:=run_underlying hu w
    simp [execOp,h1,h2,Instr.indexAt,asIntOf,Sem.run_bind,h3,hi,bF hz,bX]
end
theorem o3 {w0 w : World} {S : List Nat} {X M : List aN} {b : Nat} {A : Obj→Prop} {wr : Bool} (hw : aa w0 S (X++M) w) (hM : Has M b A wr) : b ∉ keys X:=by
  have hn:=hw.nodup
  rw [List.map_append,List.nodup_append] at hn
  intro hm
  exact hn.2.2 b hm b (List.mem_map_of_mem (f:=aN.b) hM.mem) rfl
end
section
namespace aI
inductive Hd : List (List By × List By)→List By→Prop
  | nil : Hd [] []
  | cons (n v L e : List By) (fs : List (List By × List By)) (H : List By) : y3 n=true→BD v=true→Fo (32::v) L→B6 e→Hd fs H→Hd ((n,v)::fs) (n++58::L++e++H)
end aI
end
section
namespace aI
end aI
end
section
namespace aI
def bH (l : List By) : List UInt8:=l.map UInt8.ofBitVec
theorem eK (l : List By) : (bz l).data.toList=bH l:=rfl
theorem sC (l : List By) : (⟨(bH l).toArray⟩ : ByteArray)=bz l:=rfl
theorem o4 (p : UInt8→Bool) : ∀ l : List By,(bH l).dropWhile p=bH (l.dropWhile fun c=>p (UInt8.ofBitVec c))
  | []=>rfl
  | c::l=>by
    show (UInt8.ofBitVec c::bH l).dropWhile p=_
    rw [List.dropWhile_cons,List.dropWhile_cons]
    cases h : p (UInt8.ofBitVec c) with
    | true=>exact o4 p l
    | false=>rfl
theorem sD (l : List By) : (bH l).reverse=bH l.reverse:=by unfold bH;rw [List.map_reverse]
theorem vU (c : By) : (bH [32,9]).contains (UInt8.ofBitVec c)=bl c:=by
  have h : ∀ c : Fin 256,(bH [32,9]).contains (UInt8.ofBitVec (BitVec.ofNat 8 c.val))=bl (BitVec.ofNat 8 c.val):=by decide +kernel
  simpa using h ⟨c.toNat,c.isLt⟩
theorem o5 (l : List By) : Go.Lib.trimLeftS (bH l) (bH [32,9])=bH (bO l):=by
  unfold Go.Lib.trimLeftS
  rw [o4]
  congr 1
  unfold bO
  congr 1
  funext c
  exact vU c
def jP (v : List By) : List By:=(bO v.reverse).reverse
theorem ld (c : By) (r : List By) : jP (c::r)=if jP r=[]∧bl c=true then [] else c::jP r:=by
  unfold jP bO
  rw [List.reverse_cons,List.dropWhile_append]
  by_cases h : (r.reverse.dropWhile bl)=[]
  · rw [h]
    cases hc : bl c <;> simp [hc]
  · have h2 : (r.reverse.dropWhile bl).isEmpty=false:=by simpa using h
    rw [h2,if_neg (by decide),if_neg (by rintro ⟨k,_⟩;exact h (by simpa using k)),List.reverse_append]
    rfl
theorem mC : ∀ v : List By,bO (jP v)=jP (bO v)
  | []=>rfl
  | c::r=>by
    have ih:=mC r
    rw [ld]
    cases hc : bl c with
    | true=>
      have e : bO (c::r)=bO r:=by simp [bO,hc]
      rw [e,← ih]
      by_cases h : jP r=[]
      · rw [if_pos ⟨h,rfl⟩,h]
      · rw [if_neg (fun k=>h k.1)]
        simp [bO,hc]
    | false=>
      have e : bO (c::r)=c::r:=by simp [bO,hc]
      rw [if_neg (by rintro ⟨_,k⟩;cases k),e,ld,if_neg (by rintro ⟨_,k⟩;rw [hc] at k;cases k)]
      simp [bO,hc]
theorem yj (l : List By) : Go.Lib.trimS (bH l) (bH [32,9])=bH (trim l):=by
  have h1 : Go.Lib.trimRightS (bH l) (bH [32,9])=bH (jP l):=by
    unfold Go.Lib.trimRightS
    rw [sD]
    have:=o5 l.reverse
    unfold Go.Lib.trimLeftS at this
    rw [this,sD]
    rfl
  unfold Go.Lib.trimS
  rw [h1,o5,mC]
  rfl
def fi (c : By) (s : List By) : Nat:=(s.takeWhile (· != c)).length
theorem o6 (c : By) (s : List By) : fi c s≤s.length:=(List.takeWhile_sublist _).length_le
theorem eG (c d : By) (r : List By) : fi c (d::r)=if d=c then 0 else fi c r+1:=by
  unfold fi
  rw [List.takeWhile_cons]
  by_cases h : d=c
  · simp [h]
  · simp [h]
theorem vV : ∀ (c : By) (s : List By),fi c s<s.length→s.getD (fi c s) 0=c
  | c,[],h=>by simp [fi] at h
  | c,d::r,h=>by
    rw [eG] at h ⊢
    by_cases hd : d=c
    · rw [if_pos hd];exact hd
    · rw [if_neg hd] at h ⊢
      exact vV c r (by simpa using h)
theorem gU : ∀ (c : By) (s : List By) {j : Nat},j<fi c s→¬ s.getD j 0=c
  | c,[],j,h=>by simp [fi] at h
  | c,d::r,j,h=>by
    rw [eG] at h
    by_cases hd : d=c
    · rw [if_pos hd] at h;omega
    · rw [if_neg hd] at h
      cases j with
      | zero=>exact hd
      | succ j=>exact gU c r (by omega)
theorem zj (c : By) (s : List By) : fi c s<s.length↔c ∈ s:=by
  induction s with
  | nil=>simp [fi]
  | cons d r ih=>
    rw [eG]
    by_cases h : d=c
    · simp [h]
    · have h' : ¬ c=d:=fun e=>h e.symm
      rw [if_neg h,List.length_cons,List.mem_cons]
      constructor
      · intro k;exact .inr (ih.1 (by omega))
      · rintro (k | k)
        · exact absurd k h'
        · have:=ih.2 k;omega
def jk (c : By) (s : List By) : Int:=if fi c s<s.length then (fi c s : Int) else -1
theorem ym (s : List By) {i : Nat} (h : i<s.length) : (bz s)[i]! = UInt8.ofBitVec (s.getD i 0):=by
  have hs : i<(bz s).size:=by rw [bt];exact h
  rw [getElem!_pos (bz s) i hs]
  show (bz s).data[i]'_=_
  show ((bH s).toArray)[i]'_=_
  simp [bH,List.getD_eq_getElem?_getD,List.getElem?_eq_getElem h]
theorem vW (s : List By) (c : By) : firstIdx (bz s) ((c.toNat : Int)).toNat.toUInt8=jk c s:=by
  have hc : ((c.toNat : Int)).toNat.toUInt8=UInt8.ofBitVec c:=by
    rw [Int.toNat_natCast]
    apply UInt8.toBitVec_inj.1
    apply BitVec.eq_of_toNat_eq
    simp [Nat.toUInt8,UInt8.ofNat]
  rw [hc]
  unfold firstIdx
  rw [bt]
  have hp : ∀ i,i<s.length→((bz s)[i]! == UInt8.ofBitVec c)=decide (s.getD i 0=c):=by
    intro i hi
    rw [ym s hi]
    by_cases h : s.getD i 0=c
    · rw [h];simp
    · rw [decide_eq_false h]
      refine beq_eq_false_iff_ne.2 fun k=>h ?_
      have:=congrArg UInt8.toBitVec k
      exact this
  unfold jk
  by_cases h : fi c s<s.length
  · rw [if_pos h]
    have hf : (List.range s.length).find? (fun i=>(bz s)[i]! == UInt8.ofBitVec c)=some (fi c s):=by
      rw [List.find?_range_eq_some]
      refine ⟨?_,by simpa using h,?_⟩
      · rw [hp _ h,decide_eq_true (vV c s h)]
      · intro j hj
        rw [hp j (by omega),decide_eq_false (gU c s hj)]
        rfl
    rw [hf]
  · rw [if_neg h]
    have hf : (List.range s.length).find? (fun i=>(bz s)[i]! == UInt8.ofBitVec c)=none:=by
      rw [List.find?_range_eq_none]
      intro j hj
      have:=o6 c s
      rw [hp j hj,decide_eq_false (gU c s (by omega))]
      rfl
    rw [hf]
def la (c : By) (s : List By) : Nat:=(s.reverse.takeWhile fun d=>!(d == c)).length
def tP (c : By) (s : List By) : Int:=(s.length : Int) - 1 - la c s
theorem yo (c : By) (s : List By) (d : By) : la c (s++[d])=if d=c then 0 else la c s+1:=by
  unfold la
  rw [List.reverse_append,List.reverse_singleton,List.singleton_append,List.takeWhile_cons]
  by_cases h : d=c
  · simp [h]
  · simp [h]
theorem AZ (c : By) (s : List By) : la c s≤s.length:=by
  unfold la
  have:=(List.takeWhile_sublist (fun d=>!(d == c)) (l:=s.reverse)).length_le
  simpa using this
theorem A3 (c : By) (s : List By) : la c s<s.length↔c ∈ s:=by
  have h:=zj c s.reverse
  have e : fi c s.reverse=la c s:=by
    unfold fi la
    congr 1
  rw [e] at h
  simpa using h
end aI
end
section
set_option maxRecDepth 10000
open Sl aI Go.Shelf
theorem mD {w w' : World} (h : RowKit.Below w.heap.size w w') : Ext w w':=⟨h.os,h.tape,h.output,h.size,fun k hk _=>h.block k hk⟩
theorem vX : (Tryz.prog.info? 264).map (fun i=>(i.zero,i.size))=some (some (.agg (Array.replicate 256 (.bool false))),256):=by kernel_rfl
theorem qZ : ∀ (j : Nat) b,(bz [32,9]).data.toList[j]?=some b→b.toNat<128:=ascii_of_all (by decide)
def o7 : Ren:=⟨fun | 160=>177 | 232=>212 | 231=>211 | 227=>213 | 234=>215 | 233=>214 | 236=>217 | 235=>216 | 228=>243 | 271=>245 | 151=>244 | 197=>165 | 120=>266 | 152=>265 | 260=>196 | 137=>269 | 119=>278 | 224=>184 | 225=>198 | 217=>197 | 266=>232 | n=>n,
  fun | 9=>9 | 4=>4 | 3=>3 | 5=>5 | 117=>265 | 116=>264 | 0=>0 | 124=>268 | 21=>21 | 105=>225 | 46=>189 | 119=>280 | 139=>283 | 138=>282 | n=>n,
  fun | 3=>3 | 4=>4 | n=>n⟩
theorem vY : Lays.n160 Tryz.prog o7:={
  mixed:=by kernel_rfl
  f119:=Tryz.func278.trans (congrArg some (by kernel_rfl))
  f120:=Tryz.func266.trans (congrArg some (by kernel_rfl))
  f137:=Tryz.func269.trans (congrArg some (by kernel_rfl))
  f151:=Tryz.func244.trans (congrArg some (by kernel_rfl))
  f152:=Tryz.func265.trans (congrArg some (by kernel_rfl))
  f160:=Tryz.func177.trans (congrArg some (by kernel_rfl))
  f197:=Tryz.func165.trans (congrArg some (by kernel_rfl))
  f217:=Tryz.func197.trans (congrArg some (by kernel_rfl))
  f224:=Tryz.func184.trans (congrArg some (by kernel_rfl))
  f225:=Tryz.func198.trans (congrArg some (by kernel_rfl))
  f227:=Tryz.func213.trans (congrArg some (by kernel_rfl))
  f228:=Tryz.func243.trans (congrArg some (by kernel_rfl))
  f231:=Tryz.func211.trans (congrArg some (by kernel_rfl))
  f232:=Tryz.func212.trans (congrArg some (by kernel_rfl))
  f233:=Tryz.func214.trans (congrArg some (by kernel_rfl))
  f234:=Tryz.func215.trans (congrArg some (by kernel_rfl))
  f235:=Tryz.func216.trans (congrArg some (by kernel_rfl))
  f236:=Tryz.func217.trans (congrArg some (by kernel_rfl))
  f260:=Tryz.func196.trans (congrArg some (by kernel_rfl))
  f266:=Tryz.func232.trans (congrArg some (by kernel_rfl))
  f271:=Tryz.func245.trans (congrArg some (by kernel_rfl))
  t0:=Tryz.underlying0
  a0:=Tryz.isAgg0
  z0:=Tryz.sizeOf0
  v0:=Tryz.zeroValue0
  t3:=Tryz.underlying3
  a3:=Tryz.isAgg3
  z3:=Tryz.sizeOf3
  v3:=Tryz.zeroValue3
  t4:=Tryz.underlying4
  a4:=Tryz.isAgg4
  z4:=Tryz.sizeOf4
  v4:=Tryz.zeroValue4
  t5:=Tryz.underlying5
  a5:=Tryz.isAgg5
  z5:=Tryz.sizeOf5
  v5:=Tryz.zeroValue5
  t9:=Tryz.underlying9
  a9:=Tryz.isAgg9
  z9:=Tryz.sizeOf9
  v9:=Tryz.zeroValue9
  t21:=Tryz.underlying21
  a21:=Tryz.isAgg21
  z21:=Tryz.sizeOf21
  v21:=Tryz.zeroValue21
  t46:=Tryz.underlying189
  a46:=Tryz.isAgg189
  z46:=Tryz.sizeOf189
  v46:=Tryz.zeroValue189
  t105:=Tryz.underlying225
  a105:=Tryz.isAgg225
  z105:=Tryz.sizeOf225
  v105:=Tryz.zeroValue225
  t116:=Tryz.underlying264
  a116:=Tryz.isAgg264
  z116:=Tryz.sizeOf264
  t117:=Tryz.underlying265
  a117:=Tryz.isAgg265
  z117:=Tryz.sizeOf265
  v117:=Tryz.zeroValue265
  t119:=Tryz.underlying280
  a119:=Tryz.isAgg280
  z119:=Tryz.sizeOf280
  t124:=Tryz.underlying268
  a124:=Tryz.isAgg268
  z124:=Tryz.sizeOf268
  v124:=Tryz.zeroValue268
  t138:=Tryz.underlying282
  a138:=Tryz.isAgg282
  z138:=Tryz.sizeOf282
  v138:=Tryz.zeroValue282
  t139:=Tryz.underlying283
  a139:=Tryz.isAgg283
  z139:=Tryz.sizeOf283
  v139:=Tryz.zeroValue283
  g3:=by kernel_rfl
  g4:=by kernel_rfl }
theorem iG : aO Tryz.prog 177:=⟨_,Tryz.func177,rfl,by kernel_rfl⟩
theorem mE (s : List Bt) (w : World) (hl : s.length<9223372036854775808) : Calls Tryz.prog 177 [Z s,Z [32,9]].toArray w fun e w'=>e=.returned (Z (trim s))∧Ext w w':=
  (Any.strings_Trim_laid vY vX (bz s) (bz [32,9]) w (by rw [bt];omega) (by decide) qZ).mono fun e w' ⟨h1,h2⟩=>⟨by
    rw [h1,eK,eK,yj,sC],mD h2⟩
structure nD (P : Program) (f : FuncId) : Prop where
  go : ∃ fn,P.funcs[f]?=some fn∧(fn.name == "runtime.NumGoroutine")=false∧fn.body.isNone=true∧Extern.findNext fn=none∧Extern.find fn=some Extern.BytealgIndexByte.indexByte
theorem OQ.idxs {P : Program} {n : Nat} {E : Env} {C : World→Prop} {dst : Option Tmp} {ty : TypeId} {pos : String} {aft : Array Edge} {g : Option (Nat × Bool)} {f : FuncId} {ats : Array TypeId} {x y : Operand} {s : List Bt} {c : Bt} (hf : nD P f) (hx : ev E x=some (Z s)) (hy : ev E y=some (U8 c)) :
    OQ P n E C ⟨dst,.call ⟨.value (.func f),#[x,y],ats⟩,ty,pos,aft,g⟩ (I (jk c s)):=by
  refine ⟨fun ac hk w hw=>?_⟩
  obtain ⟨fn,h1,h2,h3,h4,h5⟩:=hf.go
  have r:=run_callFunc_extern h1 h2 h3 h4 h5 #[Z s,U8 c] w
  rw [run_indexByte_string,vW] at r
  unfold Oper.quietAt
  have r' : (execOp ac.eval ⟨dst,.call ⟨.value (.func f),#[x,y],ats⟩,ty,pos,aft,g⟩).run P w=.ok (.value (I (jk c s))) w:=by
    simp only [Result.andThen] at r
    have k1:=hk.eval hx
    have k2:=hk.eval hy
    have e : (.ok (.value (I (jk c s))) w : Result Next)=(callFunc f #[Z s,U8 c]).run P w:=r.symm
    rw [e]
    simp [execOp,resolve,Sem.run_bind,Act.eval,Deferred.ofValue,invoke,k1,k2]
    simp [Act.eval] at k1 k2
    simp [k1,k2]
  rw [r']
  exact ⟨rfl,rfl⟩
theorem yp : nD Tryz.prog 232:=⟨_,Tryz.func232,rfl,rfl,by kernel_rfl,by kernel_rfl⟩
theorem mF : aO Tryz.prog 197:=⟨_,Tryz.func197,rfl,by kernel_rfl⟩
theorem tQ : aO Tryz.prog 269:=⟨_,Tryz.func269,rfl,by kernel_rfl⟩
theorem o8 (s : List Bt) (c : Bt) (w : World) : Calls Tryz.prog 197 [Z s,U8 c].toArray w fun e w'=>e=.returned (I (jk c s))∧Ext w w':=by
  refine enter (n:=8) Tryz.func197 rfl rfl rfl (aa.start w []) ?_
  repeat (first | refine JL.q (by first|(apply OQ.idxs;exact yp;rfl;rfl)|(apply OQ.move;rfl)|(apply OQ.assign;rfl)) rfl ?_ | refine JC.seq ?_ | refine JC.region ?_ | refine JL.nil ?_ | refine JE.next ?_)
  exact JC.ret (JE.aC rfl (RV.tmp rfl) fun w' hw=>⟨rfl,hw.aS⟩)
theorem vZ (s : List Bt) (c : Bt) (w : World) : Calls Tryz.prog 269 [Z s,U8 c].toArray w fun e w'=>e=.returned (I (jk c s))∧Ext w w':=by
  refine enter (n:=8) Tryz.func269 rfl rfl rfl (aa.start w []) ?_
  repeat (first | refine JL.q (by first|(apply OQ.an;exact mF;rfl;exact (fun w' _=>o8 s c w'))|(apply OQ.move;rfl)|(apply OQ.assign;rfl)) rfl ?_ | refine JC.seq ?_ | refine JC.region ?_ | refine JL.nil ?_ | refine JE.next ?_)
  exact JC.ret (JE.aC rfl (RV.tmp rfl) fun w' hw=>⟨rfl,hw.aS⟩)
theorem jQ : aO Tryz.prog 167:=⟨_,Tryz.func167,rfl,by kernel_rfl⟩
theorem mG : aO Tryz.prog 220:=⟨_,Tryz.func220,rfl,by kernel_rfl⟩
theorem dJ : aO Tryz.prog 180:=⟨_,Tryz.func180,rfl,by kernel_rfl⟩
theorem yq (c : Bt) : jk c [c]=0:=by simp [jk,fi]
theorem lf (s : List Bt) (c : Bt) (w : World) : Calls Tryz.prog 167 [Z s,Z [c]].toArray w fun e w'=>e=.returned (I (jk c s))∧Ext w w':=by
  refine enter (n:=143) Tryz.func167 rfl rfl rfl (aa.start w []) ?_
  cases h : decide ([c]=s)
  · repeat (first | refine JL.q (by first|(apply OQ.bC;exact Tryz.underlying9;rfl)|(apply OQ.gj (a:=1) (b:=0);rfl;rfl;rfl)|(apply OQ.fX;rfl;rfl;exact h)|(apply OQ.au;rfl;rfl)|(apply OQ.move;rfl)|(apply OQ.assign;rfl)) rfl ?_ | refine JC.seq ?_ | refine JC.region ?_ | refine JC.block ?_ | refine JL.nil ?_ | refine JE.next ?_ | refine JL.aU rfl rfl ?_)
    refine JC.cond rfl (fun h=>by cases h) (fun _=>?_)
    repeat (first | refine JL.q (by first|(apply OQ.gj (a:=1) (b:=1);rfl;rfl;rfl)|(apply OQ.move;rfl)|(apply OQ.assign;rfl)) rfl ?_ | refine JC.seq ?_ | refine JC.region ?_ | refine JL.nil ?_ | refine JE.next ?_)
    refine JC.cond rfl (fun _=>?_) (fun h=>by cases h)
    repeat (first | refine JL.q (by first|(apply OQ.jZ (l:=[c]) (i:=0);exact Tryz.underlying9;rfl;rfl;exact (Nat.zero_lt_succ 0))|(apply OQ.an (vs:=[Z s,U8 c]);exact mF;rfl;exact (fun w' _=>o8 s c w'))|(apply OQ.move;rfl)|(apply OQ.assign;rfl)) rfl ?_ | refine JC.seq ?_ | refine JC.region ?_ | refine JL.nil ?_ | refine JE.next ?_)
    refine JC.ret ?_
    repeat (first | refine JE.ah ?_ | refine JE.aW ?_)
    exact JE.aC rfl (RV.tmp rfl) fun w' hw=>⟨rfl,hw.aS⟩
  · obtain rfl:=of_decide_eq_true h
    rw [yq]
    repeat (first | refine JL.q (by first|(apply OQ.bC;exact Tryz.underlying9;rfl)|(apply OQ.gj (a:=1) (b:=0);rfl;rfl;rfl)|(apply OQ.fX;rfl;rfl;exact h)|(apply OQ.au;rfl;rfl)|(apply OQ.move;rfl)|(apply OQ.assign;rfl)) rfl ?_ | refine JC.seq ?_ | refine JC.region ?_ | refine JC.block ?_ | refine JL.nil ?_ | refine JE.next ?_ | refine JL.aU rfl rfl ?_)
    refine JC.cond rfl (fun _=>?_) (fun h=>by cases h)
    repeat (first | refine JL.q (by (apply OQ.assign;rfl)) rfl ?_ | refine JC.seq ?_ | refine JC.region ?_ | refine JL.nil ?_ | refine JE.next ?_)
    refine JC.ret ?_
    repeat (first | refine JE.ah ?_ | refine JE.aW ?_)
    exact JE.aC rfl (RV.tmp rfl) fun w' hw=>⟨rfl,hw.aS⟩
def cutV (c : Bt) (s : List Bt) : Value:=if fi c s<s.length then .tuple #[Z (s.take (fi c s)),Z (s.drop (fi c s+1)),.bool true] else .tuple #[Z s,Z [],.bool false]
theorem v7 (s : List Bt) (c : Bt) (w : World) (hl : s.length<9223372036854775807) : Calls Tryz.prog 220 [Z s,Z [c]].toArray w fun e w'=>e=.returned (cutV c s)∧Ext w w':=by
  refine enter (n:=23) Tryz.func220 rfl rfl rfl (aa.start w []) ?_
  by_cases h : fi c s<s.length
  · have e1 : jk c s=(fi c s : Nat):=if_pos h
    have hq : ∀ w',Calls Tryz.prog 167 [Z s,Z [c]].toArray w' fun e w2=>e=.returned (N (fi c s))∧Ext w' w2:=fun w'=>by
      have:=lf s c w'
      rw [e1] at this
      exact this
    have hle : fi c s≤s.length:=by omega
    have hle1 : fi c s+1≤s.length:=h
    rw [show cutV c s=_ from if_pos h]
    generalize fi c s=k at hq hle hle1
    repeat (first | refine JL.q (by first|(apply OQ.an (vs:=[Z s,Z [c]]);exact jQ;rfl;exact (fun w' _=>hq w'))|(apply OQ.move;rfl)|(apply OQ.assign;rfl)) rfl ?_ | refine JC.seq ?_ | refine JC.region ?_ | refine JL.nil ?_ | refine JE.next ?_)
    repeat (first | refine JL.q (by (apply OQ.AJ;rfl;rfl)) rfl ?_ | refine JL.nil ?_ | refine JE.next ?_)
    refine JC.cond_true rfl (decide_eq_true (Nat.zero_le _)) ?_
    refine JC.seq (JC.quiet fD (by kernel_rfl) ?_)
    repeat (refine JQ.q (by first|(apply OQ.dx;exact Tryz.underlying9;rfl;rfl;exact hle)|(apply OQ.bC;exact Tryz.underlying9;rfl)|(apply OQ.aT (b:=1);rfl;rfl;exact (by omega))|(apply OQ.cc;exact Tryz.underlying9;rfl;rfl;exact hle1)|(apply OQ.move;rfl)|(apply OQ.assign;rfl)) rfl ?_)
    refine JQ.nil (JE.next ?_)
    refine JC.ret ?_
    repeat (refine JE.ah ?_)
    exact JE.oV rfl (RV.tmp rfl) (RV.tmp rfl) (RV.tmp rfl) fun w' hw=>⟨rfl,hw.aS⟩
  · have e1 : jk c s=-1:=if_neg h
    have hq : ∀ w',Calls Tryz.prog 167 [Z s,Z [c]].toArray w' fun e w2=>e=.returned (I (-1))∧Ext w' w2:=fun w'=>by
      have:=lf s c w'
      rw [e1] at this
      exact this
    rw [show cutV c s=_ from if_neg h]
    repeat (first | refine JL.q (by first|(apply OQ.an (vs:=[Z s,Z [c]]);exact jQ;rfl;exact (fun w' _=>hq w'))|(apply OQ.move;rfl)|(apply OQ.assign;rfl)) rfl ?_ | refine JC.seq ?_ | refine JC.region ?_ | refine JL.nil ?_ | refine JE.next ?_)
    repeat (first | refine JL.q (by (apply OQ.dK (a:=-1) (b:=0);rfl;rfl;rfl)) rfl ?_ | refine JL.nil ?_ | refine JE.next ?_)
    refine JC.cond_false rfl rfl ?_
    repeat (first | refine JL.q (by first|(apply OQ.move;rfl)|(apply OQ.assign;rfl)) rfl ?_ | refine JC.seq ?_ | refine JC.region ?_ | refine JC.skip ?_ | refine JL.nil ?_ | refine JE.next ?_)
    refine JC.ret ?_
    skip
    exact JE.oV rfl (RV.tmp rfl) (RV.tmp rfl) (RV.tmp rfl) fun w' hw=>⟨rfl,hw.aS⟩
theorem o9 (s : List Bt) (c : Bt) (w : World) (hl : s.length<9223372036854775807) : Calls Tryz.prog 180 [Z s,Z [c]].toArray w fun e w'=>e=.returned (cutV c s)∧Ext w w':=by
  refine enter (n:=13) Tryz.func180 rfl rfl rfl (aa.start w []) ?_
  have hq:=fun w'=>v7 s c w' hl
  unfold cutV at hq ⊢
  by_cases h : fi c s<s.length
  · simp only [h,if_true] at hq ⊢
    repeat (first | refine JL.q (by first|(apply OQ.an (vs:=[Z s,Z [c]]);exact mG;rfl;exact (fun w' _=>hq w'))|(apply OQ.extract;rfl;rfl)|(apply OQ.move;rfl)|(apply OQ.assign;rfl)) rfl ?_ | refine JC.seq ?_ | refine JC.region ?_ | refine JL.nil ?_ | refine JE.next ?_)
    exact JC.ret (JE.oV rfl (RV.tmp rfl) (RV.tmp rfl) (RV.tmp rfl) fun w' hw=>⟨rfl,hw.aS⟩)
  · simp only [h,if_false] at hq ⊢
    repeat (first | refine JL.q (by first|(apply OQ.an (vs:=[Z s,Z [c]]);exact mG;rfl;exact (fun w' _=>hq w'))|(apply OQ.extract;rfl;rfl)|(apply OQ.move;rfl)|(apply OQ.assign;rfl)) rfl ?_ | refine JC.seq ?_ | refine JC.region ?_ | refine JL.nil ?_ | refine JE.next ?_)
    exact JC.ret (JE.oV rfl (RV.tmp rfl) (RV.tmp rfl) (RV.tmp rfl) fun w' hw=>⟨rfl,hw.aS⟩)
end
section
namespace Tok
open aI
end Tok
end
section
namespace Tok
open aI
end Tok
end
section
namespace Tok
open aI
end Tok
end
section
namespace Tok
open aI
def bM : List aI.By→Nat→Nat→Except Nat Nat
  | [],_,_=>.error 3
  | c::r,d,k=>
    if c=40 then (if 8<d then .error 5 else bM r (d+1) (k+1))
    else if c=41 then (if d - 1=0 then .ok (k+1) else bM r (d - 1) (k+1))
    else if c=92 then
      match r with
      | []=>.error 3
      | _::r'=>bM r' d (k+2)
    else bM r d (k+1)
theorem gV (r : List aI.By) (d k : Nat) : bM (40::r) d k=if 8<d then .error 5 else bM r (d+1) (k+1):=by
  rw [bM.eq_def];rfl
theorem ke (r : List aI.By) (d k : Nat) : bM (41::r) d k=if d - 1=0 then .ok (k+1) else bM r (d - 1) (k+1):=by
  rw [bM.eq_def];rfl
theorem lg (d k : Nat) : bM [92] d k=.error 3:=by rw [bM.eq_def];rfl
theorem nE (c : aI.By) (r : List aI.By) (d k : Nat) : bM (92::c::r) d k=bM r d (k+2):=by
  conv=>lhs;rw [bM.eq_def]
  rfl
theorem q4 {c : aI.By} (h1 : ¬ c=40) (h2 : ¬ c=41) (h3 : ¬ c=92) (r : List aI.By) (d k : Nat) : bM (c::r) d k=bM r d (k+1):=by
  conv=>lhs;rw [bM.eq_def]
  dsimp only
  rw [if_neg h1,if_neg h2,if_neg h3]
theorem jB (d k : Nat) : bM [] d k=.error 3:=by rw [bM.eq_def]
theorem mH : ∀ (n : Nat) (r : List aI.By) (d k : Nat) (o : List aI.By),r.length≤n→0<d→
    (∀ e,bM r d k=.error e→aX r d false o=([],e))∧(∀ m,bM r d k=.ok m→k<m∧m≤k+r.length∧aX r d false o=aX (r.drop (m - k)) 0 false (o++[32])):=by
  intro n
  induction n with
  | zero=>
    intro r d k o h hd
    obtain rfl : r=[]:=List.eq_nil_of_length_eq_zero (by omega)
    rw [jB,dn]
    refine ⟨fun e he=>?_,fun m hm=>by cases hm⟩
    cases he
    rw [decide_eq_true (by omega),Bool.true_or,if_pos rfl]
  | succ n ih=>
    intro r d k o h hd
    match r,h with
    | [],_=>
      rw [jB,dn]
      refine ⟨fun e he=>?_,fun m hm=>by cases hm⟩
      cases he
      rw [decide_eq_true (by omega),Bool.true_or,if_pos rfl]
    | c::r,h=>
      simp only [List.length_cons] at h ⊢
      have step : ∀ (r' : List aI.By) (j d' : Nat) (o' : List aI.By),r'.length≤n→0<d'→(∀ x,(c::r).drop (j+x)=r'.drop x)→j+r'.length=r.length+1→0<j→o'=o→aX (c::r) d false o=aX r' d' false o'→
          bM (c::r) d k=bM r' d' (k+j)→
          (∀ e,bM (c::r) d k=.error e→aX (c::r) d false o=([],e))∧(∀ m,bM (c::r) d k=.ok m→k<m∧m≤k+(r.length+1)∧aX (c::r) d false o=aX ((c::r).drop (m - k)) 0 false (o++[32])):=by
        intro r' j d' o' hl hd' hdr hjl hj ho hb hc
        subst ho
        obtain ⟨i1,i2⟩:=ih r' d' (k+j) o' hl hd'
        rw [hb,hc]
        refine ⟨i1,fun m hm=>?_⟩
        obtain ⟨a1,a2,a3⟩:=i2 m hm
        refine ⟨by omega,by omega,?_⟩
        rw [a3,show m - k=j+(m - (k+j)) by omega,hdr]
      by_cases h40 : c=40
      · subst h40
        by_cases h8 : 8<d
        · rw [gV,if_pos h8]
          refine ⟨fun e he=>?_,fun m hm=>by cases hm⟩
          cases he
          rw [iM,if_pos (by omega)]
        · exact step r 1 (d+1) o (by omega) (by omega) (fun x=>by rw [Nat.add_comm];rfl) (by omega) (by omega) rfl (by rw [iM,if_neg (by omega)]) (by rw [gV,if_neg h8])
      · by_cases h41 : c=41
        · subst h41
          by_cases h1 : d - 1=0
          · rw [ke,if_pos h1]
            refine ⟨fun e he=>by (cases he),fun m hm=>?_⟩
            cases hm
            refine ⟨by omega,by omega,?_⟩
            rw [j4,if_neg (by omega),if_pos h1,h1,show k+1 - k=1 by omega]
            rfl
          · exact step r 1 (d - 1) o (by omega) (by omega) (fun x=>by rw [Nat.add_comm];rfl) (by omega) (by omega) rfl (by rw [j4,if_neg (by omega),if_neg h1]) (by rw [ke,if_neg h1])
        · by_cases h92 : c=92
          · subst h92
            match r,h with
            | [],_=>
              rw [lg,jn hd]
              exact ⟨fun e he=>by cases he;rfl,fun m hm=>by cases hm⟩
            | c2::r,h=>
              simp only [List.length_cons] at h
              exact step r 2 d o (by omega) hd (fun x=>by rw [Nat.add_comm];rfl) (by simp only [List.length_cons];omega) (by omega) rfl (kD hd c2 r o) (nE c2 r d k)
          · exact step r 1 d o (by omega) hd (fun x=>by rw [Nat.add_comm];rfl) (by omega) (by omega) rfl (vq h92 h40 h41 (by omega) r o) (q4 h40 h41 h92 r d k)
def bD : List aI.By→Nat→Nat
  | [],_=>0
  | c::r,k=>
    if c=92 then
      match r with
      | []=>0
      | _::r'=>bD r' (k+2)
    else if c=34 then k+1 else bD r (k+1)
theorem nF (k : Nat) : bD [] k=0:=by rw [bD.eq_def]
theorem sE (r : List aI.By) (k : Nat) : bD (34::r) k=k+1:=by rw [bD.eq_def];rfl
theorem pe (k : Nat) : bD [92] k=0:=by rw [bD.eq_def];rfl
theorem sF (c : aI.By) (r : List aI.By) (k : Nat) : bD (92::c::r) k=bD r (k+2):=by
  conv=>lhs;rw [bD.eq_def]
  rfl
theorem v8 {c : aI.By} (h1 : ¬ c=34) (h2 : ¬ c=92) (r : List aI.By) (k : Nat) : bD (c::r) k=bD r (k+1):=by
  conv=>lhs;rw [bD.eq_def]
  dsimp only
  rw [if_neg h2,if_neg h1]
theorem mI : ∀ (n : Nat) (r : List aI.By) (k : Nat) (o : List aI.By),r.length≤n→
    (bD r k=0→aX r 0 true o=([],3))∧(bD r k≠0→k<bD r k∧bD r k≤k+r.length∧aX r 0 true o=aX (r.drop (bD r k - k)) 0 false (o++r.take (bD r k - k))):=by
  intro n
  induction n with
  | zero=>
    intro r k o h
    obtain rfl : r=[]:=List.eq_nil_of_length_eq_zero (by omega)
    rw [nF,dn]
    exact ⟨fun _=>rfl,fun h=>absurd rfl h⟩
  | succ n ih=>
    intro r k o h
    match r,h with
    | [],_=>
      rw [nF,dn]
      exact ⟨fun _=>rfl,fun h=>absurd rfl h⟩
    | c::r,h=>
      simp only [List.length_cons] at h ⊢
      by_cases h92 : c=92
      · subst h92
        match r,h with
        | [],_=>
          rw [pe,jm]
          exact ⟨fun _=>rfl,fun h=>absurd rfl h⟩
        | c2::r,h=>
          simp only [List.length_cons] at h ⊢
          obtain ⟨i1,i2⟩:=ih r (k+2) (o++[92]++[c2]) (by omega)
          rw [sF,kC]
          refine ⟨i1,fun hn=>?_⟩
          obtain ⟨a1,a2,a3⟩:=i2 hn
          refine ⟨by omega,by omega,?_⟩
          rw [a3,show bD r (k+2) - k=(bD r (k+2) - (k+2))+1+1 by omega,List.drop_succ_cons,List.drop_succ_cons,List.take_succ_cons,List.take_succ_cons]
          simp
      · by_cases h34 : c=34
        · subst h34
          rw [sE]
          refine ⟨fun h=>absurd h (by omega),fun _=>⟨by omega,by omega,?_⟩⟩
          rw [nh (by decide),show k+1 - k=0+1 by omega,List.drop_succ_cons,List.take_succ_cons]
          rfl
        · obtain ⟨i1,i2⟩:=ih r (k+1) (o++[c]) (by omega)
          rw [v8 h34 h92,nh h92]
          have hb : (!(c == 34))=true:=by
            rw [Bool.not_eq_true',beq_eq_false_iff_ne]
            exact h34
          rw [hb]
          refine ⟨i1,fun hn=>?_⟩
          obtain ⟨a1,a2,a3⟩:=i2 hn
          refine ⟨by omega,by omega,?_⟩
          rw [a3,show bD r (k+1) - k=(bD r (k+1) - (k+1))+1 by omega,List.drop_succ_cons,List.take_succ_cons]
          simp
theorem tT {r : List aI.By} {e : Nat} (o : List aI.By) (h : bM (40::r) 0 0=.error e) : aX (40::r) 0 false o=([],e):=by
  rw [gV,if_neg (by omega)] at h
  rw [iM,if_neg (by omega)]
  exact (mH r.length r 1 1 o (Nat.le_refl _) (by omega)).1 e h
theorem nG {r : List aI.By} {m : Nat} (o : List aI.By) (h : bM (40::r) 0 0=.ok m) : 0<m∧m≤r.length+1∧aX (40::r) 0 false o=aX ((40::r).drop m) 0 false (o++[32]):=by
  rw [gV,if_neg (by omega)] at h
  rw [iM,if_neg (by omega)]
  obtain ⟨h1,h2,h3⟩:=(mH r.length r 1 1 o (Nat.le_refl _) (by omega)).2 m h
  refine ⟨by omega,by omega,?_⟩
  rw [h3]
  obtain ⟨m',rfl⟩ : ∃ m',m=m'+1:=⟨m - 1,by omega⟩
  rfl
theorem tU {r : List aI.By} (o : List aI.By) (h : bD r 1=0) : aX (34::r) 0 false o=([],3):=by
  rw [kE (by decide) (by decide)]
  exact (mI r.length r 1 _ (Nat.le_refl _)).1 h
theorem nH {r : List aI.By} (o : List aI.By) (h : bD r 1≠0) : 1<bD r 1∧bD r 1≤r.length+1∧aX (34::r) 0 false o=aX ((34::r).drop (bD r 1)) 0 false (o++(34::r).take (bD r 1)):=by
  rw [kE (by decide) (by decide)]
  obtain ⟨h1,h2,h3⟩:=(mI r.length r 1 (o++[34]) (Nat.le_refl _)).2 h
  refine ⟨h1,by omega,?_⟩
  show aX r 0 true (o++[34])=_
  rw [h3]
  generalize bD r 1=m at h1 ⊢
  obtain ⟨m',rfl⟩ : ∃ m',m=m'+1:=⟨m - 1,by omega⟩
  simp
def jC (p : aI.By→Bool) (s : List aI.By) : Nat:=(s.takeWhile p).length
theorem jD (p : aI.By→Bool) (c : aI.By) (s : List aI.By) : jC p (c::s)=if p c then jC p s+1 else 0:=by
  unfold jC
  rw [List.takeWhile_cons]
  cases p c <;> simp
theorem tV (p : aI.By→Bool) : ∀ s : List aI.By,s.take (jC p s)=s.takeWhile p
  | []=>rfl
  | c::s=>by
    rw [jD,List.takeWhile_cons]
    cases p c with
    | true=>simp [tV p s]
    | false=>simp
theorem pg (p : aI.By→Bool) : ∀ s : List aI.By,(jC p s=s.length)↔s.all p=true
  | []=>by simp [jC]
  | c::s=>by
    rw [jD,List.all_cons,List.length_cons]
    have ih:=pg p s
    cases p c with
    | true=>simpa using ih
    | false=>simp
theorem we (s : List aI.By) : gh s=(decide (s≠[]) && decide (jC bV s=s.length)):=by
  unfold gh
  rw [Bool.eq_iff_iff,Bool.and_eq_true,Bool.and_eq_true,decide_eq_true_eq,decide_eq_true_eq,decide_eq_true_eq,pg,List.length_pos_iff]
  exact and_comm
end Tok
end
section
set_option maxRecDepth 10000
open Sl aI Tok
theorem wg : aO Tryz.prog 186:=⟨_,Tryz.func186,rfl,by kernel_rfl⟩
theorem pn : aO Tryz.prog 150:=⟨_,Tryz.func150,rfl,by kernel_rfl⟩
theorem pq : aO Tryz.prog 114:=⟨_,Tryz.func114,rfl,by kernel_rfl⟩
theorem cY {s : List aI.By} {i : Nat} (h : i<s.length) {n : Nat} {E : Env} {C : World→Prop} {dst : Option Tmp} {ty : TypeId} {pos : String} {aft : Array Edge} {g : Option (Nat × Bool)} {x y : Operand} (hx : ev E x=some (Z s)) (hy : ev E y=some (N i)) : OQ Tryz.prog n E C ⟨dst,.index 9 x y,ty,pos,aft,g⟩ (U8 (s.getD i 0)):=OQ.jZ Tryz.underlying9 hx hy h
theorem jE (c d : aI.By) : decide ((d.toNat : Int)=(c.toNat : Int))=(d == c):=by
  by_cases h : d=c
  · subst h;simp
  · rw [decide_eq_false (eC h)];simp [h]
set_option maxHeartbeats 8000000 in
theorem yt (c : aI.By) (s : List aI.By) (w : World) (hl : s.length<9223372036854775808) : Calls Tryz.prog 186 [U8 c,Z s].toArray w fun e w'=>e=.returned (.bool (AB c s))∧Ext w w':=by
  refine enter (n:=17) Tryz.func186 rfl rfl rfl (aa.start w []) ?_
  repeat (first | refine JL.q (by (apply OQ.assign;rfl)) rfl ?_ | refine JC.seq ?_ | refine JC.region ?_ | refine JC.block ?_ | refine JL.nil ?_ | refine JE.next ?_)
  refine JC.loop (fun i : Nat=>[(0,U8 c),(1,Z s),(5,N i)]) (fun _=>[]) (fun i=>s.length - i) (fun i=>i≤s.length∧AB c s=(s.drop i).any fun d=>d == c) 0 ⟨Nat.zero_le _,rfl⟩ (by repeat (first | exact af.nil | refine af.cons _ _ _ rfl ?_)) (aq.refl _) ?_
  rintro i ⟨hi,ha⟩
  repeat (first | refine JL.q (by first|(apply OQ.bC;exact Tryz.underlying9;rfl)|(apply OQ.move;rfl)|(apply OQ.dz;rfl;rfl)) rfl ?_ | refine JC.seq ?_ | refine JC.region ?_ | refine JL.nil ?_ | refine JE.next ?_)
  refine JC.cond rfl (fun h=>?_) (fun h=>?_)
  · have hi' : i<s.length:=of_decide_eq_true h
    clear h hi
    have hd : (s.drop i).any (fun d=>d == c)=((s.getD i 0 == c) || (s.drop (i+1)).any fun d=>d == c):=by
      rw [List.drop_eq_getElem_cons hi',List.any_cons,List.getD_eq_getElem?_getD,List.getElem?_eq_getElem hi']
      rfl
    have hidx:=fun {n : Nat} {E : Env} {C : World→Prop} {dst : Option Tmp} {ty : TypeId} {pos : String} {aft : Array Edge} {g : Option (Nat × Bool)} {x y : Operand}=>cY hi' (n:=n) (E:=E) (C:=C) (dst:=dst) (ty:=ty) (pos:=pos) (aft:=aft) (g:=g) (x:=x) (y:=y)
    have he:=jE c (s.getD i 0)
    generalize s.getD i 0=d at hidx hd he
    cases h1 : decide ((d.toNat : Int)=(c.toNat : Int))
    all_goals (rw [h1] at he;rw [hd,← he] at ha;repeat (first | refine JL.q (by first|(apply hidx;rfl;rfl)|(apply OQ.gj;rfl;rfl;exact h1)|(apply OQ.move;rfl)) rfl ?_ | refine JC.seq ?_ | refine JC.region ?_ | refine JC.block ?_ | refine JC.skip ?_ | refine JL.nil ?_ | refine JE.next ?_))
    all_goals refine JC.cond rfl (fun h=>?_) (fun h=>?_)
    all_goals first|(exfalso;revert h;decide) | skip
    all_goals (clear h)
    · repeat (first | refine JL.q (by first|(apply OQ.move;rfl)|(apply OQ.assign;rfl)|(apply OQ.aT;rfl;rfl;exact (by (try simp only []);omega))) rfl ?_ | refine JC.region ?_ | refine JC.skip ?_ | refine JL.nil ?_ | refine JE.next ?_ | refine JE.ag ?_)
      exact JE.again (i:=i) (i+1) ⟨hi',by rw [ha,Bool.false_or]⟩ (by omega) (by repeat (first | exact af.nil | refine af.cons _ _ _ rfl ?_)) (aq.refl _)
    · rw [ha,Bool.true_or]
      repeat (first | refine JL.q (by (apply OQ.assign;rfl)) rfl ?_ | refine JC.seq ?_ | refine JC.region ?_ | refine JL.nil ?_ | refine JE.next ?_)
      refine JC.ret ?_
      repeat (first | refine JE.ah ?_ | refine JE.aW ?_)
      exact JE.aC rfl (RV.tmp rfl) fun w' hw=>⟨rfl,hw.aS⟩
  · have hi' : ¬ i<s.length:=of_decide_eq_false h
    obtain rfl : i=s.length:=by omega
    rw [List.drop_length] at ha
    rw [ha]
    repeat (first | refine JL.q (by (apply OQ.assign;rfl)) rfl ?_ | refine JC.seq ?_ | refine JC.region ?_ | refine JC.exit ?_ | refine JL.nil ?_ | refine JE.next ?_ | refine JE.av ?_ | refine JE.aF ?_)
    refine JC.ret ?_
    exact JE.aC rfl (RV.tmp rfl) fun w' hw=>⟨rfl,hw.aS⟩
theorem BH (c : aI.By) : bV c=(decide (33≤(c.toNat : Int)) && decide ((c.toNat : Int)≤126) && !AB c spec):=by
  unfold bV
  congr 1
  congr 1
  · exact decide_eq_decide.2 (by omega)
  · exact decide_eq_decide.2 (by omega)
set_option maxHeartbeats 8000000 in
theorem q5 (c : aI.By) (w : World) : Calls Tryz.prog 150 [U8 c].toArray w fun e w'=>e=.returned (.bool (bV c))∧Ext w w':=by
  refine enter (n:=14) Tryz.func150 rfl rfl rfl (aa.start w []) ?_
  have cI:=fun w'=>yt c spec w' (by decide)
  rw [BH]
  generalize AB c spec=x at cI ⊢
  cases h1 : decide ((33 : Int)≤(c.toNat : Int)) <;> cases h2 : decide ((c.toNat : Int)≤126) <;> cases h3 : x
  all_goals subst h3
  all_goals (repeat (first | refine JL.q (by first|(apply OQ.mB (vs:=[U8 c,Z spec]);exact wg;rfl;exact cI;rfl)|(apply OQ.dK (b:=33);rfl;rfl;exact h1)|(apply OQ.oW (b:=126);rfl;rfl;exact h2)|(apply OQ.not;rfl)|(apply OQ.ay;rfl;rfl)|(apply OQ.au;rfl;rfl)|(apply OQ.move;rfl)|(apply OQ.assign;rfl)) rfl ?_ | refine JC.seq ?_ | refine JC.region ?_ | refine JL.nil ?_ | refine JE.next ?_ | refine JL.aU rfl rfl ?_ | refine JL.aM rfl rfl rfl rfl ?_))
  all_goals exact JC.ret (JE.aC rfl (RV.tmp rfl) fun w' hw=>⟨rfl,hw.aS⟩)
set_option maxHeartbeats 8000000 in
theorem q6 (s : List aI.By) (w : World) (hl : s.length<140737488351233) : Calls Tryz.prog 114 [Z s].toArray w fun e w'=>e=.returned (Z (s.map small))∧Ext w w':=by
  refine enter (n:=30) Tryz.func114 rfl rfl rfl (aa.start w []) ?_
  repeat (first | refine JL.q (by (apply OQ.assign;rfl)) rfl ?_ | refine JC.seq ?_ | refine JC.region ?_ | refine JL.nil ?_ | refine JE.next ?_)
  refine JL.so Tryz.underlying22 bQ rfl fun b0 _=>?_
  repeat (first | refine JL.q (by (apply OQ.assign;rfl)) rfl ?_ | refine JC.seq ?_ | refine JC.region ?_ | refine JC.block ?_ | refine JL.nil ?_ | refine JE.next ?_)
  refine JC.loop (fun q : Nat × Nat × Nat=>[(0,Z s),(3,.slice (some ⟨q.2.1,0,none⟩) q.1 q.2.2),(4,N q.1)]) (fun q=>[⟨q.2.1,Sl.aG 5 1 q.1 q.2.2 (((s.take q.1).map small).map U8),true⟩]) (fun q=>s.length - q.1) (fun q=>q.1≤s.length) (0,b0,0) (Nat.zero_le _) (by repeat (first | exact af.nil | refine af.cons _ _ _ rfl ?_)) (aq.refl _) ?_
  rintro ⟨i,b,cap⟩ hi
  simp only at hi
  dsimp only
  repeat (first | refine JL.q (by first|(apply OQ.bC;exact Tryz.underlying9;rfl)|(apply OQ.move;rfl)|(apply OQ.dz;rfl;rfl)) rfl ?_ | refine JC.seq ?_ | refine JC.region ?_ | refine JL.nil ?_ | refine JE.next ?_)
  refine JC.cond rfl (fun h=>?_) (fun h=>?_)
  · have hi' : i<s.length:=of_decide_eq_true h
    clear h hi
    have hx:=cx s hi'
    have hlen : ((s.take i).map small).length=i:=by rw [List.length_map,List.length_take];omega
    have hidx:=fun {n : Nat} {E : Env} {C : World→Prop} {dst : Option Tmp} {ty : TypeId} {pos : String} {aft : Array Edge} {g : Option (Nat × Bool)} {x y : Operand}=>cY hi' (n:=n) (E:=E) (C:=C) (dst:=dst) (ty:=ty) (pos:=pos) (aft:=aft) (g:=g) (x:=x) (y:=y)
    generalize s.getD i 0=c at hx hidx
    have hs : small c=if decide ((65 : Int)≤(c.toNat : Int)) && decide ((c.toNat : Int)≤90) then c+32 else c:=by
      unfold small
      by_cases h : 65≤c.toNat∧c.toNat≤90
      · rw [if_pos h,if_pos (by simp;omega)]
      · rw [if_neg h,if_neg (by simp;omega)]
    generalize hT : (s.take i).map small=T at hlen ⊢
    have hT2 : (s.take (i+1)).map small=T++[small c]:=by rw [hx,List.map_append,hT];rfl
    generalize small c=d at hs hT2
    cases h1 : decide ((65 : Int)≤(c.toNat : Int)) <;> cases h2 : decide ((c.toNat : Int)≤90)
    all_goals (
      rw [h1,h2] at hs
      (repeat (first | refine JL.q (by first|(apply hidx;rfl;rfl)|(apply OQ.dK (b:=65);rfl;rfl;exact h1)|(apply OQ.oW (b:=90);rfl;rfl;exact h2)|(apply OQ.ay;rfl;rfl)|(apply OQ.au;rfl;rfl)|(apply OQ.move;rfl)|(apply OQ.assign;rfl)) rfl ?_ | refine JC.seq ?_ | refine JC.region ?_ | refine JC.block ?_ | refine JC.skip ?_ | refine JL.nil ?_ | refine JE.next ?_ | refine JL.aU rfl rfl ?_ | refine JL.aM rfl rfl rfl rfl ?_))
      refine JC.join (ι:=Unit) (fun _=>[(0,Z s),(3,.slice (some ⟨b,0,none⟩) i cap),(4,N i),(5,U8 d)]) (fun _=>[⟨b,Sl.aG 5 1 i cap (T.map U8),true⟩]) (fun _=>True) ?_ ?_
      · subst hs
        refine JC.cond rfl (fun h=>?_) (fun h=>?_)
        all_goals first|(exfalso;revert h;decide) | skip
        all_goals (clear h;repeat (first | refine JL.q (by first|(apply OQ.AP (b:=32#8);rfl;rfl)|(apply OQ.move;rfl)|(apply OQ.assign;rfl)) rfl ?_ | refine JC.region ?_ | refine JC.skip ?_ | refine JL.nil ?_))
        all_goals exact JE.mid () trivial (by repeat (first | exact af.nil | refine af.cons _ _ _ rfl ?_)) (aq.refl _)
      · rintro ⟨⟩ _
        (repeat (first | refine JL.q (by (apply OQ.move;rfl)) rfl ?_ | refine JC.region ?_))
        refine JL.dQ (xs:=T.map U8) (fun b' cap'=>[⟨b',Sl.aG 5 1 (i+1) cap' (T.map U8++[U8 d]),true⟩]) Tryz.underlying22 bQ rfl rfl rfl rfl (fun _=>rfl) (by intro _ _;repeat (first | exact az.here | apply az.there)) (by omega) (by omega) rfl rfl fun bl b' cap'=>?_
        (repeat (first | refine JL.q (by first|(apply OQ.move;rfl)|(apply OQ.assign;rfl)|(apply OQ.aT;rfl;rfl;exact (by (try simp only []);omega))) rfl ?_ | refine JC.region ?_ | refine JL.nil ?_ | refine JE.next ?_ | refine JE.ag ?_))
        refine JE.again (i:=(i,b,cap)) (i+1,b',cap') hi' (by show s.length - (i+1)<s.length - i;omega) (by repeat (first | exact af.nil | refine af.cons _ _ _ rfl ?_)) (.keep _ _ _ _ _ _ (fun o h=>?_) (.nil _))
        dsimp only
        rw [hT2,List.map_append]
        exact h)
  · have hi' : ¬ i<s.length:=of_decide_eq_false h
    obtain rfl : i=s.length:=by omega
    clear h hi hi'
    rw [List.take_length]
    have hY : s.length=(s.map small).length:=(List.length_map _).symm
    generalize s.map small=Y at hY ⊢
    rw [hY]
    repeat (first | refine JL.q (by first|(apply OQ.qQ (s:=⟨some ⟨b,0,none⟩,cap,Y⟩);exact Tryz.underlying22;exact Tryz.underlying5;exact Tryz.underlying9;rfl;exact (fun w' hw'=>b8 hw' .here))|(apply OQ.move;rfl)|(apply OQ.assign;rfl)) rfl ?_ | refine JC.seq ?_ | refine JC.region ?_ | refine JC.exit ?_ | refine JL.nil ?_ | refine JE.next ?_ | refine JE.av ?_ | refine JE.aF ?_)
    refine JC.ret ?_
    skip
    exact JE.aC rfl (RV.tmp rfl) fun w' hw=>⟨rfl,hw.aS⟩
end
section
set_option maxRecDepth 10000
open Sl aI Tok
theorem OQ.dg {P : Program} {n : Nat} {E : Env} {C : World→Prop} {dst : Option Tmp} {t t' ty : TypeId} {pos : String} {aft : Array Edge} {g : Option (Nat × Bool)} {x y : Operand} {a b : BitVec 8} {c : Bool} (hx : ev E x=some (U8 a)) (hy : ev E y=some (U8 b)) (h : decide (a=b)=c) : OQ P n E C ⟨dst,.binOp .eql t x y t',ty,pos,aft,g⟩ (.bool c):=h ▸ OQ.BG hx hy
theorem wj : fG Tryz.prog 9=true:=by kernel_rfl
def zV (but : List aI.By) (c : aI.By) : Bool:=(decide ((33 : Int)≤(c.toNat : Int)) && decide ((c.toNat : Int)≤126)) && decide (jk c but<0)
def fY : List aI.By:=[40,41,60,62,64,44,59,92,34,91,93,61,47,58,63,46]
theorem wk : zV fY=bV:=by
  funext c
  have h : ∀ c : Fin 256,zV fY (BitVec.ofNat 8 c.val)=bV (BitVec.ofNat 8 c.val):=by decide +kernel
  simpa using h ⟨c.toNat,c.isLt⟩
theorem nI : aO Tryz.prog 248:=⟨_,Tryz.func248,rfl,by kernel_rfl⟩
theorem lZ : aO Tryz.prog 268:=⟨_,Tryz.func268,rfl,by kernel_rfl⟩
theorem wm : aO Tryz.prog 267:=⟨_,Tryz.func267,rfl,by kernel_rfl⟩
theorem tW : aO Tryz.prog 247:=⟨_,Tryz.func247,rfl,by kernel_rfl⟩
theorem lp : aO Tryz.prog 222:=⟨_,Tryz.func222,rfl,by kernel_rfl⟩
theorem iY : aO Tryz.prog 209:=⟨_,Tryz.func209,rfl,by kernel_rfl⟩
theorem jR : aO Tryz.prog 210:=⟨_,Tryz.func210,rfl,by kernel_rfl⟩
theorem lq : aO Tryz.prog 176:=⟨_,Tryz.func176,rfl,by kernel_rfl⟩
set_option maxHeartbeats 4000000 in
theorem nJ (but : List aI.By) (b : Nat) (c : Bt) (w : World) (hc : w.cell? ⟨b,0,none⟩=some (Z but)) : Calls Tryz.prog 268 [U8 c,Pt b 0].toArray w fun e w'=>e=.returned (.bool (zV but c))∧Ext w w':=by
  refine enter (n:=16) Tryz.func268 rfl rfl rfl (aa.start w []) ?_
  unfold zV
  cases h1 : decide ((33 : Int)≤(c.toNat : Int)) <;> cases h2 : decide ((c.toNat : Int)≤126) <;> cases h3 : decide (jk c but<0)
  all_goals (repeat (first | refine JL.q (by first|(apply OQ.dK (b:=33);rfl;rfl;exact h1)|(apply OQ.oW (b:=126);rfl;rfl;exact h2)|(apply OQ.ai;exact wj;rfl;exact (block_lt_of_cell hc);exact (by simp);exact hc)|(apply OQ.an (vs:=[Z but,U8 c]);exact tQ;rfl;exact (fun w' _=>vZ but c w'))|(apply OQ.dV (b:=0);rfl;rfl;exact h3)|(apply OQ.ay;rfl;rfl)|(apply OQ.au;rfl;rfl)|(apply OQ.move;rfl)|(apply OQ.assign;rfl)) rfl ?_ | refine JC.seq ?_ | refine JC.region ?_ | refine JL.nil ?_ | refine JE.next ?_ | refine JL.aU rfl rfl ?_ | refine JL.aM rfl rfl rfl rfl ?_))
  all_goals exact JC.ret (JE.aC rfl (RV.tmp rfl) fun w' hw=>⟨rfl,hw.aS⟩)
@[reducible] def A4 (b : Nat) : Value:=.func (.func 268) #[] [Pt b 0].toArray
theorem pz {w0 w : World} {S : List Nat} {M : List aN} {b : Nat} {but : List aI.By} {wr : Bool} (hw : aa w0 S M w) (hM : Has M b (Row 9 [Z but]) wr) : lY Tryz.prog w (A4 b) (zV but):=by
  refine ⟨_,[Pt b 0],rfl,lZ,fun c w' hx=>nJ but b c w' ?_⟩
  obtain ⟨o,ho,hA⟩:=hw.get hM
  have hlt : b<w.heap.size:=hw.lt hM.mem
  exact cell_of ((hx.block b hlt (by simp)).trans ho) (Row.cell rfl o hA)
theorem pE (but : List aI.By) (w : World) : Calls Tryz.prog 248 [Z but].toArray w fun e w'=>∃ b,e=.returned (A4 b)∧aa w [] [⟨b,Row 9 [Z but],true⟩] w':=by
  refine enter (n:=4) Tryz.func248 rfl rfl rfl (aa.start w []) ?_
  refine JC.seq (JC.region (JL.box (r:=[Z but]) rfl rfl rfl fun b _=>?_))
  repeat (first | refine JL.q (by first|(apply OQ.Cb (caps:=[Pt b 0]);rfl)|(apply OQ.assign;rfl)) rfl ?_ | refine JC.seq ?_ | refine JC.region ?_ | refine JL.nil ?_ | refine JE.next ?_)
  exact JC.ret (JE.aC rfl (RV.tmp rfl) fun w' hw=>⟨b,rfl,hw⟩)
set_option maxHeartbeats 4000000 in
theorem sG (s : List Bt) (fv : Value) (p : Bt→Bool) (w : World) (hF : lY Tryz.prog w fv p) (hl : s.length<9223372036854775808) : Calls Tryz.prog 267 [Z s,fv].toArray w fun e w'=>e=.returned (N (jC p s))∧Ext w w':=by
  refine enter (n:=21) Tryz.func267 rfl rfl rfl (aa.start w []) ?_
  repeat (first | refine JL.q (by first|(apply OQ.bC;exact Tryz.underlying9;rfl)|(apply OQ.move;rfl)|(apply OQ.assign;rfl)) rfl ?_ | refine JC.seq ?_ | refine JC.region ?_ | refine JC.block ?_ | refine JL.nil ?_ | refine JE.next ?_)
  refine JC.loop (fun i : Nat=>[(0,Z s),(1,fv),(7,N s.length),(8,N i)]) (fun _=>[]) (fun i=>s.length - i) (fun i=>i≤s.length∧jC p s=i+jC p (s.drop i)) 0 ⟨Nat.zero_le _,by simp⟩ (by repeat (first | exact af.nil | refine af.cons _ _ _ rfl ?_)) (aq.refl _) ?_
  rintro i ⟨hi,ha⟩
  repeat (first | refine JL.q (by (apply OQ.dz;rfl;rfl)) rfl ?_ | refine JC.seq ?_ | refine JC.region ?_ | refine JL.nil ?_ | refine JE.next ?_)
  refine JC.cond rfl (fun h=>?_) (fun h=>?_)
  · have hi' : i<s.length:=of_decide_eq_true h
    clear h hi
    have hd : s.drop i=s.getD i 0::s.drop (i+1):=by rw [List.drop_eq_getElem_cons hi',List.getD_eq_getElem?_getD,List.getElem?_eq_getElem hi'];rfl
    rw [hd,jD] at ha
    have i0:=fun {n : Nat} {E : Env} {C : World→Prop} {dst : Option Tmp} {ty : TypeId} {pos : String} {aft : Array Edge} {g : Option (Nat × Bool)} {x y : Operand}=>cY hi' (n:=n) (E:=E) (C:=C) (dst:=dst) (ty:=ty) (pos:=pos) (aft:=aft) (g:=g) (x:=x) (y:=y)
    generalize s.getD i 0=c at ha i0
    cases h1 : p c
    · rw [h1,if_neg (by decide),Nat.add_zero] at ha
      rw [ha]
      repeat (first | refine JL.q (by first|(apply i0;rfl;rfl)|(apply OQ.zf;exact hF;rfl;rfl;exact h1)|(apply OQ.not;rfl)|(apply OQ.move;rfl)|(apply OQ.assign;rfl)) rfl ?_ | refine JC.seq ?_ | refine JC.region ?_ | refine JC.block ?_ | refine JC.skip ?_ | refine JL.nil ?_ | refine JE.next ?_)
      refine JC.cond rfl (fun _=>?_) (fun h=>by cases h)
      repeat (first | refine JL.q (by first|(apply OQ.move;rfl)|(apply OQ.assign;rfl)) rfl ?_ | refine JC.seq ?_ | refine JC.region ?_ | refine JL.nil ?_ | refine JE.next ?_)
      refine JC.ret ?_
      repeat (first | refine JE.ah ?_ | refine JE.aW ?_)
      exact JE.aC rfl (RV.tmp rfl) fun w' hw=>⟨rfl,hw.aS⟩
    · rw [h1,if_pos rfl] at ha
      repeat (first | refine JL.q (by first|(apply i0;rfl;rfl)|(apply OQ.zf;exact hF;rfl;rfl;exact h1)|(apply OQ.not;rfl)|(apply OQ.move;rfl)|(apply OQ.assign;rfl)) rfl ?_ | refine JC.seq ?_ | refine JC.region ?_ | refine JC.block ?_ | refine JC.skip ?_ | refine JL.nil ?_ | refine JE.next ?_)
      refine JC.cond rfl (fun h=>by cases h) (fun _=>?_)
      repeat (first | refine JL.q (by first|(apply OQ.move;rfl)|(apply OQ.aT;rfl;rfl;exact (by (try simp only []);omega))) rfl ?_ | refine JC.region ?_ | refine JC.skip ?_ | refine JL.nil ?_ | refine JE.next ?_ | refine JE.ag ?_)
      exact JE.again (i:=i) (i+1) ⟨hi',by omega⟩ (by omega) (by repeat (first | exact af.nil | refine af.cons _ _ _ rfl ?_)) (aq.refl _)
  · have hi' : ¬ i<s.length:=of_decide_eq_false h
    obtain rfl : i=s.length:=by omega
    clear h hi hi'
    rw [List.drop_length] at ha
    have : jC p s=s.length:=ha
    rw [this]
    repeat (first | refine JL.q (by first|(apply OQ.bC;exact Tryz.underlying9;rfl)|(apply OQ.move;rfl)|(apply OQ.assign;rfl)) rfl ?_ | refine JC.seq ?_ | refine JC.region ?_ | refine JC.exit ?_ | refine JL.nil ?_ | refine JE.next ?_ | refine JE.av ?_ | refine JE.aF ?_)
    refine JC.ret ?_
    exact JE.aC rfl (RV.tmp rfl) fun w' hw=>⟨rfl,hw.aS⟩
def sH (p : aI.By→Bool) (s : List aI.By) : Bool:=!decide (s=[]) && decide ((jC p s : Int)=(s.length : Int))
set_option maxHeartbeats 4000000 in
theorem wo (s : List Bt) (fv : Value) (p : Bt→Bool) (w : World) (hF : lY Tryz.prog w fv p) (hl : s.length<9223372036854775808) : Calls Tryz.prog 247 [Z s,fv].toArray w fun e w'=>e=.returned (.bool (sH p s))∧Ext w w':=by
  refine enter (n:=15) Tryz.func247 rfl rfl rfl (aa.start w []) ?_
  unfold sH
  cases h1 : decide (s=[]) <;> cases h2 : decide ((jC p s : Int)=(s.length : Int))
  all_goals (repeat (first | refine JL.q (by first|(apply OQ.iW (r:=[]);rfl;rfl;exact h1)|(apply OQ.an (vs:=[Z s,fv]);exact wm;rfl;exact (fun w' hw'=>sG s fv p w' (hF.holds hw') hl))|(apply OQ.bC;exact Tryz.underlying9;rfl)|(apply OQ.gj;rfl;rfl;exact h2)|(apply OQ.ay;rfl;rfl)|(apply OQ.au;rfl;rfl)|(apply OQ.move;rfl)|(apply OQ.assign;rfl)) rfl ?_ | refine JC.seq ?_ | refine JC.region ?_ | refine JL.nil ?_ | refine JE.next ?_ | refine JL.aU rfl rfl ?_ | refine JL.aM rfl rfl rfl rfl ?_))
  all_goals exact JC.ret (JE.aC rfl (RV.tmp rfl) fun w' hw=>⟨rfl,hw.aS⟩)
theorem tX (s : List aI.By) : sH (zV fY) s=gh s:=by
  rw [we,wk]
  unfold sH
  congr 1
  · cases s <;> simp
  · exact decide_eq_decide.2 (by omega)
set_option maxHeartbeats 4000000 in
theorem tY (s : List Bt) (w : World) (hl : s.length<9223372036854775808) : Calls Tryz.prog 222 [Z s].toArray w fun e w'=>e=.returned (.bool (gh s))∧Ext w w':=by
  refine enter (n:=6) Tryz.func222 rfl rfl rfl (aa.start w []) ?_
  rw [← tX]
  repeat (first | refine JL.q (by first|(apply OQ.move;rfl)|(apply OQ.assign;rfl)) rfl ?_ | refine JC.seq ?_ | refine JC.region ?_ | refine JL.nil ?_ | refine JE.next ?_)
  refine JL.cE (ι:=Nat) (vs:=[Z fY]) A4 (fun b=>[⟨b,Row 9 [Z fY],true⟩]) nI rfl rfl (fun b e he=>by rw [List.mem_singleton.1 he]) (fun w' _=>pE fY w') fun b=>?_
  repeat (first | refine JL.q (by first|(apply OQ.an (vs:=[Z s,A4 b]);exact tW;rfl;exact (fun w' hw'=>wo s (A4 b) (zV fY) w' (pz hw' .here) hl))|(apply OQ.assign;rfl)) rfl ?_ | refine JL.nil ?_ | refine JE.next ?_)
  exact JC.ret (JE.aC rfl (RV.tmp rfl) fun w' hw=>⟨rfl,hw.aS⟩)
end
section
set_option maxRecDepth 10000
open Sl aI Tok
theorem lu {e : TypeId} (p : Nat × Nat) (o : List Bt) : aL e (some p) (o.map U8)=[⟨p.1,Sl.aG e 1 o.length p.2 (o.map U8),true⟩]:=by
  show [(⟨p.1,Sl.aG e 1 (o.map U8).length p.2 (o.map U8),true⟩ : aN)]=_
  rw [List.length_map]
theorem JC.zW {P : Program} {n : Nat} {w0 : World} {S : List Nat} {Q : Exit→Act→World→Prop} {E : Env} {M : List aN} {ι : Type} (l : Nat) (Ei : ι→Env) (Mi : ι→List aN) (μ : ι→Nat) (I : ι→Prop) {c rest : Code} (hf : findLabel c l=some (.seq .skip rest))
    (pass : ∀ i,I i→JC P n w0 S (Exit.jump l (yh n w0 S Ei Mi fun j=>I j∧μ j<μ i) Q) rest (Ei i) (Mi i))
    (first : (∀ i,I i→JC P n w0 S (Exit.jump l (yh n w0 S Ei Mi I) Q) rest (Ei i) (Mi i))→JC P n w0 S (Exit.jump l (yh n w0 S Ei Mi I) Q) c E M) : JC P n w0 S Q (.scope c) E M:=
  JC.scope l Ei Mi μ I hf (first fun i hi=>(pass i hi).mono fun e a w hq=>by
    cases e with
    | goto l'=>exact ⟨hq.1,let ⟨j,h1,h2⟩:=hq.2;⟨j,h1.1,h2⟩⟩
    | _=>exact hq) fun i hi=>JC.seq (JC.skip (JE.next (pass i hi)))
def Cd (o : Except Nat Nat) : Value:=match o with
  | .ok m=>.tuple #[N m,N 0]
  | .error e=>.tuple #[N 0,N e]
set_option maxHeartbeats 16000000 in
theorem pF (r : List Bt) (w : World) (hl : r.length<9223372036854770000) : Calls Tryz.prog 209 [Z (40::r)].toArray w fun e w'=>e=.returned (Cd (bM (40::r) 0 0))∧Ext w w':=by
  refine enter (n:=32) Tryz.func209 rfl rfl rfl (aa.start w []) ?_
  generalize hs : 40::r=s
  have hsl : s.length<9223372036854770001:=by rw [← hs,List.length_cons];omega
  have hs0 : s.getD 0 0=40:=by rw [← hs];rfl
  clear hs
  repeat (refine JL.q (by fail) rfl ?_)
  refine JC.seq (JC.region ?_)
  repeat (refine JL.q (by (apply OQ.assign;rfl)) rfl ?_)
  refine JL.nil (JE.next ?_)
  refine JC.zW (ι:=Nat × Nat) 0 (fun i=>[(0,Z s),(4,N i.1),(5,N i.2)]) (fun _=>[]) (fun i=>s.length+1 - i.1) (fun i=>i.1≤s.length+1∧i.2≤9∧(0<i.2∨i.1=0)∧bM (s.drop i.1) i.2 i.1=bM s 0 0) rfl ?_ ?_
  · rintro ⟨k,d⟩ ⟨hk,hd,h0,hc⟩
    dsimp only at hk hd h0 hc ⊢
    repeat (first | refine JL.q (by first|(apply OQ.bC;exact Tryz.underlying9;rfl)|(apply OQ.move;rfl)|(apply OQ.AJ;rfl;rfl)) rfl ?_ | refine JC.seq ?_ | refine JC.region ?_ | refine JL.nil ?_ | refine JE.next ?_)
    refine JC.cond rfl (fun h=>?_) (fun h=>?_)
    · have hk' : s.length≤k:=of_decide_eq_true h
      rw [List.drop_eq_nil_of_le hk',jB] at hc
      rw [← hc]
      repeat (first | refine JL.q (by (apply OQ.assign;rfl)) rfl ?_ | refine JC.seq ?_ | refine JC.region ?_ | refine JL.nil ?_ | refine JE.next ?_)
      refine JC.ret (JE.ah (JE.gH ?_))
      exact JE.bI rfl (RV.tmp rfl) (RV.tmp rfl) fun w' hw=>⟨rfl,hw.aS⟩
    · have hk' : k<s.length:=by have:=of_decide_eq_false h;omega
      clear h hk
      have hdr : s.drop k=s.getD k 0::s.drop (k+1):=by rw [List.drop_eq_getElem_cons hk',List.getD_eq_getElem?_getD,List.getElem?_eq_getElem hk'];rfl
      have h0' : 0<d∨s.getD k 0=40:=h0.imp id fun h=>by rw [h];exact hs0
      clear h0
      rw [hdr] at hc
      have i0:=fun {n : Nat} {E : Env} {C : World→Prop} {dst : Option Tmp} {ty : TypeId} {pos : String} {aft : Array Edge} {g : Option (Nat × Bool)} {x y : Operand}=>cY hk' (n:=n) (E:=E) (C:=C) (dst:=dst) (ty:=ty) (pos:=pos) (aft:=aft) (g:=g) (x:=x) (y:=y)
      generalize s.getD k 0=c at hc i0 h0'
      cases h40 : decide (c=40)
      · cases h41 : decide (c=41)
        · cases h92 : decide (c=92)
          · rw [q4 (of_decide_eq_false h40) (of_decide_eq_false h41) (of_decide_eq_false h92)] at hc
            have hd0 : 0<d:=h0'.resolve_right (of_decide_eq_false h40)
            repeat (first | refine JL.q (by first|(apply i0;rfl;rfl)|(apply OQ.dg (b:=40);rfl;rfl;exact h40)|(apply OQ.move;rfl)|(apply OQ.assign;rfl)) rfl ?_ | refine JC.seq ?_ | refine JC.region ?_ | refine JC.block ?_ | refine JC.skip ?_ | refine JL.nil ?_ | refine JE.next ?_)
            refine JC.cond rfl (fun h=>by cases h) (fun _=>?_)
            repeat (first | refine JL.q (by first|(apply OQ.dg (b:=41);rfl;rfl;exact h41)|(apply OQ.assign;rfl)) rfl ?_ | refine JC.seq ?_ | refine JC.region ?_ | refine JL.nil ?_ | refine JE.next ?_)
            refine JC.cond rfl (fun h=>by cases h) (fun _=>?_)
            repeat (first | refine JL.q (by first|(apply OQ.dg (b:=92);rfl;rfl;exact h92)|(apply OQ.assign;rfl)) rfl ?_ | refine JC.seq ?_ | refine JC.region ?_ | refine JL.nil ?_ | refine JE.next ?_)
            refine JC.cond rfl (fun h=>by cases h) (fun _=>?_)
            repeat (first | refine JL.q (by first|(apply OQ.move;rfl)|(apply OQ.assign;rfl)|(apply OQ.aT;rfl;rfl;exact (by (try simp only []);omega))|(apply OQ.nt;rfl;rfl)) rfl ?_ | refine JC.seq ?_ | refine JC.region ?_ | refine JC.skip ?_ | refine JL.nil ?_ | refine JE.next ?_ | refine JE.ag ?_)
            refine JC.cond rfl (fun _=>JC.goto (JE.gT ?_)) (fun h=>absurd hd0 (of_decide_eq_false h))
            exact JE.gS (k+1,d) ⟨⟨by dsimp only;omega,hd,Or.inl hd0,hc⟩,by dsimp only;omega⟩ (by repeat (first | exact af.nil | refine af.cons _ _ _ rfl ?_)) (aq.refl _)
          · rw [of_decide_eq_true h92] at hc
            have hd0 : 0<d:=h0'.resolve_right (of_decide_eq_false h40)
            have hc' : bM (s.drop (k+2)) d (k+2)=bM s 0 0:=by
              by_cases he : k+1<s.length
              · have hdr' : s.drop (k+1)=s.getD (k+1) 0::s.drop (k+2):=by rw [List.drop_eq_getElem_cons he,List.getD_eq_getElem?_getD,List.getElem?_eq_getElem he];rfl
                rw [hdr',nE] at hc
                exact hc
              · rw [List.drop_eq_nil_of_le (by omega),lg] at hc
                rw [List.drop_eq_nil_of_le (by omega),jB]
                exact hc
            repeat (first | refine JL.q (by first|(apply i0;rfl;rfl)|(apply OQ.dg (b:=40);rfl;rfl;exact h40)|(apply OQ.move;rfl)|(apply OQ.assign;rfl)) rfl ?_ | refine JC.seq ?_ | refine JC.region ?_ | refine JC.block ?_ | refine JC.skip ?_ | refine JL.nil ?_ | refine JE.next ?_)
            refine JC.cond rfl (fun h=>by cases h) (fun _=>?_)
            repeat (first | refine JL.q (by first|(apply OQ.dg (b:=41);rfl;rfl;exact h41)|(apply OQ.assign;rfl)) rfl ?_ | refine JC.seq ?_ | refine JC.region ?_ | refine JL.nil ?_ | refine JE.next ?_)
            refine JC.cond rfl (fun h=>by cases h) (fun _=>?_)
            repeat (first | refine JL.q (by first|(apply OQ.dg (b:=92);rfl;rfl;exact h92)|(apply OQ.assign;rfl)) rfl ?_ | refine JC.seq ?_ | refine JC.region ?_ | refine JL.nil ?_ | refine JE.next ?_)
            refine JC.cond rfl (fun _=>?_) (fun h=>by cases h)
            repeat (first | refine JL.q (by first|(apply OQ.move;rfl)|(apply OQ.assign;rfl)|(apply OQ.aT;rfl;rfl;exact (by (try simp only []);omega))|(apply OQ.nt;rfl;rfl)) rfl ?_ | refine JC.seq ?_ | refine JC.region ?_ | refine JL.nil ?_ | refine JE.next ?_ | refine JE.ag ?_)
            refine JC.cond rfl (fun _=>JC.goto (JE.gT ?_)) (fun h=>absurd hd0 (of_decide_eq_false h))
            exact JE.gS (k+2,d) ⟨⟨by dsimp only;omega,hd,Or.inl hd0,hc'⟩,by dsimp only;omega⟩ (by repeat (first | exact af.nil | refine af.cons _ _ _ rfl ?_)) (aq.refl _)
        · have h40' : ¬ c=40:=of_decide_eq_false h40
          rw [of_decide_eq_true h41,ke] at hc
          have hd0 : 0<d:=h0'.resolve_right h40'
          repeat (first | refine JL.q (by first|(apply i0;rfl;rfl)|(apply OQ.dg (b:=40);rfl;rfl;exact h40)|(apply OQ.move;rfl)|(apply OQ.assign;rfl)) rfl ?_ | refine JC.seq ?_ | refine JC.region ?_ | refine JC.block ?_ | refine JC.skip ?_ | refine JL.nil ?_ | refine JE.next ?_)
          refine JC.cond rfl (fun h=>by cases h) (fun _=>?_)
          repeat (first | refine JL.q (by first|(apply OQ.dg (b:=41);rfl;rfl;exact h41)|(apply OQ.assign;rfl)) rfl ?_ | refine JC.seq ?_ | refine JC.region ?_ | refine JL.nil ?_ | refine JE.next ?_)
          refine JC.cond rfl (fun _=>?_) (fun h=>by cases h)
          repeat (first | refine JL.q (by first|(apply OQ.move;rfl)|(apply OQ.assign;rfl)|(apply OQ.aT;rfl;rfl;exact (by (try simp only []);omega))|(apply OQ.eu;rfl;rfl;exact (by (try simp only []);omega);exact (by (try simp only []);omega))|(apply OQ.nt;rfl;rfl)) rfl ?_ | refine JC.seq ?_ | refine JC.region ?_ | refine JL.nil ?_ | refine JE.next ?_ | refine JE.ag ?_)
          refine JC.cond rfl (fun h=>?_) (fun h=>?_)
          · have hd1 : 0<d - 1:=of_decide_eq_true h
            rw [if_neg (by omega)] at hc
            refine JC.goto (JE.gT ?_)
            exact JE.gS (k+1,d - 1) ⟨⟨by dsimp only;omega,by dsimp only;omega,Or.inl hd1,hc⟩,by dsimp only;omega⟩ (by repeat (first | exact af.nil | refine af.cons _ _ _ rfl ?_)) (aq.refl _)
          · have hd1 : ¬ 0<d - 1:=of_decide_eq_false h
            rw [if_pos (by omega)] at hc
            rw [← hc]
            repeat (first | refine JL.q (by first|(apply OQ.move;rfl)|(apply OQ.assign;rfl)) rfl ?_ | refine JC.seq ?_ | refine JC.region ?_ | refine JC.skip ?_ | refine JL.nil ?_ | refine JE.next ?_)
            refine JC.ret (JE.gH ?_)
            exact JE.bI rfl (RV.tmp rfl) (RV.tmp rfl) fun w' hw=>⟨rfl,hw.aS⟩
      · rw [of_decide_eq_true h40,gV] at hc
        clear h0'
        by_cases h8 : 8<d
        · rw [if_pos h8] at hc
          rw [← hc]
          repeat (first | refine JL.q (by first|(apply i0;rfl;rfl)|(apply OQ.dg (b:=40);rfl;rfl;exact h40)|(apply OQ.move;rfl)|(apply OQ.assign;rfl)) rfl ?_ | refine JC.seq ?_ | refine JC.region ?_ | refine JC.block ?_ | refine JC.skip ?_ | refine JL.nil ?_ | refine JE.next ?_)
          refine JC.cond rfl (fun _=>?_) (fun h=>by cases h)
          repeat (first | refine JL.q (by first|(apply OQ.move;rfl)|(apply OQ.nt;rfl;rfl)) rfl ?_ | refine JC.seq ?_ | refine JC.region ?_ | refine JL.nil ?_ | refine JE.next ?_)
          refine JC.cond rfl (fun _=>?_) (fun h=>absurd h8 (of_decide_eq_false h))
          repeat (first | refine JL.q (by (apply OQ.assign;rfl)) rfl ?_ | refine JC.seq ?_ | refine JC.region ?_ | refine JL.nil ?_ | refine JE.next ?_)
          refine JC.ret ?_
          repeat (first | refine JE.ah ?_ | refine JE.aW ?_)
          refine JE.gH ?_
          exact JE.bI rfl (RV.tmp rfl) (RV.tmp rfl) fun w' hw=>⟨rfl,hw.aS⟩
        · rw [if_neg h8] at hc
          repeat (first | refine JL.q (by first|(apply i0;rfl;rfl)|(apply OQ.dg (b:=40);rfl;rfl;exact h40)|(apply OQ.move;rfl)|(apply OQ.assign;rfl)) rfl ?_ | refine JC.seq ?_ | refine JC.region ?_ | refine JC.block ?_ | refine JC.skip ?_ | refine JL.nil ?_ | refine JE.next ?_)
          refine JC.cond rfl (fun _=>?_) (fun h=>by cases h)
          repeat (first | refine JL.q (by first|(apply OQ.move;rfl)|(apply OQ.nt;rfl;rfl)) rfl ?_ | refine JC.seq ?_ | refine JC.region ?_ | refine JL.nil ?_ | refine JE.next ?_)
          refine JC.cond rfl (fun h=>absurd (of_decide_eq_true h) h8) (fun _=>?_)
          repeat (first | refine JL.q (by first|(apply OQ.move;rfl)|(apply OQ.assign;rfl)|(apply OQ.aT;rfl;rfl;exact (by (try simp only []);omega))|(apply OQ.nt;rfl;rfl)) rfl ?_ | refine JC.seq ?_ | refine JC.region ?_ | refine JC.skip ?_ | refine JL.nil ?_ | refine JE.next ?_ | refine JE.ag ?_)
          refine JC.cond rfl (fun _=>JC.goto (JE.gT ?_)) (fun h=>absurd (Nat.succ_pos d) (of_decide_eq_false h))
          exact JE.gS (k+1,d+1) ⟨⟨by dsimp only;omega,by dsimp only;omega,Or.inl (Nat.succ_pos d),hc⟩,by dsimp only;omega⟩ (by repeat (first | exact af.nil | refine af.cons _ _ _ rfl ?_)) (aq.refl _)
  · intro hp
    refine JC.seq (JC.region ?_)
    repeat (refine JL.q (by (apply OQ.assign;rfl)) rfl ?_)
    refine JL.nil (JE.next ?_)
    refine JC.seq (JC.region ?_)
    repeat (refine JL.q (by (apply OQ.assign;rfl)) rfl ?_)
    refine JL.nil (JE.next ?_)
    refine JC.seq (JC.label (JE.next ?_))
    exact (hp (0,0) ⟨Nat.zero_le _,Nat.zero_le _,Or.inr rfl,rfl⟩).weak (by repeat (first | exact af.nil | refine af.cons _ _ _ rfl ?_)) (aq.refl _)
set_option maxHeartbeats 16000000 in
theorem q7 (c0 : Bt) (r : List Bt) (w : World) (hl : r.length<9223372036854770000) : Calls Tryz.prog 210 [Z (c0::r)].toArray w fun e w'=>e=.returned (N (bD r 1))∧Ext w w':=by
  refine enter (n:=21) Tryz.func210 rfl rfl rfl (aa.start w []) ?_
  rw [show bD r 1=bD ((c0::r).drop 1) 1 from rfl]
  generalize hs : c0::r=s
  have hsl : s.length<9223372036854770001:=by rw [← hs,List.length_cons];omega
  clear hs
  repeat (first | refine JL.q (by (apply OQ.assign;rfl)) rfl ?_ | refine JC.seq ?_ | refine JC.region ?_ | refine JC.block ?_ | refine JL.nil ?_ | refine JE.next ?_)
  refine JC.loop (fun k : Nat=>[(0,Z s),(3,N k)]) (fun _=>[]) (fun k=>s.length+1 - k) (fun k=>k≤s.length+1∧bD (s.drop k) k=bD (s.drop 1) 1) 1 ⟨by omega,rfl⟩ (by repeat (first | exact af.nil | refine af.cons _ _ _ rfl ?_)) (aq.refl _) ?_
  rintro k ⟨hk,hc⟩
  repeat (first | refine JL.q (by first|(apply OQ.bC;exact Tryz.underlying9;rfl)|(apply OQ.move;rfl)|(apply OQ.dz;rfl;rfl)) rfl ?_ | refine JC.seq ?_ | refine JC.region ?_ | refine JL.nil ?_ | refine JE.next ?_)
  refine JC.cond rfl (fun h=>?_) (fun h=>?_)
  · have hk' : k<s.length:=of_decide_eq_true h
    clear h hk
    have hdr : s.drop k=s.getD k 0::s.drop (k+1):=by rw [List.drop_eq_getElem_cons hk',List.getD_eq_getElem?_getD,List.getElem?_eq_getElem hk'];rfl
    rw [hdr] at hc
    have i0:=fun {n : Nat} {E : Env} {C : World→Prop} {dst : Option Tmp} {ty : TypeId} {pos : String} {aft : Array Edge} {g : Option (Nat × Bool)} {x y : Operand}=>cY hk' (n:=n) (E:=E) (C:=C) (dst:=dst) (ty:=ty) (pos:=pos) (aft:=aft) (g:=g) (x:=x) (y:=y)
    generalize s.getD k 0=c at hc i0
    cases h92 : decide (c=92)
    · cases h34 : decide (c=34)
      · rw [v8 (of_decide_eq_false h34) (of_decide_eq_false h92)] at hc
        repeat (first | refine JL.q (by first|(apply i0;rfl;rfl)|(apply OQ.dg (b:=92);rfl;rfl;exact h92)|(apply OQ.move;rfl)|(apply OQ.assign;rfl)) rfl ?_ | refine JC.seq ?_ | refine JC.region ?_ | refine JC.block ?_ | refine JC.skip ?_ | refine JL.nil ?_ | refine JE.next ?_)
        refine JC.cond rfl (fun h=>by cases h) (fun _=>?_)
        repeat (first | refine JL.q (by first|(apply OQ.dg (b:=34);rfl;rfl;exact h34)|(apply OQ.assign;rfl)) rfl ?_ | refine JC.seq ?_ | refine JC.region ?_ | refine JL.nil ?_ | refine JE.next ?_)
        refine JC.cond rfl (fun h=>by cases h) (fun _=>?_)
        repeat (first | refine JL.q (by first|(apply OQ.move;rfl)|(apply OQ.assign;rfl)|(apply OQ.aT;rfl;rfl;exact (by (try simp only []);omega))) rfl ?_ | refine JC.region ?_ | refine JC.skip ?_ | refine JL.nil ?_ | refine JE.next ?_ | refine JE.ag ?_)
        exact JE.again (i:=k) (k+1) ⟨by omega,hc⟩ (by omega) (by repeat (first | exact af.nil | refine af.cons _ _ _ rfl ?_)) (aq.refl _)
      · rw [of_decide_eq_true h34,sE] at hc
        rw [← hc]
        repeat (first | refine JL.q (by first|(apply i0;rfl;rfl)|(apply OQ.dg (b:=92);rfl;rfl;exact h92)|(apply OQ.move;rfl)|(apply OQ.assign;rfl)) rfl ?_ | refine JC.seq ?_ | refine JC.region ?_ | refine JC.block ?_ | refine JC.skip ?_ | refine JL.nil ?_ | refine JE.next ?_)
        refine JC.cond rfl (fun h=>by cases h) (fun _=>?_)
        repeat (first | refine JL.q (by first|(apply OQ.dg (b:=34);rfl;rfl;exact h34)|(apply OQ.assign;rfl)) rfl ?_ | refine JC.seq ?_ | refine JC.region ?_ | refine JL.nil ?_ | refine JE.next ?_)
        refine JC.cond rfl (fun _=>?_) (fun h=>by cases h)
        repeat (first | refine JL.q (by first|(apply OQ.move;rfl)|(apply OQ.assign;rfl)|(apply OQ.aT;rfl;rfl;exact (by (try simp only []);omega))) rfl ?_ | refine JC.seq ?_ | refine JC.region ?_ | refine JL.nil ?_ | refine JE.next ?_)
        refine JC.ret ?_
        repeat (first | refine JE.ah ?_ | refine JE.aW ?_)
        exact JE.aC rfl (RV.tmp rfl) fun w' hw=>⟨rfl,hw.aS⟩
    · rw [of_decide_eq_true h92] at hc
      have hc' : bD (s.drop (k+2)) (k+2)=bD (s.drop 1) 1:=by
        by_cases he : k+1<s.length
        · have hdr' : s.drop (k+1)=s.getD (k+1) 0::s.drop (k+2):=by rw [List.drop_eq_getElem_cons he,List.getD_eq_getElem?_getD,List.getElem?_eq_getElem he];rfl
          rw [hdr',sF] at hc
          exact hc
        · rw [List.drop_eq_nil_of_le (by omega),pe] at hc
          rw [List.drop_eq_nil_of_le (by omega),nF]
          exact hc
      repeat (first | refine JL.q (by first|(apply i0;rfl;rfl)|(apply OQ.dg (b:=92);rfl;rfl;exact h92)|(apply OQ.move;rfl)|(apply OQ.assign;rfl)) rfl ?_ | refine JC.seq ?_ | refine JC.region ?_ | refine JC.block ?_ | refine JC.skip ?_ | refine JL.nil ?_ | refine JE.next ?_)
      refine JC.cond rfl (fun _=>?_) (fun h=>by cases h)
      repeat (first | refine JL.q (by first|(apply OQ.move;rfl)|(apply OQ.assign;rfl)|(apply OQ.aT;rfl;rfl;exact (by (try simp only []);omega))) rfl ?_ | refine JC.region ?_ | refine JL.nil ?_ | refine JE.next ?_ | refine JE.ag ?_)
      exact JE.again (i:=k) (k+2) ⟨by omega,hc'⟩ (by omega) (by repeat (first | exact af.nil | refine af.cons _ _ _ rfl ?_)) (aq.refl _)
  · have hk' : s.length≤k:=by have:=of_decide_eq_false h;omega
    rw [List.drop_eq_nil_of_le hk',nF] at hc
    rw [← hc]
    repeat (first | refine JL.q (by (apply OQ.assign;rfl)) rfl ?_ | refine JC.seq ?_ | refine JC.region ?_ | refine JC.exit ?_ | refine JL.nil ?_ | refine JE.next ?_ | refine JE.av ?_ | refine JE.aF ?_)
    refine JC.ret ?_
    exact JE.aC rfl (RV.tmp rfl) fun w' hw=>⟨rfl,hw.aS⟩
def zX : Nat→List (Nat × Nat)
  | 2=>[(0,25),(1,26)]
  | 5=>[(3,28),(4,29)]
  | 6=>[(2,27)]
  | 7=>[(5,30)]
  | _=>[]
def A5 : Nat→List Nat
  | 2=>[8,1]
  | _=>[]
def A6 : Nat→List Nat
  | 2=>[8]
  | _=>[]
def A7 : Nat→Option Nat
  | 6=>some 2
  | _=>none
def wq : Nat→List (Nat × Nat)
  | 3=>[(1,40),(2,41)]
  | 4=>[(0,39),(3,42)]
  | 7=>[(5,44),(6,45)]
  | 8=>[(4,43)]
  | 9=>[(7,46)]
  | _=>[]
def zk : Nat→List Nat
  | 4=>[10]
  | _=>[]
def zl : Nat→List Nat
  | 4=>[10]
  | _=>[]
def zm : Nat→Option Nat
  | 8=>some 4
  | _=>none
theorem wu : ∀ (n : Nat) (r : List aI.By) (d k e : Nat),r.length≤n→bM r d k=.error e→decide ((e : Int)=0)=false:=by
  intro n
  induction n with
  | zero=>
    intro r d k e h hc
    obtain rfl : r=[]:=List.eq_nil_of_length_eq_zero (by omega)
    rw [jB] at hc
    cases hc
    rfl
  | succ n ih=>
    intro r d k e h hc
    match r,h with
    | [],_=>
      rw [jB] at hc
      cases hc
      rfl
    | c::r,h=>
      simp only [List.length_cons] at h
      by_cases h40 : c=40
      · rw [h40,gV] at hc
        split at hc
        · cases hc
          rfl
        · exact ih _ _ _ _ (by omega) hc
      by_cases h41 : c=41
      · rw [h41,ke] at hc
        split at hc
        · cases hc
        · exact ih _ _ _ _ (by omega) hc
      by_cases h92 : c=92
      · rw [h92] at hc
        match r,h with
        | [],_=>
          rw [lg] at hc
          cases hc
          rfl
        | c2::r,h=>
          rw [nE] at hc
          simp only [List.length_cons] at h
          exact ih _ _ _ _ (by omega) hc
      · rw [q4 h40 h41 h92] at hc
        exact ih _ _ _ _ (by omega) hc
structure zY where
  r : List Bt
  o : List Bt
  b : Nat
  cap : Nat
set_option maxHeartbeats 32000000 in
theorem tZ (s : List Bt) (w : World) (hl : s.length<140000000) : Calls Tryz.prog 176 [Z s].toArray w fun e w'=>e=.returned (.tuple #[Z (eo s).1,N (eo s).2])∧Ext w w':=by
  refine enter (n:=49) Tryz.func176 rfl rfl rfl (aa.start w []) ?_
  repeat (first | refine JL.q (by first|(apply OQ.bC;exact Tryz.underlying9;rfl)|(apply OQ.move;rfl)|(apply OQ.assign;rfl)) rfl ?_ | refine JC.seq ?_ | refine JC.region ?_ | refine JL.nil ?_ | refine JE.next ?_)
  refine JL.vJ (c:=s.length) Tryz.underlying22 bQ rfl rfl (by omega) rfl fun b0 _=>?_
  repeat (first | refine JL.q (by (apply OQ.assign;rfl)) rfl ?_ | refine JC.seq ?_ | refine JC.block ?_ | refine JL.nil ?_ | refine JE.next ?_)
  refine JC.loop (fun z : zY=>[(0,Z z.r),(4,.slice (some ⟨z.b,0,none⟩) z.o.length z.cap)]) (fun z=>[⟨z.b,Sl.aG 5 1 z.o.length z.cap (z.o.map U8),true⟩]) (fun z=>z.r.length) (fun z=>z.r.length+z.o.length≤s.length∧eo s=aX z.r 0 false z.o) ⟨s,[],b0,s.length⟩ ⟨Nat.le_refl _,rfl⟩ (by repeat (first | exact af.nil | refine af.cons _ _ _ rfl ?_)) (aq.refl _) ?_
  rintro ⟨r,o,b,cap⟩ ⟨hlen,hc⟩
  dsimp only at hlen hc ⊢
  cases hr0 : decide (r=[])
  · obtain ⟨c,r,rfl⟩ : ∃ c r',r=c::r':=by
      cases r with
      | nil=>cases hr0
      | cons c r=>exact ⟨c,r,rfl⟩
    have hrl : r.length+1+o.length≤s.length:=by rw [List.length_cons] at hlen;exact hlen
    have i0:=fun {n : Nat} {E : Env} {C : World→Prop} {dst : Option Tmp} {ty : TypeId} {pos : String} {aft : Array Edge} {g : Option (Nat × Bool)} {x y : Operand}=>cY (s:=c::r) (i:=0) (Nat.succ_pos _) (n:=n) (E:=E) (C:=C) (dst:=dst) (ty:=ty) (pos:=pos) (aft:=aft) (g:=g) (x:=x) (y:=y)
    rw [List.getD_cons_zero] at i0
    repeat (first | refine JL.q (by first|(apply OQ.iW (r:=[]);rfl;rfl;exact hr0)|(apply OQ.move;rfl)) rfl ?_ | refine JC.seq ?_ | refine JC.region ?_ | refine JL.nil ?_ | refine JE.next ?_)
    refine JC.cond rfl (fun _=>?_) (fun h=>by cases h)
    cases h40 : decide (c=40)
    · cases h41 : decide (c=41)
      · cases h34 : decide (c=34)
        · rw [kE (of_decide_eq_false h40) (of_decide_eq_false h41),show (c == 34)=false from beq_eq_false_iff_ne.2 (of_decide_eq_false h34)] at hc
          replace hc : eo s=aX ((c::r).drop 1) 0 false (o++(c::r).take 1):=hc
          repeat (first | refine JL.q (by first|(apply i0;rfl;rfl)|(apply OQ.dg (b:=40);rfl;rfl;exact h40)|(apply OQ.move;rfl)|(apply OQ.assign;rfl)) rfl ?_ | refine JC.seq ?_ | refine JC.region ?_ | refine JC.block ?_ | refine JC.skip ?_ | refine JL.nil ?_ | refine JE.next ?_)
          refine JC.cond rfl (fun h=>by cases h) (fun _=>?_)
          repeat (first | refine JL.q (by first|(apply OQ.dg (b:=41);rfl;rfl;exact h41)|(apply OQ.assign;rfl)) rfl ?_ | refine JC.seq ?_ | refine JC.region ?_ | refine JL.nil ?_ | refine JE.next ?_)
          refine JC.cond rfl (fun h=>by cases h) (fun _=>?_)
          repeat (first | refine JL.q (by first|(apply OQ.dg (b:=34);rfl;rfl;exact h34)|(apply OQ.assign;rfl)) rfl ?_ | refine JC.seq ?_ | refine JC.region ?_ | refine JL.nil ?_ | refine JE.next ?_)
          refine JC.cond rfl (fun h=>by cases h) (fun _=>?_)
          repeat (first | refine JC.skip ?_ | refine JE.next ?_ | refine JE.ag ?_)
          have hml : ((c::r).take 1).length=1:=by rw [List.length_take,List.length_cons];omega
          have hdl : ((c::r).drop 1).length=r.length+1 - 1:=by rw [List.length_drop,List.length_cons]
          have hne : (c::r).take 1≠[]:=fun h=>by rw [h] at hml;rw [List.length_nil] at hml;omega
          have hlm : 1≤(c::r).length:=by rw [List.length_cons];omega
          let vs : Nat→X→Value:=fun j x=>match j with
            | 0=>.slice (some ⟨b,0,none⟩) o.length cap
            | 1=>Z (c::r)
            | 2=>N 1
            | 3=>Z ((c::r).take 1)
            | 5=>Z (c::r)
            | 6=>N 1
            | 7=>Z ((c::r).drop 1)
            | 9=>Z ((c::r).drop 1)
            | _=>.slice (some ⟨x.1,0,none⟩) (o++(c::r).take 1).length x.2
          let Ms : Nat→X→List aN:=fun j x=>match j with
            | 4=>[⟨x.1,Sl.aG 5 1 (o++(c::r).take 1).length x.2 ((o++(c::r).take 1).map U8),true⟩]
            | 10=>[⟨b,Sl.aG 5 1 o.length cap (o.map U8),true⟩]
            | _=>[]
          refine JC.sn (g:=⟨[(5,N 1)],11,vs,Ms,wq,zk,zl,zm,fun j=>match j with | 0=>[(4,.slice (some ⟨b,0,none⟩) o.length cap)] | 1=>[(0,Z (c::r))] | 5=>[(0,Z (c::r))] | _=>[]⟩) [(8,4),(9,0)] [4] fD (by repeat (first | exact af.nil | refine af.cons _ _ _ rfl ?_)) (fun j _=>match j with | 0=>(by repeat (first | exact af.nil | refine af.cons _ _ _ rfl ?_)) | 1=>(by repeat (first | exact af.nil | refine af.cons _ _ _ rfl ?_)) | 2=>.nil | 3=>.nil | 4=>.nil | 5=>(by repeat (first | exact af.nil | refine af.cons _ _ _ rfl ?_)) | _+6=>.nil) (aq.refl _) (by kernel_rfl) (by kernel_rfl) (by kernel_rfl) ?_ ?_
          · refine ⟨?_,?_,?_,?_,?_,?_,?_,?_,?_,?_,trivial⟩
            iterate 4 (focus (intro x EF MF Q kk;(try refine JL.aU rfl rfl ?_);exact JL.q (by first|(apply OQ.dx;exact Tryz.underlying9;rfl;rfl;exact hlm)|(apply OQ.move;rfl)) rfl (JL.nil (kk default nofun))))
            · intro x EF MF Q kk
              refine JL.eY (M':=aL 5 (some (b,cap)) (o.map U8)++MF) ?_ (by show aq ([⟨b,Sl.aG 5 1 (o.map U8).length cap (o.map U8),true⟩]++MF) _;rw [List.length_map];exact aq.refl _)
              refine JL.gR (r:=(c::r).take 1) (xs:=o.map U8) (M:=MF) (some (b,cap)) Tryz.underlying22 Tryz.underlying9 bQ (fun h=>by cases h) (by rw [List.length_map];rfl) rfl hne (by rw [List.length_map];omega) rfl fun p=>JL.nil ?_
              rw [← List.map_append,List.length_map,lu]
              exact kk p (fun k h=>by cases h)
            iterate 3 (focus (intro x EF MF Q kk;(try refine JL.aU rfl rfl ?_);exact JL.q (by first|(apply OQ.cc;exact Tryz.underlying9;rfl;rfl;exact hlm)|(apply OQ.move;rfl)) rfl (JL.nil (kk default nofun))))
            · intro x EF MF Q kk
              exact JL.q (OQ.assign rfl) rfl (JL.nil (kk (x 4) (fun k h=>by cases h;rfl)))
            · (intro x EF MF Q kk;(try refine JL.aU rfl rfl ?_);exact JL.q (by (apply OQ.assign;rfl)) rfl (JL.nil (kk default nofun)))
          · intro x hx'
            have h84:=hx' 8 4 (by decide) rfl
            show JE _ _ _ _ _ [(4,.slice (some ⟨(x 8).1,0,none⟩) (o++(c::r).take 1).length (x 8).2),(0,Z ((c::r).drop 1)),(5,N 1)] [⟨(x 4).1,Sl.aG 5 1 (o++(c::r).take 1).length (x 4).2 ((o++(c::r).take 1).map U8),true⟩]
            rw [h84]
            obtain ⟨b',cap'⟩:=x 4
            clear hx' h84 x vs Ms
            dsimp only
            repeat (refine JE.ag ?_)
            exact JE.again (i:=zY.mk (c::r) o b cap) (zY.mk ((c::r).drop 1) (o++(c::r).take 1) b' cap') ⟨by dsimp only;rw [List.length_append];omega,hc⟩ (by dsimp only;rw [List.length_cons];omega) (by repeat (first | exact af.nil | refine af.cons _ _ _ rfl ?_)) (aq.refl _)
        · obtain rfl : c=34:=of_decide_eq_true h34
          have cQ:=fun w'=>q7 34 r w' (by omega)
          cases hq : decide ((bD r 1 : Int)=0)
          · have hqn : bD r 1≠0:=by have:=of_decide_eq_false hq;omega
            obtain ⟨m0,m1,hb⟩:=nH o hqn
            rw [hb] at hc
            generalize bD r 1=m at cQ hq m0 m1 hc
            clear hb hqn
            repeat (first | refine JL.q (by first|(apply i0;rfl;rfl)|(apply OQ.dg (b:=40);rfl;rfl;exact h40)|(apply OQ.move;rfl)|(apply OQ.assign;rfl)) rfl ?_ | refine JC.seq ?_ | refine JC.region ?_ | refine JC.block ?_ | refine JC.skip ?_ | refine JL.nil ?_ | refine JE.next ?_)
            refine JC.cond rfl (fun h=>by cases h) (fun _=>?_)
            repeat (first | refine JL.q (by first|(apply OQ.dg (b:=41);rfl;rfl;exact h41)|(apply OQ.assign;rfl)) rfl ?_ | refine JC.seq ?_ | refine JC.region ?_ | refine JL.nil ?_ | refine JE.next ?_)
            refine JC.cond rfl (fun h=>by cases h) (fun _=>?_)
            repeat (first | refine JL.q (by first|(apply OQ.dg (b:=34);rfl;rfl;exact h34)|(apply OQ.assign;rfl)) rfl ?_ | refine JC.seq ?_ | refine JC.region ?_ | refine JL.nil ?_ | refine JE.next ?_)
            refine JC.cond rfl (fun _=>?_) (fun h=>by cases h)
            repeat (first | refine JL.q (by first|(apply OQ.an (vs:=[Z (34::r)]);exact jR;rfl;exact (fun w' _=>cQ w'))|(apply OQ.gj (b:=0);rfl;rfl;exact hq)|(apply OQ.move;rfl)|(apply OQ.assign;rfl)) rfl ?_ | refine JC.seq ?_ | refine JC.region ?_ | refine JL.nil ?_ | refine JE.next ?_)
            refine JC.cond rfl (fun h=>by cases h) (fun _=>?_)
            repeat (first | refine JC.skip ?_ | refine JE.next ?_ | refine JE.ag ?_)
            have hml : ((34::r).take m).length=m:=by rw [List.length_take,List.length_cons];omega
            have hdl : ((34::r).drop m).length=r.length+1 - m:=by rw [List.length_drop,List.length_cons]
            have hne : (34::r).take m≠[]:=fun h=>by rw [h] at hml;rw [List.length_nil] at hml;omega
            have hlm : m≤(34::r).length:=by rw [List.length_cons];omega
            let vs : Nat→X→Value:=fun j x=>match j with
              | 0=>.slice (some ⟨b,0,none⟩) o.length cap
              | 1=>Z (34::r)
              | 2=>N m
              | 3=>Z ((34::r).take m)
              | 5=>Z (34::r)
              | 6=>N m
              | 7=>Z ((34::r).drop m)
              | 9=>Z ((34::r).drop m)
              | _=>.slice (some ⟨x.1,0,none⟩) (o++(34::r).take m).length x.2
            let Ms : Nat→X→List aN:=fun j x=>match j with
              | 4=>[⟨x.1,Sl.aG 5 1 (o++(34::r).take m).length x.2 ((o++(34::r).take m).map U8),true⟩]
              | 10=>[⟨b,Sl.aG 5 1 o.length cap (o.map U8),true⟩]
              | _=>[]
            refine JC.sn (g:=⟨[(5,N m)],11,vs,Ms,wq,zk,zl,zm,fun j=>match j with | 0=>[(4,.slice (some ⟨b,0,none⟩) o.length cap)] | 1=>[(0,Z (34::r))] | 5=>[(0,Z (34::r))] | _=>[]⟩) [(8,4),(9,0)] [4] fD (by repeat (first | exact af.nil | refine af.cons _ _ _ rfl ?_)) (fun j _=>match j with | 0=>(by repeat (first | exact af.nil | refine af.cons _ _ _ rfl ?_)) | 1=>(by repeat (first | exact af.nil | refine af.cons _ _ _ rfl ?_)) | 2=>.nil | 3=>.nil | 4=>.nil | 5=>(by repeat (first | exact af.nil | refine af.cons _ _ _ rfl ?_)) | _+6=>.nil) (aq.refl _) (by kernel_rfl) (by kernel_rfl) (by kernel_rfl) ?_ ?_
            · refine ⟨?_,?_,?_,?_,?_,?_,?_,?_,?_,?_,trivial⟩
              iterate 4 (focus (intro x EF MF Q kk;(try refine JL.aU rfl rfl ?_);exact JL.q (by first|(apply OQ.dx;exact Tryz.underlying9;rfl;rfl;exact hlm)|(apply OQ.move;rfl)) rfl (JL.nil (kk default nofun))))
              · intro x EF MF Q kk
                refine JL.eY (M':=aL 5 (some (b,cap)) (o.map U8)++MF) ?_ (by show aq ([⟨b,Sl.aG 5 1 (o.map U8).length cap (o.map U8),true⟩]++MF) _;rw [List.length_map];exact aq.refl _)
                refine JL.gR (r:=(34::r).take m) (xs:=o.map U8) (M:=MF) (some (b,cap)) Tryz.underlying22 Tryz.underlying9 bQ (fun h=>by cases h) (by rw [List.length_map];rfl) rfl hne (by rw [List.length_map];omega) rfl fun p=>JL.nil ?_
                rw [← List.map_append,List.length_map,lu]
                exact kk p (fun k h=>by cases h)
              iterate 3 (focus (intro x EF MF Q kk;(try refine JL.aU rfl rfl ?_);exact JL.q (by first|(apply OQ.cc;exact Tryz.underlying9;rfl;rfl;exact hlm)|(apply OQ.move;rfl)) rfl (JL.nil (kk default nofun))))
              · intro x EF MF Q kk
                exact JL.q (OQ.assign rfl) rfl (JL.nil (kk (x 4) (fun k h=>by cases h;rfl)))
              · (intro x EF MF Q kk;(try refine JL.aU rfl rfl ?_);exact JL.q (by (apply OQ.assign;rfl)) rfl (JL.nil (kk default nofun)))
            · intro x hx'
              have h84:=hx' 8 4 (by decide) rfl
              show JE _ _ _ _ _ [(4,.slice (some ⟨(x 8).1,0,none⟩) (o++(34::r).take m).length (x 8).2),(0,Z ((34::r).drop m)),(5,N m)] [⟨(x 4).1,Sl.aG 5 1 (o++(34::r).take m).length (x 4).2 ((o++(34::r).take m).map U8),true⟩]
              rw [h84]
              obtain ⟨b',cap'⟩:=x 4
              clear hx' h84 x vs Ms
              dsimp only
              repeat (refine JE.ag ?_)
              exact JE.again (i:=zY.mk (34::r) o b cap) (zY.mk ((34::r).drop m) (o++(34::r).take m) b' cap') ⟨by dsimp only;rw [List.length_append];omega,hc⟩ (by dsimp only;rw [List.length_cons];omega) (by repeat (first | exact af.nil | refine af.cons _ _ _ rfl ?_)) (aq.refl _)
          · rw [tU o (by have:=of_decide_eq_true hq;omega)] at hc
            rw [hc]
            generalize bD r 1=m at cQ hq
            repeat (first | refine JL.q (by first|(apply i0;rfl;rfl)|(apply OQ.dg (b:=40);rfl;rfl;exact h40)|(apply OQ.move;rfl)|(apply OQ.assign;rfl)) rfl ?_ | refine JC.seq ?_ | refine JC.region ?_ | refine JC.block ?_ | refine JC.skip ?_ | refine JL.nil ?_ | refine JE.next ?_)
            refine JC.cond rfl (fun h=>by cases h) (fun _=>?_)
            repeat (first | refine JL.q (by first|(apply OQ.dg (b:=41);rfl;rfl;exact h41)|(apply OQ.assign;rfl)) rfl ?_ | refine JC.seq ?_ | refine JC.region ?_ | refine JL.nil ?_ | refine JE.next ?_)
            refine JC.cond rfl (fun h=>by cases h) (fun _=>?_)
            repeat (first | refine JL.q (by first|(apply OQ.dg (b:=34);rfl;rfl;exact h34)|(apply OQ.assign;rfl)) rfl ?_ | refine JC.seq ?_ | refine JC.region ?_ | refine JL.nil ?_ | refine JE.next ?_)
            refine JC.cond rfl (fun _=>?_) (fun h=>by cases h)
            repeat (first | refine JL.q (by first|(apply OQ.an (vs:=[Z (34::r)]);exact jR;rfl;exact (fun w' _=>cQ w'))|(apply OQ.gj (b:=0);rfl;rfl;exact hq)|(apply OQ.move;rfl)|(apply OQ.assign;rfl)) rfl ?_ | refine JC.seq ?_ | refine JC.region ?_ | refine JL.nil ?_ | refine JE.next ?_)
            refine JC.cond rfl (fun _=>?_) (fun h=>by cases h)
            repeat (first | refine JL.q (by (apply OQ.assign;rfl)) rfl ?_ | refine JC.seq ?_ | refine JC.region ?_ | refine JL.nil ?_ | refine JE.next ?_)
            refine JC.ret ?_
            repeat (first | refine JE.ah ?_ | refine JE.aW ?_)
            exact JE.bI rfl (RV.tmp rfl) (RV.tmp rfl) fun w' hw=>⟨rfl,hw.aS⟩
      · rw [of_decide_eq_true h41,j4,if_pos rfl] at hc
        rw [hc]
        repeat (first | refine JL.q (by first|(apply i0;rfl;rfl)|(apply OQ.dg (b:=40);rfl;rfl;exact h40)|(apply OQ.move;rfl)|(apply OQ.assign;rfl)) rfl ?_ | refine JC.seq ?_ | refine JC.region ?_ | refine JC.block ?_ | refine JC.skip ?_ | refine JL.nil ?_ | refine JE.next ?_)
        refine JC.cond rfl (fun h=>by cases h) (fun _=>?_)
        repeat (first | refine JL.q (by first|(apply OQ.dg (b:=41);rfl;rfl;exact h41)|(apply OQ.assign;rfl)) rfl ?_ | refine JC.seq ?_ | refine JC.region ?_ | refine JL.nil ?_ | refine JE.next ?_)
        refine JC.cond rfl (fun _=>?_) (fun h=>by cases h)
        repeat (first | refine JL.q (by (apply OQ.assign;rfl)) rfl ?_ | refine JC.seq ?_ | refine JC.region ?_ | refine JL.nil ?_ | refine JE.next ?_)
        refine JC.ret ?_
        repeat (first | refine JE.ah ?_ | refine JE.aW ?_)
        exact JE.bI rfl (RV.tmp rfl) (RV.tmp rfl) fun w' hw=>⟨rfl,hw.aS⟩
    · obtain rfl : c=40:=of_decide_eq_true h40
      have cC:=fun w'=>pF r w' (by omega)
      cases hcm : bM (40::r) 0 0 with
      | error e=>
        rw [hcm] at cC
        have he:=wu _ _ _ _ _ (Nat.le_refl _) hcm
        rw [tT o hcm] at hc
        rw [hc]
        repeat (first | refine JL.q (by first|(apply i0;rfl;rfl)|(apply OQ.dg (b:=40);rfl;rfl;exact h40)|(apply OQ.move;rfl)|(apply OQ.assign;rfl)) rfl ?_ | refine JC.seq ?_ | refine JC.region ?_ | refine JC.block ?_ | refine JC.skip ?_ | refine JL.nil ?_ | refine JE.next ?_)
        refine JC.cond rfl (fun _=>?_) (fun h=>by cases h)
        repeat (first | refine JL.q (by first|(apply OQ.an (vs:=[Z (40::r)]);exact iY;rfl;exact (fun w' _=>cC w'))|(apply OQ.extract;rfl;rfl)|(apply OQ.qA (b:=0);rfl;rfl;exact he)|(apply OQ.move;rfl)|(apply OQ.assign;rfl)) rfl ?_ | refine JC.seq ?_ | refine JC.region ?_ | refine JL.nil ?_ | refine JE.next ?_)
        refine JC.cond rfl (fun _=>?_) (fun h=>by cases h)
        repeat (first | refine JL.q (by first|(apply OQ.move;rfl)|(apply OQ.assign;rfl)) rfl ?_ | refine JC.seq ?_ | refine JC.region ?_ | refine JL.nil ?_ | refine JE.next ?_)
        refine JC.ret ?_
        repeat (first | refine JE.ah ?_ | refine JE.aW ?_)
        exact JE.bI rfl (RV.tmp rfl) (RV.tmp rfl) fun w' hw=>⟨rfl,hw.aS⟩
      | ok m=>
        rw [hcm] at cC
        obtain ⟨m0,m1,hb⟩:=nG o hcm
        rw [hb] at hc
        repeat (first | refine JL.q (by first|(apply i0;rfl;rfl)|(apply OQ.dg (b:=40);rfl;rfl;exact h40)|(apply OQ.move;rfl)|(apply OQ.assign;rfl)) rfl ?_ | refine JC.seq ?_ | refine JC.region ?_ | refine JC.block ?_ | refine JC.skip ?_ | refine JL.nil ?_ | refine JE.next ?_)
        refine JC.cond rfl (fun _=>?_) (fun h=>by cases h)
        repeat (first | refine JL.q (by first|(apply OQ.an (vs:=[Z (40::r)]);exact iY;rfl;exact (fun w' _=>cC w'))|(apply OQ.extract;rfl;rfl)|(apply OQ.qA (b:=0) (c:=true);rfl;rfl;rfl)|(apply OQ.move;rfl)|(apply OQ.assign;rfl)) rfl ?_ | refine JC.seq ?_ | refine JC.region ?_ | refine JL.nil ?_ | refine JE.next ?_)
        refine JC.cond rfl (fun h=>by cases h) (fun _=>?_)
        repeat (first | refine JC.seq ?_ | refine JC.skip ?_ | refine JE.next ?_)
        have hdl : ((40::r).drop m).length=r.length+1 - m:=by rw [List.length_drop,List.length_cons]
        have hlm : m≤(40::r).length:=by rw [List.length_cons];omega
        let vs : Nat→X→Value:=fun j x=>match j with
          | 0=>.slice (some ⟨b,0,none⟩) o.length cap
          | 1=>.slice (some ⟨x.1,0,none⟩) 1 1
          | 3=>Z (40::r)
          | 4=>N m
          | 5=>Z ((40::r).drop m)
          | 7=>Z ((40::r).drop m)
          | _=>.slice (some ⟨x.1,0,none⟩) (o++[32]).length x.2
        let Ms : Nat→X→List aN:=fun j x=>match j with
          | 1=>[⟨x.1,Row 5 [U8 32],true⟩]
          | 2=>[⟨x.1,Sl.aG 5 1 (o++[32]).length x.2 ((o++[32]).map U8),true⟩]
          | 8=>[⟨b,Sl.aG 5 1 o.length cap (o.map U8),true⟩]
          | _=>[]
        refine JC.sn (g:=⟨[(6,N m)],9,vs,Ms,zX,A5,A6,A7,fun j=>match j with | 0=>[(4,.slice (some ⟨b,0,none⟩) o.length cap)] | 3=>[(0,Z (40::r))] | _=>[]⟩) [(6,4),(7,0)] [2] fD (by repeat (first | exact af.nil | refine af.cons _ _ _ rfl ?_)) (fun j _=>match j with | 0=>(by repeat (first | exact af.nil | refine af.cons _ _ _ rfl ?_)) | 1=>.nil | 2=>.nil | 3=>(by repeat (first | exact af.nil | refine af.cons _ _ _ rfl ?_)) | _+4=>.nil) (aq.refl _) (by kernel_rfl) (by kernel_rfl) (by kernel_rfl) ?_ ?_
        · refine ⟨?_,?_,?_,?_,?_,?_,?_,?_,trivial⟩
          · (intro x EF MF Q kk;(try refine JL.aU rfl rfl ?_);exact JL.q (by (apply OQ.move;rfl)) rfl (JL.nil (kk default nofun)))
          · intro x EF MF Q kk
            exact JL.lV Tryz.underlying22 bQ rfl rfl rfl rfl fun b _=>JL.nil (kk (b,0) nofun)
          · intro x EF MF Q kk
            refine JL.eY (M':=aL 5 (some (b,cap)) (o.map U8)++⟨(x 1).1,Row 5 [U8 32],true⟩::MF) ?_ (by show aq ([⟨b,Sl.aG 5 1 (o.map U8).length cap (o.map U8),true⟩]++⟨(x 1).1,Row 5 [U8 32],true⟩::MF) _;rw [List.length_map];exact aq.refl _)
            refine JL.iV (cs:=[U8 32]) (m:=1) (ad:=some ⟨(x 1).1,0,none⟩) (sc:=1) (xs:=o.map U8) (M:=⟨(x 1).1,Row 5 [U8 32],true⟩::MF) (some (b,cap)) Tryz.underlying22 bQ (fun h=>by cases h) (by rw [List.length_map];rfl) rfl rfl (fun w' hw'=>?_) (fun v hv=>by rw [List.mem_singleton.1 hv];rfl) rfl (by rw [List.length_map];omega) (by rw [List.length_map];omega) rfl fun q' hq'=>JL.nil ?_
            · have hw' : aa _ _ (⟨b,Sl.aG 5 1 (o.map U8).length cap (o.map U8),true⟩::⟨(x 1).1,Row 5 [U8 32],true⟩::MF) w':=hw'
              obtain ⟨o',ho,hA⟩:=hw'.get (.there .here)
              exact Reads.block ho (Row.all _ hA)
            · cases q' with
              | none=>exact absurd (hq' rfl) (by simp)
              | some p=>
                rw [show o.map U8++[U8 32]=(o++[32]).map U8 by rw [List.map_append];rfl,List.length_map,lu]
                exact kk p (fun k h=>by cases h)
          iterate 3 (focus (intro x EF MF Q kk;(try refine JL.aU rfl rfl ?_);exact JL.q (by first|(apply OQ.cc;exact Tryz.underlying9;rfl;rfl;exact hlm)|(apply OQ.move;rfl)) rfl (JL.nil (kk default nofun))))
          · intro x EF MF Q kk
            exact JL.q (OQ.assign rfl) rfl (JL.nil (kk (x 2) (fun k h=>by cases h;rfl)))
          · (intro x EF MF Q kk;(try refine JL.aU rfl rfl ?_);exact JL.q (by (apply OQ.assign;rfl)) rfl (JL.nil (kk default nofun)))
        · intro x hx'
          have h84:=hx' 6 2 (by decide) rfl
          show JE _ _ _ _ _ [(4,.slice (some ⟨(x 6).1,0,none⟩) (o++[32]).length (x 6).2),(0,Z ((40::r).drop m)),(6,N m)] [⟨(x 2).1,Sl.aG 5 1 (o++[32]).length (x 2).2 ((o++[32]).map U8),true⟩]
          rw [h84]
          obtain ⟨b',cap'⟩:=x 2
          clear hx' h84 x vs Ms
          dsimp only
          repeat (first | refine JC.exit ?_ | refine JE.next ?_ | refine JE.av ?_ | refine JE.aF ?_ | refine JE.vD rfl ?_)
          exact JE.again (i:=zY.mk (40::r) o b cap) (zY.mk ((40::r).drop m) (o++[32]) b' cap') ⟨by dsimp only;rw [List.length_append,List.length_singleton];omega,hc⟩ (by dsimp only;rw [List.length_cons];omega) (by repeat (first | exact af.nil | refine af.cons _ _ _ rfl ?_)) (aq.refl _)
  · obtain rfl : r=[]:=of_decide_eq_true hr0
    rw [dn,if_neg (by decide)] at hc
    rw [hc]
    repeat (first | refine JL.q (by first|(apply OQ.iW (r:=[]);rfl;rfl;exact hr0)|(apply OQ.move;rfl)) rfl ?_ | refine JC.seq ?_ | refine JC.region ?_ | refine JL.nil ?_ | refine JE.next ?_)
    refine JC.cond rfl (fun h=>by cases h) (fun _=>?_)
    repeat (first | refine JL.q (by first|(apply OQ.qQ (s:=⟨some ⟨b,0,none⟩,cap,o⟩);exact Tryz.underlying22;exact Tryz.underlying5;exact Tryz.underlying9;rfl;exact (fun w' hw'=>b8 hw' .here))|(apply OQ.move;rfl)|(apply OQ.assign;rfl)) rfl ?_ | refine JC.seq ?_ | refine JC.region ?_ | refine JC.exit ?_ | refine JL.nil ?_ | refine JE.next ?_ | refine JE.av ?_ | refine JE.aF ?_)
    refine JC.ret ?_
    exact JE.bI rfl (RV.tmp rfl) (RV.tmp rfl) fun w' hw=>⟨rfl,hw.aS⟩
end
section
set_option maxRecDepth 10000
open Sl aI Go.Shelf
def lz : Ren:=⟨fun | 159=>182 | 165=>160 | 166=>161 | 167=>223 | 169=>163 | 230=>224 | 204=>225 | 240=>194 | 241=>195 | 197=>165 | 118=>249 | 168=>250 | 270=>251 | 262=>252 | 276=>230 | 277=>231 | 260=>196 | 242=>270 | 313=>271 | 278=>279 | 274=>280 | 275=>281 | n=>n,
  fun | 9=>9 | 4=>4 | 3=>3 | 5=>5 | 72=>224 | 0=>0 | 76=>160 | 75=>159 | 107=>272 | 70=>222 | 20=>20 | 37=>22 | 127=>250 | 21=>21 | 105=>225 | 164=>277 | 162=>311 | 203=>309 | 119=>280 | 46=>189 | 139=>283 | 138=>282 | 51=>176 | 160=>320 | 208=>329 | 206=>327 | 80=>132 | n=>n,
  fun | 13=>6 | 3=>3 | 4=>4 | n=>n⟩
theorem yu : Lays.n159 Tryz.prog lz:={
  mixed:=by kernel_rfl
  f118:=Tryz.func249.trans (congrArg some (by kernel_rfl))
  f159:=Tryz.func182.trans (congrArg some (by kernel_rfl))
  f165:=Tryz.func160.trans (congrArg some (by kernel_rfl))
  f166:=Tryz.func161.trans (congrArg some (by kernel_rfl))
  f167:=Tryz.func223.trans (congrArg some (by kernel_rfl))
  f168:=Tryz.func250.trans (congrArg some (by kernel_rfl))
  f169:=Tryz.func163.trans (congrArg some (by kernel_rfl))
  f197:=Tryz.func165.trans (congrArg some (by kernel_rfl))
  f204:=Tryz.func225.trans (congrArg some (by kernel_rfl))
  f230:=Tryz.func224.trans (congrArg some (by kernel_rfl))
  f240:=Tryz.func194.trans (congrArg some (by kernel_rfl))
  f241:=Tryz.func195.trans (congrArg some (by kernel_rfl))
  f242:=Tryz.func270.trans (congrArg some (by kernel_rfl))
  f260:=Tryz.func196.trans (congrArg some (by kernel_rfl))
  f262:=Tryz.func252.trans (congrArg some (by kernel_rfl))
  f270:=Tryz.func251.trans (congrArg some (by kernel_rfl))
  f274:=Tryz.func280.trans (congrArg some (by kernel_rfl))
  f275:=Tryz.func281.trans (congrArg some (by kernel_rfl))
  f276:=Tryz.func230.trans (congrArg some (by kernel_rfl))
  f277:=Tryz.func231.trans (congrArg some (by kernel_rfl))
  f278:=Tryz.func279.trans (congrArg some (by kernel_rfl))
  f313:=Tryz.func271.trans (congrArg some (by kernel_rfl))
  t0:=Tryz.underlying0
  a0:=Tryz.isAgg0
  z0:=Tryz.sizeOf0
  v0:=Tryz.zeroValue0
  t3:=Tryz.underlying3
  a3:=Tryz.isAgg3
  z3:=Tryz.sizeOf3
  v3:=Tryz.zeroValue3
  t4:=Tryz.underlying4
  a4:=Tryz.isAgg4
  z4:=Tryz.sizeOf4
  v4:=Tryz.zeroValue4
  t5:=Tryz.underlying5
  a5:=Tryz.isAgg5
  z5:=Tryz.sizeOf5
  v5:=Tryz.zeroValue5
  t9:=Tryz.underlying9
  a9:=Tryz.isAgg9
  z9:=Tryz.sizeOf9
  v9:=Tryz.zeroValue9
  t20:=Tryz.underlying20
  a20:=Tryz.isAgg20
  z20:=Tryz.sizeOf20
  v20:=Tryz.zeroValue20
  t21:=Tryz.underlying21
  a21:=Tryz.isAgg21
  z21:=Tryz.sizeOf21
  v21:=Tryz.zeroValue21
  t37:=Tryz.underlying22
  a37:=Tryz.isAgg22
  z37:=Tryz.sizeOf22
  v37:=Tryz.zeroValue22
  t46:=Tryz.underlying189
  a46:=Tryz.isAgg189
  z46:=Tryz.sizeOf189
  v46:=Tryz.zeroValue189
  t51:=Tryz.underlying176
  a51:=Tryz.isAgg176
  z51:=Tryz.sizeOf176
  v51:=Tryz.zeroValue176
  t70:=Tryz.underlying222
  a70:=Tryz.isAgg222
  z70:=Tryz.sizeOf222
  v70:=Tryz.zeroValue222
  t72:=Tryz.underlying224
  a72:=Tryz.isAgg224
  z72:=Tryz.sizeOf224
  v72:=Tryz.zeroValue224
  t75:=Tryz.underlying159
  a75:=Tryz.isAgg159
  z75:=Tryz.sizeOf159
  v75:=Tryz.zeroValue159
  t76:=Tryz.underlying160
  a76:=Tryz.isAgg160
  z76:=Tryz.sizeOf160
  v76:=Tryz.zeroValue160
  t105:=Tryz.underlying225
  a105:=Tryz.isAgg225
  z105:=Tryz.sizeOf225
  v105:=Tryz.zeroValue225
  t107:=Tryz.underlying272
  a107:=Tryz.isAgg272
  z107:=Tryz.sizeOf272
  v107:=Tryz.zeroValue272
  t119:=Tryz.underlying280
  a119:=Tryz.isAgg280
  z119:=Tryz.sizeOf280
  t127:=Tryz.underlying250
  a127:=Tryz.isAgg250
  z127:=Tryz.sizeOf250
  v127:=Tryz.zeroValue250
  t138:=Tryz.underlying282
  a138:=Tryz.isAgg282
  z138:=Tryz.sizeOf282
  v138:=Tryz.zeroValue282
  t139:=Tryz.underlying283
  a139:=Tryz.isAgg283
  z139:=Tryz.sizeOf283
  v139:=Tryz.zeroValue283
  t160:=Tryz.underlying320
  a160:=Tryz.isAgg320
  z160:=Tryz.sizeOf320
  v160:=Tryz.zeroValue320
  t162:=Tryz.underlying311
  a162:=Tryz.isAgg311
  z162:=Tryz.sizeOf311
  v162:=Tryz.zeroValue311
  t164:=Tryz.underlying277
  a164:=Tryz.isAgg277
  z164:=Tryz.sizeOf277
  v164:=Tryz.zeroValue277
  t203:=Tryz.underlying309
  a203:=Tryz.isAgg309
  z203:=Tryz.sizeOf309
  v203:=Tryz.zeroValue309
  t206:=Tryz.underlying327
  a206:=Tryz.isAgg327
  z206:=Tryz.sizeOf327
  v206:=Tryz.zeroValue327
  t208:=Tryz.underlying329
  a208:=Tryz.isAgg329
  z208:=Tryz.sizeOf329
  v208:=Tryz.zeroValue329
  g3:=by kernel_rfl
  g4:=by kernel_rfl
  g13:=by kernel_rfl }
theorem BI : Builder.Extra Tryz.prog lz:={
  sizeBuilder:=by kernel_rfl
  liesBuilder:=by kernel_rfl
  t5:=Tryz.underlying5
  a5:=Tryz.isAgg5
  z5:=Tryz.sizeOf5
  v5:=Tryz.zeroValue5
  infoByte:=by kernel_rfl
  cellsByte:=by kernel_rfl
  sizeByte:=by kernel_rfl
  neB5:=by decide }
theorem zZ (l : List aI.By) : Go.Lib.toLowerA (aI.bH l)=aI.bH (l.map small):=by
  have h : ∀ c : Fin 256,Go.Lib.lowerB (UInt8.ofBitVec (BitVec.ofNat 8 c.val))=UInt8.ofBitVec (small (BitVec.ofNat 8 c.val)):=by decide +kernel
  unfold Go.Lib.toLowerA aI.bH
  rw [List.map_map,List.map_map]
  refine List.map_congr_left fun c _=>?_
  simpa using h ⟨c.toNat,c.isLt⟩
theorem lA : aO Tryz.prog 182:=⟨_,Tryz.func182,rfl,by kernel_rfl⟩
theorem mJ (s : List Bt) (w : World) (hl : s.length≤140737488355328) (hs : ∀ c ∈ s,c.toNat<128) : Calls Tryz.prog 182 [Z s].toArray w fun e w'=>e=.returned (Z (s.map small))∧Ext w w':=
  (Any.strings_ToLower_ascii yu BI (bz s) w (by rw [bt];exact hl) (fun j b hb=>by
    rw [eK] at hb
    obtain ⟨c,hc,rfl⟩:=List.mem_map.1 (List.mem_of_getElem? hb)
    exact hs c hc)).mono fun e w' ⟨h1,h2⟩=>⟨by rw [h1,eK,zZ,sC],mD h2⟩
namespace aI
def fm (c : aI.By) : List aI.By→List (List aI.By)
  | []=>[[]]
  | d::r=>if d=c then []::fm c r else match fm c r with
    | []=>[[d]]
    | x::L=>(d::x)::L
theorem q8 (c : aI.By) : ∀ s,fm c s≠[]
  | []=>by simp [fm]
  | d::r=>by
    unfold fm
    split
    · simp
    · split <;> simp
theorem pG {c : aI.By} : ∀ {s : List aI.By},fi c s=s.length→fm c s=[s]
  | [],_=>rfl
  | d::r,h=>by
    rw [eG] at h
    by_cases hd : d=c
    · rw [if_pos hd] at h;simp at h
    · rw [if_neg hd] at h
      rw [fm,if_neg hd,pG (s:=r) (by simpa using h)]
theorem pH {c : aI.By} : ∀ {s : List aI.By},fi c s<s.length→fm c s=s.take (fi c s)::fm c (s.drop (fi c s+1))
  | [],h=>by simp [fi] at h
  | d::r,h=>by
    by_cases hd : d=c
    · rw [eG,if_pos hd,fm,if_pos hd]
      rfl
    · rw [eG,if_neg hd] at h ⊢
      rw [fm,if_neg hd,pH (s:=r) (by simpa using h)]
      rfl
theorem wv (c : aI.By) (s : List aI.By) : Go.Lib.index (aI.bH s) (aI.bH [c])=jk c s:=by
  show Go.Lib.index (aI.bH s) [UInt8.ofBitVec c]=_
  rw [Go.Lib.index_one,sI]
where
  sI {c : aI.By} : ∀ {l : List aI.By},Go.Lib.indexByte (aI.bH l) (UInt8.ofBitVec c)=jk c l
  | []=>rfl
  | d::r=>by
    show (if (UInt8.ofBitVec d == UInt8.ofBitVec c) then 0 else if Go.Lib.indexByte (aI.bH r) (UInt8.ofBitVec c) == -1 then -1 else Go.Lib.indexByte (aI.bH r) (UInt8.ofBitVec c)+1 : Int)=_
    rw [sI (c:=c) (l:=r)]
    unfold jk
    rw [eG]
    have hb : (UInt8.ofBitVec d == UInt8.ofBitVec c)=decide (d=c):=by
      by_cases h : d=c
      · subst h;simp
      · rw [decide_eq_false h]
        exact beq_eq_false_iff_ne.2 fun k=>h (congrArg UInt8.toBitVec k)
    rw [hb]
    by_cases hd : d=c
    · simp [hd]
    · simp only [hd,decide_false,Bool.false_eq_true,if_false,List.length_cons,Nat.add_lt_add_iff_right]
      by_cases h : fi c r<r.length
      · simp only [h,if_true]
        rw [if_neg (by rw [beq_iff_eq];omega)]
        omega
      · simp only [h,if_false]
        rfl
theorem jF (c : aI.By) : ∀ s : List aI.By,(aI.bH s).count (UInt8.ofBitVec c)=s.count c
  | []=>rfl
  | d::r=>by
    show (UInt8.ofBitVec d::aI.bH r).count _=_
    rw [List.count_cons,List.count_cons,jF c r]
    congr 1
    by_cases h : d=c
    · subst h;simp
    · have h2 : ¬ UInt8.ofBitVec d=UInt8.ofBitVec c:=fun k=>h (congrArg UInt8.toBitVec k)
      rw [if_neg (by simpa using h2),if_neg (by simpa using h)]
theorem gI {c : aI.By} : ∀ {s : List aI.By},(s.count c=0→fi c s=s.length)∧(s.count c≠0→fi c s<s.length∧s.count c=(s.drop (fi c s+1)).count c+1)
  | []=>by simp [fi]
  | d::r=>by
    obtain ⟨h1,h2⟩:=gI (c:=c) (s:=r)
    rw [eG,List.count_cons]
    by_cases hd : d=c
    · subst hd
      simp
    · have hdb : (d == c)=false:=beq_eq_false_iff_ne.2 hd
      simp only [hdb,hd,if_false,Bool.false_eq_true,Nat.add_zero,List.length_cons,Nat.add_lt_add_iff_right,List.drop_succ_cons]
      exact ⟨fun h=>by rw [h1 h],h2⟩
theorem mK (c : aI.By) : ∀ (k : Nat) (s : List aI.By),s.count c=k→Go.Lib.splitK (aI.bH [c]) 0 k (aI.bH s)=(fm c s).map aI.bH
  | 0,s,h=>by
    rw [pG (gI.1 h)]
    rfl
  | k+1,s,h=>by
    obtain ⟨h1,h2⟩:=(gI (c:=c) (s:=s)).2 (by omega)
    have hi : Go.Lib.index (aI.bH s) (aI.bH [c])=(fi c s : Nat):=by rw [wv,jk,if_pos h1]
    have hd : (aI.bH s).drop (fi c s+1)=aI.bH (s.drop (fi c s+1)):=by unfold aI.bH;rw [List.map_drop]
    have ht : (aI.bH s).take (fi c s)=aI.bH (s.take (fi c s)):=by unfold aI.bH;rw [List.map_take]
    show (if Go.Lib.index (aI.bH s) (aI.bH [c]) == -1 then [aI.bH s] else (aI.bH s).take ((Go.Lib.index (aI.bH s) (aI.bH [c])).toNat+0)::Go.Lib.splitK (aI.bH [c]) 0 k ((aI.bH s).drop ((Go.Lib.index (aI.bH s) (aI.bH [c])).toNat+(aI.bH [c]).length)))=_
    rw [hi,if_neg (by rw [beq_iff_eq];omega),Int.toNat_natCast,Nat.add_zero,show (aI.bH [c]).length=1 from rfl,hd,ht,mK c k _ (by omega),pH h1]
    rfl
end aI
theorem pI (c : Bt) (s : List Bt) : (Go.Lib.splitB (bz [c]) 0 (s.count c) (bz s)).map Value.string=(fm c s).map Z:=by
  have h1:=Go.Lib.splitB_data (bz [c]) 0 (s.count c) (bz s)
  rw [eK,eK,mK c _ s rfl] at h1
  have h2:=congrArg (List.map fun l : List UInt8=>Value.string ⟨l.toArray⟩) h1
  rw [List.map_map,List.map_map] at h2
  exact h2
def iZ : Ren:=⟨fun | 221=>93 | 268=>129 | 138=>130 | 143=>131 | 195=>164 | 197=>165 | 218=>166 | 219=>167 | 260=>196 | 217=>197 | 225=>198 | 224=>184 | 267=>199 | 266=>232 | 314=>233 | n=>n,
  fun | 9=>9 | 3=>3 | 31=>30 | 4=>4 | 0=>0 | 105=>225 | 21=>21 | 5=>5 | 46=>189 | 119=>280 | 139=>283 | 138=>282 | 146=>246 | 51=>176 | n=>n,
  fun | 1=>0 | 3=>3 | 4=>4 | n=>n⟩
theorem jG : Lays.n221 Tryz.prog iZ:={
  mixed:=by kernel_rfl
  f138:=Tryz.func130.trans (congrArg some (by kernel_rfl))
  f143:=Tryz.func131.trans (congrArg some (by kernel_rfl))
  f195:=Tryz.func164.trans (congrArg some (by kernel_rfl))
  f197:=Tryz.func165.trans (congrArg some (by kernel_rfl))
  f217:=Tryz.func197.trans (congrArg some (by kernel_rfl))
  f218:=Tryz.func166.trans (congrArg some (by kernel_rfl))
  f219:=Tryz.func167.trans (congrArg some (by kernel_rfl))
  f221:=Tryz.func93.trans (congrArg some (by kernel_rfl))
  f224:=Tryz.func184.trans (congrArg some (by kernel_rfl))
  f225:=Tryz.func198.trans (congrArg some (by kernel_rfl))
  f260:=Tryz.func196.trans (congrArg some (by kernel_rfl))
  f266:=Tryz.func232.trans (congrArg some (by kernel_rfl))
  f267:=Tryz.func199.trans (congrArg some (by kernel_rfl))
  f268:=Tryz.func129.trans (congrArg some (by kernel_rfl))
  f314:=Tryz.func233.trans (congrArg some (by kernel_rfl))
  t0:=Tryz.underlying0
  a0:=Tryz.isAgg0
  z0:=Tryz.sizeOf0
  v0:=Tryz.zeroValue0
  t3:=Tryz.underlying3
  a3:=Tryz.isAgg3
  z3:=Tryz.sizeOf3
  v3:=Tryz.zeroValue3
  t4:=Tryz.underlying4
  a4:=Tryz.isAgg4
  z4:=Tryz.sizeOf4
  v4:=Tryz.zeroValue4
  t5:=Tryz.underlying5
  a5:=Tryz.isAgg5
  z5:=Tryz.sizeOf5
  v5:=Tryz.zeroValue5
  t9:=Tryz.underlying9
  a9:=Tryz.isAgg9
  z9:=Tryz.sizeOf9
  v9:=Tryz.zeroValue9
  t21:=Tryz.underlying21
  a21:=Tryz.isAgg21
  z21:=Tryz.sizeOf21
  v21:=Tryz.zeroValue21
  t31:=Tryz.underlying30
  a31:=Tryz.isAgg30
  z31:=Tryz.sizeOf30
  v31:=Tryz.zeroValue30
  t46:=Tryz.underlying189
  a46:=Tryz.isAgg189
  z46:=Tryz.sizeOf189
  v46:=Tryz.zeroValue189
  t51:=Tryz.underlying176
  a51:=Tryz.isAgg176
  z51:=Tryz.sizeOf176
  v51:=Tryz.zeroValue176
  t105:=Tryz.underlying225
  a105:=Tryz.isAgg225
  z105:=Tryz.sizeOf225
  v105:=Tryz.zeroValue225
  t119:=Tryz.underlying280
  a119:=Tryz.isAgg280
  z119:=Tryz.sizeOf280
  t138:=Tryz.underlying282
  a138:=Tryz.isAgg282
  z138:=Tryz.sizeOf282
  v138:=Tryz.zeroValue282
  t139:=Tryz.underlying283
  a139:=Tryz.isAgg283
  z139:=Tryz.sizeOf283
  v139:=Tryz.zeroValue283
  t146:=Tryz.underlying246
  a146:=Tryz.isAgg246
  z146:=Tryz.sizeOf246
  v146:=Tryz.zeroValue246
  g1:=by kernel_rfl
  g3:=by kernel_rfl
  g4:=by kernel_rfl }
theorem A8 : (Tryz.prog.info? (iZ.t 9)).map (fun i=>(i.zero,i.size,i.bytes))=some (some (.string ByteArray.empty),1,16):=by kernel_rfl
theorem ua : aO Tryz.prog 93:=⟨_,Tryz.func93,rfl,by kernel_rfl⟩
theorem uc : aO Tryz.prog 221:=⟨_,Tryz.func221,rfl,by kernel_rfl⟩
theorem wz (s : List Bt) (c : Bt) (w : World) (hl : s.length<4294967281) : Calls Tryz.prog 93 [Z s,Z [c],N 0,I (-1)].toArray w fun e w'=>
    ∃ b,e=.returned (.slice (some ⟨b,0,none⟩) (fm c s).length (fm c s).length)∧aa w [] [⟨b,Row 9 ((fm c s).map Z),true⟩] w':=by
  have hcnt : Go.Lib.countB (bz s) (bz [c])=s.count c:=by
    show Go.Lib.count (aI.bH s) [UInt8.ofBitVec c]=_
    rw [Go.Lib.count_one,jF]
  have hcle : s.count c≤s.length:=List.count_le_length
  have hlen : (Go.Lib.splitB (bz [c]) 0 (s.count c) (bz s)).length=s.count c+1:=Go.Lib.splitB_all (bz [c]) (by rw [bt];exact Nat.le_refl _) 0 _ (bz s) hcnt
  have hlen2 : (fm c s).length=s.count c+1:=by
    have:=congrArg List.length (pI c s)
    rw [List.length_map,List.length_map,hlen] at this
    exact this.symm
  have:=Any.strings_genSplit_core jG A8 (bz s) (bz [c]) 0 (-1) (s.count c+1) w (by rw [bt];exact hl) (by rw [bt];exact Nat.le_refl _) (Nat.zero_le _)
    (fun x cs hx=>(Any.strings_Index_one { jG with } x (UInt8.ofBitVec c) _).mono fun e w' ⟨h1,h2⟩=>⟨by
      rw [h1]
      show Ending.returned (Value.int .i64 (Go.Lib.indexByte x.data.toList (UInt8.ofBitVec c)))=Ending.returned (Value.int .i64 (Go.Lib.index x.data.toList [UInt8.ofBitVec c]))
      rw [Go.Lib.index_one],h2⟩)
    ((Any.strings_Count_one { jG with } (bz s) (UInt8.ofBitVec c) w).mono fun e w' ⟨h1,h2⟩=>⟨by
      rw [h1]
      show Ending.returned (Value.int .i64 (((aI.bH s).count (UInt8.ofBitVec c) : Nat) : Int))=Ending.returned (Value.int .i64 ((Go.Lib.countB (bz s) (bz [c]) : Nat) : Int))
      rw [hcnt,jF],h2⟩) (by decide) (by decide) (by
        rw [if_pos (by decide),hcnt,bt]
        omega)
  refine this.mono fun e w' ⟨h1,h2⟩=>⟨w.heap.size,?_,?_⟩
  · rw [h1,Nat.add_sub_cancel,hlen,hlen2]
  · rw [h2,Nat.add_sub_cancel]
    have e1 : Go.Lib.cellsOf (Go.Lib.splitB (bz [c]) 0 (s.count c) (bz s)) (s.count c+1)=((fm c s).map Z).toArray:=by
      rw [← hlen,Go.Lib.cellsOf_full,pI]
    rw [e1]
    exact (aa.start w []).push (.cells ((fm c s).map Z).toArray 9 (0,0)) rfl rfl rfl rfl rfl
theorem wA (s : List Bt) (c : Bt) (w : World) (hl : s.length<4294967281) : Calls Tryz.prog 221 [Z s,Z [c]].toArray w fun e w'=>
    ∃ b,e=.returned (.slice (some ⟨b,0,none⟩) (fm c s).length (fm c s).length)∧aa w [] [⟨b,Row 9 ((fm c s).map Z),true⟩] w':=by
  refine enter (n:=8) Tryz.func221 rfl rfl rfl (aa.start w []) ?_
  repeat (first | refine JL.q (by first|(apply OQ.move;rfl)|(apply OQ.assign;rfl)) rfl ?_ | refine JC.seq ?_ | refine JC.region ?_ | refine JL.nil ?_ | refine JE.next ?_)
  refine JL.cE (ι:=Nat) (vs:=[Z s,Z [c],N 0,I (-1)]) (fun b=>.slice (some ⟨b,0,none⟩) (fm c s).length (fm c s).length) (fun b=>[⟨b,Row 9 ((fm c s).map Z),true⟩]) ua rfl rfl (fun b e he=>by rw [List.mem_singleton.1 he]) (fun w' _=>wz s c w' hl) fun b=>?_
  repeat (first | refine JL.q (by (apply OQ.assign;rfl)) rfl ?_ | refine JL.nil ?_ | refine JE.next ?_)
  exact JC.ret (JE.aC rfl (RV.tmp rfl) fun w' hw=>⟨b,rfl,hw⟩)
theorem pJ : aO Tryz.prog 193:=⟨_,Tryz.func193,rfl,by kernel_rfl⟩
theorem pK : aO Tryz.prog 242:=⟨_,Tryz.func242,rfl,by kernel_rfl⟩
theorem pL : aO Tryz.prog 246:=⟨_,Tryz.func246,rfl,by kernel_rfl⟩
theorem pM : aO Tryz.prog 218:=⟨_,Tryz.func218,rfl,by kernel_rfl⟩
theorem pN : aO Tryz.prog 178:=⟨_,Tryz.func178,rfl,by kernel_rfl⟩
theorem yw (s : List aI.By) (c : aI.By) : decide (s.head?=some c)=(decide ((1 : Int)≤(s.length : Int)) && decide (s.take 1=[c])):=by
  cases s with
  | nil=>simp
  | cons d r=>
    simp
    intro _
    omega
theorem yx (s : List aI.By) (c : aI.By) : decide (s.getLast?=some c)=(decide ((1 : Int)≤(s.length : Int)) && decide (s.drop (s.length - 1)=[c])):=by
  rcases List.eq_nil_or_concat s with rfl | ⟨r,d,rfl⟩
  · simp
  · simp
    intro _
    omega
set_option maxHeartbeats 2000000 in
theorem yy (s : List Bt) (c : Bt) (w : World) : Calls Tryz.prog 193 [Z s,Z [c]].toArray w fun e w'=>e=.returned (.bool (decide (s.head?=some c)))∧Ext w w':=by
  refine enter (n:=18) Tryz.func193 rfl rfl rfl (aa.start w []) ?_
  rw [yw]
  cases h1 : decide ((1 : Int)≤(s.length : Int))
  · repeat (first | refine JL.q (by first|(apply OQ.bC;exact Tryz.underlying9;rfl)|(apply OQ.dK (b:=1);rfl;rfl;exact h1)|(apply OQ.au;rfl;rfl)|(apply OQ.move;rfl)|(apply OQ.assign;rfl)) rfl ?_ | refine JC.seq ?_ | refine JC.region ?_ | refine JL.nil ?_ | refine JE.next ?_ | refine JL.aM rfl rfl rfl rfl ?_)
    exact JC.ret (JE.aC rfl (RV.tmp rfl) fun w' hw=>⟨rfl,hw.aS⟩)
  · have hle : 1≤s.length:=by have:=of_decide_eq_true h1;omega
    cases h2 : decide (s.take 1=[c])
    all_goals (repeat (first | refine JL.q (by first|(apply OQ.bC;exact Tryz.underlying9;rfl)|(apply OQ.dK (b:=1);rfl;rfl;exact h1)|(apply OQ.dx (j:=1);exact Tryz.underlying9;rfl;rfl;exact hle)|(apply OQ.fX;rfl;rfl;exact h2)|(apply OQ.ay;rfl;rfl)|(apply OQ.move;rfl)|(apply OQ.assign;rfl)) rfl ?_ | refine JC.seq ?_ | refine JC.region ?_ | refine JL.nil ?_ | refine JE.next ?_ | refine JL.aU rfl rfl ?_))
    all_goals exact JC.ret (JE.aC rfl (RV.tmp rfl) fun w' hw=>⟨rfl,hw.aS⟩)
def A9 (c : Bt) (s : List Bt) : Value:=if s.head?=some c then .tuple #[Z s.tail,.bool true] else .tuple #[Z s,.bool false]
theorem yz (s : List Bt) (c : Bt) (w : World) : Calls Tryz.prog 242 [Z s,Z [c]].toArray w fun e w'=>e=.returned (A9 c s)∧Ext w w':=by
  refine enter (n:=15) Tryz.func242 rfl rfl rfl (aa.start w []) ?_
  have hq:=fun w'=>yy s c w'
  unfold A9
  by_cases h : s.head?=some c
  · simp only [h,decide_true,if_true] at hq ⊢
    have hle : 1≤s.length:=by
      cases s with
      | nil=>cases h
      | cons d r=>simp
    repeat (first | refine JL.q (by first|(apply OQ.an (vs:=[Z s,Z [c]]);exact pJ;rfl;exact (fun w' _=>hq w'))|(apply OQ.not;rfl)|(apply OQ.move;rfl)|(apply OQ.assign;rfl)) rfl ?_ | refine JC.seq ?_ | refine JC.region ?_ | refine JL.nil ?_ | refine JE.next ?_)
    refine JC.cond rfl (fun h=>by cases h) (fun _=>?_)
    repeat (first | refine JL.q (by first|(apply OQ.bC;exact Tryz.underlying9;rfl)|(apply OQ.cc (i:=1);exact Tryz.underlying9;rfl;rfl;exact hle)|(apply OQ.move;rfl)|(apply OQ.assign;rfl)) rfl ?_ | refine JC.seq ?_ | refine JC.region ?_ | refine JC.skip ?_ | refine JL.nil ?_ | refine JE.next ?_)
    refine JC.ret ?_
    skip
    refine JE.bI rfl (RV.tmp rfl) (RV.tmp rfl) fun w' hw=>⟨?_,hw.aS⟩
    rw [List.drop_one]
  · simp only [h,decide_false,if_false] at hq ⊢
    repeat (first | refine JL.q (by first|(apply OQ.an (vs:=[Z s,Z [c]]);exact pJ;rfl;exact (fun w' _=>hq w'))|(apply OQ.not;rfl)|(apply OQ.move;rfl)|(apply OQ.assign;rfl)) rfl ?_ | refine JC.seq ?_ | refine JC.region ?_ | refine JL.nil ?_ | refine JE.next ?_)
    refine JC.cond rfl (fun _=>?_) (fun h=>by cases h)
    repeat (first | refine JL.q (by first|(apply OQ.move;rfl)|(apply OQ.assign;rfl)) rfl ?_ | refine JC.seq ?_ | refine JC.region ?_ | refine JL.nil ?_ | refine JE.next ?_)
    refine JC.ret ?_
    repeat (refine JE.ah ?_)
    exact JE.bI rfl (RV.tmp rfl) (RV.tmp rfl) fun w' hw=>⟨rfl,hw.aS⟩
theorem yA (s : List Bt) (c : Bt) (w : World) : Calls Tryz.prog 208 [Z s,Z [c]].toArray w fun e w'=>e=.returned (A9 c s)∧Ext w w':=by
  refine enter (n:=11) Tryz.func208 rfl rfl rfl (aa.start w []) ?_
  have hq:=fun w'=>yz s c w'
  unfold A9 at hq ⊢
  by_cases h : s.head?=some c
  · simp only [h,if_true] at hq ⊢
    repeat (first | refine JL.q (by first|(apply OQ.an (vs:=[Z s,Z [c]]);exact pK;rfl;exact (fun w' _=>hq w'))|(apply OQ.extract;rfl;rfl)|(apply OQ.move;rfl)|(apply OQ.assign;rfl)) rfl ?_ | refine JC.seq ?_ | refine JC.region ?_ | refine JL.nil ?_ | refine JE.next ?_)
    exact JC.ret (JE.bI rfl (RV.tmp rfl) (RV.tmp rfl) fun w' hw=>⟨rfl,hw.aS⟩)
  · simp only [h,if_false] at hq ⊢
    repeat (first | refine JL.q (by first|(apply OQ.an (vs:=[Z s,Z [c]]);exact pK;rfl;exact (fun w' _=>hq w'))|(apply OQ.extract;rfl;rfl)|(apply OQ.move;rfl)|(apply OQ.assign;rfl)) rfl ?_ | refine JC.seq ?_ | refine JC.region ?_ | refine JL.nil ?_ | refine JE.next ?_)
    exact JC.ret (JE.bI rfl (RV.tmp rfl) (RV.tmp rfl) fun w' hw=>⟨rfl,hw.aS⟩)
set_option maxHeartbeats 2000000 in
theorem yB (s : List Bt) (c : Bt) (w : World) (hl : s.length<9223372036854775808) : Calls Tryz.prog 246 [Z s,Z [c]].toArray w fun e w'=>e=.returned (.bool (decide (s.getLast?=some c)))∧Ext w w':=by
  refine enter (n:=21) Tryz.func246 rfl rfl rfl (aa.start w []) ?_
  rw [yx]
  cases h1 : decide ((1 : Int)≤(s.length : Int))
  · repeat (first | refine JL.q (by first|(apply OQ.bC;exact Tryz.underlying9;rfl)|(apply OQ.dK (b:=1);rfl;rfl;exact h1)|(apply OQ.au;rfl;rfl)|(apply OQ.move;rfl)|(apply OQ.assign;rfl)) rfl ?_ | refine JC.seq ?_ | refine JC.region ?_ | refine JL.nil ?_ | refine JE.next ?_ | refine JL.aM rfl rfl rfl rfl ?_)
    exact JC.ret (JE.aC rfl (RV.tmp rfl) fun w' hw=>⟨rfl,hw.aS⟩)
  · have hle : 1≤s.length:=by have:=of_decide_eq_true h1;omega
    have hsub : s.length - 1≤s.length:=Nat.sub_le _ _
    cases h2 : decide (s.drop (s.length - 1)=[c])
    all_goals (repeat (first | refine JL.q (by first|(apply OQ.bC;exact Tryz.underlying9;rfl)|(apply OQ.dK (b:=1);rfl;rfl;exact h1)|(apply OQ.eu (b:=1);rfl;rfl;exact hle;exact hl)|(apply OQ.cc (i:=s.length - 1);exact Tryz.underlying9;rfl;rfl;exact hsub)|(apply OQ.fX;rfl;rfl;exact h2)|(apply OQ.ay;rfl;rfl)|(apply OQ.move;rfl)|(apply OQ.assign;rfl)) rfl ?_ | refine JC.seq ?_ | refine JC.region ?_ | refine JL.nil ?_ | refine JE.next ?_ | refine JL.aU rfl rfl ?_))
    all_goals exact JC.ret (JE.aC rfl (RV.tmp rfl) fun w' hw=>⟨rfl,hw.aS⟩)
def zn (c : Bt) (s : List Bt) : Value:=if s.getLast?=some c then .tuple #[Z s.dropLast,.bool true] else .tuple #[Z s,.bool false]
theorem yC (s : List Bt) (c : Bt) (w : World) (hl : s.length<9223372036854775808) : Calls Tryz.prog 218 [Z s,Z [c]].toArray w fun e w'=>e=.returned (zn c s)∧Ext w w':=by
  refine enter (n:=18) Tryz.func218 rfl rfl rfl (aa.start w []) ?_
  have hq:=fun w'=>yB s c w' hl
  unfold zn
  by_cases h : s.getLast?=some c
  · simp only [h,decide_true,if_true] at hq ⊢
    have hle : 1≤s.length:=by
      cases s with
      | nil=>cases h
      | cons d r=>simp
    have hsub : s.length - 1≤s.length:=Nat.sub_le _ _
    repeat (first | refine JL.q (by first|(apply OQ.an (vs:=[Z s,Z [c]]);exact pL;rfl;exact (fun w' _=>hq w'))|(apply OQ.not;rfl)|(apply OQ.move;rfl)|(apply OQ.assign;rfl)) rfl ?_ | refine JC.seq ?_ | refine JC.region ?_ | refine JL.nil ?_ | refine JE.next ?_)
    refine JC.cond rfl (fun h=>by cases h) (fun _=>?_)
    repeat (first | refine JL.q (by first|(apply OQ.bC;exact Tryz.underlying9;rfl)|(apply OQ.eu (b:=1);rfl;rfl;exact hle;exact hl)|(apply OQ.dx (j:=s.length - 1);exact Tryz.underlying9;rfl;rfl;exact hsub)|(apply OQ.move;rfl)|(apply OQ.assign;rfl)) rfl ?_ | refine JC.seq ?_ | refine JC.region ?_ | refine JC.skip ?_ | refine JL.nil ?_ | refine JE.next ?_)
    refine JC.ret ?_
    skip
    refine JE.bI rfl (RV.tmp rfl) (RV.tmp rfl) fun w' hw=>⟨?_,hw.aS⟩
    rw [List.dropLast_eq_take]
  · simp only [h,decide_false,if_false] at hq ⊢
    repeat (first | refine JL.q (by first|(apply OQ.an (vs:=[Z s,Z [c]]);exact pL;rfl;exact (fun w' _=>hq w'))|(apply OQ.not;rfl)|(apply OQ.move;rfl)|(apply OQ.assign;rfl)) rfl ?_ | refine JC.seq ?_ | refine JC.region ?_ | refine JL.nil ?_ | refine JE.next ?_)
    refine JC.cond rfl (fun _=>?_) (fun h=>by cases h)
    repeat (first | refine JL.q (by first|(apply OQ.move;rfl)|(apply OQ.assign;rfl)) rfl ?_ | refine JC.seq ?_ | refine JC.region ?_ | refine JL.nil ?_ | refine JE.next ?_)
    refine JC.ret ?_
    repeat (refine JE.ah ?_)
    exact JE.bI rfl (RV.tmp rfl) (RV.tmp rfl) fun w' hw=>⟨rfl,hw.aS⟩
theorem nK (s : List Bt) (c : Bt) (w : World) (hl : s.length<9223372036854775808) : Calls Tryz.prog 178 [Z s,Z [c]].toArray w fun e w'=>e=.returned (zn c s)∧Ext w w':=by
  refine enter (n:=11) Tryz.func178 rfl rfl rfl (aa.start w []) ?_
  have hq:=fun w'=>yC s c w' hl
  unfold zn at hq ⊢
  by_cases h : s.getLast?=some c
  · simp only [h,if_true] at hq ⊢
    repeat (first | refine JL.q (by first|(apply OQ.an (vs:=[Z s,Z [c]]);exact pM;rfl;exact (fun w' _=>hq w'))|(apply OQ.extract;rfl;rfl)|(apply OQ.move;rfl)|(apply OQ.assign;rfl)) rfl ?_ | refine JC.seq ?_ | refine JC.region ?_ | refine JL.nil ?_ | refine JE.next ?_)
    exact JC.ret (JE.bI rfl (RV.tmp rfl) (RV.tmp rfl) fun w' hw=>⟨rfl,hw.aS⟩)
  · simp only [h,if_false] at hq ⊢
    repeat (first | refine JL.q (by first|(apply OQ.an (vs:=[Z s,Z [c]]);exact pM;rfl;exact (fun w' _=>hq w'))|(apply OQ.extract;rfl;rfl)|(apply OQ.move;rfl)|(apply OQ.assign;rfl)) rfl ?_ | refine JC.seq ?_ | refine JC.region ?_ | refine JL.nil ?_ | refine JE.next ?_)
    exact JC.ret (JE.bI rfl (RV.tmp rfl) (RV.tmp rfl) fun w' hw=>⟨rfl,hw.aS⟩)
theorem q9 : aO Tryz.prog 219:=⟨_,Tryz.func219,rfl,by kernel_rfl⟩
theorem lB : aO Tryz.prog 179:=⟨_,Tryz.func179,rfl,by kernel_rfl⟩
set_option maxHeartbeats 2000000 in
theorem ud (s : List Bt) (c : Bt) (w : World) (hl : s.length<9223372036854775808) : Calls Tryz.prog 219 [Z s,U8 c].toArray w fun e w'=>e=.returned (I (tP c s))∧Ext w w':=by
  refine enter (n:=19) Tryz.func219 rfl rfl rfl (aa.start w []) ?_
  repeat (first | refine JL.q (by first|(apply OQ.bC;exact Tryz.underlying9;rfl)|(apply OQ.tI (a:=(s.length : Int)) (b:=1);rfl;rfl;exact (by omega);exact (by omega))|(apply OQ.move;rfl)|(apply OQ.assign;rfl)) rfl ?_ | refine JC.seq ?_ | refine JC.region ?_ | refine JC.block ?_ | refine JL.nil ?_ | refine JE.next ?_)
  refine JC.loop (fun i : Int=>[(0,Z s),(1,U8 c),(5,I i)]) (fun _=>[]) (fun i=>(i+1).toNat) (fun i=>-1≤i∧i<s.length∧(la c s : Int)=(s.length : Int) - 1 - i+la c (s.take (i+1).toNat)) ((s.length : Int) - 1) ⟨by omega,by omega,by rw [show ((s.length : Int) - 1+1).toNat=s.length by omega,List.take_length];omega⟩ (by repeat (first | exact af.nil | refine af.cons _ _ _ rfl ?_)) (aq.refl _) ?_
  rintro i ⟨h1,h2,h3⟩
  cases g : decide ((0 : Int)≤i)
  · have hi : i=-1:=by have:=of_decide_eq_false g;omega
    subst hi
    have e : tP c s=-1:=by
      unfold tP
      have : la c (s.take ((-1 : Int)+1).toNat)=0:=rfl
      rw [this] at h3
      omega
    rw [e]
    repeat (first | refine JL.q (by first|(apply OQ.dK (b:=0);rfl;rfl;exact g)|(apply OQ.move;rfl)) rfl ?_ | refine JC.seq ?_ | refine JC.region ?_ | refine JL.nil ?_ | refine JE.next ?_)
    refine JC.cond rfl (fun h=>by cases h) (fun _=>?_)
    repeat (first | refine JL.q (by (apply OQ.assign;rfl)) rfl ?_ | refine JC.seq ?_ | refine JC.region ?_ | refine JC.exit ?_ | refine JL.nil ?_ | refine JE.next ?_ | refine JE.av ?_ | refine JE.aF ?_)
    refine JC.ret ?_
    exact JE.aC rfl (RV.tmp rfl) fun w' hw=>⟨rfl,hw.aS⟩
  · obtain ⟨k,rfl⟩ : ∃ k : Nat,i=k:=⟨i.toNat,by have:=of_decide_eq_true g;omega⟩
    have hk : k<s.length:=by omega
    have ht : s.take ((k : Int)+1).toNat=s.take k++[s.getD k 0]:=by
      rw [show ((k : Int)+1).toNat=k+1 by omega]
      exact cx s hk
    rw [ht,yo] at h3
    have i0 : ∀ {n : Nat} {E : Env} {C : World→Prop} {dst : Option Tmp} {ty : TypeId} {pos : String} {aft : Array Edge} {g : Option (Nat × Bool)} {x y : Operand},ev E x=some (Z s)→ev E y=some (I k)→OQ Tryz.prog n E C ⟨dst,.index 9 x y,ty,pos,aft,g⟩ (U8 (s.getD k 0)):=fun hx hy=>OQ.jZ Tryz.underlying9 hx hy hk
    generalize s.getD k 0=d at h3 i0
    cases g2 : decide (d=c)
    · rw [if_neg (of_decide_eq_false g2)] at h3
      repeat (first | refine JL.q (by first|(apply OQ.dK (b:=0);rfl;rfl;exact g)|(apply OQ.move;rfl)) rfl ?_ | refine JC.seq ?_ | refine JC.region ?_ | refine JL.nil ?_ | refine JE.next ?_)
      refine JC.cond rfl (fun _=>?_) (fun h=>by cases h)
      repeat (first | refine JL.q (by first|(apply i0;rfl;rfl)|(apply OQ.to;exact (OQ.BG rfl rfl);exact (congrArg Value.bool g2))|(apply OQ.move;rfl)) rfl ?_ | refine JC.seq ?_ | refine JC.region ?_ | refine JC.block ?_ | refine JC.skip ?_ | refine JL.nil ?_ | refine JE.next ?_)
      refine JC.cond rfl (fun h=>by cases h) (fun _=>?_)
      repeat (first | refine JL.q (by first|(apply OQ.tI (a:=(k : Int)) (b:=1);rfl;rfl;exact (by omega);exact (by omega))|(apply OQ.move;rfl)|(apply OQ.assign;rfl)) rfl ?_ | refine JC.region ?_ | refine JC.skip ?_ | refine JL.nil ?_ | refine JE.next ?_ | refine JE.ag ?_)
      refine JE.again (i:=(k : Int)) ((k : Int) - 1) ⟨by omega,by omega,?_⟩ (by omega) (by repeat (first | exact af.nil | refine af.cons _ _ _ rfl ?_)) (aq.refl _)
      rw [show ((k : Int) - 1+1).toNat=k by omega]
      omega
    · rw [if_pos (of_decide_eq_true g2)] at h3
      have e : tP c s=k:=by
        unfold tP
        omega
      rw [e]
      repeat (first | refine JL.q (by first|(apply OQ.dK (b:=0);rfl;rfl;exact g)|(apply OQ.move;rfl)) rfl ?_ | refine JC.seq ?_ | refine JC.region ?_ | refine JL.nil ?_ | refine JE.next ?_)
      refine JC.cond rfl (fun _=>?_) (fun h=>by cases h)
      repeat (first | refine JL.q (by first|(apply i0;rfl;rfl)|(apply OQ.to;exact (OQ.BG rfl rfl);exact (congrArg Value.bool g2))|(apply OQ.move;rfl)) rfl ?_ | refine JC.seq ?_ | refine JC.region ?_ | refine JC.block ?_ | refine JC.skip ?_ | refine JL.nil ?_ | refine JE.next ?_)
      refine JC.cond rfl (fun _=>?_) (fun h=>by cases h)
      repeat (first | refine JL.q (by first|(apply OQ.move;rfl)|(apply OQ.assign;rfl)) rfl ?_ | refine JC.seq ?_ | refine JC.region ?_ | refine JL.nil ?_ | refine JE.next ?_)
      refine JC.ret ?_
      repeat (first | refine JE.ah ?_ | refine JE.aW ?_)
      exact JE.aC rfl (RV.tmp rfl) fun w' hw=>⟨rfl,hw.aS⟩
theorem ue (s : List Bt) (c : Bt) (w : World) (hl : s.length<9223372036854775808) : Calls Tryz.prog 179 [Z s,U8 c].toArray w fun e w'=>e=.returned (I (tP c s))∧Ext w w':=by
  refine enter (n:=8) Tryz.func179 rfl rfl rfl (aa.start w []) ?_
  repeat (first | refine JL.q (by first|(apply OQ.an (vs:=[Z s,U8 c]);exact q9;rfl;exact (fun w' _=>ud s c w' hl))|(apply OQ.move;rfl)|(apply OQ.assign;rfl)) rfl ?_ | refine JC.seq ?_ | refine JC.region ?_ | refine JL.nil ?_ | refine JE.next ?_)
  exact JC.ret (JE.aC rfl (RV.tmp rfl) fun w' hw=>⟨rfl,hw.aS⟩)
end
end Go.Proofs.YtjeeilmkjjbonaaGreatDoor
