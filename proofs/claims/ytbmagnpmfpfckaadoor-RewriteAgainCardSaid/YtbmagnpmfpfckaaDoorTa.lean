/-
  Of no statement by itself: the texts Sl, Slb, Slc, Slw, Slx, Sly, Slz, Slu, Slg, Slh, Slt, Typ, Slk, Slj, Slm, Slo, Sli, Slv, Slq, Slr, Sls, Slp, Slac, LinB, LinS, LinT, LinK, LinC, FieS, FieT, FieA, LsP, Slsu, Slfv, LsA, LsB in one.
  Conditions: each theorem's own.
-/
import Derived.Deep.Quiet
import Derived.StillTail
import Derived.Below
import Derived.KernelRfl
import Derived.Tactics2
import Derived.Laws.Cells
import Derived.Laws.CopyRow
import Derived.Laws.Rows
import Derived.Laws.AppendOwn
import Derived.Stop.BytesEq
import Derived.Laws.StructEq
import Derived.Lib.ConvBytes
import Derived.Test.YtbmagnpmfpfckaaDoorProg
import Derived.Laws.MakeOwn
import Derived.Great.FillDense
import Derived.Laws.Externs
import Derived.Laws.BytesString
import Derived.Deep.AppendSrc
import Derived.Laws.Cover3
import Derived.Lib.IndexMore
import Derived.Shelf.Bytes.SlCut
import Derived.Lib.SlTrimSet
import Derived.Lib.IndexAny
import Derived.Laws.Slices
import Derived.Laws.Strings2
import Derived.ScopeJumps
import Derived.Shelf.Strings.SlTrimAscii
import Derived.Shelf.Bytes.SlIndexAt
import Derived.Lib.BytesEntry
set_option linter.unusedSimpArgs false
set_option linter.unusedVariables false
namespace Go.Proofs.YtbmagnpmfpfckaaDoor
section
namespace Sl
abbrev Env:=List (Nat × Value)
def lk : Env→Nat→Option Value
  | [],_=>none
  | (d,v)::E,t=>cond (Nat.beq d t) (some v) (lk E t)
structure aE (n : Nat) (E : Env) (a : Act) : Prop where
  size : a.tmps.size=n
  defers : a.defers=[]
  all : ∀ t v,lk E t=some v→a.tmps.getD t undef=v
theorem aE.put {n : Nat} {E : Env} {a : Act} (h : aE n E a) (d : Nat) (v : Value) (hd : Nat.blt d n=true) : aE n ((d,v)::E) (a.put (some d) v):=by
  have hd' : d<n:=by simpa using hd
  refine ⟨by simp [Act.put,h.size],h.defers,fun t u hu=>?_⟩
  simp only [lk] at hu
  by_cases e : d=t
  · subst e
    simp at hu
    subst hu
    simp [Act.put,h.size,hd']
  · have : Nat.beq d t=false:=Bool.eq_false_iff.2 fun h=>e (Nat.eq_of_beq_eq_true h)
    rw [this] at hu
    have:=h.all t u hu
    simpa [Act.put,Array.getElem?_setIfInBounds,e] using this
theorem aE.gx {n : Nat} {E : Env} {a : Act} (h : aE n E a) (v : Value) : aE n E (a.put none v):=h
inductive ax (E : Env) : Env→Prop where
  | nil : ax E []
  | cons (d : Nat) (v : Value) (E' : Env) : lk E d=some v→ax E E'→ax E ((d,v)::E')
theorem ax.all {E E' : Env} (h : ax E E') : ∀ p ∈ E',lk E p.1=some p.2:=by
  induction h with
  | nil=>simp
  | cons d v E' h _ ih=>
    intro p hp
    simp only [List.mem_cons] at hp
    rcases hp with rfl | hp
    · exact h
    · exact ih p hp
theorem aE.sub {n : Nat} {E E' : Env} {a : Act} (h : aE n E a) (hs' : ax E E') : aE n E' a:=by
  have hs:=hs'.all
  clear hs'
  refine ⟨h.size,h.defers,fun t u hu=>h.all t u ?_⟩
  induction E' with
  | nil=>simp [lk] at hu
  | cons p E' ih=>
    simp only [lk] at hu
    by_cases e : p.1=t
    · subst e
      simp at hu
      subst hu
      exact hs p (by simp)
    · have : Nat.beq p.1 t=false:=Bool.eq_false_iff.2 fun h=>e (Nat.eq_of_beq_eq_true h)
      rw [this] at hu
      exact ih (fun q hq=>hs q (by simp [hq])) hu
def ev (E : Env) : Operand→Option Value
  | .tmp t=>lk E t
  | .const v=>some v
  | .global g=>some (.pointer (some ⟨g,0,none⟩))
  | .func f=>some (.func (.func f) #[] #[])
theorem aE.eval {n : Nat} {E : Env} {a : Act} (h : aE n E a) {x : Operand} {v : Value} (hx : ev E x=some v) : a.eval x=v:=by
  cases x with
  | tmp t=>exact h.all t v hx
  | const u=>exact Option.some.inj hx
  | global g=>exact Option.some.inj hx
  | func f=>exact Option.some.inj hx
structure jl (S : List Nat) (w w' : World) : Prop where
  os : w'.os=w.os
  tape : w'.tape=w.tape
  output : w'.output=w.output
  size : w.heap.size≤w'.heap.size
  block : ∀ k,k<w.heap.size→k ∉ S→w'.heap[k]?=w.heap[k]?
theorem jl.refl (S : List Nat) (w : World) : jl S w w:=⟨rfl,rfl,rfl,Nat.le_refl _,fun _ _ _=>rfl⟩
theorem jl.trans {S : List Nat} {a b c : World} (h : jl S a b) (k : jl S b c) : jl S a c:=
  ⟨k.os.trans h.os,k.tape.trans h.tape,k.output.trans h.output,Nat.le_trans h.size k.size,
   fun i hi hS=>(k.block i (Nat.lt_of_lt_of_le hi h.size) hS).trans (h.block i hi hS)⟩
theorem jl.mono {S S' : List Nat} {a b : World} (h : jl S a b) (hs : ∀ k ∈ S,k ∈ S') : jl S' a b:=
  ⟨h.os,h.tape,h.output,h.size,fun i hi hS=>h.block i hi fun hk=>hS (hs i hk)⟩
abbrev Ext:=jl []
theorem jl.below {w w' : World} (h : Ext w w') : RowKit.Below w.heap.size w w':=⟨h.os,h.tape,h.output,h.size,fun k hk=>h.block k hk (by simp)⟩
structure az where
  b : Nat
  A : Obj→Prop
  wr : Bool
structure aa (w0 : World) (S : List Nat) (M : List az) (w : World) : Prop where
  aC : jl S w0 w
  nodup : (M.map az.b).Nodup
  all : ∀ e ∈ M,(∃ o,w.heap[e.b]?=some o∧e.A o)∧(e.wr=true→e.b ∈ S∨w0.heap.size≤e.b)
inductive Has : List az→Nat→(Obj→Prop)→Bool→Prop where
  | here {b A wr M} : Has (⟨b,A,wr⟩::M) b A wr
  | there {e M b A wr} : Has M b A wr→Has (e::M) b A wr
theorem Has.mem {M : List az} {b : Nat} {A : Obj→Prop} {wr : Bool} (h : Has M b A wr) : ⟨b,A,wr⟩ ∈ M:=by
  induction h with
  | here=>simp
  | there _ ih=>simp [ih]
inductive jc : List az→Nat→(Obj→Prop)→(Obj→Prop)→List az→Prop where
  | here {b A A' M} : jc (⟨b,A,true⟩::M) b A A' (⟨b,A',true⟩::M)
  | there {e M b A A' M'} : jc M b A A' M'→jc (e::M) b A A' (e::M')
theorem jc.has {M M' : List az} {b : Nat} {A A' : Obj→Prop} (h : jc M b A A' M') : Has M b A true:=by
  induction h with
  | here=>exact .here
  | there _ ih=>exact .there ih
theorem jc.keys {M M' : List az} {b : Nat} {A A' : Obj→Prop} (h : jc M b A A' M') : M'.map az.b=M.map az.b:=by
  induction h with
  | here=>rfl
  | there _ ih=>simp [ih]
theorem jc.old {M M' : List az} {b : Nat} {A A' : Obj→Prop} (h : jc M b A A' M') (hn : (M.map az.b).Nodup) :
    ∀ e ∈ M',e=⟨b,A',true⟩∨(e ∈ M∧e.b≠b):=by
  induction h with
  | @here b A A' M=>
    intro e he
    simp only [List.mem_cons] at he
    simp only [List.map_cons,List.nodup_cons] at hn
    rcases he with rfl | he
    · exact .inl rfl
    · exact .inr ⟨by simp [he],fun h=>hn.1 (h ▸ List.mem_map_of_mem he)⟩
  | @there x M b A A' M' hu ih=>
    intro e he
    simp only [List.map_cons,List.nodup_cons] at hn
    simp only [List.mem_cons] at he
    rcases he with rfl | he
    · refine .inr ⟨by simp,fun h=>hn.1 ?_⟩
      rw [h]
      exact List.mem_map_of_mem hu.has.mem (f:=az.b)
    · rcases ih hn.2 e he with h | ⟨h1,h2⟩
      · exact .inl h
      · exact .inr ⟨by simp [h1],h2⟩
section
variable {w0 : World} {S : List Nat} {M M' : List az} {w w' : World}
theorem aa.lt (h : aa w0 S M w) {e : az} (he : e ∈ M) : e.b<w.heap.size:=by
  obtain ⟨⟨o,ho,_⟩,_⟩:=h.all e he
  by_cases hl : e.b<w.heap.size
  · exact hl
  · simp [Array.getElem?_eq_none (by omega : w.heap.size≤e.b)] at ho
theorem aa.get (h : aa w0 S M w) {b : Nat} {A : Obj→Prop} {wr : Bool} (hf : Has M b A wr) : ∃ o,w.heap[b]?=some o∧A o:=(h.all _ hf.mem).1
theorem aa.start (w0 : World) (S : List Nat) : aa w0 S [] w0:=⟨jl.refl _ _,by simp,by simp⟩
theorem aa.ext (h : aa w0 S M w) (k : Ext w w') : aa w0 S M w':=by
  refine ⟨h.aC.trans (k.mono (by simp)),h.nodup,fun e he=>⟨?_,(h.all e he).2⟩⟩
  obtain ⟨o,ho,hA⟩:=(h.all e he).1
  exact ⟨o,(k.block e.b (h.lt he) (by simp)).trans ho,hA⟩
theorem aa.drawn (h : aa w0 S M w) (n : Nat) : aa w0 S M { w with drawn:=n }:=
  h.ext ⟨rfl,rfl,rfl,Nat.le_refl _,fun _ _ _=>rfl⟩
theorem aa.old (h : aa w0 S M w) {k : Nat} (hk : k<w0.heap.size) (hS : k ∉ S) : w.heap[k]?=w0.heap[k]?:=h.aC.block k hk hS
theorem aa.sub (h : aa w0 S M w) (hn : (M'.map az.b).Nodup) (hs : ∀ e ∈ M',e ∈ M) : aa w0 S M' w:=⟨h.aC,hn,fun e he=>h.all e (hs e he)⟩
inductive aA : List az→List az→Prop where
  | nil (N : List az) : aA [] N
  | keep (b : Nat) (A A' : Obj→Prop) (wr : Bool) (N N' : List az) : (∀ o,A o→A' o)→aA N' N→aA (⟨b,A',wr⟩::N') (⟨b,A,wr⟩::N)
  | drop (e : az) (N N' : List az) : aA N' N→aA N' (e::N)
theorem aA.refl : ∀ N,aA N N
  | []=>.nil _
  | ⟨_,_,_⟩::N=>.keep _ _ _ _ _ _ (fun _ h=>h) (aA.refl N)
theorem aA.keys (h : aA M' M) : (M'.map az.b).Sublist (M.map az.b):=by
  induction h with
  | nil=>exact List.nil_sublist _
  | keep _ _ _ _ _ _ _ _ ih=>exact ih.cons_cons _
  | drop _ _ _ _ ih=>exact ih.cons _
theorem aA.old (h : aA M' M) : ∀ e ∈ M',∃ e' ∈ M,e'.b=e.b∧e'.wr=e.wr∧∀ o,e'.A o→e.A o:=by
  induction h with
  | nil=>simp
  | keep b A A' wr M M' hA _ ih=>
    intro e he
    simp only [List.mem_cons] at he
    rcases he with rfl | he
    · exact ⟨⟨b,A,wr⟩,by simp,rfl,rfl,hA⟩
    · obtain ⟨e',h1,h2⟩:=ih e he
      exact ⟨e',by simp [h1],h2⟩
  | drop _ _ _ _ ih=>
    intro e he
    obtain ⟨e',h1,h2⟩:=ih e he
    exact ⟨e',by simp [h1],h2⟩
theorem aa.weak (h : aa w0 S M w) (hs : aA M' M) : aa w0 S M' w:=by
  refine ⟨h.aC,h.nodup.sublist hs.keys,fun e he=>?_⟩
  obtain ⟨e',h1,h2,h3,h4⟩:=hs.old e he
  obtain ⟨⟨o,ho,hA⟩,h5⟩:=h.all e' h1
  exact ⟨⟨o,h2 ▸ ho,h4 o hA⟩,fun hw=>h2 ▸ h5 (h3.trans hw)⟩
theorem aa.push (h : aa w0 S M w) (o : Obj) {A : Obj→Prop} (hA : A o) (hw : w'.heap=w.heap.push o) (h1 : w'.os=w.os) (h2 : w'.tape=w.tape) (h3 : w'.output=w.output) :
    aa w0 S (⟨w.heap.size,A,true⟩::M) w':=by
  have hx : Ext w w':=⟨h1,h2,h3,by rw [hw];simp,fun k hk _=>by rw [hw,Array.getElem?_push,if_neg (Nat.ne_of_lt hk)]⟩
  have h':=h.ext hx
  refine ⟨h'.aC,?_,fun e he=>?_⟩
  · simp only [List.map_cons,List.nodup_cons,h.nodup,and_true]
    intro hm
    obtain ⟨e,he,hb⟩:=List.mem_map.1 hm
    have:=h.lt he
    omega
  · simp only [List.mem_cons] at he
    rcases he with rfl | he
    · exact ⟨⟨o,by simp [hw],hA⟩,fun _=>.inr h.aC.size⟩
    · exact h'.all e he
theorem aa.write (h : aa w0 S M w) {b : Nat} {A A' : Obj→Prop} (hu : jc M b A A' M') {o' : Obj} (hA : A' o')
    (hb : w'.heap[b]?=some o') (hz : w'.heap.size=w.heap.size) (hk : ∀ k,k≠b→w'.heap[k]?=w.heap[k]?) (h1 : w'.os=w.os) (h2 : w'.tape=w.tape) (h3 : w'.output=w.output) :
    aa w0 S M' w':=by
  have hin:=(h.all _ hu.has.mem).2 rfl
  refine ⟨⟨h1.trans h.aC.os,h2.trans h.aC.tape,h3.trans h.aC.output,by rw [hz];exact h.aC.size,fun k hk' hS=>?_⟩,by rw [hu.keys];exact h.nodup,fun e he=>?_⟩
  · refine (hk k fun e=>?_).trans (h.aC.block k hk' hS)
    subst e
    rcases hin with h4 | h4
    · exact hS h4
    · simp only [] at h4;omega
  · rcases hu.old h.nodup e he with rfl | ⟨h4,h5⟩
    · exact ⟨⟨o',hb,hA⟩,fun _=>hin⟩
    · obtain ⟨⟨o,ho,hA'⟩,h6⟩:=h.all e h4
      exact ⟨⟨o,(hk _ h5).trans ho,hA'⟩,h6⟩
end
def ue {α : Type} (P : Program) : Sem α→Option α
  | .pure a=>some a
  | .program k=>ue P (k P)
  | .mark _ k=>ue P k
  | _=>none
theorem jm {α : Type} {P : Program} {a : α} : ∀ {s : Sem α} {w : World},ue P s=some a→s.run P w=.ok a w
  | .pure _,w,h=>by simp only [ue,Option.some.injEq] at h;subst h;rfl
  | .program k,w,h=>by simp only [ue] at h;exact jm (s:=k P) h
  | .mark _ k,w,h=>by simp only [ue] at h;exact jm (s:=k) h
  | .load ..,_,h | .store ..,_,h | .new ..,_,h | .shape ..,_,h | .freeze ..,_,h | .frozen ..,_,h | .getObj ..,_,h | .setObj ..,_,h | .choose ..,_,h | .sys ..,_,h | .halt ..,_,h=>by simp [ue] at h
structure OQ (P : Program) (n : Nat) (E : Env) (C : World→Prop) (o : Oper) (v : Value) : Prop where
  go : ∀ a,aE n E a→∀ w,C w→o.quietAt P a C w v
section
variable {P : Program} {n : Nat} {E : Env} {C : World→Prop} {dst : Option Tmp} {ty : TypeId} {pos : String} {aft : Array Edge} {g : Option (Nat × Bool)} {v : Value}
def we (E : Env) (x : Operand) : Value:=(ev E x).getD undef
def known (E : Env) (op : Op) : Bool:=op.operands.toList.all fun x=>(ev E x).isSome
def mF : Op→Bool
  | .select ..=>false
  | _=>true
theorem OQ.pure {op : Op} (hs : mF op=true) (hk : known E op=true) (h : ue P (execOp (we E) ⟨dst,op,ty,pos,aft,g⟩)=some (.value v)) : OQ P n E C ⟨dst,op,ty,pos,aft,g⟩ v:=by
  refine ⟨fun a ha w hw=>?_⟩
  have e : execOp a.eval ⟨dst,op,ty,pos,aft,g⟩=execOp (we E) ⟨dst,op,ty,pos,aft,g⟩:=by
    refine execOp_congr _ (fun cs b hh=>?_) fun x hx=>?_
    · simp only [] at hh;subst hh;simp [mF] at hs
    · simp only [known,List.all_eq_true] at hk
      have:=hk x (by simpa using hx)
      obtain ⟨u,hu⟩:=Option.isSome_iff_exists.1 this
      rw [ha.eval hu,we,hu];rfl
  unfold Oper.quietAt
  rw [e,jm h]
  exact ⟨rfl,rfl⟩
theorem OQ.move {x : Operand} (hx : ev E x=some v) : OQ P n E C ⟨dst,.move x,ty,pos,aft,g⟩ v:=by
  refine ⟨fun a ha w hw=>?_⟩
  have:=ha.eval hx
  exact ⟨rfl,this⟩
theorem OQ.assign {x : Operand} (hx : ev E x=some v) : OQ P n E C ⟨dst,.assign x,ty,pos,aft,g⟩ v:=by
  refine ⟨fun a ha w hw=>?_⟩
  have:=ha.eval hx
  exact ⟨rfl,this⟩
theorem OQ.run {op : Op} (h : ∀ a,aE n E a→∀ w,C w→(execOp a.eval ⟨dst,op,ty,pos,aft,g⟩).run P w=.ok (.value v) w) : OQ P n E C ⟨dst,op,ty,pos,aft,g⟩ v:=by
  refine ⟨fun a ha w hw=>?_⟩
  unfold Oper.quietAt
  rw [h a ha w hw]
  exact ⟨rfl,rfl⟩
end
end Sl
end
section
namespace Sl
section
variable {P : Program} {md : Region.Mode} {ops : Array Oper} {C : World→Prop} {n : Nat}
def qj (P : Program) (md : Region.Mode) (ops : Array Oper) (C : World→Prop) (n : Nat) (L : Array Bool→Act→Prop) : Nat→Array Bool→Act→Prop
  | 0,done,a=>L done a
  | f+1,done,a=>Region.ready md ops done≠[]∧∀ i ∈ Region.ready md ops done,i<n∧qOp P ops C i (qj P md ops C n L f (done.setIfInBounds i true)) a
theorem iJ {g : Nat} {L : Array Bool→Act→Prop} {Q : Exit→Act→World→Prop} (hL : ∀ done a w,C w→L done a→wpAny P md ops Q g done a w) :
    ∀ (f : Nat) (done : Array Bool) (a : Act) (w : World),C w→qj P md ops C n L f done a→wpAny P md ops Q (f+g) done a w
  | 0,done,a,w,hw,h=>by rw [Nat.zero_add];exact hL _ _ _ hw h
  | f+1,done,a,w,hw,h=>by
    rw [show f+1+g=(f+g)+1 by omega]
    exact ⟨fun h0=>absurd h0 h.1,fun i hi=>wpOp_of_qOp hw (fun a' w' hw' h'=>iJ hL f _ a' w' hw' h') (h.2 i hi).2⟩
theorem oq {i : Nat} {oi : Oper} {v : Value} {L : Array Bool→Act→Prop} (hi : ops[i]?=some oi) (hsel : ∀ (j : Nat) (o : Oper) cs b,ops[j]?=some o→o.op≠.select cs b)
    (hs : Region.sinkB md ops n=true) (hc : Region.chainB md ops n=true) (hn : n<ops.size) (hin : i<n)
    (hend : ∀ done a,L done a→∀ j ∈ Region.ready md ops done,n≤j) :
    ∀ (f : Nat) (done : Array Bool) (a : Act),HeadInv md ops n done→
      (∀ j oj,ops[j]?=some oj→j≠i→done.getD j true=false→(∀ e ∈ oj.after,Region.binds md e=true→e.on≠i)→oi.apart ops oj=true)→
      i ∈ Region.ready md ops done→YieldsIn P ops C oi v a→
      qj P md ops C n L f (done.setIfInBounds i true) (a.put oi.dst v)→qj P md ops C n L (f+1) done a:=by
  intro f
  induction f with
  | zero=>
    intro done a inv _ hr hy H
    have hun:=(mem_ready.1 hr).1
    refine ⟨fun h=>(by rw [h] at hr;cases hr),fun j hj=>?_⟩
    have hjn : j<n:=Nat.lt_of_not_le fun h=>tail_waits hs hc hn inv _ i rfl hin hun j h hj
    refine ⟨hjn,?_⟩
    by_cases hji : j=i
    · subst hji;exact hy.qOp hi H
    · exact absurd (hend _ _ H j (ready_mono hj hji)) (by omega)
  | succ f ih=>
    intro done a inv hfree hr hy H
    have hun:=(mem_ready.1 hr).1
    refine ⟨fun h=>(by rw [h] at hr;cases hr),fun j hj=>?_⟩
    have hjn : j<n:=Nat.lt_of_not_le fun h=>tail_waits hs hc hn inv _ i rfl hin hun j h hj
    refine ⟨hjn,?_⟩
    by_cases hji : j=i
    · subst hji;exact hy.qOp hi H
    · obtain ⟨hjun,oj,hoj,hall⟩:=mem_ready.1 hj
      have hnot : ∀ e ∈ oj.after,Region.binds md e=true→e.on≠i:=fun e he hb heq=>by
        have h1:=hall e he hb
        rw [heq,getD_both hun] at h1
        cases h1
      have h2:=qOp_put hoj (hfree j oj hoj hji hjun hnot) (fun cs b=>hsel i oi cs b hi) (fun cs b=>hsel j oj cs b hoj) hy (H.2 j (ready_mono hj hji)).2
      refine qOp_mono (fun a' h3=>ih (done.setIfInBounds j true) a' (inv.set hj hjn) (fun k ok hk hki hkun hno=>hfree k ok hk hki ?_ hno) (ready_mono hr (Ne.symm hji)) h3.1 ?_) h2
      · by_cases hjk : j=k
        · subst hjk;exact hjun
        · rwa [getD_set_ne true hjk] at hkun
      · rw [Array.setIfInBounds_comm _ _ hji]
        exact h3.2
theorem gy {g : Nat} {Φ : Act→Prop} (hsel : Region.noSelect ops=true) (hs : Region.sinkB md ops n=true) (hc : Region.chainB md ops n=true) (hn : n<ops.size) :
    ∀ (l : List Oper) (k : Nat) (done : Array Bool) (a : Act),(∀ j,j<l.length→l[j]?=ops[k+j]?)→k+l.length=n→HeadInv md ops n done→
    Region.lexHead md ops g l.length k done=true→wpQuiet P ops C Φ l a→
    qj P md ops C n (fun done' a'=>Region.seqB md ops g n done'=true∧Φ a') l.length done a
  | [],k,done,a,_,hk,_,hB,h=>by
    have : k=n:=by simpa using hk
    subst this
    exact ⟨by simpa [Region.lexHead] using hB,h⟩
  | o::l,k,done,a,hl,hk,inv,hB,h=>by
    have h0 : ops[k]?=some o:=by simpa using (hl 0 (by simp)).symm
    simp only [List.length_cons,Region.lexHead,Bool.and_eq_true] at hB
    obtain ⟨⟨hr,hf⟩,hB'⟩:=hB
    have hkn : k<n:=by simp only [List.length_cons] at hk;omega
    have hr' : k ∈ Region.ready md ops done:=by simpa using hr
    have hst : qOp P ops C k (wpQuiet P ops C Φ l) a:=by unfold qOp;simp only [h0];exact h
    obtain ⟨v,hy,hK⟩:=yieldsIn_of_qOp h0 hst
    exact oq h0 (Region.noSelect_spec hsel) hs hc hn hkn (fun done' a' hL=>seqB_ready hL.1) l.length done a inv (Region.free_spec h0 hf) hr' hy
      (gy hsel hs hc hn l (k+1) _ _ (fun j hj=>by have:=hl (j+1) (by simp;omega);simpa [Nat.add_assoc,Nat.add_comm 1 j] using this) (by simp only [List.length_cons] at hk;omega) (inv.set hr' hkn) hB' hK)
theorem eV {id : Nat} {Q : Exit→Act→World→Prop} {a : Act} {w : World} {l : List Oper} (n : Nat) (hm : P.follows .mixedOrders=true) (hB : Region.lexTailB .any l.toArray n=true)
    (hC : C { w with drawn:=w.drawn+1 })
    (h : wpQuiet P l.toArray C (fun a'=>∀ w',C w'→wpList P l.toArray Q (l.drop n) a' w') (l.take n) a) : (Code.region id l.toArray true).wp P Q a w:=by
  simp only [Region.lexTailB,Bool.and_eq_true,decide_eq_true_eq] at hB
  obtain ⟨⟨⟨⟨hsel,hn⟩,hs⟩,hc⟩,hlex⟩:=hB
  have hn' : n<l.length:=by simpa using hn
  have htl : (l.take n).length=n:=by simp;omega
  have hdl : (l.drop n).length=l.toArray.size - n:=by simp
  have inv0 : HeadInv .any l.toArray n (Array.replicate l.toArray.size false):=
    ⟨by simp,fun j oj _ hl=>(by rw [getD_replicate_false] at hl;cases hl),fun t _ ht=>getD_in (by simpa using ht) (getD_replicate_false _ _)⟩
  have H:=gy (P:=P) (C:=C) (md:=.any) (g:=l.toArray.size - n) hsel hs hc hn (l.take n) 0 _ a (fun j hj=>by
    have hj' : j<n:=by rw [htl] at hj;exact hj
    simp [hj']) (by simpa using htl) inv0 (by rw [htl];exact hlex) h
  refine wp_region_any hm ?_
  have:=iJ (Q:=Q) (g:=l.toArray.size - n) (fun done a' w' hw' hL=>by
    have:=wpAny_of_seq (md:=.any) (Q':=Q) (l.drop n) n done a' w' (fun j=>by simp [List.getElem?_drop]) (by rw [hdl];exact hL.1) (hL.2 w' hw')
    rwa [hdl] at this) _ _ _ _ hC H
  rw [htl,show n+(l.toArray.size - n)=l.toArray.size by omega] at this
  exact this
end
section
variable {P : Program} {n : Nat} {w0 : World} {S : List Nat} {ops : Array Oper} {Q Q' : Exit→Act→World→Prop} {l : List Oper} {E E' : Env} {M M' : List az}
structure JL (P : Program) (n : Nat) (w0 : World) (S : List Nat) (ops : Array Oper) (Q : Exit→Act→World→Prop) (l : List Oper) (E : Env) (M : List az) : Prop where
  go : ∀ a w,aE n E a→aa w0 S M w→wpList P ops Q l a w
structure JE (n : Nat) (w0 : World) (S : List Nat) (Q : Exit→Act→World→Prop) (e : Exit) (E : Env) (M : List az) : Prop where
  go : ∀ a w,aE n E a→aa w0 S M w→Q e a w
structure JC (P : Program) (n : Nat) (w0 : World) (S : List Nat) (Q : Exit→Act→World→Prop) (c : Code) (E : Env) (M : List az) : Prop where
  go : ∀ a w,aE n E a→aa w0 S M w→c.wp P Q a w
structure JQ (P : Program) (n : Nat) (w0 : World) (S : List Nat) (ops : Array Oper) (M : List az) (Φ : Act→Prop) (l : List Oper) (E : Env) : Prop where
  go : ∀ a,aE n E a→wpQuiet P ops (aa w0 S M) Φ l a
theorem JC.seq {x y : Code} (h : JC P n w0 S (Exit.then (y.wp P Q) Q) x E M) : JC P n w0 S Q (.seq x y) E M:=⟨fun a w ha hw=>wp_seq (h.go a w ha hw)⟩
theorem JC.skip (h : JE n w0 S Q .normal E M) : JC P n w0 S Q .skip E M:=⟨fun a w ha hw=>wp_skip (h.go a w ha hw)⟩
theorem JC.exit {id : Nat} (h : JE n w0 S Q (.exit id) E M) : JC P n w0 S Q (.exit id) E M:=⟨fun a w ha hw=>wp_exit (h.go a w ha hw)⟩
theorem JC.ret (h : JE n w0 S Q .ret E M) : JC P n w0 S Q .ret E M:=⟨fun a w ha hw=>wp_ret (h.go a w ha hw)⟩
theorem JC.block {id : Nat} {c : Code} (h : JC P n w0 S (Exit.inBlock id Q) c E M) : JC P n w0 S Q (.block id c) E M:=⟨fun a w ha hw=>wp_block (h.go a w ha hw)⟩
theorem JC.cond {c : Operand} {x y : Code} {t : Bool} (hc : ev E c=some (.bool t)) (ht : t=true→JC P n w0 S Q x E M) (hf : t=false→JC P n w0 S Q y E M) : JC P n w0 S Q (.cond c x y) E M:=
  ⟨fun a w ha hw=>wp_cond_split (ha.eval hc) (fun h=>(ht h).go a w ha hw) (fun h=>(hf h).go a w ha hw)⟩
theorem JC.cond_true {c : Operand} {x y : Code} {t : Bool} (hc : ev E c=some (.bool t)) (h : t=true) (ht : JC P n w0 S Q x E M) : JC P n w0 S Q (.cond c x y) E M:=
  JC.cond hc (fun _=>ht) (fun h'=>by rw [h] at h';cases h')
theorem JC.cond_false {c : Operand} {x y : Code} {t : Bool} (hc : ev E c=some (.bool t)) (h : t=false) (hf : JC P n w0 S Q y E M) : JC P n w0 S Q (.cond c x y) E M:=
  JC.cond hc (fun h'=>by rw [h] at h';cases h') (fun _=>hf)
theorem JC.region {id : Nat} {l : List Oper} (h : JL P n w0 S l.toArray Q l E M) : JC P n w0 S Q (.region id l.toArray false) E M:=⟨fun a w ha hw=>wp_region_lit (h.go a w ha hw)⟩
theorem JC.quiet {id : Nat} {l : List Oper} (hm : P.follows .mixedOrders=true) (hB : Region.lexB .any l.toArray=true)
    (h : JQ P n w0 S l.toArray M (fun a'=>∀ w',aa w0 S M w'→Q .normal a' w') l E) : JC P n w0 S Q (.region id l.toArray true) E M:=
  ⟨fun a _ ha hw=>wp_region_quiet hm hB (hw.drawn _) (by simpa using h.go a ha)⟩
theorem JC.tail {id : Nat} {l : List Oper} (m : Nat) (hm : P.follows .mixedOrders=true) (hB : Region.lexTailB .any l.toArray m=true)
    (h : JQ P n w0 S l.toArray M (fun a'=>∀ w',aa w0 S M w'→wpList P l.toArray Q (l.drop m) a' w') (l.take m) E) : JC P n w0 S Q (.region id l.toArray true) E M:=
  ⟨fun a _ ha hw=>eV m hm hB (hw.drawn _) (h.go a ha)⟩
theorem JC.weak {c : Code} (h : JC P n w0 S Q c E' M') (hE : ax E E') (hM : aA M' M) : JC P n w0 S Q c E M:=
  ⟨fun a w ha hw=>h.go a w (ha.sub hE) (hw.weak hM)⟩
theorem JE.weak {e : Exit} (h : JE n w0 S Q e E' M') (hE : ax E E') (hM : aA M' M) : JE n w0 S Q e E M:=
  ⟨fun a w ha hw=>h.go a w (ha.sub hE) (hw.weak hM)⟩
theorem JC.loop {ι : Type} (Ei : ι→Env) (Mi : ι→List az) (μ : ι→Nat) (I : ι→Prop) {c : Code} (i : ι) (hi : I i) (hE : ax E (Ei i)) (hM : aA (Mi i) M)
    (h : ∀ i,I i→JC P n w0 S (Exit.then (fun a' w'=>∃ j,I j∧μ j<μ i∧aE n (Ei j) a'∧aa w0 S (Mi j) w') Q) c (Ei i) (Mi i)) : JC P n w0 S Q (.loop c) E M:=by
  refine ⟨fun a w ha hw=>?_⟩
  have ha':=ha.sub hE
  have hw':=hw.weak hM
  clear ha hw hE hM
  have key : ∀ m i,μ i=m→I i→∀ a w,aE n (Ei i) a→aa w0 S (Mi i) w→∀ (b : Frame) (k : List Item) (cs : List Frame),
      ∃ e a' w',Q e a' w'∧Arrives P (lone (b.at a (.code c::.inLoop c::k)) cs w) b k cs e a' w':=by
    intro m
    induction m using Nat.strongRecOn with
    | _ m ih=>
      intro i hm hI a w ha hw b k cs
      obtain ⟨e,a₁,w₁,hq,harr⟩:=(h i hI).go a w ha hw b (.inLoop c::k) cs
      cases e with
      | normal=>
        obtain ⟨j,hj,hlt,ha₁,hw₁⟩:=hq
        obtain ⟨e₂,a₂,w₂,hq₂,harr₂⟩:=ih (μ j) (hm ▸ hlt) j rfl hj a₁ w₁ ha₁ hw₁ b k cs
        exact ⟨e₂,a₂,w₂,hq₂,.of_steps (Steps.trans harr (.one step_inLoop)) harr₂⟩
      | exit id=>exact ⟨_,a₁,w₁,hq,.pass (x:=.inLoop c) rfl (fun _ _=>.inl (by simp)) harr⟩
      | goto l=>exact ⟨_,a₁,w₁,hq,.pass (x:=.inLoop c) rfl (fun _ _=>.inl (by simp)) harr⟩
      | ret=>exact ⟨_,a₁,w₁,hq,.pass (x:=.inLoop c) rfl (fun _ _=>.inl (by simp)) harr⟩
      | panic ch=>exact ⟨_,a₁,w₁,hq,.pass (x:=.inLoop c) rfl (fun _ _=>.inl (by simp)) harr⟩
      | outgrown=>exact ⟨_,a₁,w₁,hq,.pass (x:=.inLoop c) rfl (fun _ _=>.inl (by simp)) harr⟩
  intro b k cs
  obtain ⟨e,a',w',hq,harr⟩:=key _ i rfl hi a w ha' hw' b k cs
  exact ⟨e,a',w',hq,.of_steps (.one step_loop) harr⟩
theorem JE.next {y : Code} (h : JC P n w0 S Q' y E M) : JE n w0 S (Exit.then (y.wp P Q') Q) .normal E M:=⟨h.go⟩
theorem JE.again {ι : Type} {Ei : ι→Env} {Mi : ι→List az} {μ : ι→Nat} {I : ι→Prop} {i : ι} (j : ι) (hj : I j) (hμ : μ j<μ i) (hE : ax E (Ei j)) (hM : aA (Mi j) M) :
    JE n w0 S (Exit.then (fun a' w'=>∃ j,I j∧μ j<μ i∧aE n (Ei j) a'∧aa w0 S (Mi j) w') Q) .normal E M:=
  ⟨fun _ _ ha hw=>⟨j,hj,hμ,ha.sub hE,hw.weak hM⟩⟩
theorem JE.aS {K : Act→World→Prop} {id : Nat} (h : JE n w0 S Q (.exit id) E M) : JE n w0 S (Exit.then K Q) (.exit id) E M:=⟨h.go⟩
theorem JE.av {K : Act→World→Prop} (h : JE n w0 S Q .ret E M) : JE n w0 S (Exit.then K Q) .ret E M:=⟨h.go⟩
theorem JE.aj {id : Nat} (h : JE n w0 S Q .normal E M) : JE n w0 S (Exit.inBlock id Q) .normal E M:=⟨h.go⟩
theorem JE.aI {id : Nat} (h : JE n w0 S Q .ret E M) : JE n w0 S (Exit.inBlock id Q) .ret E M:=⟨h.go⟩
theorem JE.bE {id : Nat} (h : JE n w0 S Q .normal E M) : JE n w0 S (Exit.inBlock id Q) (.exit id) E M:=⟨fun a w ha hw=>by
  show (if id=id then Q .normal a w else _)
  rw [if_pos rfl];exact h.go a w ha hw⟩
theorem JL.nil (h : JE n w0 S Q .normal E M) : JL P n w0 S ops Q [] E M:=⟨h.go⟩
theorem JQ.nil (h : JE n w0 S Q .normal E M) : JQ P n w0 S ops M (fun a'=>∀ w',aa w0 S M w'→Q .normal a' w') [] E:=⟨fun a ha w hw=>h.go a w ha hw⟩
theorem JQ.mG {l' : List Oper} (h : JL P n w0 S ops Q l' E M) : JQ P n w0 S ops M (fun a'=>∀ w',aa w0 S M w'→wpList P ops Q l' a' w') [] E:=⟨fun a ha w hw=>h.go a w ha hw⟩
variable {d : Nat} {op : Op} {ty : TypeId} {pos : String} {aft : Array Edge} {v : Value}
theorem JL.q (h : OQ P n E (aa w0 S M) ⟨some d,op,ty,pos,aft,none⟩ v) (hd : Nat.blt d n=true) (k : JL P n w0 S ops Q l ((d,v)::E) M) : JL P n w0 S ops Q (⟨some d,op,ty,pos,aft,none⟩::l) E M:=
  ⟨fun a _ ha hw=>wpList_plain rfl fun _ hK=>Oper.wp_of_quiet (C:=aa w0 S M) (K:=fun a'=>a'=a.put (some d) v) hw (fun _ _ hw' e=>hK _ _ (e ▸ k.go _ _ (ha.put d v hd) hw')) ⟨v,h.go a ha,rfl⟩⟩
theorem JQ.q {Φ : Act→Prop} (h : OQ P n E (aa w0 S M) ⟨some d,op,ty,pos,aft,none⟩ v) (hd : Nat.blt d n=true) (k : JQ P n w0 S ops M Φ l ((d,v)::E)) : JQ P n w0 S ops M Φ (⟨some d,op,ty,pos,aft,none⟩::l) E:=
  ⟨fun a ha=>wpQuiet_step fun _ hK=>by
    simp only [Region.wanted,if_true]
    exact ⟨v,h.go a ha,hK _ (k.go _ (ha.put d v hd))⟩⟩
def dR (ops : Array Oper) (E : Env) (j : Nat) : Option Bool:=
  match (ops[j]?).bind (·.dst) with
  | some s=>match lk E s with
    | some (.bool b)=>some b
    | _=>none
  | none=>none
theorem jw {j : Nat} {b : Bool} (h : dR ops E j=some b) {a : Act} (ha : aE n E a) (hn : ∀ s,(ops[j]?).bind (·.dst)=some s→Nat.blt s n=true) : yielded ops a.tmps j=some b:=by
  unfold dR at h
  unfold yielded
  cases hs : (ops[j]?).bind (·.dst) with
  | none=>simp [hs] at h
  | some s=>
    simp only [hs] at h
    have hlt : s<n:=by simpa using hn s hs
    cases hv : lk E s with
    | none=>simp [hv] at h
    | some u=>
      have h1:=ha.all s u hv
      have h2 : a.tmps[s]?=some u:=by
        have : s<a.tmps.size:=by rw [ha.size];exact hlt
        rw [Array.getElem?_eq_getElem this]
        simpa [Array.getD,this] using h1
      simp only [hv] at h
      cases u <;> simp at h
      subst h
      simp [h2]
def cI (ops : Array Oper) (n j : Nat) : Bool:=match (ops[j]?).bind (·.dst) with | some s=>Nat.blt s n | none=>false
theorem eW {j : Nat} (h : cI ops n j=true) : ∀ s,(ops[j]?).bind (·.dst)=some s→Nat.blt s n=true:=by
  intro s hs
  simpa [cI,hs] using h
variable {j : Nat} {want b : Bool}
theorem kI (h : dR ops E j=some b) (hf : cI ops n j=true) {a : Act} (ha : aE n E a) : Region.wanted ⟨some d,op,ty,pos,aft,some (j,want)⟩ (yielded ops a.tmps)=(b == want):=by
  simp only [Region.wanted,jw h ha (eW hf)]
  cases b <;> cases want <;> rfl
theorem JL.cj (hg : dR ops E j=some b) (hf : cI ops n j=true) (hne : (b == want)=false) (hd : Nat.blt d n=true)
    (k : JL P n w0 S ops Q l ((d,undef)::E) M) : JL P n w0 S ops Q (⟨some d,op,ty,pos,aft,some (j,want)⟩::l) E M:=
  ⟨fun a w ha hw=>wpList_skip (by rw [kI hg hf ha];exact hne) (k.go _ _ (ha.put d undef hd) hw)⟩
theorem JQ.cj {Φ : Act→Prop} (hg : dR ops E j=some b) (hf : cI ops n j=true) (hne : (b == want)=false) (hd : Nat.blt d n=true)
    (k : JQ P n w0 S ops M Φ l ((d,undef)::E)) : JQ P n w0 S ops M Φ (⟨some d,op,ty,pos,aft,some (j,want)⟩::l) E:=
  ⟨fun a ha=>wpQuiet_step fun _ hK=>by
    rw [kI hg hf ha,hne]
    simp only [Bool.false_eq_true,if_false]
    exact hK _ (k.go _ (ha.put d undef hd))⟩
end
end Sl
end
section
namespace Sl
def cellAt : Obj→Nat→Option Value
  | .cells c _ _,j=>c[j]?
  | _,_=>none
def Row (e : TypeId) (l : List Value) : Obj→Prop:=fun o=>o=.cells l.toArray e (0,0)
def x4 (e : TypeId) (l : List Value) : Obj→Prop:=fun o=>∃ sp : List Value,o=.cells (l++sp).toArray e (0,0)
def bJ (o : Obj) (j : Nat) (cs : List Value) : Prop:=∃ c e fr,o=.cells c e fr∧∀ i,i<cs.length→c[j+i]?=cs[i]?
theorem Row.cell {e : TypeId} {l : List Value} {j : Nat} {v : Value} (h : l[j]?=some v) : ∀ o,Row e l o→cellAt o j=some v:=by
  rintro o rfl
  simpa [cellAt] using h
theorem x4.cell {e : TypeId} {l : List Value} {j : Nat} {v : Value} (h : l[j]?=some v) : ∀ o,x4 e l o→cellAt o j=some v:=by
  rintro o ⟨sp,rfl⟩
  have hj : j<l.length:=(List.getElem?_eq_some_iff.1 h).1
  simpa [cellAt,List.getElem?_append_left hj] using h
theorem Row.cells {e : TypeId} {l cs : List Value} {j : Nat} (h : (l.drop j).take cs.length=cs) : ∀ o,Row e l o→bJ o j cs:=by
  rintro o rfl
  refine ⟨_,_,_,rfl,fun i hi=>?_⟩
  rw [← h]
  simp [hi]
theorem Row.all {e : TypeId} {l : List Value} : ∀ o,Row e l o→bJ o 0 l:=Row.cells (by simp)
def lH (P : Program) (t : TypeId) : Bool:=
  match P.underlying t with
  | some (.struct _) | some (.array _ _)=>true
  | _=>false
def fM (P : Program) (t : TypeId) : Bool:=
  match P.underlying t with
  | some (.struct _) | some (.array _ _) | none=>false
  | _=>true
def dw (P : Program) (t : TypeId) : Option Nat:=(P.info? t).map (·.size)
section
variable {P : Program} {t : TypeId} {w w' : World} {b j : Nat} {v : Value} {cs : List Value}
theorem jy (h : fM P t=true) (w : World) : (isAgg t).run P w=.ok false w:=by
  unfold fM at h
  cases hu : P.underlying t with
  | none=>simp [hu] at h
  | some d=>
    unfold isAgg
    rw [Sem.run_bind,run_underlying hu w]
    cases d <;> simp_all
theorem qk (h : lH P t=true) (w : World) : (isAgg t).run P w=.ok true w:=by
  unfold lH at h
  cases hu : P.underlying t with
  | none=>simp [hu] at h
  | some d=>
    unfold isAgg
    rw [Sem.run_bind,run_underlying hu w]
    cases d <;> simp_all
theorem aL {k : Nat} (h : dw P t=some k) (w : World) : (sizeOf t).run P w=.ok k w:=by
  unfold dw at h
  cases hq : P.info? t with
  | none=>simp [hq] at h
  | some i=>
    have hs : i.size=k:=by simpa [hq] using h
    simp [sizeOf,typeInfo,hq,hs]
theorem bh (b j i : Nat) : (⟨b,j,none⟩ : Addr).add i=⟨b,j+i,none⟩:=by
  unfold Addr.add
  split <;> simp_all
theorem bn (hs : fM P t=true) (hc : w.cell? ⟨b,j,none⟩=some v) : (loadVar t ⟨b,j,none⟩).run P w=.ok v w:=by
  simp [loadVar,Sem.run_bind,jy hs,load,Sem.run,hc]
theorem eX (ha : lH P t=true) (hz : dw P t=some cs.length) (hc : ∀ i u,cs[i]?=some u→w.cell? ⟨b,j+i,none⟩=some u) : (loadVar t ⟨b,j,none⟩).run P w=.ok (.agg cs.toArray) w:=by
  have hl : (loadCells ⟨b,j,none⟩ cs.length).run P w=.ok cs.toArray w:=run_loadCells_list (P:=P) w ⟨b,j,none⟩ cs (fun i u hu=>by rw [bh];exact hc i u hu)
  simp [loadVar,Sem.run_bind,qk ha,aL hz,hl]
theorem cell_of {o : Obj} (ho : w.heap[b]?=some o) (h : cellAt o j=some v) : w.cell? ⟨b,j,none⟩=some v:=by
  unfold World.cell?
  simp only [ho]
  cases o <;> simp_all [cellAt]
theorem jz {o : Obj} (ho : w.heap[b]?=some o) (h : bJ o j cs) : ∀ i u,cs[i]?=some u→w.cell? ⟨b,j+i,none⟩=some u:=by
  intro i u hu
  obtain ⟨c,e,fr,rfl,hc⟩:=h
  have hi : i<cs.length:=(List.getElem?_eq_some_iff.1 hu).1
  exact cell_of ho (by simp [cellAt,hc i hi,hu])
end
section
variable {P : Program} {n : Nat} {w0 : World} {S : List Nat} {ops : Array Oper} {Q : Exit→Act→World→Prop} {l : List Oper} {E : Env} {M M' : List az} {C : World→Prop}
variable {dst : Option Tmp} {d b j : Nat} {op : Op} {t ty : TypeId} {pos : String} {aft : Array Edge} {g : Option (Nat × Bool)} {v : Value} {x y : Operand} {A A' : Obj→Prop} {wr : Bool} {cs : List Value}
theorem OQ.cN (ha : ∀ w,C w→(loadVar t ⟨b,j,none⟩).run P w=.ok v w) (hx : ev E x=some (.pointer (some ⟨b,j,none⟩))) : OQ P n E C ⟨dst,.load t x,ty,pos,aft,g⟩ v:=
  OQ.run fun a hk w hw=>by
    have:=hk.eval hx
    simp [execOp,this,Instr.loadAt,Instr.sureAddr,ha w hw]
theorem OQ.load (hs : fM P t=true) (hx : ev E x=some (.pointer (some ⟨b,j,none⟩))) (hM : Has M b A wr) (hA : ∀ o,A o→cellAt o j=some v) : OQ P n E (aa w0 S M) ⟨dst,.load t x,ty,pos,aft,g⟩ v:=
  OQ.cN (fun _ hw=>let ⟨_,ho,hAo⟩:=hw.get hM;bn hs (cell_of ho (hA _ hAo))) hx
theorem OQ.cA (hs : fM P t=true) (hx : ev E x=some (.pointer (some ⟨b,j,none⟩))) (hb : b<w0.heap.size) (hS : b ∉ S) (hc : w0.cell? ⟨b,j,none⟩=some v) : OQ P n E (aa w0 S M) ⟨dst,.load t x,ty,pos,aft,g⟩ v:=
  OQ.cN (fun w hw=>bn hs (by simpa [World.cell?,hw.old hb hS] using hc)) hx
theorem OQ.cP {k : Nat} (ha : lH P t=true) (hz' : dw P t=some k) (hx : ev E x=some (.pointer (some ⟨b,j,none⟩))) (hM : Has M b A wr) (hl : cs.length=k) (hA : ∀ o,A o→bJ o j cs) : OQ P n E (aa w0 S M) ⟨dst,.load t x,ty,pos,aft,g⟩ (.agg cs.toArray):=
  OQ.cN (fun _ hw=>let ⟨_,ho,hAo⟩:=hw.get hM;eX ha (hl ▸ hz') (jz ho (hA _ hAo))) hx
theorem OQ.lI (ha : lH P t=true) (hx : ev E x=some (.pointer (some ⟨b,j,none⟩))) (hz : dw P t=some cs.length) (hb : b<w0.heap.size) (hS : b ∉ S) (hc : ∀ i u,cs[i]?=some u→w0.cell? ⟨b,j+i,none⟩=some u) : OQ P n E (aa w0 S M) ⟨dst,.load t x,ty,pos,aft,g⟩ (.agg cs.toArray):=
  OQ.cN (fun w hw=>eX ha hz (fun i u hu=>by simpa [World.cell?,hw.old hb hS] using hc i u hu)) hx
def aR (P : Program) (f : FuncId) : Prop:=∃ fn,P.funcs[f]?=some fn∧fn.body.isNone=false∧(fn.name == "runtime.NumGoroutine")=false
def eY (E : Env) : List Operand→Option (List Value)
  | []=>some []
  | x::xs=>match ev E x,eY E xs with
    | some v,some vs=>some (v::vs)
    | _,_=>none
theorem fB {a : Act} (hk : aE n E a) : ∀ {xs : List Operand} {vs : List Value},eY E xs=some vs→xs.map a.eval=vs
  | [],vs,h=>by simpa [eY] using h
  | x::xs,vs,h=>by
    simp only [eY] at h
    cases h1 : ev E x with
    | none=>simp [h1] at h
    | some v=>
      cases h2 : eY E xs with
      | none=>simp [h1,h2] at h
      | some us=>
        simp only [h1,h2,Option.some.injEq] at h
        subst h
        simp [hk.eval h1,fB hk h2]
theorem ek {f : FuncId} {xs : List Operand} {ats : Array TypeId} {vs : List Value} {a : Act} (hg : aR P f) (hk : aE n E a) (hx : eY E xs=some vs) (w : World) :
    (execOp a.eval ⟨dst,.call ⟨.value (.func f),xs.toArray,ats⟩,ty,pos,aft,g⟩).run P w=.ok (.enter f vs.toArray) w:=by
  obtain ⟨fn,h1,h2,h3⟩:=hg
  have hm : xs.toArray.map a.eval=vs.toArray:=by simp [fB hk hx]
  have h2' : ¬ fn.body=none:=fun h=>by rw [h] at h2;cases h2
  have h3' : ¬ fn.name = "runtime.NumGoroutine" := by simpa using h3
  simp [execOp,resolve,Sem.run_bind,hm,Act.eval,Deferred.ofValue,invoke,callFunc,program,Sem.run,h1,h2',h3']
theorem OQ.call {f : FuncId} {xs : List Operand} {ats : Array TypeId} {vs : List Value} (hg : aR P f) (hx : eY E xs=some vs) (hc : ∀ w,C w→Calls P f vs.toArray w fun e w'=>e=.returned v∧C w') : OQ P n E C ⟨dst,.call ⟨.value (.func f),xs.toArray,ats⟩,ty,pos,aft,g⟩ v:=by
  refine ⟨fun a hk w hw=>?_⟩
  unfold Oper.quietAt
  rw [ek hg hk hx w]
  exact ⟨rfl,hc w hw⟩
theorem OQ.aB {f : FuncId} {xs : List Operand} {ats : Array TypeId} {vs : List Value} (hg : aR P f) (hx : eY E xs=some vs) (hc : ∀ w,aa w0 S M w→Calls P f vs.toArray w fun e w'=>e=.returned v∧Ext w w') :
    OQ P n E (aa w0 S M) ⟨dst,.call ⟨.value (.func f),xs.toArray,ats⟩,ty,pos,aft,g⟩ v:=
  OQ.call hg hx fun w hw=>(hc w hw).mono fun _ _ ⟨h1,h2⟩=>⟨h1,hw.ext h2⟩
theorem JL.call {ι : Type} (vf : ι→Value) (Mf : ι→List az) {f : FuncId} {xs : List Operand} {ats : Array TypeId} {vs : List Value} (hg : aR P f) (hx : eY E xs=some vs) (hd : Nat.blt d n=true)
    (hc : ∀ w,aa w0 S M w→Calls P f vs.toArray w fun e w'=>∃ i,e=.returned (vf i)∧aa w0 S (Mf i) w')
    (k : ∀ i,JL P n w0 S ops Q l ((d,vf i)::E) (Mf i)) : JL P n w0 S ops Q (⟨some d,.call ⟨.value (.func f),xs.toArray,ats⟩,ty,pos,aft,none⟩::l) E M:=
  ⟨fun a w ha hw=>wpList_plain rfl fun K hK=>by
    unfold Oper.wp
    rw [ek hg ha hx w]
    exact (hc w hw).mono fun e w' ⟨i,h1,h2⟩=>by subst h1;exact hK _ _ ((k i).go _ _ (ha.put d _ hd) h2)⟩
def mH {α : Type} (P : Program) : Sem α→Option (Obj × (Nat→Sem α))
  | .new o k=>some (o,k)
  | .program k=>mH P (k P)
  | .mark _ k=>mH P k
  | _=>none
theorem jA {α : Type} {vf : Nat→α} {ob : Obj} {kk : Nat→Sem α} : ∀ {s : Sem α} {w : World},mH P s=some (ob,kk)→(∀ r,ue P (kk r)=some (vf r))→s.run P w=.ok (vf w.heap.size) { w with heap:=w.heap.push ob }
  | .new o k,w,h,h2=>by
    simp only [mH,Option.some.injEq,Prod.mk.injEq] at h
    obtain ⟨rfl,rfl⟩:=h
    exact jm (h2 _)
  | .program k,w,h,h2=>by simp only [mH] at h;exact jA (s:=k P) h h2
  | .mark _ k,w,h,h2=>by simp only [mH] at h;exact jA (s:=k) h h2
  | .load ..,_,h,_ | .store ..,_,h,_ | .pure ..,_,h,_ | .shape ..,_,h,_ | .freeze ..,_,h,_ | .frozen ..,_,h,_ | .getObj ..,_,h,_ | .setObj ..,_,h,_ | .choose ..,_,h,_ | .sys ..,_,h,_ | .halt ..,_,h,_=>by simp [mH] at h
theorem rI {o : Oper} {a : Act} (hs : mF o.op=true) (hk : known E o.op=true) (ha : aE n E a) : execOp a.eval o=execOp (we E) o:=by
  refine execOp_congr _ (fun cs b hh=>?_) fun x hx=>?_
  · rw [hh] at hs;simp [mF] at hs
  · simp only [known,List.all_eq_true] at hk
    obtain ⟨u,hu⟩:=Option.isSome_iff_exists.1 (hk x (by simpa using hx))
    rw [ha.eval hu,we,hu];rfl
theorem JL.new (A : Obj→Prop) (vf : Nat→Value) {ob : Obj} {kk : Nat→Sem Next} (hs : mF op=true) (hk : known E op=true) (h1 : mH P (execOp (we E) ⟨some d,op,ty,pos,aft,none⟩)=some (ob,kk))
    (h2 : ∀ r,ue P (kk r)=some (.value (vf r))) (hA : A ob) (hd : Nat.blt d n=true)
    (k : ∀ b,w0.heap.size≤b→JL P n w0 S ops Q l ((d,vf b)::E) (⟨b,A,true⟩::M)) : JL P n w0 S ops Q (⟨some d,op,ty,pos,aft,none⟩::l) E M:=
  ⟨fun a w ha hw=>wpList_plain rfl fun K hK=>by
    unfold Oper.wp
    rw [rI hs hk ha,jA (vf:=fun r=>Next.value (vf r)) h1 h2]
    exact hK _ _ ((k w.heap.size hw.aC.size).go _ _ (ha.put d _ hd) (hw.push ob hA rfl rfl rfl rfl))⟩
@[reducible] def Pt (b j : Nat) : Value:=.pointer (some ⟨b,j,none⟩)
def zc (P : Program) (t : TypeId) : Option (List Value):=((P.info? t).bind (·.zero)).map (·.cells.toList)
theorem JL.alloc {r : List Value} (hz : zc P t=some r) (hd : Nat.blt d n=true)
    (k : ∀ b,w0.heap.size≤b→JL P n w0 S ops Q l ((d,Pt b 0)::E) (⟨b,Row t r,true⟩::M)) : JL P n w0 S ops Q (⟨some d,.alloc t,ty,pos,aft,none⟩::l) E M:=
  ⟨fun a w ha hw=>wpList_plain rfl fun K hK=>by
    have hr : (Instr.alloc t true (.tuple #[])).run P w=.ok (Pt w.heap.size 0) { w with heap:=w.heap.push (.cells r.toArray t (0,0)) }:=by
      unfold zc at hz
      cases hq : P.info? t with
      | none=>simp [hq] at hz
      | some i=>
        cases hi : i.zero with
        | none=>simp [hq,hi] at hz
        | some z=>
          simp only [hq,hi,Option.bind_some,Option.map_some,Option.some.injEq] at hz
          have h1 : z.cells=r.toArray:=by rw [← hz]
          simp [Instr.alloc,zeroValue,typeInfo,Sem.run_bind,hq,hi,newVar,newRow,newObj,h1,Sem.run]
    unfold Oper.wp
    simp only [execOp,Sem.run_bind,hr,Result.andThen_ok]
    exact hK _ _ ((k w.heap.size hw.aC.size).go _ _ (ha.put d _ hd) (hw.push (.cells r.toArray t (0,0)) rfl rfl rfl rfl rfl))⟩
theorem JL.box {r : List Value} (hx : ev E x=some v) (hr : v.cells=r.toArray) (hd : Nat.blt d n=true)
    (k : ∀ b,w0.heap.size≤b→JL P n w0 S ops Q l ((d,Pt b 0)::E) (⟨b,Row t r,true⟩::M)) : JL P n w0 S ops Q (⟨some d,.box t x,ty,pos,aft,none⟩::l) E M:=
  ⟨fun a w ha hw=>wpList_plain rfl fun K hK=>by
    have h1 : (Instr.box t v).run P w=.ok (Pt w.heap.size 0) { w with heap:=w.heap.push (.cells r.toArray t (0,0)) }:=by
      simp [Instr.box,newVar,newRow,newObj,hr,Sem.run]
    unfold Oper.wp
    simp only [execOp,ha.eval hx,Sem.run_bind,h1,Result.andThen_ok]
    exact hK _ _ ((k w.heap.size hw.aC.size).go _ _ (ha.put d _ hd) (hw.push (.cells r.toArray t (0,0)) rfl rfl rfl rfl rfl))⟩
theorem ig {α : Type} (f : α→Value) (d : α) {r : List α} {j : Nat} (h : j<r.length) : (r.map f)[j]?=some (f (r.getD j d)):=by
  simp [h]
theorem dx {w : World} {c : Array Value} {e : TypeId} {fr : Nat × Nat} (ho : w.heap[b]?=some (.cells c e fr)) :
    (w.setCell ⟨b,j,none⟩ v).heap[b]?=some (.cells (c.setIfInBounds j v) e fr):=by
  simp [World.setCell,Array.getElem?_modify,ho]
theorem cZ {w : World} {k : Nat} (h : k≠b) : (w.setCell ⟨b,j,none⟩ v).heap[k]?=w.heap[k]?:=by
  simp [World.setCell,Array.getElem?_modify,Ne.symm h]
theorem cQ {w : World} : (w.setCell ⟨b,j,none⟩ v).heap.size=w.heap.size:=by simp [World.setCell]
theorem fC {w : World} {c : Array Value} {e : TypeId} (hv : v.oneCell'=true) (ho : w.heap[b]?=some (.cells c e (0,0))) (hj : j<c.size) :
    (Go.store ⟨b,j,none⟩ v).run P w=.ok () (w.setCell ⟨b,j,none⟩ v):=by
  have hc : w.cell? ⟨b,j,none⟩=some c[j]:=by simp [World.cell?,ho,hj]
  have hf : w.frozen? ⟨b,j,none⟩=false:=by simp [World.frozen?,ho]
  cases v <;> simp_all [Go.store,Sem.run,Value.oneCell']
theorem bT {e : TypeId} : ∀ (vs : List Value) (i : Nat) (w : World) (c : List Value),(∀ v ∈ vs,v.oneCell'=true)→w.heap[b]?=some (.cells c.toArray e (0,0))→j+i+vs.length≤c.length→
    ∃ w',(storeCells ⟨b,j,none⟩ vs i).run P w=.ok () w'∧w'.heap[b]?=some (.cells (c.take (j+i)++vs++c.drop (j+i+vs.length)).toArray e (0,0))∧w'.heap.size=w.heap.size∧
      (∀ k,k≠b→w'.heap[k]?=w.heap[k]?)∧w'.os=w.os∧w'.tape=w.tape∧w'.output=w.output
  | [],i,w,c,_,ho,_=>⟨w,rfl,by simpa using ho,rfl,fun _ _=>rfl,rfl,rfl,rfl⟩
  | v::vs,i,w,c,h1,ho,hl=>by
    simp only [List.length_cons] at hl
    obtain ⟨w',r1,r2,r3,r4,r5,r6,r7⟩:=bT (e:=e) vs (i+1) (w.setCell ⟨b,j+i,none⟩ v) (c.set (j+i) v) (fun u hu=>h1 u (by simp [hu])) (by
      rw [dx ho];simp) (by simp;omega)
    refine ⟨w',?_,?_,r3.trans cQ,fun k hk=>(r4 k hk).trans (cZ hk),r5,r6,r7⟩
    · simp only [storeCells,Sem.run_bind,bh]
      rw [fC (h1 v (by simp)) ho (by simp;omega)]
      exact r1
    · rw [r2]
      congr 3
      rw [List.take_set,List.drop_set,if_pos (by omega)]
      rw [show j+(i+1)=j+i+1 by omega,List.take_add_one]
      simp only [List.getElem?_eq_getElem (show j+i<c.length by omega),Option.toList_some,List.length_cons]
      rw [List.set_append_right _ _ (by rw [List.length_take];omega)]
      simp [List.length_take,Nat.min_eq_left (show j+i≤c.length by omega),Nat.add_assoc,Nat.add_comm,Nat.add_left_comm]
theorem JL.x5 {hb : Option Tmp} (h : ∀ a w,aE n E a→aa w0 S M w→∃ w',(execOp a.eval ⟨hb,op,ty,pos,aft,none⟩).run P w=.ok .skip w'∧wpList P ops Q l (a.put hb undef) w') : JL P n w0 S ops Q (⟨hb,op,ty,pos,aft,none⟩::l) E M:=
  ⟨fun a w ha hw=>wpList_plain rfl fun K hK=>by
    obtain ⟨w',h1,h2⟩:=h a w ha hw
    unfold Oper.wp
    rw [h1]
    exact hK _ _ h2⟩
theorem JL.store (hx : ev E x=some (.pointer (some ⟨b,j,none⟩))) (hy : ev E y=some v) (hz : dw P t=some 1) (hv : v.oneCell'=true) (hcl : v.cells=#[v]) (hu : jc M b A A' M')
    (hA : ∀ o,A o→∃ c e,o=.cells c e (0,0)∧j<c.size∧A' (.cells (c.setIfInBounds j v) e (0,0)))
    (k : JL P n w0 S ops Q l E M') : JL P n w0 S ops Q (⟨none,.store t x y,ty,pos,aft,none⟩::l) E M:=
  JL.x5 fun a w ha hw=>by
    obtain ⟨o,ho,hAo⟩:=hw.get hu.has
    obtain ⟨c,e,rfl,hj,hA'⟩:=hA o hAo
    refine ⟨w.setCell ⟨b,j,none⟩ v,?_,k.go _ _ (ha.gx _) (hw.write hu hA' (dx ho) cQ (fun _ h=>cZ h) rfl rfl rfl)⟩
    have hs : (storeCells ⟨b,j,none⟩ [v] 0).run P w=.ok () (w.setCell ⟨b,j,none⟩ v):=by
      simp only [storeCells,Sem.run_bind,bh,Nat.add_zero]
      rw [fC hv ho hj];rfl
    simp [execOp,ha.eval hx,ha.eval hy,Instr.storeAt,Instr.sureAddr,Sem.run_bind,storeVar,aL hz,hcl,hs]
theorem JL.aK {r r' : List Value} {e : TypeId} (hz : dw P t=some 1) (hx : ev E x=some (.pointer (some ⟨b,j,none⟩))) (hy : ev E y=some v) (hv : v.oneCell'=true) (hcl : v.cells=#[v]) (hu : jc M b (Row e r) (Row e r') M') (hj : j<r.length) (he : r.set j v=r')
    (k : JL P n w0 S ops Q l E M') : JL P n w0 S ops Q (⟨none,.store t x y,ty,pos,aft,none⟩::l) E M:=
  JL.store hx hy hz hv hcl hu (fun o ho=>⟨_,_,ho,by simpa using hj,by simp [Row,he]⟩) k
theorem JL.ql {k : Nat} (hz' : dw P t=some k) (hx : ev E x=some (.pointer (some ⟨b,j,none⟩))) (hy : ev E y=some (.agg cs.toArray)) (hl : cs.length=k) (hv : cs.all Value.oneCell'=true) (hu : jc M b A A' M')
    (hA : ∀ o,A o→∃ r e,o=.cells (List.toArray r) e (0,0)∧j+cs.length≤r.length∧A' (.cells (r.take j++cs++r.drop (j+cs.length)).toArray e (0,0)))
    (k : JL P n w0 S ops Q l E M') : JL P n w0 S ops Q (⟨none,.store t x y,ty,pos,aft,none⟩::l) E M:=
  JL.x5 fun a w ha hw=>by
    have hz : dw P t=some cs.length:=hl ▸ hz'
    obtain ⟨o,ho,hAo⟩:=hw.get hu.has
    obtain ⟨r,e,rfl,hj,hA'⟩:=hA o hAo
    obtain ⟨w',r1,r2,r3,r4,r5,r6,r7⟩:=bT (P:=P) (j:=j) cs 0 w r (fun v hv'=>List.all_eq_true.1 hv v hv') ho (by omega)
    refine ⟨w',?_,k.go _ _ (ha.gx _) (hw.write hu hA' (by simpa using r2) r3 r4 r5 r6 r7)⟩
    simp [execOp,ha.eval hx,ha.eval hy,Instr.storeAt,Instr.sureAddr,Sem.run_bind,storeVar,aL hz,Value.cells,r1]
theorem JL.bI {r : List Value} {e : TypeId} {m : Nat} (hz : dw P t=some m) (hx : ev E x=some (.pointer (some ⟨b,0,none⟩))) (hy : ev E y=some (.agg cs.toArray)) (hc : cs.length=m) (hv : cs.all Value.oneCell'=true) (hu : jc M b (Row e r) (Row e cs) M')
    (hr : r.length=m) (k : JL P n w0 S ops Q l E M') : JL P n w0 S ops Q (⟨none,.store t x y,ty,pos,aft,none⟩::l) E M:=
  JL.ql hz hx hy hc hv hu (fun o ho=>⟨r,e,ho,by omega,by simp [Row,hc,← hr]⟩) k
def enum : Nat→List Value→Env
  | _,[]=>[]
  | i,v::vs=>(i,v)::enum (i+1) vs
theorem pO : ∀ (vs : List Value) (i t : Nat) (v : Value),lk (enum i vs) t=some v→i≤t∧vs[t - i]?=some v
  | [],_,_,_,h=>by simp [enum,lk] at h
  | u::vs,i,t,v,h=>by
    simp only [enum,lk] at h
    by_cases e : i=t
    · subst e
      simp at h
      simp [h]
    · have : Nat.beq i t=false:=Bool.eq_false_iff.2 fun h=>e (Nat.eq_of_beq_eq_true h)
      rw [this] at h
      obtain ⟨h1,h2⟩:=pO vs (i+1) t v h
      refine ⟨by omega,?_⟩
      rw [show t - i=(t - (i+1))+1 by omega]
      simpa using h2
theorem aE.enter (vs : List Value) (hl : vs.length≤n) : aE n (enum 0 vs) ⟨vs.toArray++Array.replicate (n - vs.toArray.size) undef,[]⟩:=by
  refine ⟨by simp;omega,rfl,fun t v h=>?_⟩
  obtain ⟨_,h2⟩:=pO vs 0 t v h
  have ht : t<vs.length:=(List.getElem?_eq_some_iff.1 h2).1
  simp only [Nat.sub_zero] at h2
  have h3:=(List.getElem?_eq_some_iff.1 h2).2
  simp [Array.getD_eq_getD_getElem?,Array.getElem?_append,ht,h3]
theorem enter {f : FuncId} {fn : Func} {c : Code} {vs : List Value} {w : World} {R : Ending→World→Prop} (hf : P.funcs[f]?=some fn) (hb : fn.body=some c) (hn : fn.ntmps=n) (hl : Nat.ble vs.length n=true)
    (hM : aa w S M w) (h : JC P n w S (bodyPost P fn R) c (enum 0 vs) M) : Calls P f vs.toArray w R:=by
  refine calls_of_wp hf hb (h.go _ _ ?_ hM)
  rw [hn]
  exact aE.enter vs (by simpa using hl)
def mI (tmps : Array Value) : ResultVar→Sem Value
  | .tmp t=>pure (tmps.getD t undef)
  | .cell p ty=>do loadVar ty (← asAddr (tmps.getD p undef))
theorem dH (fn : Func) (tmps : Array Value) : results fn tmps=(do let vs ← fn.results.mapM (mI tmps);pure (if h : vs.size=1 then vs[0] else .tuple vs)):=by
  unfold results
  congr 2
def RV (P : Program) (n : Nat) (w0 : World) (S : List Nat) (E : Env) (M : List az) (r : ResultVar) (v : Value) : Prop:=
  ∀ a w,aE n E a→aa w0 S M w→(mI a.tmps r).run P w=.ok v w
theorem RV.tmp {t : Tmp} (h : lk E t=some v) : RV P n w0 S E M (.tmp t) v:=fun a w ha _=>by
  simp only [mI,ha.all t v h];rfl
theorem RV.mJ {p : Tmp} {k : Nat} (ha : lH P t=true) (hz : dw P t=some k) (h : lk E p=some (.pointer (some ⟨b,0,none⟩))) (hM : Has M b A wr) (hl : cs.length=k) (hA : ∀ o,A o→bJ o 0 cs) : RV P n w0 S E M (.cell p t) (.agg cs.toArray):=fun a w hk hw=>by
  obtain ⟨o,ho,hAo⟩:=hw.get hM
  have:=eX (P:=P) ha (hl ▸ hz) (jz ho (hA o hAo))
  simp [mI,hk.all p _ h,asAddr,this]
theorem RV.cell {p : Tmp} (h : lk E p=some (.pointer (some ⟨b,0,none⟩))) (ha : fM P t=true) (hM : Has M b A wr) (hA : ∀ o,A o→cellAt o 0=some v) : RV P n w0 S E M (.cell p t) v:=fun a w hk hw=>by
  obtain ⟨o,ho,hAo⟩:=hw.get hM
  have:=bn (P:=P) ha (cell_of ho (hA o hAo))
  simp [mI,hk.all p _ h,asAddr,this]
variable {fn : Func} {R : Ending→World→Prop} {r1 r2 r3 : ResultVar} {v1 v2 v3 : Value}
theorem JE.qm (hr : fn.results=#[]) (hR : ∀ w,aa w0 S M w→R (.returned (.tuple #[])) w) : JE n w0 S (bodyPost P fn R) .ret E M:=⟨fun a w ha hw=>
  ⟨ha.defers,.tuple #[],by simp [results,hr],hR w hw⟩⟩
theorem JE.jd (hr : fn.results=#[]) (hR : ∀ w,aa w0 S M w→R (.returned (.tuple #[])) w) : JE n w0 S (bodyPost P fn R) .normal E M:=⟨fun a w ha hw=>
  ⟨ha.defers,.tuple #[],by simp [results,hr],hR w hw⟩⟩
theorem JE.aJ (hr : fn.results=#[r1]) (h1 : RV P n w0 S E M r1 v1) (hR : ∀ w,aa w0 S M w→R (.returned v1) w) : JE n w0 S (bodyPost P fn R) .ret E M:=by
  refine ⟨fun a w ha hw=>?_⟩
  refine ⟨ha.defers,v1,?_,hR w hw⟩
  have e1:=h1 a w ha hw
  rw [dH,hr]
  simp [e1]
theorem JE.wo (hr : fn.results=#[r1,r2]) (h1 : RV P n w0 S E M r1 v1) (h2 : RV P n w0 S E M r2 v2) (hR : ∀ w,aa w0 S M w→R (.returned (.tuple #[v1,v2])) w) : JE n w0 S (bodyPost P fn R) .ret E M:=by
  refine ⟨fun a w ha hw=>?_⟩
  refine ⟨ha.defers,.tuple #[v1,v2],?_,hR w hw⟩
  have e1:=h1 a w ha hw
  have e2:=h2 a w ha hw
  rw [dH,hr]
  simp [Sem.run_bind,e1,e2]
end
end Sl
end
section
namespace Sl
@[reducible] def N (a : Nat) : Value:=.int .i64 a
@[reducible] def U8 (a : BitVec 8) : Value:=.int .u8 a.toNat
section
variable {P : Program} {n : Nat} {E : Env} {C : World→Prop} {dst : Option Tmp} {ty t t' : TypeId} {pos : String} {aft : Array Edge} {g : Option (Nat × Bool)} {x y : Operand} {u v r : Value} {o : BinOp}
def wq : BinOp→Bool
  | .eql | .neq=>false
  | _=>true
theorem OQ.bin (hx : ev E x=some u) (hy : ev E y=some v) (ho : wq o=true) (h : ∀ w,(binOp o t u v).run P w=.ok r w) : OQ P n E C ⟨dst,.binOp o t x y t',ty,pos,aft,g⟩ r:=
  OQ.run fun a ha w _=>by
    have h1:=ha.eval hx
    have h2:=ha.eval hy
    have hg : ∀ w,(eqGuard o t x y u v).run P w=.ok () w:=fun w=>by
      cases o <;> first | rfl | cases ho
    simp [execOp,h1,h2,Sem.run_bind,hg,h w]
theorem OQ.x6 {k : IntKind} {a b : Int} (hx : ev E x=some (.int k a)) (hy : ev E y=some (.int k b)) : OQ P n E C ⟨dst,.binOp .eql t x y t',ty,pos,aft,g⟩ (.bool (decide (a=b))):=
  OQ.run fun c ha w _=>by
    have h1:=ha.eval hx
    have h2:=ha.eval hy
    simp [execOp,h1,h2,eqGuard,binOp,Op.intCmp]
    rfl
theorem OQ.xu {k : IntKind} {a b : Int} (hx : ev E x=some (.int k a)) (hy : ev E y=some (.int k b)) : OQ P n E C ⟨dst,.binOp .neq t x y t',ty,pos,aft,g⟩ (.bool (!decide (a=b))):=
  OQ.run fun c ha w _=>by
    have h1:=ha.eval hx
    have h2:=ha.eval hy
    simp [execOp,h1,h2,eqGuard,binOp,Op.intCmp]
    rfl
theorem fP {w : World} {k : IntKind} {i j : Int} (e : i=j) : (Result.ok (Value.int k i) w : Result Value)=.ok (.int k j) w:=by rw [e]
theorem fV {w : World} {i j : Bool} (e : i=j) : (Result.ok (Value.bool i) w : Result Value)=.ok (.bool j) w:=by rw [e]
theorem iK {a : Int} (h0 : -9223372036854775808≤a) (h : a<9223372036854775808) : IntKind.i64.wrap a=a:=by
  simp [IntKind.wrap,IntKind.bits,IntKind.signed];omega
theorem OQ.bH {a b : Nat} (hx : ev E x=some (N a)) (hy : ev E y=some (N b)) (h : a+b<9223372036854775808) : OQ P n E C ⟨dst,.binOp .add t x y t',ty,pos,aft,g⟩ (N (a+b)):=
  OQ.bin hx hy rfl fun _=>fP (k:=.i64) (show IntKind.i64.wrap ((a : Int)+b)=((a+b : Nat) : Int) from (iK (by omega) (by omega)).trans (by simp))
theorem OQ.lJ {a b : Nat} (hx : ev E x=some (N a)) (hy : ev E y=some (N b)) (h : b≤a) (h2 : a<9223372036854775808) : OQ P n E C ⟨dst,.binOp .sub t x y t',ty,pos,aft,g⟩ (N (a - b)):=
  OQ.bin hx hy rfl fun _=>fP (k:=.i64) (show IntKind.i64.wrap ((a : Int) - b)=((a - b : Nat) : Int) from (iK (by omega) (by omega)).trans (by omega))
theorem OQ.yc {a b : Nat} (hx : ev E x=some (N a)) (hy : ev E y=some (N b)) (h : 0<b) (h2 : a<9223372036854775808) : OQ P n E C ⟨dst,.binOp .quo t x y t',ty,pos,aft,g⟩ (N (a / b)):=
  OQ.bin hx hy rfl fun w=>by
    have h3 : a / b≤a:=Nat.div_le_self _ _
    have h4 : ((a : Int).tdiv b)=((a / b : Nat) : Int):=by rw [Int.tdiv_eq_ediv_of_nonneg (by omega)];exact_mod_cast rfl
    have h5 : ¬ (b : Int)=0:=by omega
    have h6 : IntKind.i64.wrap ((a : Int).tdiv b)=((a / b : Nat) : Int):=by rw [h4];generalize a / b=c at h3;exact iK (by omega) (by omega)
    have h7 : Op.intDiv .quo .i64 (a : Int) b=(Pure.pure (.int .i64 (IntKind.i64.wrap ((a : Int).tdiv b))) : Sem Value):=by simp only [Op.intDiv,if_neg h5]
    show Sem.run P (Op.intDiv .quo .i64 (a : Int) b) w=_
    rw [h7,h6];rfl
theorem OQ.xw {a b : Nat} (hx : ev E x=some (N a)) (hy : ev E y=some (N b)) (h : 0<b) : OQ P n E C ⟨dst,.binOp .rem t x y t',ty,pos,aft,g⟩ (N (a % b)):=
  OQ.bin hx hy rfl fun w=>by
    have h4 : ((a : Int).tmod b)=((a % b : Nat) : Int):=by rw [Int.tmod_eq_emod_of_nonneg (by omega)];exact_mod_cast rfl
    have h5 : ¬ (b : Int)=0:=by omega
    have h7 : Op.intDiv .rem .i64 (a : Int) b=(Pure.pure (.int .i64 ((a : Int).tmod b)) : Sem Value):=by simp only [Op.intDiv,if_neg h5]
    show Sem.run P (Op.intDiv .rem .i64 (a : Int) b) w=_
    rw [h7,h4];rfl
theorem OQ.ij {a b : Nat} (hx : ev E x=some (N a)) (hy : ev E y=some (N b)) : OQ P n E C ⟨dst,.binOp .lss t x y t',ty,pos,aft,g⟩ (.bool (decide (a<b))):=
  OQ.bin hx hy rfl fun _=>fV (decide_eq_decide.2 Int.ofNat_lt)
theorem OQ.xy {a b : Nat} (hx : ev E x=some (N a)) (hy : ev E y=some (N b)) : OQ P n E C ⟨dst,.binOp .gtr t x y t',ty,pos,aft,g⟩ (.bool (decide (b<a))):=
  OQ.bin hx hy rfl fun _=>fV (decide_eq_decide.2 Int.ofNat_lt)
theorem OQ.xz {a b : Nat} (hx : ev E x=some (N a)) (hy : ev E y=some (N b)) : OQ P n E C ⟨dst,.binOp .geq t x y t',ty,pos,aft,g⟩ (.bool (decide (b≤a))):=
  OQ.bin hx hy rfl fun _=>fV (decide_eq_decide.2 Int.ofNat_le)
theorem OQ.yd {a b : Nat} (hx : ev E x=some (N a)) (hy : ev E y=some (N b)) : OQ P n E C ⟨dst,.binOp .neq t x y t',ty,pos,aft,g⟩ (.bool (!decide (a=b))):=
  (decide_eq_decide.2 Int.ofNat_inj : decide ((a : Int)=b)=decide (a=b)) ▸ OQ.xu hx hy
theorem gz {k : Nat} (a : BitVec k) : BitVec.ofInt k (a.toNat : Int)=a:=by simp
theorem rJ (a : Nat) : IntKind.u8.wrap (a : Int)=((a % 2 ^ 8 : Nat) : Int):=by simp [IntKind.wrap,IntKind.bits,IntKind.signed]
theorem rK (a : BitVec 8) : IntKind.u8.wrap (a.toNat : Int)=a.toNat:=by rw [rJ,Nat.mod_eq_of_lt a.isLt]
end
end Sl
end
section
namespace Sl
section
variable {P : Program} {n : Nat} {E : Env} {C : World→Prop} {dst : Option Tmp} {ty t t' e : TypeId} {pos : String} {aft : Array Edge} {g : Option (Nat × Bool)} {x y : Operand} {u v r : Value}
theorem OQ.conv {k k' : IntKind} {d : TypeDesc} {i : Int} (hs : P.underlying t=some d) (hd : P.underlying t'=some (.int k)) (hx : ev E x=some (.int k' i)) (hv : v=.int k (k.wrap i)) : OQ P n E C ⟨dst,.convert t t' x,ty,pos,aft,g⟩ v:=by
  subst hv
  refine OQ.run fun a ha w _=>?_
  have h1:=ha.eval hx
  have h2 : (underlying t).run P w=.ok d w:=run_underlying hs w
  have h3 : (underlying t').run P w=.ok (.int k) w:=run_underlying hd w
  cases d <;> simp [execOp,h1,convert,Sem.run_bind,h2,h3,Conv.intToInt]
theorem OQ.xA {len b j i sz : Nat} (hu : P.underlying t=some (.array len e)) (hz : dw P e=some sz) (hx : ev E x=some (.pointer (some ⟨b,j,none⟩))) (hy : ev E y=some (N i)) (hi : i<len) :
    OQ P n E C ⟨dst,.indexAddr t x y,ty,pos,aft,g⟩ (.pointer (some ⟨b,j+i * sz,none⟩)):=
  OQ.run fun a ha w _=>by
    have h1:=ha.eval hx
    have h2:=ha.eval hy
    have h3 : (underlying t).run P w=.ok (.array len e) w:=run_underlying hu w
    have h4 : (0 : Int)≤(i : Int)∧(i : Int)<(len : Int):=by omega
    simp [execOp,h1,h2,Instr.indexAt,asIntOf,Sem.run_bind,h3,Instr.sureAddr,hi,aL hz,bh]
theorem OQ.wu {len cap b j i sz : Nat} (hu : P.underlying t=some (.slice e)) (hz : dw P e=some sz) (hx : ev E x=some (.slice (some ⟨b,j,none⟩) len cap)) (hy : ev E y=some (N i)) (hi : i<len) :
    OQ P n E C ⟨dst,.indexAddr t x y,ty,pos,aft,g⟩ (.pointer (some ⟨b,j+i * sz,none⟩)):=
  OQ.run fun a ha w _=>by
    have h1:=ha.eval hx
    have h2:=ha.eval hy
    have h3 : (underlying t).run P w=.ok (.slice e) w:=run_underlying hu w
    simp [execOp,h1,h2,Instr.indexAt,asIntOf,Sem.run_bind,h3,hi,aL hz,bh]
theorem OQ.wv {len b i : Nat} (hu : P.underlying t=some (.array len e)) (hz : dw P e=some 1) (hx : ev E x=some (.pointer (some ⟨b,0,none⟩))) (hy : ev E y=some (N i)) (hi : i<len) :
    OQ P n E C ⟨dst,.indexAddr t x y,ty,pos,aft,g⟩ (.pointer (some ⟨b,i,none⟩)):=by
  have:=OQ.xA (P:=P) (n:=n) (C:=C) (dst:=dst) (ty:=ty) (pos:=pos) (aft:=aft) (g:=g) hu hz hx hy hi
  rwa [Nat.mul_one,Nat.zero_add] at this
theorem OQ.kJ {len cap b i : Nat} (hu : P.underlying t=some (.slice e)) (hz : dw P e=some 1) (hx : ev E x=some (.slice (some ⟨b,0,none⟩) len cap)) (hy : ev E y=some (N i)) (hi : i<len) :
    OQ P n E C ⟨dst,.indexAddr t x y,ty,pos,aft,g⟩ (.pointer (some ⟨b,i,none⟩)):=by
  have:=OQ.wu (P:=P) (n:=n) (C:=C) (dst:=dst) (ty:=ty) (pos:=pos) (aft:=aft) (g:=g) hu hz hx hy hi
  rwa [Nat.mul_one,Nat.zero_add] at this
theorem OQ.bZ {len cap b j i : Nat} (hu : P.underlying t=some (.slice e)) (hz : dw P e=some 1) (hx : ev E x=some (.slice (some ⟨b,j,none⟩) len cap)) (hy : ev E y=some (N i)) (hi : i<len) :
    OQ P n E C ⟨dst,.indexAddr t x y,ty,pos,aft,g⟩ (.pointer (some ⟨b,j+i,none⟩)):=by
  have:=OQ.wu (P:=P) (n:=n) (C:=C) (dst:=dst) (ty:=ty) (pos:=pos) (aft:=aft) (g:=g) hu hz hx hy hi
  rwa [Nat.mul_one] at this
theorem OQ.index {len i : Nat} {cs : List Value} (hu : P.underlying t=some (.array len e)) (hz : dw P e=some 1) (hs : fM P e=true) (hx : ev E x=some (.agg cs.toArray)) (hy : ev E y=some (N i)) (hi : i<len) (hv : cs[i]?=some v) :
    OQ P n E C ⟨dst,.index t x y,ty,pos,aft,g⟩ v:=
  OQ.run fun a ha w _=>by
    have h1:=ha.eval hx
    have h2:=ha.eval hy
    have h3 : (underlying t).run P w=.ok (.array len e) w:=run_underlying hu w
    simp [execOp,h1,h2,Instr.index,asIntOf,Sem.run_bind,h3,hi,aL hz,part,jy hs,hv]
theorem OQ.b8 {s f : Nat} {fs : Array Field} {fd : Field} {b j sz : Nat} (hu : P.underlying s=some (.struct fs)) (hf : fs[f]?=some fd) (hz : dw P fd.type=some sz) (h0 : sz≠0) (hx : ev E x=some (.pointer (some ⟨b,j,none⟩))) :
    OQ P n E C ⟨dst,.fieldAddr s x f,ty,pos,aft,g⟩ (.pointer (some ⟨b,j+fd.offset,none⟩)):=
  OQ.run fun a ha w _=>by
    have h1:=ha.eval hx
    have h3 : (underlying s).run P w=.ok (.struct fs) w:=run_underlying hu w
    simp [execOp,h1,Instr.fieldAt,Sem.run_bind,h3,hf,Instr.sureAddr,fieldPlace,aL hz,h0,bh]
theorem OQ.ot {len cap lo sz : Nat} {ad : Option Addr} (hu : P.underlying t=some (.slice e)) (hz : dw P e=some sz) (hx : ev E x=some (.slice ad len cap)) (hl : ev E y=some (N lo)) (h : lo≤len) :
    OQ P n E C ⟨dst,.slice t x (some y) none none,ty,pos,aft,g⟩ (.slice (if cap=lo then ad else ad.map (·.add (lo * sz))) (len - lo) (cap - lo)):=
  OQ.run fun a ha w _=>by
    have h1:=ha.eval hx
    have h2:=ha.eval hl
    have h3 : (underlying t).run P w=.ok (.slice e) w:=run_underlying hu w
    simp [execOp,h1,h2,Instr.sliceAt,Sem.run_bind,h3,Instr.slice,Instr.sliceBounds,Instr.sliceBound,asIntOf,h,aL hz]
theorem OQ.jB {len cap hi sz : Nat} {ad : Option Addr} (hu : P.underlying t=some (.slice e)) (hz : dw P e=some sz) (hx : ev E x=some (.slice ad len cap)) (hh : ev E y=some (N hi)) (h : hi≤cap) :
    OQ P n E C ⟨dst,.slice t x none (some y) none,ty,pos,aft,g⟩ (.slice (if cap=0 then ad else ad.map (·.add 0)) hi cap):=
  OQ.run fun a ha w _=>by
    have h1:=ha.eval hx
    have h2:=ha.eval hh
    have h3 : (underlying t).run P w=.ok (.slice e) w:=run_underlying hu w
    simp [execOp,h1,h2,Instr.sliceAt,Sem.run_bind,h3,Instr.slice,Instr.sliceBounds,Instr.sliceBound,asIntOf,h,aL hz]
end
end Sl
end
section
namespace Sl
def Reads (w : World) (ad : Option Addr) (cs : List Value) : Prop:=∀ i v,cs[i]?=some v→∃ b j,ad=some ⟨b,j,none⟩∧w.cell? ⟨b,j+i,none⟩=some v
theorem Reads.nil (w : World) (ad : Option Addr) : Reads w ad []:=by intro i v h;simp at h
theorem Reads.at {w : World} {ad : Option Addr} {cs : List Value} (h : Reads w ad cs) (h0 : 0<cs.length) : ∃ b j,ad=some ⟨b,j,none⟩∧∀ i v,cs[i]?=some v→w.cell? ⟨b,j+i,none⟩=some v:=by
  obtain ⟨b,j,h1,_⟩:=h 0 cs[0] (by simp [h0])
  refine ⟨b,j,h1,fun i v hv=>?_⟩
  obtain ⟨b',j',h2,h3⟩:=h i v hv
  rw [h1] at h2
  cases h2
  exact h3
theorem Reads.of {w : World} {b j : Nat} {cs : List Value} (h : ∀ i v,cs[i]?=some v→w.cell? ⟨b,j+i,none⟩=some v) : Reads w (some ⟨b,j,none⟩) cs:=fun i v hv=>⟨b,j,rfl,h i v hv⟩
theorem Reads.block {w : World} {b j : Nat} {cs : List Value} {o : Obj} (ho : w.heap[b]?=some o) (h : bJ o j cs) : Reads w (some ⟨b,j,none⟩) cs:=.of (jz ho h)
theorem Reads.take {w : World} {ad : Option Addr} {cs : List Value} (h : Reads w ad cs) (k : Nat) : Reads w ad (cs.take k):=fun i v hv=>h i v (by
  rw [List.getElem?_take] at hv
  split at hv
  · exact hv
  · cases hv)
theorem Reads.drop {w : World} {ad : Option Addr} {cs : List Value} {len cap lo : Nat} (h : Reads w ad cs) (hl : cs.length=len) (hc : len≤cap) (hlo : lo≤len) : Reads w (if cap=lo then ad else ad.map (·.add (lo * 1))) (cs.drop lo):=by
  by_cases e : cap=lo
  · rw [if_pos e,List.drop_of_length_le (by omega)]
    exact .nil _ _
  · rw [if_neg e]
    intro i v hv
    rw [List.getElem?_drop] at hv
    obtain ⟨b,j,h1,h2⟩:=h _ v hv
    refine ⟨b,j+lo,by simp [h1,bh],by rw [Nat.add_assoc];exact h2⟩
section
variable {P : Program} {w : World} {cs : List Value} {ad : Option Addr} {m c sz : Nat}
theorem eZ (hl : cs.length=m * sz) (h : Reads w ad cs) (len : Nat) : (Builtin.firstCells sz m (.slice ad len c)).run P w=.ok cs.toArray w:=by
  by_cases h0 : cs=[]
  · subst h0
    have hm : m * sz=0:=by simpa using hl.symm
    cases ad with
    | none=>rfl
    | some a=>simp [Builtin.firstCells,hm,loadCells,loadCellsFrom]
  · obtain ⟨b,j,rfl,h2⟩:=h.at (List.length_pos_iff.2 h0)
    exact run_firstCells_some (P:=P) w sz m ⟨b,j,none⟩ len c cs hl (fun i v hv=>by rw [bh];exact h2 i v hv)
end
def EI (P : Program) (e : TypeId) (z : Value) (sz bytes : Nat) : Prop:=(P.info? e).map (fun i=>(i.zero,i.size,i.bytes))=some (some z,sz,bytes)
theorem EI.get {P : Program} {e : TypeId} {z : Value} {sz bytes : Nat} (h : EI P e z sz bytes) : ∃ i,P.info? e=some i∧i.zero=some z∧i.size=sz∧i.bytes=bytes:=by
  unfold EI at h
  cases hq : P.info? e with
  | none=>simp [hq] at h
  | some i=>simp only [hq,Option.map_some,Option.some.injEq,Prod.mk.injEq] at h;exact ⟨i,rfl,h⟩
theorem EI.sz {P : Program} {e : TypeId} {z : Value} {sz bytes : Nat} (h : EI P e z sz bytes) : dw P e=some sz:=by
  obtain ⟨i,h1,_,h2,_⟩:=h.get
  simp [dw,h1,h2]
def Own (e : TypeId) (sz n cap : Nat) (xs : List Value) : Obj→Prop:=fun o=>∃ sp : List Value,o=.cells (xs++sp).toArray e (0,0)∧(xs++sp).length=cap * sz∧xs.length=n * sz∧n≤cap
theorem Sl.Own.cells {e : TypeId} {sz n cap : Nat} {xs : List Value} : ∀ o,Sl.Own e sz n cap xs o→bJ o 0 xs:=by
  rintro o ⟨sp,rfl,_⟩
  exact ⟨_,_,_,rfl,fun i hi=>by simp [List.getElem?_append_left hi]⟩
theorem Sl.Own.cell {e : TypeId} {sz n cap j : Nat} {v : Value} {xs : List Value} (h : xs[j]?=some v) : ∀ o,Sl.Own e sz n cap xs o→cellAt o j=some v:=by
  rintro o ⟨sp,rfl,_⟩
  have hj : j<xs.length:=(List.getElem?_eq_some_iff.1 h).1
  simpa [cellAt,List.getElem?_append_left hj] using h
inductive dI : List az→Nat→(Obj→Prop)→Nat→(Obj→Prop)→List az→Prop where
  | here {b A b' A' M} : dI (⟨b,A,true⟩::M) b A b' A' (⟨b',A',true⟩::M)
  | there {e M b A b' A' M'} : dI M b A b' A' M'→dI (e::M) b A b' A' (e::M')
section
variable {w0 : World} {S : List Nat} {M M' : List az} {w w' : World} {b b' : Nat} {A A' : Obj→Prop}
theorem dI.has (h : dI M b A b' A' M') : Has M b A true:=by
  induction h with
  | here=>exact .here
  | there _ ih=>exact .there ih
theorem dI.xB (h : dI M b A b A' M') : jc M b A A' M':=by
  generalize hb : b=b1 at h
  have : b=b1:=hb
  clear hb
  suffices ∀ {M M' : List az} {b b1 : Nat} {A A' : Obj→Prop},dI M b A b1 A' M'→b=b1→jc M b A A' M' by exact this (by rw [← ‹b=b1›] at h ⊢;exact h) rfl
  intro M M' b b1 A A' h e
  induction h with
  | here=>subst e;exact .here
  | there _ ih=>exact .there (ih e)
theorem dI.mem (h : dI M b A b' A' M') : ∀ e ∈ M',e=⟨b',A',true⟩∨e ∈ M:=by
  induction h with
  | here=>
    intro e he
    simp only [List.mem_cons] at he
    rcases he with rfl | he
    · exact .inl rfl
    · exact .inr (by simp [he])
  | there _ ih=>
    intro e he
    simp only [List.mem_cons] at he
    rcases he with rfl | he
    · exact .inr (by simp)
    · rcases ih e he with h | h
      · exact .inl h
      · exact .inr (by simp [h])
theorem dI.nodup (h : dI M b A b' A' M') (hn : (M.map az.b).Nodup) (hb : b' ∉ M.map az.b) : (M'.map az.b).Nodup:=by
  induction h with
  | here=>
    simp only [List.map_cons,List.nodup_cons,List.mem_cons,not_or] at hn hb ⊢
    exact ⟨hb.2,hn.2⟩
  | @there e M b A b' A' M' hr ih=>
    simp only [List.map_cons,List.nodup_cons,List.mem_cons,not_or] at hn hb ⊢
    refine ⟨fun hm=>?_,ih hn.2 hb.2⟩
    obtain ⟨x,hx,hxe⟩:=List.mem_map.1 hm
    rcases hr.mem x hx with rfl | hx
    · exact hb.1 hxe
    · exact hn.1 (hxe ▸ List.mem_map_of_mem hx)
theorem aa.renew (h : aa w0 S M w) (o : Obj) (hr : dI M b A w.heap.size A' M') (hA : A' o) (hw : w'.heap=w.heap.push o) (h1 : w'.os=w.os) (h2 : w'.tape=w.tape) (h3 : w'.output=w.output) : aa w0 S M' w':=by
  have hp:=h.push o hA hw h1 h2 h3
  refine ⟨hp.aC,hr.nodup h.nodup ?_,fun e he=>?_⟩
  · intro hm
    obtain ⟨e,he,hb⟩:=List.mem_map.1 hm
    have:=h.lt he
    omega
  · rcases hr.mem e he with rfl | he
    · exact hp.all _ (by simp)
    · exact hp.all e (by simp [he])
theorem aa.seen {o : Obj} (ho : w.heap[b]?=some o) (hA : A o) : aa w S [⟨b,A,false⟩] w:=⟨jl.refl _ _,by simp,by simp [ho,hA]⟩
theorem aa.fresh (h : aa w0 S M w) (hx : Ext w w') (hb : w.heap.size≤b) {o : Obj} (ho : w'.heap[b]?=some o) (hA : A o) : aa w0 S (⟨b,A,true⟩::M) w':=by
  have h':=h.ext hx
  refine ⟨h'.aC,?_,fun e he=>?_⟩
  · simp only [List.map_cons,List.nodup_cons,h.nodup,and_true]
    intro hm
    obtain ⟨e,he,hbe⟩:=List.mem_map.1 hm
    have:=h.lt he
    omega
  · simp only [List.mem_cons] at he
    rcases he with rfl | he
    · exact ⟨⟨o,ho,hA⟩,fun _=>.inr (Nat.le_trans h.aC.size hb)⟩
    · exact h'.all e he
theorem aa.one {o : Obj} (ho : w.heap[b]?=some o) (hA : A o) : aa w [b] [⟨b,A,true⟩] w:=⟨jl.refl _ _,by simp,by simp [ho,hA]⟩
theorem aa.reads (h : aa w0 S M w) {ad : Option Addr} {cs : List Value} (hr : Reads w0 ad cs) (hS : cs≠[]→∀ a,ad=some a→a.block ∉ S) : Reads w ad cs:=by
  intro i v hv
  have hcs : cs≠[]:=by rintro rfl;simp at hv
  obtain ⟨b,j,h1,h2⟩:=hr i v hv
  have hb : b<w0.heap.size:=block_lt_of_cell h2
  exact ⟨b,j,h1,by simpa [World.cell?,h.old hb (hS hcs _ h1)] using h2⟩
end
section
variable {P : Program} {n : Nat} {w0 : World} {S : List Nat} {ops : Array Oper} {Q : Exit→Act→World→Prop} {l : List Oper} {E : Env} {M : List az} {C : World→Prop}
variable {dst : Option Tmp} {d b j : Nat} {t ty e : TypeId} {pos : String} {aft : Array Edge} {g : Option (Nat × Bool)} {v : Value} {x y : Operand} {A A' : Obj→Prop} {cs : List Value}
theorem OQ.cl {a : Addr} (hx : ev E x=some (.pointer (some a))) : OQ P n E C ⟨dst,.nilCheck x,ty,pos,aft,g⟩ (.pointer (some a)):=
  OQ.run fun c hk w _=>by
    have h1:=hk.eval hx
    simp [execOp,h1]
theorem OQ.len {ad : Option Addr} {k cap : Nat} (hu : P.underlying t=some (.slice e)) (hx : ev E x=some (.slice ad k cap)) : OQ P n E C ⟨dst,.call ⟨.builtin .len,#[x],#[t]⟩,ty,pos,aft,g⟩ (N k):=
  OQ.run fun a hk w _=>by
    have h1:=hk.eval hx
    have h3 : (underlying t).run P w=.ok (.slice e) w:=run_underlying hu w
    simp [execOp,h1,resolve,invoke,builtin,Builtin.len_,Sem.run_bind,h3,goInt]
theorem rL {t' : TypeId} {w : World} {ad : Option Addr} {dl dc sl sc : Nat} {r : List Value} (hu : P.underlying t=some (.slice e)) (hz : dw P e=some 1) (ho : w.heap[b]?=some (.cells r.toArray ty (0,0)))
    (hl : cs.length=sl) (hr : Reads w ad cs) (h1 : ∀ v ∈ cs,v.oneCell'=true) (hj : j+min sl dl≤r.length) :
    ∃ w',(Builtin.copy_ #[t,t'] 0 #[.slice (some ⟨b,j,none⟩) dl dc,.slice ad sl sc]).run P w=.ok (N (min sl dl)) w'∧w'.heap[b]?=some (.cells (r.take j++cs.take (min sl dl)++r.drop (j+min sl dl)).toArray ty (0,0))∧w'.heap.size=w.heap.size∧
      (∀ k,k≠b→w'.heap[k]?=w.heap[k]?)∧w'.os=w.os∧w'.tape=w.tape∧w'.output=w.output:=by
  have hlen : (cs.take (min sl dl)).length=min sl dl:=by simp;omega
  obtain ⟨w',r1,r2,r3,r4,r5,r6,r7⟩:=bT (P:=P) (b:=b) (j:=j) (e:=ty) (cs.take (min sl dl)) 0 w r (fun v hv=>h1 v (List.mem_of_mem_take hv)) ho (by omega)
  refine ⟨w',?_,by rw [hlen] at r2;simpa using r2,r3,r4,r5,r6,r7⟩
  have h3 : (underlying t).run P w=.ok (.slice e) w:=run_underlying hu w
  have h4:=eZ (P:=P) (m:=min sl dl) (sz:=1) (c:=sc) (by rw [hlen,Nat.mul_one]) (hr.take (min sl dl)) sl
  simp only [Builtin.copy_,Sem.run_bind,Sem.run_pure,h3,Result.andThen_ok,Builtin.lenOf,aL hz,List.getElem?_toArray,List.getElem?_cons_zero,List.getElem?_cons_succ]
  have h5 : Nat.min sl dl=min sl dl:=rfl
  rw [h5,h4]
  simp only [Result.andThen_ok,r1]
  rfl
theorem JL.copy {t' : TypeId} {ad : Option Addr} {dl dc sl sc : Nat} {r r' : List Value} {M' : List az} {te : TypeId} (hu : P.underlying t=some (.slice e)) (hz : dw P e=some 1) (hx : ev E x=some (.slice (some ⟨b,j,none⟩) dl dc)) (hy : ev E y=some (.slice ad sl sc))
    (hup : jc M b (Row te r) (Row te r') M') (hl : cs.length=sl) (hr : ∀ w,aa w0 S M w→Reads w ad cs) (h1 : ∀ v ∈ cs,v.oneCell'=true) (hj : j+min sl dl≤r.length) (he : r.take j++cs.take (min sl dl)++r.drop (j+min sl dl)=r') (hd : Nat.blt d n=true)
    (k : JL P n w0 S ops Q l ((d,N (min sl dl))::E) M') : JL P n w0 S ops Q (⟨some d,.call ⟨.builtin .copy,#[x,y],#[t,t']⟩,ty,pos,aft,none⟩::l) E M:=
  ⟨fun a w ha hw=>wpList_plain rfl fun K hK=>by
    obtain ⟨o,ho,hAo⟩:=hw.get hup.has
    subst hAo
    obtain ⟨w',r1,r2,r3,r4,r5,r6,r7⟩:=rL (P:=P) (t':=t') (dc:=dc) (sc:=sc) (ty:=te) hu hz ho hl (hr w hw) h1 hj
    have r1' : (Builtin.copy_ #[t,t'] ty #[.slice (some ⟨b,j,none⟩) dl dc,.slice ad sl sc]).run P w=.ok (N (min sl dl)) w':=r1
    unfold Oper.wp
    simp only [execOp,resolve,invoke,builtin,Sem.run_bind,Sem.run_pure,Result.andThen_ok,List.map_toArray,List.map_cons,List.map_nil,ha.eval hx,ha.eval hy,r1']
    exact hK _ _ (k.go _ _ (ha.put d _ hd) (hw.write hup (he ▸ rfl) r2 r3 r4 r5 r6 r7))⟩
theorem e6 {_t' : TypeId} {w : World} {base ad : Option Addr} {nl cap sc : Nat} {i : TypeInfo} (hu : P.underlying t=some (.slice e)) (hi : P.info? e=some i) (hc : nl≤cap) :
    (Builtin.append_ #[t,t] ty #[.slice base nl cap,.slice ad 0 sc]).run P w=.ok (.slice base nl cap) w:=by
  have h3 : (underlying t).run P w=.ok (.slice e) w:=run_underlying hu w
  cases base <;> cases ad <;> simp [Builtin.append_,run_underlying hu,sizeOf,typeInfo,hi,Builtin.lenOf,Builtin.firstCells,loadCells,loadCellsFrom,hc,storeCells]
theorem JL.append {z : Value} {ad : Option Addr} {sz by' k m cap sc : Nat} {xs : List Value} (M' : Nat→Nat→List az) (hu : P.underlying t=some (.slice e)) (hi : EI P e z sz by') (hx : ev E x=some (.slice (some ⟨b,0,none⟩) k cap)) (hy : ev E y=some (.slice ad m sc))
    (hup : ∀ b' cap',dI M b (Sl.Own e sz k cap xs) b' (Sl.Own e sz (k+m) cap' (xs++cs)) (M' b' cap')) (hl : cs.length=m * sz) (hr : ∀ w,aa w0 S M w→Reads w ad cs) (h1 : ∀ v ∈ cs,v.oneCell'=true)
    (hzz : z.cells.size=sz) (h0 : 0<sz) (hsm : (k+m) * by'≤140737488355328) (hsm2 : k+m<9223372036854775808) (hd : Nat.blt d n=true)
    (kk : ∀ b' cap',JL P n w0 S ops Q l ((d,.slice (some ⟨b',0,none⟩) (k+m) cap')::E) (M' b' cap')) : JL P n w0 S ops Q (⟨some d,.call ⟨.builtin .append,#[x,y],#[t,t]⟩,ty,pos,aft,none⟩::l) E M:=
  ⟨fun a w ha hw=>wpList_plain rfl fun K hK=>by
    obtain ⟨i,hi1,hi2,hi3,hi4⟩:=hi.get
    obtain ⟨o,ho,sp,rfl,hc1,hc2,hc3⟩:=hw.get (hup 0 0).has
    have hru:=hr w hw
    unfold Oper.wp
    simp only [execOp,resolve,invoke,builtin,Sem.run_bind,Sem.run_pure,Result.andThen_ok,List.map_toArray,List.map_cons,List.map_nil,ha.eval hx,ha.eval hy]
    by_cases hm : m=0
    · subst hm
      have hcs : cs=[]:=List.eq_nil_of_length_eq_zero (by simpa using hl)
      subst hcs
      rw [e6 (_t':=t) hu hi1 hc3]
      refine hK _ _ ((kk b cap).go _ _ (ha.put d _ hd) (hw.write (hup b cap).xB (o':=.cells (xs++sp).toArray e (0,0)) ?_ ho rfl (fun _ _=>rfl) rfl rfl rfl))
      exact ⟨sp,by simp,by simpa using hc1,by simpa using hc2,by omega⟩
    · have hpos : 0<cs.length:=by rw [hl];exact Nat.mul_pos (Nat.pos_of_ne_zero hm) h0
      obtain ⟨b2,j2,rfl,hcell⟩:=hru.at hpos
      by_cases hroom : k+m≤cap
      · have hfit : k * i.size+cs.length≤(xs++sp).toArray.size:=by
          rw [hl,hi3,List.size_toArray,hc1,← Nat.add_mul];exact Nat.mul_le_mul_right _ hroom
        rw [run_append_room (P:=P) w t ty e i hu hi1 b k cap (xs++sp).toArray ho ⟨b2,j2,none⟩ m sc cs (by rw [hl,hi3]) (fun u v hv=>by rw [bh];exact hcell u v hv) h1 hroom hfit]
        refine hK _ _ ((kk b cap).go _ _ (ha.put d _ hd) (hw.write (hup b cap).xB (o':=.cells ((xs++sp).take (k * i.size)++cs++(xs++sp).drop (k * i.size+cs.length)).toArray e (0,0)) ?_ (setRow_heap w b _ _ e _ ho) (by simp) (fun q hq=>setRow_other w b q _ hq) rfl rfl rfl))
        rw [hi3,← hc2,List.take_left]
        refine ⟨(xs++sp).drop (xs.length+cs.length),rfl,?_,by rw [List.length_append,hc2,hl,Nat.add_mul],hroom⟩
        have h7 : xs.length+cs.length≤(xs++sp).length:=by rw [hc1,hc2,hl,← Nat.add_mul];exact Nat.mul_le_mul_right _ hroom
        simp only [List.length_append,List.length_drop] at h7 hc1 ⊢
        omega
      · have hold : ∀ u v,xs[u]?=some v→w.cell? ((⟨b,0,none⟩ : Addr).add u)=some v:=fun u v hv=>by
          rw [bh]
          have hu' : u<xs.length:=(List.getElem?_eq_some_iff.1 hv).1
          exact cell_of ho (by simpa [cellAt,List.getElem?_append_left hu'] using hv)
        have hfit:=growslice_fits (need:=k+m) (old:=cap) (by omega) hsm
        rw [run_append_grow (P:=P) w t ty e i z hu hi1 hi2 ⟨b,0,none⟩ k cap xs (by rw [hc2,hi3]) hold ⟨b2,j2,none⟩ m sc cs (by rw [hl,hi3]) (fun u v hv=>by rw [bh];exact hcell u v hv) (by omega) (by omega) (by rw [hi4];exact hfit)]
        have hge:=grownCap_ge w (k+m) cap e
        generalize grownCap w (k+m) cap e=nc at hge
        refine hK _ _ ((kk w.heap.size nc).go _ _ (ha.put d _ hd) (hw.renew (.cells (xs.toArray++cs.toArray++Builtin.zeroCells z.cells (nc - (k+m))) e) (hup _ _) ?_ rfl rfl rfl rfl))
        refine ⟨(Builtin.zeroCells z.cells (nc - (k+m))).toList,by simp,?_,by rw [List.length_append,hc2,hl,Nat.add_mul],hge⟩
        have h8 : (Builtin.zeroCells z.cells (nc - (k+m))).size=(nc - (k+m)) * sz:=by simp [Builtin.zeroCells,hzz]
        simp only [List.length_append,Array.length_toList,h8,hc2,hl,← Nat.add_mul]
        congr 1
        omega⟩
theorem JL.append_nil {z : Value} {ad : Option Addr} {sz by' m sc : Nat} (hu : P.underlying t=some (.slice e)) (hi : EI P e z sz by') (hx : ev E x=some (.slice none 0 0)) (hy : ev E y=some (.slice ad m sc))
    (hl : cs.length=m * sz) (hr : ∀ w,aa w0 S M w→Reads w ad cs) (hm : 0<m)
    (hzz : z.cells.size=sz) (h0 : 0<sz) (hsm : m * by'≤140737488355328) (hsm2 : m<9223372036854775808) (hd : Nat.blt d n=true)
    (kk : ∀ b' cap',w0.heap.size≤b'→JL P n w0 S ops Q l ((d,.slice (some ⟨b',0,none⟩) m cap')::E) (⟨b',Sl.Own e sz m cap' cs,true⟩::M)) : JL P n w0 S ops Q (⟨some d,.call ⟨.builtin .append,#[x,y],#[t,t]⟩,ty,pos,aft,none⟩::l) E M:=
  ⟨fun a w ha hw=>wpList_plain rfl fun K hK=>by
    obtain ⟨i,hi1,hi2,hi3,hi4⟩:=hi.get
    have hru:=hr w hw
    unfold Oper.wp
    simp only [execOp,resolve,invoke,builtin,Sem.run_bind,Sem.run_pure,Result.andThen_ok,List.map_toArray,List.map_cons,List.map_nil,ha.eval hx,ha.eval hy]
    have hpos : 0<cs.length:=by rw [hl];exact Nat.mul_pos hm h0
    obtain ⟨b2,j2,rfl,hcell⟩:=hru.at hpos
    rw [run_append_nil (P:=P) w t ty e i z hu hi1 hi2 ⟨b2,j2,none⟩ m sc cs (by rw [hl,hi3]) (fun u v hv=>by rw [bh];exact hcell u v hv) hm (by omega) (by rw [hi4];omega)]
    have hge:=grownCap_ge w m 0 e
    generalize grownCap w m 0 e=nc at hge
    refine hK _ _ ((kk w.heap.size nc hw.aC.size).go _ _ (ha.put d _ hd) (hw.push (.cells (cs.toArray++Builtin.zeroCells z.cells (nc - m)) e) ?_ rfl rfl rfl rfl))
    refine ⟨(Builtin.zeroCells z.cells (nc - m)).toList,by simp,?_,hl,hge⟩
    have h8 : (Builtin.zeroCells z.cells (nc - m)).size=(nc - m) * sz:=by simp [Builtin.zeroCells,hzz]
    simp only [List.length_append,Array.length_toList,h8,hl,← Nat.add_mul]
    congr 1
    omega⟩
structure JA (P : Program) (n : Nat) (w0 : World) (S : List Nat) (ops : Array Oper) (Q : Exit→Act→World→Prop) (f : Nat) (done : Array Bool) (E : Env) (M : List az) : Prop where
  go : ∀ a w,aE n E a→aa w0 S M w→wpAny P .any ops Q f done a w
theorem eE {Q : Exit→Act→World→Prop} {K : Act→World→Prop} {i : Nat} {o : Oper} {a : Act} {w : World} (ho : ops[i]?=some o) (h : wpList P ops (Exit.then K Q) [o] a w) : wpOp P ops Q i K a w:=by
  unfold wpOp
  simp only [ho]
  unfold wpList at h
  split
  · rename_i hw
    rw [if_pos hw] at h
    rcases h with h | h
    · left
      unfold Oper.wp Oper.upon at h ⊢
      generalize (execOp a.eval o).run P w=r at h ⊢
      cases r with
      | ok nx w'=>cases nx <;> first | exact h|(refine Calls.mono h ?_;rintro (v | c | _) w'' hh <;> exact hh)
      | halt x w'=>cases x <;> exact h
    · exact .inr h
  · rename_i hw
    rw [if_neg hw] at h
    exact h
theorem JC.any {id : Nat} {l : List Oper} (hm : P.follows .mixedOrders=true) (h : JA P n w0 S l.toArray Q l.toArray.size (Array.replicate l.toArray.size false) E M) : JC P n w0 S Q (.region id l.toArray true) E M:=
  ⟨fun a _ ha hw=>wp_region_any hm (h.go a _ ha (hw.drawn _))⟩
theorem JA.step {f : Nat} {done : Array Bool} {L : List Nat} (hr : Region.ready .any ops done=L) (hne : L.isEmpty=false) (h : ∀ i ∈ L,∃ o,ops[i]?=some o∧JL P n w0 S ops (Exit.then (fun a' w'=>wpAny P .any ops Q f (done.setIfInBounds i true) a' w') Q) [o] E M) :
    JA P n w0 S ops Q (f+1) done E M:=
  ⟨fun a w ha hw=>⟨fun h0=>(by rw [hr] at h0;subst h0;cases hne),fun i hi=>by
    obtain ⟨o,ho,hj⟩:=h i (hr ▸ hi)
    exact eE ho (hj.go a w ha hw)⟩⟩
theorem JA.done {done : Array Bool} (hr : Region.ready .any ops done=[]) (h : JE n w0 S Q .normal E M) : JA P n w0 S ops Q 0 done E M:=⟨fun a w ha hw=>⟨hr,h.go a w ha hw⟩⟩
theorem JE.any {f : Nat} {done : Array Bool} (h : JA P n w0 S ops Q f done E M) : JE n w0 S (Exit.then (fun a' w'=>wpAny P .any ops Q f done a' w') Q) .normal E M:=⟨h.go⟩
theorem JC.join {ι : Type} (Ei : ι→Env) (Mi : ι→List az) (I : ι→Prop) {p q : Code} {Q' : Exit→Act→World→Prop} (h : JC P n w0 S (Exit.then (fun a' w'=>∃ i,I i∧aE n (Ei i) a'∧aa w0 S (Mi i) w') Q) p E M)
    (k : ∀ i,I i→JC P n w0 S Q' q (Ei i) (Mi i)) : JC P n w0 S (Exit.then (q.wp P Q') Q) p E M:=
  ⟨fun a w ha hw=>wp_mono (h.go a w ha hw) fun e a' w' he=>by
    cases e with
    | normal=>obtain ⟨i,hi,h1,h2⟩:=he;exact (k i hi).go a' w' h1 h2
    | exit _=>exact he
    | goto _=>exact he
    | ret=>exact he
    | panic _=>exact he
    | outgrown=>exact he⟩
theorem JE.mid {ι : Type} {Ei : ι→Env} {Mi : ι→List az} {I : ι→Prop} (i : ι) (hi : I i) (hE : ax E (Ei i)) (hM : aA (Mi i) M) :
    JE n w0 S (Exit.then (fun a' w'=>∃ i,I i∧aE n (Ei i) a'∧aa w0 S (Mi i) w') Q) .normal E M:=
  ⟨fun _ _ ha hw=>⟨i,hi,ha.sub hE,hw.weak hM⟩⟩
end
end Sl
end
section
namespace Sl
section
variable {P : Program} {n : Nat} {w0 : World} {S : List Nat} {ops : Array Oper} {Q : Exit→Act→World→Prop} {l : List Oper} {E : Env} {M M' : List az}
variable {d b : Nat} {ty : TypeId} {pos : String} {aft : Array Edge} {v : Value} {A A' : Obj→Prop} {f : FuncId} {xs : List Operand} {ats : Array TypeId} {vs : List Value}
variable {t e : TypeId} {x : Operand} {z : Value} {by' : Nat}
theorem vv : Array.range 0=#[]:=by decide
theorem vw : Array.range 1=#[0]:=by decide
theorem vz : Array.range 3=#[0,1,2]:=by decide
theorem ou {w : World} (hu : P.underlying t=some (.slice e)) (hi : EI P e z 1 by') : (Instr.buildSlice t 0 #[]).run P w=.ok (.slice (some ⟨w.heap.size,0,none⟩) 0 0) { w with heap:=w.heap.push (.cells ([] : List Value).toArray e (0,0)) }:=by
  have h3 : (underlying t).run P w=.ok (.slice e) w:=run_underlying hu w
  simp [Instr.buildSlice,Sem.run_bind,h3,aL hi.sz,Instr.fill,newRow,newObj,Sem.run,vv]
theorem ov {w : World} (hu : P.underlying t=some (.slice e)) (hi : EI P e z 1 by') (_hz : z.cells.size=1) (hv : v.cells=#[v]) : (Instr.buildSlice t 1 #[(0,v)]).run P w=.ok (.slice (some ⟨w.heap.size,0,none⟩) 1 1) { w with heap:=w.heap.push (.cells [v].toArray e (0,0)) }:=by
  have h3 : (underlying t).run P w=.ok (.slice e) w:=run_underlying hu w
  obtain ⟨i,h4,h5,_⟩:=hi.get
  simp [Instr.buildSlice,Sem.run_bind,h3,aL hi.sz,zeroValue,typeInfo,h4,h5,Instr.fill,hv,newRow,newObj,Sem.run,vw]
theorem ow {w : World} {v1 v2 v3 : Value} (hu : P.underlying t=some (.slice e)) (hi : EI P e z 1 by') (_hz : z.cells.size=1) (hv1 : v1.cells=#[v1]) (hv2 : v2.cells=#[v2]) (hv3 : v3.cells=#[v3]) :
    (Instr.buildSlice t 3 #[(0,v1),(1,v2),(2,v3)]).run P w=.ok (.slice (some ⟨w.heap.size,0,none⟩) 3 3) { w with heap:=w.heap.push (.cells [v1,v2,v3].toArray e (0,0)) }:=by
  have h3 : (underlying t).run P w=.ok (.slice e) w:=run_underlying hu w
  obtain ⟨i,h4,h5,_⟩:=hi.get
  simp [Instr.buildSlice,Sem.run_bind,h3,aL hi.sz,zeroValue,typeInfo,h4,h5,Instr.fill,hv1,hv2,hv3,newRow,newObj,Sem.run,vz]
theorem JL.xC (hu : P.underlying t=some (.slice e)) (hi : EI P e z 1 by') (hd : Nat.blt d n=true)
    (k : ∀ b,w0.heap.size≤b→JL P n w0 S ops Q l ((d,.slice (some ⟨b,0,none⟩) 0 0)::E) (⟨b,Row e [],true⟩::M)) : JL P n w0 S ops Q (⟨some d,.buildSlice t 0 #[],ty,pos,aft,none⟩::l) E M:=
  ⟨fun a w ha hw=>wpList_plain rfl fun K hK=>by
    unfold Oper.wp
    have hm : (#[] : Array (Nat × Operand)).map (fun (i,x)=>(i,a.eval x))=#[]:=by simp
    simp only [execOp,hm,Sem.run_bind,ou hu hi,Result.andThen_ok]
    exact hK _ _ ((k w.heap.size hw.aC.size).go _ _ (ha.put d _ hd) (hw.push _ rfl rfl rfl rfl rfl))⟩
theorem JL.gA (hu : P.underlying t=some (.slice e)) (hi : EI P e z 1 by') (hz : z.cells.size=1) (hx : ev E x=some v) (hv : v.cells=#[v]) (hd : Nat.blt d n=true)
    (k : ∀ b,w0.heap.size≤b→JL P n w0 S ops Q l ((d,.slice (some ⟨b,0,none⟩) 1 1)::E) (⟨b,Row e [v],true⟩::M)) : JL P n w0 S ops Q (⟨some d,.buildSlice t 1 #[(0,x)],ty,pos,aft,none⟩::l) E M:=
  ⟨fun a w ha hw=>wpList_plain rfl fun K hK=>by
    unfold Oper.wp
    have hm : (#[(0,x)] : Array (Nat × Operand)).map (fun (i,x)=>(i,a.eval x))=#[(0,v)]:=by simp [ha.eval hx]
    simp only [execOp,hm,Sem.run_bind,ov hu hi hz hv,Result.andThen_ok]
    exact hK _ _ ((k w.heap.size hw.aC.size).go _ _ (ha.put d _ hd) (hw.push _ rfl rfl rfl rfl rfl))⟩
theorem JL.wz {x1 x2 x3 : Operand} {v1 v2 v3 : Value} (hu : P.underlying t=some (.slice e)) (hi : EI P e z 1 by') (hz : z.cells.size=1) (hx1 : ev E x1=some v1) (hx2 : ev E x2=some v2) (hx3 : ev E x3=some v3) (hv1 : v1.cells=#[v1]) (hv2 : v2.cells=#[v2]) (hv3 : v3.cells=#[v3]) (hd : Nat.blt d n=true)
    (k : ∀ b,w0.heap.size≤b→JL P n w0 S ops Q l ((d,.slice (some ⟨b,0,none⟩) 3 3)::E) (⟨b,Row e [v1,v2,v3],true⟩::M)) : JL P n w0 S ops Q (⟨some d,.buildSlice t 3 #[(0,x1),(1,x2),(2,x3)],ty,pos,aft,none⟩::l) E M:=
  ⟨fun a w ha hw=>wpList_plain rfl fun K hK=>by
    unfold Oper.wp
    have hm : (#[(0,x1),(1,x2),(2,x3)] : Array (Nat × Operand)).map (fun (i,x)=>(i,a.eval x))=#[(0,v1),(1,v2),(2,v3)]:=by simp [ha.eval hx1,ha.eval hx2,ha.eval hx3]
    simp only [execOp,hm,Sem.run_bind,ow hu hi hz hv1 hv2 hv3,Result.andThen_ok]
    exact hK _ _ ((k w.heap.size hw.aC.size).go _ _ (ha.put d _ hd) (hw.push _ rfl rfl rfl rfl rfl))⟩
theorem JL.weak {E' : Env} (h : JL P n w0 S ops Q l E' M') (hE : ax E E') (hM : aA M' M) : JL P n w0 S ops Q l E M:=⟨fun a w ha hw=>h.go a w (ha.sub hE) (hw.weak hM)⟩
variable {C : World→Prop} {dst : Option Tmp} {g : Option (Nat × Bool)} {y : Operand} {t' : TypeId}
theorem OQ.wA {a b : Int} (hx : ev E x=some (.int .i64 a)) (hy : ev E y=some (.int .i64 b)) (h1 : -9223372036854775808≤a - b) (h2 : a - b<9223372036854775808) : OQ P n E C ⟨dst,.binOp .sub t x y t',ty,pos,aft,g⟩ (.int .i64 (a - b)):=
  OQ.bin hx hy rfl fun _=>fP (k:=.i64) (show IntKind.i64.wrap (a - b)=a - b from iK h1 h2)
end
end Sl
end
section
namespace Sl
open Extern.Stop (cell)
section
variable {P : Program} {n : Nat} {w0 : World} {S : List Nat} {ops : Array Oper} {Q : Exit→Act→World→Prop} {l : List Oper} {E : Env} {M M' : List az} {C : World→Prop}
variable {dst : Option Tmp} {d b j : Nat} {op : Op} {t t' ty e : TypeId} {pos : String} {aft : Array Edge} {g : Option (Nat × Bool)} {v u : Value} {x y z : Operand} {want : Bool}
theorem jC {o : Oper} {j : Nat} {want b : Bool} (ho : o.guard=some (j,want)) (h : dR ops E j=some b) (hf : cI ops n j=true) {a : Act} (ha : aE n E a) : Region.wanted o (yielded ops a.tmps)=(b == want):=by
  simp only [Region.wanted,ho,jw h ha (eW hf)]
  cases b <;> cases want <;> rfl
theorem JL.aN {dst : Option Nat} (hg : dR ops E j=some want) (hf : cI ops n j=true) (h : JL P n w0 S ops Q (⟨dst,op,ty,pos,aft,none⟩::l) E M) : JL P n w0 S ops Q (⟨dst,op,ty,pos,aft,some (j,want)⟩::l) E M:=
  ⟨fun a w ha hw=>by
    have h1:=h.go a w ha hw
    unfold wpList at h1 ⊢
    rw [jC rfl hg hf ha]
    simp only [beq_self_eq_true,if_true]
    rw [show Region.wanted ⟨dst,op,ty,pos,aft,none⟩ (yielded ops a.tmps)=true from rfl,if_pos rfl] at h1
    exact h1⟩
theorem JQ.aN {Φ : Act→Prop} {dst : Option Nat} (hg : dR ops E j=some want) (hf : cI ops n j=true) (h : JQ P n w0 S ops M Φ (⟨dst,op,ty,pos,aft,none⟩::l) E) : JQ P n w0 S ops M Φ (⟨dst,op,ty,pos,aft,some (j,want)⟩::l) E:=
  ⟨fun a ha=>by
    have h1:=h.go a ha
    unfold wpQuiet at h1 ⊢
    rw [jC rfl hg hf ha]
    simp only [beq_self_eq_true,if_true]
    rw [show Region.wanted ⟨dst,op,ty,pos,aft,none⟩ (yielded ops a.tmps)=true from rfl,if_pos rfl] at h1
    exact h1⟩
theorem OQ.aP (hc : ev E z=some (.bool true)) (hx : ev E x=some v) : OQ P n E C ⟨dst,.pick z x y,ty,pos,aft,g⟩ v:=
  OQ.run fun a ha w _=>by
    have h1:=ha.eval hc
    have h2:=ha.eval hx
    simp [execOp,h1,h2,asBool]
theorem OQ.bz (hc : ev E z=some (.bool false)) (hy : ev E y=some v) : OQ P n E C ⟨dst,.pick z x y,ty,pos,aft,g⟩ v:=
  OQ.run fun a ha w _=>by
    have h1:=ha.eval hc
    have h2:=ha.eval hy
    simp [execOp,h1,h2,asBool]
theorem OQ.not {c : Bool} (hx : ev E x=some (.bool c)) : OQ P n E C ⟨dst,.unOp .not t x,ty,pos,aft,g⟩ (.bool (!c)):=
  OQ.run fun a ha w _=>by
    have h1:=ha.eval hx
    simp [execOp,h1,Op.unary]
theorem OQ.vA {a b : Nat} (hx : ev E x=some (N a)) (hy : ev E y=some (N b)) (h : b<a) : OQ P n E C ⟨dst,.binOp .gtr t x y t',ty,pos,aft,g⟩ (.bool true):=
  (decide_eq_true h : decide (b<a)=true) ▸ OQ.xy hx hy
theorem OQ.jD {a b : Nat} (hx : ev E x=some (N a)) (hy : ev E y=some (N b)) (h : ¬ a<b) : OQ P n E C ⟨dst,.binOp .lss t x y t',ty,pos,aft,g⟩ (.bool false):=
  (decide_eq_false h : decide (a<b)=false) ▸ OQ.ij hx hy
theorem uf (r q : List (BitVec 8)) : (r.map UInt8.ofBitVec == q.map UInt8.ofBitVec)=decide (r=q):=by
  rw [Bool.eq_iff_iff]
  simp only [beq_iff_eq,decide_eq_true_eq]
  constructor
  · intro h
    have:=congrArg (List.map UInt8.toBitVec) h
    rw [List.map_map,List.map_map] at this
    have hid : (UInt8.toBitVec ∘ UInt8.ofBitVec)=(id : BitVec 8→BitVec 8):=rfl
    rwa [hid,List.map_id,List.map_id] at this
  · rintro rfl;rfl
def vB (e : TypeId) (r : List Value) : Obj→Prop:=fun o=>∃ fr,o=.cells r.toArray e fr
theorem vB.all {r : List Value} : ∀ o,vB e r o→bJ o 0 r:=by
  rintro o ⟨fr,rfl⟩
  exact ⟨_,_,_,rfl,fun i _=>by simp⟩
theorem JL.mark {r : List Value} {te : TypeId} {len cap : Nat} (hu : P.underlying t=some (.slice e)) (he : P.underlying e=some (.int .u8)) (hx : ev E x=some (.slice (some ⟨b,0,none⟩) len cap)) (hup : jc M b (Row te r) (vB te r) M') (hd : Nat.blt d n=true)
    (k : JL P n w0 S ops Q l ((d,.slice (some ⟨b,0,none⟩) len cap)::E) M') : JL P n w0 S ops Q (⟨some d,.convert t t x,ty,pos,aft,none⟩::l) E M:=
  ⟨fun a w ha hw=>wpList_plain rfl fun K hK=>by
    obtain ⟨o,ho,hA⟩:=hw.get hup.has
    subst hA
    have h1:=ha.eval hx
    have h3 : ∀ w,(underlying t).run P w=.ok (.slice e) w:=run_underlying hu
    have h4 : ∀ w,(underlying e).run P w=.ok (.int .u8) w:=run_underlying he
    have hsh : w.shape? b=some (te,r.length):=by simp [World.shape?,ho]
    have hrun : (convert t t (.slice (some ⟨b,0,none⟩) len cap)).run P w=.ok (.slice (some ⟨b,0,none⟩) len cap) (w.freeze { block:=b,off:=r.length } 1):=by
      simp [convert,Sem.run_bind,h3,h4,markStringish,shape,freeze,Sem.run,hsh]
    unfold Oper.wp
    simp only [execOp,h1,Sem.run_bind,hrun,Result.andThen_ok]
    refine hK _ _ (k.go _ _ (ha.put d _ hd) (hw.write hup (o':=.cells r.toArray te (r.length,r.length+1)) ⟨_,rfl⟩ ?_ (by simp [World.freeze]) (fun q hq=>?_) rfl rfl rfl))
    · simp [World.freeze,Array.getElem?_modify,ho]
    · simp [World.freeze,Array.getElem?_modify,Ne.symm hq]⟩
end
end Sl
end
section
namespace Sl
abbrev X:=Nat × Nat
theorem rM {f : Nat→Value} {E : Env} (h : ∀ p ∈ E,f p.1=p.2) {p : Nat × Value} (hp : p ∈ E) : lk E p.1=some p.2:=by
  induction E with
  | nil=>cases hp
  | cons q E ih=>
    simp only [lk]
    by_cases e : q.1=p.1
    · have h1:=h q (by simp)
      have h2:=h p hp
      rw [e] at h1
      simp [e,← h1,← h2]
    · have : Nat.beq q.1 p.1=false:=Bool.eq_false_iff.2 fun h=>e (Nat.eq_of_beq_eq_true h)
      rw [this]
      refine ih (fun q hq=>h q (by simp [hq])) ?_
      simp only [List.mem_cons] at hp
      rcases hp with rfl | hp
      · exact absurd rfl e
      · exact hp
theorem vC {E : Env} {t : Nat} {v : Value} (h : lk E t=some v) : (t,v) ∈ E:=by
  induction E with
  | nil=>simp [lk] at h
  | cons q E ih=>
    simp only [lk] at h
    by_cases e : q.1=t
    · subst e
      simp at h
      subst h
      simp
    · have : Nat.beq q.1 t=false:=Bool.eq_false_iff.2 fun h=>e (Nat.eq_of_beq_eq_true h)
      rw [this] at h
      simp [ih h]
theorem aE.of {n : Nat} {E : Env} {a : Act} (h1 : a.tmps.size=n) (h2 : a.defers=[]) (h : ∀ p ∈ E,a.tmps.getD p.1 undef=p.2) : aE n E a:=⟨h1,h2,fun _ _ hl=>h _ (vC hl)⟩
theorem aE.mem {n : Nat} {E : Env} {a : Act} {f : Nat→Value} (h : aE n E a) (hf : ∀ p ∈ E,f p.1=p.2) {p : Nat × Value} (hp : p ∈ E) : a.tmps.getD p.1 undef=p.2:=h.all _ _ (rM hf hp)
structure ec (w0 : World) (S : List Nat) (L : Nat→Prop) (f : Nat→List az) (w : World) : Prop where
  aC : jl S w0 w
  all : ∀ j,L j→∀ e ∈ f j,(∃ o,w.heap[e.b]?=some o∧e.A o)∧(e.wr=true→e.b ∈ S∨w0.heap.size≤e.b)
  nodup : ∀ j,L j→((f j).map az.b).Nodup
  apart : ∀ j k,j≠k→L j→L k→∀ e ∈ f j,∀ e' ∈ f k,e.b≠e'.b
section
variable {w0 w : World} {S : List Nat} {L : Nat→Prop} {f : Nat→List az}
theorem ec.to (h : ec w0 S L f w) (Js : List Nat) (hn : Js.Nodup) (hL : ∀ j ∈ Js,L j) : aa w0 S (Js.flatMap f) w:=by
  refine ⟨h.aC,?_,fun e he=>?_⟩
  · induction Js with
    | nil=>simp
    | cons j Js ih=>
      rw [List.flatMap_cons,List.map_append,List.nodup_append]
      refine ⟨h.nodup j (hL j (by simp)),ih (List.nodup_cons.1 hn).2 (fun k hk=>hL k (by simp [hk])),fun b hb b' hb'=>?_⟩
      simp only [List.mem_map,List.mem_flatMap] at hb hb'
      obtain ⟨e,he,rfl⟩:=hb
      obtain ⟨e',⟨k,hk,he'⟩,rfl⟩:=hb'
      have hjk : j≠k:=fun e=>(List.nodup_cons.1 hn).1 (e ▸ hk)
      exact h.apart j k hjk (hL j (by simp)) (hL k (by simp [hk])) e he e' he'
  · obtain ⟨j,hj,he⟩:=List.mem_flatMap.1 he
    exact h.all j (hL j hj) e he
theorem ox {Js : List Nat} (h : ((Js.flatMap f).map az.b).Nodup) : (∀ j ∈ Js,((f j).map az.b).Nodup)∧∀ j k,j≠k→j ∈ Js→k ∈ Js→∀ e ∈ f j,∀ e' ∈ f k,e.b≠e'.b:=by
  induction Js with
  | nil=>simp
  | cons i Js ih=>
    rw [List.flatMap_cons,List.map_append,List.nodup_append] at h
    obtain ⟨h1,h2,h3⟩:=h
    obtain ⟨i1,i2⟩:=ih h2
    have h4 : ∀ k ∈ Js,∀ e ∈ f i,∀ e' ∈ f k,e.b≠e'.b:=fun k hk e he e' he'=>
      h3 e.b (List.mem_map.2 ⟨e,he,rfl⟩) e'.b (List.mem_map.2 ⟨e',List.mem_flatMap.2 ⟨k,hk,he'⟩,rfl⟩)
    refine ⟨fun j hj=>?_,fun j k hjk hj hk e he e' he'=>?_⟩
    · simp only [List.mem_cons] at hj
      rcases hj with rfl | hj
      · exact h1
      · exact i1 j hj
    · simp only [List.mem_cons] at hj hk
      rcases hj with rfl | hj
      · rcases hk with rfl | hk
        · exact absurd rfl hjk
        · exact h4 k hk e he e' he'
      · rcases hk with rfl | hk
        · exact (h4 j hj e' he' e he).symm
        · exact i2 j k hjk hj hk e he e' he'
theorem ec.of {Js : List Nat} (h : aa w0 S (Js.flatMap f) w) (hL : ∀ j,L j→j ∈ Js) : ec w0 S L f w:=by
  obtain ⟨h1,h2⟩:=ox h.nodup
  exact ⟨h.aC,fun j hj e he=>h.all e (List.mem_flatMap.2 ⟨j,hL j hj,he⟩),fun j hj=>h1 j (hL j hj),fun j k hjk hj hk=>h2 j k hjk (hL j hj) (hL k hk)⟩
end
theorem mK {l : List Nat} {p q : Nat→Bool} (h : ∀ j ∈ l,q j=p j) : l.countP q=l.countP p:=by
  induction l with
  | nil=>rfl
  | cons a l ih=>simp only [List.countP_cons,h a (by simp),ih fun j hj=>h j (by simp [hj])]
theorem jE {l : List Nat} {p q : Nat→Bool} {i : Nat} (hn : l.Nodup) (hi : i ∈ l) (h1 : p i=true) (h2 : q i=false) (h3 : ∀ j,j≠i→q j=p j) : l.countP q+1=l.countP p:=by
  induction l with
  | nil=>cases hi
  | cons a l ih=>
    simp only [List.countP_cons]
    by_cases e : a=i
    · subst e
      have:=mK (l:=l) (p:=p) (q:=q) fun j hj=>h3 j fun e=>(List.nodup_cons.1 hn).1 (e ▸ hj)
      simp [h1,h2,this]
    · have hi' : i ∈ l:=by
        simp only [List.mem_cons] at hi
        rcases hi with rfl | hi
        · exact absurd rfl e
        · exact hi
      have:=ih (List.nodup_cons.1 hn).2 hi'
      rw [h3 a e]
      omega
variable {Y : Type}
structure bp (Y : Type) where
  E0 : Env
  N : Nat
  v : Nat→Y→Value
  M : Nat→Y→List az
  need : Nat→List (Nat × Nat)
  gB : Nat→List Nat
  kK : Nat→List Nat
  src : Nat→Option Nat
  E1 : Nat→Env
def behind (o : Oper) (j : Nat) : Bool:=o.after.toList.any fun e=>e.on == j && Region.binds .any e
def ck (l : List Oper) (j : Nat) : Option Nat:=match l[j]? with | some q=>q.dst | none=>none
def bK (l : List Oper) (j i : Nat) : Bool:=match l[j]? with | some q=>behind q i | none=>false
def fQ : List Nat→Bool
  | []=>true
  | a::l=>!l.contains a && fQ l
theorem eF {l : List Nat} (h : fQ l=true) : l.Nodup:=by
  induction l with
  | nil=>simp
  | cons a l ih=>
    simp only [fQ,Bool.and_eq_true,Bool.not_eq_true',List.contains_eq_mem,decide_eq_false_iff_not] at h
    exact List.nodup_cons.2 ⟨h.1,ih h.2⟩
def iq (l : List Oper) (E0 : Env) (i : Nat) : Option Nat→Bool
  | some d=>(List.range l.length).all (fun k=>k == i || ck l k != some d) && E0.all fun p=>p.1 != d
  | none=>true
def pP (o : Oper) : Option Nat→Bool
  | some k=>behind o k
  | none=>true
def bp.vD (g : bp Y) (l : List Oper) (i : Nat) : Bool:=
  (g.E1 i).all fun p=>(List.range l.length).all fun k=>ck l k != some p.1 || (k != i && bK l k i)
def bp.ir (g : bp Y) (l : List Oper) (i : Nat) (o : Oper) : Bool:=
  (((g.need i).all (fun p=>behind o p.1 && ck l p.1 == some p.2) && pP o (g.src i)) && g.vD l i) &&
  ((g.gB i).all (fun j=>decide (j<g.N) && (decide (l.length≤j) || behind o j)) &&
  ((g.kK i).all (fun j=>(g.gB i).contains j) &&
  ((List.range l.length).all (fun k=>k == i || (g.kK k).all fun j=>!(g.gB i).contains j || bK l k i) &&
  (fQ (g.gB i) && (o.after.toList.all (fun e=>!Region.binds .any e || decide (e.on<i)) && iq l g.E0 i o.dst)))))
def bp.cR (g : bp Y) (l : List Oper) : Nat→List Oper→Bool
  | _,[]=>true
  | i,o::r=>g.ir l i o && g.cR l (i+1) r
theorem bp.bU {g : bp Y} {l : List Oper} : ∀ {r : List Oper} {i : Nat},g.cR l i r=true→∀ {j o},r[j]?=some o→g.ir l (i+j) o=true
  | [],_,_,j,o,h=>by simp at h
  | q::r,i,hk,j,o,h=>by
    simp only [bp.cR,Bool.and_eq_true] at hk
    cases j with
    | zero=>
      simp only [List.getElem?_cons_zero,Option.some.injEq] at h
      subst h
      exact hk.1
    | succ j=>
      have:=bp.bU hk.2 (j:=j) (o:=o) (by simpa using h)
      rwa [show i+1+j=i+(j+1) by omega] at this
def slot (d : Option Nat) (v : Value) : Env:=match d with | some d=>[(d,v)] | none=>[]
def bp.wB (g : bp Y) (P : Program) (n : Nat) (w0 : World) (S : List Nat) (l : List Oper) (i : Nat) (o : Oper) : Prop:=
  ∀ (x : Nat→Y) (EF : Env) (MF : List az) (Q : Exit→Act→World→Prop),
    (∀ xi : Y,(∀ k,g.src i=some k→xi=x k)→JE n w0 S Q .normal (slot o.dst (g.v i xi)++((g.need i).map (fun p=>(p.2,g.v p.1 (x p.1)))++(g.E0++(g.E1 i++EF)))) (g.M i xi++(((g.gB i).filter fun j=>!(g.kK i).contains j).flatMap (fun j=>g.M j (x j))++MF)))→
    JL P n w0 S l.toArray Q [o] ((g.need i).map (fun p=>(p.2,g.v p.1 (x p.1)))++(g.E0++(g.E1 i++EF))) ((g.gB i).flatMap (fun j=>g.M j (x j))++MF)
def bp.je (g : bp Y) (P : Program) (n : Nat) (w0 : World) (S : List Nat) (l : List Oper) : Nat→List Oper→Prop
  | _,[]=>True
  | i,o::r=>g.wB P n w0 S l i o∧g.je P n w0 S l (i+1) r
theorem bp.gC {g : bp Y} {P : Program} {n : Nat} {w0 : World} {S : List Nat} {l : List Oper} : ∀ {r : List Oper} {i : Nat},g.je P n w0 S l i r→∀ {j o},r[j]?=some o→g.wB P n w0 S l (i+j) o
  | [],_,_,j,o,h=>by simp at h
  | q::r,i,hk,j,o,h=>by
    cases j with
    | zero=>
      simp only [List.getElem?_cons_zero,Option.some.injEq] at h
      subst h
      exact hk.1
    | succ j=>
      have:=bp.gC hk.2 (j:=j) (o:=o) (by simpa using h)
      rwa [show i+1+j=i+(j+1) by omega] at this
def bp.live (g : bp Y) (m : Nat) (done : Array Bool) (j : Nat) : Prop:=j<g.N∧(m≤j∨done.getD j false=true)∧∀ k,done.getD k false=true→j ∉ g.kK k
structure bp.Inv (g : bp Y) (n : Nat) (w0 : World) (S : List Nat) (l : List Oper) (done : Array Bool) (x : Nat→Y) (a : Act) (w : World) : Prop where
  size : a.tmps.size=n
  defers : a.defers=[]
  jF : done.size=l.length
  base : ∀ p ∈ g.E0,a.tmps.getD p.1 undef=p.2
  first : ∀ j,j<l.length→done.getD j false=false→∀ p ∈ g.E1 j,a.tmps.getD p.1 undef=p.2
  vals : ∀ j d,done.getD j false=true→ck l j=some d→a.tmps.getD d undef=g.v j (x j)
  rel : ∀ j k,done.getD j false=true→g.src j=some k→x j=x k
  down : ∀ j i,done.getD j false=true→bK l j i=true→done.getD i false=true
  mem : ec w0 S (g.live l.length done) (fun j=>g.M j (x j)) w
section
variable {P : Program} {n : Nat} {w0 : World} {S : List Nat} {Q : Exit→Act→World→Prop} {E : Env} {M : List az} {g : bp Y} {l : List Oper}
theorem mL {done : Array Bool} {i j : Nat} (hi : i<done.size) : (done.setIfInBounds i true).getD j false=(decide (j=i) || done.getD j false):=by
  by_cases e : j=i
  · subst e
    simp [hi]
  · simp [e,Ne.symm e]
theorem bp.run (hok : g.cR l 0 l=true) (hj : g.je P n w0 S l 0 l)
    (hend : ∀ done x a w,g.Inv n w0 S l done x a w→(∀ j,j<l.length→done.getD j false=true)→Q .normal a w) :
    ∀ (f : Nat) (done : Array Bool) (x : Nat→Y) (a : Act) (w : World),f=(List.range l.length).countP (fun j=>!done.getD j false)→g.Inv n w0 S l done x a w→wpAny P .any l.toArray Q f done a w:=by
  have hrdy : ∀ done : Array Bool,done.size=l.length→Region.ready .any l.toArray done=[]→∀ j,j<l.length→done.getD j false=true:=by
    intro done hds hr j
    induction j using Nat.strongRecOn with
    | _ j ih=>
      intro hjl
      cases hd : done.getD j false with
      | true=>rfl
      | false=>
        obtain ⟨o,ho⟩ : ∃ o,l[j]?=some o:=⟨_,List.getElem?_eq_getElem hjl⟩
        have hk:=bp.bU hok ho
        simp only [bp.ir,Bool.and_eq_true,Nat.zero_add] at hk
        have hkk:=hk.2.2.2.2.2.1
        have : j ∈ Region.ready .any l.toArray done:=by
          rw [mem_ready]
          refine ⟨?_,o,by simpa using ho,fun e he hb=>?_⟩
          · rw [Array.getD_eq_getD_getElem?,Array.getElem?_eq_getElem (by omega)] at hd ⊢
            simpa using hd
          · have:=List.all_eq_true.1 hkk e (by simpa using he)
            simp only [hb,Bool.not_true,Bool.false_or,decide_eq_true_eq] at this
            exact ih e.on this (by omega)
        rw [hr] at this
        cases this
  intro f
  induction f with
  | zero=>
    intro done x a w hf hI
    have hall : ∀ j,j<l.length→done.getD j false=true:=fun j hjl=>by
      have:=List.countP_eq_zero.1 hf.symm j (List.mem_range.2 hjl)
      simpa using this
    refine ⟨?_,hend done x a w hI hall⟩
    refine List.eq_nil_iff_forall_not_mem.2 fun i hi=>?_
    obtain ⟨hu,o,ho,_⟩:=mem_ready.1 hi
    have hil : i<l.length:=by
      have:=(Array.getElem?_eq_some_iff.1 ho).1
      simpa using this
    have:=hall i hil
    rw [Array.getD_eq_getD_getElem?,Array.getElem?_eq_getElem (by have:=hI.jF;omega)] at hu this
    simp only [Option.getD_some] at hu this
    rw [hu] at this
    cases this
  | succ f ih=>
    intro done x a w hf hI
    have hds:=hI.jF
    refine ⟨fun h0=>hend done x a w hI (hrdy done hds h0),fun i hi=>?_⟩
    obtain ⟨hu,o,ho,hbe⟩:=mem_ready.1 hi
    have hil : i<l.length:=by
      have:=(Array.getElem?_eq_some_iff.1 ho).1
      simpa using this
    have ho' : l[i]?=some o:=by simpa using ho
    have hu' : done.getD i false=false:=by
      rw [Array.getD_eq_getD_getElem?,Array.getElem?_eq_getElem (by omega)] at hu ⊢
      simpa using hu
    have hk:=bp.bU hok ho'
    simp only [bp.ir,Bool.and_eq_true,Nat.zero_add] at hk
    obtain ⟨⟨⟨k1,k8⟩,k9⟩,k2,k3,k4,k5,_,k7⟩:=hk
    have hbeh : ∀ j,behind o j=true→done.getD j false=true:=fun j hj=>by
      simp only [behind,List.any_eq_true,Bool.and_eq_true,beq_iff_eq] at hj
      obtain ⟨e,he,rfl,hb⟩:=hj
      exact hbe e (by simpa using he) hb
    have hbi : ∀ k,bK l k i=true→done.getD k false=false:=fun k hk=>by
      cases h : done.getD k false with
      | false=>rfl
      | true=>have:=hI.down k i h hk;rw [hu'] at this;cases this
    have hinp : ∀ j ∈ g.gB i,g.live l.length done j:=by
      intro j hj
      have h2:=List.all_eq_true.1 k2 j hj
      simp only [Bool.and_eq_true,Bool.or_eq_true,decide_eq_true_eq] at h2
      refine ⟨h2.1,h2.2.imp id (hbeh j),fun k hkd hjk=>?_⟩
      have hkl : k<l.length:=by
        by_cases h : k<l.length
        · exact h
        · rw [Array.getD_eq_getD_getElem?,Array.getElem?_eq_none (by omega)] at hkd
          cases hkd
      have h4:=List.all_eq_true.1 k4 k (List.mem_range.2 hkl)
      have hki : k≠i:=fun e=>by rw [e,hu'] at hkd;cases hkd
      simp only [Bool.or_eq_true,beq_iff_eq,hki,false_or] at h4
      have h5:=List.all_eq_true.1 h4 j hjk
      simp only [Bool.or_eq_true,Bool.not_eq_true',List.contains_eq_mem,decide_eq_false_iff_not,hj,not_true,false_or] at h5
      rw [hbi k h5] at hkd
      cases hkd
    have hdone_ne : ∀ j,done.getD j false=true→j≠i:=fun j hj e=>by rw [e,hu'] at hj;cases hj
    have hlen : ∀ k,done.getD k false=true→k<l.length:=fun k hkd=>by
      by_cases h : k<l.length
      · exact h
      · rw [Array.getD_eq_getD_getElem?,Array.getElem?_eq_none (by omega)] at hkd
        cases hkd
    have hdi : ck l i=o.dst:=by simp [ck,ho']
    have hne : ∀ j d,done.getD j false=true→ck l j=some d→o.dst≠some d:=by
      intro j d hjd hd he
      rw [he] at k7
      simp only [iq,Bool.and_eq_true] at k7
      have:=List.all_eq_true.1 k7.1 j (List.mem_range.2 (hlen j hjd))
      simp [hdone_ne j hjd,hd] at this
    have hne0 : ∀ p ∈ g.E0,o.dst≠some p.1:=by
      intro p hp he
      rw [he] at k7
      simp only [iq,Bool.and_eq_true] at k7
      have:=List.all_eq_true.1 k7.2 p hp
      simp at this
    let rest : List Nat:=(List.range g.N).filter fun j=>@decide (g.live l.length done j) (Classical.propDecidable _) && !(g.gB i).contains j
    have hrest : ∀ j,j ∈ rest↔g.live l.length done j∧j ∉ g.gB i:=by
      intro j
      simp only [rest,List.mem_filter,List.mem_range,Bool.and_eq_true,Bool.not_eq_true',List.contains_eq_mem,decide_eq_false_iff_not]
      refine ⟨fun ⟨_,h2,h3⟩=>⟨@of_decide_eq_true _ (Classical.propDecidable _) h2,h3⟩,fun ⟨h2,h3⟩=>⟨h2.1,@decide_eq_true _ (Classical.propDecidable _) h2,h3⟩⟩
    have hnd : (g.gB i++rest).Nodup:=by
      rw [List.nodup_append]
      refine ⟨eF k5,List.nodup_range.filter _,fun a ha b hb e=>?_⟩
      exact ((hrest b).1 hb).2 (e ▸ ha)
    have H1:=hI.mem.to (g.gB i++rest) hnd (fun j hj=>by
      rcases List.mem_append.1 hj with h | h
      · exact hinp j h
      · exact ((hrest j).1 h).1)
    rw [List.flatMap_append] at H1
    let EF0 : Env:=(List.range l.length).filterMap fun j=>if done.getD j false=true then (ck l j).map (fun d=>(d,g.v j (x j))) else none
    let EF1 : Env:=(List.range l.length).flatMap fun j=>if done.getD j false=true then [] else g.E1 j
    let EF : Env:=EF0++EF1
    have hEF : ∀ p,p ∈ EF0↔∃ j d,done.getD j false=true∧ck l j=some d∧p=(d,g.v j (x j)):=by
      intro p
      simp only [EF0,List.mem_filterMap,List.mem_range]
      constructor
      · rintro ⟨j,_,hp⟩
        split at hp
        · rename_i hjd
          obtain ⟨d,hd,rfl⟩:=Option.map_eq_some_iff.1 hp
          exact ⟨j,d,hjd,hd,rfl⟩
        · cases hp
      · rintro ⟨j,d,hjd,hd,rfl⟩
        exact ⟨j,hlen j hjd,by rw [if_pos hjd,hd];rfl⟩
    have hEF1 : ∀ j,j<l.length→done.getD j false=false→∀ p ∈ g.E1 j,p ∈ EF1:=by
      intro j hjl hjd p hp
      simp only [EF1,List.mem_flatMap,List.mem_range]
      exact ⟨j,hjl,by rw [if_neg (by rw [hjd];decide)];exact hp⟩
    have hne1 : ∀ j,j<l.length→done.getD j false=false→∀ p ∈ g.E1 j,o.dst≠some p.1:=by
      intro j hjl hjd p hp he
      have hjo : l[j]?=some (l[j]'hjl):=List.getElem?_eq_getElem hjl
      have hkj:=bp.bU hok hjo
      simp only [bp.ir,Bool.and_eq_true,Nat.zero_add] at hkj
      have h9:=List.all_eq_true.1 hkj.1.2 p hp
      have h10:=List.all_eq_true.1 h9 i (List.mem_range.2 hil)
      simp only [hdi,he,bne_self_eq_false,Bool.false_or,Bool.and_eq_true] at h10
      have h11 : behind o j=true:=by simpa [bK,ho'] using h10.2
      rw [hbeh j h11] at hjd
      cases hjd
    have hneed : ∀ p ∈ g.need i,done.getD p.1 false=true∧ck l p.1=some p.2:=by
      intro p hp
      have h1:=List.all_eq_true.1 k1 p hp
      simp only [Bool.and_eq_true,beq_iff_eq] at h1
      exact ⟨hbeh _ h1.1,h1.2⟩
    have hK : ∀ p ∈ ((g.need i).map (fun p=>(p.2,g.v p.1 (x p.1)))++(g.E0++(g.E1 i++EF))),a.tmps.getD p.1 undef=p.2∧o.dst≠some p.1:=by
      intro p hp
      rcases List.mem_append.1 hp with h | h
      · obtain ⟨q,hq,rfl⟩:=List.mem_map.1 h
        obtain ⟨h1,h2⟩:=hneed q hq
        exact ⟨hI.vals _ _ h1 h2,hne _ _ h1 h2⟩
      · rcases List.mem_append.1 h with h | h
        · exact ⟨hI.base p h,hne0 p h⟩
        · rcases List.mem_append.1 h with h | h
          · exact ⟨hI.first i hil hu' p h,hne1 i hil hu' p h⟩
          · rcases List.mem_append.1 h with h | h
            · obtain ⟨j,d,h1,h2,rfl⟩:=(hEF p).1 h
              exact ⟨hI.vals _ _ h1 h2,hne _ _ h1 h2⟩
            · simp only [EF1,List.mem_flatMap,List.mem_range] at h
              obtain ⟨j,hjl,h⟩:=h
              cases hjd : done.getD j false with
              | true=>rw [hjd] at h;simp at h
              | false=>
                rw [hjd] at h
                simp only [Bool.false_eq_true,if_false] at h
                exact ⟨hI.first j hjl hjd p h,hne1 j hjl hjd p h⟩
    have job:=bp.gC hj ho'
    rw [Nat.zero_add] at job
    refine eE ho ((job x EF (rest.flatMap fun j=>g.M j (x j)) _ fun xi hxi=>⟨fun a' w' hK' hH'=>?_⟩).go a w (aE.of hI.size hI.defers fun p hp=>(hK p hp).1) H1)
    have hd' : ∀ j,(done.setIfInBounds i true).getD j false=(decide (j=i) || done.getD j false):=fun j=>mL (by omega)
    refine ih _ (fun j=>if j=i then xi else x j) a' w' ?_ ?_
    · have:=jE (l:=List.range l.length) (p:=fun j=>!done.getD j false) (q:=fun j=>!(done.setIfInBounds i true).getD j false) (i:=i) List.nodup_range (List.mem_range.2 hil) (by simp only [hu'];rfl) (by simp only [hd'];simp) (fun j hj=>by simp only [hd'];simp [hj])
      omega
    · have hmem : ∀ p ∈ (slot o.dst (g.v i xi)++((g.need i).map (fun p=>(p.2,g.v p.1 (x p.1)))++(g.E0++(g.E1 i++EF)))),a'.tmps.getD p.1 undef=p.2:=by
        intro p hp
        refine hK'.mem (f:=fun t=>if o.dst=some t then g.v i xi else a.tmps.getD t undef) (fun q hq=>?_) hp
        rcases List.mem_append.1 hq with h | h
        · cases hod : o.dst with
          | none=>rw [hod] at h;cases h
          | some d=>
            rw [hod] at h
            simp only [slot,List.mem_singleton] at h
            subst h
            simp
        · have:=hK q h
          simp only [this.2,if_false]
          exact this.1
      refine ⟨hK'.size,hK'.defers,by simp [hds],fun p hp=>hmem p (by simp [hp]),fun j hjl hjd p hp=>?_,?_,?_,?_,?_⟩
      · rw [hd'] at hjd
        simp only [Bool.or_eq_false_iff] at hjd
        exact hmem p (List.mem_append_right _ (List.mem_append_right _ (List.mem_append_right _ (List.mem_append_right _ (List.mem_append_right _ (hEF1 j hjl hjd.2 p hp))))))
      · intro j d hjd hd
        by_cases e : j=i
        · subst e
          rw [hdi] at hd
          have:=hmem (d,g.v j xi) (by simp [hd,slot])
          simpa using this
        · rw [hd'] at hjd
          simp only [e,decide_false,Bool.false_or] at hjd
          have:=hmem (d,g.v j (x j)) (List.mem_append_right _ (List.mem_append_right _ (List.mem_append_right _ (List.mem_append_right _ (List.mem_append_left _ ((hEF _).2 ⟨j,d,hjd,hd,rfl⟩))))))
          simpa [e] using this
      · intro j k hjd hs
        rw [hd'] at hjd
        by_cases e : j=i
        · subst e
          rw [hs] at k8
          simp only [if_true,hdone_ne k (hbeh k k8),if_false]
          exact hxi k hs
        · simp only [e,decide_false,Bool.false_or] at hjd
          have hjo : l[j]?=some (l[j]'(hlen j hjd)):=List.getElem?_eq_getElem (hlen j hjd)
          have hkj:=bp.bU hok hjo
          simp only [bp.ir,Bool.and_eq_true,Nat.zero_add] at hkj
          have h8:=hkj.1.1.2
          rw [hs] at h8
          have hkd:=hI.down j k hjd (by simpa [bK,hjo,pP] using h8)
          simp only [e,hdone_ne k hkd,if_false]
          exact hI.rel j k hjd hs
      · intro j i' hjd hb
        rw [hd'] at hjd ⊢
        by_cases e : j=i
        · subst e
          have : behind o i'=true:=by simpa [bK,ho'] using hb
          simp [hbeh i' this]
        · simp only [e,decide_false,Bool.false_or] at hjd
          simp [hI.down j i' hjd hb]
      · have hnl : ¬ g.live l.length done i:=fun h=>by
          rcases h.2.1 with h | h
          · omega
          · rw [hu'] at h;cases h
        have hcg : ∀ L : List Nat,(∀ j ∈ L,g.live l.length done j)→L.flatMap (fun j=>g.M j (if j=i then xi else x j))=L.flatMap fun j=>g.M j (x j):=by
          intro L
          induction L with
          | nil=>simp
          | cons j L ih=>
            intro h
            have hji : j≠i:=fun e=>hnl (e ▸ h j (by simp))
            simp only [List.flatMap_cons,hji,if_false,ih fun k hk=>h k (by simp [hk])]
        refine ec.of (Js:=i::(((g.gB i).filter fun j=>!(g.kK i).contains j)++rest)) ?_ ?_
        · rw [List.flatMap_cons,List.flatMap_append,hcg _ (fun j hj=>hinp j (List.mem_filter.1 hj).1),hcg rest (fun j hj=>((hrest j).1 hj).1)]
          simpa using hH'
        · intro j hj
          by_cases e : j=i
          · simp [e]
          · have hl : g.live l.length done j:=by
              refine ⟨hj.1,hj.2.1.imp id (fun h=>?_),fun k hk=>hj.2.2 k (by rw [hd'];simp [hk])⟩
              rw [hd'] at h
              simpa [e] using h
            have hne : j ∉ g.kK i:=hj.2.2 i (by rw [hd'];simp)
            by_cases hji : j ∈ g.gB i
            · simp [e,hji,hne]
            · have:=(hrest j).2 ⟨hl,hji⟩
              simp [e,this]
theorem JC.vg [Inhabited Y] (g : bp Y) (outs : List (Nat × Nat)) (ends : List Nat) {id : Nat} (hm : P.follows .mixedOrders=true) (hE : ax E g.E0) (hE1 : ∀ i,i<l.length→ax E (g.E1 i)) (hM : aA (((List.range g.N).filter fun j=>decide (l.length≤j)).flatMap fun j=>g.M j default) M)
    (hok : g.cR l 0 l=true) (ho : (outs.all fun p=>decide (p.1<l.length) && ck l p.1 == some p.2)=true)
    (he : (fQ ends && ends.all fun j=>decide (j<g.N) && (List.range l.length).all fun k=>!(g.kK k).contains j)=true)
    (hj : g.je P n w0 S l 0 l)
    (k : ∀ x : Nat→Y,(∀ j k,j<l.length→g.src j=some k→x j=x k)→JE n w0 S Q .normal (outs.map (fun p=>(p.2,g.v p.1 (x p.1)))++g.E0) (ends.flatMap fun j=>g.M j (x j))) : JC P n w0 S Q (.region id l.toArray true) E M:=
  ⟨fun a w ha hw=>by
    refine wp_region_any hm ?_
    have hw':=(hw.drawn (w.drawn+1)).weak hM
    simp only [Bool.and_eq_true] at he
    refine bp.run hok hj (fun done x a w hI hall=>?_) _ _ (fun _=>default) a _ ?_ ?_
    · refine (k x fun j k hj hs=>hI.rel j k (hall j hj) hs).go a w (aE.of hI.size hI.defers fun p hp=>?_) (hI.mem.to ends (eF he.1) fun j hj=>?_)
      · rcases List.mem_append.1 hp with h | h
        · obtain ⟨q,hq,rfl⟩:=List.mem_map.1 h
          have:=List.all_eq_true.1 ho q hq
          simp only [Bool.and_eq_true,decide_eq_true_eq,beq_iff_eq] at this
          exact hI.vals _ _ (hall _ this.1) this.2
        · exact hI.base p h
      · have:=List.all_eq_true.1 he.2 j hj
        simp only [Bool.and_eq_true,decide_eq_true_eq] at this
        refine ⟨this.1,?_,fun k hk hjk=>?_⟩
        · by_cases h : l.length≤j
          · exact .inl h
          · exact .inr (hall j (by omega))
        · have hkl : k<l.length:=by
            by_cases h : k<l.length
            · exact h
            · have:=hI.jF
              rw [Array.getD_eq_getD_getElem?,Array.getElem?_eq_none (by omega)] at hk
              cases hk
          have:=List.all_eq_true.1 this.2 k (List.mem_range.2 hkl)
          simp [hjk] at this
    · have : ∀ j,(Array.replicate l.toArray.size false).getD j false=false:=fun j=>by
        simp only [Array.getD_eq_getD_getElem?,Array.getElem?_replicate]
        split <;> rfl
      rw [List.countP_eq_length.2 (fun j _=>by simp only [this];rfl)]
      simp
    · have hf : ∀ j,(Array.replicate l.toArray.size false).getD j false=false:=fun j=>by
        simp only [Array.getD_eq_getD_getElem?,Array.getElem?_replicate]
        split <;> rfl
      refine ⟨ha.size,ha.defers,by simp,fun p hp=>ha.all _ _ (hE.all p hp),fun j hj _ p hp=>ha.all _ _ ((hE1 j hj).all p hp),fun j d h=>?_,fun j k h=>?_,fun j i h=>?_,?_⟩
      · rw [hf] at h;cases h
      · rw [hf] at h;cases h
      · rw [hf] at h;cases h
      · refine ec.of hw' fun j hj=>?_
        rw [List.mem_filter]
        refine ⟨List.mem_range.2 hj.1,?_⟩
        rcases hj.2.1 with h | h
        · simpa using h
        · rw [hf] at h;cases h⟩
structure wC (Y : Type) where
  E0 : Env
  N : Nat
  v : Nat→Y→Value
  M : Nat→Y→List az
  need : Nat→List (Nat × Nat)
  gB : Nat→List Nat
  kK : Nat→List Nat
  src : Nat→Option Nat
def wC.o (g : wC Y) : bp Y:=⟨g.E0,g.N,g.v,g.M,g.need,g.gB,g.kK,g.src,fun _=>[]⟩
end
end Sl
end
section
namespace Sl
section
variable {P : Program} {t tx e : TypeId}
theorem lK (n : Nat) : Builtin.zeroCells #[.int .u8 0] n=(List.replicate n (Value.int .u8 0)).toArray:=by
  apply Array.ext'
  simp only [Builtin.zeroCells,List.size_toArray,List.length_cons,List.length_nil,Array.toList_map,Array.toList_range]
  apply List.ext_getElem?
  intro i
  by_cases h : i<n
  · simp [h,Nat.mod_one]
  · simp [h]
variable {n : Nat} {w0 : World} {S : List Nat} {ops : Array Oper} {Q : Exit→Act→World→Prop} {l : List Oper} {E : Env} {M : List az} {d b : Nat} {ty : TypeId} {pos : String} {aft : Array Edge} {x y : Operand}
end
end Sl
end
section
set_option maxRecDepth 10000
open Sl
abbrev Bt:=BitVec 8
structure aq where
  ad : Option Addr
  cap : Nat
  l : List Bt
def aq.v (s : aq) : Value:=.slice s.ad s.l.length s.cap
structure aq.ok (w : World) (s : aq) : Prop where
  len : s.l.length≤s.cap
  reads : Reads w s.ad (s.l.map U8)
theorem aq.ok.lt {w : World} {s : aq} (h : s.ok w) (h0 : s.l≠[]) : ∀ a,s.ad=some a→a.block<w.heap.size:=by
  obtain ⟨b,j,h1,h2⟩:=h.reads.at (by simpa using List.length_pos_iff.2 h0)
  intro a ha
  rw [h1] at ha
  cases ha
  exact block_lt_of_cell (h2 0 _ (ig U8 0 (List.length_pos_iff.2 h0)))
theorem aq.ok.holds {w0 w : World} {S : List Nat} {M : List az} {s : aq} (h : s.ok w0) (hw : aa w0 S M w) (hS : S=[]) : s.ok w:=⟨h.len,hw.reads h.reads (fun _ a _=>by rw [hS];simp)⟩
theorem aq.ok.ext {w w' : World} {s : aq} (h : s.ok w) (hx : Ext w w') : s.ok w':=h.holds (⟨hx,by simp,by simp⟩ : aa w [] [] w') rfl
def eG : aq:=⟨none,0,[]⟩
theorem jn (w : World) : eG.ok w:=⟨by simp [eG],Reads.nil _ _⟩
theorem en (A M : List az) : aA A (A++M):=by
  induction A with
  | nil=>exact .nil _
  | cons e A ih=>exact .keep _ _ _ _ _ _ (fun _ h=>h) ih
theorem OQ.xD {P : Program} {n : Nat} {E : Env} {C : World→Prop} {dst : Option Tmp} {t ty : TypeId} {pos : String} {aft : Array Edge} {g : Option (Nat × Bool)} {x : Operand} {s : ByteArray} (hu : P.underlying t=some .string) (hx : ev E x=some (.string s)) : OQ P n E C ⟨dst,.call ⟨.builtin .len,#[x],#[t]⟩,ty,pos,aft,g⟩ (N s.size):=
  OQ.run fun a ha w _=>by
    have h1:=ha.eval hx
    have h3 : (underlying t).run P w=.ok .string w:=run_underlying hu w
    simp [execOp,h1,resolve,invoke,builtin,Builtin.len_,Sem.run_bind,h3,goInt]
theorem JE.less {n : Nat} {w0 : World} {S : List Nat} {Q : Exit→Act→World→Prop} {e : Exit} {E : Env} {M M' : List az} (hM : aA M' M) (h : JE n w0 S Q e E M') : JE n w0 S Q e E M:=⟨fun a w ha hw=>h.go a w ha (hw.weak hM)⟩
theorem Sl.Own.has {e : TypeId} {k cap m : Nat} {r : List Bt} : ∀ o,Sl.Own e 1 k cap (r.map U8) o→bJ o 0 ((r.take m).map U8)∧k≤cap:=by
  rintro o ⟨sp,rfl,h1,h2,h3⟩
  refine ⟨⟨_,_,_,rfl,fun i hi=>?_⟩,h3⟩
  have hi' : i<m∧i<r.length:=by simp at hi;omega
  simp [List.getElem?_append_left,hi'.1,hi'.2]
def aq.qn (s : aq) : List az:=match s.ad with
  | some a=>[⟨a.block,fun o=>bJ o a.off (s.l.map U8)∧s.l.length≤s.cap∧a.spot=none,true⟩]
  | none=>[]
theorem aq.pQ {s : aq} {w0 w : World} {S : List Nat} {M : List az} (h : aa w0 S (s.qn++M) w) (h0 : s.ad=none→s.l=[]) : s.ok w:=by
  obtain ⟨ad,cap,l⟩:=s
  cases ad with
  | none=>
    have : l=[]:=h0 rfl
    subst this
    exact ⟨by simp,Reads.nil _ _⟩
  | some a=>
    obtain ⟨o,ho,h1,h2,h3⟩:=h.get (b:=a.block) (A:=fun o=>bJ o a.off (l.map U8)∧l.length≤cap∧a.spot=none) (wr:=true) .here
    obtain ⟨b,j,sp⟩:=a
    simp only at h3
    subst h3
    exact ⟨h2,Reads.block ho h1⟩
structure ye (s : aq) (l : List Bt) (cap : Nat) : Prop where
  val : s.l=l
  cap : s.cap=cap
  none : s.ad=.none→s.l=[]
section
variable {P : Program} {n : Nat} {w0 w w' : World} {S : List Nat} {ops : Array Oper} {Q : Exit→Act→World→Prop} {l : List Oper} {E : Env} {M Ms : List az} {d : Nat} {t t' e ty : TypeId} {pos : String} {aft : Array Edge} {x : Operand}
theorem Sl.aa.both (h : aa w0 S M w) (h2 : aa w [] Ms w') (hw : ∀ e ∈ Ms,e.wr=true) : aa w0 S (Ms++M) w':=by
  have hx : Ext w w':=h2.aC
  have h1:=h.ext hx
  have hfr : ∀ e ∈ Ms,w.heap.size≤e.b:=fun e he=>by
    rcases (h2.all e he).2 (hw e he) with h | h
    · cases h
    · exact h
  refine ⟨h1.aC,?_,fun e he=>?_⟩
  · rw [List.map_append,List.nodup_append]
    refine ⟨h2.nodup,h1.nodup,fun a ha b hb e=>?_⟩
    simp only [List.mem_map] at ha hb
    obtain ⟨e1,he1,rfl⟩:=ha
    obtain ⟨e2,he2,rfl⟩:=hb
    have:=hfr e1 he1
    obtain ⟨⟨o,ho,_⟩,_⟩:=h.all e2 he2
    have:=(Array.getElem?_eq_some_iff.1 ho).1
    omega
  · rcases List.mem_append.1 he with he | he
    · refine ⟨(h2.all e he).1,fun _=>.inr (Nat.le_trans h.aC.size (hfr e he))⟩
    · exact h1.all e he
theorem JL.bC {ι : Type} (vf : ι→Value) (Mf : ι→List az) {f : FuncId} {xs : List Operand} {ats : Array TypeId} {vs : List Value} (hg : aR P f) (hx : eY E xs=some vs) (hd : Nat.blt d n=true) (hwr : ∀ i,∀ e ∈ Mf i,e.wr=true)
    (hc : ∀ w,aa w0 S M w→Calls P f vs.toArray w fun e w'=>∃ i,e=.returned (vf i)∧aa w [] (Mf i) w')
    (k : ∀ i,JL P n w0 S ops Q l ((d,vf i)::E) (Mf i++M)) : JL P n w0 S ops Q (⟨some d,.call ⟨.value (.func f),xs.toArray,ats⟩,ty,pos,aft,none⟩::l) E M:=
  JL.call (ι:=ι) vf (fun i=>Mf i++M) hg hx hd (fun w hw=>(hc w hw).mono fun _ _ ⟨i,h1,h2⟩=>⟨i,h1,hw.both h2 (hwr i)⟩) k
end
section
variable {P : Program} {n : Nat} {w0 w w' : World} {S : List Nat} {ops : Array Oper} {Q : Exit→Act→World→Prop} {l : List Oper} {E : Env} {M Ms : List az} {d : Nat} {t t' e ty : TypeId} {pos : String} {aft : Array Edge} {x : Operand}
def bytesOf (s : ByteArray) : List Bt:=s.data.toList.map UInt8.toBitVec
theorem bytesOf_length (s : ByteArray) : (bytesOf s).length=s.size:=by simp [bytesOf]
theorem JL.yf {s : ByteArray} {u : TypeDesc} (hs : P.underlying t=some u) (hu : P.underlying t'=some (.slice e)) (he : P.underlying e=some (.int .u8)) (hx : ev E x=some (.string s)) (hd : Nat.blt d n=true)
    (k : ∀ b cap,JL P n w0 S ops Q l ((d,aq.v ⟨some ⟨b,0,none⟩,cap,bytesOf s⟩)::E) ((⟨some ⟨b,0,none⟩,cap,bytesOf s⟩ : aq).qn++M)) : JL P n w0 S ops Q (⟨some d,.convert t t' x,ty,pos,aft,none⟩::l) E M:=
  ⟨fun a w ha hw=>wpList_plain rfl fun K hK=>by
    have hrun:=Lib.run_convert_string_bytes (P:=P) w t t' e s hs hu he
    have hheap : (Lib.bytesWorld w e s).heap=w.heap.push (.cells (Lib.bytesCells w e s) e ((Lib.bytesCells w e s).size,(Lib.bytesCells w e s).size+1)):=by
      apply Array.ext_getElem?
      intro i
      rw [Array.getElem?_push]
      by_cases h : i=w.heap.size
      · rw [if_pos h,h,Lib.bytesWorld_at_new]
      · rw [if_neg h]
        by_cases h2 : i<w.heap.size
        · rw [Lib.bytesWorld_at_old _ _ _ _ h2]
        · rw [Array.getElem?_eq_none (by rw [Lib.bytesWorld_size];omega),Array.getElem?_eq_none (by omega)]
    have hge:=grownCap_ge w s.size 0 e
    have hcells : bJ (.cells (Lib.bytesCells w e s) e ((Lib.bytesCells w e s).size,(Lib.bytesCells w e s).size+1)) 0 ((bytesOf s).map U8):=by
      refine ⟨_,_,_,rfl,fun i hi=>?_⟩
      have hi : i<s.data.size:=by simpa [bytesOf] using hi
      simp only [Lib.bytesCells,bytesOf,Nat.zero_add,Array.getElem?_append,Array.size_map,hi,if_true,Array.getElem?_map,List.getElem?_map,Array.getElem?_toList,Option.map_map]
      rfl
    have h5 : aq.v ⟨some ⟨w.heap.size,0,none⟩,grownCap w s.size 0 e,bytesOf s⟩=.slice (some ⟨w.heap.size,0,none⟩) s.size (grownCap w s.size 0 e):=by
      simp [aq.v,bytesOf_length]
    unfold Oper.wp
    simp only [execOp,ha.eval hx,Sem.run_bind,hrun,Result.andThen_ok]
    rw [← h5]
    exact hK _ _ ((k w.heap.size (grownCap w s.size 0 e)).go _ _ (ha.put d _ hd) (hw.push _ ⟨hcells,by show (bytesOf s).length≤_;rw [bytesOf_length];exact hge,rfl⟩ hheap rfl rfl rfl))⟩
end
section
variable {P : Program} {n : Nat} {E : Env} {C : World→Prop} {dst : Option Tmp} {t t' ty : TypeId} {pos : String} {aft : Array Edge} {g : Option (Nat × Bool)} {x y : Operand}
theorem OQ.x7 {a b : Bt} (hx : ev E x=some (U8 a)) (hy : ev E y=some (U8 b)) : OQ P n E C ⟨dst,.binOp .neq t x y t',ty,pos,aft,g⟩ (.bool (!decide (a=b))):=by
  have:=OQ.xu (P:=P) (n:=n) (C:=C) (dst:=dst) (ty:=ty) (t:=t) (t':=t') (pos:=pos) (aft:=aft) (g:=g) hx hy
  have h : decide ((a.toNat : Int)=b.toNat)=decide (a=b):=decide_eq_decide.2 ⟨fun h=>BitVec.eq_of_toNat_eq (by omega),fun h=>by rw [h]⟩
  rwa [h] at this
end
theorem dy {w0 w : World} {S : List Nat} {M : List az} {b k cap : Nat} {e : TypeId} {l : List Bt} {wr : Bool} (hw : aa w0 S M w) (hM : Has M b (Sl.Own e 1 k cap (l.map U8)) wr) : aq.ok w ⟨some ⟨b,0,none⟩,cap,l⟩:=by
  obtain ⟨o,ho,hA⟩:=hw.get hM
  have hh:=Sl.Own.cells _ hA
  obtain ⟨sp,rfl,h2,h3,h4⟩:=hA
  simp only [List.length_map,Nat.mul_one] at h3
  exact ⟨by show l.length≤cap;omega,Reads.block ho hh⟩
theorem OQ.to {P : Program} {n : Nat} {E : Env} {C : World→Prop} {o : Oper} {v v' : Value} (h : OQ P n E C o v) (e : v=v') : OQ P n E C o v':=e ▸ h
def aq.fst (s : aq) (m : Nat) : aq:=⟨if s.cap=0 then s.ad else s.ad.map (·.add 0),s.cap,s.l.take m⟩
def aq.snd (s : aq) (m : Nat) : aq:=⟨if s.cap=m then s.ad else s.ad.map (·.add (m * 1)),s.cap - m,s.l.drop m⟩
theorem aq.ok.fst {s : aq} {w : World} (h : s.ok w) (m : Nat) : (s.fst m).ok w:=by
  refine ⟨by show (s.l.take m).length≤s.cap;have:=h.len;rw [List.length_take];omega,?_⟩
  show Reads w _ ((s.l.take m).map U8)
  by_cases h0 : s.l=[]
  · rw [h0];simpa using Reads.nil _ _
  · obtain ⟨b,j,hae,_⟩:=h.reads.at (by simpa using List.length_pos_iff.2 h0)
    have h1:=h.reads.take m
    rw [← List.map_take] at h1
    have h2 : (s.fst m).ad=s.ad:=by
      show (if s.cap=0 then s.ad else s.ad.map (·.add 0))=s.ad
      rw [hae]
      split <;> simp [Addr.add]
    rw [h2]
    exact h1
theorem aq.ok.snd {s : aq} {w : World} (h : s.ok w) (m : Nat) (hm : m≤s.l.length) : (s.snd m).ok w:=by
  refine ⟨by show (s.l.drop m).length≤s.cap - m;have:=h.len;rw [List.length_drop];omega,?_⟩
  have:=h.reads.drop (len:=s.l.length) (cap:=s.cap) (lo:=m) (by simp) h.len hm
  rwa [← List.map_drop] at this
theorem aq.wD (s : aq) (m : Nat) (hm : m≤s.l.length) : .slice (if s.cap=0 then s.ad else s.ad.map (·.add 0)) m s.cap=(s.fst m).v:=by simp [aq.v,aq.fst,Nat.min_eq_left hm]
theorem aq.wE (s : aq) (m : Nat) : .slice (if s.cap=m then s.ad else s.ad.map (·.add (m * 1))) (s.l.length - m) (s.cap - m)=(s.snd m).v:=by simp [aq.v,aq.snd]
theorem rN {e : TypeId} {xs : List Value} {n : Nat} (h : xs.length=n) : ∀ o,Row e xs o→Sl.Own e 1 n n xs o:=by
  rintro o rfl
  exact ⟨[],by simp,by simp [h],by simp [h],Nat.le_refl _⟩
theorem OQ.fst {P : Program} {n : Nat} {E : Env} {C : World→Prop} {dst : Option Tmp} {t ty e : TypeId} {pos : String} {aft : Array Edge} {g : Option (Nat × Bool)} {x y : Operand} {s : aq} {m : Nat} (hu : P.underlying t=some (.slice e)) (hz : dw P e=some 1) (hx : ev E x=some s.v) (hh : ev E y=some (N m)) (h : m≤s.l.length) (hc : s.l.length≤s.cap) :
    OQ P n E C ⟨dst,.slice t x none (some y) none,ty,pos,aft,g⟩ (s.fst m).v:=
  OQ.to (OQ.jB (ad:=s.ad) (len:=s.l.length) (cap:=s.cap) hu hz hx hh (Nat.le_trans h hc)) (aq.wD s m h)
theorem OQ.snd {P : Program} {n : Nat} {E : Env} {C : World→Prop} {dst : Option Tmp} {t ty e : TypeId} {pos : String} {aft : Array Edge} {g : Option (Nat × Bool)} {x y : Operand} {s : aq} {m : Nat} (hu : P.underlying t=some (.slice e)) (hz : dw P e=some 1) (hx : ev E x=some s.v) (hl : ev E y=some (N m)) (h : m≤s.l.length) :
    OQ P n E C ⟨dst,.slice t x (some y) none none,ty,pos,aft,g⟩ (s.snd m).v:=
  OQ.to (OQ.ot (ad:=s.ad) (len:=s.l.length) (cap:=s.cap) hu hz hx hl h) (aq.wE s m)
theorem JL.wF {P : Program} {n : Nat} {w0 : World} {S : List Nat} {ops : Array Oper} {Q : Exit→Act→World→Prop} {E : Env} {M : List az} {l : List Oper} {d : Tmp} {t ty e : TypeId} {pos : String} {aft : Array Edge} {z : Value} {by' : Nat} (hu : P.underlying t=some (.slice e)) (hi : EI P e z 1 by') (hd : Nat.blt d n=true)
    (k : ∀ b,w0.heap.size≤b→JL P n w0 S ops Q l ((d,.slice (some ⟨b,0,none⟩) 0 0)::E) (⟨b,Sl.Own e 1 0 0 [],true⟩::M)) : JL P n w0 S ops Q (⟨some d,.buildSlice t 0 #[],ty,pos,aft,none⟩::l) E M:=
  JL.xC hu hi hd fun b hb=>⟨fun a w ha hw=>(k b hb).go a w ha (hw.weak (.keep _ _ _ _ _ _ (rN rfl) (aA.refl _)))⟩
structure wg where
  ad : Option Addr
  cap : Nat
  l : List Int
def wg.v (s : wg) : Value:=.slice s.ad s.l.length s.cap
structure wg.ok (w : World) (s : wg) : Prop where
  len : s.l.length≤s.cap
  reads : Reads w s.ad (s.l.map fun i=>.int .i64 i)
theorem wg.ok.holds {w0 w : World} {S : List Nat} {M : List az} {s : wg} (h : s.ok w0) (hw : aa w0 S M w) (hS : S=[]) : s.ok w:=⟨h.len,hw.reads h.reads (fun _ a _=>by rw [hS];simp)⟩
end
section
set_option maxRecDepth 10000
open Sl
theorem di : Tryd.prog.follows .mixedOrders=true:=by kernel_rfl
theorem cn : dw Tryd.prog 5=some 1:=by kernel_rfl
theorem og : fM Tryd.prog 5=true:=by kernel_rfl
theorem eD : EI Tryd.prog 5 (.int .u8 0) 1 1:=by unfold EI;kernel_rfl
end
section
namespace Sl
section
variable {P : Program} {n : Nat} {w0 : World} {S : List Nat} {ops : Array Oper} {Q : Exit→Act→World→Prop} {l : List Oper} {E : Env} {M : List az} {C : World→Prop}
variable {dst : Option Tmp} {d b : Nat} {t e ty : TypeId} {pos : String} {aft : Array Edge} {g : Option (Nat × Bool)} {v : Value} {x y z : Operand}
theorem OQ.extract {vs : Array Value} {i : Nat} (hx : ev E x=some (.tuple vs)) (hi : vs[i]?=some v) : OQ P n E C ⟨dst,.extract x i,ty,pos,aft,g⟩ v:=
  OQ.run fun a ha w _=>by
    have h1:=ha.eval hx
    simp [execOp,h1,Instr.extract,hi]
theorem OQ.ug {len cap hi mx sz : Nat} {ad : Option Addr} (hu : P.underlying t=some (.slice e)) (hz : dw P e=some sz) (hx : ev E x=some (.slice ad len cap)) (hh : ev E y=some (N hi)) (hm : ev E z=some (N mx)) (h : hi≤mx) (h' : mx≤cap) :
    OQ P n E C ⟨dst,.slice t x none (some y) (some z),ty,pos,aft,g⟩ (.slice (if mx=0 then ad else ad.map (·.add 0)) hi mx):=
  OQ.run fun a ha w _=>by
    have h1:=ha.eval hx
    have h2:=ha.eval hh
    have h4:=ha.eval hm
    have h3 : (underlying t).run P w=.ok (.slice e) w:=run_underlying hu w
    simp [execOp,h1,h2,h4,Instr.sliceAt,Sem.run_bind,h3,Instr.slice,Instr.sliceBounds,Instr.sliceBound,asIntOf,h,h',aL hz]
theorem uh {k : Nat} (zc : Array Value) (h : zc=(List.replicate k (Value.int .u8 0)).toArray) (h0 : 0<k) (m : Nat) : madeCells zc m=(List.replicate m (Value.int .u8 0)).toArray:=by
  subst h
  apply Array.ext'
  simp only [madeCells,List.size_toArray,List.length_replicate,Array.toList_map,Array.toList_range]
  apply List.ext_getElem?
  intro i
  by_cases h : i<m
  · simp [h,Nat.mod_lt _ h0]
  · simp [h]
theorem JL.make {zv : Value} {sz by' c : Nat} (hu : P.underlying t=some (.slice e)) (hi : EI P e zv sz by') (hz : zv.cells=(List.replicate sz (Value.int .u8 0)).toArray) (h0 : 0<sz) (hx : ev E x=some (N c)) (hy : ev E y=some (N c)) (hb : by' * c≤281474976710656) (hc : c<9223372036854775808) (hd : Nat.blt d n=true)
    (k : ∀ b,w0.heap.size≤b→JL P n w0 S ops Q l ((d,.slice (some ⟨b,0,none⟩) c c)::E) (⟨b,Row e (List.replicate (c * sz) (.int .u8 0)),true⟩::M)) : JL P n w0 S ops Q (⟨some d,.makeSlice t x y,ty,pos,aft,none⟩::l) E M:=
  ⟨fun a w ha hw=>wpList_plain rfl fun K hK=>by
    obtain ⟨i,hi1,hi2,hi3,hi4⟩:=hi.get
    have hbb : (i.bytes : Int) * (c : Int)≤281474976710656:=by
      rw [hi4,← Int.natCast_mul]
      exact Int.ofNat_le.2 hb
    have hrun:=run_make (P:=P) w t e i zv hu hi1 hi2 .i64 .i64 c c (by omega) (Int.le_refl _) hbb (by omega)
    simp only [Int.toNat_natCast,hi3] at hrun
    rw [uh _ hz h0] at hrun
    unfold Oper.wp
    simp only [execOp,ha.eval hx,ha.eval hy,Sem.run_bind,hrun,Result.andThen_ok]
    exact hK _ _ ((k w.heap.size hw.aC.size).go _ _ (ha.put d _ hd) (hw.push (.cells (List.replicate (c * sz) (Value.int .u8 0)).toArray e (0,0)) rfl rfl rfl rfl rfl))⟩
end
end Sl
end
section
namespace Sl
section
variable {P : Program} {n : Nat} {w0 : World} {S : List Nat} {ops : Array Oper} {Q : Exit→Act→World→Prop} {l : List Oper} {E : Env} {M : List az}
variable {d : Nat} {t e ty : TypeId} {pos : String} {aft : Array Edge} {v z : Value} {x : Operand} {sz by' : Nat} {cs : List Value}
end
end Sl
end
section
namespace Sl
section
variable {P : Program} {n : Nat} {w0 : World} {S : List Nat} {ops : Array Oper} {Q : Exit→Act→World→Prop} {l : List Oper} {E : Env} {M : List az} {C : World→Prop}
variable {dst : Option Tmp} {d b : Nat} {t t' e ty : TypeId} {pos : String} {aft : Array Edge} {g : Option (Nat × Bool)} {v zv : Value} {x y z : Operand} {by' : Nat}
theorem OQ.gD {len cap lo hi sz : Nat} {ad : Option Addr} (hu : P.underlying t=some (.slice e)) (hz : dw P e=some sz) (hx : ev E x=some (.slice ad len cap)) (hl : ev E y=some (N lo)) (hh : ev E z=some (N hi)) (h : lo≤hi) (h' : hi≤cap) :
    OQ P n E C ⟨dst,.slice t x (some y) (some z) none,ty,pos,aft,g⟩ (.slice (if cap=lo then ad else ad.map (·.add (lo * sz))) (hi - lo) (cap - lo)):=
  OQ.run fun a ha w _=>by
    have h1:=ha.eval hx
    have h2:=ha.eval hl
    have h4:=ha.eval hh
    have h3 : (underlying t).run P w=.ok (.slice e) w:=run_underlying hu w
    simp [execOp,h1,h2,h4,Instr.sliceAt,Sem.run_bind,h3,Instr.slice,Instr.sliceBounds,Instr.sliceBound,asIntOf,h,h',aL hz]
theorem OQ.xE {a c : Nat} (hx : ev E x=some (N a)) (hy : ev E y=some (N c)) : OQ P n E C ⟨dst,.call ⟨.builtin .min,#[x,y],#[t,t']⟩,ty,pos,aft,g⟩ (N (min a c)):=
  OQ.run fun ac ha w _=>by
    have h1:=ha.eval hx
    have h2:=ha.eval hy
    have h3 : (if c<a then (c : Int) else (a : Int))=((min a c : Nat) : Int):=by split <;> omega
    simp [execOp,h1,h2,resolve,invoke,builtin,Builtin.min_,Builtin.min2,Sem.run_bind,N,h3]
def pairs : Nat→List Operand→List (Nat × Operand)
  | _,[]=>[]
  | i,x::xs=>(i,x)::pairs (i+1) xs
theorem kL {a : Act} (hk : aE n E a) : ∀ {xs : List Operand} {vs : List Value} (i : Nat),eY E xs=some vs→(pairs i xs).map (fun p=>(p.1,a.eval p.2))=(vs.zipIdx i).map fun x=>(x.2,x.1)
  | [],vs,i,h=>by
    simp only [eY,Option.some.injEq] at h
    subst h
    rfl
  | x::xs,vs,i,h=>by
    simp only [eY] at h
    cases h1 : ev E x with
    | none=>simp [h1] at h
    | some v=>
      cases h2 : eY E xs with
      | none=>simp [h1,h2] at h
      | some us=>
        simp only [h1,h2,Option.some.injEq] at h
        subst h
        simp [pairs,hk.eval h1,kL hk (i+1) h2]
theorem oy {w : World} {vs : List Value} {m : Nat} (hu : P.underlying t=some (.slice e)) (hi : EI P e zv 1 by') (hz : zv.cells.size=1) (h1 : ∀ v ∈ vs,v.cells=#[v]) (hm : vs.length=m) (h0 : 0<m) (hsm : m≤16777216) :
    (Instr.buildSlice t m ((vs.zipIdx 0).map fun x=>(x.2,x.1)).toArray).run P w=.ok (.slice (some ⟨w.heap.size,0,none⟩) m m) { w with heap:=w.heap.push (.cells vs.toArray e (0,0)) }:=by
  have h3 : (underlying t).run P w=.ok (.slice e) w:=run_underlying hu w
  obtain ⟨i,h4,h5,_⟩:=hi.get
  have h6:=Great.fill_flat vs ((Array.range (m * 1)).map (zv.cells[· % zv.cells.size]!)) h1 (by simp [hm])
  have h9 : ¬ (16777216<m):=by omega
  have h10 : ¬ (m=0):=by omega
  have h11 : (zeroValue e).run P w=.ok zv w:=by simp [zeroValue,typeInfo,h4,h5]
  simp only [Nat.mul_one] at h6
  simp [Instr.buildSlice,Sem.run_bind,h3,aL hi.sz,h9,h10,h11,h6,newRow,newObj,Sem.run]
theorem JL.rO {xs : List Operand} {ps : Array (Nat × Operand)} {vs : List Value} {m : Nat} (hu : P.underlying t=some (.slice e)) (hi : EI P e zv 1 by') (hz : zv.cells.size=1) (hps : ps=(pairs 0 xs).toArray) (hx : eY E xs=some vs) (h1 : vs.all (fun v=>v.oneCell')=true) (h2 : ∀ v ∈ vs,v.cells=#[v]) (hm : vs.length=m) (h0 : 0<m) (hsm : m≤16777216) (hd : Nat.blt d n=true)
    (k : ∀ b,w0.heap.size≤b→JL P n w0 S ops Q l ((d,.slice (some ⟨b,0,none⟩) m m)::E) (⟨b,Row e vs,true⟩::M)) : JL P n w0 S ops Q (⟨some d,.buildSlice t m ps,ty,pos,aft,none⟩::l) E M:=
  ⟨fun a w ha hw=>wpList_plain rfl fun K hK=>by
    unfold Oper.wp
    have hm' : ps.map (fun (i,x)=>(i,a.eval x))=((vs.zipIdx 0).map fun x=>(x.2,x.1)).toArray:=by
      rw [hps,List.map_toArray,← kL ha 0 hx]
    simp only [execOp,hm',Sem.run_bind,oy hu hi hz h2 hm h0 hsm,Result.andThen_ok]
    exact hK _ _ ((k w.heap.size hw.aC.size).go _ _ (ha.put d _ hd) (hw.push _ rfl rfl rfl rfl rfl))⟩
end
end Sl
end
section
namespace Sl
section
variable {P : Program} {n : Nat} {w0 : World} {S : List Nat} {ops : Array Oper} {Q : Exit→Act→World→Prop} {l : List Oper} {E : Env} {M : List az} {C : World→Prop}
variable {dst : Option Tmp} {d b : Nat} {t t' e ty : TypeId} {pos : String} {aft : Array Edge} {g : Option (Nat × Bool)} {v zv : Value} {x y z : Operand} {by' : Nat}
theorem OQ.xh {a b : BitVec 8} (hx : ev E x=some (U8 a)) (hy : ev E y=some (U8 b)) : OQ P n E C ⟨dst,.binOp .or t x y t',ty,pos,aft,g⟩ (U8 (a ||| b)):=
  OQ.bin hx hy rfl fun _=>fP (k:=.u8) (show IntKind.u8.wrap ((BitVec.ofInt 8 (a.toNat : Int) ||| BitVec.ofInt 8 (b.toNat : Int)).toNat : Int)=_ by rw [gz,gz,rK])
theorem OQ.x8 {a b : BitVec 8} (hx : ev E x=some (U8 a)) (hy : ev E y=some (U8 b)) : OQ P n E C ⟨dst,.binOp .eql t x y t',ty,pos,aft,g⟩ (.bool (decide (a=b))):=by
  have:=OQ.x6 (P:=P) (n:=n) (C:=C) (dst:=dst) (ty:=ty) (t:=t) (t':=t') (pos:=pos) (aft:=aft) (g:=g) hx hy
  have h : decide ((a.toNat : Int)=b.toNat)=decide (a=b):=decide_eq_decide.2 ⟨fun h=>BitVec.eq_of_toNat_eq (by omega),fun h=>by rw [h]⟩
  rwa [h] at this
end
end Sl
end
section
namespace Sl
@[reducible] def I (a : Int) : Value:=.int .i64 a
section
variable {P : Program} {n : Nat} {E : Env} {C : World→Prop} {dst : Option Tmp} {ty t t' : TypeId} {pos : String} {aft : Array Edge} {g : Option (Nat × Bool)} {x y : Operand}
theorem OQ.wG {a b : Int} (hx : ev E x=some (I a)) (hy : ev E y=some (I b)) (h0 : -9223372036854775808≤a+b) (h : a+b<9223372036854775808) : OQ P n E C ⟨dst,.binOp .add t x y t',ty,pos,aft,g⟩ (I (a+b)):=
  OQ.bin hx hy rfl fun _=>fP (k:=.i64) (show IntKind.i64.wrap (a+b)=a+b from iK h0 h)
theorem OQ.xF {a b : Int} (hx : ev E x=some (I a)) (hy : ev E y=some (I b)) (h0 : -9223372036854775808≤a * b) (h : a * b<9223372036854775808) : OQ P n E C ⟨dst,.binOp .mul t x y t',ty,pos,aft,g⟩ (I (a * b)):=
  OQ.bin hx hy rfl fun _=>fP (k:=.i64) (show IntKind.i64.wrap (a * b)=a * b from iK h0 h)
theorem OQ.xG {a m : Int} {yk : IntKind} {k : Nat} (hm : (2 : Int) ^ k=m) (hk : k≤64) (hx : ev E x=some (I a)) (hy : ev E y=some (.int yk k)) : OQ P n E C ⟨dst,.binOp .shr t x y t',ty,pos,aft,g⟩ (I (a / m)):=
  OQ.bin hx hy rfl fun w=>by
    have h1 : a.fdiv (2 ^ (min k 64))=a / m:=by
      rw [Int.fdiv_eq_ediv_of_nonneg _ (by exact Int.le_of_lt (Int.pow_pos (by decide))),Nat.min_eq_left hk,hm]
    have h7 : Op.shift .shr .i64 a yk (k : Int)=(Pure.pure (.int .i64 (a.fdiv (2 ^ (min k 64)))) : Sem Value):=by
      unfold Op.shift
      rw [if_neg (by omega)];rfl
    show Sem.run P (Op.shift .shr .i64 a yk (k : Int)) w=_
    rw [h7,h1];rfl
theorem OQ.xH {a m r : Int} (k : Nat) (hk : k<63) (hm : (2 : Int) ^ k - 1=m) (hr : (2 : Int) ^ k=r) (hx : ev E x=some (I a)) (hy : ev E y=some (I m)) : OQ P n E C ⟨dst,.binOp .and t x y t',ty,pos,aft,g⟩ (I (a % r)):=
  OQ.bin hx hy rfl fun _=>fP (k:=.i64) (show IntKind.i64.wrap ((BitVec.ofInt 64 a &&& BitVec.ofInt 64 m).toNat : Int)=a % r from by
    have p1 : 2 ^ k<2 ^ 63:=Nat.pow_lt_pow_right (by omega) hk
    have p0 : 0<2 ^ k:=Nat.pow_pos (by omega)
    have e0 : m=((2 ^ k - 1 : Nat) : Int):=by
      rw [← hm,Int.natCast_sub p0]
      simp
    have e1 : BitVec.ofInt 64 m=BitVec.ofNat 64 (2 ^ k - 1):=by rw [e0];simp only [BitVec.ofInt_natCast]
    have e2 : ((BitVec.ofInt 64 a &&& BitVec.ofNat 64 (2 ^ k - 1)).toNat : Int)=a % r:=by
      rw [BitVec.toNat_and,BitVec.toNat_ofNat,Nat.mod_eq_of_lt (by omega),Nat.and_two_pow_sub_one_eq_mod,BitVec.toNat_ofInt,← hr]
      have q : (0 : Int)≤a % (2 ^ 64 : Nat):=Int.emod_nonneg _ (by decide)
      rw [Int.natCast_emod,Int.toNat_of_nonneg q,Int.natCast_pow]
      exact Int.emod_emod_of_dvd a (by
        obtain ⟨j,hj⟩ : ∃ j,64=k+j:=⟨64 - k,by omega⟩
        rw [Int.natCast_pow,hj,Int.pow_add]
        exact Int.dvd_mul_right _ _)
    rw [e1,e2]
    have q0 : 0≤a % r:=Int.emod_nonneg _ (by rw [← hr];have:=Int.pow_pos (n:=2) (m:=k) (by decide);omega)
    have q1 : a % r<r:=Int.emod_lt_of_pos _ (by rw [← hr];exact Int.pow_pos (by decide))
    have q2 : r=((2 ^ k : Nat) : Int):=by rw [← hr];simp
    exact iK (by omega) (by omega))
theorem OQ.xI {a b : BitVec 8} (hx : ev E x=some (U8 a)) (hy : ev E y=some (U8 b)) : OQ P n E C ⟨dst,.binOp .add t x y t',ty,pos,aft,g⟩ (U8 (a+b)):=
  OQ.bin hx hy rfl fun _=>fP (k:=.u8) (show IntKind.u8.wrap ((a.toNat : Int)+b.toNat)=_ by rw [← Int.natCast_add,rJ,BitVec.toNat_add])
end
end Sl
end
section
namespace Sl
section
variable {P : Program} {n : Nat} {E : Env} {C : World→Prop} {dst : Option Tmp} {ty t t' : TypeId} {pos : String} {aft : Array Edge} {g : Option (Nat × Bool)} {x y z : Operand}
structure x9 (P : Program) (f : FuncId) : Prop where
  go : ∃ fn,P.funcs[f]?=some fn∧(fn.name == "runtime.NumGoroutine")=false∧fn.body.isNone=true∧Extern.findNext fn=none∧Extern.find fn=some add64Entry
end
end Sl
end
section
open Sl
def cM (l : List Bt) : ByteArray:=⟨(l.map UInt8.ofBitVec).toArray⟩
@[reducible] def Z (l : List Bt) : Value:=.string (cM l)
theorem cY (l : List Bt) : (cM l).size=l.length:=by
  show (l.map UInt8.ofBitVec).toArray.size=l.length
  simp
theorem lM (l : List Bt) : bytesOf (cM l)=l:=by
  show ((l.map UInt8.ofBitVec).toArray.toList).map UInt8.toBitVec=l
  simp [Function.comp_def]
theorem lN (s : ByteArray) : cM (bytesOf s)=s:=by
  apply ByteArray.ext
  show ((s.data.toList.map UInt8.toBitVec).map UInt8.ofBitVec).toArray=s.data
  simp [Function.comp_def]
theorem mM (l r : List Bt) : cM l++cM r=cM (l++r):=by
  apply ByteArray.ext
  rw [ByteArray.data_append]
  show (l.map UInt8.ofBitVec).toArray++(r.map UInt8.ofBitVec).toArray=((l++r).map UInt8.ofBitVec).toArray
  simp
theorem uj (l r : List Bt) : ((cM l).toList == (cM r).toList)=decide (l=r):=by
  rw [ByteArray.toList_eq,ByteArray.toList_eq]
  show ((l.map UInt8.ofBitVec).toArray.toList == (r.map UInt8.ofBitVec).toArray.toList)=_
  rw [List.toList_toArray,List.toList_toArray]
  exact uf l r
section
variable {P : Program} {n : Nat} {E : Env} {C : World→Prop} {dst : Option Tmp} {ty t t' e : TypeId} {pos : String} {aft : Array Edge} {g : Option (Nat × Bool)} {x y : Operand} {l r : List Bt}
theorem OQ.jf (hu : P.underlying t=some .string) (hx : ev E x=some (Z l)) : OQ P n E C ⟨dst,.call ⟨.builtin .len,#[x],#[t]⟩,ty,pos,aft,g⟩ (N l.length):=
  cY l ▸ OQ.xD hu hx
theorem OQ.wH {k : IntKind} {i : Nat} (hu : P.underlying t=some .string) (hx : ev E x=some (Z l)) (hy : ev E y=some (.int k i)) (hi : i<l.length) : OQ P n E C ⟨dst,.index t x y,ty,pos,aft,g⟩ (U8 (l.getD i 0)):=
  OQ.run fun a ha w _=>by
    have h1:=ha.eval hx
    have h2:=ha.eval hy
    have h3 : (underlying t).run P w=.ok .string w:=run_underlying hu w
    have h4 : (cM l)[i]?=some (UInt8.ofBitVec (l.getD i 0)):=by
      have hs : i<(cM l).size:=by rw [cY];exact hi
      rw [getElem?_pos (cM l) i hs]
      show some (((l.map UInt8.ofBitVec).toArray)[i]'(by simpa using hi))=_
      rw [List.getElem_toArray,List.getElem_map,List.getD_eq_getElem?_getD,List.getElem?_eq_getElem hi];rfl
    simp [execOp,h1,h2,Instr.index,asIntOf,Sem.run_bind,h3,h4]
theorem OQ.xJ (hx : ev E x=some (Z l)) (hy : ev E y=some (Z r)) : OQ P n E C ⟨dst,.binOp .eql t x y t',ty,pos,aft,g⟩ (.bool (decide (l=r))):=
  OQ.run fun a ha w _=>by
    have h1:=ha.eval hx
    have h2:=ha.eval hy
    simp [execOp,h1,h2,eqGuard,binOp,Op.stringOp,uj]
theorem OQ.wI (hx : ev E x=some (Z l)) (hy : ev E y=some (Z r)) (h : l=r) : OQ P n E C ⟨dst,.binOp .eql t x y t',ty,pos,aft,g⟩ (.bool true):=
  (decide_eq_true h : decide (l=r)=true) ▸ OQ.xJ hx hy
theorem OQ.uk (hx : ev E x=some (Z l)) (hy : ev E y=some (Z r)) (h : l.length+r.length<9223372036854775808) : OQ P n E C ⟨dst,.binOp .add t x y t',ty,pos,aft,g⟩ (Z (l++r)):=
  OQ.run fun a ha w _=>by
    have h1:=ha.eval hx
    have h2:=ha.eval hy
    have h3 : ¬ ((((cM l).size+(cM r).size : Nat) : Int)>IntKind.i64.max):=by
      rw [cY,cY,show IntKind.i64.max=9223372036854775807 from rfl]
      omega
    have h4 : (Op.stringOp .add (cM l) (cM r)).run P w=.ok (Z (l++r)) w:=by
      unfold Op.stringOp
      simp only
      rw [if_neg h3,mM];rfl
    simp [execOp,h1,h2,eqGuard,binOp,h4,Sem.run_bind]
end
theorem mN : ∀ (l : List Bt) (s : ByteArray),(l.map fun b=>(b.toNat : Int)).foldl (fun r n=>r.push (UInt8.ofNat n.toNat)) s=s++cM l
  | [],s=>by
    apply ByteArray.ext
    rw [ByteArray.data_append]
    show s.data=s.data++#[]
    simp
  | b::l,s=>by
    rw [List.map_cons,List.foldl_cons,mN l]
    apply ByteArray.ext
    rw [ByteArray.data_append,ByteArray.data_append,ByteArray.data_push]
    have e : UInt8.ofNat ((b.toNat : Int)).toNat=UInt8.ofBitVec b:=by
      apply UInt8.toNat_inj.1
      simp
    rw [e]
    show s.data.push (UInt8.ofBitVec b)++(l.map UInt8.ofBitVec).toArray=s.data++((b::l).map UInt8.ofBitVec).toArray
    simp
theorem jg {P : Program} {w : World} {ad : Addr} {cs : List Value} (h : Reads w (some ad) cs) : (loadCells ad cs.length).run P w=.ok cs.toArray w:=by
  refine run_loadCells_list (P:=P) w ad cs fun i v hv=>?_
  obtain ⟨b,j,h1,h2⟩:=h i v hv
  cases h1
  rw [bh];exact h2
section
variable {P : Program} {n : Nat} {E : Env} {w0 : World} {S : List Nat} {M : List az} {dst : Option Tmp} {ty t t' e : TypeId} {pos : String} {aft : Array Edge} {g : Option (Nat × Bool)} {x : Operand}
theorem OQ.wJ {s : aq} (hs : P.underlying t=some (.slice e)) (he : P.underlying e=some (.int .u8)) (hd : P.underlying t'=some .string) (hx : ev E x=some s.v) (hr : ∀ w,aa w0 S M w→s.ok w) :
    OQ P n E (aa w0 S M) ⟨dst,.convert t t' x,ty,pos,aft,g⟩ (Z s.l):=
  OQ.run fun a ha w hw=>by
    have h1:=ha.eval hx
    have ok:=(hr w hw).reads
    have h2 : (convert t t' s.v).run P w=.ok (Z s.l) w:=by
      obtain ⟨ad,cap,l⟩:=s
      show (convert t t' (.slice ad l.length cap)).run P w=_
      rw [run_convert_bytes_string w t t' e ad l.length cap hs he hd]
      cases ad with
      | none=>
        have : l=[]:=by
          cases l with
          | nil=>rfl
          | cons b l=>
            obtain ⟨_,_,h,_⟩:=ok 0 (U8 b) rfl
            cases h
        subst this
        rfl
      | some ad=>
        have h3 : (loadCells ad l.length).run P w=.ok ((l.map fun b=>(b.toNat : Int)).map (Value.int .u8)).toArray w:=by
          have:=jg (P:=P) ok
          rw [List.length_map] at this
          rw [this,List.map_map];rfl
        rw [run_bytesToString w ad l.length cap _ h3,mN]
        have : ByteArray.empty++cM l=cM l:=by
          apply ByteArray.ext
          rw [ByteArray.data_append]
          show #[]++(cM l).data=_
          simp
        rw [this]
    simp only [execOp,h1,Sem.run_bind,h2,Result.andThen_ok];rfl
end
structure xj (x : aq) (l : List Bt) : Prop where
  val : x.l=l
  none : x.ad=.none→x.l=[]
theorem qo (A M : List az) : aA M (A++M):=by
  induction A with
  | nil=>exact aA.refl _
  | cons e A ih=>exact .drop _ _ _ ih
theorem xj.ok {x : aq} {l : List Bt} {w0 w : World} {S : List Nat} {M : List az} (h : xj x l) (hw : aa w0 S (x.qn++M) w) : x.ok w:=aq.pQ hw h.none
theorem xj.rP {x : aq} {l : List Bt} {w0 w : World} {S : List Nat} {A M : List az} (h : xj x l) (hw : aa w0 S (A++(x.qn++M)) w) : x.ok w:=h.ok (hw.weak (qo _ _))
end
section
open Sl
theorem jl.over {w0 w1 w2 : World} {S : List Nat} (h1 : Ext w0 w1) (h2 : jl S w1 w2) (hS : ∀ b ∈ S,w0.heap.size≤b) : Ext w0 w2:=
  ⟨h2.os.trans h1.os,h2.tape.trans h1.tape,h2.output.trans h1.output,Nat.le_trans h1.size h2.size,
   fun k hk hk'=>(h2.block k (Nat.lt_of_lt_of_le hk h1.size) (fun h=>by have:=hS k h;omega)).trans (h1.block k hk hk')⟩
theorem JL.vh {P : Program} {n : Nat} {w0 : World} {S S' : List Nat} {ops : Array Oper} {Q : Exit→Act→World→Prop} {l : List Oper} {E : Env} {M : List az} {d : Nat} {ty : TypeId} {pos : String} {aft : Array Edge} {ι : Type} (vf : ι→Value) (F : ι→World→Prop) (M' : List az)
    {f : FuncId} {xs : List Operand} {ats : Array TypeId} {vs : List Value} (hg : aR P f) (hx : eY E xs=some vs) (hd : Nat.blt d n=true)
    (hc : ∀ w1,aa w0 S M w1→Calls P f vs.toArray w1 fun e w2=>∃ i,e=.returned (vf i)∧Ext w1 w2∧F i w2)
    (hM : aA M' M) (hS : ∀ e ∈ M',e.wr=true→e.b ∈ S')
    (k : ∀ i w1,aa w0 S M w1→F i w1→JL P n w1 S' ops Q l ((d,vf i)::E) M') : JL P n w0 S ops Q (⟨some d,.call ⟨.value (.func f),xs.toArray,ats⟩,ty,pos,aft,none⟩::l) E M:=
  ⟨fun a w ha hw=>wpList_plain rfl fun K hK=>by
    unfold Oper.wp
    rw [ek hg ha hx w]
    exact (hc w hw).mono fun e w' ⟨i,h1,h2,h3⟩=>by
      subst h1
      have hw':=hw.ext h2
      have hm:=hw'.weak hM
      exact hK _ _ ((k i w' hw' h3).go _ _ (ha.put d _ hd) ⟨jl.refl _ _,hm.nodup,fun e he=>⟨(hm.all e he).1,fun hr=>.inl (hS e he hr)⟩⟩)⟩
theorem dG {B B' : List az} (h : aA B' B) : ∀ A : List az,aA (A++B') (A++B)
  | []=>h
  | ⟨_,_,_⟩::A=>.keep _ _ _ _ _ _ (fun _ h=>h) (dG h A)
theorem JE.perm {n : Nat} {w0 : World} {S : List Nat} {Q : Exit→Act→World→Prop} {e : Exit} {E : Env} {M M' : List az} (hp : M.Perm M') (h : JE n w0 S Q e E M') : JE n w0 S Q e E M:=
  ⟨fun a w ha hw=>h.go a w ha ⟨hw.aC,(hp.map az.b).nodup_iff.1 hw.nodup,fun e he=>hw.all e (hp.mem_iff.2 he)⟩⟩
structure gr where
  ad : Option Addr
  cap : Nat
  rs : List aq
def gr.v (s : gr) : Value:=.slice s.ad s.rs.length s.cap
def gr.ls (s : gr) : List (List Bt):=s.rs.map aq.l
structure gr.ok (w : World) (s : gr) : Prop where
  len : s.rs.length≤s.cap
  reads : Reads w s.ad (s.rs.map aq.v)
  all : ∀ y ∈ s.rs,y.ok w
theorem Sl.aa.base {w0 w1 w2 : World} {M : List az} (h1 : Ext w0 w1) (h : aa w1 [] M w2) : aa w0 [] M w2:=
  ⟨jl.over h1 h.aC (by simp),h.nodup,fun e he=>⟨(h.all e he).1,fun hr=>.inr (((h.all e he).2 hr).elim (fun h=>by simp at h) (fun h=>Nat.le_trans h1.size h))⟩⟩
theorem wK (l : List Bt) : ∀ v ∈ l.map U8,v.oneCell'=true:=by
  intro v hv
  obtain ⟨x,_,rfl⟩:=List.mem_map.1 hv
  rfl
theorem JE.wL {P : Program} {fn : Func} {R : Ending→World→Prop} {n : Nat} {w0 : World} {S : List Nat} {E : Env} {M : List az} {r1 r2 r3 : ResultVar} {v1 v2 v3 : Value} (hr : fn.results=#[r1,r2,r3]) (h1 : RV P n w0 S E M r1 v1) (h2 : RV P n w0 S E M r2 v2) (h3 : RV P n w0 S E M r3 v3) (hR : ∀ w,aa w0 S M w→R (.returned (.tuple #[v1,v2,v3])) w) : JE n w0 S (bodyPost P fn R) .ret E M:=by
  refine ⟨fun a w ha hw=>?_⟩
  refine ⟨ha.defers,.tuple #[v1,v2,v3],?_,hR w hw⟩
  have e1:=h1 a w ha hw
  have e2:=h2 a w ha hw
  have e3:=h3 a w ha hw
  rw [dH,hr]
  simp [Sem.run_bind,e1,e2,e3]
theorem gr.ok.holds {w0 w : World} {S : List Nat} {M : List az} {s : gr} (h : s.ok w0) (hw : aa w0 S M w) (hS : S=[]) : s.ok w:=⟨h.len,hw.reads h.reads (fun _ a _=>by rw [hS];simp),fun y hy=>(h.all y hy).holds hw hS⟩
section
variable {P : Program} {n : Nat} {E : Env} {C : World→Prop} {dst : Option Tmp} {ty t t' : TypeId} {pos : String} {aft : Array Edge} {g : Option (Nat × Bool)} {x y : Operand}
end
end
section
namespace Sl
section
variable {P : Program} {t tx e : TypeId}
theorem e8 (l : List Bt) : Go.byteCells (cM l)=l.map U8:=by
  unfold Go.byteCells cM
  simp [U8,Function.comp_def]
theorem iu (w : World) (ty : TypeId) (i : TypeInfo) (ht : P.underlying t=some (.slice e)) (hi : P.info? e=some i)
    (g sLen sCap : Nat) (x : Value) (m : Nat) (news : List Value) (hs : Src P i.size tx x m news w) (cur : Array Value) (hg : w.heap[g]?=some (.cells cur e (0,0)))
    (hroom : sLen+m≤sCap) (hfit : sLen * i.size+news.length≤cur.size) :
    (Builtin.append_ #[t,tx] ty #[.slice (some ⟨g,0,none⟩) sLen sCap,x]).run P w =
      .ok (.slice (some ⟨g,0,none⟩) (sLen+m) sCap) (w.setRow g (cur.toList.take (sLen * i.size)++news++cur.toList.drop (sLen * i.size+news.length)).toArray):=by
  have hst:=run_storeCells_at P g (sLen * i.size) e news 0 cur w hg (by simpa using hfit) hs.one
  simp only [Nat.add_zero] at hst
  rcases hs.kind with ⟨e',hk⟩ | hk <;> simp [Builtin.append_,run_underlying ht,run_underlying hk,sizeOf,typeInfo,hi,hs.len,hroom,hs.cells,Addr.add_lit] at hst ⊢ <;> simp [hst]
variable {n : Nat} {w0 : World} {S : List Nat} {ops : Array Oper} {Q : Exit→Act→World→Prop} {l : List Oper} {E : Env} {M : List az} {d b : Nat} {ty : TypeId} {pos : String} {aft : Array Edge} {x y : Operand}
theorem JL.um {k cap : Nat} {xs : List Value} {r : List Bt} (M' : Nat→Nat→List az) (hu : P.underlying t=some (.slice e)) (hk : P.underlying tx=some .string) (hi : EI P e (.int .u8 0) 1 1) (hx : ev E x=some (.slice (some ⟨b,0,none⟩) k cap)) (hy : ev E y=some (Z r))
    (hup : ∀ b' cap',dI M b (Sl.Own e 1 k cap xs) b' (Sl.Own e 1 (k+r.length) cap' (xs++r.map U8)) (M' b' cap'))
    (hsm : (k+r.length)≤140737488355328) (hd : Nat.blt d n=true)
    (kk : ∀ b' cap',JL P n w0 S ops Q l ((d,.slice (some ⟨b',0,none⟩) (k+r.length) cap')::E) (M' b' cap')) : JL P n w0 S ops Q (⟨some d,.call ⟨.builtin .append,#[x,y],#[t,tx]⟩,ty,pos,aft,none⟩::l) E M:=
  ⟨fun a w ha hw=>wpList_plain rfl fun K hK=>by
    obtain ⟨i,hi1,hi2,hi3,hi4⟩:=hi.get
    obtain ⟨o,ho,sp,rfl,hc1,hc2,hc3⟩:=hw.get (hup 0 0).has
    have hsrc : Src P i.size tx (Z r) r.length (r.map U8) w:=by
      have:=Src.ofString (P:=P) w hk (cM r)
      rw [e8,cY] at this
      rw [hi3];exact this
    unfold Oper.wp
    simp only [execOp,resolve,invoke,builtin,Sem.run_bind,Sem.run_pure,Result.andThen_ok,List.map_toArray,List.map_cons,List.map_nil,ha.eval hx,ha.eval hy]
    by_cases hroom : k+r.length≤cap
    · have hfit : k * i.size+(r.map U8).length≤(xs++sp).toArray.size:=by
        rw [List.size_toArray,hc1,hi3,List.length_map];omega
      rw [iu w ty i hu hi1 b k cap (Z r) r.length (r.map U8) hsrc (xs++sp).toArray ho hroom hfit]
      refine hK _ _ ((kk b cap).go _ _ (ha.put d _ hd) (hw.write (hup b cap).xB (o':=.cells ((xs++sp).take (k * i.size)++r.map U8++(xs++sp).drop (k * i.size+(r.map U8).length)).toArray e (0,0)) ?_ (setRow_heap w b _ _ e _ ho) (by simp) (fun q hq=>setRow_other w b q _ hq) rfl rfl rfl))
      rw [hi3,← hc2,List.take_left]
      refine ⟨(xs++sp).drop (xs.length+(r.map U8).length),rfl,?_,by rw [List.length_append,hc2,List.length_map,Nat.add_mul,Nat.mul_one r.length],hroom⟩
      simp only [List.size_toArray] at hfit
      simp only [List.length_append,List.length_drop,List.length_map] at hfit hc1 ⊢
      rw [hi3] at hfit
      omega
    · have hold : ∀ u v,xs[u]?=some v→w.cell? ((⟨b,0,none⟩ : Addr).add u)=some v:=fun u v hv=>by
        rw [bh]
        have hu' : u<xs.length:=(List.getElem?_eq_some_iff.1 hv).1
        exact cell_of ho (by simpa [cellAt,List.getElem?_append_left hu'] using hv)
      have hfit:=growslice_fits (need:=k+r.length) (old:=cap) (bytes:=1) (by omega) (by omega)
      have hfo:=run_firstCells_some (P:=P) w.drew i.size k ⟨b,0,none⟩ k cap xs (by rw [hc2,hi3]) (by simpa using hold)
      rw [run_append_grow_src w t tx ty e i (.int .u8 0) hu hi1 hi2 (some ⟨b,0,none⟩) k cap xs hfo (Z r) r.length (r.map U8) hsrc (by omega) (by omega) (by rw [hi4];exact hfit)]
      have hge:=grownCap_ge w (k+r.length) cap e
      generalize grownCap w (k+r.length) cap e=nc at hge
      refine hK _ _ ((kk w.heap.size nc).go _ _ (ha.put d _ hd) (hw.renew (.cells ((xs++r.map U8).toArray++Builtin.zeroCells (Value.int .u8 0).cells (nc - (k+r.length))) e) (hup _ _) ?_ rfl rfl rfl rfl))
      have h8 : (Builtin.zeroCells (Value.int .u8 0).cells (nc - (k+r.length))).size=(nc - (k+r.length)):=by
        rw [show (Value.int .u8 0).cells=#[Value.int .u8 0] from rfl];simp [Builtin.zeroCells]
      refine ⟨(Builtin.zeroCells (Value.int .u8 0).cells (nc - (k+r.length))).toList,by simp,?_,by rw [List.length_append,hc2,List.length_map,Nat.add_mul,Nat.mul_one r.length],hge⟩
      simp only [List.length_append,Array.length_toList,h8,hc2,List.length_map]
      omega⟩
end
end Sl
end
section
namespace Sl
section
variable {P : Program} {n : Nat} {E : Env} {C : World→Prop} {dst : Option Tmp} {t t' ty : TypeId} {pos : String} {aft : Array Edge} {g : Option (Nat × Bool)} {x y : Operand} {c : Bool}
theorem OQ.kz {k : IntKind} {a b : Int} (hx : ev E x=some (.int k a)) (hy : ev E y=some (.int k b)) (h : decide (a<b)=c) : OQ P n E C ⟨dst,.binOp .lss t x y t',ty,pos,aft,g⟩ (.bool c):=OQ.bin hx hy rfl fun _=>by cases k <;> exact fV h
theorem OQ.rQ {k : IntKind} {a b : Int} (hx : ev E x=some (.int k a)) (hy : ev E y=some (.int k b)) (h : decide (a≤b)=c) : OQ P n E C ⟨dst,.binOp .leq t x y t',ty,pos,aft,g⟩ (.bool c):=OQ.bin hx hy rfl fun _=>by cases k <;> exact fV h
theorem OQ.eo {k : IntKind} {a b : Int} (hx : ev E x=some (.int k a)) (hy : ev E y=some (.int k b)) (h : decide (b<a)=c) : OQ P n E C ⟨dst,.binOp .gtr t x y t',ty,pos,aft,g⟩ (.bool c):=OQ.bin hx hy rfl fun _=>by cases k <;> exact fV h
theorem OQ.gE {k : IntKind} {a b : Int} (hx : ev E x=some (.int k a)) (hy : ev E y=some (.int k b)) (h : decide (b≤a)=c) : OQ P n E C ⟨dst,.binOp .geq t x y t',ty,pos,aft,g⟩ (.bool c):=OQ.bin hx hy rfl fun _=>by cases k <;> exact fV h
theorem OQ.aU {k : IntKind} {a b : Int} (hx : ev E x=some (.int k a)) (hy : ev E y=some (.int k b)) (h : decide (a=b)=c) : OQ P n E C ⟨dst,.binOp .eql t x y t',ty,pos,aft,g⟩ (.bool c):=h ▸ OQ.x6 hx hy
theorem OQ.xK {k : IntKind} {a b : Int} (hx : ev E x=some (.int k a)) (hy : ev E y=some (.int k b)) (h : decide (a=b)=c) : OQ P n E C ⟨dst,.binOp .neq t x y t',ty,pos,aft,g⟩ (.bool (!c)):=by
  have:=OQ.xu (P:=P) (n:=n) (C:=C) (dst:=dst) (ty:=ty) (t:=t) (t':=t') (pos:=pos) (aft:=aft) (g:=g) hx hy
  rw [h] at this
  exact this
theorem OQ.vE {a b : BitVec 8} (hx : ev E x=some (U8 a)) (hy : ev E y=some (U8 b)) (h : decide (a=b)=c) : OQ P n E C ⟨dst,.binOp .neq t x y t',ty,pos,aft,g⟩ (.bool (!c)):=by
  have:=OQ.x7 (P:=P) (n:=n) (C:=C) (dst:=dst) (ty:=ty) (t:=t) (t':=t') (pos:=pos) (aft:=aft) (g:=g) hx hy
  rw [h] at this
  exact this
theorem OQ.fR {w0 : World} {S : List Nat} {M : List az} {f : FuncId} {xs : List Operand} {ats : Array TypeId} {vs : List Value} {b : Bool} (hg : aR P f) (hx : eY E xs=some vs) (hc : ∀ w,Calls P f vs.toArray w fun e w'=>e=.returned (.bool b)∧Ext w w') (h : b=c) :
    OQ P n E (aa w0 S M) ⟨dst,.call ⟨.value (.func f),xs.toArray,ats⟩,ty,pos,aft,g⟩ (.bool c):=h ▸ OQ.aB hg hx fun w _=>hc w
end
theorem JC.bG {P : Program} {n : Nat} {w0 : World} {S : List Nat} {Q Q' : Exit→Act→World→Prop} {E : Env} {M : List az} {ι : Type} {id : Nat} (Ei : ι→Env) (Mi : ι→List az) (I : ι→Prop) {p q : Code} (h : JC P n w0 S (Exit.inBlock id (Exit.then (fun a' w'=>∃ i,I i∧aE n (Ei i) a'∧aa w0 S (Mi i) w') Q)) p E M)
    (k : ∀ i,I i→JC P n w0 S Q' q (Ei i) (Mi i)) : JC P n w0 S (Exit.inBlock id (Exit.then (q.wp P Q') Q)) p E M:=
  ⟨fun a w ha hw=>wp_mono (h.go a w ha hw) fun e a' w' he=>by
    cases e with
    | normal=>obtain ⟨i,hi,h1,h2⟩:=he;exact (k i hi).go a' w' h1 h2
    | exit id'=>
      by_cases hid : id'=id
      · subst hid
        have he : (if id'=id' then (Exit.then (fun a' w'=>∃ i,I i∧aE n (Ei i) a'∧aa w0 S (Mi i) w') Q) .normal a' w' else _):=he
        rw [if_pos rfl] at he
        obtain ⟨i,hi,h1,h2⟩:=he
        show (if id'=id' then _ else _)
        rw [if_pos rfl]
        exact (k i hi).go a' w' h1 h2
      · have he : (if id'=id then _ else (Exit.then _ Q) (.exit id') a' w'):=he
        rw [if_neg hid] at he
        show (if id'=id then _ else _)
        rw [if_neg hid]
        exact he
    | goto _=>exact he
    | ret=>exact he
    | panic _=>exact he
    | outgrown=>exact he⟩
theorem rR {α : Type} (p : α→Bool) (l : List α) (d : α) {i : Nat} (h : i<l.length) : (l.take (i+1)).all p=((l.take i).all p && p (l.getD i d)):=by
  rw [List.take_add_one,List.getD_eq_getElem?_getD,List.getElem?_eq_getElem h,List.all_append]
  simp only [Option.toList_some,Option.getD_some,List.all_cons,List.all_nil,Bool.and_true]
theorem uo {α : Type} (p : α→Bool) (l : List α) (d : α) {i : Nat} (h : i<l.length) (hb : p (l.getD i d)=false) : l.all p=false:=by
  rw [List.all_eq_false]
  refine ⟨l.getD i d,?_,by rw [hb];decide⟩
  rw [List.getD_eq_getElem?_getD,List.getElem?_eq_getElem h]
  exact List.getElem_mem h
end Sl
end
section
open Sl
abbrev Acc:=Option (Nat × Nat)
def ak (q : Acc) (k : Nat) : Value:=match q with
  | none=>.slice none 0 0
  | some p=>.slice (some ⟨p.1,0,none⟩) k p.2
def an (e : TypeId) (q : Acc) (xs : List Value) : List az:=match q with
  | none=>[]
  | some p=>[⟨p.1,Sl.Own e 1 xs.length p.2 xs,true⟩]
def eH (q : Acc) (l : List Bt) : aq:=match q with
  | none=>eG
  | some p=>⟨some ⟨p.1,0,none⟩,p.2,l⟩
theorem e9 (q : Acc) (l : List Bt) : (eH q l).v=ak q l.length:=by cases q <;> rfl
theorem eI {q : Acc} {l : List Bt} (h : q=none→l=[]) : (eH q l).l=l:=by
  cases q with
  | none=>exact (h rfl).symm
  | some p=>rfl
theorem fc {w0 w : World} {S : List Nat} {M : List az} {e : TypeId} {q : Acc} {l : List Bt} (hw : aa w0 S (an e q (l.map U8)++M) w) : (eH q l).ok w:=by
  cases q with
  | none=>exact jn w
  | some p=>
    have hw : aa w0 S (⟨p.1,Sl.Own e 1 (l.map U8).length p.2 (l.map U8),true⟩::M) w:=hw
    rw [List.length_map] at hw
    exact dy hw .here
theorem aT (e : TypeId) (q : Acc) (xs : List Value) : ∀ x ∈ an e q xs,x.wr=true:=by
  intro x hx
  cases q with
  | none=>cases hx
  | some p=>rw [List.mem_singleton.1 hx]
section
variable {P : Program} {n : Nat} {w0 : World} {S : List Nat} {ops : Array Oper} {Q : Exit→Act→World→Prop} {l : List Oper} {E : Env} {M : List az} {d : Nat} {t tx e ty : TypeId} {pos : String} {aft : Array Edge} {x y : Operand}
theorem JL.rS {i : TypeInfo} {ad : Option Addr} {sc : Nat} (hu : P.underlying t=some (.slice e)) (hi : P.info? e=some i) (hx : ev E x=some (.slice none 0 0)) (hy : ev E y=some (.slice ad 0 sc)) (hd : Nat.blt d n=true)
    (kk : JL P n w0 S ops Q l ((d,.slice none 0 0)::E) M) : JL P n w0 S ops Q (⟨some d,.call ⟨.builtin .append,#[x,y],#[t,t]⟩,ty,pos,aft,none⟩::l) E M:=
  ⟨fun a w ha hw=>wpList_plain rfl fun K hK=>by
    unfold Oper.wp
    simp only [execOp,resolve,invoke,builtin,Sem.run_bind,Sem.run_pure,Result.andThen_ok,List.map_toArray,List.map_cons,List.map_nil,ha.eval hx,ha.eval hy]
    rw [e6 (_t':=t) hu hi (Nat.le_refl 0)]
    exact hK _ _ (kk.go _ _ (ha.put d _ hd) hw)⟩
theorem JL.bS {z : Value} {by' m sc : Nat} {ad : Option Addr} {xs cs : List Value} (q : Acc) (hu : P.underlying t=some (.slice e)) (hi : EI P e z 1 by') (hq : q=none→xs=[]) (hx : ev E x=some (ak q xs.length)) (hy : ev E y=some (.slice ad m sc))
    (hl : cs.length=m) (hr : ∀ w,aa w0 S (an e q xs++M) w→Reads w ad cs) (h1 : ∀ v ∈ cs,v.oneCell'=true)
    (hzz : z.cells.size=1) (hsm : (xs.length+m) * by'≤140737488355328) (hsm2 : xs.length+m<9223372036854775808) (hd : Nat.blt d n=true)
    (kk : ∀ q' : Acc,(q'=none→xs++cs=[])→JL P n w0 S ops Q l ((d,ak q' (xs++cs).length)::E) (an e q' (xs++cs)++M)) : JL P n w0 S ops Q (⟨some d,.call ⟨.builtin .append,#[x,y],#[t,t]⟩,ty,pos,aft,none⟩::l) E (an e q xs++M):=by
  subst hl
  cases q with
  | none=>
    obtain rfl:=hq rfl
    cases cs with
    | nil=>
      obtain ⟨i,hi1,_⟩:=hi.get
      exact JL.rS hu hi1 hx hy hd (kk none fun _=>rfl)
    | cons c cs=>
      refine JL.append_nil (cs:=c::cs) hu hi hx hy (by rw [Nat.mul_one]) hr (by simp) hzz (by decide) (by simpa using hsm) (by simpa using hsm2) hd fun b' cap' _=>?_
      exact kk (some (b',cap')) (fun h=>by cases h)
  | some p=>
    have e1 : (xs++cs).length=xs.length+cs.length:=List.length_append
    refine JL.append (cs:=cs) (b:=p.1) (cap:=p.2) (xs:=xs) (fun b' cap'=>an e (some (b',cap')) (xs++cs)++M) hu hi hx hy (fun b' cap'=>?_) (by rw [Nat.mul_one]) hr h1 hzz (by decide) hsm hsm2 hd fun b' cap'=>?_
    · show dI (⟨p.1,Sl.Own e 1 xs.length p.2 xs,true⟩::M) _ _ _ _ (⟨b',Sl.Own e 1 (xs++cs).length cap' (xs++cs),true⟩::M)
      rw [e1]
      exact .here
    · have:=kk (some (b',cap')) (fun h=>by cases h)
      show JL P n w0 S ops Q l ((d,.slice (some ⟨b',0,none⟩) (xs.length+cs.length) cap')::E) _
      rw [← e1]
      exact this
theorem JL.lO {r : List Bt} {xs : List Value} (q : Acc) (hu : P.underlying t=some (.slice e)) (hk : P.underlying tx=some .string) (hi : EI P e (.int .u8 0) 1 1) (hq : q=none→xs=[]) (hx : ev E x=some (ak q xs.length)) (hy : ev E y=some (Z r)) (h0 : r≠[])
    (hsm : (xs.length+r.length)≤140737488355328) (hd : Nat.blt d n=true)
    (kk : ∀ p : Nat × Nat,JL P n w0 S ops Q l ((d,ak (some p) (xs++r.map U8).length)::E) (an e (some p) (xs++r.map U8)++M)) : JL P n w0 S ops Q (⟨some d,.call ⟨.builtin .append,#[x,y],#[t,tx]⟩,ty,pos,aft,none⟩::l) E (an e q xs++M):=by
  cases q with
  | none=>
    obtain rfl:=hq rfl
    refine ⟨fun a w ha hw=>wpList_plain rfl fun K hK=>?_⟩
    obtain ⟨i,hi1,hi2,hi3,hi4⟩:=hi.get
    have hpos : 0<r.length:=List.length_pos_iff.2 h0
    have hsrc : Src P i.size tx (Z r) r.length (r.map U8) w:=by
      have:=Src.ofString (P:=P) w hk (cM r)
      rw [e8,cY] at this
      rw [hi3];exact this
    simp only [List.length_nil,Nat.zero_add] at hsm
    have hx' : a.eval x=.slice none 0 0:=ha.eval hx
    unfold Oper.wp
    simp only [execOp,resolve,invoke,builtin,Sem.run_bind,Sem.run_pure,Result.andThen_ok,List.map_toArray,List.map_cons,List.map_nil,hx',ha.eval hy]
    have hfit:=growslice_fits (need:=r.length) (old:=0) (bytes:=1) (by omega) (by omega)
    have hfo : (Builtin.firstCells i.size 0 (.slice none 0 0)).run P w.drew=.ok ([] : List Value).toArray w.drew:=by simp [Builtin.firstCells]
    have hrun:=run_append_grow_src (P:=P) w t tx ty e i (.int .u8 0) hu hi1 hi2 none 0 0 [] hfo (Z r) r.length (r.map U8) hsrc (by omega) (by omega) (by rw [hi4,Nat.zero_add];exact hfit)
    rw [hrun]
    simp only [Nat.zero_add]
    have hge:=grownCap_ge w r.length 0 e
    generalize grownCap w r.length 0 e=nc at hge
    refine hK _ _ ?_
    have k:=kk (w.heap.size,nc)
    have e1 : ([]++r.map U8 : List Value).length=r.length:=by simp
    refine JL.go (E:=(d,ak (some (w.heap.size,nc)) r.length)::E) ?_ _ _ (ha.put d _ hd) (aa.push hw (.cells (([]++r.map U8 : List Value).toArray++Builtin.zeroCells (Value.int .u8 0).cells (nc - r.length)) e) (A:=Sl.Own e 1 r.length nc (r.map U8)) ?_ ?_ rfl rfl rfl)
    · rw [e1] at k
      have k2 : an e (some (w.heap.size,nc)) ([]++r.map U8)++M=⟨w.heap.size,Sl.Own e 1 r.length nc (r.map U8),true⟩::M:=by
        show ⟨w.heap.size,Sl.Own e 1 ([]++r.map U8 : List Value).length nc ([]++r.map U8),true⟩::M=_
        rw [e1,List.nil_append]
      rw [k2] at k
      exact k
    · have h8 : (Builtin.zeroCells (Value.int .u8 0).cells (nc - r.length)).size=nc - r.length:=by
        rw [show (Value.int .u8 0).cells=#[Value.int .u8 0] from rfl];simp [Builtin.zeroCells]
      refine ⟨(Builtin.zeroCells (Value.int .u8 0).cells (nc - r.length)).toList,by simp,?_,by simp,hge⟩
      simp only [List.length_append,Array.length_toList,h8,List.length_map]
      omega
    · rfl
  | some p=>
    have e1 : (xs++r.map U8).length=xs.length+r.length:=by simp
    refine JL.um (b:=p.1) (cap:=p.2) (k:=xs.length) (xs:=xs) (fun b' cap'=>an e (some (b',cap')) (xs++r.map U8)++M) hu hk hi hx hy (fun b' cap'=>?_) hsm hd fun b' cap'=>?_
    · show dI (⟨p.1,Sl.Own e 1 xs.length p.2 xs,true⟩::M) _ _ _ _ (⟨b',Sl.Own e 1 (xs++r.map U8).length cap' (xs++r.map U8),true⟩::M)
      rw [e1]
      exact .here
    · have:=kk (b',cap')
      rw [e1] at this
      exact this
end
end
section
set_option maxRecDepth 10000
open Sl
theorem jG : aR Tryd.prog 69:=⟨_,Tryd.func69,rfl,by kernel_rfl⟩
theorem rT : aR Tryd.prog 79:=⟨_,Tryd.func79,rfl,by kernel_rfl⟩
theorem gF : aR Tryd.prog 74:=⟨_,Tryd.func74,rfl,by kernel_rfl⟩
def preB (s d : List Bt) : Bool:=decide ((d.length : Int)≤(s.length : Int)) && decide (s.take d.length=d)
def uq (s d : List Bt) : Bool:=decide ((d.length : Int)≤(s.length : Int)) && decide (s.drop (s.length - d.length)=d)
theorem OQ.isNil {P : Program} {n : Nat} {E : Env} {C : World→Prop} {dst : Option Tmp} {t t' ty e : TypeId} {pos : String} {aft : Array Edge} {g : Option (Nat × Bool)} {x y : Operand} {ad : Option Addr} {k cap : Nat} (hu : P.underlying t=some (.slice e)) (hx : ev E x=some (.slice ad k cap)) (hy : ev E y=some (.slice none 0 0)) :
    OQ P n E C ⟨dst,.binOp .eql t x y t',ty,pos,aft,g⟩ (.bool ad.isNone):=
  OQ.run fun c ha w _=>by
    have h1:=ha.eval hx
    have h2:=ha.eval hy
    have h4 : (binOp .eql t (.slice ad k cap) (.slice none 0 0)).run P w=.ok (.bool ad.isNone) w:=by
      show (do pure (.bool (← Op.equal t (.slice ad k cap) (.slice none 0 0))) : Sem Value).run P w=_
      simp [Sem.run_bind,run_equal_slice_nil w t e ad k cap hu]
    simp [execOp,h1,h2,eqGuard,h4]
set_option maxHeartbeats 2000000 in
theorem kM (a b : aq) (w : World) (ha : a.ok w) (hb : b.ok w) : Calls Tryd.prog 69 [a.v,b.v].toArray w fun e w'=>e=.returned (.bool (decide (a.l=b.l)))∧Ext w w':=by
  refine enter (n:=10) Tryd.func69 rfl rfl rfl (aa.start w []) ?_
  repeat (first | refine JL.q (by first|(apply OQ.wJ (s:=a);exact Tryd.underlying22;exact Tryd.underlying5;exact Tryd.underlying9;rfl;exact (fun w' hw'=>ha.holds hw' rfl))|(apply OQ.wJ (s:=b);exact Tryd.underlying22;exact Tryd.underlying5;exact Tryd.underlying9;rfl;exact (fun w' hw'=>hb.holds hw' rfl))|(apply OQ.xJ;rfl;rfl)|(apply OQ.move;rfl)|(apply OQ.assign;rfl)) rfl ?_ | refine JC.seq ?_ | refine JC.region ?_ | refine JL.nil ?_ | refine JE.next ?_)
  exact JC.ret (JE.aJ rfl (RV.tmp rfl) fun w' hw=>⟨rfl,hw.aC⟩)
set_option maxHeartbeats 4000000 in
theorem ur (s d : aq) (w : World) (hs : s.ok w) (hd : d.ok w) : Calls Tryd.prog 79 [s.v,d.v].toArray w fun e w'=>e=.returned (.bool (preB s.l d.l))∧Ext w w':=by
  refine enter (n:=18) Tryd.func79 rfl rfl rfl (aa.start w []) ?_
  have hcap:=hs.len
  unfold preB
  cases h : decide ((d.l.length : Int)≤(s.l.length : Int))
  · repeat (first | refine JL.q (by first|(apply OQ.gE;rfl;rfl;exact h)|(apply OQ.bz;rfl;rfl)|(apply OQ.move;rfl)|(apply OQ.assign;rfl)|(apply OQ.len;rfl;rfl)) rfl ?_ | refine JC.seq ?_ | refine JC.region ?_ | refine JL.nil ?_ | refine JE.next ?_ | refine JL.cj rfl rfl rfl rfl ?_)
    exact JC.ret (JE.aJ rfl (RV.tmp rfl) fun w' hw=>⟨rfl,hw.aC⟩)
  · have hle : d.l.length≤s.l.length:=by have:=of_decide_eq_true h;omega
    repeat (first | refine JL.q (by first|(apply OQ.gE;rfl;rfl;exact h)|(apply OQ.fst (s:=s);exact Tryd.underlying22;exact cn;rfl;rfl;exact hle;exact hcap)|(apply OQ.aB (vs:=[(s.fst d.l.length).v,d.v]);exact jG;rfl;exact (fun w' hw'=>kM (s.fst d.l.length) d w' ((hs.holds hw' rfl).fst _) (hd.holds hw' rfl)))|(apply OQ.aP;rfl;rfl)|(apply OQ.move;rfl)|(apply OQ.assign;rfl)|(apply OQ.len;rfl;rfl)) rfl ?_ | refine JC.seq ?_ | refine JC.region ?_ | refine JL.nil ?_ | refine JE.next ?_ | refine JL.aN rfl rfl ?_)
    exact JC.ret (JE.aJ rfl (RV.tmp rfl) fun w' hw=>⟨rfl,hw.aC⟩)
set_option maxHeartbeats 4000000 in
theorem pR (s d : aq) (w : World) (hs : s.ok w) (hd : d.ok w) (hl : s.l.length≤4611686018427387904) : Calls Tryd.prog 74 [s.v,d.v].toArray w fun e w'=>e=.returned (.bool (uq s.l d.l))∧Ext w w':=by
  refine enter (n:=21) Tryd.func74 rfl rfl rfl (aa.start w []) ?_
  unfold uq
  cases h : decide ((d.l.length : Int)≤(s.l.length : Int))
  · repeat (first | refine JL.q (by first|(apply OQ.gE;rfl;rfl;exact h)|(apply OQ.bz;rfl;rfl)|(apply OQ.move;rfl)|(apply OQ.assign;rfl)|(apply OQ.len;rfl;rfl)) rfl ?_ | refine JC.seq ?_ | refine JC.region ?_ | refine JL.nil ?_ | refine JE.next ?_ | refine JL.cj rfl rfl rfl rfl ?_)
    exact JC.ret (JE.aJ rfl (RV.tmp rfl) fun w' hw=>⟨rfl,hw.aC⟩)
  · have hle : d.l.length≤s.l.length:=by have:=of_decide_eq_true h;omega
    have hsub : s.l.length - d.l.length≤s.l.length:=Nat.sub_le _ _
    repeat (first | refine JL.q (by first|(apply OQ.gE;rfl;rfl;exact h)|(apply OQ.snd (s:=s);exact Tryd.underlying22;exact cn;rfl;rfl;exact hsub)|(apply OQ.aB (vs:=[(s.snd (s.l.length - d.l.length)).v,d.v]);exact jG;rfl;exact (fun w' hw'=>kM (s.snd (s.l.length - d.l.length)) d w' ((hs.holds hw' rfl).snd _ hsub) (hd.holds hw' rfl)))|(apply OQ.aP;rfl;rfl)|(apply OQ.move;rfl)|(apply OQ.assign;rfl)|(apply OQ.len;rfl;rfl)|(apply OQ.lJ;rfl;rfl;exact (by (try simp only []);omega);exact (by (try simp only []);omega))) rfl ?_ | refine JC.seq ?_ | refine JC.region ?_ | refine JL.nil ?_ | refine JE.next ?_ | refine JL.aN rfl rfl ?_)
    exact JC.ret (JE.aJ rfl (RV.tmp rfl) fun w' hw=>⟨rfl,hw.aC⟩)
theorem oz : aR Tryd.prog 14:=⟨_,Tryd.func14,rfl,by kernel_rfl⟩
set_option maxHeartbeats 4000000 in
theorem kN (s : aq) (w : World) (hs : s.ok w) (hl : s.l.length≤4294967296) : Calls Tryd.prog 14 [s.v].toArray w fun e w'=>∃ q : Acc,e=.returned (ak q s.l.length)∧(q=none→s.l=[])∧aa w [] (an 5 q (s.l.map U8)) w':=by
  refine enter (n:=8) Tryd.func14 rfl rfl rfl (aa.start w []) ?_
  obtain ⟨ad,cap,l⟩:=s
  cases ad with
  | none=>
    have h0 : l=[]:=by
      cases l with
      | nil=>rfl
      | cons c l=>
        obtain ⟨b,j,h1,_⟩:=hs.reads.at (by simp)
        cases h1
    repeat (first | refine JL.q (by first|(apply OQ.isNil;exact Tryd.underlying22;rfl;rfl)|(apply OQ.move;rfl)|(apply OQ.assign;rfl)) rfl ?_ | refine JC.seq ?_ | refine JC.region ?_ | refine JL.nil ?_ | refine JE.next ?_)
    refine JC.cond_true rfl rfl ?_
    repeat (first | refine JL.q (by (apply OQ.assign;rfl)) rfl ?_ | refine JC.seq ?_ | refine JC.region ?_ | refine JL.nil ?_ | refine JE.next ?_)
    refine JC.ret ?_
    repeat (refine JE.av ?_)
    exact JE.aJ rfl (RV.tmp rfl) fun w' hw=>⟨none,rfl,fun _=>h0,hw⟩
  | some ad=>
    repeat (first | refine JL.q (by first|(apply OQ.isNil;exact Tryd.underlying22;rfl;rfl)|(apply OQ.move;rfl)|(apply OQ.assign;rfl)) rfl ?_ | refine JC.seq ?_ | refine JC.region ?_ | refine JL.nil ?_ | refine JE.next ?_)
    refine JC.cond_false rfl rfl ?_
    repeat (first | refine JC.seq ?_ | refine JC.region ?_ | refine JC.skip ?_ | refine JE.next ?_)
    refine JL.wF Tryd.underlying22 eD rfl fun b0 _=>?_
    repeat (refine JL.q (by (apply OQ.move;rfl)) rfl ?_)
    refine JL.append (cs:=l.map U8) (m:=l.length) (ad:=some ad) (sc:=cap) (xs:=[]) (fun b' cap'=>[⟨b',Sl.Own 5 1 (0+l.length) cap' ([]++l.map U8),true⟩]) Tryd.underlying22 eD rfl rfl (by intro _ _;repeat (first | exact dI.here | apply dI.there)) (by simp) (fun w' hw'=>(hs.holds hw' rfl).reads) (wK _) rfl (by decide) (by simp only [] at hl;omega) (by simp only [] at hl;omega) rfl fun b1 cap1=>?_
    rw [Nat.zero_add,List.nil_append]
    repeat (first | refine JL.q (by (apply OQ.assign;rfl)) rfl ?_ | refine JL.nil ?_ | refine JE.next ?_)
    refine JC.ret (JE.aJ rfl (RV.tmp rfl) fun w' hw=>⟨some (b1,cap1),rfl,(fun h=>by cases h),?_⟩)
    show aa w [] [⟨b1,Sl.Own 5 1 (l.map U8).length cap1 (l.map U8),true⟩] w'
    rw [List.length_map]
    exact hw
end
section
namespace mO
abbrev By:=BitVec 8
def sp (s : List (List By) × List By) (c : By) : List (List By) × List By:=if c=10∧s.2.getLast?=some 13 then (s.1++[s.2.dropLast],[]) else (s.1,s.2++[c])
def bG (ls : List (List By)) : List By:=ls.flatMap fun l=>l++[13,10]
end mO
end
section
namespace mO
end mO
end
section
namespace mO
def dP (l : List By) : List UInt8:=l.map UInt8.ofBitVec
end mO
end
section
set_option maxRecDepth 10000
open Sl mO Go.Shelf
def dm (w : World) : Prop:=∃ m,w.cell? ⟨2,0,none⟩=some (.int .i64 m)
theorem dm.ext {w w' : World} (h : dm w) (hx : Ext w w') : dm w':=by
  obtain ⟨m,hm⟩:=h
  refine ⟨m,?_⟩
  have hlt:=block_lt_of_cell hm
  have:=hx.block _ hlt (by simp)
  rw [← hm]
  simp only [World.cell?,this]
def rU (l : List Bt) : List Int:=l.map fun c=>(c.toNat : Int)
theorem vF {s : aq} {w : World} (h : s.ok w) : Go.Lib.BytesIn w s.ad s.l.length (rU s.l):=by
  intro h0
  obtain ⟨b,j,h1,h2⟩:=h.reads.at (by simpa using h0)
  refine ⟨b,j,h1,fun i hi=>?_⟩
  rw [h2 i _ (ig U8 0 hi)]
  unfold rU
  rw [List.getD_eq_getElem?_getD,List.getD_eq_getElem?_getD,List.getElem?_map,List.getElem?_eq_getElem hi]
  rfl
theorem rV (l : List Bt) : ∀ x ∈ rU l,0≤x∧x<256:=by
  intro x hx
  obtain ⟨c,_,rfl⟩:=List.mem_map.1 hx
  omega
theorem oA (l : List Bt) : Go.Lib.bytesOf (rU l)=dP l:=by
  unfold Go.Lib.bytesOf rU dP
  rw [List.map_map]
  refine List.map_congr_left fun c _=>?_
  show UInt8.ofNat ((c.toNat : Int)).toNat=_
  rw [Int.toNat_natCast]
  apply UInt8.toBitVec_inj.1
  exact BitVec.eq_of_toNat_eq (by simp)
def aq.cut (s : aq) (i : Nat) : aq:=⟨s.ad,s.cap,s.l.take i⟩
theorem aq.ok.cut {s : aq} {w : World} (h : s.ok w) (i : Nat) : (s.cut i).ok w:=by
  refine ⟨?_,?_⟩
  · show (s.l.take i).length≤s.cap
    have:=h.len
    rw [List.length_take]
    omega
  · show Reads w s.ad ((s.l.take i).map U8)
    rw [List.map_take]
    exact h.reads.take i
theorem qp (w : World) (q : Nat) : Ext w (w.drewN q):=⟨rfl,rfl,rfl,Nat.le_refl _,fun _ _ _=>rfl⟩
end
section
namespace bV
abbrev By:=BitVec 8
def bl (c : By) : Bool:=c == 32 || c == 9
def yg (c : By) : Bool:=decide (33≤c.toNat) && decide (c.toNat≤126) && !(c == 58)
def iL (c : By) : Bool:=c == 9 || (decide (32≤c.toNat) && decide (c.toNat≤126))
def aQ (s : List By) : Bool:=s.all yg && decide (1≤s.length) && decide (s.length≤64)
def oB (s : List By) : Bool:=s.all iL && decide (s.length≤8192) && (decide (s.length=0) || (!bl (s.getD 0 0) && !bl (s.getD (s.length - 1) 0)))
def small (c : By) : By:=if 65≤c.toNat∧c.toNat≤90 then c+32 else c
def bD (a b : List By) : Bool:=decide (a.map small=b.map small)
theorem qq (a b : List By) : bD a b=bD b a:=decide_eq_decide.2 ⟨Eq.symm,Eq.symm⟩
def tn (v : List By) (i : Nat) : Bool:=decide (0<i) && (bl (v.getD i 0) && !bl (v.getD (i - 1) 0))
def scan (v : List By) (i : Nat) : Nat:=if h : i<v.length then (if tn v i then i else scan v (i+1)) else v.length
termination_by v.length - i
def st (n v : List By) : Nat→List By × Nat
  | 0=>(n++[58,32],n.length+2)
  | i+1=>if tn v i=true∧76<(st n v i).2+scan v (i+1) - i then ((st n v i).1++[13,10,v.getD i 0],1) else ((st n v i).1++[v.getD i 0],(st n v i).2+1)
def iM (n v : List By) : List By:=(st n v v.length).1++[13,10]
inductive Fo : List By→List By→Prop
  | nil : Fo [] []
  | byte (c : By) (v L : List By) : iL c=true→Fo v L→Fo (c::v) (c::L)
  | fold (c : By) (e v L : List By) : bl c=true→(e=[10]∨e=[13,10])→Fo v L→Fo (c::v) (e++c::L)
theorem fe (v : List By) {i : Nat} (h : i<v.length) : v.take (i+1)=v.take i++[v.getD i 0]:=by
  rw [List.take_add_one,List.getD_eq_getElem?_getD,List.getElem?_eq_getElem h];rfl
def rW (b : List By) : List By:=b.takeWhile (· != 10)
def xL (l : List By) : List By:=if l.getLast?=some 13 then l.dropLast else l
def cut (b : List By) : Option (List By × List By):=if (rW b).length<b.length then some (xL (rW b),b.drop ((rW b).length+1)) else none
theorem rX {b l r : List By} (h : cut b=some (l,r)) : r.length<b.length:=by
  unfold cut at h
  split at h
  · cases h
    rw [List.length_drop];omega
  · cases h
def wM (b : List By) : Option (List By × List By):=
  if bl (b.getD 0 0)=true∧b≠[] then
    match h : cut b with
    | none=>none
    | some (l,r)=>(wM r).map fun q=>(l++q.1,q.2)
  else some ([],b)
termination_by b.length
decreasing_by exact rX h
def hend (b : List By) : Option Nat:=
  match h : cut b with
  | none=>none
  | some (l,r)=>if l=[] then some (b.length - r.length) else (hend r).map (·+(b.length - r.length))
termination_by b.length
decreasing_by exact rX h
def bL (v : List By) : List By:=v.dropWhile bl
def trim (v : List By) : List By:=(bL (bL v).reverse).reverse
def yh (e : List By) : Prop:=e=[10]∨e=[13,10]
end bV
end
section
namespace bV
theorem dJ {v : List By} (h : v=[]∨bl (v.getD 0 0)=false) : bL v=v:=by
  unfold bL
  cases v with
  | nil=>rfl
  | cons c v=>
    rcases h with h | h
    · cases h
    · simp only [List.getD_cons_zero] at h
      rw [List.dropWhile_cons,h];rfl
inductive Hd : List (List By × List By)→List By→Prop
  | nil : Hd [] []
  | cons (n v L e : List By) (fs : List (List By × List By)) (H : List By) : aQ n=true→oB v=true→Fo (32::v) L→yh e→Hd fs H→Hd ((n,v)::fs) (n++58::L++e++H)
end bV
end
section
namespace bV
theorem jH {v : List By} : bL v=v↔(v=[]∨bl (v.getD 0 0)=false):=by
  constructor
  · intro h
    cases v with
    | nil=>exact .inl rfl
    | cons c r=>
      refine .inr ?_
      cases hc : bl c with
      | false=>exact hc
      | true=>
        exfalso
        have h1 : bL (c::r)=bL r:=by simp [bL,hc]
        rw [h1] at h
        have h2:=congrArg List.length h
        have h3 : (bL r).length≤r.length:=(List.dropWhile_sublist _).length_le
        rw [List.length_cons] at h2
        omega
  · exact dJ
theorem qt {v : List By} : trim v=v↔(v=[]∨(bl (v.getD 0 0)=false∧bl (v.getD (v.length - 1) 0)=false)):=by
  have e0 : ∀ u : List By,u≠[]→u.reverse.getD 0 0=u.getD (u.length - 1) 0:=by
    intro u hu
    have hl : 0<u.length:=List.length_pos_iff.2 hu
    rw [List.getD_eq_getElem?_getD,List.getD_eq_getElem?_getD,List.getElem?_reverse (by omega)]
    simp
  constructor
  · intro h
    have h1 : (trim v).length=v.length:=congrArg List.length h
    have h2 : (bL (bL v).reverse).length≤(bL v).reverse.length:=(List.dropWhile_sublist _).length_le
    have h3 : (bL v).length≤v.length:=(List.dropWhile_sublist _).length_le
    unfold trim at h1
    rw [List.length_reverse] at h1 h2
    have h4 : bL v=v:=List.IsSuffix.eq_of_length (l₁:=bL v) (List.dropWhile_suffix bl) (by omega)
    unfold trim at h
    rw [h4] at h
    have h5 : bL v.reverse=v.reverse:=by
      have:=congrArg List.reverse h
      rwa [List.reverse_reverse] at this
    cases v with
    | nil=>exact .inl rfl
    | cons c r=>
      refine .inr ⟨(jH.1 h4).resolve_left (by simp),?_⟩
      have:=(jH.1 h5).resolve_left (by simp)
      rwa [e0 _ (by simp)] at this
  · rintro (rfl | ⟨h1,h2⟩)
    · rfl
    · unfold trim
      by_cases hv : v=[]
      · subst hv;rfl
      · rw [dJ (.inr h1),dJ (v:=v.reverse) (.inr (by rw [e0 _ hv];exact h2)),List.reverse_reverse]
theorem uu (v : List By) : oB v=(decide (v.length≤8192) && (decide (v=trim v) && v.all iL)):=by
  unfold oB
  have h : (decide (v.length=0) || (!bl (v.getD 0 0) && !bl (v.getD (v.length - 1) 0)))=decide (v=trim v):=by
    rw [Bool.eq_iff_iff,Bool.or_eq_true,Bool.and_eq_true,decide_eq_true_eq,decide_eq_true_eq,eq_comm (a:=v),qt,List.length_eq_zero_iff,Bool.not_eq_true',Bool.not_eq_true']
  rw [h]
  cases v.all iL <;> cases decide (v.length≤8192) <;> cases decide (v=trim v) <;> rfl
def fb (w : List By) : Nat:=(w.takeWhile fun c=>!bl c).length
end bV
end
section
namespace bV
def cn (l : List By) : List UInt8:=l.map UInt8.ofBitVec
theorem kO (l : List By) : (cM l).data.toList=cn l:=rfl
theorem uv (l : List By) : (⟨(cn l).toArray⟩ : ByteArray)=cM l:=rfl
theorem mP (p : UInt8→Bool) : ∀ l : List By,(cn l).dropWhile p=cn (l.dropWhile fun c=>p (UInt8.ofBitVec c))
  | []=>rfl
  | c::l=>by
    show (UInt8.ofBitVec c::cn l).dropWhile p=_
    rw [List.dropWhile_cons,List.dropWhile_cons]
    cases h : p (UInt8.ofBitVec c) with
    | true=>exact mP p l
    | false=>rfl
theorem pS (l : List By) : (cn l).reverse=cn l.reverse:=by unfold cn;rw [List.map_reverse]
theorem rY (c : By) : (cn [32,9]).contains (UInt8.ofBitVec c)=bl c:=by
  have h : ∀ c : Fin 256,(cn [32,9]).contains (UInt8.ofBitVec (BitVec.ofNat 8 c.val))=bl (BitVec.ofNat 8 c.val):=by decide +kernel
  simpa using h ⟨c.toNat,c.isLt⟩
theorem mQ (l : List By) : Go.Lib.trimLeftS (cn l) (cn [32,9])=cn (bL l):=by
  unfold Go.Lib.trimLeftS
  rw [mP]
  congr 1
  unfold bL
  congr 1
  funext c
  exact rY c
def iN (v : List By) : List By:=(bL v.reverse).reverse
theorem jI (c : By) (r : List By) : iN (c::r)=if iN r=[]∧bl c=true then [] else c::iN r:=by
  unfold iN bL
  rw [List.reverse_cons,List.dropWhile_append]
  by_cases h : (r.reverse.dropWhile bl)=[]
  · rw [h]
    cases hc : bl c <;> simp [hc]
  · have h2 : (r.reverse.dropWhile bl).isEmpty=false:=by simpa using h
    rw [h2,if_neg (by decide),if_neg (by rintro ⟨k,_⟩;exact h (by simpa using k)),List.reverse_append]
    rfl
theorem kP : ∀ v : List By,bL (iN v)=iN (bL v)
  | []=>rfl
  | c::r=>by
    have ih:=kP r
    rw [jI]
    cases hc : bl c with
    | true=>
      have e : bL (c::r)=bL r:=by simp [bL,hc]
      rw [e,← ih]
      by_cases h : iN r=[]
      · rw [if_pos ⟨h,rfl⟩,h]
      · rw [if_neg (fun k=>h k.1)]
        simp [bL,hc]
    | false=>
      have e : bL (c::r)=c::r:=by simp [bL,hc]
      rw [if_neg (by rintro ⟨_,k⟩;cases k),e,jI,if_neg (by rintro ⟨_,k⟩;rw [hc] at k;cases k)]
      simp [bL,hc]
theorem uw (l : List By) : Go.Lib.trimS (cn l) (cn [32,9])=cn (trim l):=by
  have h1 : Go.Lib.trimRightS (cn l) (cn [32,9])=cn (iN l):=by
    unfold Go.Lib.trimRightS
    rw [pS]
    have:=mQ l.reverse
    unfold Go.Lib.trimLeftS at this
    rw [this,pS]
    rfl
  unfold Go.Lib.trimS
  rw [h1,mQ,kP]
  rfl
def jo (w : List By) : Int:=if fb w<w.length then (fb w : Int) else -1
def fi (c : By) (s : List By) : Nat:=(s.takeWhile (· != c)).length
theorem ux (c d : By) (r : List By) : fi c (d::r)=if d=c then 0 else fi c r+1:=by
  unfold fi
  rw [List.takeWhile_cons]
  by_cases h : d=c
  · simp [h]
  · simp [h]
def oC (c : By) (s : List By) : Int:=if fi c s<s.length then (fi c s : Int) else -1
end bV
end
section
namespace Sl
section
variable {P : Program} {n : Nat} {E : Env} {C : World→Prop} {dst : Option Tmp} {t ty : TypeId} {pos : String} {aft : Array Edge} {g : Option (Nat × Bool)} {x y z : Operand} {l : List Bt}
end
end Sl
end
section
set_option maxRecDepth 10000
namespace Sl
def lP (P : Program) (w0 : World) (fv : Value) (p : Bt→Bool) : Prop:=
  ∃ (f : FuncId) (caps : List Value),fv=.func (.func f) #[] caps.toArray∧aR P f∧∀ (c : Bt) (w : World),Ext w0 w→Calls P f (U8 c::caps).toArray w fun e w'=>e=.returned (.bool (p c))∧Ext w w'
theorem lP.ext {P : Program} {w0 w1 : World} {fv : Value} {p : Bt→Bool} (h : lP P w0 fv p) (hx : Ext w0 w1) : lP P w1 fv p:=by
  obtain ⟨f,caps,h1,h2,h3⟩:=h
  exact ⟨f,caps,h1,h2,fun c w hw=>h3 c w (hx.trans hw)⟩
theorem lP.holds {P : Program} {w0 w1 : World} {M : List az} {fv : Value} {p : Bt→Bool} (h : lP P w0 fv p) (hw : aa w0 [] M w1) : lP P w1 fv p:=h.ext hw.aC
section
variable {P : Program} {n : Nat} {w0 : World} {S : List Nat} {Q Q' : Exit→Act→World→Prop} {E E' : Env} {M M' : List az}
variable {dst : Option Tmp} {ty : TypeId} {pos : String} {aft : Array Edge} {g : Option (Nat × Bool)} {x y : Operand} {ats : Array TypeId}
theorem jJ {f : FuncId} {caps : List Value} {xs : List Operand} {vs : List Value} {a : Act} (hg : aR P f) (hk : aE n E a) (hf : ev E x=some (.func (.func f) #[] caps.toArray)) (hx : eY E xs=some vs) (w : World) :
    (execOp a.eval ⟨dst,.call ⟨.value x,xs.toArray,ats⟩,ty,pos,aft,g⟩).run P w=.ok (.enter f (vs++caps).toArray) w:=by
  obtain ⟨fn,h1,h2,h3⟩:=hg
  have hm : xs.toArray.map a.eval=vs.toArray:=by simp [fB hk hx]
  have h2' : ¬ fn.body=none:=fun h=>by rw [h] at h2;cases h2
  have h3' : ¬ fn.name = "runtime.NumGoroutine" := by simpa using h3
  have hf':=hk.eval hf
  simp [execOp,resolve,Sem.run_bind,hm,hf',Deferred.ofValue,invoke,callFunc,program,Sem.run,h1,h2',h3']
theorem OQ.vi {fv : Value} {p : Bt→Bool} {c : Bt} {b : Bool} (hF : lP P w0 fv p) (hx : ev E x=some fv) (hy : ev E y=some (U8 c)) (h : p c=b) : OQ P n E (aa w0 [] M) ⟨dst,.call ⟨.value x,#[y],ats⟩,ty,pos,aft,g⟩ (.bool b):=by
  obtain ⟨f,caps,h1,h2,h3⟩:=hF
  subst h1
  refine ⟨fun a hk w hw=>?_⟩
  have hy' : eY E [y]=some [U8 c]:=by simp [eY,hy]
  unfold Oper.quietAt
  rw [show (#[y] : Array Operand)=[y].toArray from rfl,jJ (xs:=[y]) h2 hk hx hy' w]
  refine ⟨rfl,(h3 c w hw.aC).mono fun e w' ⟨k1,k2⟩=>⟨?_,hw.ext k2⟩⟩
  rw [k1,h]
theorem OQ.xk {f : FuncId} {xs : Array Operand} {caps : List Value} (hx : eY E xs.toList=some caps) : OQ P n E (aa w0 S M) ⟨dst,.makeFunc (.func f) #[] xs,ty,pos,aft,g⟩ (.func (.func f) #[] caps.toArray):=by
  refine OQ.run fun a hk w _=>?_
  have hm : xs.map a.eval=caps.toArray:=by
    have h1:=fB hk hx
    rw [← h1]
    apply Array.ext'
    simp
  simp [execOp,Instr.makeFunc,Sem.run_bind,hm]
theorem JC.mono {c : Code} (h : JC P n w0 S Q c E M) (hq : ∀ e a w,Q e a w→Q' e a w) : JC P n w0 S Q' c E M:=
  ⟨fun a w ha hw b k cs=>let ⟨e,a',w',h1,h2⟩:=h.go a w ha hw b k cs;⟨e,a',w',hq e a' w' h1,h2⟩⟩
theorem OQ.xM {C : World→Prop} {t t' : TypeId} {l r : List Bt} {c : Bool} (hx : ev E x=some (Z l)) (hy : ev E y=some (Z r)) (h : decide (l=r)=c) : OQ P n E C ⟨dst,.binOp .eql t x y t',ty,pos,aft,g⟩ (.bool c):=h ▸ OQ.xJ hx hy
theorem JC.goto {l : Nat} (h : JE n w0 S Q (.goto l) E M) : JC P n w0 S Q (.goto l) E M:=⟨fun a w ha hw=>wp_goto (h.go a w ha hw)⟩
end
end Sl
end
section
set_option maxRecDepth 10000
open Sl bV Go.Shelf
theorem qu {w w' : World} (h : RowKit.Below w.heap.size w w') : Ext w w':=⟨h.os,h.tape,h.output,h.size,fun k hk _=>h.block k hk⟩
theorem rZ : (Tryd.prog.info? 78).map (fun i=>(i.zero,i.size))=some (some (.agg (Array.replicate 256 (.bool false))),256):=by kernel_rfl
theorem oD : ∀ (j : Nat) b,(cM [32,9]).data.toList[j]?=some b→b.toNat<128:=ascii_of_all (by decide)
def mR : Ren:=⟨fun | 160=>33 | 232=>53 | 231=>52 | 227=>54 | 234=>56 | 233=>55 | 236=>58 | 235=>57 | 228=>75 | 271=>78 | 151=>77 | 197=>76 | 120=>85 | 152=>84 | 260=>83 | 137=>86 | 119=>87 | 224=>71 | 225=>88 | 217=>89 | 266=>90 | n=>n,
  fun | 9=>9 | 4=>4 | 3=>3 | 5=>5 | 117=>79 | 116=>78 | 0=>0 | 124=>82 | 21=>21 | 105=>71 | 46=>89 | 119=>96 | 139=>99 | 138=>98 | n=>n,
  fun | 3=>3 | 4=>4 | n=>n⟩
theorem r8 : Lays.n160 Tryd.prog mR:={
  mixed:=by kernel_rfl
  f119:=Tryd.func87.trans (congrArg some (by kernel_rfl))
  f120:=Tryd.func85.trans (congrArg some (by kernel_rfl))
  f137:=Tryd.func86.trans (congrArg some (by kernel_rfl))
  f151:=Tryd.func77.trans (congrArg some (by kernel_rfl))
  f152:=Tryd.func84.trans (congrArg some (by kernel_rfl))
  f160:=Tryd.func33.trans (congrArg some (by kernel_rfl))
  f197:=Tryd.func76.trans (congrArg some (by kernel_rfl))
  f217:=Tryd.func89.trans (congrArg some (by kernel_rfl))
  f224:=Tryd.func71.trans (congrArg some (by kernel_rfl))
  f225:=Tryd.func88.trans (congrArg some (by kernel_rfl))
  f227:=Tryd.func54.trans (congrArg some (by kernel_rfl))
  f228:=Tryd.func75.trans (congrArg some (by kernel_rfl))
  f231:=Tryd.func52.trans (congrArg some (by kernel_rfl))
  f232:=Tryd.func53.trans (congrArg some (by kernel_rfl))
  f233:=Tryd.func55.trans (congrArg some (by kernel_rfl))
  f234:=Tryd.func56.trans (congrArg some (by kernel_rfl))
  f235:=Tryd.func57.trans (congrArg some (by kernel_rfl))
  f236:=Tryd.func58.trans (congrArg some (by kernel_rfl))
  f260:=Tryd.func83.trans (congrArg some (by kernel_rfl))
  f266:=Tryd.func90.trans (congrArg some (by kernel_rfl))
  f271:=Tryd.func78.trans (congrArg some (by kernel_rfl))
  t0:=Tryd.underlying0
  a0:=Tryd.isAgg0
  z0:=Tryd.sizeOf0
  v0:=Tryd.zeroValue0
  t3:=Tryd.underlying3
  a3:=Tryd.isAgg3
  z3:=Tryd.sizeOf3
  v3:=Tryd.zeroValue3
  t4:=Tryd.underlying4
  a4:=Tryd.isAgg4
  z4:=Tryd.sizeOf4
  v4:=Tryd.zeroValue4
  t5:=Tryd.underlying5
  a5:=Tryd.isAgg5
  z5:=Tryd.sizeOf5
  v5:=Tryd.zeroValue5
  t9:=Tryd.underlying9
  a9:=Tryd.isAgg9
  z9:=Tryd.sizeOf9
  v9:=Tryd.zeroValue9
  t21:=Tryd.underlying21
  a21:=Tryd.isAgg21
  z21:=Tryd.sizeOf21
  v21:=Tryd.zeroValue21
  t46:=Tryd.underlying89
  a46:=Tryd.isAgg89
  z46:=Tryd.sizeOf89
  v46:=Tryd.zeroValue89
  t105:=Tryd.underlying71
  a105:=Tryd.isAgg71
  z105:=Tryd.sizeOf71
  v105:=Tryd.zeroValue71
  t116:=Tryd.underlying78
  a116:=Tryd.isAgg78
  z116:=Tryd.sizeOf78
  t117:=Tryd.underlying79
  a117:=Tryd.isAgg79
  z117:=Tryd.sizeOf79
  v117:=Tryd.zeroValue79
  t119:=Tryd.underlying96
  a119:=Tryd.isAgg96
  z119:=Tryd.sizeOf96
  t124:=Tryd.underlying82
  a124:=Tryd.isAgg82
  z124:=Tryd.sizeOf82
  v124:=Tryd.zeroValue82
  t138:=Tryd.underlying98
  a138:=Tryd.isAgg98
  z138:=Tryd.sizeOf98
  v138:=Tryd.zeroValue98
  t139:=Tryd.underlying99
  a139:=Tryd.isAgg99
  z139:=Tryd.sizeOf99
  v139:=Tryd.zeroValue99
  g3:=by kernel_rfl
  g4:=by kernel_rfl }
theorem oE : aR Tryd.prog 33:=⟨_,Tryd.func33,rfl,by kernel_rfl⟩
theorem qv (s : List Bt) (w : World) (hl : s.length<9223372036854775808) : Calls Tryd.prog 33 [Z s,Z [32,9]].toArray w fun e w'=>e=.returned (Z (trim s))∧Ext w w':=
  (Any.strings_Trim_laid r8 rZ (cM s) (cM [32,9]) w (by rw [cY];omega) (by decide) oD).mono fun e w' ⟨h1,h2⟩=>⟨by
    rw [h1,kO,kO,uw,uv],qu h2⟩
structure r9 (P : Program) (f : FuncId) : Prop where
  go : ∃ fn,P.funcs[f]?=some fn∧(fn.name == "runtime.NumGoroutine")=false∧fn.body.isNone=true∧Extern.findNext fn=none∧Extern.find fn=some Extern.BytealgIndexByte.indexByte
end
section
set_option maxRecDepth 10000
open Sl bV
def wN (l : List Bt) : List Int:=l.map fun c=>(c.toNat : Int)
theorem vG (l : List Bt) : Go.Lib.bytesOf (wN l)=bV.cn l:=by
  unfold Go.Lib.bytesOf wN bV.cn
  rw [List.map_map]
  refine List.map_congr_left fun c _=>?_
  show UInt8.ofNat ((c.toNat : Int)).toNat=_
  rw [Int.toNat_natCast]
  apply UInt8.toBitVec_inj.1
  exact BitVec.eq_of_toNat_eq (by simp)
theorem sg (c : bV.By) : ∀ l : List bV.By,Go.Lib.indexByte (bV.cn l) (UInt8.ofBitVec c)=oC c l
  | []=>rfl
  | d::r=>by
    show (if (UInt8.ofBitVec d == UInt8.ofBitVec c) then 0 else if Go.Lib.indexByte (bV.cn r) (UInt8.ofBitVec c) == -1 then -1 else Go.Lib.indexByte (bV.cn r) (UInt8.ofBitVec c)+1 : Int)=_
    rw [sg c r]
    unfold oC
    rw [ux]
    have hb : (UInt8.ofBitVec d == UInt8.ofBitVec c)=decide (d=c):=by
      by_cases h : d=c
      · subst h;simp
      · rw [decide_eq_false h]
        exact beq_eq_false_iff_ne.2 fun k=>h (congrArg UInt8.toBitVec k)
    rw [hb]
    by_cases hd : d=c
    · simp [hd]
    · simp only [hd,decide_false,Bool.false_eq_true,if_false,List.length_cons,Nat.add_lt_add_iff_right]
      by_cases h : fi c r<r.length
      · simp only [h,if_true]
        rw [if_neg (by rw [beq_iff_eq];omega)]
        omega
      · simp only [h,if_false]
        rfl
theorem OQ.xN {P : Program} {n : Nat} {E : Env} {w0 : World} {S : List Nat} {M : List az} {dst : Option Tmp} {ty : TypeId} {pos : String} {aft : Array Edge} {g : Option (Nat × Bool)} {f : FuncId} {ats : Array TypeId} {x y : Operand} {s : aq} {c : Bt} (hf : r9 P f) (hx : ev E x=some s.v) (hy : ev E y=some (U8 c)) (hs : ∀ w,aa w0 S M w→s.ok w) :
    OQ P n E (aa w0 S M) ⟨dst,.call ⟨.value (.func f),#[x,y],ats⟩,ty,pos,aft,g⟩ (I (oC c s.l)):=by
  refine ⟨fun ac hk w hw=>?_⟩
  obtain ⟨fn,h1,h2,h3,h4,h5⟩:=hf.go
  have hc : ((c.toNat : Int)).toNat.toUInt8=UInt8.ofBitVec c:=by
    rw [Int.toNat_natCast]
    apply UInt8.toBitVec_inj.1
    apply BitVec.eq_of_toNat_eq
    simp [Nat.toUInt8,UInt8.ofNat]
  have hr : (Extern.BytealgIndexByte.indexByte #[s.v,U8 c]).run P w=.ok (I (oC c s.l)) w:=by
    have ok:=hs w hw
    obtain ⟨ad,cap,l⟩:=s
    cases ad with
    | none=>
      have h0 : l=[]:=by
        cases l with
        | nil=>rfl
        | cons d l=>
          obtain ⟨b,j,k1,_⟩:=ok.reads.at (by simp)
          cases k1
      subst h0
      exact Lib.run_indexByteNil w 0 cap (c.toNat : Int)
    | some a=>
      have:=Lib.run_indexByteAt (P:=P) w a l.length cap (wN l) (by unfold wN;rw [List.length_map]) (fun i hi=>by
        obtain ⟨b,j,k1,k2⟩:=ok.reads _ _ (ig U8 0 hi)
        cases k1
        rw [bh,k2]
        unfold wN
        rw [List.getD_eq_getElem?_getD,List.getD_eq_getElem?_getD,List.getElem?_map,List.getElem?_eq_getElem hi]
        rfl) (c.toNat : Int)
      rw [vG,hc,sg] at this
      exact this
  have r:=run_callFunc_extern h1 h2 h3 h4 h5 #[s.v,U8 c] w
  rw [hr] at r
  unfold Oper.quietAt
  have r' : (execOp ac.eval ⟨dst,.call ⟨.value (.func f),#[x,y],ats⟩,ty,pos,aft,g⟩).run P w=.ok (.value (I (oC c s.l))) w:=by
    simp only [Result.andThen] at r
    have k1:=hk.eval hx
    have k2:=hk.eval hy
    have e : (.ok (.value (I (oC c s.l))) w : Result Next)=(callFunc f #[s.v,U8 c]).run P w:=r.symm
    rw [e]
    simp [execOp,resolve,Sem.run_bind,Act.eval,Deferred.ofValue,invoke,k1,k2]
    simp [Act.eval] at k1 k2
    simp [k1,k2]
  rw [r']
  exact ⟨rfl,rfl⟩
theorem uy : r9 Tryd.prog 59:=⟨_,Tryd.func59,rfl,rfl,by kernel_rfl,by kernel_rfl⟩
theorem kQ : aR Tryd.prog 38:=⟨_,Tryd.func38,rfl,by kernel_rfl⟩
theorem iO : aR Tryd.prog 47:=⟨_,Tryd.func47,rfl,by kernel_rfl⟩
theorem fD : aR Tryd.prog 41:=⟨_,Tryd.func41,rfl,by kernel_rfl⟩
theorem jK (s : aq) (c : Bt) (w : World) (hs : s.ok w) : Calls Tryd.prog 38 [s.v,U8 c].toArray w fun e w'=>e=.returned (I (oC c s.l))∧Ext w w':=by
  refine enter (n:=8) Tryd.func38 rfl rfl rfl (aa.start w []) ?_
  repeat (first | refine JL.q (by first|(apply OQ.xN;exact uy;rfl;rfl;exact (fun w' hw'=>hs.holds hw' rfl))|(apply OQ.move;rfl)|(apply OQ.assign;rfl)) rfl ?_ | refine JC.seq ?_ | refine JC.region ?_ | refine JL.nil ?_ | refine JE.next ?_)
  exact JC.ret (JE.aJ rfl (RV.tmp rfl) fun w' hw=>⟨rfl,hw.aC⟩)
theorem jL (s : aq) (b cap : Nat) (c : Bt) (w : World) (hs : s.ok w) (hd : (⟨some ⟨b,0,none⟩,cap,[c]⟩ : aq).ok w) : Calls Tryd.prog 47 [s.v,.slice (some ⟨b,0,none⟩) 1 cap].toArray w fun e w'=>e=.returned (I (oC c s.l))∧Ext w w':=by
  refine enter (n:=200) Tryd.func47 rfl rfl rfl (aa.start w []) ?_
  obtain ⟨b',j',h1,h2⟩:=hd.reads.at (by simp)
  cases h1
  have hc : w.cell? ⟨b,0,none⟩=some (U8 c):=h2 0 _ rfl
  repeat (first | refine JL.q (by first|(apply OQ.aU (a:=1) (b:=0);rfl;rfl;rfl)|(apply OQ.move;rfl)|(apply OQ.assign;rfl)|(apply OQ.len;rfl;rfl)) rfl ?_ | refine JC.seq ?_ | refine JC.region ?_ | refine JC.block ?_ | refine JL.nil ?_ | refine JE.next ?_)
  refine JC.cond rfl (fun h=>by cases h) (fun _=>?_)
  repeat (first | refine JL.q (by first|(apply OQ.aU (a:=1) (b:=1);rfl;rfl;rfl)|(apply OQ.move;rfl)|(apply OQ.assign;rfl)) rfl ?_ | refine JC.seq ?_ | refine JC.region ?_ | refine JL.nil ?_ | refine JE.next ?_)
  refine JC.cond rfl (fun _=>?_) (fun h=>by cases h)
  repeat (first | refine JL.q (by first|(apply OQ.kJ (i:=0);exact Tryd.underlying22;exact cn;rfl;rfl;exact (Nat.zero_lt_succ 0))|(apply OQ.cA;exact og;rfl;exact (block_lt_of_cell hc);exact (by simp);exact hc)|(apply OQ.aB (vs:=[s.v,U8 c]);exact kQ;rfl;exact (fun w' hw'=>jK s c w' (hs.holds hw' rfl)))|(apply OQ.move;rfl)|(apply OQ.assign;rfl)) rfl ?_ | refine JC.seq ?_ | refine JC.region ?_ | refine JL.nil ?_ | refine JE.next ?_)
  refine JC.ret ?_
  repeat (first | refine JE.av ?_ | refine JE.aI ?_)
  exact JE.aJ rfl (RV.tmp rfl) fun w' hw=>⟨rfl,hw.aC⟩
def lQ (c : Bt) (s : aq) : Value:=if fi c s.l<s.l.length then .tuple #[(s.fst (fi c s.l)).v,(s.snd (fi c s.l+1)).v,.bool true] else .tuple #[s.v,eG.v,.bool false]
set_option maxHeartbeats 2000000 in
theorem jM (s : aq) (b cap : Nat) (c : Bt) (w : World) (hl : s.l.length<9223372036854775807) (hs : s.ok w) (hd : (⟨some ⟨b,0,none⟩,cap,[c]⟩ : aq).ok w) : Calls Tryd.prog 41 [s.v,.slice (some ⟨b,0,none⟩) 1 cap].toArray w fun e w'=>e=.returned (lQ c s)∧Ext w w':=by
  refine enter (n:=23) Tryd.func41 rfl rfl rfl (aa.start w []) ?_
  have hcap:=hs.len
  by_cases h : fi c s.l<s.l.length
  · have e1 : oC c s.l=(fi c s.l : Nat):=if_pos h
    have hle : fi c s.l≤s.l.length:=by omega
    have hle1 : fi c s.l+1≤s.l.length:=h
    have hq : ∀ w',aa w [] [] w'→Calls Tryd.prog 47 [s.v,.slice (some ⟨b,0,none⟩) 1 cap].toArray w' fun e w2=>e=.returned (N (fi c s.l))∧Ext w' w2:=fun w' hw'=>by
      have:=jL s b cap c w' (hs.holds hw' rfl) (hd.holds hw' rfl)
      rw [e1] at this
      exact this
    rw [show lQ c s=_ from if_pos h]
    generalize fi c s.l=k at hq hle hle1
    repeat (first | refine JL.q (by first|(apply OQ.aB (vs:=[s.v,.slice (some ⟨b,0,none⟩) 1 cap]);exact iO;rfl;exact hq)|(apply OQ.move;rfl)|(apply OQ.assign;rfl)) rfl ?_ | refine JC.seq ?_ | refine JC.region ?_ | refine JL.nil ?_ | refine JE.next ?_)
    repeat (first | refine JL.q (by (apply OQ.xz;rfl;rfl)) rfl ?_ | refine JL.nil ?_ | refine JE.next ?_)
    refine JC.cond_true rfl (decide_eq_true (Nat.zero_le _)) ?_
    refine JC.seq (JC.quiet di (by kernel_rfl) ?_)
    repeat (refine JQ.q (by first|(apply OQ.fst (s:=s);exact Tryd.underlying22;exact cn;rfl;rfl;exact hle;exact hcap)|(apply OQ.snd (s:=s) (m:=k+1);exact Tryd.underlying22;exact cn;rfl;rfl;exact hle1)|(apply OQ.move;rfl)|(apply OQ.assign;rfl)|(apply OQ.len;rfl;rfl)|(apply OQ.bH;rfl;rfl;exact (by (try simp only []);omega))) rfl ?_)
    refine JQ.nil (JE.next ?_)
    refine JC.ret ?_
    repeat (refine JE.av ?_)
    exact JE.wL rfl (RV.tmp rfl) (RV.tmp rfl) (RV.tmp rfl) fun w' hw=>⟨rfl,hw.aC⟩
  · have e1 : oC c s.l=-1:=if_neg h
    have hq : ∀ w',aa w [] [] w'→Calls Tryd.prog 47 [s.v,.slice (some ⟨b,0,none⟩) 1 cap].toArray w' fun e w2=>e=.returned (I (-1))∧Ext w' w2:=fun w' hw'=>by
      have:=jL s b cap c w' (hs.holds hw' rfl) (hd.holds hw' rfl)
      rw [e1] at this
      exact this
    rw [show lQ c s=_ from if_neg h]
    repeat (first | refine JL.q (by first|(apply OQ.aB (vs:=[s.v,.slice (some ⟨b,0,none⟩) 1 cap]);exact iO;rfl;exact hq)|(apply OQ.move;rfl)|(apply OQ.assign;rfl)) rfl ?_ | refine JC.seq ?_ | refine JC.region ?_ | refine JL.nil ?_ | refine JE.next ?_)
    repeat (first | refine JL.q (by (apply OQ.gE (a:=-1) (b:=0);rfl;rfl;rfl)) rfl ?_ | refine JL.nil ?_ | refine JE.next ?_)
    refine JC.cond_false rfl rfl ?_
    repeat (first | refine JL.q (by first|(apply OQ.move;rfl)|(apply OQ.assign;rfl)) rfl ?_ | refine JC.seq ?_ | refine JC.region ?_ | refine JC.skip ?_ | refine JL.nil ?_ | refine JE.next ?_)
    refine JC.ret ?_
    skip
    exact JE.wL rfl (RV.tmp rfl) (RV.tmp rfl) (RV.tmp rfl) fun w' hw=>⟨rfl,hw.aC⟩
end
end Go.Proofs.YtbmagnpmfpfckaaDoor
