/-
  Of no statement by itself: the texts Sl, Slb, Slc, Slw, Slx, Sly, Slz, Slu, Slg, Slh, Slt, Typ, Slk, Slj, Slm, Slo, Sli, Slv, Slq, Slr, Sls, Slp, Slac, LinB, LinS, LinT, LinK, LinC, FieS, FieT, FieA, LsP, Slsu, Slfv, LsA, LsB, RwR, Slf in one.
  Conditions: each theorem's own.
-/
import Derived.Deep.Quiet
import Derived.StillTail
import Derived.Below
import Derived.KernelRfl
import Derived.Tactics2
import Derived.Laws.Cells
import Derived.Laws.CopyRow
import Derived.Laws.Rows
import Derived.Laws.AppendOwn
import Derived.Stop.BytesEq
import Derived.Laws.StructEq
import Derived.Lib.ConvBytes
import Derived.Test.YtbmagnpmfpfckaaDoorProg
import Derived.Laws.MakeOwn
import Derived.Great.FillDense
import Derived.Laws.Externs
import Derived.Laws.BytesString
import Derived.Deep.AppendSrc
import Derived.Laws.Cover3
import Derived.Lib.IndexMore
import Derived.Shelf.Bytes.SlCut
import Derived.Lib.SlTrimSet
import Derived.Lib.IndexAny
import Derived.Laws.Slices
import Derived.Laws.Strings2
import Derived.ScopeJumps
import Derived.Shelf.Strings.SlTrimAscii
import Derived.Shelf.Bytes.SlIndexAt
import Derived.Lib.BytesEntry
import Derived.Shelf.Bytes.SlCountWhole
import Derived.Shelf.Bytes.SlCountOne
import Derived.Lib.CountLaws
import Derived.Lib.SplitLaws
import Derived.RangeFuncWrites
import Derived.RangeFuncLeaves
import Derived.TacticsIn
import Derived.Shelf.Abstract
set_option linter.unusedSimpArgs false
set_option linter.unusedVariables false
namespace Go.Proofs.YtbmagnpmfpfckaaDoor
section
namespace Sl
abbrev Env:=List (Nat × Value)
def lk : Env→Nat→Option Value
  | [],_=>none
  | (d,v)::E,t=>cond (Nat.beq d t) (some v) (lk E t)
structure an (n : Nat) (E : Env) (a : Act) : Prop where
  size : a.tmps.size=n
  defers : a.defers=[]
  all : ∀ t v,lk E t=some v→a.tmps.getD t undef=v
theorem an.put {n : Nat} {E : Env} {a : Act} (h : an n E a) (d : Nat) (v : Value) (hd : Nat.blt d n=true) : an n ((d,v)::E) (a.put (some d) v):=by
  have hd' : d<n:=by simpa using hd
  refine ⟨by simp [Act.put,h.size],h.defers,fun t u hu=>?_⟩
  simp only [lk] at hu
  by_cases e : d=t
  · subst e
    simp at hu
    subst hu
    simp [Act.put,h.size,hd']
  · have : Nat.beq d t=false:=Bool.eq_false_iff.2 fun h=>e (Nat.eq_of_beq_eq_true h)
    rw [this] at hu
    have:=h.all t u hu
    simpa [Act.put,Array.getElem?_setIfInBounds,e] using this
theorem an.gr {n : Nat} {E : Env} {a : Act} (h : an n E a) (v : Value) : an n E (a.put none v):=h
inductive aj (E : Env) : Env→Prop where
  | nil : aj E []
  | cons (d : Nat) (v : Value) (E' : Env) : lk E d=some v→aj E E'→aj E ((d,v)::E')
theorem aj.all {E E' : Env} (h : aj E E') : ∀ p ∈ E',lk E p.1=some p.2:=by
  induction h with
  | nil=>simp
  | cons d v E' h _ ih=>
    intro p hp
    simp only [List.mem_cons] at hp
    rcases hp with rfl | hp
    · exact h
    · exact ih p hp
theorem an.sub {n : Nat} {E E' : Env} {a : Act} (h : an n E a) (hs' : aj E E') : an n E' a:=by
  have hs:=hs'.all
  clear hs'
  refine ⟨h.size,h.defers,fun t u hu=>h.all t u ?_⟩
  induction E' with
  | nil=>simp [lk] at hu
  | cons p E' ih=>
    simp only [lk] at hu
    by_cases e : p.1=t
    · subst e
      simp at hu
      subst hu
      exact hs p (by simp)
    · have : Nat.beq p.1 t=false:=Bool.eq_false_iff.2 fun h=>e (Nat.eq_of_beq_eq_true h)
      rw [this] at hu
      exact ih (fun q hq=>hs q (by simp [hq])) hu
def ev (E : Env) : Operand→Option Value
  | .tmp t=>lk E t
  | .const v=>some v
  | .global g=>some (.pointer (some ⟨g,0,none⟩))
  | .func f=>some (.func (.func f) #[] #[])
theorem an.eval {n : Nat} {E : Env} {a : Act} (h : an n E a) {x : Operand} {v : Value} (hx : ev E x=some v) : a.eval x=v:=by
  cases x with
  | tmp t=>exact h.all t v hx
  | const u=>exact Option.some.inj hx
  | global g=>exact Option.some.inj hx
  | func f=>exact Option.some.inj hx
structure eD (S : List Nat) (w w' : World) : Prop where
  os : w'.os=w.os
  tape : w'.tape=w.tape
  output : w'.output=w.output
  size : w.heap.size≤w'.heap.size
  block : ∀ k,k<w.heap.size→k ∉ S→w'.heap[k]?=w.heap[k]?
theorem eD.refl (S : List Nat) (w : World) : eD S w w:=⟨rfl,rfl,rfl,Nat.le_refl _,fun _ _ _=>rfl⟩
theorem eD.trans {S : List Nat} {a b c : World} (h : eD S a b) (k : eD S b c) : eD S a c:=
  ⟨k.os.trans h.os,k.tape.trans h.tape,k.output.trans h.output,Nat.le_trans h.size k.size,
   fun i hi hS=>(k.block i (Nat.lt_of_lt_of_le hi h.size) hS).trans (h.block i hi hS)⟩
theorem eD.mono {S S' : List Nat} {a b : World} (h : eD S a b) (hs : ∀ k ∈ S,k ∈ S') : eD S' a b:=
  ⟨h.os,h.tape,h.output,h.size,fun i hi hS=>h.block i hi fun hk=>hS (hs i hk)⟩
abbrev Ext:=eD []
theorem eD.below {w w' : World} (h : Ext w w') : RowKit.Below w.heap.size w w':=⟨h.os,h.tape,h.output,h.size,fun k hk=>h.block k hk (by simp)⟩
structure ah where
  b : Nat
  A : Obj→Prop
  wr : Bool
structure aa (w0 : World) (S : List Nat) (M : List ah) (w : World) : Prop where
  aq : eD S w0 w
  nodup : (M.map ah.b).Nodup
  all : ∀ e ∈ M,(∃ o,w.heap[e.b]?=some o∧e.A o)∧(e.wr=true→e.b ∈ S∨w0.heap.size≤e.b)
inductive Has : List ah→Nat→(Obj→Prop)→Bool→Prop where
  | here {b A wr M} : Has (⟨b,A,wr⟩::M) b A wr
  | there {e M b A wr} : Has M b A wr→Has (e::M) b A wr
theorem Has.mem {M : List ah} {b : Nat} {A : Obj→Prop} {wr : Bool} (h : Has M b A wr) : ⟨b,A,wr⟩ ∈ M:=by
  induction h with
  | here=>simp
  | there _ ih=>simp [ih]
inductive eE : List ah→Nat→(Obj→Prop)→(Obj→Prop)→List ah→Prop where
  | here {b A A' M} : eE (⟨b,A,true⟩::M) b A A' (⟨b,A',true⟩::M)
  | there {e M b A A' M'} : eE M b A A' M'→eE (e::M) b A A' (e::M')
theorem eE.has {M M' : List ah} {b : Nat} {A A' : Obj→Prop} (h : eE M b A A' M') : Has M b A true:=by
  induction h with
  | here=>exact .here
  | there _ ih=>exact .there ih
theorem eE.keys {M M' : List ah} {b : Nat} {A A' : Obj→Prop} (h : eE M b A A' M') : M'.map ah.b=M.map ah.b:=by
  induction h with
  | here=>rfl
  | there _ ih=>simp [ih]
theorem eE.old {M M' : List ah} {b : Nat} {A A' : Obj→Prop} (h : eE M b A A' M') (hn : (M.map ah.b).Nodup) :
    ∀ e ∈ M',e=⟨b,A',true⟩∨(e ∈ M∧e.b≠b):=by
  induction h with
  | @here b A A' M=>
    intro e he
    simp only [List.mem_cons] at he
    simp only [List.map_cons,List.nodup_cons] at hn
    rcases he with rfl | he
    · exact .inl rfl
    · exact .inr ⟨by simp [he],fun h=>hn.1 (h ▸ List.mem_map_of_mem he)⟩
  | @there x M b A A' M' hu ih=>
    intro e he
    simp only [List.map_cons,List.nodup_cons] at hn
    simp only [List.mem_cons] at he
    rcases he with rfl | he
    · refine .inr ⟨by simp,fun h=>hn.1 ?_⟩
      rw [h]
      exact List.mem_map_of_mem hu.has.mem (f:=ah.b)
    · rcases ih hn.2 e he with h | ⟨h1,h2⟩
      · exact .inl h
      · exact .inr ⟨by simp [h1],h2⟩
section
variable {w0 : World} {S : List Nat} {M M' : List ah} {w w' : World}
theorem aa.lt (h : aa w0 S M w) {e : ah} (he : e ∈ M) : e.b<w.heap.size:=by
  obtain ⟨⟨o,ho,_⟩,_⟩:=h.all e he
  by_cases hl : e.b<w.heap.size
  · exact hl
  · simp [Array.getElem?_eq_none (by omega : w.heap.size≤e.b)] at ho
theorem aa.get (h : aa w0 S M w) {b : Nat} {A : Obj→Prop} {wr : Bool} (hf : Has M b A wr) : ∃ o,w.heap[b]?=some o∧A o:=(h.all _ hf.mem).1
theorem aa.start (w0 : World) (S : List Nat) : aa w0 S [] w0:=⟨eD.refl _ _,by simp,by simp⟩
theorem aa.ext (h : aa w0 S M w) (k : Ext w w') : aa w0 S M w':=by
  refine ⟨h.aq.trans (k.mono (by simp)),h.nodup,fun e he=>⟨?_,(h.all e he).2⟩⟩
  obtain ⟨o,ho,hA⟩:=(h.all e he).1
  exact ⟨o,(k.block e.b (h.lt he) (by simp)).trans ho,hA⟩
theorem aa.drawn (h : aa w0 S M w) (n : Nat) : aa w0 S M { w with drawn:=n }:=
  h.ext ⟨rfl,rfl,rfl,Nat.le_refl _,fun _ _ _=>rfl⟩
theorem aa.old (h : aa w0 S M w) {k : Nat} (hk : k<w0.heap.size) (hS : k ∉ S) : w.heap[k]?=w0.heap[k]?:=h.aq.block k hk hS
theorem aa.sub (h : aa w0 S M w) (hn : (M'.map ah.b).Nodup) (hs : ∀ e ∈ M',e ∈ M) : aa w0 S M' w:=⟨h.aq,hn,fun e he=>h.all e (hs e he)⟩
inductive av : List ah→List ah→Prop where
  | nil (N : List ah) : av [] N
  | keep (b : Nat) (A A' : Obj→Prop) (wr : Bool) (N N' : List ah) : (∀ o,A o→A' o)→av N' N→av (⟨b,A',wr⟩::N') (⟨b,A,wr⟩::N)
  | drop (e : ah) (N N' : List ah) : av N' N→av N' (e::N)
theorem av.refl : ∀ N,av N N
  | []=>.nil _
  | ⟨_,_,_⟩::N=>.keep _ _ _ _ _ _ (fun _ h=>h) (av.refl N)
theorem av.keys (h : av M' M) : (M'.map ah.b).Sublist (M.map ah.b):=by
  induction h with
  | nil=>exact List.nil_sublist _
  | keep _ _ _ _ _ _ _ _ ih=>exact ih.cons_cons _
  | drop _ _ _ _ ih=>exact ih.cons _
theorem av.old (h : av M' M) : ∀ e ∈ M',∃ e' ∈ M,e'.b=e.b∧e'.wr=e.wr∧∀ o,e'.A o→e.A o:=by
  induction h with
  | nil=>simp
  | keep b A A' wr M M' hA _ ih=>
    intro e he
    simp only [List.mem_cons] at he
    rcases he with rfl | he
    · exact ⟨⟨b,A,wr⟩,by simp,rfl,rfl,hA⟩
    · obtain ⟨e',h1,h2⟩:=ih e he
      exact ⟨e',by simp [h1],h2⟩
  | drop _ _ _ _ ih=>
    intro e he
    obtain ⟨e',h1,h2⟩:=ih e he
    exact ⟨e',by simp [h1],h2⟩
theorem aa.weak (h : aa w0 S M w) (hs : av M' M) : aa w0 S M' w:=by
  refine ⟨h.aq,h.nodup.sublist hs.keys,fun e he=>?_⟩
  obtain ⟨e',h1,h2,h3,h4⟩:=hs.old e he
  obtain ⟨⟨o,ho,hA⟩,h5⟩:=h.all e' h1
  exact ⟨⟨o,h2 ▸ ho,h4 o hA⟩,fun hw=>h2 ▸ h5 (h3.trans hw)⟩
theorem aa.push (h : aa w0 S M w) (o : Obj) {A : Obj→Prop} (hA : A o) (hw : w'.heap=w.heap.push o) (h1 : w'.os=w.os) (h2 : w'.tape=w.tape) (h3 : w'.output=w.output) :
    aa w0 S (⟨w.heap.size,A,true⟩::M) w':=by
  have hx : Ext w w':=⟨h1,h2,h3,by rw [hw];simp,fun k hk _=>by rw [hw,Array.getElem?_push,if_neg (Nat.ne_of_lt hk)]⟩
  have h':=h.ext hx
  refine ⟨h'.aq,?_,fun e he=>?_⟩
  · simp only [List.map_cons,List.nodup_cons,h.nodup,and_true]
    intro hm
    obtain ⟨e,he,hb⟩:=List.mem_map.1 hm
    have:=h.lt he
    omega
  · simp only [List.mem_cons] at he
    rcases he with rfl | he
    · exact ⟨⟨o,by simp [hw],hA⟩,fun _=>.inr h.aq.size⟩
    · exact h'.all e he
theorem aa.write (h : aa w0 S M w) {b : Nat} {A A' : Obj→Prop} (hu : eE M b A A' M') {o' : Obj} (hA : A' o')
    (hb : w'.heap[b]?=some o') (hz : w'.heap.size=w.heap.size) (hk : ∀ k,k≠b→w'.heap[k]?=w.heap[k]?) (h1 : w'.os=w.os) (h2 : w'.tape=w.tape) (h3 : w'.output=w.output) :
    aa w0 S M' w':=by
  have hin:=(h.all _ hu.has.mem).2 rfl
  refine ⟨⟨h1.trans h.aq.os,h2.trans h.aq.tape,h3.trans h.aq.output,by rw [hz];exact h.aq.size,fun k hk' hS=>?_⟩,by rw [hu.keys];exact h.nodup,fun e he=>?_⟩
  · refine (hk k fun e=>?_).trans (h.aq.block k hk' hS)
    subst e
    rcases hin with h4 | h4
    · exact hS h4
    · simp only [] at h4;omega
  · rcases hu.old h.nodup e he with rfl | ⟨h4,h5⟩
    · exact ⟨⟨o',hb,hA⟩,fun _=>hin⟩
    · obtain ⟨⟨o,ho,hA'⟩,h6⟩:=h.all e h4
      exact ⟨⟨o,(hk _ h5).trans ho,hA'⟩,h6⟩
end
def me {α : Type} (P : Program) : Sem α→Option α
  | .pure a=>some a
  | .program k=>me P (k P)
  | .mark _ k=>me P k
  | _=>none
theorem ew {α : Type} {P : Program} {a : α} : ∀ {s : Sem α} {w : World},me P s=some a→s.run P w=.ok a w
  | .pure _,w,h=>by simp only [me,Option.some.injEq] at h;subst h;rfl
  | .program k,w,h=>by simp only [me] at h;exact ew (s:=k P) h
  | .mark _ k,w,h=>by simp only [me] at h;exact ew (s:=k) h
  | .load ..,_,h | .store ..,_,h | .new ..,_,h | .shape ..,_,h | .freeze ..,_,h | .frozen ..,_,h | .getObj ..,_,h | .setObj ..,_,h | .choose ..,_,h | .sys ..,_,h | .halt ..,_,h=>by simp [me] at h
structure OQ (P : Program) (n : Nat) (E : Env) (C : World→Prop) (o : Oper) (v : Value) : Prop where
  go : ∀ a,an n E a→∀ w,C w→o.quietAt P a C w v
section
variable {P : Program} {n : Nat} {E : Env} {C : World→Prop} {dst : Option Tmp} {ty : TypeId} {pos : String} {aft : Array Edge} {g : Option (Nat × Bool)} {v : Value}
def om (E : Env) (x : Operand) : Value:=(ev E x).getD undef
def known (E : Env) (op : Op) : Bool:=op.operands.toList.all fun x=>(ev E x).isSome
def gu : Op→Bool
  | .select ..=>false
  | _=>true
theorem OQ.pure {op : Op} (hs : gu op=true) (hk : known E op=true) (h : me P (execOp (om E) ⟨dst,op,ty,pos,aft,g⟩)=some (.value v)) : OQ P n E C ⟨dst,op,ty,pos,aft,g⟩ v:=by
  refine ⟨fun a ha w hw=>?_⟩
  have e : execOp a.eval ⟨dst,op,ty,pos,aft,g⟩=execOp (om E) ⟨dst,op,ty,pos,aft,g⟩:=by
    refine execOp_congr _ (fun cs b hh=>?_) fun x hx=>?_
    · simp only [] at hh;subst hh;simp [gu] at hs
    · simp only [known,List.all_eq_true] at hk
      have:=hk x (by simpa using hx)
      obtain ⟨u,hu⟩:=Option.isSome_iff_exists.1 this
      rw [ha.eval hu,om,hu];rfl
  unfold Oper.quietAt
  rw [e,ew h]
  exact ⟨rfl,rfl⟩
theorem OQ.move {x : Operand} (hx : ev E x=some v) : OQ P n E C ⟨dst,.move x,ty,pos,aft,g⟩ v:=by
  refine ⟨fun a ha w hw=>?_⟩
  have:=ha.eval hx
  exact ⟨rfl,this⟩
theorem OQ.assign {x : Operand} (hx : ev E x=some v) : OQ P n E C ⟨dst,.assign x,ty,pos,aft,g⟩ v:=by
  refine ⟨fun a ha w hw=>?_⟩
  have:=ha.eval hx
  exact ⟨rfl,this⟩
theorem OQ.run {op : Op} (h : ∀ a,an n E a→∀ w,C w→(execOp a.eval ⟨dst,op,ty,pos,aft,g⟩).run P w=.ok (.value v) w) : OQ P n E C ⟨dst,op,ty,pos,aft,g⟩ v:=by
  refine ⟨fun a ha w hw=>?_⟩
  unfold Oper.quietAt
  rw [h a ha w hw]
  exact ⟨rfl,rfl⟩
end
end Sl
end
section
namespace Sl
section
variable {P : Program} {md : Region.Mode} {ops : Array Oper} {C : World→Prop} {n : Nat}
def kj (P : Program) (md : Region.Mode) (ops : Array Oper) (C : World→Prop) (n : Nat) (L : Array Bool→Act→Prop) : Nat→Array Bool→Act→Prop
  | 0,done,a=>L done a
  | f+1,done,a=>Region.ready md ops done≠[]∧∀ i ∈ Region.ready md ops done,i<n∧qOp P ops C i (kj P md ops C n L f (done.setIfInBounds i true)) a
theorem ig {i : Nat} {oi : Oper} {v : Value} {L : Array Bool→Act→Prop} (hi : ops[i]?=some oi) (hsel : ∀ (j : Nat) (o : Oper) cs b,ops[j]?=some o→o.op≠.select cs b)
    (hs : Region.sinkB md ops n=true) (hc : Region.chainB md ops n=true) (hn : n<ops.size) (hin : i<n)
    (hend : ∀ done a,L done a→∀ j ∈ Region.ready md ops done,n≤j) :
    ∀ (f : Nat) (done : Array Bool) (a : Act),HeadInv md ops n done→
      (∀ j oj,ops[j]?=some oj→j≠i→done.getD j true=false→(∀ e ∈ oj.after,Region.binds md e=true→e.on≠i)→oi.apart ops oj=true)→
      i ∈ Region.ready md ops done→YieldsIn P ops C oi v a→
      kj P md ops C n L f (done.setIfInBounds i true) (a.put oi.dst v)→kj P md ops C n L (f+1) done a:=by
  intro f
  induction f with
  | zero=>
    intro done a inv _ hr hy H
    have hun:=(mem_ready.1 hr).1
    refine ⟨fun h=>(by rw [h] at hr;cases hr),fun j hj=>?_⟩
    have hjn : j<n:=Nat.lt_of_not_le fun h=>tail_waits hs hc hn inv _ i rfl hin hun j h hj
    refine ⟨hjn,?_⟩
    by_cases hji : j=i
    · subst hji;exact hy.qOp hi H
    · exact absurd (hend _ _ H j (ready_mono hj hji)) (by omega)
  | succ f ih=>
    intro done a inv hfree hr hy H
    have hun:=(mem_ready.1 hr).1
    refine ⟨fun h=>(by rw [h] at hr;cases hr),fun j hj=>?_⟩
    have hjn : j<n:=Nat.lt_of_not_le fun h=>tail_waits hs hc hn inv _ i rfl hin hun j h hj
    refine ⟨hjn,?_⟩
    by_cases hji : j=i
    · subst hji;exact hy.qOp hi H
    · obtain ⟨hjun,oj,hoj,hall⟩:=mem_ready.1 hj
      have hnot : ∀ e ∈ oj.after,Region.binds md e=true→e.on≠i:=fun e he hb heq=>by
        have h1:=hall e he hb
        rw [heq,getD_both hun] at h1
        cases h1
      have h2:=qOp_put hoj (hfree j oj hoj hji hjun hnot) (fun cs b=>hsel i oi cs b hi) (fun cs b=>hsel j oj cs b hoj) hy (H.2 j (ready_mono hj hji)).2
      refine qOp_mono (fun a' h3=>ih (done.setIfInBounds j true) a' (inv.set hj hjn) (fun k ok hk hki hkun hno=>hfree k ok hk hki ?_ hno) (ready_mono hr (Ne.symm hji)) h3.1 ?_) h2
      · by_cases hjk : j=k
        · subst hjk;exact hjun
        · rwa [getD_set_ne true hjk] at hkun
      · rw [Array.setIfInBounds_comm _ _ hji]
        exact h3.2
theorem eF {g : Nat} {Φ : Act→Prop} (hsel : Region.noSelect ops=true) (hs : Region.sinkB md ops n=true) (hc : Region.chainB md ops n=true) (hn : n<ops.size) :
    ∀ (l : List Oper) (k : Nat) (done : Array Bool) (a : Act),(∀ j,j<l.length→l[j]?=ops[k+j]?)→k+l.length=n→HeadInv md ops n done→
    Region.lexHead md ops g l.length k done=true→wpQuiet P ops C Φ l a→
    kj P md ops C n (fun done' a'=>Region.seqB md ops g n done'=true∧Φ a') l.length done a
  | [],k,done,a,_,hk,_,hB,h=>by
    have : k=n:=by simpa using hk
    subst this
    exact ⟨by simpa [Region.lexHead] using hB,h⟩
  | o::l,k,done,a,hl,hk,inv,hB,h=>by
    have h0 : ops[k]?=some o:=by simpa using (hl 0 (by simp)).symm
    simp only [List.length_cons,Region.lexHead,Bool.and_eq_true] at hB
    obtain ⟨⟨hr,hf⟩,hB'⟩:=hB
    have hkn : k<n:=by simp only [List.length_cons] at hk;omega
    have hr' : k ∈ Region.ready md ops done:=by simpa using hr
    have hst : qOp P ops C k (wpQuiet P ops C Φ l) a:=by unfold qOp;simp only [h0];exact h
    obtain ⟨v,hy,hK⟩:=yieldsIn_of_qOp h0 hst
    exact ig h0 (Region.noSelect_spec hsel) hs hc hn hkn (fun done' a' hL=>seqB_ready hL.1) l.length done a inv (Region.free_spec h0 hf) hr' hy
      (eF hsel hs hc hn l (k+1) _ _ (fun j hj=>by have:=hl (j+1) (by simp;omega);simpa [Nat.add_assoc,Nat.add_comm 1 j] using this) (by simp only [List.length_cons] at hk;omega) (inv.set hr' hkn) hB' hK)
end
section
variable {P : Program} {n : Nat} {w0 : World} {S : List Nat} {ops : Array Oper} {Q Q' : Exit→Act→World→Prop} {l : List Oper} {E E' : Env} {M M' : List ah}
structure JL (P : Program) (n : Nat) (w0 : World) (S : List Nat) (ops : Array Oper) (Q : Exit→Act→World→Prop) (l : List Oper) (E : Env) (M : List ah) : Prop where
  go : ∀ a w,an n E a→aa w0 S M w→wpList P ops Q l a w
structure JE (n : Nat) (w0 : World) (S : List Nat) (Q : Exit→Act→World→Prop) (e : Exit) (E : Env) (M : List ah) : Prop where
  go : ∀ a w,an n E a→aa w0 S M w→Q e a w
structure JC (P : Program) (n : Nat) (w0 : World) (S : List Nat) (Q : Exit→Act→World→Prop) (c : Code) (E : Env) (M : List ah) : Prop where
  go : ∀ a w,an n E a→aa w0 S M w→c.wp P Q a w
structure JQ (P : Program) (n : Nat) (w0 : World) (S : List Nat) (ops : Array Oper) (M : List ah) (Φ : Act→Prop) (l : List Oper) (E : Env) : Prop where
  go : ∀ a,an n E a→wpQuiet P ops (aa w0 S M) Φ l a
theorem JC.seq {x y : Code} (h : JC P n w0 S (Exit.then (y.wp P Q) Q) x E M) : JC P n w0 S Q (.seq x y) E M:=⟨fun a w ha hw=>wp_seq (h.go a w ha hw)⟩
theorem JC.skip (h : JE n w0 S Q .normal E M) : JC P n w0 S Q .skip E M:=⟨fun a w ha hw=>wp_skip (h.go a w ha hw)⟩
theorem JC.exit {id : Nat} (h : JE n w0 S Q (.exit id) E M) : JC P n w0 S Q (.exit id) E M:=⟨fun a w ha hw=>wp_exit (h.go a w ha hw)⟩
theorem JC.ret (h : JE n w0 S Q .ret E M) : JC P n w0 S Q .ret E M:=⟨fun a w ha hw=>wp_ret (h.go a w ha hw)⟩
theorem JC.block {id : Nat} {c : Code} (h : JC P n w0 S (Exit.inBlock id Q) c E M) : JC P n w0 S Q (.block id c) E M:=⟨fun a w ha hw=>wp_block (h.go a w ha hw)⟩
theorem JC.cond {c : Operand} {x y : Code} {t : Bool} (hc : ev E c=some (.bool t)) (ht : t=true→JC P n w0 S Q x E M) (hf : t=false→JC P n w0 S Q y E M) : JC P n w0 S Q (.cond c x y) E M:=
  ⟨fun a w ha hw=>wp_cond_split (ha.eval hc) (fun h=>(ht h).go a w ha hw) (fun h=>(hf h).go a w ha hw)⟩
theorem JC.cond_true {c : Operand} {x y : Code} {t : Bool} (hc : ev E c=some (.bool t)) (h : t=true) (ht : JC P n w0 S Q x E M) : JC P n w0 S Q (.cond c x y) E M:=
  JC.cond hc (fun _=>ht) (fun h'=>by rw [h] at h';cases h')
theorem JC.cond_false {c : Operand} {x y : Code} {t : Bool} (hc : ev E c=some (.bool t)) (h : t=false) (hf : JC P n w0 S Q y E M) : JC P n w0 S Q (.cond c x y) E M:=
  JC.cond hc (fun h'=>by rw [h] at h';cases h') (fun _=>hf)
theorem JC.region {id : Nat} {l : List Oper} (h : JL P n w0 S l.toArray Q l E M) : JC P n w0 S Q (.region id l.toArray false) E M:=⟨fun a w ha hw=>wp_region_lit (h.go a w ha hw)⟩
theorem JC.quiet {id : Nat} {l : List Oper} (hm : P.follows .mixedOrders=true) (hB : Region.lexB .any l.toArray=true)
    (h : JQ P n w0 S l.toArray M (fun a'=>∀ w',aa w0 S M w'→Q .normal a' w') l E) : JC P n w0 S Q (.region id l.toArray true) E M:=
  ⟨fun a _ ha hw=>wp_region_quiet hm hB (hw.drawn _) (by simpa using h.go a ha)⟩
theorem JC.weak {c : Code} (h : JC P n w0 S Q c E' M') (hE : aj E E') (hM : av M' M) : JC P n w0 S Q c E M:=
  ⟨fun a w ha hw=>h.go a w (ha.sub hE) (hw.weak hM)⟩
theorem JE.weak {e : Exit} (h : JE n w0 S Q e E' M') (hE : aj E E') (hM : av M' M) : JE n w0 S Q e E M:=
  ⟨fun a w ha hw=>h.go a w (ha.sub hE) (hw.weak hM)⟩
theorem JC.loop {ι : Type} (Ei : ι→Env) (Mi : ι→List ah) (μ : ι→Nat) (I : ι→Prop) {c : Code} (i : ι) (hi : I i) (hE : aj E (Ei i)) (hM : av (Mi i) M)
    (h : ∀ i,I i→JC P n w0 S (Exit.then (fun a' w'=>∃ j,I j∧μ j<μ i∧an n (Ei j) a'∧aa w0 S (Mi j) w') Q) c (Ei i) (Mi i)) : JC P n w0 S Q (.loop c) E M:=by
  refine ⟨fun a w ha hw=>?_⟩
  have ha':=ha.sub hE
  have hw':=hw.weak hM
  clear ha hw hE hM
  have key : ∀ m i,μ i=m→I i→∀ a w,an n (Ei i) a→aa w0 S (Mi i) w→∀ (b : Frame) (k : List Item) (cs : List Frame),
      ∃ e a' w',Q e a' w'∧Arrives P (lone (b.at a (.code c::.inLoop c::k)) cs w) b k cs e a' w':=by
    intro m
    induction m using Nat.strongRecOn with
    | _ m ih=>
      intro i hm hI a w ha hw b k cs
      obtain ⟨e,a₁,w₁,hq,harr⟩:=(h i hI).go a w ha hw b (.inLoop c::k) cs
      cases e with
      | normal=>
        obtain ⟨j,hj,hlt,ha₁,hw₁⟩:=hq
        obtain ⟨e₂,a₂,w₂,hq₂,harr₂⟩:=ih (μ j) (hm ▸ hlt) j rfl hj a₁ w₁ ha₁ hw₁ b k cs
        exact ⟨e₂,a₂,w₂,hq₂,.of_steps (Steps.trans harr (.one step_inLoop)) harr₂⟩
      | exit id=>exact ⟨_,a₁,w₁,hq,.pass (x:=.inLoop c) rfl (fun _ _=>.inl (by simp)) harr⟩
      | goto l=>exact ⟨_,a₁,w₁,hq,.pass (x:=.inLoop c) rfl (fun _ _=>.inl (by simp)) harr⟩
      | ret=>exact ⟨_,a₁,w₁,hq,.pass (x:=.inLoop c) rfl (fun _ _=>.inl (by simp)) harr⟩
      | panic ch=>exact ⟨_,a₁,w₁,hq,.pass (x:=.inLoop c) rfl (fun _ _=>.inl (by simp)) harr⟩
      | outgrown=>exact ⟨_,a₁,w₁,hq,.pass (x:=.inLoop c) rfl (fun _ _=>.inl (by simp)) harr⟩
  intro b k cs
  obtain ⟨e,a',w',hq,harr⟩:=key _ i rfl hi a w ha' hw' b k cs
  exact ⟨e,a',w',hq,.of_steps (.one step_loop) harr⟩
theorem JE.next {y : Code} (h : JC P n w0 S Q' y E M) : JE n w0 S (Exit.then (y.wp P Q') Q) .normal E M:=⟨h.go⟩
theorem JE.again {ι : Type} {Ei : ι→Env} {Mi : ι→List ah} {μ : ι→Nat} {I : ι→Prop} {i : ι} (j : ι) (hj : I j) (hμ : μ j<μ i) (hE : aj E (Ei j)) (hM : av (Mi j) M) :
    JE n w0 S (Exit.then (fun a' w'=>∃ j,I j∧μ j<μ i∧an n (Ei j) a'∧aa w0 S (Mi j) w') Q) .normal E M:=
  ⟨fun _ _ ha hw=>⟨j,hj,hμ,ha.sub hE,hw.weak hM⟩⟩
theorem JE.aJ {K : Act→World→Prop} {id : Nat} (h : JE n w0 S Q (.exit id) E M) : JE n w0 S (Exit.then K Q) (.exit id) E M:=⟨h.go⟩
theorem JE.az {K : Act→World→Prop} (h : JE n w0 S Q .ret E M) : JE n w0 S (Exit.then K Q) .ret E M:=⟨h.go⟩
theorem JE.au {id : Nat} (h : JE n w0 S Q .normal E M) : JE n w0 S (Exit.inBlock id Q) .normal E M:=⟨h.go⟩
theorem JE.aU {id : Nat} (h : JE n w0 S Q .ret E M) : JE n w0 S (Exit.inBlock id Q) .ret E M:=⟨h.go⟩
theorem JE.bk {id : Nat} (h : JE n w0 S Q .normal E M) : JE n w0 S (Exit.inBlock id Q) (.exit id) E M:=⟨fun a w ha hw=>by
  show (if id=id then Q .normal a w else _)
  rw [if_pos rfl];exact h.go a w ha hw⟩
theorem JL.nil (h : JE n w0 S Q .normal E M) : JL P n w0 S ops Q [] E M:=⟨h.go⟩
theorem JQ.nil (h : JE n w0 S Q .normal E M) : JQ P n w0 S ops M (fun a'=>∀ w',aa w0 S M w'→Q .normal a' w') [] E:=⟨fun a ha w hw=>h.go a w ha hw⟩
theorem JQ.kn {l' : List Oper} (h : JL P n w0 S ops Q l' E M) : JQ P n w0 S ops M (fun a'=>∀ w',aa w0 S M w'→wpList P ops Q l' a' w') [] E:=⟨fun a ha w hw=>h.go a w ha hw⟩
variable {d : Nat} {op : Op} {ty : TypeId} {pos : String} {aft : Array Edge} {v : Value}
theorem JL.q (h : OQ P n E (aa w0 S M) ⟨some d,op,ty,pos,aft,none⟩ v) (hd : Nat.blt d n=true) (k : JL P n w0 S ops Q l ((d,v)::E) M) : JL P n w0 S ops Q (⟨some d,op,ty,pos,aft,none⟩::l) E M:=
  ⟨fun a _ ha hw=>wpList_plain rfl fun _ hK=>Oper.wp_of_quiet (C:=aa w0 S M) (K:=fun a'=>a'=a.put (some d) v) hw (fun _ _ hw' e=>hK _ _ (e ▸ k.go _ _ (ha.put d v hd) hw')) ⟨v,h.go a ha,rfl⟩⟩
theorem JQ.q {Φ : Act→Prop} (h : OQ P n E (aa w0 S M) ⟨some d,op,ty,pos,aft,none⟩ v) (hd : Nat.blt d n=true) (k : JQ P n w0 S ops M Φ l ((d,v)::E)) : JQ P n w0 S ops M Φ (⟨some d,op,ty,pos,aft,none⟩::l) E:=
  ⟨fun a ha=>wpQuiet_step fun _ hK=>by
    simp only [Region.wanted,if_true]
    exact ⟨v,h.go a ha,hK _ (k.go _ (ha.put d v hd))⟩⟩
def cB (ops : Array Oper) (E : Env) (j : Nat) : Option Bool:=
  match (ops[j]?).bind (·.dst) with
  | some s=>match lk E s with
    | some (.bool b)=>some b
    | _=>none
  | none=>none
theorem eG {j : Nat} {b : Bool} (h : cB ops E j=some b) {a : Act} (ha : an n E a) (hn : ∀ s,(ops[j]?).bind (·.dst)=some s→Nat.blt s n=true) : yielded ops a.tmps j=some b:=by
  unfold cB at h
  unfold yielded
  cases hs : (ops[j]?).bind (·.dst) with
  | none=>simp [hs] at h
  | some s=>
    simp only [hs] at h
    have hlt : s<n:=by simpa using hn s hs
    cases hv : lk E s with
    | none=>simp [hv] at h
    | some u=>
      have h1:=ha.all s u hv
      have h2 : a.tmps[s]?=some u:=by
        have : s<a.tmps.size:=by rw [ha.size];exact hlt
        rw [Array.getElem?_eq_getElem this]
        simpa [Array.getD,this] using h1
      simp only [hv] at h
      cases u <;> simp at h
      subst h
      simp [h2]
def bK (ops : Array Oper) (n j : Nat) : Bool:=match (ops[j]?).bind (·.dst) with | some s=>Nat.blt s n | none=>false
theorem cu {j : Nat} (h : bK ops n j=true) : ∀ s,(ops[j]?).bind (·.dst)=some s→Nat.blt s n=true:=by
  intro s hs
  simpa [bK,hs] using h
variable {j : Nat} {want b : Bool}
theorem jH (h : cB ops E j=some b) (hf : bK ops n j=true) {a : Act} (ha : an n E a) : Region.wanted ⟨some d,op,ty,pos,aft,some (j,want)⟩ (yielded ops a.tmps)=(b == want):=by
  simp only [Region.wanted,eG h ha (cu hf)]
  cases b <;> cases want <;> rfl
theorem JL.cG (hg : cB ops E j=some b) (hf : bK ops n j=true) (hne : (b == want)=false) (hd : Nat.blt d n=true)
    (k : JL P n w0 S ops Q l ((d,undef)::E) M) : JL P n w0 S ops Q (⟨some d,op,ty,pos,aft,some (j,want)⟩::l) E M:=
  ⟨fun a w ha hw=>wpList_skip (by rw [jH hg hf ha];exact hne) (k.go _ _ (ha.put d undef hd) hw)⟩
end
end Sl
end
section
namespace Sl
def cellAt : Obj→Nat→Option Value
  | .cells c _ _,j=>c[j]?
  | _,_=>none
def Row (e : TypeId) (l : List Value) : Obj→Prop:=fun o=>o=.cells l.toArray e (0,0)
def p5 (e : TypeId) (l : List Value) : Obj→Prop:=fun o=>∃ sp : List Value,o=.cells (l++sp).toArray e (0,0)
def aV (o : Obj) (j : Nat) (cs : List Value) : Prop:=∃ c e fr,o=.cells c e fr∧∀ i,i<cs.length→c[j+i]?=cs[i]?
theorem Row.cell {e : TypeId} {l : List Value} {j : Nat} {v : Value} (h : l[j]?=some v) : ∀ o,Row e l o→cellAt o j=some v:=by
  rintro o rfl
  simpa [cellAt] using h
theorem p5.cell {e : TypeId} {l : List Value} {j : Nat} {v : Value} (h : l[j]?=some v) : ∀ o,p5 e l o→cellAt o j=some v:=by
  rintro o ⟨sp,rfl⟩
  have hj : j<l.length:=(List.getElem?_eq_some_iff.1 h).1
  simpa [cellAt,List.getElem?_append_left hj] using h
theorem Row.cells {e : TypeId} {l cs : List Value} {j : Nat} (h : (l.drop j).take cs.length=cs) : ∀ o,Row e l o→aV o j cs:=by
  rintro o rfl
  refine ⟨_,_,_,rfl,fun i hi=>?_⟩
  rw [← h]
  simp [hi]
theorem Row.all {e : TypeId} {l : List Value} : ∀ o,Row e l o→aV o 0 l:=Row.cells (by simp)
def ij (P : Program) (t : TypeId) : Bool:=
  match P.underlying t with
  | some (.struct _) | some (.array _ _)=>true
  | _=>false
def dy (P : Program) (t : TypeId) : Bool:=
  match P.underlying t with
  | some (.struct _) | some (.array _ _) | none=>false
  | _=>true
def bX (P : Program) (t : TypeId) : Option Nat:=(P.info? t).map (·.size)
section
variable {P : Program} {t : TypeId} {w w' : World} {b j : Nat} {v : Value} {cs : List Value}
theorem eH (h : dy P t=true) (w : World) : (isAgg t).run P w=.ok false w:=by
  unfold dy at h
  cases hu : P.underlying t with
  | none=>simp [hu] at h
  | some d=>
    unfold isAgg
    rw [Sem.run_bind,run_underlying hu w]
    cases d <;> simp_all
theorem jI (h : ij P t=true) (w : World) : (isAgg t).run P w=.ok true w:=by
  unfold ij at h
  cases hu : P.underlying t with
  | none=>simp [hu] at h
  | some d=>
    unfold isAgg
    rw [Sem.run_bind,run_underlying hu w]
    cases d <;> simp_all
theorem ax {k : Nat} (h : bX P t=some k) (w : World) : (sizeOf t).run P w=.ok k w:=by
  unfold bX at h
  cases hq : P.info? t with
  | none=>simp [hq] at h
  | some i=>
    have hs : i.size=k:=by simpa [hq] using h
    simp [sizeOf,typeInfo,hq,hs]
theorem aO (b j i : Nat) : (⟨b,j,none⟩ : Addr).add i=⟨b,j+i,none⟩:=by
  unfold Addr.add
  split <;> simp_all
theorem aS (hs : dy P t=true) (hc : w.cell? ⟨b,j,none⟩=some v) : (loadVar t ⟨b,j,none⟩).run P w=.ok v w:=by
  simp [loadVar,Sem.run_bind,eH hs,load,Sem.run,hc]
theorem dQ (ha : ij P t=true) (hz : bX P t=some cs.length) (hc : ∀ i u,cs[i]?=some u→w.cell? ⟨b,j+i,none⟩=some u) : (loadVar t ⟨b,j,none⟩).run P w=.ok (.agg cs.toArray) w:=by
  have hl : (loadCells ⟨b,j,none⟩ cs.length).run P w=.ok cs.toArray w:=run_loadCells_list (P:=P) w ⟨b,j,none⟩ cs (fun i u hu=>by rw [aO];exact hc i u hu)
  simp [loadVar,Sem.run_bind,jI ha,ax hz,hl]
theorem cell_of {o : Obj} (ho : w.heap[b]?=some o) (h : cellAt o j=some v) : w.cell? ⟨b,j,none⟩=some v:=by
  unfold World.cell?
  simp only [ho]
  cases o <;> simp_all [cellAt]
theorem eI {o : Obj} (ho : w.heap[b]?=some o) (h : aV o j cs) : ∀ i u,cs[i]?=some u→w.cell? ⟨b,j+i,none⟩=some u:=by
  intro i u hu
  obtain ⟨c,e,fr,rfl,hc⟩:=h
  have hi : i<cs.length:=(List.getElem?_eq_some_iff.1 hu).1
  exact cell_of ho (by simp [cellAt,hc i hi,hu])
end
section
variable {P : Program} {n : Nat} {w0 : World} {S : List Nat} {ops : Array Oper} {Q : Exit→Act→World→Prop} {l : List Oper} {E : Env} {M M' : List ah} {C : World→Prop}
variable {dst : Option Tmp} {d b j : Nat} {op : Op} {t ty : TypeId} {pos : String} {aft : Array Edge} {g : Option (Nat × Bool)} {v : Value} {x y : Operand} {A A' : Obj→Prop} {wr : Bool} {cs : List Value}
theorem OQ.cg (ha : ∀ w,C w→(loadVar t ⟨b,j,none⟩).run P w=.ok v w) (hx : ev E x=some (.pointer (some ⟨b,j,none⟩))) : OQ P n E C ⟨dst,.load t x,ty,pos,aft,g⟩ v:=
  OQ.run fun a hk w hw=>by
    have:=hk.eval hx
    simp [execOp,this,Instr.loadAt,Instr.sureAddr,ha w hw]
theorem OQ.load (hs : dy P t=true) (hx : ev E x=some (.pointer (some ⟨b,j,none⟩))) (hM : Has M b A wr) (hA : ∀ o,A o→cellAt o j=some v) : OQ P n E (aa w0 S M) ⟨dst,.load t x,ty,pos,aft,g⟩ v:=
  OQ.cg (fun _ hw=>let ⟨_,ho,hAo⟩:=hw.get hM;aS hs (cell_of ho (hA _ hAo))) hx
theorem OQ.aK (hs : dy P t=true) (hx : ev E x=some (.pointer (some ⟨b,j,none⟩))) (hb : b<w0.heap.size) (hS : b ∉ S) (hc : w0.cell? ⟨b,j,none⟩=some v) : OQ P n E (aa w0 S M) ⟨dst,.load t x,ty,pos,aft,g⟩ v:=
  OQ.cg (fun w hw=>aS hs (by simpa [World.cell?,hw.old hb hS] using hc)) hx
theorem OQ.ko {k : Nat} (ha : ij P t=true) (hz' : bX P t=some k) (hx : ev E x=some (.pointer (some ⟨b,j,none⟩))) (hM : Has M b A wr) (hl : cs.length=k) (hA : ∀ o,A o→aV o j cs) : OQ P n E (aa w0 S M) ⟨dst,.load t x,ty,pos,aft,g⟩ (.agg cs.toArray):=
  OQ.cg (fun _ hw=>let ⟨_,ho,hAo⟩:=hw.get hM;dQ ha (hl ▸ hz') (eI ho (hA _ hAo))) hx
def aM (P : Program) (f : FuncId) : Prop:=∃ fn,P.funcs[f]?=some fn∧fn.body.isNone=false∧(fn.name == "runtime.NumGoroutine")=false
def dx (E : Env) : List Operand→Option (List Value)
  | []=>some []
  | x::xs=>match ev E x,dx E xs with
    | some v,some vs=>some (v::vs)
    | _,_=>none
theorem ey {a : Act} (hk : an n E a) : ∀ {xs : List Operand} {vs : List Value},dx E xs=some vs→xs.map a.eval=vs
  | [],vs,h=>by simpa [dx] using h
  | x::xs,vs,h=>by
    simp only [dx] at h
    cases h1 : ev E x with
    | none=>simp [h1] at h
    | some v=>
      cases h2 : dx E xs with
      | none=>simp [h1,h2] at h
      | some us=>
        simp only [h1,h2,Option.some.injEq] at h
        subst h
        simp [hk.eval h1,ey hk h2]
theorem cC {f : FuncId} {xs : List Operand} {ats : Array TypeId} {vs : List Value} {a : Act} (hg : aM P f) (hk : an n E a) (hx : dx E xs=some vs) (w : World) :
    (execOp a.eval ⟨dst,.call ⟨.value (.func f),xs.toArray,ats⟩,ty,pos,aft,g⟩).run P w=.ok (.enter f vs.toArray) w:=by
  obtain ⟨fn,h1,h2,h3⟩:=hg
  have hm : xs.toArray.map a.eval=vs.toArray:=by simp [ey hk hx]
  have h2' : ¬ fn.body=none:=fun h=>by rw [h] at h2;cases h2
  have h3' : ¬ fn.name = "runtime.NumGoroutine" := by simpa using h3
  simp [execOp,resolve,Sem.run_bind,hm,Act.eval,Deferred.ofValue,invoke,callFunc,program,Sem.run,h1,h2',h3']
theorem OQ.call {f : FuncId} {xs : List Operand} {ats : Array TypeId} {vs : List Value} (hg : aM P f) (hx : dx E xs=some vs) (hc : ∀ w,C w→Calls P f vs.toArray w fun e w'=>e=.returned v∧C w') : OQ P n E C ⟨dst,.call ⟨.value (.func f),xs.toArray,ats⟩,ty,pos,aft,g⟩ v:=by
  refine ⟨fun a hk w hw=>?_⟩
  unfold Oper.quietAt
  rw [cC hg hk hx w]
  exact ⟨rfl,hc w hw⟩
theorem OQ.aH {f : FuncId} {xs : List Operand} {ats : Array TypeId} {vs : List Value} (hg : aM P f) (hx : dx E xs=some vs) (hc : ∀ w,aa w0 S M w→Calls P f vs.toArray w fun e w'=>e=.returned v∧Ext w w') :
    OQ P n E (aa w0 S M) ⟨dst,.call ⟨.value (.func f),xs.toArray,ats⟩,ty,pos,aft,g⟩ v:=
  OQ.call hg hx fun w hw=>(hc w hw).mono fun _ _ ⟨h1,h2⟩=>⟨h1,hw.ext h2⟩
theorem JL.call {ι : Type} (vf : ι→Value) (Mf : ι→List ah) {f : FuncId} {xs : List Operand} {ats : Array TypeId} {vs : List Value} (hg : aM P f) (hx : dx E xs=some vs) (hd : Nat.blt d n=true)
    (hc : ∀ w,aa w0 S M w→Calls P f vs.toArray w fun e w'=>∃ i,e=.returned (vf i)∧aa w0 S (Mf i) w')
    (k : ∀ i,JL P n w0 S ops Q l ((d,vf i)::E) (Mf i)) : JL P n w0 S ops Q (⟨some d,.call ⟨.value (.func f),xs.toArray,ats⟩,ty,pos,aft,none⟩::l) E M:=
  ⟨fun a w ha hw=>wpList_plain rfl fun K hK=>by
    unfold Oper.wp
    rw [cC hg ha hx w]
    exact (hc w hw).mono fun e w' ⟨i,h1,h2⟩=>by subst h1;exact hK _ _ ((k i).go _ _ (ha.put d _ hd) h2)⟩
def gx {α : Type} (P : Program) : Sem α→Option (Obj × (Nat→Sem α))
  | .new o k=>some (o,k)
  | .program k=>gx P (k P)
  | .mark _ k=>gx P k
  | _=>none
theorem eJ {α : Type} {vf : Nat→α} {ob : Obj} {kk : Nat→Sem α} : ∀ {s : Sem α} {w : World},gx P s=some (ob,kk)→(∀ r,me P (kk r)=some (vf r))→s.run P w=.ok (vf w.heap.size) { w with heap:=w.heap.push ob }
  | .new o k,w,h,h2=>by
    simp only [gx,Option.some.injEq,Prod.mk.injEq] at h
    obtain ⟨rfl,rfl⟩:=h
    exact ew (h2 _)
  | .program k,w,h,h2=>by simp only [gx] at h;exact eJ (s:=k P) h h2
  | .mark _ k,w,h,h2=>by simp only [gx] at h;exact eJ (s:=k) h h2
  | .load ..,_,h,_ | .store ..,_,h,_ | .pure ..,_,h,_ | .shape ..,_,h,_ | .freeze ..,_,h,_ | .frozen ..,_,h,_ | .getObj ..,_,h,_ | .setObj ..,_,h,_ | .choose ..,_,h,_ | .sys ..,_,h,_ | .halt ..,_,h,_=>by simp [gx] at h
theorem kq {o : Oper} {a : Act} (hs : gu o.op=true) (hk : known E o.op=true) (ha : an n E a) : execOp a.eval o=execOp (om E) o:=by
  refine execOp_congr _ (fun cs b hh=>?_) fun x hx=>?_
  · rw [hh] at hs;simp [gu] at hs
  · simp only [known,List.all_eq_true] at hk
    obtain ⟨u,hu⟩:=Option.isSome_iff_exists.1 (hk x (by simpa using hx))
    rw [ha.eval hu,om,hu];rfl
theorem JL.new (A : Obj→Prop) (vf : Nat→Value) {ob : Obj} {kk : Nat→Sem Next} (hs : gu op=true) (hk : known E op=true) (h1 : gx P (execOp (om E) ⟨some d,op,ty,pos,aft,none⟩)=some (ob,kk))
    (h2 : ∀ r,me P (kk r)=some (.value (vf r))) (hA : A ob) (hd : Nat.blt d n=true)
    (k : ∀ b,w0.heap.size≤b→JL P n w0 S ops Q l ((d,vf b)::E) (⟨b,A,true⟩::M)) : JL P n w0 S ops Q (⟨some d,op,ty,pos,aft,none⟩::l) E M:=
  ⟨fun a w ha hw=>wpList_plain rfl fun K hK=>by
    unfold Oper.wp
    rw [kq hs hk ha,eJ (vf:=fun r=>Next.value (vf r)) h1 h2]
    exact hK _ _ ((k w.heap.size hw.aq.size).go _ _ (ha.put d _ hd) (hw.push ob hA rfl rfl rfl rfl))⟩
@[reducible] def Pt (b j : Nat) : Value:=.pointer (some ⟨b,j,none⟩)
def zc (P : Program) (t : TypeId) : Option (List Value):=((P.info? t).bind (·.zero)).map (·.cells.toList)
theorem JL.alloc {r : List Value} (hz : zc P t=some r) (hd : Nat.blt d n=true)
    (k : ∀ b,w0.heap.size≤b→JL P n w0 S ops Q l ((d,Pt b 0)::E) (⟨b,Row t r,true⟩::M)) : JL P n w0 S ops Q (⟨some d,.alloc t,ty,pos,aft,none⟩::l) E M:=
  ⟨fun a w ha hw=>wpList_plain rfl fun K hK=>by
    have hr : (Instr.alloc t true (.tuple #[])).run P w=.ok (Pt w.heap.size 0) { w with heap:=w.heap.push (.cells r.toArray t (0,0)) }:=by
      unfold zc at hz
      cases hq : P.info? t with
      | none=>simp [hq] at hz
      | some i=>
        cases hi : i.zero with
        | none=>simp [hq,hi] at hz
        | some z=>
          simp only [hq,hi,Option.bind_some,Option.map_some,Option.some.injEq] at hz
          have h1 : z.cells=r.toArray:=by rw [← hz]
          simp [Instr.alloc,zeroValue,typeInfo,Sem.run_bind,hq,hi,newVar,newRow,newObj,h1,Sem.run]
    unfold Oper.wp
    simp only [execOp,Sem.run_bind,hr,Result.andThen_ok]
    exact hK _ _ ((k w.heap.size hw.aq.size).go _ _ (ha.put d _ hd) (hw.push (.cells r.toArray t (0,0)) rfl rfl rfl rfl rfl))⟩
theorem JL.box {r : List Value} (hx : ev E x=some v) (hr : v.cells=r.toArray) (hd : Nat.blt d n=true)
    (k : ∀ b,w0.heap.size≤b→JL P n w0 S ops Q l ((d,Pt b 0)::E) (⟨b,Row t r,true⟩::M)) : JL P n w0 S ops Q (⟨some d,.box t x,ty,pos,aft,none⟩::l) E M:=
  ⟨fun a w ha hw=>wpList_plain rfl fun K hK=>by
    have h1 : (Instr.box t v).run P w=.ok (Pt w.heap.size 0) { w with heap:=w.heap.push (.cells r.toArray t (0,0)) }:=by
      simp [Instr.box,newVar,newRow,newObj,hr,Sem.run]
    unfold Oper.wp
    simp only [execOp,ha.eval hx,Sem.run_bind,h1,Result.andThen_ok]
    exact hK _ _ ((k w.heap.size hw.aq.size).go _ _ (ha.put d _ hd) (hw.push (.cells r.toArray t (0,0)) rfl rfl rfl rfl rfl))⟩
theorem dz {α : Type} (f : α→Value) (d : α) {r : List α} {j : Nat} (h : j<r.length) : (r.map f)[j]?=some (f (r.getD j d)):=by
  simp [h]
theorem bJ {w : World} {c : Array Value} {e : TypeId} {fr : Nat × Nat} (ho : w.heap[b]?=some (.cells c e fr)) :
    (w.setCell ⟨b,j,none⟩ v).heap[b]?=some (.cells (c.setIfInBounds j v) e fr):=by
  simp [World.setCell,Array.getElem?_modify,ho]
theorem bC {w : World} {k : Nat} (h : k≠b) : (w.setCell ⟨b,j,none⟩ v).heap[k]?=w.heap[k]?:=by
  simp [World.setCell,Array.getElem?_modify,Ne.symm h]
theorem br {w : World} : (w.setCell ⟨b,j,none⟩ v).heap.size=w.heap.size:=by simp [World.setCell]
theorem cD {w : World} {c : Array Value} {e : TypeId} (hv : v.oneCell'=true) (ho : w.heap[b]?=some (.cells c e (0,0))) (hj : j<c.size) :
    (Go.store ⟨b,j,none⟩ v).run P w=.ok () (w.setCell ⟨b,j,none⟩ v):=by
  have hc : w.cell? ⟨b,j,none⟩=some c[j]:=by simp [World.cell?,ho,hj]
  have hf : w.frozen? ⟨b,j,none⟩=false:=by simp [World.frozen?,ho]
  cases v <;> simp_all [Go.store,Sem.run,Value.oneCell']
theorem aW {e : TypeId} : ∀ (vs : List Value) (i : Nat) (w : World) (c : List Value),(∀ v ∈ vs,v.oneCell'=true)→w.heap[b]?=some (.cells c.toArray e (0,0))→j+i+vs.length≤c.length→
    ∃ w',(storeCells ⟨b,j,none⟩ vs i).run P w=.ok () w'∧w'.heap[b]?=some (.cells (c.take (j+i)++vs++c.drop (j+i+vs.length)).toArray e (0,0))∧w'.heap.size=w.heap.size∧
      (∀ k,k≠b→w'.heap[k]?=w.heap[k]?)∧w'.os=w.os∧w'.tape=w.tape∧w'.output=w.output
  | [],i,w,c,_,ho,_=>⟨w,rfl,by simpa using ho,rfl,fun _ _=>rfl,rfl,rfl,rfl⟩
  | v::vs,i,w,c,h1,ho,hl=>by
    simp only [List.length_cons] at hl
    obtain ⟨w',r1,r2,r3,r4,r5,r6,r7⟩:=aW (e:=e) vs (i+1) (w.setCell ⟨b,j+i,none⟩ v) (c.set (j+i) v) (fun u hu=>h1 u (by simp [hu])) (by
      rw [bJ ho];simp) (by simp;omega)
    refine ⟨w',?_,?_,r3.trans br,fun k hk=>(r4 k hk).trans (bC hk),r5,r6,r7⟩
    · simp only [storeCells,Sem.run_bind,aO]
      rw [cD (h1 v (by simp)) ho (by simp;omega)]
      exact r1
    · rw [r2]
      congr 3
      rw [List.take_set,List.drop_set,if_pos (by omega)]
      rw [show j+(i+1)=j+i+1 by omega,List.take_add_one]
      simp only [List.getElem?_eq_getElem (show j+i<c.length by omega),Option.toList_some,List.length_cons]
      rw [List.set_append_right _ _ (by rw [List.length_take];omega)]
      simp [List.length_take,Nat.min_eq_left (show j+i≤c.length by omega),Nat.add_assoc,Nat.add_comm,Nat.add_left_comm]
theorem JL.p6 {hb : Option Tmp} (h : ∀ a w,an n E a→aa w0 S M w→∃ w',(execOp a.eval ⟨hb,op,ty,pos,aft,none⟩).run P w=.ok .skip w'∧wpList P ops Q l (a.put hb undef) w') : JL P n w0 S ops Q (⟨hb,op,ty,pos,aft,none⟩::l) E M:=
  ⟨fun a w ha hw=>wpList_plain rfl fun K hK=>by
    obtain ⟨w',h1,h2⟩:=h a w ha hw
    unfold Oper.wp
    rw [h1]
    exact hK _ _ h2⟩
theorem JL.store (hx : ev E x=some (.pointer (some ⟨b,j,none⟩))) (hy : ev E y=some v) (hz : bX P t=some 1) (hv : v.oneCell'=true) (hcl : v.cells=#[v]) (hu : eE M b A A' M')
    (hA : ∀ o,A o→∃ c e,o=.cells c e (0,0)∧j<c.size∧A' (.cells (c.setIfInBounds j v) e (0,0)))
    (k : JL P n w0 S ops Q l E M') : JL P n w0 S ops Q (⟨none,.store t x y,ty,pos,aft,none⟩::l) E M:=
  JL.p6 fun a w ha hw=>by
    obtain ⟨o,ho,hAo⟩:=hw.get hu.has
    obtain ⟨c,e,rfl,hj,hA'⟩:=hA o hAo
    refine ⟨w.setCell ⟨b,j,none⟩ v,?_,k.go _ _ (ha.gr _) (hw.write hu hA' (bJ ho) br (fun _ h=>bC h) rfl rfl rfl)⟩
    have hs : (storeCells ⟨b,j,none⟩ [v] 0).run P w=.ok () (w.setCell ⟨b,j,none⟩ v):=by
      simp only [storeCells,Sem.run_bind,aO,Nat.add_zero]
      rw [cD hv ho hj];rfl
    simp [execOp,ha.eval hx,ha.eval hy,Instr.storeAt,Instr.sureAddr,Sem.run_bind,storeVar,ax hz,hcl,hs]
theorem JL.bf {r r' : List Value} {e : TypeId} (hz : bX P t=some 1) (hx : ev E x=some (.pointer (some ⟨b,j,none⟩))) (hy : ev E y=some v) (hv : v.oneCell'=true) (hcl : v.cells=#[v]) (hu : eE M b (Row e r) (Row e r') M') (hj : j<r.length) (he : r.set j v=r')
    (k : JL P n w0 S ops Q l E M') : JL P n w0 S ops Q (⟨none,.store t x y,ty,pos,aft,none⟩::l) E M:=
  JL.store hx hy hz hv hcl hu (fun o ho=>⟨_,_,ho,by simpa using hj,by simp [Row,he]⟩) k
theorem JL.jJ {k : Nat} (hz' : bX P t=some k) (hx : ev E x=some (.pointer (some ⟨b,j,none⟩))) (hy : ev E y=some (.agg cs.toArray)) (hl : cs.length=k) (hv : cs.all Value.oneCell'=true) (hu : eE M b A A' M')
    (hA : ∀ o,A o→∃ r e,o=.cells (List.toArray r) e (0,0)∧j+cs.length≤r.length∧A' (.cells (r.take j++cs++r.drop (j+cs.length)).toArray e (0,0)))
    (k : JL P n w0 S ops Q l E M') : JL P n w0 S ops Q (⟨none,.store t x y,ty,pos,aft,none⟩::l) E M:=
  JL.p6 fun a w ha hw=>by
    have hz : bX P t=some cs.length:=hl ▸ hz'
    obtain ⟨o,ho,hAo⟩:=hw.get hu.has
    obtain ⟨r,e,rfl,hj,hA'⟩:=hA o hAo
    obtain ⟨w',r1,r2,r3,r4,r5,r6,r7⟩:=aW (P:=P) (j:=j) cs 0 w r (fun v hv'=>List.all_eq_true.1 hv v hv') ho (by omega)
    refine ⟨w',?_,k.go _ _ (ha.gr _) (hw.write hu hA' (by simpa using r2) r3 r4 r5 r6 r7)⟩
    simp [execOp,ha.eval hx,ha.eval hy,Instr.storeAt,Instr.sureAddr,Sem.run_bind,storeVar,ax hz,Value.cells,r1]
theorem JL.cE {r : List Value} {e : TypeId} {m : Nat} (hz : bX P t=some m) (hx : ev E x=some (.pointer (some ⟨b,0,none⟩))) (hy : ev E y=some (.agg cs.toArray)) (hc : cs.length=m) (hv : cs.all Value.oneCell'=true) (hu : eE M b (Row e r) (Row e cs) M')
    (hr : r.length=m) (k : JL P n w0 S ops Q l E M') : JL P n w0 S ops Q (⟨none,.store t x y,ty,pos,aft,none⟩::l) E M:=
  JL.jJ hz hx hy hc hv hu (fun o ho=>⟨r,e,ho,by omega,by simp [Row,hc,← hr]⟩) k
def enum : Nat→List Value→Env
  | _,[]=>[]
  | i,v::vs=>(i,v)::enum (i+1) vs
theorem jj : ∀ (vs : List Value) (i t : Nat) (v : Value),lk (enum i vs) t=some v→i≤t∧vs[t - i]?=some v
  | [],_,_,_,h=>by simp [enum,lk] at h
  | u::vs,i,t,v,h=>by
    simp only [enum,lk] at h
    by_cases e : i=t
    · subst e
      simp at h
      simp [h]
    · have : Nat.beq i t=false:=Bool.eq_false_iff.2 fun h=>e (Nat.eq_of_beq_eq_true h)
      rw [this] at h
      obtain ⟨h1,h2⟩:=jj vs (i+1) t v h
      refine ⟨by omega,?_⟩
      rw [show t - i=(t - (i+1))+1 by omega]
      simpa using h2
theorem an.enter (vs : List Value) (hl : vs.length≤n) : an n (enum 0 vs) ⟨vs.toArray++Array.replicate (n - vs.toArray.size) undef,[]⟩:=by
  refine ⟨by simp;omega,rfl,fun t v h=>?_⟩
  obtain ⟨_,h2⟩:=jj vs 0 t v h
  have ht : t<vs.length:=(List.getElem?_eq_some_iff.1 h2).1
  simp only [Nat.sub_zero] at h2
  have h3:=(List.getElem?_eq_some_iff.1 h2).2
  simp [Array.getD_eq_getD_getElem?,Array.getElem?_append,ht,h3]
theorem enter {f : FuncId} {fn : Func} {c : Code} {vs : List Value} {w : World} {R : Ending→World→Prop} (hf : P.funcs[f]?=some fn) (hb : fn.body=some c) (hn : fn.ntmps=n) (hl : Nat.ble vs.length n=true)
    (hM : aa w S M w) (h : JC P n w S (bodyPost P fn R) c (enum 0 vs) M) : Calls P f vs.toArray w R:=by
  refine calls_of_wp hf hb (h.go _ _ ?_ hM)
  rw [hn]
  exact an.enter vs (by simpa using hl)
def gy (tmps : Array Value) : ResultVar→Sem Value
  | .tmp t=>pure (tmps.getD t undef)
  | .cell p ty=>do loadVar ty (← asAddr (tmps.getD p undef))
theorem bL (fn : Func) (tmps : Array Value) : results fn tmps=(do let vs ← fn.results.mapM (gy tmps);pure (if h : vs.size=1 then vs[0] else .tuple vs)):=by
  unfold results
  congr 2
def RV (P : Program) (n : Nat) (w0 : World) (S : List Nat) (E : Env) (M : List ah) (r : ResultVar) (v : Value) : Prop:=
  ∀ a w,an n E a→aa w0 S M w→(gy a.tmps r).run P w=.ok v w
theorem RV.tmp {t : Tmp} (h : lk E t=some v) : RV P n w0 S E M (.tmp t) v:=fun a w ha _=>by
  simp only [gy,ha.all t v h];rfl
theorem RV.gz {p : Tmp} {k : Nat} (ha : ij P t=true) (hz : bX P t=some k) (h : lk E p=some (.pointer (some ⟨b,0,none⟩))) (hM : Has M b A wr) (hl : cs.length=k) (hA : ∀ o,A o→aV o 0 cs) : RV P n w0 S E M (.cell p t) (.agg cs.toArray):=fun a w hk hw=>by
  obtain ⟨o,ho,hAo⟩:=hw.get hM
  have:=dQ (P:=P) ha (hl ▸ hz) (eI ho (hA o hAo))
  simp [gy,hk.all p _ h,asAddr,this]
theorem RV.cell {p : Tmp} (h : lk E p=some (.pointer (some ⟨b,0,none⟩))) (ha : dy P t=true) (hM : Has M b A wr) (hA : ∀ o,A o→cellAt o 0=some v) : RV P n w0 S E M (.cell p t) v:=fun a w hk hw=>by
  obtain ⟨o,ho,hAo⟩:=hw.get hM
  have:=aS (P:=P) ha (cell_of ho (hA o hAo))
  simp [gy,hk.all p _ h,asAddr,this]
variable {fn : Func} {R : Ending→World→Prop} {r1 r2 r3 : ResultVar} {v1 v2 v3 : Value}
theorem JE.nK (hr : fn.results=#[]) (hR : ∀ w,aa w0 S M w→R (.returned (.tuple #[])) w) : JE n w0 S (bodyPost P fn R) .normal E M:=⟨fun a w ha hw=>
  ⟨ha.defers,.tuple #[],by simp [results,hr],hR w hw⟩⟩
theorem JE.aN (hr : fn.results=#[r1]) (h1 : RV P n w0 S E M r1 v1) (hR : ∀ w,aa w0 S M w→R (.returned v1) w) : JE n w0 S (bodyPost P fn R) .ret E M:=by
  refine ⟨fun a w ha hw=>?_⟩
  refine ⟨ha.defers,v1,?_,hR w hw⟩
  have e1:=h1 a w ha hw
  rw [bL,hr]
  simp [e1]
theorem JE.ot (hr : fn.results=#[r1,r2]) (h1 : RV P n w0 S E M r1 v1) (h2 : RV P n w0 S E M r2 v2) (hR : ∀ w,aa w0 S M w→R (.returned (.tuple #[v1,v2])) w) : JE n w0 S (bodyPost P fn R) .ret E M:=by
  refine ⟨fun a w ha hw=>?_⟩
  refine ⟨ha.defers,.tuple #[v1,v2],?_,hR w hw⟩
  have e1:=h1 a w ha hw
  have e2:=h2 a w ha hw
  rw [bL,hr]
  simp [Sem.run_bind,e1,e2]
end
end Sl
end
section
namespace Sl
@[reducible] def N (a : Nat) : Value:=.int .i64 a
@[reducible] def U8 (a : BitVec 8) : Value:=.int .u8 a.toNat
section
variable {P : Program} {n : Nat} {E : Env} {C : World→Prop} {dst : Option Tmp} {ty t t' : TypeId} {pos : String} {aft : Array Edge} {g : Option (Nat × Bool)} {x y : Operand} {u v r : Value} {o : BinOp}
def ou : BinOp→Bool
  | .eql | .neq=>false
  | _=>true
theorem OQ.bin (hx : ev E x=some u) (hy : ev E y=some v) (ho : ou o=true) (h : ∀ w,(binOp o t u v).run P w=.ok r w) : OQ P n E C ⟨dst,.binOp o t x y t',ty,pos,aft,g⟩ r:=
  OQ.run fun a ha w _=>by
    have h1:=ha.eval hx
    have h2:=ha.eval hy
    have hg : ∀ w,(eqGuard o t x y u v).run P w=.ok () w:=fun w=>by
      cases o <;> first | rfl | cases ho
    simp [execOp,h1,h2,Sem.run_bind,hg,h w]
theorem OQ.p7 {k : IntKind} {a b : Int} (hx : ev E x=some (.int k a)) (hy : ev E y=some (.int k b)) : OQ P n E C ⟨dst,.binOp .eql t x y t',ty,pos,aft,g⟩ (.bool (decide (a=b))):=
  OQ.run fun c ha w _=>by
    have h1:=ha.eval hx
    have h2:=ha.eval hy
    simp [execOp,h1,h2,eqGuard,binOp,Op.intCmp]
    rfl
theorem OQ.o9 {k : IntKind} {a b : Int} (hx : ev E x=some (.int k a)) (hy : ev E y=some (.int k b)) : OQ P n E C ⟨dst,.binOp .neq t x y t',ty,pos,aft,g⟩ (.bool (!decide (a=b))):=
  OQ.run fun c ha w _=>by
    have h1:=ha.eval hx
    have h2:=ha.eval hy
    simp [execOp,h1,h2,eqGuard,binOp,Op.intCmp]
    rfl
theorem dR {w : World} {k : IntKind} {i j : Int} (e : i=j) : (Result.ok (Value.int k i) w : Result Value)=.ok (.int k j) w:=by rw [e]
theorem dA {w : World} {i j : Bool} (e : i=j) : (Result.ok (Value.bool i) w : Result Value)=.ok (.bool j) w:=by rw [e]
theorem dS {a : Int} (h0 : -9223372036854775808≤a) (h : a<9223372036854775808) : IntKind.i64.wrap a=a:=by
  simp [IntKind.wrap,IntKind.bits,IntKind.signed];omega
theorem OQ.bn {a b : Nat} (hx : ev E x=some (N a)) (hy : ev E y=some (N b)) (h : a+b<9223372036854775808) : OQ P n E C ⟨dst,.binOp .add t x y t',ty,pos,aft,g⟩ (N (a+b)):=
  OQ.bin hx hy rfl fun _=>dR (k:=.i64) (show IntKind.i64.wrap ((a : Int)+b)=((a+b : Nat) : Int) from (dS (by omega) (by omega)).trans (by simp))
theorem OQ.iq {a b : Nat} (hx : ev E x=some (N a)) (hy : ev E y=some (N b)) (h : b≤a) (h2 : a<9223372036854775808) : OQ P n E C ⟨dst,.binOp .sub t x y t',ty,pos,aft,g⟩ (N (a - b)):=
  OQ.bin hx hy rfl fun _=>dR (k:=.i64) (show IntKind.i64.wrap ((a : Int) - b)=((a - b : Nat) : Int) from (dS (by omega) (by omega)).trans (by omega))
theorem OQ.qg {a b : Nat} (hx : ev E x=some (N a)) (hy : ev E y=some (N b)) (h : 0<b) (h2 : a<9223372036854775808) : OQ P n E C ⟨dst,.binOp .quo t x y t',ty,pos,aft,g⟩ (N (a / b)):=
  OQ.bin hx hy rfl fun w=>by
    have h3 : a / b≤a:=Nat.div_le_self _ _
    have h4 : ((a : Int).tdiv b)=((a / b : Nat) : Int):=by rw [Int.tdiv_eq_ediv_of_nonneg (by omega)];exact_mod_cast rfl
    have h5 : ¬ (b : Int)=0:=by omega
    have h6 : IntKind.i64.wrap ((a : Int).tdiv b)=((a / b : Nat) : Int):=by rw [h4];generalize a / b=c at h3;exact dS (by omega) (by omega)
    have h7 : Op.intDiv .quo .i64 (a : Int) b=(Pure.pure (.int .i64 (IntKind.i64.wrap ((a : Int).tdiv b))) : Sem Value):=by simp only [Op.intDiv,if_neg h5]
    show Sem.run P (Op.intDiv .quo .i64 (a : Int) b) w=_
    rw [h7,h6];rfl
theorem OQ.pg {a b : Nat} (hx : ev E x=some (N a)) (hy : ev E y=some (N b)) (h : 0<b) : OQ P n E C ⟨dst,.binOp .rem t x y t',ty,pos,aft,g⟩ (N (a % b)):=
  OQ.bin hx hy rfl fun w=>by
    have h4 : ((a : Int).tmod b)=((a % b : Nat) : Int):=by rw [Int.tmod_eq_emod_of_nonneg (by omega)];exact_mod_cast rfl
    have h5 : ¬ (b : Int)=0:=by omega
    have h7 : Op.intDiv .rem .i64 (a : Int) b=(Pure.pure (.int .i64 ((a : Int).tmod b)) : Sem Value):=by simp only [Op.intDiv,if_neg h5]
    show Sem.run P (Op.intDiv .rem .i64 (a : Int) b) w=_
    rw [h7,h4];rfl
theorem OQ.gA {a b : Nat} (hx : ev E x=some (N a)) (hy : ev E y=some (N b)) : OQ P n E C ⟨dst,.binOp .lss t x y t',ty,pos,aft,g⟩ (.bool (decide (a<b))):=
  OQ.bin hx hy rfl fun _=>dA (decide_eq_decide.2 Int.ofNat_lt)
theorem OQ.pn {a b : Nat} (hx : ev E x=some (N a)) (hy : ev E y=some (N b)) : OQ P n E C ⟨dst,.binOp .gtr t x y t',ty,pos,aft,g⟩ (.bool (decide (b<a))):=
  OQ.bin hx hy rfl fun _=>dA (decide_eq_decide.2 Int.ofNat_lt)
theorem OQ.pq {a b : Nat} (hx : ev E x=some (N a)) (hy : ev E y=some (N b)) : OQ P n E C ⟨dst,.binOp .geq t x y t',ty,pos,aft,g⟩ (.bool (decide (b≤a))):=
  OQ.bin hx hy rfl fun _=>dA (decide_eq_decide.2 Int.ofNat_le)
theorem OQ.qh {a b : Nat} (hx : ev E x=some (N a)) (hy : ev E y=some (N b)) : OQ P n E C ⟨dst,.binOp .neq t x y t',ty,pos,aft,g⟩ (.bool (!decide (a=b))):=
  (decide_eq_decide.2 Int.ofNat_inj : decide ((a : Int)=b)=decide (a=b)) ▸ OQ.o9 hx hy
theorem cX {k : Nat} (a : BitVec k) : BitVec.ofInt k (a.toNat : Int)=a:=by simp
theorem ov (a : Nat) : IntKind.u8.wrap (a : Int)=((a % 2 ^ 8 : Nat) : Int):=by simp [IntKind.wrap,IntKind.bits,IntKind.signed]
theorem kr (a : BitVec 8) : IntKind.u8.wrap (a.toNat : Int)=a.toNat:=by rw [ov,Nat.mod_eq_of_lt a.isLt]
end
end Sl
end
section
namespace Sl
section
variable {P : Program} {n : Nat} {E : Env} {C : World→Prop} {dst : Option Tmp} {ty t t' e : TypeId} {pos : String} {aft : Array Edge} {g : Option (Nat × Bool)} {x y : Operand} {u v r : Value}
theorem OQ.conv {k k' : IntKind} {d : TypeDesc} {i : Int} (hs : P.underlying t=some d) (hd : P.underlying t'=some (.int k)) (hx : ev E x=some (.int k' i)) (hv : v=.int k (k.wrap i)) : OQ P n E C ⟨dst,.convert t t' x,ty,pos,aft,g⟩ v:=by
  subst hv
  refine OQ.run fun a ha w _=>?_
  have h1:=ha.eval hx
  have h2 : (underlying t).run P w=.ok d w:=run_underlying hs w
  have h3 : (underlying t').run P w=.ok (.int k) w:=run_underlying hd w
  cases d <;> simp [execOp,h1,convert,Sem.run_bind,h2,h3,Conv.intToInt]
theorem OQ.ow {len cap b j i sz : Nat} (hu : P.underlying t=some (.slice e)) (hz : bX P e=some sz) (hx : ev E x=some (.slice (some ⟨b,j,none⟩) len cap)) (hy : ev E y=some (N i)) (hi : i<len) :
    OQ P n E C ⟨dst,.indexAddr t x y,ty,pos,aft,g⟩ (.pointer (some ⟨b,j+i * sz,none⟩)):=
  OQ.run fun a ha w _=>by
    have h1:=ha.eval hx
    have h2:=ha.eval hy
    have h3 : (underlying t).run P w=.ok (.slice e) w:=run_underlying hu w
    simp [execOp,h1,h2,Instr.indexAt,asIntOf,Sem.run_bind,h3,hi,ax hz,aO]
theorem OQ.fz {len cap b i : Nat} (hu : P.underlying t=some (.slice e)) (hz : bX P e=some 1) (hx : ev E x=some (.slice (some ⟨b,0,none⟩) len cap)) (hy : ev E y=some (N i)) (hi : i<len) :
    OQ P n E C ⟨dst,.indexAddr t x y,ty,pos,aft,g⟩ (.pointer (some ⟨b,i,none⟩)):=by
  have:=OQ.ow (P:=P) (n:=n) (C:=C) (dst:=dst) (ty:=ty) (pos:=pos) (aft:=aft) (g:=g) hu hz hx hy hi
  rwa [Nat.mul_one,Nat.zero_add] at this
theorem OQ.bI {len cap b j i : Nat} (hu : P.underlying t=some (.slice e)) (hz : bX P e=some 1) (hx : ev E x=some (.slice (some ⟨b,j,none⟩) len cap)) (hy : ev E y=some (N i)) (hi : i<len) :
    OQ P n E C ⟨dst,.indexAddr t x y,ty,pos,aft,g⟩ (.pointer (some ⟨b,j+i,none⟩)):=by
  have:=OQ.ow (P:=P) (n:=n) (C:=C) (dst:=dst) (ty:=ty) (pos:=pos) (aft:=aft) (g:=g) hu hz hx hy hi
  rwa [Nat.mul_one] at this
theorem OQ.index {len i : Nat} {cs : List Value} (hu : P.underlying t=some (.array len e)) (hz : bX P e=some 1) (hs : dy P e=true) (hx : ev E x=some (.agg cs.toArray)) (hy : ev E y=some (N i)) (hi : i<len) (hv : cs[i]?=some v) :
    OQ P n E C ⟨dst,.index t x y,ty,pos,aft,g⟩ v:=
  OQ.run fun a ha w _=>by
    have h1:=ha.eval hx
    have h2:=ha.eval hy
    have h3 : (underlying t).run P w=.ok (.array len e) w:=run_underlying hu w
    simp [execOp,h1,h2,Instr.index,asIntOf,Sem.run_bind,h3,hi,ax hz,part,eH hs,hv]
theorem OQ.jK {s f : Nat} {fs : Array Field} {fd : Field} {b j sz : Nat} (hu : P.underlying s=some (.struct fs)) (hf : fs[f]?=some fd) (hz : bX P fd.type=some sz) (h0 : sz≠0) (hx : ev E x=some (.pointer (some ⟨b,j,none⟩))) :
    OQ P n E C ⟨dst,.fieldAddr s x f,ty,pos,aft,g⟩ (.pointer (some ⟨b,j+fd.offset,none⟩)):=
  OQ.run fun a ha w _=>by
    have h1:=ha.eval hx
    have h3 : (underlying s).run P w=.ok (.struct fs) w:=run_underlying hu w
    simp [execOp,h1,Instr.fieldAt,Sem.run_bind,h3,hf,Instr.sureAddr,fieldPlace,ax hz,h0,aO]
theorem OQ.ku {len cap lo sz : Nat} {ad : Option Addr} (hu : P.underlying t=some (.slice e)) (hz : bX P e=some sz) (hx : ev E x=some (.slice ad len cap)) (hl : ev E y=some (N lo)) (h : lo≤len) :
    OQ P n E C ⟨dst,.slice t x (some y) none none,ty,pos,aft,g⟩ (.slice (if cap=lo then ad else ad.map (·.add (lo * sz))) (len - lo) (cap - lo)):=
  OQ.run fun a ha w _=>by
    have h1:=ha.eval hx
    have h2:=ha.eval hl
    have h3 : (underlying t).run P w=.ok (.slice e) w:=run_underlying hu w
    simp [execOp,h1,h2,Instr.sliceAt,Sem.run_bind,h3,Instr.slice,Instr.sliceBounds,Instr.sliceBound,asIntOf,h,ax hz]
theorem OQ.fP {len cap hi sz : Nat} {ad : Option Addr} (hu : P.underlying t=some (.slice e)) (hz : bX P e=some sz) (hx : ev E x=some (.slice ad len cap)) (hh : ev E y=some (N hi)) (h : hi≤cap) :
    OQ P n E C ⟨dst,.slice t x none (some y) none,ty,pos,aft,g⟩ (.slice (if cap=0 then ad else ad.map (·.add 0)) hi cap):=
  OQ.run fun a ha w _=>by
    have h1:=ha.eval hx
    have h2:=ha.eval hh
    have h3 : (underlying t).run P w=.ok (.slice e) w:=run_underlying hu w
    simp [execOp,h1,h2,Instr.sliceAt,Sem.run_bind,h3,Instr.slice,Instr.sliceBounds,Instr.sliceBound,asIntOf,h,ax hz]
end
end Sl
end
section
namespace Sl
def Reads (w : World) (ad : Option Addr) (cs : List Value) : Prop:=∀ i v,cs[i]?=some v→∃ b j,ad=some ⟨b,j,none⟩∧w.cell? ⟨b,j+i,none⟩=some v
theorem Reads.nil (w : World) (ad : Option Addr) : Reads w ad []:=by intro i v h;simp at h
theorem Reads.at {w : World} {ad : Option Addr} {cs : List Value} (h : Reads w ad cs) (h0 : 0<cs.length) : ∃ b j,ad=some ⟨b,j,none⟩∧∀ i v,cs[i]?=some v→w.cell? ⟨b,j+i,none⟩=some v:=by
  obtain ⟨b,j,h1,_⟩:=h 0 cs[0] (by simp [h0])
  refine ⟨b,j,h1,fun i v hv=>?_⟩
  obtain ⟨b',j',h2,h3⟩:=h i v hv
  rw [h1] at h2
  cases h2
  exact h3
theorem Reads.of {w : World} {b j : Nat} {cs : List Value} (h : ∀ i v,cs[i]?=some v→w.cell? ⟨b,j+i,none⟩=some v) : Reads w (some ⟨b,j,none⟩) cs:=fun i v hv=>⟨b,j,rfl,h i v hv⟩
theorem Reads.block {w : World} {b j : Nat} {cs : List Value} {o : Obj} (ho : w.heap[b]?=some o) (h : aV o j cs) : Reads w (some ⟨b,j,none⟩) cs:=.of (eI ho h)
theorem Reads.take {w : World} {ad : Option Addr} {cs : List Value} (h : Reads w ad cs) (k : Nat) : Reads w ad (cs.take k):=fun i v hv=>h i v (by
  rw [List.getElem?_take] at hv
  split at hv
  · exact hv
  · cases hv)
theorem Reads.drop {w : World} {ad : Option Addr} {cs : List Value} {len cap lo : Nat} (h : Reads w ad cs) (hl : cs.length=len) (hc : len≤cap) (hlo : lo≤len) : Reads w (if cap=lo then ad else ad.map (·.add (lo * 1))) (cs.drop lo):=by
  by_cases e : cap=lo
  · rw [if_pos e,List.drop_of_length_le (by omega)]
    exact .nil _ _
  · rw [if_neg e]
    intro i v hv
    rw [List.getElem?_drop] at hv
    obtain ⟨b,j,h1,h2⟩:=h _ v hv
    refine ⟨b,j+lo,by simp [h1,aO],by rw [Nat.add_assoc];exact h2⟩
section
variable {P : Program} {w : World} {cs : List Value} {ad : Option Addr} {m c sz : Nat}
theorem cw (hl : cs.length=m * sz) (h : Reads w ad cs) (len : Nat) : (Builtin.firstCells sz m (.slice ad len c)).run P w=.ok cs.toArray w:=by
  by_cases h0 : cs=[]
  · subst h0
    have hm : m * sz=0:=by simpa using hl.symm
    cases ad with
    | none=>rfl
    | some a=>simp [Builtin.firstCells,hm,loadCells,loadCellsFrom]
  · obtain ⟨b,j,rfl,h2⟩:=h.at (List.length_pos_iff.2 h0)
    exact run_firstCells_some (P:=P) w sz m ⟨b,j,none⟩ len c cs hl (fun i v hv=>by rw [aO];exact h2 i v hv)
end
def EI (P : Program) (e : TypeId) (z : Value) (sz bytes : Nat) : Prop:=(P.info? e).map (fun i=>(i.zero,i.size,i.bytes))=some (some z,sz,bytes)
theorem EI.get {P : Program} {e : TypeId} {z : Value} {sz bytes : Nat} (h : EI P e z sz bytes) : ∃ i,P.info? e=some i∧i.zero=some z∧i.size=sz∧i.bytes=bytes:=by
  unfold EI at h
  cases hq : P.info? e with
  | none=>simp [hq] at h
  | some i=>simp only [hq,Option.map_some,Option.some.injEq,Prod.mk.injEq] at h;exact ⟨i,rfl,h⟩
theorem EI.sz {P : Program} {e : TypeId} {z : Value} {sz bytes : Nat} (h : EI P e z sz bytes) : bX P e=some sz:=by
  obtain ⟨i,h1,_,h2,_⟩:=h.get
  simp [bX,h1,h2]
def Own (e : TypeId) (sz n cap : Nat) (xs : List Value) : Obj→Prop:=fun o=>∃ sp : List Value,o=.cells (xs++sp).toArray e (0,0)∧(xs++sp).length=cap * sz∧xs.length=n * sz∧n≤cap
theorem Sl.Own.cells {e : TypeId} {sz n cap : Nat} {xs : List Value} : ∀ o,Sl.Own e sz n cap xs o→aV o 0 xs:=by
  rintro o ⟨sp,rfl,_⟩
  exact ⟨_,_,_,rfl,fun i hi=>by simp [List.getElem?_append_left hi]⟩
theorem Sl.Own.cell {e : TypeId} {sz n cap j : Nat} {v : Value} {xs : List Value} (h : xs[j]?=some v) : ∀ o,Sl.Own e sz n cap xs o→cellAt o j=some v:=by
  rintro o ⟨sp,rfl,_⟩
  have hj : j<xs.length:=(List.getElem?_eq_some_iff.1 h).1
  simpa [cellAt,List.getElem?_append_left hj] using h
inductive bU : List ah→Nat→(Obj→Prop)→Nat→(Obj→Prop)→List ah→Prop where
  | here {b A b' A' M} : bU (⟨b,A,true⟩::M) b A b' A' (⟨b',A',true⟩::M)
  | there {e M b A b' A' M'} : bU M b A b' A' M'→bU (e::M) b A b' A' (e::M')
section
variable {w0 : World} {S : List Nat} {M M' : List ah} {w w' : World} {b b' : Nat} {A A' : Obj→Prop}
theorem bU.has (h : bU M b A b' A' M') : Has M b A true:=by
  induction h with
  | here=>exact .here
  | there _ ih=>exact .there ih
theorem bU.p8 (h : bU M b A b A' M') : eE M b A A' M':=by
  generalize hb : b=b1 at h
  have : b=b1:=hb
  clear hb
  suffices ∀ {M M' : List ah} {b b1 : Nat} {A A' : Obj→Prop},bU M b A b1 A' M'→b=b1→eE M b A A' M' by exact this (by rw [← ‹b=b1›] at h ⊢;exact h) rfl
  intro M M' b b1 A A' h e
  induction h with
  | here=>subst e;exact .here
  | there _ ih=>exact .there (ih e)
theorem bU.mem (h : bU M b A b' A' M') : ∀ e ∈ M',e=⟨b',A',true⟩∨e ∈ M:=by
  induction h with
  | here=>
    intro e he
    simp only [List.mem_cons] at he
    rcases he with rfl | he
    · exact .inl rfl
    · exact .inr (by simp [he])
  | there _ ih=>
    intro e he
    simp only [List.mem_cons] at he
    rcases he with rfl | he
    · exact .inr (by simp)
    · rcases ih e he with h | h
      · exact .inl h
      · exact .inr (by simp [h])
theorem bU.nodup (h : bU M b A b' A' M') (hn : (M.map ah.b).Nodup) (hb : b' ∉ M.map ah.b) : (M'.map ah.b).Nodup:=by
  induction h with
  | here=>
    simp only [List.map_cons,List.nodup_cons,List.mem_cons,not_or] at hn hb ⊢
    exact ⟨hb.2,hn.2⟩
  | @there e M b A b' A' M' hr ih=>
    simp only [List.map_cons,List.nodup_cons,List.mem_cons,not_or] at hn hb ⊢
    refine ⟨fun hm=>?_,ih hn.2 hb.2⟩
    obtain ⟨x,hx,hxe⟩:=List.mem_map.1 hm
    rcases hr.mem x hx with rfl | hx
    · exact hb.1 hxe
    · exact hn.1 (hxe ▸ List.mem_map_of_mem hx)
theorem aa.renew (h : aa w0 S M w) (o : Obj) (hr : bU M b A w.heap.size A' M') (hA : A' o) (hw : w'.heap=w.heap.push o) (h1 : w'.os=w.os) (h2 : w'.tape=w.tape) (h3 : w'.output=w.output) : aa w0 S M' w':=by
  have hp:=h.push o hA hw h1 h2 h3
  refine ⟨hp.aq,hr.nodup h.nodup ?_,fun e he=>?_⟩
  · intro hm
    obtain ⟨e,he,hb⟩:=List.mem_map.1 hm
    have:=h.lt he
    omega
  · rcases hr.mem e he with rfl | he
    · exact hp.all _ (by simp)
    · exact hp.all e (by simp [he])
theorem aa.fresh (h : aa w0 S M w) (hx : Ext w w') (hb : w.heap.size≤b) {o : Obj} (ho : w'.heap[b]?=some o) (hA : A o) : aa w0 S (⟨b,A,true⟩::M) w':=by
  have h':=h.ext hx
  refine ⟨h'.aq,?_,fun e he=>?_⟩
  · simp only [List.map_cons,List.nodup_cons,h.nodup,and_true]
    intro hm
    obtain ⟨e,he,hbe⟩:=List.mem_map.1 hm
    have:=h.lt he
    omega
  · simp only [List.mem_cons] at he
    rcases he with rfl | he
    · exact ⟨⟨o,ho,hA⟩,fun _=>.inr (Nat.le_trans h.aq.size hb)⟩
    · exact h'.all e he
theorem aa.one {o : Obj} (ho : w.heap[b]?=some o) (hA : A o) : aa w [b] [⟨b,A,true⟩] w:=⟨eD.refl _ _,by simp,by simp [ho,hA]⟩
theorem aa.reads (h : aa w0 S M w) {ad : Option Addr} {cs : List Value} (hr : Reads w0 ad cs) (hS : cs≠[]→∀ a,ad=some a→a.block ∉ S) : Reads w ad cs:=by
  intro i v hv
  have hcs : cs≠[]:=by rintro rfl;simp at hv
  obtain ⟨b,j,h1,h2⟩:=hr i v hv
  have hb : b<w0.heap.size:=block_lt_of_cell h2
  exact ⟨b,j,h1,by simpa [World.cell?,h.old hb (hS hcs _ h1)] using h2⟩
end
section
variable {P : Program} {n : Nat} {w0 : World} {S : List Nat} {ops : Array Oper} {Q : Exit→Act→World→Prop} {l : List Oper} {E : Env} {M : List ah} {C : World→Prop}
variable {dst : Option Tmp} {d b j : Nat} {t ty e : TypeId} {pos : String} {aft : Array Edge} {g : Option (Nat × Bool)} {v : Value} {x y : Operand} {A A' : Obj→Prop} {cs : List Value}
theorem OQ.ir {a : Addr} (hx : ev E x=some (.pointer (some a))) : OQ P n E C ⟨dst,.nilCheck x,ty,pos,aft,g⟩ (.pointer (some a)):=
  OQ.run fun c hk w _=>by
    have h1:=hk.eval hx
    simp [execOp,h1]
theorem OQ.len {ad : Option Addr} {k cap : Nat} (hu : P.underlying t=some (.slice e)) (hx : ev E x=some (.slice ad k cap)) : OQ P n E C ⟨dst,.call ⟨.builtin .len,#[x],#[t]⟩,ty,pos,aft,g⟩ (N k):=
  OQ.run fun a hk w _=>by
    have h1:=hk.eval hx
    have h3 : (underlying t).run P w=.ok (.slice e) w:=run_underlying hu w
    simp [execOp,h1,resolve,invoke,builtin,Builtin.len_,Sem.run_bind,h3,goInt]
theorem kz {t' : TypeId} {w : World} {ad : Option Addr} {dl dc sl sc : Nat} {r : List Value} (hu : P.underlying t=some (.slice e)) (hz : bX P e=some 1) (ho : w.heap[b]?=some (.cells r.toArray ty (0,0)))
    (hl : cs.length=sl) (hr : Reads w ad cs) (h1 : ∀ v ∈ cs,v.oneCell'=true) (hj : j+min sl dl≤r.length) :
    ∃ w',(Builtin.copy_ #[t,t'] 0 #[.slice (some ⟨b,j,none⟩) dl dc,.slice ad sl sc]).run P w=.ok (N (min sl dl)) w'∧w'.heap[b]?=some (.cells (r.take j++cs.take (min sl dl)++r.drop (j+min sl dl)).toArray ty (0,0))∧w'.heap.size=w.heap.size∧
      (∀ k,k≠b→w'.heap[k]?=w.heap[k]?)∧w'.os=w.os∧w'.tape=w.tape∧w'.output=w.output:=by
  have hlen : (cs.take (min sl dl)).length=min sl dl:=by simp;omega
  obtain ⟨w',r1,r2,r3,r4,r5,r6,r7⟩:=aW (P:=P) (b:=b) (j:=j) (e:=ty) (cs.take (min sl dl)) 0 w r (fun v hv=>h1 v (List.mem_of_mem_take hv)) ho (by omega)
  refine ⟨w',?_,by rw [hlen] at r2;simpa using r2,r3,r4,r5,r6,r7⟩
  have h3 : (underlying t).run P w=.ok (.slice e) w:=run_underlying hu w
  have h4:=cw (P:=P) (m:=min sl dl) (sz:=1) (c:=sc) (by rw [hlen,Nat.mul_one]) (hr.take (min sl dl)) sl
  simp only [Builtin.copy_,Sem.run_bind,Sem.run_pure,h3,Result.andThen_ok,Builtin.lenOf,ax hz,List.getElem?_toArray,List.getElem?_cons_zero,List.getElem?_cons_succ]
  have h5 : Nat.min sl dl=min sl dl:=rfl
  rw [h5,h4]
  simp only [Result.andThen_ok,r1]
  rfl
theorem JL.copy {t' : TypeId} {ad : Option Addr} {dl dc sl sc : Nat} {r r' : List Value} {M' : List ah} {te : TypeId} (hu : P.underlying t=some (.slice e)) (hz : bX P e=some 1) (hx : ev E x=some (.slice (some ⟨b,j,none⟩) dl dc)) (hy : ev E y=some (.slice ad sl sc))
    (hup : eE M b (Row te r) (Row te r') M') (hl : cs.length=sl) (hr : ∀ w,aa w0 S M w→Reads w ad cs) (h1 : ∀ v ∈ cs,v.oneCell'=true) (hj : j+min sl dl≤r.length) (he : r.take j++cs.take (min sl dl)++r.drop (j+min sl dl)=r') (hd : Nat.blt d n=true)
    (k : JL P n w0 S ops Q l ((d,N (min sl dl))::E) M') : JL P n w0 S ops Q (⟨some d,.call ⟨.builtin .copy,#[x,y],#[t,t']⟩,ty,pos,aft,none⟩::l) E M:=
  ⟨fun a w ha hw=>wpList_plain rfl fun K hK=>by
    obtain ⟨o,ho,hAo⟩:=hw.get hup.has
    subst hAo
    obtain ⟨w',r1,r2,r3,r4,r5,r6,r7⟩:=kz (P:=P) (t':=t') (dc:=dc) (sc:=sc) (ty:=te) hu hz ho hl (hr w hw) h1 hj
    have r1' : (Builtin.copy_ #[t,t'] ty #[.slice (some ⟨b,j,none⟩) dl dc,.slice ad sl sc]).run P w=.ok (N (min sl dl)) w':=r1
    unfold Oper.wp
    simp only [execOp,resolve,invoke,builtin,Sem.run_bind,Sem.run_pure,Result.andThen_ok,List.map_toArray,List.map_cons,List.map_nil,ha.eval hx,ha.eval hy,r1']
    exact hK _ _ (k.go _ _ (ha.put d _ hd) (hw.write hup (he ▸ rfl) r2 r3 r4 r5 r6 r7))⟩
theorem dU {_t' : TypeId} {w : World} {base ad : Option Addr} {nl cap sc : Nat} {i : TypeInfo} (hu : P.underlying t=some (.slice e)) (hi : P.info? e=some i) (hc : nl≤cap) :
    (Builtin.append_ #[t,t] ty #[.slice base nl cap,.slice ad 0 sc]).run P w=.ok (.slice base nl cap) w:=by
  have h3 : (underlying t).run P w=.ok (.slice e) w:=run_underlying hu w
  cases base <;> cases ad <;> simp [Builtin.append_,run_underlying hu,sizeOf,typeInfo,hi,Builtin.lenOf,Builtin.firstCells,loadCells,loadCellsFrom,hc,storeCells]
theorem JL.append {z : Value} {ad : Option Addr} {sz by' k m cap sc : Nat} {xs : List Value} (M' : Nat→Nat→List ah) (hu : P.underlying t=some (.slice e)) (hi : EI P e z sz by') (hx : ev E x=some (.slice (some ⟨b,0,none⟩) k cap)) (hy : ev E y=some (.slice ad m sc))
    (hup : ∀ b' cap',bU M b (Sl.Own e sz k cap xs) b' (Sl.Own e sz (k+m) cap' (xs++cs)) (M' b' cap')) (hl : cs.length=m * sz) (hr : ∀ w,aa w0 S M w→Reads w ad cs) (h1 : ∀ v ∈ cs,v.oneCell'=true)
    (hzz : z.cells.size=sz) (h0 : 0<sz) (hsm : (k+m) * by'≤140737488355328) (hsm2 : k+m<9223372036854775808) (hd : Nat.blt d n=true)
    (kk : ∀ b' cap',JL P n w0 S ops Q l ((d,.slice (some ⟨b',0,none⟩) (k+m) cap')::E) (M' b' cap')) : JL P n w0 S ops Q (⟨some d,.call ⟨.builtin .append,#[x,y],#[t,t]⟩,ty,pos,aft,none⟩::l) E M:=
  ⟨fun a w ha hw=>wpList_plain rfl fun K hK=>by
    obtain ⟨i,hi1,hi2,hi3,hi4⟩:=hi.get
    obtain ⟨o,ho,sp,rfl,hc1,hc2,hc3⟩:=hw.get (hup 0 0).has
    have hru:=hr w hw
    unfold Oper.wp
    simp only [execOp,resolve,invoke,builtin,Sem.run_bind,Sem.run_pure,Result.andThen_ok,List.map_toArray,List.map_cons,List.map_nil,ha.eval hx,ha.eval hy]
    by_cases hm : m=0
    · subst hm
      have hcs : cs=[]:=List.eq_nil_of_length_eq_zero (by simpa using hl)
      subst hcs
      rw [dU (_t':=t) hu hi1 hc3]
      refine hK _ _ ((kk b cap).go _ _ (ha.put d _ hd) (hw.write (hup b cap).p8 (o':=.cells (xs++sp).toArray e (0,0)) ?_ ho rfl (fun _ _=>rfl) rfl rfl rfl))
      exact ⟨sp,by simp,by simpa using hc1,by simpa using hc2,by omega⟩
    · have hpos : 0<cs.length:=by rw [hl];exact Nat.mul_pos (Nat.pos_of_ne_zero hm) h0
      obtain ⟨b2,j2,rfl,hcell⟩:=hru.at hpos
      by_cases hroom : k+m≤cap
      · have hfit : k * i.size+cs.length≤(xs++sp).toArray.size:=by
          rw [hl,hi3,List.size_toArray,hc1,← Nat.add_mul];exact Nat.mul_le_mul_right _ hroom
        rw [run_append_room (P:=P) w t ty e i hu hi1 b k cap (xs++sp).toArray ho ⟨b2,j2,none⟩ m sc cs (by rw [hl,hi3]) (fun u v hv=>by rw [aO];exact hcell u v hv) h1 hroom hfit]
        refine hK _ _ ((kk b cap).go _ _ (ha.put d _ hd) (hw.write (hup b cap).p8 (o':=.cells ((xs++sp).take (k * i.size)++cs++(xs++sp).drop (k * i.size+cs.length)).toArray e (0,0)) ?_ (setRow_heap w b _ _ e _ ho) (by simp) (fun q hq=>setRow_other w b q _ hq) rfl rfl rfl))
        rw [hi3,← hc2,List.take_left]
        refine ⟨(xs++sp).drop (xs.length+cs.length),rfl,?_,by rw [List.length_append,hc2,hl,Nat.add_mul],hroom⟩
        have h7 : xs.length+cs.length≤(xs++sp).length:=by rw [hc1,hc2,hl,← Nat.add_mul];exact Nat.mul_le_mul_right _ hroom
        simp only [List.length_append,List.length_drop] at h7 hc1 ⊢
        omega
      · have hold : ∀ u v,xs[u]?=some v→w.cell? ((⟨b,0,none⟩ : Addr).add u)=some v:=fun u v hv=>by
          rw [aO]
          have hu' : u<xs.length:=(List.getElem?_eq_some_iff.1 hv).1
          exact cell_of ho (by simpa [cellAt,List.getElem?_append_left hu'] using hv)
        have hfit:=growslice_fits (need:=k+m) (old:=cap) (by omega) hsm
        rw [run_append_grow (P:=P) w t ty e i z hu hi1 hi2 ⟨b,0,none⟩ k cap xs (by rw [hc2,hi3]) hold ⟨b2,j2,none⟩ m sc cs (by rw [hl,hi3]) (fun u v hv=>by rw [aO];exact hcell u v hv) (by omega) (by omega) (by rw [hi4];exact hfit)]
        have hge:=grownCap_ge w (k+m) cap e
        generalize grownCap w (k+m) cap e=nc at hge
        refine hK _ _ ((kk w.heap.size nc).go _ _ (ha.put d _ hd) (hw.renew (.cells (xs.toArray++cs.toArray++Builtin.zeroCells z.cells (nc - (k+m))) e) (hup _ _) ?_ rfl rfl rfl rfl))
        refine ⟨(Builtin.zeroCells z.cells (nc - (k+m))).toList,by simp,?_,by rw [List.length_append,hc2,hl,Nat.add_mul],hge⟩
        have h8 : (Builtin.zeroCells z.cells (nc - (k+m))).size=(nc - (k+m)) * sz:=by simp [Builtin.zeroCells,hzz]
        simp only [List.length_append,Array.length_toList,h8,hc2,hl,← Nat.add_mul]
        congr 1
        omega⟩
theorem JL.append_nil {z : Value} {ad : Option Addr} {sz by' m sc : Nat} (hu : P.underlying t=some (.slice e)) (hi : EI P e z sz by') (hx : ev E x=some (.slice none 0 0)) (hy : ev E y=some (.slice ad m sc))
    (hl : cs.length=m * sz) (hr : ∀ w,aa w0 S M w→Reads w ad cs) (hm : 0<m)
    (hzz : z.cells.size=sz) (h0 : 0<sz) (hsm : m * by'≤140737488355328) (hsm2 : m<9223372036854775808) (hd : Nat.blt d n=true)
    (kk : ∀ b' cap',w0.heap.size≤b'→JL P n w0 S ops Q l ((d,.slice (some ⟨b',0,none⟩) m cap')::E) (⟨b',Sl.Own e sz m cap' cs,true⟩::M)) : JL P n w0 S ops Q (⟨some d,.call ⟨.builtin .append,#[x,y],#[t,t]⟩,ty,pos,aft,none⟩::l) E M:=
  ⟨fun a w ha hw=>wpList_plain rfl fun K hK=>by
    obtain ⟨i,hi1,hi2,hi3,hi4⟩:=hi.get
    have hru:=hr w hw
    unfold Oper.wp
    simp only [execOp,resolve,invoke,builtin,Sem.run_bind,Sem.run_pure,Result.andThen_ok,List.map_toArray,List.map_cons,List.map_nil,ha.eval hx,ha.eval hy]
    have hpos : 0<cs.length:=by rw [hl];exact Nat.mul_pos hm h0
    obtain ⟨b2,j2,rfl,hcell⟩:=hru.at hpos
    rw [run_append_nil (P:=P) w t ty e i z hu hi1 hi2 ⟨b2,j2,none⟩ m sc cs (by rw [hl,hi3]) (fun u v hv=>by rw [aO];exact hcell u v hv) hm (by omega) (by rw [hi4];omega)]
    have hge:=grownCap_ge w m 0 e
    generalize grownCap w m 0 e=nc at hge
    refine hK _ _ ((kk w.heap.size nc hw.aq.size).go _ _ (ha.put d _ hd) (hw.push (.cells (cs.toArray++Builtin.zeroCells z.cells (nc - m)) e) ?_ rfl rfl rfl rfl))
    refine ⟨(Builtin.zeroCells z.cells (nc - m)).toList,by simp,?_,hl,hge⟩
    have h8 : (Builtin.zeroCells z.cells (nc - m)).size=(nc - m) * sz:=by simp [Builtin.zeroCells,hzz]
    simp only [List.length_append,Array.length_toList,h8,hl,← Nat.add_mul]
    congr 1
    omega⟩
structure JA (P : Program) (n : Nat) (w0 : World) (S : List Nat) (ops : Array Oper) (Q : Exit→Act→World→Prop) (f : Nat) (done : Array Bool) (E : Env) (M : List ah) : Prop where
  go : ∀ a w,an n E a→aa w0 S M w→wpAny P .any ops Q f done a w
theorem cj {Q : Exit→Act→World→Prop} {K : Act→World→Prop} {i : Nat} {o : Oper} {a : Act} {w : World} (ho : ops[i]?=some o) (h : wpList P ops (Exit.then K Q) [o] a w) : wpOp P ops Q i K a w:=by
  unfold wpOp
  simp only [ho]
  unfold wpList at h
  split
  · rename_i hw
    rw [if_pos hw] at h
    rcases h with h | h
    · left
      unfold Oper.wp Oper.upon at h ⊢
      generalize (execOp a.eval o).run P w=r at h ⊢
      cases r with
      | ok nx w'=>cases nx <;> first | exact h|(refine Calls.mono h ?_;rintro (v | c | _) w'' hh <;> exact hh)
      | halt x w'=>cases x <;> exact h
    · exact .inr h
  · rename_i hw
    rw [if_neg hw] at h
    exact h
theorem JC.any {id : Nat} {l : List Oper} (hm : P.follows .mixedOrders=true) (h : JA P n w0 S l.toArray Q l.toArray.size (Array.replicate l.toArray.size false) E M) : JC P n w0 S Q (.region id l.toArray true) E M:=
  ⟨fun a _ ha hw=>wp_region_any hm (h.go a _ ha (hw.drawn _))⟩
theorem JA.step {f : Nat} {done : Array Bool} {L : List Nat} (hr : Region.ready .any ops done=L) (hne : L.isEmpty=false) (h : ∀ i ∈ L,∃ o,ops[i]?=some o∧JL P n w0 S ops (Exit.then (fun a' w'=>wpAny P .any ops Q f (done.setIfInBounds i true) a' w') Q) [o] E M) :
    JA P n w0 S ops Q (f+1) done E M:=
  ⟨fun a w ha hw=>⟨fun h0=>(by rw [hr] at h0;subst h0;cases hne),fun i hi=>by
    obtain ⟨o,ho,hj⟩:=h i (hr ▸ hi)
    exact cj ho (hj.go a w ha hw)⟩⟩
theorem JA.done {done : Array Bool} (hr : Region.ready .any ops done=[]) (h : JE n w0 S Q .normal E M) : JA P n w0 S ops Q 0 done E M:=⟨fun a w ha hw=>⟨hr,h.go a w ha hw⟩⟩
theorem JE.any {f : Nat} {done : Array Bool} (h : JA P n w0 S ops Q f done E M) : JE n w0 S (Exit.then (fun a' w'=>wpAny P .any ops Q f done a' w') Q) .normal E M:=⟨h.go⟩
theorem JE.mid {ι : Type} {Ei : ι→Env} {Mi : ι→List ah} {I : ι→Prop} (i : ι) (hi : I i) (hE : aj E (Ei i)) (hM : av (Mi i) M) :
    JE n w0 S (Exit.then (fun a' w'=>∃ i,I i∧an n (Ei i) a'∧aa w0 S (Mi i) w') Q) .normal E M:=
  ⟨fun _ _ ha hw=>⟨i,hi,ha.sub hE,hw.weak hM⟩⟩
end
end Sl
end
section
namespace Sl
section
variable {P : Program} {n : Nat} {w0 : World} {S : List Nat} {ops : Array Oper} {Q : Exit→Act→World→Prop} {l : List Oper} {E : Env} {M M' : List ah}
variable {d b : Nat} {ty : TypeId} {pos : String} {aft : Array Edge} {v : Value} {A A' : Obj→Prop} {f : FuncId} {xs : List Operand} {ats : Array TypeId} {vs : List Value}
variable {t e : TypeId} {x : Operand} {z : Value} {by' : Nat}
theorem nL : Array.range 0=#[]:=by decide
theorem nM : Array.range 1=#[0]:=by decide
theorem nN : Array.range 3=#[0,1,2]:=by decide
theorem iu {w : World} (hu : P.underlying t=some (.slice e)) (hi : EI P e z 1 by') : (Instr.buildSlice t 0 #[]).run P w=.ok (.slice (some ⟨w.heap.size,0,none⟩) 0 0) { w with heap:=w.heap.push (.cells ([] : List Value).toArray e (0,0)) }:=by
  have h3 : (underlying t).run P w=.ok (.slice e) w:=run_underlying hu w
  simp [Instr.buildSlice,Sem.run_bind,h3,ax hi.sz,Instr.fill,newRow,newObj,Sem.run,nL]
theorem iw {w : World} (hu : P.underlying t=some (.slice e)) (hi : EI P e z 1 by') (_hz : z.cells.size=1) (hv : v.cells=#[v]) : (Instr.buildSlice t 1 #[(0,v)]).run P w=.ok (.slice (some ⟨w.heap.size,0,none⟩) 1 1) { w with heap:=w.heap.push (.cells [v].toArray e (0,0)) }:=by
  have h3 : (underlying t).run P w=.ok (.slice e) w:=run_underlying hu w
  obtain ⟨i,h4,h5,_⟩:=hi.get
  simp [Instr.buildSlice,Sem.run_bind,h3,ax hi.sz,zeroValue,typeInfo,h4,h5,Instr.fill,hv,newRow,newObj,Sem.run,nM]
theorem iy {w : World} {v1 v2 v3 : Value} (hu : P.underlying t=some (.slice e)) (hi : EI P e z 1 by') (_hz : z.cells.size=1) (hv1 : v1.cells=#[v1]) (hv2 : v2.cells=#[v2]) (hv3 : v3.cells=#[v3]) :
    (Instr.buildSlice t 3 #[(0,v1),(1,v2),(2,v3)]).run P w=.ok (.slice (some ⟨w.heap.size,0,none⟩) 3 3) { w with heap:=w.heap.push (.cells [v1,v2,v3].toArray e (0,0)) }:=by
  have h3 : (underlying t).run P w=.ok (.slice e) w:=run_underlying hu w
  obtain ⟨i,h4,h5,_⟩:=hi.get
  simp [Instr.buildSlice,Sem.run_bind,h3,ax hi.sz,zeroValue,typeInfo,h4,h5,Instr.fill,hv1,hv2,hv3,newRow,newObj,Sem.run,nN]
theorem JL.pz (hu : P.underlying t=some (.slice e)) (hi : EI P e z 1 by') (hd : Nat.blt d n=true)
    (k : ∀ b,w0.heap.size≤b→JL P n w0 S ops Q l ((d,.slice (some ⟨b,0,none⟩) 0 0)::E) (⟨b,Row e [],true⟩::M)) : JL P n w0 S ops Q (⟨some d,.buildSlice t 0 #[],ty,pos,aft,none⟩::l) E M:=
  ⟨fun a w ha hw=>wpList_plain rfl fun K hK=>by
    unfold Oper.wp
    have hm : (#[] : Array (Nat × Operand)).map (fun (i,x)=>(i,a.eval x))=#[]:=by simp
    simp only [execOp,hm,Sem.run_bind,iu hu hi,Result.andThen_ok]
    exact hK _ _ ((k w.heap.size hw.aq.size).go _ _ (ha.put d _ hd) (hw.push _ rfl rfl rfl rfl rfl))⟩
theorem JL.iz (hu : P.underlying t=some (.slice e)) (hi : EI P e z 1 by') (hz : z.cells.size=1) (hx : ev E x=some v) (hv : v.cells=#[v]) (hd : Nat.blt d n=true)
    (k : ∀ b,w0.heap.size≤b→JL P n w0 S ops Q l ((d,.slice (some ⟨b,0,none⟩) 1 1)::E) (⟨b,Row e [v],true⟩::M)) : JL P n w0 S ops Q (⟨some d,.buildSlice t 1 #[(0,x)],ty,pos,aft,none⟩::l) E M:=
  ⟨fun a w ha hw=>wpList_plain rfl fun K hK=>by
    unfold Oper.wp
    have hm : (#[(0,x)] : Array (Nat × Operand)).map (fun (i,x)=>(i,a.eval x))=#[(0,v)]:=by simp [ha.eval hx]
    simp only [execOp,hm,Sem.run_bind,iw hu hi hz hv,Result.andThen_ok]
    exact hK _ _ ((k w.heap.size hw.aq.size).go _ _ (ha.put d _ hd) (hw.push _ rfl rfl rfl rfl rfl))⟩
theorem JL.pE {x1 x2 x3 : Operand} {v1 v2 v3 : Value} (hu : P.underlying t=some (.slice e)) (hi : EI P e z 1 by') (hz : z.cells.size=1) (hx1 : ev E x1=some v1) (hx2 : ev E x2=some v2) (hx3 : ev E x3=some v3) (hv1 : v1.cells=#[v1]) (hv2 : v2.cells=#[v2]) (hv3 : v3.cells=#[v3]) (hd : Nat.blt d n=true)
    (k : ∀ b,w0.heap.size≤b→JL P n w0 S ops Q l ((d,.slice (some ⟨b,0,none⟩) 3 3)::E) (⟨b,Row e [v1,v2,v3],true⟩::M)) : JL P n w0 S ops Q (⟨some d,.buildSlice t 3 #[(0,x1),(1,x2),(2,x3)],ty,pos,aft,none⟩::l) E M:=
  ⟨fun a w ha hw=>wpList_plain rfl fun K hK=>by
    unfold Oper.wp
    have hm : (#[(0,x1),(1,x2),(2,x3)] : Array (Nat × Operand)).map (fun (i,x)=>(i,a.eval x))=#[(0,v1),(1,v2),(2,v3)]:=by simp [ha.eval hx1,ha.eval hx2,ha.eval hx3]
    simp only [execOp,hm,Sem.run_bind,iy hu hi hz hv1 hv2 hv3,Result.andThen_ok]
    exact hK _ _ ((k w.heap.size hw.aq.size).go _ _ (ha.put d _ hd) (hw.push _ rfl rfl rfl rfl rfl))⟩
theorem JL.weak {E' : Env} (h : JL P n w0 S ops Q l E' M') (hE : aj E E') (hM : av M' M) : JL P n w0 S ops Q l E M:=⟨fun a w ha hw=>h.go a w (ha.sub hE) (hw.weak hM)⟩
variable {C : World→Prop} {dst : Option Tmp} {g : Option (Nat × Bool)} {y : Operand} {t' : TypeId}
theorem OQ.ox {a b : Int} (hx : ev E x=some (.int .i64 a)) (hy : ev E y=some (.int .i64 b)) (h1 : -9223372036854775808≤a - b) (h2 : a - b<9223372036854775808) : OQ P n E C ⟨dst,.binOp .sub t x y t',ty,pos,aft,g⟩ (.int .i64 (a - b)):=
  OQ.bin hx hy rfl fun _=>dR (k:=.i64) (show IntKind.i64.wrap (a - b)=a - b from dS h1 h2)
end
end Sl
end
section
namespace Sl
open Extern.Stop (cell)
section
variable {P : Program} {n : Nat} {w0 : World} {S : List Nat} {ops : Array Oper} {Q : Exit→Act→World→Prop} {l : List Oper} {E : Env} {M M' : List ah} {C : World→Prop}
variable {dst : Option Tmp} {d b j : Nat} {op : Op} {t t' ty e : TypeId} {pos : String} {aft : Array Edge} {g : Option (Nat × Bool)} {v u : Value} {x y z : Operand} {want : Bool}
theorem iA {o : Oper} {j : Nat} {want b : Bool} (ho : o.guard=some (j,want)) (h : cB ops E j=some b) (hf : bK ops n j=true) {a : Act} (ha : an n E a) : Region.wanted o (yielded ops a.tmps)=(b == want):=by
  simp only [Region.wanted,ho,eG h ha (cu hf)]
  cases b <;> cases want <;> rfl
theorem JL.aT {dst : Option Nat} (hg : cB ops E j=some want) (hf : bK ops n j=true) (h : JL P n w0 S ops Q (⟨dst,op,ty,pos,aft,none⟩::l) E M) : JL P n w0 S ops Q (⟨dst,op,ty,pos,aft,some (j,want)⟩::l) E M:=
  ⟨fun a w ha hw=>by
    have h1:=h.go a w ha hw
    unfold wpList at h1 ⊢
    rw [iA rfl hg hf ha]
    simp only [beq_self_eq_true,if_true]
    rw [show Region.wanted ⟨dst,op,ty,pos,aft,none⟩ (yielded ops a.tmps)=true from rfl,if_pos rfl] at h1
    exact h1⟩
theorem OQ.bA (hc : ev E z=some (.bool true)) (hx : ev E x=some v) : OQ P n E C ⟨dst,.pick z x y,ty,pos,aft,g⟩ v:=
  OQ.run fun a ha w _=>by
    have h1:=ha.eval hc
    have h2:=ha.eval hx
    simp [execOp,h1,h2,asBool]
theorem OQ.bM (hc : ev E z=some (.bool false)) (hy : ev E y=some v) : OQ P n E C ⟨dst,.pick z x y,ty,pos,aft,g⟩ v:=
  OQ.run fun a ha w _=>by
    have h1:=ha.eval hc
    have h2:=ha.eval hy
    simp [execOp,h1,h2,asBool]
theorem OQ.not {c : Bool} (hx : ev E x=some (.bool c)) : OQ P n E C ⟨dst,.unOp .not t x,ty,pos,aft,g⟩ (.bool (!c)):=
  OQ.run fun a ha w _=>by
    have h1:=ha.eval hx
    simp [execOp,h1,Op.unary]
theorem OQ.nO {a b : Nat} (hx : ev E x=some (N a)) (hy : ev E y=some (N b)) (h : b<a) : OQ P n E C ⟨dst,.binOp .gtr t x y t',ty,pos,aft,g⟩ (.bool true):=
  (decide_eq_true h : decide (b<a)=true) ▸ OQ.pn hx hy
theorem OQ.kC {a b : Nat} (hx : ev E x=some (N a)) (hy : ev E y=some (N b)) (h : ¬ a<b) : OQ P n E C ⟨dst,.binOp .lss t x y t',ty,pos,aft,g⟩ (.bool false):=
  (decide_eq_false h : decide (a<b)=false) ▸ OQ.gA hx hy
theorem mj (r q : List (BitVec 8)) : (r.map UInt8.ofBitVec == q.map UInt8.ofBitVec)=decide (r=q):=by
  rw [Bool.eq_iff_iff]
  simp only [beq_iff_eq,decide_eq_true_eq]
  constructor
  · intro h
    have:=congrArg (List.map UInt8.toBitVec) h
    rw [List.map_map,List.map_map] at this
    have hid : (UInt8.toBitVec ∘ UInt8.ofBitVec)=(id : BitVec 8→BitVec 8):=rfl
    rwa [hid,List.map_id,List.map_id] at this
  · rintro rfl;rfl
def oo (e : TypeId) (r : List Value) : Obj→Prop:=fun o=>∃ fr,o=.cells r.toArray e fr
theorem oo.all {r : List Value} : ∀ o,oo e r o→aV o 0 r:=by
  rintro o ⟨fr,rfl⟩
  exact ⟨_,_,_,rfl,fun i _=>by simp⟩
theorem JL.mark {r : List Value} {te : TypeId} {len cap : Nat} (hu : P.underlying t=some (.slice e)) (he : P.underlying e=some (.int .u8)) (hx : ev E x=some (.slice (some ⟨b,0,none⟩) len cap)) (hup : eE M b (Row te r) (oo te r) M') (hd : Nat.blt d n=true)
    (k : JL P n w0 S ops Q l ((d,.slice (some ⟨b,0,none⟩) len cap)::E) M') : JL P n w0 S ops Q (⟨some d,.convert t t x,ty,pos,aft,none⟩::l) E M:=
  ⟨fun a w ha hw=>wpList_plain rfl fun K hK=>by
    obtain ⟨o,ho,hA⟩:=hw.get hup.has
    subst hA
    have h1:=ha.eval hx
    have h3 : ∀ w,(underlying t).run P w=.ok (.slice e) w:=run_underlying hu
    have h4 : ∀ w,(underlying e).run P w=.ok (.int .u8) w:=run_underlying he
    have hsh : w.shape? b=some (te,r.length):=by simp [World.shape?,ho]
    have hrun : (convert t t (.slice (some ⟨b,0,none⟩) len cap)).run P w=.ok (.slice (some ⟨b,0,none⟩) len cap) (w.freeze { block:=b,off:=r.length } 1):=by
      simp [convert,Sem.run_bind,h3,h4,markStringish,shape,freeze,Sem.run,hsh]
    unfold Oper.wp
    simp only [execOp,h1,Sem.run_bind,hrun,Result.andThen_ok]
    refine hK _ _ (k.go _ _ (ha.put d _ hd) (hw.write hup (o':=.cells r.toArray te (r.length,r.length+1)) ⟨_,rfl⟩ ?_ (by simp [World.freeze]) (fun q hq=>?_) rfl rfl rfl))
    · simp [World.freeze,Array.getElem?_modify,ho]
    · simp [World.freeze,Array.getElem?_modify,Ne.symm hq]⟩
end
end Sl
end
section
namespace Sl
abbrev X:=Nat × Nat
theorem kD {f : Nat→Value} {E : Env} (h : ∀ p ∈ E,f p.1=p.2) {p : Nat × Value} (hp : p ∈ E) : lk E p.1=some p.2:=by
  induction E with
  | nil=>cases hp
  | cons q E ih=>
    simp only [lk]
    by_cases e : q.1=p.1
    · have h1:=h q (by simp)
      have h2:=h p hp
      rw [e] at h1
      simp [e,← h1,← h2]
    · have : Nat.beq q.1 p.1=false:=Bool.eq_false_iff.2 fun h=>e (Nat.eq_of_beq_eq_true h)
      rw [this]
      refine ih (fun q hq=>h q (by simp [hq])) ?_
      simp only [List.mem_cons] at hp
      rcases hp with rfl | hp
      · exact absurd rfl e
      · exact hp
theorem nP {E : Env} {t : Nat} {v : Value} (h : lk E t=some v) : (t,v) ∈ E:=by
  induction E with
  | nil=>simp [lk] at h
  | cons q E ih=>
    simp only [lk] at h
    by_cases e : q.1=t
    · subst e
      simp at h
      subst h
      simp
    · have : Nat.beq q.1 t=false:=Bool.eq_false_iff.2 fun h=>e (Nat.eq_of_beq_eq_true h)
      rw [this] at h
      simp [ih h]
theorem an.of {n : Nat} {E : Env} {a : Act} (h1 : a.tmps.size=n) (h2 : a.defers=[]) (h : ∀ p ∈ E,a.tmps.getD p.1 undef=p.2) : an n E a:=⟨h1,h2,fun _ _ hl=>h _ (nP hl)⟩
theorem an.mem {n : Nat} {E : Env} {a : Act} {f : Nat→Value} (h : an n E a) (hf : ∀ p ∈ E,f p.1=p.2) {p : Nat × Value} (hp : p ∈ E) : a.tmps.getD p.1 undef=p.2:=h.all _ _ (kD hf hp)
structure bV (w0 : World) (S : List Nat) (L : Nat→Prop) (f : Nat→List ah) (w : World) : Prop where
  aq : eD S w0 w
  all : ∀ j,L j→∀ e ∈ f j,(∃ o,w.heap[e.b]?=some o∧e.A o)∧(e.wr=true→e.b ∈ S∨w0.heap.size≤e.b)
  nodup : ∀ j,L j→((f j).map ah.b).Nodup
  apart : ∀ j k,j≠k→L j→L k→∀ e ∈ f j,∀ e' ∈ f k,e.b≠e'.b
section
variable {w0 w : World} {S : List Nat} {L : Nat→Prop} {f : Nat→List ah}
theorem bV.to (h : bV w0 S L f w) (Js : List Nat) (hn : Js.Nodup) (hL : ∀ j ∈ Js,L j) : aa w0 S (Js.flatMap f) w:=by
  refine ⟨h.aq,?_,fun e he=>?_⟩
  · induction Js with
    | nil=>simp
    | cons j Js ih=>
      rw [List.flatMap_cons,List.map_append,List.nodup_append]
      refine ⟨h.nodup j (hL j (by simp)),ih (List.nodup_cons.1 hn).2 (fun k hk=>hL k (by simp [hk])),fun b hb b' hb'=>?_⟩
      simp only [List.mem_map,List.mem_flatMap] at hb hb'
      obtain ⟨e,he,rfl⟩:=hb
      obtain ⟨e',⟨k,hk,he'⟩,rfl⟩:=hb'
      have hjk : j≠k:=fun e=>(List.nodup_cons.1 hn).1 (e ▸ hk)
      exact h.apart j k hjk (hL j (by simp)) (hL k (by simp [hk])) e he e' he'
  · obtain ⟨j,hj,he⟩:=List.mem_flatMap.1 he
    exact h.all j (hL j hj) e he
theorem iB {Js : List Nat} (h : ((Js.flatMap f).map ah.b).Nodup) : (∀ j ∈ Js,((f j).map ah.b).Nodup)∧∀ j k,j≠k→j ∈ Js→k ∈ Js→∀ e ∈ f j,∀ e' ∈ f k,e.b≠e'.b:=by
  induction Js with
  | nil=>simp
  | cons i Js ih=>
    rw [List.flatMap_cons,List.map_append,List.nodup_append] at h
    obtain ⟨h1,h2,h3⟩:=h
    obtain ⟨i1,i2⟩:=ih h2
    have h4 : ∀ k ∈ Js,∀ e ∈ f i,∀ e' ∈ f k,e.b≠e'.b:=fun k hk e he e' he'=>
      h3 e.b (List.mem_map.2 ⟨e,he,rfl⟩) e'.b (List.mem_map.2 ⟨e',List.mem_flatMap.2 ⟨k,hk,he'⟩,rfl⟩)
    refine ⟨fun j hj=>?_,fun j k hjk hj hk e he e' he'=>?_⟩
    · simp only [List.mem_cons] at hj
      rcases hj with rfl | hj
      · exact h1
      · exact i1 j hj
    · simp only [List.mem_cons] at hj hk
      rcases hj with rfl | hj
      · rcases hk with rfl | hk
        · exact absurd rfl hjk
        · exact h4 k hk e he e' he'
      · rcases hk with rfl | hk
        · exact (h4 j hj e' he' e he).symm
        · exact i2 j k hjk hj hk e he e' he'
theorem bV.of {Js : List Nat} (h : aa w0 S (Js.flatMap f) w) (hL : ∀ j,L j→j ∈ Js) : bV w0 S L f w:=by
  obtain ⟨h1,h2⟩:=iB h.nodup
  exact ⟨h.aq,fun j hj e he=>h.all e (List.mem_flatMap.2 ⟨j,hL j hj,he⟩),fun j hj=>h1 j (hL j hj),fun j k hjk hj hk=>h2 j k hjk (hL j hj) (hL k hk)⟩
end
theorem gB {l : List Nat} {p q : Nat→Bool} (h : ∀ j ∈ l,q j=p j) : l.countP q=l.countP p:=by
  induction l with
  | nil=>rfl
  | cons a l ih=>simp only [List.countP_cons,h a (by simp),ih fun j hj=>h j (by simp [hj])]
theorem eK {l : List Nat} {p q : Nat→Bool} {i : Nat} (hn : l.Nodup) (hi : i ∈ l) (h1 : p i=true) (h2 : q i=false) (h3 : ∀ j,j≠i→q j=p j) : l.countP q+1=l.countP p:=by
  induction l with
  | nil=>cases hi
  | cons a l ih=>
    simp only [List.countP_cons]
    by_cases e : a=i
    · subst e
      have:=gB (l:=l) (p:=p) (q:=q) fun j hj=>h3 j fun e=>(List.nodup_cons.1 hn).1 (e ▸ hj)
      simp [h1,h2,this]
    · have hi' : i ∈ l:=by
        simp only [List.mem_cons] at hi
        rcases hi with rfl | hi
        · exact absurd rfl e
        · exact hi
      have:=ih (List.nodup_cons.1 hn).2 hi'
      rw [h3 a e]
      omega
variable {Y : Type}
structure aG (Y : Type) where
  E0 : Env
  N : Nat
  v : Nat→Y→Value
  M : Nat→Y→List ah
  need : Nat→List (Nat × Nat)
  cY : Nat→List Nat
  fQ : Nat→List Nat
  src : Nat→Option Nat
  E1 : Nat→Env
def behind (o : Oper) (j : Nat) : Bool:=o.after.toList.any fun e=>e.on == j && Region.binds .any e
def aX (l : List Oper) (j : Nat) : Option Nat:=match l[j]? with | some q=>q.dst | none=>none
def aL (l : List Oper) (j i : Nat) : Bool:=match l[j]? with | some q=>behind q i | none=>false
def cZ : List Nat→Bool
  | []=>true
  | a::l=>!l.contains a && cZ l
theorem ck {l : List Nat} (h : cZ l=true) : l.Nodup:=by
  induction l with
  | nil=>simp
  | cons a l ih=>
    simp only [cZ,Bool.and_eq_true,Bool.not_eq_true',List.contains_eq_mem,decide_eq_false_iff_not] at h
    exact List.nodup_cons.2 ⟨h.1,ih h.2⟩
def dB (l : List Oper) (E0 : Env) (i : Nat) : Option Nat→Bool
  | some d=>(List.range l.length).all (fun k=>k == i || aX l k != some d) && E0.all fun p=>p.1 != d
  | none=>true
def jk (o : Oper) : Option Nat→Bool
  | some k=>behind o k
  | none=>true
def aG.nQ (g : aG Y) (l : List Oper) (i : Nat) : Bool:=
  (g.E1 i).all fun p=>(List.range l.length).all fun k=>aX l k != some p.1 || (k != i && aL l k i)
def aG.dD (g : aG Y) (l : List Oper) (i : Nat) (o : Oper) : Bool:=
  (((g.need i).all (fun p=>behind o p.1 && aX l p.1 == some p.2) && jk o (g.src i)) && g.nQ l i) &&
  ((g.cY i).all (fun j=>decide (j<g.N) && (decide (l.length≤j) || behind o j)) &&
  ((g.fQ i).all (fun j=>(g.cY i).contains j) &&
  ((List.range l.length).all (fun k=>k == i || (g.fQ k).all fun j=>!(g.cY i).contains j || aL l k i) &&
  (cZ (g.cY i) && (o.after.toList.all (fun e=>!Region.binds .any e || decide (e.on<i)) && dB l g.E0 i o.dst)))))
def aG.bB (g : aG Y) (l : List Oper) : Nat→List Oper→Bool
  | _,[]=>true
  | i,o::r=>g.dD l i o && g.bB l (i+1) r
theorem aG.aP {g : aG Y} {l : List Oper} : ∀ {r : List Oper} {i : Nat},g.bB l i r=true→∀ {j o},r[j]?=some o→g.dD l (i+j) o=true
  | [],_,_,j,o,h=>by simp at h
  | q::r,i,hk,j,o,h=>by
    simp only [aG.bB,Bool.and_eq_true] at hk
    cases j with
    | zero=>
      simp only [List.getElem?_cons_zero,Option.some.injEq] at h
      subst h
      exact hk.1
    | succ j=>
      have:=aG.aP hk.2 (j:=j) (o:=o) (by simpa using h)
      rwa [show i+1+j=i+(j+1) by omega] at this
def slot (d : Option Nat) (v : Value) : Env:=match d with | some d=>[(d,v)] | none=>[]
def aG.oy (g : aG Y) (P : Program) (n : Nat) (w0 : World) (S : List Nat) (l : List Oper) (i : Nat) (o : Oper) : Prop:=
  ∀ (x : Nat→Y) (EF : Env) (MF : List ah) (Q : Exit→Act→World→Prop),
    (∀ xi : Y,(∀ k,g.src i=some k→xi=x k)→JE n w0 S Q .normal (slot o.dst (g.v i xi)++((g.need i).map (fun p=>(p.2,g.v p.1 (x p.1)))++(g.E0++(g.E1 i++EF)))) (g.M i xi++(((g.cY i).filter fun j=>!(g.fQ i).contains j).flatMap (fun j=>g.M j (x j))++MF)))→
    JL P n w0 S l.toArray Q [o] ((g.need i).map (fun p=>(p.2,g.v p.1 (x p.1)))++(g.E0++(g.E1 i++EF))) ((g.cY i).flatMap (fun j=>g.M j (x j))++MF)
def aG.eL (g : aG Y) (P : Program) (n : Nat) (w0 : World) (S : List Nat) (l : List Oper) : Nat→List Oper→Prop
  | _,[]=>True
  | i,o::r=>g.oy P n w0 S l i o∧g.eL P n w0 S l (i+1) r
theorem aG.c4 {g : aG Y} {P : Program} {n : Nat} {w0 : World} {S : List Nat} {l : List Oper} : ∀ {r : List Oper} {i : Nat},g.eL P n w0 S l i r→∀ {j o},r[j]?=some o→g.oy P n w0 S l (i+j) o
  | [],_,_,j,o,h=>by simp at h
  | q::r,i,hk,j,o,h=>by
    cases j with
    | zero=>
      simp only [List.getElem?_cons_zero,Option.some.injEq] at h
      subst h
      exact hk.1
    | succ j=>
      have:=aG.c4 hk.2 (j:=j) (o:=o) (by simpa using h)
      rwa [show i+1+j=i+(j+1) by omega] at this
def aG.live (g : aG Y) (m : Nat) (done : Array Bool) (j : Nat) : Prop:=j<g.N∧(m≤j∨done.getD j false=true)∧∀ k,done.getD k false=true→j ∉ g.fQ k
structure aG.Inv (g : aG Y) (n : Nat) (w0 : World) (S : List Nat) (l : List Oper) (done : Array Bool) (x : Nat→Y) (a : Act) (w : World) : Prop where
  size : a.tmps.size=n
  defers : a.defers=[]
  eM : done.size=l.length
  base : ∀ p ∈ g.E0,a.tmps.getD p.1 undef=p.2
  first : ∀ j,j<l.length→done.getD j false=false→∀ p ∈ g.E1 j,a.tmps.getD p.1 undef=p.2
  vals : ∀ j d,done.getD j false=true→aX l j=some d→a.tmps.getD d undef=g.v j (x j)
  rel : ∀ j k,done.getD j false=true→g.src j=some k→x j=x k
  down : ∀ j i,done.getD j false=true→aL l j i=true→done.getD i false=true
  mem : bV w0 S (g.live l.length done) (fun j=>g.M j (x j)) w
section
variable {P : Program} {n : Nat} {w0 : World} {S : List Nat} {Q : Exit→Act→World→Prop} {E : Env} {M : List ah} {g : aG Y} {l : List Oper}
theorem gC {done : Array Bool} {i j : Nat} (hi : i<done.size) : (done.setIfInBounds i true).getD j false=(decide (j=i) || done.getD j false):=by
  by_cases e : j=i
  · subst e
    simp [hi]
  · simp [e,Ne.symm e]
theorem aG.run (hok : g.bB l 0 l=true) (hj : g.eL P n w0 S l 0 l)
    (hend : ∀ done x a w,g.Inv n w0 S l done x a w→(∀ j,j<l.length→done.getD j false=true)→Q .normal a w) :
    ∀ (f : Nat) (done : Array Bool) (x : Nat→Y) (a : Act) (w : World),f=(List.range l.length).countP (fun j=>!done.getD j false)→g.Inv n w0 S l done x a w→wpAny P .any l.toArray Q f done a w:=by
  have hrdy : ∀ done : Array Bool,done.size=l.length→Region.ready .any l.toArray done=[]→∀ j,j<l.length→done.getD j false=true:=by
    intro done hds hr j
    induction j using Nat.strongRecOn with
    | _ j ih=>
      intro hjl
      cases hd : done.getD j false with
      | true=>rfl
      | false=>
        obtain ⟨o,ho⟩ : ∃ o,l[j]?=some o:=⟨_,List.getElem?_eq_getElem hjl⟩
        have hk:=aG.aP hok ho
        simp only [aG.dD,Bool.and_eq_true,Nat.zero_add] at hk
        have hkk:=hk.2.2.2.2.2.1
        have : j ∈ Region.ready .any l.toArray done:=by
          rw [mem_ready]
          refine ⟨?_,o,by simpa using ho,fun e he hb=>?_⟩
          · rw [Array.getD_eq_getD_getElem?,Array.getElem?_eq_getElem (by omega)] at hd ⊢
            simpa using hd
          · have:=List.all_eq_true.1 hkk e (by simpa using he)
            simp only [hb,Bool.not_true,Bool.false_or,decide_eq_true_eq] at this
            exact ih e.on this (by omega)
        rw [hr] at this
        cases this
  intro f
  induction f with
  | zero=>
    intro done x a w hf hI
    have hall : ∀ j,j<l.length→done.getD j false=true:=fun j hjl=>by
      have:=List.countP_eq_zero.1 hf.symm j (List.mem_range.2 hjl)
      simpa using this
    refine ⟨?_,hend done x a w hI hall⟩
    refine List.eq_nil_iff_forall_not_mem.2 fun i hi=>?_
    obtain ⟨hu,o,ho,_⟩:=mem_ready.1 hi
    have hil : i<l.length:=by
      have:=(Array.getElem?_eq_some_iff.1 ho).1
      simpa using this
    have:=hall i hil
    rw [Array.getD_eq_getD_getElem?,Array.getElem?_eq_getElem (by have:=hI.eM;omega)] at hu this
    simp only [Option.getD_some] at hu this
    rw [hu] at this
    cases this
  | succ f ih=>
    intro done x a w hf hI
    have hds:=hI.eM
    refine ⟨fun h0=>hend done x a w hI (hrdy done hds h0),fun i hi=>?_⟩
    obtain ⟨hu,o,ho,hbe⟩:=mem_ready.1 hi
    have hil : i<l.length:=by
      have:=(Array.getElem?_eq_some_iff.1 ho).1
      simpa using this
    have ho' : l[i]?=some o:=by simpa using ho
    have hu' : done.getD i false=false:=by
      rw [Array.getD_eq_getD_getElem?,Array.getElem?_eq_getElem (by omega)] at hu ⊢
      simpa using hu
    have hk:=aG.aP hok ho'
    simp only [aG.dD,Bool.and_eq_true,Nat.zero_add] at hk
    obtain ⟨⟨⟨k1,k8⟩,k9⟩,k2,k3,k4,k5,_,k7⟩:=hk
    have hbeh : ∀ j,behind o j=true→done.getD j false=true:=fun j hj=>by
      simp only [behind,List.any_eq_true,Bool.and_eq_true,beq_iff_eq] at hj
      obtain ⟨e,he,rfl,hb⟩:=hj
      exact hbe e (by simpa using he) hb
    have hbi : ∀ k,aL l k i=true→done.getD k false=false:=fun k hk=>by
      cases h : done.getD k false with
      | false=>rfl
      | true=>have:=hI.down k i h hk;rw [hu'] at this;cases this
    have hinp : ∀ j ∈ g.cY i,g.live l.length done j:=by
      intro j hj
      have h2:=List.all_eq_true.1 k2 j hj
      simp only [Bool.and_eq_true,Bool.or_eq_true,decide_eq_true_eq] at h2
      refine ⟨h2.1,h2.2.imp id (hbeh j),fun k hkd hjk=>?_⟩
      have hkl : k<l.length:=by
        by_cases h : k<l.length
        · exact h
        · rw [Array.getD_eq_getD_getElem?,Array.getElem?_eq_none (by omega)] at hkd
          cases hkd
      have h4:=List.all_eq_true.1 k4 k (List.mem_range.2 hkl)
      have hki : k≠i:=fun e=>by rw [e,hu'] at hkd;cases hkd
      simp only [Bool.or_eq_true,beq_iff_eq,hki,false_or] at h4
      have h5:=List.all_eq_true.1 h4 j hjk
      simp only [Bool.or_eq_true,Bool.not_eq_true',List.contains_eq_mem,decide_eq_false_iff_not,hj,not_true,false_or] at h5
      rw [hbi k h5] at hkd
      cases hkd
    have hdone_ne : ∀ j,done.getD j false=true→j≠i:=fun j hj e=>by rw [e,hu'] at hj;cases hj
    have hlen : ∀ k,done.getD k false=true→k<l.length:=fun k hkd=>by
      by_cases h : k<l.length
      · exact h
      · rw [Array.getD_eq_getD_getElem?,Array.getElem?_eq_none (by omega)] at hkd
        cases hkd
    have hdi : aX l i=o.dst:=by simp [aX,ho']
    have hne : ∀ j d,done.getD j false=true→aX l j=some d→o.dst≠some d:=by
      intro j d hjd hd he
      rw [he] at k7
      simp only [dB,Bool.and_eq_true] at k7
      have:=List.all_eq_true.1 k7.1 j (List.mem_range.2 (hlen j hjd))
      simp [hdone_ne j hjd,hd] at this
    have hne0 : ∀ p ∈ g.E0,o.dst≠some p.1:=by
      intro p hp he
      rw [he] at k7
      simp only [dB,Bool.and_eq_true] at k7
      have:=List.all_eq_true.1 k7.2 p hp
      simp at this
    let rest : List Nat:=(List.range g.N).filter fun j=>@decide (g.live l.length done j) (Classical.propDecidable _) && !(g.cY i).contains j
    have hrest : ∀ j,j ∈ rest↔g.live l.length done j∧j ∉ g.cY i:=by
      intro j
      simp only [rest,List.mem_filter,List.mem_range,Bool.and_eq_true,Bool.not_eq_true',List.contains_eq_mem,decide_eq_false_iff_not]
      refine ⟨fun ⟨_,h2,h3⟩=>⟨@of_decide_eq_true _ (Classical.propDecidable _) h2,h3⟩,fun ⟨h2,h3⟩=>⟨h2.1,@decide_eq_true _ (Classical.propDecidable _) h2,h3⟩⟩
    have hnd : (g.cY i++rest).Nodup:=by
      rw [List.nodup_append]
      refine ⟨ck k5,List.nodup_range.filter _,fun a ha b hb e=>?_⟩
      exact ((hrest b).1 hb).2 (e ▸ ha)
    have H1:=hI.mem.to (g.cY i++rest) hnd (fun j hj=>by
      rcases List.mem_append.1 hj with h | h
      · exact hinp j h
      · exact ((hrest j).1 h).1)
    rw [List.flatMap_append] at H1
    let EF0 : Env:=(List.range l.length).filterMap fun j=>if done.getD j false=true then (aX l j).map (fun d=>(d,g.v j (x j))) else none
    let EF1 : Env:=(List.range l.length).flatMap fun j=>if done.getD j false=true then [] else g.E1 j
    let EF : Env:=EF0++EF1
    have hEF : ∀ p,p ∈ EF0↔∃ j d,done.getD j false=true∧aX l j=some d∧p=(d,g.v j (x j)):=by
      intro p
      simp only [EF0,List.mem_filterMap,List.mem_range]
      constructor
      · rintro ⟨j,_,hp⟩
        split at hp
        · rename_i hjd
          obtain ⟨d,hd,rfl⟩:=Option.map_eq_some_iff.1 hp
          exact ⟨j,d,hjd,hd,rfl⟩
        · cases hp
      · rintro ⟨j,d,hjd,hd,rfl⟩
        exact ⟨j,hlen j hjd,by rw [if_pos hjd,hd];rfl⟩
    have hEF1 : ∀ j,j<l.length→done.getD j false=false→∀ p ∈ g.E1 j,p ∈ EF1:=by
      intro j hjl hjd p hp
      simp only [EF1,List.mem_flatMap,List.mem_range]
      exact ⟨j,hjl,by rw [if_neg (by rw [hjd];decide)];exact hp⟩
    have hne1 : ∀ j,j<l.length→done.getD j false=false→∀ p ∈ g.E1 j,o.dst≠some p.1:=by
      intro j hjl hjd p hp he
      have hjo : l[j]?=some (l[j]'hjl):=List.getElem?_eq_getElem hjl
      have hkj:=aG.aP hok hjo
      simp only [aG.dD,Bool.and_eq_true,Nat.zero_add] at hkj
      have h9:=List.all_eq_true.1 hkj.1.2 p hp
      have h10:=List.all_eq_true.1 h9 i (List.mem_range.2 hil)
      simp only [hdi,he,bne_self_eq_false,Bool.false_or,Bool.and_eq_true] at h10
      have h11 : behind o j=true:=by simpa [aL,ho'] using h10.2
      rw [hbeh j h11] at hjd
      cases hjd
    have hneed : ∀ p ∈ g.need i,done.getD p.1 false=true∧aX l p.1=some p.2:=by
      intro p hp
      have h1:=List.all_eq_true.1 k1 p hp
      simp only [Bool.and_eq_true,beq_iff_eq] at h1
      exact ⟨hbeh _ h1.1,h1.2⟩
    have hK : ∀ p ∈ ((g.need i).map (fun p=>(p.2,g.v p.1 (x p.1)))++(g.E0++(g.E1 i++EF))),a.tmps.getD p.1 undef=p.2∧o.dst≠some p.1:=by
      intro p hp
      rcases List.mem_append.1 hp with h | h
      · obtain ⟨q,hq,rfl⟩:=List.mem_map.1 h
        obtain ⟨h1,h2⟩:=hneed q hq
        exact ⟨hI.vals _ _ h1 h2,hne _ _ h1 h2⟩
      · rcases List.mem_append.1 h with h | h
        · exact ⟨hI.base p h,hne0 p h⟩
        · rcases List.mem_append.1 h with h | h
          · exact ⟨hI.first i hil hu' p h,hne1 i hil hu' p h⟩
          · rcases List.mem_append.1 h with h | h
            · obtain ⟨j,d,h1,h2,rfl⟩:=(hEF p).1 h
              exact ⟨hI.vals _ _ h1 h2,hne _ _ h1 h2⟩
            · simp only [EF1,List.mem_flatMap,List.mem_range] at h
              obtain ⟨j,hjl,h⟩:=h
              cases hjd : done.getD j false with
              | true=>rw [hjd] at h;simp at h
              | false=>
                rw [hjd] at h
                simp only [Bool.false_eq_true,if_false] at h
                exact ⟨hI.first j hjl hjd p h,hne1 j hjl hjd p h⟩
    have job:=aG.c4 hj ho'
    rw [Nat.zero_add] at job
    refine cj ho ((job x EF (rest.flatMap fun j=>g.M j (x j)) _ fun xi hxi=>⟨fun a' w' hK' hH'=>?_⟩).go a w (an.of hI.size hI.defers fun p hp=>(hK p hp).1) H1)
    have hd' : ∀ j,(done.setIfInBounds i true).getD j false=(decide (j=i) || done.getD j false):=fun j=>gC (by omega)
    refine ih _ (fun j=>if j=i then xi else x j) a' w' ?_ ?_
    · have:=eK (l:=List.range l.length) (p:=fun j=>!done.getD j false) (q:=fun j=>!(done.setIfInBounds i true).getD j false) (i:=i) List.nodup_range (List.mem_range.2 hil) (by simp only [hu'];rfl) (by simp only [hd'];simp) (fun j hj=>by simp only [hd'];simp [hj])
      omega
    · have hmem : ∀ p ∈ (slot o.dst (g.v i xi)++((g.need i).map (fun p=>(p.2,g.v p.1 (x p.1)))++(g.E0++(g.E1 i++EF)))),a'.tmps.getD p.1 undef=p.2:=by
        intro p hp
        refine hK'.mem (f:=fun t=>if o.dst=some t then g.v i xi else a.tmps.getD t undef) (fun q hq=>?_) hp
        rcases List.mem_append.1 hq with h | h
        · cases hod : o.dst with
          | none=>rw [hod] at h;cases h
          | some d=>
            rw [hod] at h
            simp only [slot,List.mem_singleton] at h
            subst h
            simp
        · have:=hK q h
          simp only [this.2,if_false]
          exact this.1
      refine ⟨hK'.size,hK'.defers,by simp [hds],fun p hp=>hmem p (by simp [hp]),fun j hjl hjd p hp=>?_,?_,?_,?_,?_⟩
      · rw [hd'] at hjd
        simp only [Bool.or_eq_false_iff] at hjd
        exact hmem p (List.mem_append_right _ (List.mem_append_right _ (List.mem_append_right _ (List.mem_append_right _ (List.mem_append_right _ (hEF1 j hjl hjd.2 p hp))))))
      · intro j d hjd hd
        by_cases e : j=i
        · subst e
          rw [hdi] at hd
          have:=hmem (d,g.v j xi) (by simp [hd,slot])
          simpa using this
        · rw [hd'] at hjd
          simp only [e,decide_false,Bool.false_or] at hjd
          have:=hmem (d,g.v j (x j)) (List.mem_append_right _ (List.mem_append_right _ (List.mem_append_right _ (List.mem_append_right _ (List.mem_append_left _ ((hEF _).2 ⟨j,d,hjd,hd,rfl⟩))))))
          simpa [e] using this
      · intro j k hjd hs
        rw [hd'] at hjd
        by_cases e : j=i
        · subst e
          rw [hs] at k8
          simp only [if_true,hdone_ne k (hbeh k k8),if_false]
          exact hxi k hs
        · simp only [e,decide_false,Bool.false_or] at hjd
          have hjo : l[j]?=some (l[j]'(hlen j hjd)):=List.getElem?_eq_getElem (hlen j hjd)
          have hkj:=aG.aP hok hjo
          simp only [aG.dD,Bool.and_eq_true,Nat.zero_add] at hkj
          have h8:=hkj.1.1.2
          rw [hs] at h8
          have hkd:=hI.down j k hjd (by simpa [aL,hjo,jk] using h8)
          simp only [e,hdone_ne k hkd,if_false]
          exact hI.rel j k hjd hs
      · intro j i' hjd hb
        rw [hd'] at hjd ⊢
        by_cases e : j=i
        · subst e
          have : behind o i'=true:=by simpa [aL,ho'] using hb
          simp [hbeh i' this]
        · simp only [e,decide_false,Bool.false_or] at hjd
          simp [hI.down j i' hjd hb]
      · have hnl : ¬ g.live l.length done i:=fun h=>by
          rcases h.2.1 with h | h
          · omega
          · rw [hu'] at h;cases h
        have hcg : ∀ L : List Nat,(∀ j ∈ L,g.live l.length done j)→L.flatMap (fun j=>g.M j (if j=i then xi else x j))=L.flatMap fun j=>g.M j (x j):=by
          intro L
          induction L with
          | nil=>simp
          | cons j L ih=>
            intro h
            have hji : j≠i:=fun e=>hnl (e ▸ h j (by simp))
            simp only [List.flatMap_cons,hji,if_false,ih fun k hk=>h k (by simp [hk])]
        refine bV.of (Js:=i::(((g.cY i).filter fun j=>!(g.fQ i).contains j)++rest)) ?_ ?_
        · rw [List.flatMap_cons,List.flatMap_append,hcg _ (fun j hj=>hinp j (List.mem_filter.1 hj).1),hcg rest (fun j hj=>((hrest j).1 hj).1)]
          simpa using hH'
        · intro j hj
          by_cases e : j=i
          · simp [e]
          · have hl : g.live l.length done j:=by
              refine ⟨hj.1,hj.2.1.imp id (fun h=>?_),fun k hk=>hj.2.2 k (by rw [hd'];simp [hk])⟩
              rw [hd'] at h
              simpa [e] using h
            have hne : j ∉ g.fQ i:=hj.2.2 i (by rw [hd'];simp)
            by_cases hji : j ∈ g.cY i
            · simp [e,hji,hne]
            · have:=(hrest j).2 ⟨hl,hji⟩
              simp [e,this]
theorem JC.nk [Inhabited Y] (g : aG Y) (outs : List (Nat × Nat)) (ends : List Nat) {id : Nat} (hm : P.follows .mixedOrders=true) (hE : aj E g.E0) (hE1 : ∀ i,i<l.length→aj E (g.E1 i)) (hM : av (((List.range g.N).filter fun j=>decide (l.length≤j)).flatMap fun j=>g.M j default) M)
    (hok : g.bB l 0 l=true) (ho : (outs.all fun p=>decide (p.1<l.length) && aX l p.1 == some p.2)=true)
    (he : (cZ ends && ends.all fun j=>decide (j<g.N) && (List.range l.length).all fun k=>!(g.fQ k).contains j)=true)
    (hj : g.eL P n w0 S l 0 l)
    (k : ∀ x : Nat→Y,(∀ j k,j<l.length→g.src j=some k→x j=x k)→JE n w0 S Q .normal (outs.map (fun p=>(p.2,g.v p.1 (x p.1)))++g.E0) (ends.flatMap fun j=>g.M j (x j))) : JC P n w0 S Q (.region id l.toArray true) E M:=
  ⟨fun a w ha hw=>by
    refine wp_region_any hm ?_
    have hw':=(hw.drawn (w.drawn+1)).weak hM
    simp only [Bool.and_eq_true] at he
    refine aG.run hok hj (fun done x a w hI hall=>?_) _ _ (fun _=>default) a _ ?_ ?_
    · refine (k x fun j k hj hs=>hI.rel j k (hall j hj) hs).go a w (an.of hI.size hI.defers fun p hp=>?_) (hI.mem.to ends (ck he.1) fun j hj=>?_)
      · rcases List.mem_append.1 hp with h | h
        · obtain ⟨q,hq,rfl⟩:=List.mem_map.1 h
          have:=List.all_eq_true.1 ho q hq
          simp only [Bool.and_eq_true,decide_eq_true_eq,beq_iff_eq] at this
          exact hI.vals _ _ (hall _ this.1) this.2
        · exact hI.base p h
      · have:=List.all_eq_true.1 he.2 j hj
        simp only [Bool.and_eq_true,decide_eq_true_eq] at this
        refine ⟨this.1,?_,fun k hk hjk=>?_⟩
        · by_cases h : l.length≤j
          · exact .inl h
          · exact .inr (hall j (by omega))
        · have hkl : k<l.length:=by
            by_cases h : k<l.length
            · exact h
            · have:=hI.eM
              rw [Array.getD_eq_getD_getElem?,Array.getElem?_eq_none (by omega)] at hk
              cases hk
          have:=List.all_eq_true.1 this.2 k (List.mem_range.2 hkl)
          simp [hjk] at this
    · have : ∀ j,(Array.replicate l.toArray.size false).getD j false=false:=fun j=>by
        simp only [Array.getD_eq_getD_getElem?,Array.getElem?_replicate]
        split <;> rfl
      rw [List.countP_eq_length.2 (fun j _=>by simp only [this];rfl)]
      simp
    · have hf : ∀ j,(Array.replicate l.toArray.size false).getD j false=false:=fun j=>by
        simp only [Array.getD_eq_getD_getElem?,Array.getElem?_replicate]
        split <;> rfl
      refine ⟨ha.size,ha.defers,by simp,fun p hp=>ha.all _ _ (hE.all p hp),fun j hj _ p hp=>ha.all _ _ ((hE1 j hj).all p hp),fun j d h=>?_,fun j k h=>?_,fun j i h=>?_,?_⟩
      · rw [hf] at h;cases h
      · rw [hf] at h;cases h
      · rw [hf] at h;cases h
      · refine bV.of hw' fun j hj=>?_
        rw [List.mem_filter]
        refine ⟨List.mem_range.2 hj.1,?_⟩
        rcases hj.2.1 with h | h
        · simpa using h
        · rw [hf] at h;cases h⟩
structure oz (Y : Type) where
  E0 : Env
  N : Nat
  v : Nat→Y→Value
  M : Nat→Y→List ah
  need : Nat→List (Nat × Nat)
  cY : Nat→List Nat
  fQ : Nat→List Nat
  src : Nat→Option Nat
def oz.o (g : oz Y) : aG Y:=⟨g.E0,g.N,g.v,g.M,g.need,g.cY,g.fQ,g.src,fun _=>[]⟩
end
end Sl
end
section
namespace Sl
section
variable {P : Program} {t tx e : TypeId}
theorem fR (n : Nat) : Builtin.zeroCells #[.int .u8 0] n=(List.replicate n (Value.int .u8 0)).toArray:=by
  apply Array.ext'
  simp only [Builtin.zeroCells,List.size_toArray,List.length_cons,List.length_nil,Array.toList_map,Array.toList_range]
  apply List.ext_getElem?
  intro i
  by_cases h : i<n
  · simp [h,Nat.mod_one]
  · simp [h]
variable {n : Nat} {w0 : World} {S : List Nat} {ops : Array Oper} {Q : Exit→Act→World→Prop} {l : List Oper} {E : Env} {M : List ah} {d b : Nat} {ty : TypeId} {pos : String} {aft : Array Edge} {x y : Operand}
end
end Sl
end
section
set_option maxRecDepth 10000
open Sl
abbrev Bt:=BitVec 8
structure ai where
  ad : Option Addr
  cap : Nat
  l : List Bt
def ai.v (s : ai) : Value:=.slice s.ad s.l.length s.cap
structure ai.ok (w : World) (s : ai) : Prop where
  len : s.l.length≤s.cap
  reads : Reads w s.ad (s.l.map U8)
theorem ai.ok.lt {w : World} {s : ai} (h : s.ok w) (h0 : s.l≠[]) : ∀ a,s.ad=some a→a.block<w.heap.size:=by
  obtain ⟨b,j,h1,h2⟩:=h.reads.at (by simpa using List.length_pos_iff.2 h0)
  intro a ha
  rw [h1] at ha
  cases ha
  exact block_lt_of_cell (h2 0 _ (dz U8 0 (List.length_pos_iff.2 h0)))
theorem ai.ok.holds {w0 w : World} {S : List Nat} {M : List ah} {s : ai} (h : s.ok w0) (hw : aa w0 S M w) (hS : S=[]) : s.ok w:=⟨h.len,hw.reads h.reads (fun _ a _=>by rw [hS];simp)⟩
theorem ai.ok.ext {w w' : World} {s : ai} (h : s.ok w) (hx : Ext w w') : s.ok w':=h.holds (⟨hx,by simp,by simp⟩ : aa w [] [] w') rfl
def mm : ai:=⟨none,0,[]⟩
theorem mo (w : World) : mm.ok w:=⟨by simp [mm],Reads.nil _ _⟩
theorem kE (A M : List ah) : av A (A++M):=by
  induction A with
  | nil=>exact .nil _
  | cons e A ih=>exact .keep _ _ _ _ _ _ (fun _ h=>h) ih
theorem OQ.pF {P : Program} {n : Nat} {E : Env} {C : World→Prop} {dst : Option Tmp} {t ty : TypeId} {pos : String} {aft : Array Edge} {g : Option (Nat × Bool)} {x : Operand} {s : ByteArray} (hu : P.underlying t=some .string) (hx : ev E x=some (.string s)) : OQ P n E C ⟨dst,.call ⟨.builtin .len,#[x],#[t]⟩,ty,pos,aft,g⟩ (N s.size):=
  OQ.run fun a ha w _=>by
    have h1:=ha.eval hx
    have h3 : (underlying t).run P w=.ok .string w:=run_underlying hu w
    simp [execOp,h1,resolve,invoke,builtin,Builtin.len_,Sem.run_bind,h3,goInt]
theorem JE.less {n : Nat} {w0 : World} {S : List Nat} {Q : Exit→Act→World→Prop} {e : Exit} {E : Env} {M M' : List ah} (hM : av M' M) (h : JE n w0 S Q e E M') : JE n w0 S Q e E M:=⟨fun a w ha hw=>h.go a w ha (hw.weak hM)⟩
theorem Sl.Own.has {e : TypeId} {k cap m : Nat} {r : List Bt} : ∀ o,Sl.Own e 1 k cap (r.map U8) o→aV o 0 ((r.take m).map U8)∧k≤cap:=by
  rintro o ⟨sp,rfl,h1,h2,h3⟩
  refine ⟨⟨_,_,_,rfl,fun i hi=>?_⟩,h3⟩
  have hi' : i<m∧i<r.length:=by simp at hi;omega
  simp [List.getElem?_append_left,hi'.1,hi'.2]
def ai.nR (s : ai) : List ah:=match s.ad with
  | some a=>[⟨a.block,fun o=>aV o a.off (s.l.map U8)∧s.l.length≤s.cap∧a.spot=none,true⟩]
  | none=>[]
theorem ai.mq {s : ai} {w0 w : World} {S : List Nat} {M : List ah} (h : aa w0 S (s.nR++M) w) (h0 : s.ad=none→s.l=[]) : s.ok w:=by
  obtain ⟨ad,cap,l⟩:=s
  cases ad with
  | none=>
    have : l=[]:=h0 rfl
    subst this
    exact ⟨by simp,Reads.nil _ _⟩
  | some a=>
    obtain ⟨o,ho,h1,h2,h3⟩:=h.get (b:=a.block) (A:=fun o=>aV o a.off (l.map U8)∧l.length≤cap∧a.spot=none) (wr:=true) .here
    obtain ⟨b,j,sp⟩:=a
    simp only at h3
    subst h3
    exact ⟨h2,Reads.block ho h1⟩
structure qi (s : ai) (l : List Bt) (cap : Nat) : Prop where
  val : s.l=l
  cap : s.cap=cap
  none : s.ad=.none→s.l=[]
section
variable {P : Program} {n : Nat} {w0 w w' : World} {S : List Nat} {ops : Array Oper} {Q : Exit→Act→World→Prop} {l : List Oper} {E : Env} {M Ms : List ah} {d : Nat} {t t' e ty : TypeId} {pos : String} {aft : Array Edge} {x : Operand}
theorem Sl.aa.both (h : aa w0 S M w) (h2 : aa w [] Ms w') (hw : ∀ e ∈ Ms,e.wr=true) : aa w0 S (Ms++M) w':=by
  have hx : Ext w w':=h2.aq
  have h1:=h.ext hx
  have hfr : ∀ e ∈ Ms,w.heap.size≤e.b:=fun e he=>by
    rcases (h2.all e he).2 (hw e he) with h | h
    · cases h
    · exact h
  refine ⟨h1.aq,?_,fun e he=>?_⟩
  · rw [List.map_append,List.nodup_append]
    refine ⟨h2.nodup,h1.nodup,fun a ha b hb e=>?_⟩
    simp only [List.mem_map] at ha hb
    obtain ⟨e1,he1,rfl⟩:=ha
    obtain ⟨e2,he2,rfl⟩:=hb
    have:=hfr e1 he1
    obtain ⟨⟨o,ho,_⟩,_⟩:=h.all e2 he2
    have:=(Array.getElem?_eq_some_iff.1 ho).1
    omega
  · rcases List.mem_append.1 he with he | he
    · refine ⟨(h2.all e he).1,fun _=>.inr (Nat.le_trans h.aq.size (hfr e he))⟩
    · exact h1.all e he
theorem JL.cH {ι : Type} (vf : ι→Value) (Mf : ι→List ah) {f : FuncId} {xs : List Operand} {ats : Array TypeId} {vs : List Value} (hg : aM P f) (hx : dx E xs=some vs) (hd : Nat.blt d n=true) (hwr : ∀ i,∀ e ∈ Mf i,e.wr=true)
    (hc : ∀ w,aa w0 S M w→Calls P f vs.toArray w fun e w'=>∃ i,e=.returned (vf i)∧aa w [] (Mf i) w')
    (k : ∀ i,JL P n w0 S ops Q l ((d,vf i)::E) (Mf i++M)) : JL P n w0 S ops Q (⟨some d,.call ⟨.value (.func f),xs.toArray,ats⟩,ty,pos,aft,none⟩::l) E M:=
  JL.call (ι:=ι) vf (fun i=>Mf i++M) hg hx hd (fun w hw=>(hc w hw).mono fun _ _ ⟨i,h1,h2⟩=>⟨i,h1,hw.both h2 (hwr i)⟩) k
end
section
variable {P : Program} {n : Nat} {w0 w w' : World} {S : List Nat} {ops : Array Oper} {Q : Exit→Act→World→Prop} {l : List Oper} {E : Env} {M Ms : List ah} {d : Nat} {t t' e ty : TypeId} {pos : String} {aft : Array Edge} {x : Operand}
end
section
variable {P : Program} {n : Nat} {E : Env} {C : World→Prop} {dst : Option Tmp} {t t' ty : TypeId} {pos : String} {aft : Array Edge} {g : Option (Nat × Bool)} {x y : Operand}
theorem OQ.p9 {a b : Bt} (hx : ev E x=some (U8 a)) (hy : ev E y=some (U8 b)) : OQ P n E C ⟨dst,.binOp .neq t x y t',ty,pos,aft,g⟩ (.bool (!decide (a=b))):=by
  have:=OQ.o9 (P:=P) (n:=n) (C:=C) (dst:=dst) (ty:=ty) (t:=t) (t':=t') (pos:=pos) (aft:=aft) (g:=g) hx hy
  have h : decide ((a.toNat : Int)=b.toNat)=decide (a=b):=decide_eq_decide.2 ⟨fun h=>BitVec.eq_of_toNat_eq (by omega),fun h=>by rw [h]⟩
  rwa [h] at this
end
theorem fS {w0 w : World} {S : List Nat} {M : List ah} {b k cap : Nat} {e : TypeId} {l : List Bt} {wr : Bool} (hw : aa w0 S M w) (hM : Has M b (Sl.Own e 1 k cap (l.map U8)) wr) : ai.ok w ⟨some ⟨b,0,none⟩,cap,l⟩:=by
  obtain ⟨o,ho,hA⟩:=hw.get hM
  have hh:=Sl.Own.cells _ hA
  obtain ⟨sp,rfl,h2,h3,h4⟩:=hA
  simp only [List.length_map,Nat.mul_one] at h3
  exact ⟨by show l.length≤cap;omega,Reads.block ho hh⟩
theorem OQ.to {P : Program} {n : Nat} {E : Env} {C : World→Prop} {o : Oper} {v v' : Value} (h : OQ P n E C o v) (e : v=v') : OQ P n E C o v':=e ▸ h
def ai.fst (s : ai) (m : Nat) : ai:=⟨if s.cap=0 then s.ad else s.ad.map (·.add 0),s.cap,s.l.take m⟩
def ai.snd (s : ai) (m : Nat) : ai:=⟨if s.cap=m then s.ad else s.ad.map (·.add (m * 1)),s.cap - m,s.l.drop m⟩
theorem ai.ok.fst {s : ai} {w : World} (h : s.ok w) (m : Nat) : (s.fst m).ok w:=by
  refine ⟨by show (s.l.take m).length≤s.cap;have:=h.len;rw [List.length_take];omega,?_⟩
  show Reads w _ ((s.l.take m).map U8)
  by_cases h0 : s.l=[]
  · rw [h0];simpa using Reads.nil _ _
  · obtain ⟨b,j,hae,_⟩:=h.reads.at (by simpa using List.length_pos_iff.2 h0)
    have h1:=h.reads.take m
    rw [← List.map_take] at h1
    have h2 : (s.fst m).ad=s.ad:=by
      show (if s.cap=0 then s.ad else s.ad.map (·.add 0))=s.ad
      rw [hae]
      split <;> simp [Addr.add]
    rw [h2]
    exact h1
theorem ai.ok.snd {s : ai} {w : World} (h : s.ok w) (m : Nat) (hm : m≤s.l.length) : (s.snd m).ok w:=by
  refine ⟨by show (s.l.drop m).length≤s.cap - m;have:=h.len;rw [List.length_drop];omega,?_⟩
  have:=h.reads.drop (len:=s.l.length) (cap:=s.cap) (lo:=m) (by simp) h.len hm
  rwa [← List.map_drop] at this
theorem ai.oA (s : ai) (m : Nat) (hm : m≤s.l.length) : .slice (if s.cap=0 then s.ad else s.ad.map (·.add 0)) m s.cap=(s.fst m).v:=by simp [ai.v,ai.fst,Nat.min_eq_left hm]
theorem ai.oB (s : ai) (m : Nat) : .slice (if s.cap=m then s.ad else s.ad.map (·.add (m * 1))) (s.l.length - m) (s.cap - m)=(s.snd m).v:=by simp [ai.v,ai.snd]
theorem kF {e : TypeId} {xs : List Value} {n : Nat} (h : xs.length=n) : ∀ o,Row e xs o→Sl.Own e 1 n n xs o:=by
  rintro o rfl
  exact ⟨[],by simp,by simp [h],by simp [h],Nat.le_refl _⟩
theorem OQ.fst {P : Program} {n : Nat} {E : Env} {C : World→Prop} {dst : Option Tmp} {t ty e : TypeId} {pos : String} {aft : Array Edge} {g : Option (Nat × Bool)} {x y : Operand} {s : ai} {m : Nat} (hu : P.underlying t=some (.slice e)) (hz : bX P e=some 1) (hx : ev E x=some s.v) (hh : ev E y=some (N m)) (h : m≤s.l.length) (hc : s.l.length≤s.cap) :
    OQ P n E C ⟨dst,.slice t x none (some y) none,ty,pos,aft,g⟩ (s.fst m).v:=
  OQ.to (OQ.fP (ad:=s.ad) (len:=s.l.length) (cap:=s.cap) hu hz hx hh (Nat.le_trans h hc)) (ai.oA s m h)
theorem OQ.snd {P : Program} {n : Nat} {E : Env} {C : World→Prop} {dst : Option Tmp} {t ty e : TypeId} {pos : String} {aft : Array Edge} {g : Option (Nat × Bool)} {x y : Operand} {s : ai} {m : Nat} (hu : P.underlying t=some (.slice e)) (hz : bX P e=some 1) (hx : ev E x=some s.v) (hl : ev E y=some (N m)) (h : m≤s.l.length) :
    OQ P n E C ⟨dst,.slice t x (some y) none none,ty,pos,aft,g⟩ (s.snd m).v:=
  OQ.to (OQ.ku (ad:=s.ad) (len:=s.l.length) (cap:=s.cap) hu hz hx hl h) (ai.oB s m)
theorem JL.oC {P : Program} {n : Nat} {w0 : World} {S : List Nat} {ops : Array Oper} {Q : Exit→Act→World→Prop} {E : Env} {M : List ah} {l : List Oper} {d : Tmp} {t ty e : TypeId} {pos : String} {aft : Array Edge} {z : Value} {by' : Nat} (hu : P.underlying t=some (.slice e)) (hi : EI P e z 1 by') (hd : Nat.blt d n=true)
    (k : ∀ b,w0.heap.size≤b→JL P n w0 S ops Q l ((d,.slice (some ⟨b,0,none⟩) 0 0)::E) (⟨b,Sl.Own e 1 0 0 [],true⟩::M)) : JL P n w0 S ops Q (⟨some d,.buildSlice t 0 #[],ty,pos,aft,none⟩::l) E M:=
  JL.pz hu hi hd fun b hb=>⟨fun a w ha hw=>(k b hb).go a w ha (hw.weak (.keep _ _ _ _ _ _ (kF rfl) (av.refl _)))⟩
structure oq where
  ad : Option Addr
  cap : Nat
  l : List Int
def oq.v (s : oq) : Value:=.slice s.ad s.l.length s.cap
structure oq.ok (w : World) (s : oq) : Prop where
  len : s.l.length≤s.cap
  reads : Reads w s.ad (s.l.map fun i=>.int .i64 i)
theorem oq.ok.holds {w0 w : World} {S : List Nat} {M : List ah} {s : oq} (h : s.ok w0) (hw : aa w0 S M w) (hS : S=[]) : s.ok w:=⟨h.len,hw.reads h.reads (fun _ a _=>by rw [hS];simp)⟩
end
section
set_option maxRecDepth 10000
open Sl
theorem fk : Tryd.prog.follows .mixedOrders=true:=by kernel_rfl
theorem bG : bX Tryd.prog 5=some 1:=by kernel_rfl
theorem gD : dy Tryd.prog 5=true:=by kernel_rfl
theorem iC : EI Tryd.prog 5 (.int .u8 0) 1 1:=by unfold EI;kernel_rfl
end
section
namespace Sl
section
variable {P : Program} {n : Nat} {w0 : World} {S : List Nat} {ops : Array Oper} {Q : Exit→Act→World→Prop} {l : List Oper} {E : Env} {M : List ah} {C : World→Prop}
variable {dst : Option Tmp} {d b : Nat} {t e ty : TypeId} {pos : String} {aft : Array Edge} {g : Option (Nat × Bool)} {v : Value} {x y z : Operand}
theorem OQ.extract {vs : Array Value} {i : Nat} (hx : ev E x=some (.tuple vs)) (hi : vs[i]?=some v) : OQ P n E C ⟨dst,.extract x i,ty,pos,aft,g⟩ v:=
  OQ.run fun a ha w _=>by
    have h1:=ha.eval hx
    simp [execOp,h1,Instr.extract,hi]
theorem OQ.mu {len cap hi mx sz : Nat} {ad : Option Addr} (hu : P.underlying t=some (.slice e)) (hz : bX P e=some sz) (hx : ev E x=some (.slice ad len cap)) (hh : ev E y=some (N hi)) (hm : ev E z=some (N mx)) (h : hi≤mx) (h' : mx≤cap) :
    OQ P n E C ⟨dst,.slice t x none (some y) (some z),ty,pos,aft,g⟩ (.slice (if mx=0 then ad else ad.map (·.add 0)) hi mx):=
  OQ.run fun a ha w _=>by
    have h1:=ha.eval hx
    have h2:=ha.eval hh
    have h4:=ha.eval hm
    have h3 : (underlying t).run P w=.ok (.slice e) w:=run_underlying hu w
    simp [execOp,h1,h2,h4,Instr.sliceAt,Sem.run_bind,h3,Instr.slice,Instr.sliceBounds,Instr.sliceBound,asIntOf,h,h',ax hz]
theorem mw {k : Nat} (zc : Array Value) (h : zc=(List.replicate k (Value.int .u8 0)).toArray) (h0 : 0<k) (m : Nat) : madeCells zc m=(List.replicate m (Value.int .u8 0)).toArray:=by
  subst h
  apply Array.ext'
  simp only [madeCells,List.size_toArray,List.length_replicate,Array.toList_map,Array.toList_range]
  apply List.ext_getElem?
  intro i
  by_cases h : i<m
  · simp [h,Nat.mod_lt _ h0]
  · simp [h]
theorem JL.make {zv : Value} {sz by' c : Nat} (hu : P.underlying t=some (.slice e)) (hi : EI P e zv sz by') (hz : zv.cells=(List.replicate sz (Value.int .u8 0)).toArray) (h0 : 0<sz) (hx : ev E x=some (N c)) (hy : ev E y=some (N c)) (hb : by' * c≤281474976710656) (hc : c<9223372036854775808) (hd : Nat.blt d n=true)
    (k : ∀ b,w0.heap.size≤b→JL P n w0 S ops Q l ((d,.slice (some ⟨b,0,none⟩) c c)::E) (⟨b,Row e (List.replicate (c * sz) (.int .u8 0)),true⟩::M)) : JL P n w0 S ops Q (⟨some d,.makeSlice t x y,ty,pos,aft,none⟩::l) E M:=
  ⟨fun a w ha hw=>wpList_plain rfl fun K hK=>by
    obtain ⟨i,hi1,hi2,hi3,hi4⟩:=hi.get
    have hbb : (i.bytes : Int) * (c : Int)≤281474976710656:=by
      rw [hi4,← Int.natCast_mul]
      exact Int.ofNat_le.2 hb
    have hrun:=run_make (P:=P) w t e i zv hu hi1 hi2 .i64 .i64 c c (by omega) (Int.le_refl _) hbb (by omega)
    simp only [Int.toNat_natCast,hi3] at hrun
    rw [mw _ hz h0] at hrun
    unfold Oper.wp
    simp only [execOp,ha.eval hx,ha.eval hy,Sem.run_bind,hrun,Result.andThen_ok]
    exact hK _ _ ((k w.heap.size hw.aq.size).go _ _ (ha.put d _ hd) (hw.push (.cells (List.replicate (c * sz) (Value.int .u8 0)).toArray e (0,0)) rfl rfl rfl rfl rfl))⟩
end
end Sl
end
section
namespace Sl
section
variable {P : Program} {n : Nat} {w0 : World} {S : List Nat} {ops : Array Oper} {Q : Exit→Act→World→Prop} {l : List Oper} {E : Env} {M : List ah}
variable {d : Nat} {t e ty : TypeId} {pos : String} {aft : Array Edge} {v z : Value} {x : Operand} {sz by' : Nat} {cs : List Value}
end
end Sl
end
section
namespace Sl
section
variable {P : Program} {n : Nat} {w0 : World} {S : List Nat} {ops : Array Oper} {Q : Exit→Act→World→Prop} {l : List Oper} {E : Env} {M : List ah} {C : World→Prop}
variable {dst : Option Tmp} {d b : Nat} {t t' e ty : TypeId} {pos : String} {aft : Array Edge} {g : Option (Nat × Bool)} {v zv : Value} {x y z : Operand} {by' : Nat}
theorem OQ.eN {len cap lo hi sz : Nat} {ad : Option Addr} (hu : P.underlying t=some (.slice e)) (hz : bX P e=some sz) (hx : ev E x=some (.slice ad len cap)) (hl : ev E y=some (N lo)) (hh : ev E z=some (N hi)) (h : lo≤hi) (h' : hi≤cap) :
    OQ P n E C ⟨dst,.slice t x (some y) (some z) none,ty,pos,aft,g⟩ (.slice (if cap=lo then ad else ad.map (·.add (lo * sz))) (hi - lo) (cap - lo)):=
  OQ.run fun a ha w _=>by
    have h1:=ha.eval hx
    have h2:=ha.eval hl
    have h4:=ha.eval hh
    have h3 : (underlying t).run P w=.ok (.slice e) w:=run_underlying hu w
    simp [execOp,h1,h2,h4,Instr.sliceAt,Sem.run_bind,h3,Instr.slice,Instr.sliceBounds,Instr.sliceBound,asIntOf,h,h',ax hz]
theorem fm {j s : Nat} (h : (ops[j]?).bind (·.dst)=some s) (hl : lk E s=some undef) (hs : Nat.blt s n=true) {a : Act} (ha : an n E a) : yielded ops a.tmps j=none:=by
  have hlt : s<n:=by simpa using hs
  have h1:=ha.all s undef hl
  have h2 : a.tmps[s]?=some undef:=by
    have : s<a.tmps.size:=by rw [ha.size];exact hlt
    rw [Array.getElem?_eq_getElem this]
    simpa [Array.getD,this] using h1
  simp [yielded,h,h2,undef]
theorem JL.iD {j s : Nat} {want : Bool} {op : Op} (h : (ops[j]?).bind (·.dst)=some s) (hl : lk E s=some undef) (hs : Nat.blt s n=true) (hd : Nat.blt d n=true) (k : JL P n w0 S ops Q l ((d,undef)::E) M) :
    JL P n w0 S ops Q (⟨some d,op,ty,pos,aft,some (j,want)⟩::l) E M:=
  ⟨fun a w ha hw=>wpList_skip (by simp [Region.wanted,fm h hl hs ha]) (k.go _ _ (ha.put d undef hd) hw)⟩
def pairs : Nat→List Operand→List (Nat × Operand)
  | _,[]=>[]
  | i,x::xs=>(i,x)::pairs (i+1) xs
theorem fA {a : Act} (hk : an n E a) : ∀ {xs : List Operand} {vs : List Value} (i : Nat),dx E xs=some vs→(pairs i xs).map (fun p=>(p.1,a.eval p.2))=(vs.zipIdx i).map fun x=>(x.2,x.1)
  | [],vs,i,h=>by
    simp only [dx,Option.some.injEq] at h
    subst h
    rfl
  | x::xs,vs,i,h=>by
    simp only [dx] at h
    cases h1 : ev E x with
    | none=>simp [h1] at h
    | some v=>
      cases h2 : dx E xs with
      | none=>simp [h1,h2] at h
      | some us=>
        simp only [h1,h2,Option.some.injEq] at h
        subst h
        simp [pairs,hk.eval h1,fA hk (i+1) h2]
theorem iE {w : World} {vs : List Value} {m : Nat} (hu : P.underlying t=some (.slice e)) (hi : EI P e zv 1 by') (hz : zv.cells.size=1) (h1 : ∀ v ∈ vs,v.cells=#[v]) (hm : vs.length=m) (h0 : 0<m) (hsm : m≤16777216) :
    (Instr.buildSlice t m ((vs.zipIdx 0).map fun x=>(x.2,x.1)).toArray).run P w=.ok (.slice (some ⟨w.heap.size,0,none⟩) m m) { w with heap:=w.heap.push (.cells vs.toArray e (0,0)) }:=by
  have h3 : (underlying t).run P w=.ok (.slice e) w:=run_underlying hu w
  obtain ⟨i,h4,h5,_⟩:=hi.get
  have h6:=Great.fill_flat vs ((Array.range (m * 1)).map (zv.cells[· % zv.cells.size]!)) h1 (by simp [hm])
  have h9 : ¬ (16777216<m):=by omega
  have h10 : ¬ (m=0):=by omega
  have h11 : (zeroValue e).run P w=.ok zv w:=by simp [zeroValue,typeInfo,h4,h5]
  simp only [Nat.mul_one] at h6
  simp [Instr.buildSlice,Sem.run_bind,h3,ax hi.sz,h9,h10,h11,h6,newRow,newObj,Sem.run]
theorem JL.nS {xs : List Operand} {ps : Array (Nat × Operand)} {vs : List Value} {m : Nat} (hu : P.underlying t=some (.slice e)) (hi : EI P e zv 1 by') (hz : zv.cells.size=1) (hps : ps=(pairs 0 xs).toArray) (hx : dx E xs=some vs) (h1 : vs.all (fun v=>v.oneCell')=true) (h2 : ∀ v ∈ vs,v.cells=#[v]) (hm : vs.length=m) (h0 : 0<m) (hsm : m≤16777216) (hd : Nat.blt d n=true)
    (k : ∀ b,w0.heap.size≤b→JL P n w0 S ops Q l ((d,.slice (some ⟨b,0,none⟩) m m)::E) (⟨b,Row e vs,true⟩::M)) : JL P n w0 S ops Q (⟨some d,.buildSlice t m ps,ty,pos,aft,none⟩::l) E M:=
  ⟨fun a w ha hw=>wpList_plain rfl fun K hK=>by
    unfold Oper.wp
    have hm' : ps.map (fun (i,x)=>(i,a.eval x))=((vs.zipIdx 0).map fun x=>(x.2,x.1)).toArray:=by
      rw [hps,List.map_toArray,← fA ha 0 hx]
    simp only [execOp,hm',Sem.run_bind,iE hu hi hz h2 hm h0 hsm,Result.andThen_ok]
    exact hK _ _ ((k w.heap.size hw.aq.size).go _ _ (ha.put d _ hd) (hw.push _ rfl rfl rfl rfl rfl))⟩
end
end Sl
end
section
namespace Sl
section
variable {P : Program} {n : Nat} {w0 : World} {S : List Nat} {ops : Array Oper} {Q : Exit→Act→World→Prop} {l : List Oper} {E : Env} {M : List ah} {C : World→Prop}
variable {dst : Option Tmp} {d b : Nat} {t t' e ty : TypeId} {pos : String} {aft : Array Edge} {g : Option (Nat × Bool)} {v zv : Value} {x y z : Operand} {by' : Nat}
theorem OQ.o3 {a b : BitVec 8} (hx : ev E x=some (U8 a)) (hy : ev E y=some (U8 b)) : OQ P n E C ⟨dst,.binOp .or t x y t',ty,pos,aft,g⟩ (U8 (a ||| b)):=
  OQ.bin hx hy rfl fun _=>dR (k:=.u8) (show IntKind.u8.wrap ((BitVec.ofInt 8 (a.toNat : Int) ||| BitVec.ofInt 8 (b.toNat : Int)).toNat : Int)=_ by rw [cX,cX,kr])
theorem OQ.qa {a b : BitVec 8} (hx : ev E x=some (U8 a)) (hy : ev E y=some (U8 b)) : OQ P n E C ⟨dst,.binOp .eql t x y t',ty,pos,aft,g⟩ (.bool (decide (a=b))):=by
  have:=OQ.p7 (P:=P) (n:=n) (C:=C) (dst:=dst) (ty:=ty) (t:=t) (t':=t') (pos:=pos) (aft:=aft) (g:=g) hx hy
  have h : decide ((a.toNat : Int)=b.toNat)=decide (a=b):=decide_eq_decide.2 ⟨fun h=>BitVec.eq_of_toNat_eq (by omega),fun h=>by rw [h]⟩
  rwa [h] at this
end
end Sl
end
section
namespace Sl
@[reducible] def I (a : Int) : Value:=.int .i64 a
section
variable {P : Program} {n : Nat} {E : Env} {C : World→Prop} {dst : Option Tmp} {ty t t' : TypeId} {pos : String} {aft : Array Edge} {g : Option (Nat × Bool)} {x y : Operand}
theorem OQ.oD {a b : Int} (hx : ev E x=some (I a)) (hy : ev E y=some (I b)) (h0 : -9223372036854775808≤a+b) (h : a+b<9223372036854775808) : OQ P n E C ⟨dst,.binOp .add t x y t',ty,pos,aft,g⟩ (I (a+b)):=
  OQ.bin hx hy rfl fun _=>dR (k:=.i64) (show IntKind.i64.wrap (a+b)=a+b from dS h0 h)
theorem OQ.pG {a b : Int} (hx : ev E x=some (I a)) (hy : ev E y=some (I b)) (h0 : -9223372036854775808≤a * b) (h : a * b<9223372036854775808) : OQ P n E C ⟨dst,.binOp .mul t x y t',ty,pos,aft,g⟩ (I (a * b)):=
  OQ.bin hx hy rfl fun _=>dR (k:=.i64) (show IntKind.i64.wrap (a * b)=a * b from dS h0 h)
theorem OQ.pH {a m : Int} {yk : IntKind} {k : Nat} (hm : (2 : Int) ^ k=m) (hk : k≤64) (hx : ev E x=some (I a)) (hy : ev E y=some (.int yk k)) : OQ P n E C ⟨dst,.binOp .shr t x y t',ty,pos,aft,g⟩ (I (a / m)):=
  OQ.bin hx hy rfl fun w=>by
    have h1 : a.fdiv (2 ^ (min k 64))=a / m:=by
      rw [Int.fdiv_eq_ediv_of_nonneg _ (by exact Int.le_of_lt (Int.pow_pos (by decide))),Nat.min_eq_left hk,hm]
    have h7 : Op.shift .shr .i64 a yk (k : Int)=(Pure.pure (.int .i64 (a.fdiv (2 ^ (min k 64)))) : Sem Value):=by
      unfold Op.shift
      rw [if_neg (by omega)];rfl
    show Sem.run P (Op.shift .shr .i64 a yk (k : Int)) w=_
    rw [h7,h1];rfl
theorem OQ.pI {a m r : Int} (k : Nat) (hk : k<63) (hm : (2 : Int) ^ k - 1=m) (hr : (2 : Int) ^ k=r) (hx : ev E x=some (I a)) (hy : ev E y=some (I m)) : OQ P n E C ⟨dst,.binOp .and t x y t',ty,pos,aft,g⟩ (I (a % r)):=
  OQ.bin hx hy rfl fun _=>dR (k:=.i64) (show IntKind.i64.wrap ((BitVec.ofInt 64 a &&& BitVec.ofInt 64 m).toNat : Int)=a % r from by
    have p1 : 2 ^ k<2 ^ 63:=Nat.pow_lt_pow_right (by omega) hk
    have p0 : 0<2 ^ k:=Nat.pow_pos (by omega)
    have e0 : m=((2 ^ k - 1 : Nat) : Int):=by
      rw [← hm,Int.natCast_sub p0]
      simp
    have e1 : BitVec.ofInt 64 m=BitVec.ofNat 64 (2 ^ k - 1):=by rw [e0];simp only [BitVec.ofInt_natCast]
    have e2 : ((BitVec.ofInt 64 a &&& BitVec.ofNat 64 (2 ^ k - 1)).toNat : Int)=a % r:=by
      rw [BitVec.toNat_and,BitVec.toNat_ofNat,Nat.mod_eq_of_lt (by omega),Nat.and_two_pow_sub_one_eq_mod,BitVec.toNat_ofInt,← hr]
      have q : (0 : Int)≤a % (2 ^ 64 : Nat):=Int.emod_nonneg _ (by decide)
      rw [Int.natCast_emod,Int.toNat_of_nonneg q,Int.natCast_pow]
      exact Int.emod_emod_of_dvd a (by
        obtain ⟨j,hj⟩ : ∃ j,64=k+j:=⟨64 - k,by omega⟩
        rw [Int.natCast_pow,hj,Int.pow_add]
        exact Int.dvd_mul_right _ _)
    rw [e1,e2]
    have q0 : 0≤a % r:=Int.emod_nonneg _ (by rw [← hr];have:=Int.pow_pos (n:=2) (m:=k) (by decide);omega)
    have q1 : a % r<r:=Int.emod_lt_of_pos _ (by rw [← hr];exact Int.pow_pos (by decide))
    have q2 : r=((2 ^ k : Nat) : Int):=by rw [← hr];simp
    exact dS (by omega) (by omega))
end
end Sl
end
section
namespace Sl
section
variable {P : Program} {n : Nat} {E : Env} {C : World→Prop} {dst : Option Tmp} {ty t t' : TypeId} {pos : String} {aft : Array Edge} {g : Option (Nat × Bool)} {x y z : Operand}
structure qb (P : Program) (f : FuncId) : Prop where
  go : ∃ fn,P.funcs[f]?=some fn∧(fn.name == "runtime.NumGoroutine")=false∧fn.body.isNone=true∧Extern.findNext fn=none∧Extern.find fn=some add64Entry
end
end Sl
end
section
open Sl
def gE (l : List Bt) : ByteArray:=⟨(l.map UInt8.ofBitVec).toArray⟩
@[reducible] def Z (l : List Bt) : Value:=.string (gE l)
theorem jL (l : List Bt) : (gE l).size=l.length:=by
  show (l.map UInt8.ofBitVec).toArray.size=l.length
  simp
theorem mz (l r : List Bt) : ((gE l).toList == (gE r).toList)=decide (l=r):=by
  rw [ByteArray.toList_eq,ByteArray.toList_eq]
  show ((l.map UInt8.ofBitVec).toArray.toList == (r.map UInt8.ofBitVec).toArray.toList)=_
  rw [List.toList_toArray,List.toList_toArray]
  exact mj l r
section
variable {P : Program} {n : Nat} {E : Env} {C : World→Prop} {dst : Option Tmp} {ty t t' e : TypeId} {pos : String} {aft : Array Edge} {g : Option (Nat × Bool)} {x y : Operand} {l r : List Bt}
theorem OQ.pJ (hu : P.underlying t=some .string) (hx : ev E x=some (Z l)) : OQ P n E C ⟨dst,.call ⟨.builtin .len,#[x],#[t]⟩,ty,pos,aft,g⟩ (N l.length):=
  jL l ▸ OQ.pF hu hx
theorem OQ.qc (hx : ev E x=some (Z l)) (hy : ev E y=some (Z r)) : OQ P n E C ⟨dst,.binOp .eql t x y t',ty,pos,aft,g⟩ (.bool (decide (l=r))):=
  OQ.run fun a ha w _=>by
    have h1:=ha.eval hx
    have h2:=ha.eval hy
    simp [execOp,h1,h2,eqGuard,binOp,Op.stringOp,mz]
theorem OQ.oE (hx : ev E x=some (Z l)) (hy : ev E y=some (Z r)) (h : l=r) : OQ P n E C ⟨dst,.binOp .eql t x y t',ty,pos,aft,g⟩ (.bool true):=
  (decide_eq_true h : decide (l=r)=true) ▸ OQ.qc hx hy
end
theorem gF : ∀ (l : List Bt) (s : ByteArray),(l.map fun b=>(b.toNat : Int)).foldl (fun r n=>r.push (UInt8.ofNat n.toNat)) s=s++gE l
  | [],s=>by
    apply ByteArray.ext
    rw [ByteArray.data_append]
    show s.data=s.data++#[]
    simp
  | b::l,s=>by
    rw [List.map_cons,List.foldl_cons,gF l]
    apply ByteArray.ext
    rw [ByteArray.data_append,ByteArray.data_append,ByteArray.data_push]
    have e : UInt8.ofNat ((b.toNat : Int)).toNat=UInt8.ofBitVec b:=by
      apply UInt8.toNat_inj.1
      simp
    rw [e]
    show s.data.push (UInt8.ofBitVec b)++(l.map UInt8.ofBitVec).toArray=s.data++((b::l).map UInt8.ofBitVec).toArray
    simp
theorem en {P : Program} {w : World} {ad : Addr} {cs : List Value} (h : Reads w (some ad) cs) : (loadCells ad cs.length).run P w=.ok cs.toArray w:=by
  refine run_loadCells_list (P:=P) w ad cs fun i v hv=>?_
  obtain ⟨b,j,h1,h2⟩:=h i v hv
  cases h1
  rw [aO];exact h2
section
variable {P : Program} {n : Nat} {E : Env} {w0 : World} {S : List Nat} {M : List ah} {dst : Option Tmp} {ty t t' e : TypeId} {pos : String} {aft : Array Edge} {g : Option (Nat × Bool)} {x : Operand}
theorem OQ.o4 {s : ai} (hs : P.underlying t=some (.slice e)) (he : P.underlying e=some (.int .u8)) (hd : P.underlying t'=some .string) (hx : ev E x=some s.v) (hr : ∀ w,aa w0 S M w→s.ok w) :
    OQ P n E (aa w0 S M) ⟨dst,.convert t t' x,ty,pos,aft,g⟩ (Z s.l):=
  OQ.run fun a ha w hw=>by
    have h1:=ha.eval hx
    have ok:=(hr w hw).reads
    have h2 : (convert t t' s.v).run P w=.ok (Z s.l) w:=by
      obtain ⟨ad,cap,l⟩:=s
      show (convert t t' (.slice ad l.length cap)).run P w=_
      rw [run_convert_bytes_string w t t' e ad l.length cap hs he hd]
      cases ad with
      | none=>
        have : l=[]:=by
          cases l with
          | nil=>rfl
          | cons b l=>
            obtain ⟨_,_,h,_⟩:=ok 0 (U8 b) rfl
            cases h
        subst this
        rfl
      | some ad=>
        have h3 : (loadCells ad l.length).run P w=.ok ((l.map fun b=>(b.toNat : Int)).map (Value.int .u8)).toArray w:=by
          have:=en (P:=P) ok
          rw [List.length_map] at this
          rw [this,List.map_map];rfl
        rw [run_bytesToString w ad l.length cap _ h3,gF]
        have : ByteArray.empty++gE l=gE l:=by
          apply ByteArray.ext
          rw [ByteArray.data_append]
          show #[]++(gE l).data=_
          simp
        rw [this]
    simp only [execOp,h1,Sem.run_bind,h2,Result.andThen_ok];rfl
end
structure o5 (x : ai) (l : List Bt) : Prop where
  val : x.l=l
  none : x.ad=.none→x.l=[]
theorem jM (A M : List ah) : av M (A++M):=by
  induction A with
  | nil=>exact av.refl _
  | cons e A ih=>exact .drop _ _ _ ih
theorem o5.ok {x : ai} {l : List Bt} {w0 w : World} {S : List Nat} {M : List ah} (h : o5 x l) (hw : aa w0 S (x.nR++M) w) : x.ok w:=ai.mq hw h.none
theorem o5.mA {x : ai} {l : List Bt} {w0 w : World} {S : List Nat} {A M : List ah} (h : o5 x l) (hw : aa w0 S (A++(x.nR++M)) w) : x.ok w:=h.ok (hw.weak (jM _ _))
end
section
open Sl
theorem eD.over {w0 w1 w2 : World} {S : List Nat} (h1 : Ext w0 w1) (h2 : eD S w1 w2) (hS : ∀ b ∈ S,w0.heap.size≤b) : Ext w0 w2:=
  ⟨h2.os.trans h1.os,h2.tape.trans h1.tape,h2.output.trans h1.output,Nat.le_trans h1.size h2.size,
   fun k hk hk'=>(h2.block k (Nat.lt_of_lt_of_le hk h1.size) (fun h=>by have:=hS k h;omega)).trans (h1.block k hk hk')⟩
theorem JL.nq {P : Program} {n : Nat} {w0 : World} {S S' : List Nat} {ops : Array Oper} {Q : Exit→Act→World→Prop} {l : List Oper} {E : Env} {M : List ah} {d : Nat} {ty : TypeId} {pos : String} {aft : Array Edge} {ι : Type} (vf : ι→Value) (F : ι→World→Prop) (M' : List ah)
    {f : FuncId} {xs : List Operand} {ats : Array TypeId} {vs : List Value} (hg : aM P f) (hx : dx E xs=some vs) (hd : Nat.blt d n=true)
    (hc : ∀ w1,aa w0 S M w1→Calls P f vs.toArray w1 fun e w2=>∃ i,e=.returned (vf i)∧Ext w1 w2∧F i w2)
    (hM : av M' M) (hS : ∀ e ∈ M',e.wr=true→e.b ∈ S')
    (k : ∀ i w1,aa w0 S M w1→F i w1→JL P n w1 S' ops Q l ((d,vf i)::E) M') : JL P n w0 S ops Q (⟨some d,.call ⟨.value (.func f),xs.toArray,ats⟩,ty,pos,aft,none⟩::l) E M:=
  ⟨fun a w ha hw=>wpList_plain rfl fun K hK=>by
    unfold Oper.wp
    rw [cC hg ha hx w]
    exact (hc w hw).mono fun e w' ⟨i,h1,h2,h3⟩=>by
      subst h1
      have hw':=hw.ext h2
      have hm:=hw'.weak hM
      exact hK _ _ ((k i w' hw' h3).go _ _ (ha.put d _ hd) ⟨eD.refl _ _,hm.nodup,fun e he=>⟨(hm.all e he).1,fun hr=>.inl (hS e he hr)⟩⟩)⟩
structure jl where
  ad : Option Addr
  cap : Nat
  rs : List ai
def jl.v (s : jl) : Value:=.slice s.ad s.rs.length s.cap
structure jl.ok (w : World) (s : jl) : Prop where
  len : s.rs.length≤s.cap
  reads : Reads w s.ad (s.rs.map ai.v)
  all : ∀ y ∈ s.rs,y.ok w
theorem Sl.aa.base {w0 w1 w2 : World} {M : List ah} (h1 : Ext w0 w1) (h : aa w1 [] M w2) : aa w0 [] M w2:=
  ⟨eD.over h1 h.aq (by simp),h.nodup,fun e he=>⟨(h.all e he).1,fun hr=>.inr (((h.all e he).2 hr).elim (fun h=>by simp at h) (fun h=>Nat.le_trans h1.size h))⟩⟩
theorem oF (l : List Bt) : ∀ v ∈ l.map U8,v.oneCell'=true:=by
  intro v hv
  obtain ⟨x,_,rfl⟩:=List.mem_map.1 hv
  rfl
theorem JE.oG {P : Program} {fn : Func} {R : Ending→World→Prop} {n : Nat} {w0 : World} {S : List Nat} {E : Env} {M : List ah} {r1 r2 r3 : ResultVar} {v1 v2 v3 : Value} (hr : fn.results=#[r1,r2,r3]) (h1 : RV P n w0 S E M r1 v1) (h2 : RV P n w0 S E M r2 v2) (h3 : RV P n w0 S E M r3 v3) (hR : ∀ w,aa w0 S M w→R (.returned (.tuple #[v1,v2,v3])) w) : JE n w0 S (bodyPost P fn R) .ret E M:=by
  refine ⟨fun a w ha hw=>?_⟩
  refine ⟨ha.defers,.tuple #[v1,v2,v3],?_,hR w hw⟩
  have e1:=h1 a w ha hw
  have e2:=h2 a w ha hw
  have e3:=h3 a w ha hw
  rw [bL,hr]
  simp [Sem.run_bind,e1,e2,e3]
theorem jl.ok.holds {w0 w : World} {S : List Nat} {M : List ah} {s : jl} (h : s.ok w0) (hw : aa w0 S M w) (hS : S=[]) : s.ok w:=⟨h.len,hw.reads h.reads (fun _ a _=>by rw [hS];simp),fun y hy=>(h.all y hy).holds hw hS⟩
section
variable {P : Program} {n : Nat} {E : Env} {C : World→Prop} {dst : Option Tmp} {ty t t' : TypeId} {pos : String} {aft : Array Edge} {g : Option (Nat × Bool)} {x y : Operand}
end
end
section
namespace Sl
section
variable {P : Program} {t tx e : TypeId}
variable {n : Nat} {w0 : World} {S : List Nat} {ops : Array Oper} {Q : Exit→Act→World→Prop} {l : List Oper} {E : Env} {M : List ah} {d b : Nat} {ty : TypeId} {pos : String} {aft : Array Edge} {x y : Operand}
end
end Sl
end
section
namespace Sl
section
variable {P : Program} {n : Nat} {E : Env} {C : World→Prop} {dst : Option Tmp} {t t' ty : TypeId} {pos : String} {aft : Array Edge} {g : Option (Nat × Bool)} {x y : Operand} {c : Bool}
theorem OQ.gG {k : IntKind} {a b : Int} (hx : ev E x=some (.int k a)) (hy : ev E y=some (.int k b)) (h : decide (a<b)=c) : OQ P n E C ⟨dst,.binOp .lss t x y t',ty,pos,aft,g⟩ (.bool c):=OQ.bin hx hy rfl fun _=>by cases k <;> exact dA h
theorem OQ.iF {k : IntKind} {a b : Int} (hx : ev E x=some (.int k a)) (hy : ev E y=some (.int k b)) (h : decide (b<a)=c) : OQ P n E C ⟨dst,.binOp .gtr t x y t',ty,pos,aft,g⟩ (.bool c):=OQ.bin hx hy rfl fun _=>by cases k <;> exact dA h
theorem OQ.jN {k : IntKind} {a b : Int} (hx : ev E x=some (.int k a)) (hy : ev E y=some (.int k b)) (h : decide (b≤a)=c) : OQ P n E C ⟨dst,.binOp .geq t x y t',ty,pos,aft,g⟩ (.bool c):=OQ.bin hx hy rfl fun _=>by cases k <;> exact dA h
theorem OQ.eo {k : IntKind} {a b : Int} (hx : ev E x=some (.int k a)) (hy : ev E y=some (.int k b)) (h : decide (a=b)=c) : OQ P n E C ⟨dst,.binOp .eql t x y t',ty,pos,aft,g⟩ (.bool c):=h ▸ OQ.p7 hx hy
theorem OQ.qj {k : IntKind} {a b : Int} (hx : ev E x=some (.int k a)) (hy : ev E y=some (.int k b)) (h : decide (a=b)=c) : OQ P n E C ⟨dst,.binOp .neq t x y t',ty,pos,aft,g⟩ (.bool (!c)):=by
  have:=OQ.o9 (P:=P) (n:=n) (C:=C) (dst:=dst) (ty:=ty) (t:=t) (t':=t') (pos:=pos) (aft:=aft) (g:=g) hx hy
  rw [h] at this
  exact this
theorem OQ.pK {a b : BitVec 8} (hx : ev E x=some (U8 a)) (hy : ev E y=some (U8 b)) (h : decide (a=b)=c) : OQ P n E C ⟨dst,.binOp .neq t x y t',ty,pos,aft,g⟩ (.bool (!c)):=by
  have:=OQ.p9 (P:=P) (n:=n) (C:=C) (dst:=dst) (ty:=ty) (t:=t) (t':=t') (pos:=pos) (aft:=aft) (g:=g) hx hy
  rw [h] at this
  exact this
end
end Sl
end
section
open Sl
abbrev Acc:=Option (Nat × Nat)
def aE (q : Acc) (k : Nat) : Value:=match q with
  | none=>.slice none 0 0
  | some p=>.slice (some ⟨p.1,0,none⟩) k p.2
def aQ (e : TypeId) (q : Acc) (xs : List Value) : List ah:=match q with
  | none=>[]
  | some p=>[⟨p.1,Sl.Own e 1 xs.length p.2 xs,true⟩]
def iG (q : Acc) (l : List Bt) : ai:=match q with
  | none=>mm
  | some p=>⟨some ⟨p.1,0,none⟩,p.2,l⟩
theorem kG (q : Acc) (l : List Bt) : (iG q l).v=aE q l.length:=by cases q <;> rfl
theorem kH {q : Acc} {l : List Bt} (h : q=none→l=[]) : (iG q l).l=l:=by
  cases q with
  | none=>exact (h rfl).symm
  | some p=>rfl
theorem kI {w0 w : World} {S : List Nat} {M : List ah} {e : TypeId} {q : Acc} {l : List Bt} (hw : aa w0 S (aQ e q (l.map U8)++M) w) : (iG q l).ok w:=by
  cases q with
  | none=>exact mo w
  | some p=>
    have hw : aa w0 S (⟨p.1,Sl.Own e 1 (l.map U8).length p.2 (l.map U8),true⟩::M) w:=hw
    rw [List.length_map] at hw
    exact fS hw .here
theorem cl (e : TypeId) (q : Acc) (xs : List Value) : ∀ x ∈ aQ e q xs,x.wr=true:=by
  intro x hx
  cases q with
  | none=>cases hx
  | some p=>rw [List.mem_singleton.1 hx]
section
variable {P : Program} {n : Nat} {w0 : World} {S : List Nat} {ops : Array Oper} {Q : Exit→Act→World→Prop} {l : List Oper} {E : Env} {M : List ah} {d : Nat} {t tx e ty : TypeId} {pos : String} {aft : Array Edge} {x y : Operand}
theorem JL.kJ {i : TypeInfo} {ad : Option Addr} {sc : Nat} (hu : P.underlying t=some (.slice e)) (hi : P.info? e=some i) (hx : ev E x=some (.slice none 0 0)) (hy : ev E y=some (.slice ad 0 sc)) (hd : Nat.blt d n=true)
    (kk : JL P n w0 S ops Q l ((d,.slice none 0 0)::E) M) : JL P n w0 S ops Q (⟨some d,.call ⟨.builtin .append,#[x,y],#[t,t]⟩,ty,pos,aft,none⟩::l) E M:=
  ⟨fun a w ha hw=>wpList_plain rfl fun K hK=>by
    unfold Oper.wp
    simp only [execOp,resolve,invoke,builtin,Sem.run_bind,Sem.run_pure,Result.andThen_ok,List.map_toArray,List.map_cons,List.map_nil,ha.eval hx,ha.eval hy]
    rw [dU (_t':=t) hu hi (Nat.le_refl 0)]
    exact hK _ _ (kk.go _ _ (ha.put d _ hd) hw)⟩
theorem JL.jm {z : Value} {by' m sc : Nat} {ad : Option Addr} {xs cs : List Value} (q : Acc) (hu : P.underlying t=some (.slice e)) (hi : EI P e z 1 by') (hq : q=none→xs=[]) (hx : ev E x=some (aE q xs.length)) (hy : ev E y=some (.slice ad m sc))
    (hl : cs.length=m) (hr : ∀ w,aa w0 S (aQ e q xs++M) w→Reads w ad cs) (h1 : ∀ v ∈ cs,v.oneCell'=true)
    (hzz : z.cells.size=1) (hsm : (xs.length+m) * by'≤140737488355328) (hsm2 : xs.length+m<9223372036854775808) (hd : Nat.blt d n=true)
    (kk : ∀ q' : Acc,(q'=none→xs++cs=[])→JL P n w0 S ops Q l ((d,aE q' (xs++cs).length)::E) (aQ e q' (xs++cs)++M)) : JL P n w0 S ops Q (⟨some d,.call ⟨.builtin .append,#[x,y],#[t,t]⟩,ty,pos,aft,none⟩::l) E (aQ e q xs++M):=by
  subst hl
  cases q with
  | none=>
    obtain rfl:=hq rfl
    cases cs with
    | nil=>
      obtain ⟨i,hi1,_⟩:=hi.get
      exact JL.kJ hu hi1 hx hy hd (kk none fun _=>rfl)
    | cons c cs=>
      refine JL.append_nil (cs:=c::cs) hu hi hx hy (by rw [Nat.mul_one]) hr (by simp) hzz (by decide) (by simpa using hsm) (by simpa using hsm2) hd fun b' cap' _=>?_
      exact kk (some (b',cap')) (fun h=>by cases h)
  | some p=>
    have e1 : (xs++cs).length=xs.length+cs.length:=List.length_append
    refine JL.append (cs:=cs) (b:=p.1) (cap:=p.2) (xs:=xs) (fun b' cap'=>aQ e (some (b',cap')) (xs++cs)++M) hu hi hx hy (fun b' cap'=>?_) (by rw [Nat.mul_one]) hr h1 hzz (by decide) hsm hsm2 hd fun b' cap'=>?_
    · show bU (⟨p.1,Sl.Own e 1 xs.length p.2 xs,true⟩::M) _ _ _ _ (⟨b',Sl.Own e 1 (xs++cs).length cap' (xs++cs),true⟩::M)
      rw [e1]
      exact .here
    · have:=kk (some (b',cap')) (fun h=>by cases h)
      show JL P n w0 S ops Q l ((d,.slice (some ⟨b',0,none⟩) (xs.length+cs.length) cap')::E) _
      rw [← e1]
      exact this
end
end
section
set_option maxRecDepth 10000
open Sl
theorem eO : aM Tryd.prog 69:=⟨_,Tryd.func69,rfl,by kernel_rfl⟩
theorem c5 : aM Tryd.prog 74:=⟨_,Tryd.func74,rfl,by kernel_rfl⟩
def preB (s d : List Bt) : Bool:=decide ((d.length : Int)≤(s.length : Int)) && decide (s.take d.length=d)
def mB (s d : List Bt) : Bool:=decide ((d.length : Int)≤(s.length : Int)) && decide (s.drop (s.length - d.length)=d)
theorem OQ.isNil {P : Program} {n : Nat} {E : Env} {C : World→Prop} {dst : Option Tmp} {t t' ty e : TypeId} {pos : String} {aft : Array Edge} {g : Option (Nat × Bool)} {x y : Operand} {ad : Option Addr} {k cap : Nat} (hu : P.underlying t=some (.slice e)) (hx : ev E x=some (.slice ad k cap)) (hy : ev E y=some (.slice none 0 0)) :
    OQ P n E C ⟨dst,.binOp .eql t x y t',ty,pos,aft,g⟩ (.bool ad.isNone):=
  OQ.run fun c ha w _=>by
    have h1:=ha.eval hx
    have h2:=ha.eval hy
    have h4 : (binOp .eql t (.slice ad k cap) (.slice none 0 0)).run P w=.ok (.bool ad.isNone) w:=by
      show (do pure (.bool (← Op.equal t (.slice ad k cap) (.slice none 0 0))) : Sem Value).run P w=_
      simp [Sem.run_bind,run_equal_slice_nil w t e ad k cap hu]
    simp [execOp,h1,h2,eqGuard,h4]
set_option maxHeartbeats 2000000 in
theorem fB (a b : ai) (w : World) (ha : a.ok w) (hb : b.ok w) : Calls Tryd.prog 69 [a.v,b.v].toArray w fun e w'=>e=.returned (.bool (decide (a.l=b.l)))∧Ext w w':=by
  refine enter (n:=10) Tryd.func69 rfl rfl rfl (aa.start w []) ?_
  repeat (first | refine JL.q (by first|(apply OQ.o4 (s:=a);exact Tryd.underlying22;exact Tryd.underlying5;exact Tryd.underlying9;rfl;exact (fun w' hw'=>ha.holds hw' rfl))|(apply OQ.o4 (s:=b);exact Tryd.underlying22;exact Tryd.underlying5;exact Tryd.underlying9;rfl;exact (fun w' hw'=>hb.holds hw' rfl))|(apply OQ.qc;rfl;rfl)|(apply OQ.move;rfl)|(apply OQ.assign;rfl)) rfl ?_ | refine JC.seq ?_ | refine JC.region ?_ | refine JL.nil ?_ | refine JE.next ?_)
  exact JC.ret (JE.aN rfl (RV.tmp rfl) fun w' hw=>⟨rfl,hw.aq⟩)
set_option maxHeartbeats 4000000 in
theorem o6 (s d : ai) (w : World) (hs : s.ok w) (hd : d.ok w) : Calls Tryd.prog 79 [s.v,d.v].toArray w fun e w'=>e=.returned (.bool (preB s.l d.l))∧Ext w w':=by
  refine enter (n:=18) Tryd.func79 rfl rfl rfl (aa.start w []) ?_
  have hcap:=hs.len
  unfold preB
  cases h : decide ((d.l.length : Int)≤(s.l.length : Int))
  · repeat (first | refine JL.q (by first|(apply OQ.jN;rfl;rfl;exact h)|(apply OQ.bM;rfl;rfl)|(apply OQ.move;rfl)|(apply OQ.assign;rfl)|(apply OQ.len;rfl;rfl)) rfl ?_ | refine JC.seq ?_ | refine JC.region ?_ | refine JL.nil ?_ | refine JE.next ?_ | refine JL.cG rfl rfl rfl rfl ?_)
    exact JC.ret (JE.aN rfl (RV.tmp rfl) fun w' hw=>⟨rfl,hw.aq⟩)
  · have hle : d.l.length≤s.l.length:=by have:=of_decide_eq_true h;omega
    repeat (first | refine JL.q (by first|(apply OQ.jN;rfl;rfl;exact h)|(apply OQ.fst (s:=s);exact Tryd.underlying22;exact bG;rfl;rfl;exact hle;exact hcap)|(apply OQ.aH (vs:=[(s.fst d.l.length).v,d.v]);exact eO;rfl;exact (fun w' hw'=>fB (s.fst d.l.length) d w' ((hs.holds hw' rfl).fst _) (hd.holds hw' rfl)))|(apply OQ.bA;rfl;rfl)|(apply OQ.move;rfl)|(apply OQ.assign;rfl)|(apply OQ.len;rfl;rfl)) rfl ?_ | refine JC.seq ?_ | refine JC.region ?_ | refine JL.nil ?_ | refine JE.next ?_ | refine JL.aT rfl rfl ?_)
    exact JC.ret (JE.aN rfl (RV.tmp rfl) fun w' hw=>⟨rfl,hw.aq⟩)
set_option maxHeartbeats 4000000 in
theorem jn (s d : ai) (w : World) (hs : s.ok w) (hd : d.ok w) (hl : s.l.length≤4611686018427387904) : Calls Tryd.prog 74 [s.v,d.v].toArray w fun e w'=>e=.returned (.bool (mB s.l d.l))∧Ext w w':=by
  refine enter (n:=21) Tryd.func74 rfl rfl rfl (aa.start w []) ?_
  unfold mB
  cases h : decide ((d.l.length : Int)≤(s.l.length : Int))
  · repeat (first | refine JL.q (by first|(apply OQ.jN;rfl;rfl;exact h)|(apply OQ.bM;rfl;rfl)|(apply OQ.move;rfl)|(apply OQ.assign;rfl)|(apply OQ.len;rfl;rfl)) rfl ?_ | refine JC.seq ?_ | refine JC.region ?_ | refine JL.nil ?_ | refine JE.next ?_ | refine JL.cG rfl rfl rfl rfl ?_)
    exact JC.ret (JE.aN rfl (RV.tmp rfl) fun w' hw=>⟨rfl,hw.aq⟩)
  · have hle : d.l.length≤s.l.length:=by have:=of_decide_eq_true h;omega
    have hsub : s.l.length - d.l.length≤s.l.length:=Nat.sub_le _ _
    repeat (first | refine JL.q (by first|(apply OQ.jN;rfl;rfl;exact h)|(apply OQ.snd (s:=s);exact Tryd.underlying22;exact bG;rfl;rfl;exact hsub)|(apply OQ.aH (vs:=[(s.snd (s.l.length - d.l.length)).v,d.v]);exact eO;rfl;exact (fun w' hw'=>fB (s.snd (s.l.length - d.l.length)) d w' ((hs.holds hw' rfl).snd _ hsub) (hd.holds hw' rfl)))|(apply OQ.bA;rfl;rfl)|(apply OQ.move;rfl)|(apply OQ.assign;rfl)|(apply OQ.len;rfl;rfl)|(apply OQ.iq;rfl;rfl;exact (by (try simp only []);omega);exact (by (try simp only []);omega))) rfl ?_ | refine JC.seq ?_ | refine JC.region ?_ | refine JL.nil ?_ | refine JE.next ?_ | refine JL.aT rfl rfl ?_)
    exact JC.ret (JE.aN rfl (RV.tmp rfl) fun w' hw=>⟨rfl,hw.aq⟩)
theorem iH : aM Tryd.prog 14:=⟨_,Tryd.func14,rfl,by kernel_rfl⟩
set_option maxHeartbeats 4000000 in
theorem jO (s : ai) (w : World) (hs : s.ok w) (hl : s.l.length≤4294967296) : Calls Tryd.prog 14 [s.v].toArray w fun e w'=>∃ q : Acc,e=.returned (aE q s.l.length)∧(q=none→s.l=[])∧aa w [] (aQ 5 q (s.l.map U8)) w':=by
  refine enter (n:=8) Tryd.func14 rfl rfl rfl (aa.start w []) ?_
  obtain ⟨ad,cap,l⟩:=s
  cases ad with
  | none=>
    have h0 : l=[]:=by
      cases l with
      | nil=>rfl
      | cons c l=>
        obtain ⟨b,j,h1,_⟩:=hs.reads.at (by simp)
        cases h1
    repeat (first | refine JL.q (by first|(apply OQ.isNil;exact Tryd.underlying22;rfl;rfl)|(apply OQ.move;rfl)|(apply OQ.assign;rfl)) rfl ?_ | refine JC.seq ?_ | refine JC.region ?_ | refine JL.nil ?_ | refine JE.next ?_)
    refine JC.cond_true rfl rfl ?_
    repeat (first | refine JL.q (by (apply OQ.assign;rfl)) rfl ?_ | refine JC.seq ?_ | refine JC.region ?_ | refine JL.nil ?_ | refine JE.next ?_)
    refine JC.ret ?_
    repeat (refine JE.az ?_)
    exact JE.aN rfl (RV.tmp rfl) fun w' hw=>⟨none,rfl,fun _=>h0,hw⟩
  | some ad=>
    repeat (first | refine JL.q (by first|(apply OQ.isNil;exact Tryd.underlying22;rfl;rfl)|(apply OQ.move;rfl)|(apply OQ.assign;rfl)) rfl ?_ | refine JC.seq ?_ | refine JC.region ?_ | refine JL.nil ?_ | refine JE.next ?_)
    refine JC.cond_false rfl rfl ?_
    repeat (first | refine JC.seq ?_ | refine JC.region ?_ | refine JC.skip ?_ | refine JE.next ?_)
    refine JL.oC Tryd.underlying22 iC rfl fun b0 _=>?_
    repeat (refine JL.q (by (apply OQ.move;rfl)) rfl ?_)
    refine JL.append (cs:=l.map U8) (m:=l.length) (ad:=some ad) (sc:=cap) (xs:=[]) (fun b' cap'=>[⟨b',Sl.Own 5 1 (0+l.length) cap' ([]++l.map U8),true⟩]) Tryd.underlying22 iC rfl rfl (by intro _ _;repeat (first | exact bU.here | apply bU.there)) (by simp) (fun w' hw'=>(hs.holds hw' rfl).reads) (oF _) rfl (by decide) (by simp only [] at hl;omega) (by simp only [] at hl;omega) rfl fun b1 cap1=>?_
    rw [Nat.zero_add,List.nil_append]
    repeat (first | refine JL.q (by (apply OQ.assign;rfl)) rfl ?_ | refine JL.nil ?_ | refine JE.next ?_)
    refine JC.ret (JE.aN rfl (RV.tmp rfl) fun w' hw=>⟨some (b1,cap1),rfl,(fun h=>by cases h),?_⟩)
    show aa w [] [⟨b1,Sl.Own 5 1 (l.map U8).length cap1 (l.map U8),true⟩] w'
    rw [List.length_map]
    exact hw
end
section
namespace jP
abbrev By:=BitVec 8
def sp (s : List (List By) × List By) (c : By) : List (List By) × List By:=if c=10∧s.2.getLast?=some 13 then (s.1++[s.2.dropLast],[]) else (s.1,s.2++[c])
end jP
end
section
namespace jP
end jP
end
section
namespace jP
def bS (l : List By) : List UInt8:=l.map UInt8.ofBitVec
end jP
end
section
set_option maxRecDepth 10000
open Sl jP Go.Shelf
def bN (w : World) : Prop:=∃ m,w.cell? ⟨2,0,none⟩=some (.int .i64 m)
theorem bN.ext {w w' : World} (h : bN w) (hx : Ext w w') : bN w':=by
  obtain ⟨m,hm⟩:=h
  refine ⟨m,?_⟩
  have hlt:=block_lt_of_cell hm
  have:=hx.block _ hlt (by simp)
  rw [← hm]
  simp only [World.cell?,this]
def kK (l : List Bt) : List Int:=l.map fun c=>(c.toNat : Int)
theorem nT {s : ai} {w : World} (h : s.ok w) : Go.Lib.BytesIn w s.ad s.l.length (kK s.l):=by
  intro h0
  obtain ⟨b,j,h1,h2⟩:=h.reads.at (by simpa using h0)
  refine ⟨b,j,h1,fun i hi=>?_⟩
  rw [h2 i _ (dz U8 0 hi)]
  unfold kK
  rw [List.getD_eq_getElem?_getD,List.getD_eq_getElem?_getD,List.getElem?_map,List.getElem?_eq_getElem hi]
  rfl
theorem kL (l : List Bt) : ∀ x ∈ kK l,0≤x∧x<256:=by
  intro x hx
  obtain ⟨c,_,rfl⟩:=List.mem_map.1 hx
  omega
theorem iI (l : List Bt) : Go.Lib.bytesOf (kK l)=bS l:=by
  unfold Go.Lib.bytesOf kK bS
  rw [List.map_map]
  refine List.map_congr_left fun c _=>?_
  show UInt8.ofNat ((c.toNat : Int)).toNat=_
  rw [Int.toNat_natCast]
  apply UInt8.toBitVec_inj.1
  exact BitVec.eq_of_toNat_eq (by simp)
def ai.cut (s : ai) (i : Nat) : ai:=⟨s.ad,s.cap,s.l.take i⟩
theorem ai.ok.cut {s : ai} {w : World} (h : s.ok w) (i : Nat) : (s.cut i).ok w:=by
  refine ⟨?_,?_⟩
  · show (s.l.take i).length≤s.cap
    have:=h.len
    rw [List.length_take]
    omega
  · show Reads w s.ad ((s.l.take i).map U8)
    rw [List.map_take]
    exact h.reads.take i
theorem jQ (w : World) (q : Nat) : Ext w (w.drewN q):=⟨rfl,rfl,rfl,Nat.le_refl _,fun _ _ _=>rfl⟩
end
section
namespace c6
abbrev By:=BitVec 8
def bl (c : By) : Bool:=c == 32 || c == 9
def qk (c : By) : Bool:=decide (33≤c.toNat) && decide (c.toNat≤126) && !(c == 58)
def o7 (c : By) : Bool:=c == 9 || (decide (32≤c.toNat) && decide (c.toNat≤126))
def bY (s : List By) : Bool:=s.all qk && decide (1≤s.length) && decide (s.length≤64)
def pL (s : List By) : Bool:=s.all o7 && decide (s.length≤8192) && (decide (s.length=0) || (!bl (s.getD 0 0) && !bl (s.getD (s.length - 1) 0)))
def small (c : By) : By:=if 65≤c.toNat∧c.toNat≤90 then c+32 else c
def tn (v : List By) (i : Nat) : Bool:=decide (0<i) && (bl (v.getD i 0) && !bl (v.getD (i - 1) 0))
def scan (v : List By) (i : Nat) : Nat:=if h : i<v.length then (if tn v i then i else scan v (i+1)) else v.length
termination_by v.length - i
def st (n v : List By) : Nat→List By × Nat
  | 0=>(n++[58,32],n.length+2)
  | i+1=>if tn v i=true∧76<(st n v i).2+scan v (i+1) - i then ((st n v i).1++[13,10,v.getD i 0],1) else ((st n v i).1++[v.getD i 0],(st n v i).2+1)
inductive Fo : List By→List By→Prop
  | nil : Fo [] []
  | byte (c : By) (v L : List By) : o7 c=true→Fo v L→Fo (c::v) (c::L)
  | fold (c : By) (e v L : List By) : bl c=true→(e=[10]∨e=[13,10])→Fo v L→Fo (c::v) (e++c::L)
def kM (b : List By) : List By:=b.takeWhile (· != 10)
def pM (l : List By) : List By:=if l.getLast?=some 13 then l.dropLast else l
def cut (b : List By) : Option (List By × List By):=if (kM b).length<b.length then some (pM (kM b),b.drop ((kM b).length+1)) else none
theorem kN {b l r : List By} (h : cut b=some (l,r)) : r.length<b.length:=by
  unfold cut at h
  split at h
  · cases h
    rw [List.length_drop];omega
  · cases h
def oH (b : List By) : Option (List By × List By):=
  if bl (b.getD 0 0)=true∧b≠[] then
    match h : cut b with
    | none=>none
    | some (l,r)=>(oH r).map fun q=>(l++q.1,q.2)
  else some ([],b)
termination_by b.length
decreasing_by exact kN h
def hend (b : List By) : Option Nat:=
  match h : cut b with
  | none=>none
  | some (l,r)=>if l=[] then some (b.length - r.length) else (hend r).map (·+(b.length - r.length))
termination_by b.length
decreasing_by exact kN h
def ql (e : List By) : Prop:=e=[10]∨e=[13,10]
end c6
end
section
namespace c6
inductive Hd : List (List By × List By)→List By→Prop
  | nil : Hd [] []
  | cons (n v L e : List By) (fs : List (List By × List By)) (H : List By) : bY n=true→pL v=true→Fo (32::v) L→ql e→Hd fs H→Hd ((n,v)::fs) (n++58::L++e++H)
end c6
end
section
namespace c6
def fb (w : List By) : Nat:=(w.takeWhile fun c=>!bl c).length
end c6
end
section
namespace c6
def bG (l : List By) : List UInt8:=l.map UInt8.ofBitVec
def ez (w : List By) : Int:=if fb w<w.length then (fb w : Int) else -1
def fi (c : By) (s : List By) : Nat:=(s.takeWhile (· != c)).length
theorem mC (c d : By) (r : List By) : fi c (d::r)=if d=c then 0 else fi c r+1:=by
  unfold fi
  rw [List.takeWhile_cons]
  by_cases h : d=c
  · simp [h]
  · simp [h]
def kO (c : By) (s : List By) : Int:=if fi c s<s.length then (fi c s : Int) else -1
end c6
end
section
namespace Sl
section
variable {P : Program} {n : Nat} {E : Env} {C : World→Prop} {dst : Option Tmp} {t ty : TypeId} {pos : String} {aft : Array Edge} {g : Option (Nat × Bool)} {x y z : Operand} {l : List Bt}
end
end Sl
end
section
set_option maxRecDepth 10000
namespace Sl
def jR (P : Program) (w0 : World) (fv : Value) (p : Bt→Bool) : Prop:=
  ∃ (f : FuncId) (caps : List Value),fv=.func (.func f) #[] caps.toArray∧aM P f∧∀ (c : Bt) (w : World),Ext w0 w→Calls P f (U8 c::caps).toArray w fun e w'=>e=.returned (.bool (p c))∧Ext w w'
theorem jR.ext {P : Program} {w0 w1 : World} {fv : Value} {p : Bt→Bool} (h : jR P w0 fv p) (hx : Ext w0 w1) : jR P w1 fv p:=by
  obtain ⟨f,caps,h1,h2,h3⟩:=h
  exact ⟨f,caps,h1,h2,fun c w hw=>h3 c w (hx.trans hw)⟩
theorem jR.holds {P : Program} {w0 w1 : World} {M : List ah} {fv : Value} {p : Bt→Bool} (h : jR P w0 fv p) (hw : aa w0 [] M w1) : jR P w1 fv p:=h.ext hw.aq
section
variable {P : Program} {n : Nat} {w0 : World} {S : List Nat} {Q Q' : Exit→Act→World→Prop} {E E' : Env} {M M' : List ah}
variable {dst : Option Tmp} {ty : TypeId} {pos : String} {aft : Array Edge} {g : Option (Nat × Bool)} {x y : Operand} {ats : Array TypeId}
theorem OQ.qd {f : FuncId} {xs : Array Operand} {caps : List Value} (hx : dx E xs.toList=some caps) : OQ P n E (aa w0 S M) ⟨dst,.makeFunc (.func f) #[] xs,ty,pos,aft,g⟩ (.func (.func f) #[] caps.toArray):=by
  refine OQ.run fun a hk w _=>?_
  have hm : xs.map a.eval=caps.toArray:=by
    have h1:=ey hk hx
    rw [← h1]
    apply Array.ext'
    simp
  simp [execOp,Instr.makeFunc,Sem.run_bind,hm]
theorem JC.mono {c : Code} (h : JC P n w0 S Q c E M) (hq : ∀ e a w,Q e a w→Q' e a w) : JC P n w0 S Q' c E M:=
  ⟨fun a w ha hw b k cs=>let ⟨e,a',w',h1,h2⟩:=h.go a w ha hw b k cs;⟨e,a',w',hq e a' w' h1,h2⟩⟩
theorem JC.goto {l : Nat} (h : JE n w0 S Q (.goto l) E M) : JC P n w0 S Q (.goto l) E M:=⟨fun a w ha hw=>wp_goto (h.go a w ha hw)⟩
end
end Sl
end
section
set_option maxRecDepth 10000
open Sl c6 Go.Shelf
structure kP (P : Program) (f : FuncId) : Prop where
  go : ∃ fn,P.funcs[f]?=some fn∧(fn.name == "runtime.NumGoroutine")=false∧fn.body.isNone=true∧Extern.findNext fn=none∧Extern.find fn=some Extern.BytealgIndexByte.indexByte
end
section
set_option maxRecDepth 10000
open Sl c6
def oI (l : List Bt) : List Int:=l.map fun c=>(c.toNat : Int)
theorem nU (l : List Bt) : Go.Lib.bytesOf (oI l)=c6.bG l:=by
  unfold Go.Lib.bytesOf oI c6.bG
  rw [List.map_map]
  refine List.map_congr_left fun c _=>?_
  show UInt8.ofNat ((c.toNat : Int)).toNat=_
  rw [Int.toNat_natCast]
  apply UInt8.toBitVec_inj.1
  exact BitVec.eq_of_toNat_eq (by simp)
theorem kQ (c : c6.By) : ∀ l : List c6.By,Go.Lib.indexByte (c6.bG l) (UInt8.ofBitVec c)=kO c l
  | []=>rfl
  | d::r=>by
    show (if (UInt8.ofBitVec d == UInt8.ofBitVec c) then 0 else if Go.Lib.indexByte (c6.bG r) (UInt8.ofBitVec c) == -1 then -1 else Go.Lib.indexByte (c6.bG r) (UInt8.ofBitVec c)+1 : Int)=_
    rw [kQ c r]
    unfold kO
    rw [mC]
    have hb : (UInt8.ofBitVec d == UInt8.ofBitVec c)=decide (d=c):=by
      by_cases h : d=c
      · subst h;simp
      · rw [decide_eq_false h]
        exact beq_eq_false_iff_ne.2 fun k=>h (congrArg UInt8.toBitVec k)
    rw [hb]
    by_cases hd : d=c
    · simp [hd]
    · simp only [hd,decide_false,Bool.false_eq_true,if_false,List.length_cons,Nat.add_lt_add_iff_right]
      by_cases h : fi c r<r.length
      · simp only [h,if_true]
        rw [if_neg (by rw [beq_iff_eq];omega)]
        omega
      · simp only [h,if_false]
        rfl
theorem OQ.pN {P : Program} {n : Nat} {E : Env} {w0 : World} {S : List Nat} {M : List ah} {dst : Option Tmp} {ty : TypeId} {pos : String} {aft : Array Edge} {g : Option (Nat × Bool)} {f : FuncId} {ats : Array TypeId} {x y : Operand} {s : ai} {c : Bt} (hf : kP P f) (hx : ev E x=some s.v) (hy : ev E y=some (U8 c)) (hs : ∀ w,aa w0 S M w→s.ok w) :
    OQ P n E (aa w0 S M) ⟨dst,.call ⟨.value (.func f),#[x,y],ats⟩,ty,pos,aft,g⟩ (I (kO c s.l)):=by
  refine ⟨fun ac hk w hw=>?_⟩
  obtain ⟨fn,h1,h2,h3,h4,h5⟩:=hf.go
  have hc : ((c.toNat : Int)).toNat.toUInt8=UInt8.ofBitVec c:=by
    rw [Int.toNat_natCast]
    apply UInt8.toBitVec_inj.1
    apply BitVec.eq_of_toNat_eq
    simp [Nat.toUInt8,UInt8.ofNat]
  have hr : (Extern.BytealgIndexByte.indexByte #[s.v,U8 c]).run P w=.ok (I (kO c s.l)) w:=by
    have ok:=hs w hw
    obtain ⟨ad,cap,l⟩:=s
    cases ad with
    | none=>
      have h0 : l=[]:=by
        cases l with
        | nil=>rfl
        | cons d l=>
          obtain ⟨b,j,k1,_⟩:=ok.reads.at (by simp)
          cases k1
      subst h0
      exact Lib.run_indexByteNil w 0 cap (c.toNat : Int)
    | some a=>
      have:=Lib.run_indexByteAt (P:=P) w a l.length cap (oI l) (by unfold oI;rw [List.length_map]) (fun i hi=>by
        obtain ⟨b,j,k1,k2⟩:=ok.reads _ _ (dz U8 0 hi)
        cases k1
        rw [aO,k2]
        unfold oI
        rw [List.getD_eq_getElem?_getD,List.getD_eq_getElem?_getD,List.getElem?_map,List.getElem?_eq_getElem hi]
        rfl) (c.toNat : Int)
      rw [nU,hc,kQ] at this
      exact this
  have r:=run_callFunc_extern h1 h2 h3 h4 h5 #[s.v,U8 c] w
  rw [hr] at r
  unfold Oper.quietAt
  have r' : (execOp ac.eval ⟨dst,.call ⟨.value (.func f),#[x,y],ats⟩,ty,pos,aft,g⟩).run P w=.ok (.value (I (kO c s.l))) w:=by
    simp only [Result.andThen] at r
    have k1:=hk.eval hx
    have k2:=hk.eval hy
    have e : (.ok (.value (I (kO c s.l))) w : Result Next)=(callFunc f #[s.v,U8 c]).run P w:=r.symm
    rw [e]
    simp [execOp,resolve,Sem.run_bind,Act.eval,Deferred.ofValue,invoke,k1,k2]
    simp [Act.eval] at k1 k2
    simp [k1,k2]
  rw [r']
  exact ⟨rfl,rfl⟩
theorem mD : kP Tryd.prog 59:=⟨_,Tryd.func59,rfl,rfl,by kernel_rfl,by kernel_rfl⟩
theorem fC : aM Tryd.prog 38:=⟨_,Tryd.func38,rfl,by kernel_rfl⟩
theorem dV : aM Tryd.prog 47:=⟨_,Tryd.func47,rfl,by kernel_rfl⟩
theorem dF : aM Tryd.prog 41:=⟨_,Tryd.func41,rfl,by kernel_rfl⟩
theorem gH (s : ai) (c : Bt) (w : World) (hs : s.ok w) : Calls Tryd.prog 38 [s.v,U8 c].toArray w fun e w'=>e=.returned (I (kO c s.l))∧Ext w w':=by
  refine enter (n:=8) Tryd.func38 rfl rfl rfl (aa.start w []) ?_
  repeat (first | refine JL.q (by first|(apply OQ.pN;exact mD;rfl;rfl;exact (fun w' hw'=>hs.holds hw' rfl))|(apply OQ.move;rfl)|(apply OQ.assign;rfl)) rfl ?_ | refine JC.seq ?_ | refine JC.region ?_ | refine JL.nil ?_ | refine JE.next ?_)
  exact JC.ret (JE.aN rfl (RV.tmp rfl) fun w' hw=>⟨rfl,hw.aq⟩)
theorem eP (s : ai) (b cap : Nat) (c : Bt) (w : World) (hs : s.ok w) (hd : (⟨some ⟨b,0,none⟩,cap,[c]⟩ : ai).ok w) : Calls Tryd.prog 47 [s.v,.slice (some ⟨b,0,none⟩) 1 cap].toArray w fun e w'=>e=.returned (I (kO c s.l))∧Ext w w':=by
  refine enter (n:=200) Tryd.func47 rfl rfl rfl (aa.start w []) ?_
  obtain ⟨b',j',h1,h2⟩:=hd.reads.at (by simp)
  cases h1
  have hc : w.cell? ⟨b,0,none⟩=some (U8 c):=h2 0 _ rfl
  repeat (first | refine JL.q (by first|(apply OQ.eo (a:=1) (b:=0);rfl;rfl;rfl)|(apply OQ.move;rfl)|(apply OQ.assign;rfl)|(apply OQ.len;rfl;rfl)) rfl ?_ | refine JC.seq ?_ | refine JC.region ?_ | refine JC.block ?_ | refine JL.nil ?_ | refine JE.next ?_)
  refine JC.cond rfl (fun h=>by cases h) (fun _=>?_)
  repeat (first | refine JL.q (by first|(apply OQ.eo (a:=1) (b:=1);rfl;rfl;rfl)|(apply OQ.move;rfl)|(apply OQ.assign;rfl)) rfl ?_ | refine JC.seq ?_ | refine JC.region ?_ | refine JL.nil ?_ | refine JE.next ?_)
  refine JC.cond rfl (fun _=>?_) (fun h=>by cases h)
  repeat (first | refine JL.q (by first|(apply OQ.fz (i:=0);exact Tryd.underlying22;exact bG;rfl;rfl;exact (Nat.zero_lt_succ 0))|(apply OQ.aK;exact gD;rfl;exact (block_lt_of_cell hc);exact (by simp);exact hc)|(apply OQ.aH (vs:=[s.v,U8 c]);exact fC;rfl;exact (fun w' hw'=>gH s c w' (hs.holds hw' rfl)))|(apply OQ.move;rfl)|(apply OQ.assign;rfl)) rfl ?_ | refine JC.seq ?_ | refine JC.region ?_ | refine JL.nil ?_ | refine JE.next ?_)
  refine JC.ret ?_
  repeat (first | refine JE.az ?_ | refine JE.aU ?_)
  exact JE.aN rfl (RV.tmp rfl) fun w' hw=>⟨rfl,hw.aq⟩
def iJ (c : Bt) (s : ai) : Value:=if fi c s.l<s.l.length then .tuple #[(s.fst (fi c s.l)).v,(s.snd (fi c s.l+1)).v,.bool true] else .tuple #[s.v,mm.v,.bool false]
set_option maxHeartbeats 2000000 in
theorem gI (s : ai) (b cap : Nat) (c : Bt) (w : World) (hl : s.l.length<9223372036854775807) (hs : s.ok w) (hd : (⟨some ⟨b,0,none⟩,cap,[c]⟩ : ai).ok w) : Calls Tryd.prog 41 [s.v,.slice (some ⟨b,0,none⟩) 1 cap].toArray w fun e w'=>e=.returned (iJ c s)∧Ext w w':=by
  refine enter (n:=23) Tryd.func41 rfl rfl rfl (aa.start w []) ?_
  have hcap:=hs.len
  by_cases h : fi c s.l<s.l.length
  · have e1 : kO c s.l=(fi c s.l : Nat):=if_pos h
    have hle : fi c s.l≤s.l.length:=by omega
    have hle1 : fi c s.l+1≤s.l.length:=h
    have hq : ∀ w',aa w [] [] w'→Calls Tryd.prog 47 [s.v,.slice (some ⟨b,0,none⟩) 1 cap].toArray w' fun e w2=>e=.returned (N (fi c s.l))∧Ext w' w2:=fun w' hw'=>by
      have:=eP s b cap c w' (hs.holds hw' rfl) (hd.holds hw' rfl)
      rw [e1] at this
      exact this
    rw [show iJ c s=_ from if_pos h]
    generalize fi c s.l=k at hq hle hle1
    repeat (first | refine JL.q (by first|(apply OQ.aH (vs:=[s.v,.slice (some ⟨b,0,none⟩) 1 cap]);exact dV;rfl;exact hq)|(apply OQ.move;rfl)|(apply OQ.assign;rfl)) rfl ?_ | refine JC.seq ?_ | refine JC.region ?_ | refine JL.nil ?_ | refine JE.next ?_)
    repeat (first | refine JL.q (by (apply OQ.pq;rfl;rfl)) rfl ?_ | refine JL.nil ?_ | refine JE.next ?_)
    refine JC.cond_true rfl (decide_eq_true (Nat.zero_le _)) ?_
    refine JC.seq (JC.quiet fk (by kernel_rfl) ?_)
    repeat (refine JQ.q (by first|(apply OQ.fst (s:=s);exact Tryd.underlying22;exact bG;rfl;rfl;exact hle;exact hcap)|(apply OQ.snd (s:=s) (m:=k+1);exact Tryd.underlying22;exact bG;rfl;rfl;exact hle1)|(apply OQ.move;rfl)|(apply OQ.assign;rfl)|(apply OQ.len;rfl;rfl)|(apply OQ.bn;rfl;rfl;exact (by (try simp only []);omega))) rfl ?_)
    refine JQ.nil (JE.next ?_)
    refine JC.ret ?_
    repeat (refine JE.az ?_)
    exact JE.oG rfl (RV.tmp rfl) (RV.tmp rfl) (RV.tmp rfl) fun w' hw=>⟨rfl,hw.aq⟩
  · have e1 : kO c s.l=-1:=if_neg h
    have hq : ∀ w',aa w [] [] w'→Calls Tryd.prog 47 [s.v,.slice (some ⟨b,0,none⟩) 1 cap].toArray w' fun e w2=>e=.returned (I (-1))∧Ext w' w2:=fun w' hw'=>by
      have:=eP s b cap c w' (hs.holds hw' rfl) (hd.holds hw' rfl)
      rw [e1] at this
      exact this
    rw [show iJ c s=_ from if_neg h]
    repeat (first | refine JL.q (by first|(apply OQ.aH (vs:=[s.v,.slice (some ⟨b,0,none⟩) 1 cap]);exact dV;rfl;exact hq)|(apply OQ.move;rfl)|(apply OQ.assign;rfl)) rfl ?_ | refine JC.seq ?_ | refine JC.region ?_ | refine JL.nil ?_ | refine JE.next ?_)
    repeat (first | refine JL.q (by (apply OQ.jN (a:=-1) (b:=0);rfl;rfl;rfl)) rfl ?_ | refine JL.nil ?_ | refine JE.next ?_)
    refine JC.cond_false rfl rfl ?_
    repeat (first | refine JL.q (by first|(apply OQ.move;rfl)|(apply OQ.assign;rfl)) rfl ?_ | refine JC.seq ?_ | refine JC.region ?_ | refine JC.skip ?_ | refine JL.nil ?_ | refine JE.next ?_)
    refine JC.ret ?_
    skip
    exact JE.oG rfl (RV.tmp rfl) (RV.tmp rfl) (RV.tmp rfl) fun w' hw=>⟨rfl,hw.aq⟩
end
section
set_option maxRecDepth 10000
open Sl jP Go.Shelf
namespace Rw
def nV : Ren:=⟨fun | 13=>46 | 24=>67 | 25=>68 | 12=>47 | 31=>81 | 19=>38 | 20=>69 | 21=>70 | 22=>71 | 23=>72 | 29=>59 | 30=>82 | n=>n,
  fun | 22=>22 | 3=>3 | 4=>4 | 0=>0 | 5=>5 | 9=>9 | 33=>89 | 40=>94 | 39=>93 | n=>n,
  fun | 0=>2 | n=>n⟩
theorem c7 : SlLaysC.n13 Tryd.prog nV:={
  mixed:=by kernel_rfl
  f12:=Tryd.func47.trans (congrArg some (by kernel_rfl))
  f13:=Tryd.func46.trans (congrArg some (by kernel_rfl))
  f19:=Tryd.func38.trans (congrArg some (by kernel_rfl))
  f20:=Tryd.func69.trans (congrArg some (by kernel_rfl))
  f21:=Tryd.func70.trans (congrArg some (by kernel_rfl))
  f22:=Tryd.func71.trans (congrArg some (by kernel_rfl))
  f23:=Tryd.func72.trans (congrArg some (by kernel_rfl))
  f25:=Tryd.func68.trans (congrArg some (by kernel_rfl))
  f29:=Tryd.func59.trans (congrArg some (by kernel_rfl))
  f30:=Tryd.func82.trans (congrArg some (by kernel_rfl))
  t0:=Tryd.underlying0
  a0:=Tryd.isAgg0
  z0:=Tryd.sizeOf0
  v0:=Tryd.zeroValue0
  t3:=Tryd.underlying3
  a3:=Tryd.isAgg3
  z3:=Tryd.sizeOf3
  v3:=Tryd.zeroValue3
  t4:=Tryd.underlying4
  a4:=Tryd.isAgg4
  z4:=Tryd.sizeOf4
  v4:=Tryd.zeroValue4
  t5:=Tryd.underlying5
  a5:=Tryd.isAgg5
  z5:=Tryd.sizeOf5
  v5:=Tryd.zeroValue5
  t9:=Tryd.underlying9
  a9:=Tryd.isAgg9
  z9:=Tryd.sizeOf9
  v9:=Tryd.zeroValue9
  t22:=Tryd.underlying22
  a22:=Tryd.isAgg22
  z22:=Tryd.sizeOf22
  v22:=Tryd.zeroValue22
  t33:=Tryd.underlying89
  a33:=Tryd.isAgg89
  z33:=Tryd.sizeOf89
  v33:=Tryd.zeroValue89
  t39:=Tryd.underlying93
  a39:=Tryd.isAgg93
  z39:=Tryd.sizeOf93
  v39:=Tryd.zeroValue93
  t40:=Tryd.underlying94
  a40:=Tryd.isAgg94
  z40:=Tryd.sizeOf94
  v40:=Tryd.zeroValue94
  g0:=by kernel_rfl }
def ez (d l : List Bt) : Int:=Go.Lib.index (bS l) (bS d)
def cW (d l : List Bt) : Nat:=Go.Lib.count (bS l) (bS d)
def cK (d nw : List Bt) : Nat→List Bt→List Bt
  | 0,l=>l
  | k+1,l=>l.take (ez d l).toNat++(nw++cK d nw k (l.drop ((ez d l).toNat+d.length)))
theorem dG (l : List Bt) : (bS l).length=l.length:=by unfold bS;rw [List.length_map]
theorem mE (l : List Bt) (i : Nat) : bS (l.drop i)=(bS l).drop i:=by unfold bS;rw [List.map_drop]
theorem nr {l : List Bt} (h : l≠[]) : bS l≠[]:=fun e=>h (List.length_eq_zero_iff.1 (by rw [← dG,e];rfl))
theorem cx {d l : List Bt} (hd : d≠[]) (h : 0<cW d l) : ∃ i : Nat,ez d l=i∧i+d.length≤l.length∧cW d l=1+cW d (l.drop (i+d.length)):=by
  have hge:=Go.Lib.index_ge (bS l) (bS d)
  by_cases hm : Go.Lib.index (bS l) (bS d)=-1
  · rw [cW,Go.Lib.count_miss hm] at h;omega
  · have hi : Go.Lib.index (bS l) (bS d)=((Go.Lib.index (bS l) (bS d)).toNat : Nat):=by omega
    have hr:=Go.Lib.index_room (bS l) (bS d) (by omega)
    rw [dG,dG] at hr
    refine ⟨(Go.Lib.index (bS l) (bS d)).toNat,hi,by omega,?_⟩
    have:=Go.Lib.count_hit (nr hd) hi
    rw [dG] at this
    unfold cW
    rw [mE]
    exact this
theorem mF {d l : List Bt} (h : ez d l=-1) : cW d l=0:=Go.Lib.count_miss h
theorem fT {d l : List Bt} {i : Nat} (hd : d≠[]) (h : ez d l=i) : 0<cW d l:=by
  have:=Go.Lib.count_hit (nr hd) h
  unfold cW
  omega
theorem kR {d : List Bt} (hd : d≠[]) : ∀ (k : Nat) (l : List Bt),l.length≤k→cW d l≤l.length:=by
  intro k
  induction k with
  | zero=>
    intro l hl
    rcases Nat.eq_zero_or_pos (cW d l) with h | h
    · omega
    · obtain ⟨i,_,h2,_⟩:=cx hd h
      have:=List.length_pos_iff.2 hd
      omega
  | succ k ih=>
    intro l hl
    rcases Nat.eq_zero_or_pos (cW d l) with h | h
    · omega
    · obtain ⟨i,_,h2,h3⟩:=cx hd h
      have:=List.length_pos_iff.2 hd
      have h4:=ih (l.drop (i+d.length)) (by rw [List.length_drop];omega)
      rw [List.length_drop] at h4
      omega
theorem kS {d : List Bt} (nw : List Bt) (hd : d≠[]) : ∀ (k : Nat) (l : List Bt),cW d l=k→(cK d nw k l).length+k * d.length=l.length+k * nw.length:=by
  intro k
  induction k with
  | zero=>intro l _;simp [cK]
  | succ k ih=>
    intro l hk
    obtain ⟨i,h1,h2,h3⟩:=cx hd (l:=l) (by omega)
    have h4:=ih (l.drop (i+d.length)) (by omega)
    rw [List.length_drop] at h4
    rw [cK,h1,Int.toNat_natCast,List.length_append,List.length_append,List.length_take,Nat.min_eq_left (by omega),Nat.succ_mul,Nat.succ_mul]
    omega
theorem cL : aM Tryd.prog 47:=⟨_,Tryd.func47,rfl,by kernel_rfl⟩
theorem eR : aM Tryd.prog 46:=⟨_,Tryd.func46,rfl,by kernel_rfl⟩
theorem c8 (w : World) : Ext w w:=⟨rfl,rfl,rfl,Nat.le_refl _,fun _ _ _=>rfl⟩
theorem kT {s : ai} {w : World} (hs : s.ok w) (h : s.l≠[]) : ∃ a : Addr,s.ad=some a∧∀ i,i<s.l.length→w.cell? (a.add i)=some (.int .u8 ((kK s.l).getD i 0)):=by
  obtain ⟨b,j,h1,h2⟩:=nT hs (List.length_pos_iff.2 h)
  exact ⟨⟨b,j,none⟩,h1,fun i hi=>by rw [aO];exact h2 i hi⟩
theorem fU (l : List Bt) : (kK l).length=l.length:=by unfold kK;rw [List.length_map]
theorem kU (s d : ai) (w : World) (hs : s.ok w) (hd : d.ok w) (h0 : s.l≠[]) (hd0 : d.l≠[]) (hl : s.l.length<4294967281) (hdl : d.l.length≤2) (hm : bN w) :
    Calls Tryd.prog 47 [s.v,d.v].toArray w fun e w'=>e=.returned (I (ez d.l s.l))∧Ext w w':=by
  obtain ⟨m,hm⟩:=hm
  obtain ⟨a,ha,hc⟩:=kT hs h0
  obtain ⟨a2,ha2,hc2⟩:=kT hd hd0
  have h:=Any.bytes_Index_at c7.index a a2 s.l.length s.cap d.l.length d.cap (kK s.l) (kK d.l) m w (fU _) (fU _) (kL _) (kL _) hc hc2 hs.len hl (by omega) hm
  rw [iI,iI] at h
  have e1 : s.v=.slice (some a) s.l.length s.cap:=by unfold ai.v;rw [ha]
  have e2 : d.v=.slice (some a2) d.l.length d.cap:=by unfold ai.v;rw [ha2]
  rw [e1,e2]
  exact h.mono fun e w' ⟨h1,q,h2⟩=>⟨h1,h2 ▸ jQ w q⟩
theorem nW {d : List Bt} (h : 2≤d.length) {l : List Bt} (hl : l.length<d.length) : ez d l=-1:=by
  have hge:=Go.Lib.index_ge (bS l) (bS d)
  by_cases hm : Go.Lib.index (bS l) (bS d)=-1
  · exact hm
  · have hr:=Go.Lib.index_room (bS l) (bS d) (by omega)
    rw [dG,dG] at hr
    omega
theorem kV (s d : ai) (w : World) (hs : s.ok w) (hd : d.ok w) (hl : s.l.length<4294967281) (hdl : d.l.length=2) (hm : bN w) :
    Calls Tryd.prog 47 [s.v,d.v].toArray w fun e w'=>e=.returned (I (ez d.l s.l))∧Ext w w':=by
  by_cases h0 : s.l.length<2
  · rw [nW (by omega) (by omega)]
    have e2 : d.v=.slice d.ad 2 d.cap:=by unfold ai.v;rw [hdl]
    rw [e2]
    exact (Any.bytes_Index_longer c7.index s.ad d.ad s.l.length s.cap 2 d.cap w (Nat.le_refl _) h0 (by decide)).mono fun e w' ⟨h1,h2⟩=>⟨h1,h2 ▸ c8 w⟩
  · exact kU s d w hs hd (fun h=>h0 (by rw [h];decide)) (fun h=>by rw [h] at hdl;cases hdl) hl (by omega) hm
set_option maxHeartbeats 4000000 in
theorem kW (s d : ai) (w : World) (hs : s.ok w) (hd : d.ok w) (hl : s.l.length<4294967281) (hdl : d.l.length=2) (hm : bN w) :
    Calls Tryd.prog 46 [s.v,d.v].toArray w fun e w'=>e=.returned (N (cW d.l s.l))∧Ext w w':=by
  have hd0 : d.l≠[]:=fun h=>by rw [h] at hdl;cases hdl
  have hdv : d.v=.slice d.ad 2 d.cap:=by unfold ai.v;rw [hdl]
  refine enter (n:=35) Tryd.func46 rfl rfl rfl (aa.start w []) ?_
  rw [hdv]
  have hg0 : decide (((2 : Nat) : Int)=0)=false:=rfl
  have hg1 : decide (((2 : Nat) : Int)=1)=false:=rfl
  repeat (first | refine JL.q (by first|(apply OQ.len (k:=2) (ad:=d.ad) (cap:=d.cap);exact Tryd.underlying22;rfl)|(apply OQ.eo (b:=0);rfl;rfl;exact hg0)|(apply OQ.move;rfl)|(apply OQ.assign;rfl)) rfl ?_ | refine JC.seq ?_ | refine JC.region ?_ | refine JL.nil ?_ | refine JE.next ?_)
  refine JC.cond_false rfl rfl ?_
  repeat (first | refine JL.q (by first|(apply OQ.len (k:=2) (ad:=d.ad) (cap:=d.cap);exact Tryd.underlying22;rfl)|(apply OQ.eo (b:=1);rfl;rfl;exact hg1)|(apply OQ.move;rfl)) rfl ?_ | refine JC.seq ?_ | refine JC.region ?_ | refine JC.skip ?_ | refine JL.nil ?_ | refine JE.next ?_)
  refine JC.cond_false rfl rfl ?_
  repeat (first | refine JL.q (by (apply OQ.assign;rfl)) rfl ?_ | refine JC.seq ?_ | refine JC.region ?_ | refine JC.block ?_ | refine JC.skip ?_ | refine JL.nil ?_ | refine JE.next ?_)
  refine JC.loop (fun z : Nat × ai=>[(0,z.2.v),(1,.slice d.ad 2 d.cap),(5,N z.1)]) (fun _=>[]) (fun z=>z.2.l.length) (fun z=>z.2.ok w∧z.2.l.length≤s.l.length∧z.1+cW d.l z.2.l=cW d.l s.l) (0,s) ⟨hs,Nat.le_refl _,Nat.zero_add _⟩ (by repeat (first | exact aj.nil | refine aj.cons _ _ _ rfl ?_)) (av.refl _) ?_
  rintro ⟨c,t⟩ ⟨ht,htl,hc⟩
  dsimp only at ht htl hc ⊢
  have hcl:=kR hd0 s.l.length s.l (Nat.le_refl _)
  have hq : ∀ w',aa w [] [] w'→Calls Tryd.prog 47 [t.v,.slice d.ad 2 d.cap].toArray w' fun e w2=>e=.returned (I (ez d.l t.l))∧Ext w' w2:=fun w' hw'=>by
    have:=kV t d w' (ht.holds hw' rfl) (hd.holds hw' rfl) (by omega) hdl (hm.ext hw'.aq)
    rw [hdv] at this
    exact this
  rcases Nat.eq_zero_or_pos (cW d.l t.l) with h0 | h0
  · have hi : ez d.l t.l=-1:=by
      have hge : -1≤ez d.l t.l:=Go.Lib.index_ge (bS t.l) (bS d.l)
      by_cases hh : ez d.l t.l=-1
      · exact hh
      · have:=fT hd0 (l:=t.l) (i:=(ez d.l t.l).toNat) (by omega)
        omega
    rw [hi] at hq
    have hg : decide ((-1 : Int)=-1)=true:=rfl
    repeat (first | refine JL.q (by first|(apply OQ.aH (vs:=[t.v,.slice d.ad 2 d.cap]);exact cL;rfl;exact hq)|(apply OQ.eo (a:=-1) (b:=-1);rfl;rfl;exact hg)|(apply OQ.move;rfl)|(apply OQ.assign;rfl)) rfl ?_ | refine JC.seq ?_ | refine JC.region ?_ | refine JC.block ?_ | refine JL.nil ?_ | refine JE.next ?_)
    refine JC.cond_true rfl rfl ?_
    rw [show c=cW d.l s.l by omega]
    repeat (first | refine JL.q (by first|(apply OQ.move;rfl)|(apply OQ.assign;rfl)) rfl ?_ | refine JC.seq ?_ | refine JC.region ?_ | refine JL.nil ?_ | refine JE.next ?_)
    refine JC.ret ?_
    repeat (first | refine JE.az ?_ | refine JE.aU ?_)
    exact JE.aN rfl (RV.tmp rfl) fun w' hw=>⟨rfl,hw.aq⟩
  · obtain ⟨i,h1,h2,h3⟩:=cx hd0 h0
    rw [h1] at hq
    rw [hdl] at h2 h3
    have hq : ∀ w',aa w [] [] w'→Calls Tryd.prog 47 [t.v,.slice d.ad 2 d.cap].toArray w' fun e w2=>e=.returned (N i)∧Ext w' w2:=hq
    have hg : decide ((i : Int)=-1)=false:=decide_eq_false (by omega)
    repeat (first | refine JL.q (by first|(apply OQ.aH (vs:=[t.v,.slice d.ad 2 d.cap]);exact cL;rfl;exact hq)|(apply OQ.eo (a:=i) (b:=-1);rfl;rfl;exact hg)|(apply OQ.move;rfl)|(apply OQ.assign;rfl)) rfl ?_ | refine JC.seq ?_ | refine JC.region ?_ | refine JC.block ?_ | refine JL.nil ?_ | refine JE.next ?_)
    refine JC.cond_false rfl rfl ?_
    repeat (first | refine JL.q (by first|(apply OQ.bn (a:=c) (b:=1);rfl;rfl;exact (by omega))|(apply OQ.len (k:=2) (ad:=d.ad) (cap:=d.cap);exact Tryd.underlying22;rfl)|(apply OQ.bn (a:=i) (b:=2);rfl;rfl;exact (by omega))|(apply OQ.snd (s:=t) (m:=i+2);exact Tryd.underlying22;exact bG;rfl;rfl;exact h2)|(apply OQ.move;rfl)|(apply OQ.assign;rfl)) rfl ?_ | refine JC.seq ?_ | refine JC.region ?_ | refine JC.skip ?_ | refine JL.nil ?_ | refine JE.next ?_ | refine JE.au ?_)
    refine JE.again (i:=(c,t)) (c+1,t.snd (i+2)) ?_ ?_ (by repeat (first | exact aj.nil | refine aj.cons _ _ _ rfl ?_)) (av.refl _)
    · refine ⟨ht.snd _ h2,?_,?_⟩
      · show (t.l.drop _).length≤_
        rw [List.length_drop]
        omega
      · show c+1+cW d.l (t.l.drop (i+2))=_
        omega
    · show (t.l.drop _).length<t.l.length
      rw [List.length_drop]
      omega
theorem kX (s : ai) (b cap : Nat) (c : Bt) (w : World) (hs : s.ok w) (hz : s.ad=none→s.cap=0) (hd : (⟨some ⟨b,0,none⟩,cap,[c]⟩ : ai).ok w) :
    Calls Tryd.prog 46 [s.v,.slice (some ⟨b,0,none⟩) 1 cap].toArray w fun e w'=>e=.returned (N (cW [c] s.l))∧Ext w w':=by
  obtain ⟨b',j',h1,h2⟩:=hd.reads.at (by simp)
  cases h1
  have hc : w.cell? ⟨b,0,none⟩=some (.int .u8 (c.toNat : Int)):=h2 0 _ rfl
  have hcb : cW [c] s.l=Go.Lib.countByte (bS s.l) ((c.toNat : Int)).toNat.toUInt8:=by
    show Go.Lib.count (bS s.l) [UInt8.ofBitVec c]=_
    rw [Go.Lib.count_one]
    unfold Go.Lib.countByte
    congr 1
    rw [Int.toNat_natCast]
    apply UInt8.toBitVec_inj.1
    exact BitVec.eq_of_toNat_eq (by simp)
  by_cases h0 : s.l=[]
  · cases ha : s.ad with
    | none=>
      have e1 : s.v=.slice none 0 0:=by unfold ai.v;rw [ha,h0,hz ha];rfl
      rw [e1,h0]
      exact (Any.bytes_Count_one_nil c7.small b 0 cap (c.toNat : Int) w hc).mono fun e w' ⟨h1,h2⟩=>⟨h1,h2 ▸ c8 w⟩
    | some a=>
      have e1 : s.v=.slice (some a) 0 s.cap:=by unfold ai.v;rw [ha,h0];rfl
      rw [e1,hcb,h0]
      exact (Any.bytes_Count_one_at c7.small a 0 s.cap b 0 cap [] (c.toNat : Int) w rfl (fun i hi=>absurd hi (Nat.not_lt_zero _)) hc).mono fun e w' ⟨h1,h2⟩=>⟨h1,h2 ▸ c8 w⟩
  · obtain ⟨a,ha,hca⟩:=kT hs h0
    have e1 : s.v=.slice (some a) s.l.length s.cap:=by unfold ai.v;rw [ha]
    rw [e1,hcb,← iI]
    exact (Any.bytes_Count_one_at c7.small a s.l.length s.cap b 0 cap (kK s.l) (c.toNat : Int) w (fU _) hca hc).mono fun e w' ⟨h1,h2⟩=>⟨h1,h2 ▸ c8 w⟩
end Rw
end
section
namespace Sl
inductive c9 : List ah→List ah→Prop where
  | nil (N : List ah) : c9 [] N
  | keep (b : Nat) (A A' : Obj→Prop) (wr wr' : Bool) (N N' : List ah) : (∀ o,A o→A' o)→(wr'=true→wr=true)→c9 N' N→c9 (⟨b,A',wr'⟩::N') (⟨b,A,wr⟩::N)
  | drop (e : ah) (N N' : List ah) : c9 N' N→c9 N' (e::N)
theorem c9.keys {M M' : List ah} (h : c9 M' M) : (M'.map ah.b).Sublist (M.map ah.b):=by
  induction h with
  | nil=>exact List.nil_sublist _
  | keep _ _ _ _ _ _ _ _ _ _ ih=>exact ih.cons_cons _
  | drop _ _ _ _ ih=>exact ih.cons _
theorem c9.old {M M' : List ah} (h : c9 M' M) : ∀ e ∈ M',∃ e' ∈ M,e'.b=e.b∧(e.wr=true→e'.wr=true)∧∀ o,e'.A o→e.A o:=by
  induction h with
  | nil=>simp
  | keep b A A' wr wr' M M' hA hw _ ih=>
    intro e he
    simp only [List.mem_cons] at he
    rcases he with rfl | he
    · exact ⟨⟨b,A,wr⟩,by simp,rfl,hw,hA⟩
    · obtain ⟨e',h1,h2⟩:=ih e he
      exact ⟨e',by simp [h1],h2⟩
  | drop _ _ _ _ ih=>
    intro e he
    obtain ⟨e',h1,h2⟩:=ih e he
    exact ⟨e',by simp [h1],h2⟩
theorem aa.perm {w0 w : World} {S : List Nat} {M M' : List ah} (h : aa w0 S M w) (hp : M.Perm M') : aa w0 S M' w:=
  ⟨h.aq,(hp.map ah.b).nodup_iff.1 h.nodup,fun e he=>h.all e (hp.mem_iff.2 he)⟩
def eS (M : List ah) : List Nat:=(M.filter (·.wr)).map ah.b
theorem cm {M : List ah} {k : Nat} : k ∈ eS M↔∃ e ∈ M,e.wr=true∧e.b=k:=by
  simp [eS,and_assoc]
theorem aa.iK {w0 w : World} {S : List Nat} {M : List ah} (h : aa w0 S M w) : aa w (eS M) M w:=
  ⟨eD.refl _ _,h.nodup,fun e he=>⟨(h.all e he).1,fun hw=>.inl (cm.2 ⟨e,he,hw,rfl⟩)⟩⟩
theorem aa.eT {w0 w : World} {M : List ah} (h : aa w0 [] M w) : ∀ k ∈ eS M,w0.heap.size≤k:=fun k hk=>by
  obtain ⟨e,he,hw,rfl⟩:=cm.1 hk
  rcases (h.all e he).2 hw with h | h
  · cases h
  · exact h
theorem aa.nX {w0 w w' : World} {M M' : List ah} (h : aa w0 [] M w) (h' : aa w (eS M) M' w') : aa w0 [] M' w':=by
  refine ⟨⟨h'.aq.os.trans h.aq.os,h'.aq.tape.trans h.aq.tape,h'.aq.output.trans h.aq.output,Nat.le_trans h.aq.size h'.aq.size,fun k hk _=>?_⟩,h'.nodup,fun e he=>⟨(h'.all e he).1,fun hw=>.inr ?_⟩⟩
  · refine (h'.aq.block k (Nat.lt_of_lt_of_le hk h.aq.size) fun hm=>?_).trans (h.aq.block k hk (by simp))
    have:=h.eT k hm
    omega
  · rcases (h'.all e he).2 hw with h1 | h1
    · exact h.eT _ h1
    · exact Nat.le_trans h.aq.size h1
theorem jS {M : List ah} (h : (M.map ah.b).Nodup) : ∀ {e1 e2 : ah},e1 ∈ M→e2 ∈ M→e1.b=e2.b→e1=e2:=by
  induction M with
  | nil=>intro e1 e2 h1;cases h1
  | cons x M ih=>
    simp only [List.map_cons,List.nodup_cons] at h
    intro e1 e2 h1 h2 he
    rcases List.mem_cons.1 h1 with rfl | h1'
    · rcases List.mem_cons.1 h2 with rfl | h2'
      · rfl
      · exact absurd (he ▸ List.mem_map_of_mem (f:=ah.b) h2') h.1
    · rcases List.mem_cons.1 h2 with rfl | h2'
      · exact absurd (he ▸ List.mem_map_of_mem (f:=ah.b) h1') h.1
      · exact ih h.2 h1' h2' he
theorem bU.other {M M' : List ah} {b b' : Nat} {A A' : Obj→Prop} (h : bU M b A b' A' M') (hn : (M.map ah.b).Nodup) : ∀ e ∈ M',e=⟨b',A',true⟩∨(e ∈ M∧e.b≠b):=by
  induction h with
  | @here b A b' A' M=>
    intro e he
    simp only [List.map_cons,List.nodup_cons] at hn
    simp only [List.mem_cons] at he
    rcases he with rfl | he
    · exact .inl rfl
    · exact .inr ⟨by simp [he],fun h=>hn.1 (h ▸ List.mem_map_of_mem he)⟩
  | @there x M b A b' A' M' hu ih=>
    intro e he
    simp only [List.map_cons,List.nodup_cons] at hn
    simp only [List.mem_cons] at he
    rcases he with rfl | he
    · refine .inr ⟨by simp,fun h=>hn.1 ?_⟩
      rw [h]
      exact List.mem_map_of_mem hu.has.mem (f:=ah.b)
    · rcases ih hn.2 e he with h | ⟨h1,h2⟩
      · exact .inl h
      · exact .inr ⟨by simp [h1],h2⟩
section
variable {P : Program} {m l : Nat}
def bD (o : Oper) : Bool:=match o.op with
  | .defer _=>false
  | _=>true
abbrev Rd (l : Nat) : Fence:=Fence.wide.inRound l
theorem eU {o : Oper} {a : Act} {w : World} {K K' : Act→World→Prop} {Q : Exit→Act→World→Prop} (hd : bD o=true) (hQ : ¬ LetsOut Q) (hK : ∀ a w,K a w→K' a w) (h : o.wp P a w K Q) : o.wpIn (Rd l) m P a w K' Q:=by
  refine ⟨fun _ _=>trivial,?_⟩
  have e : Oper.semAt (Rd l).round a.eval o=execOp a.eval o:=Oper.semAt_some l _ _ fun c hc=>by
    unfold bD at hd
    rw [hc] at hd
    cases hd
  rw [e]
  unfold Oper.wp at h
  have hdep : (Rd l).depth.isSome=true→1≤m:=fun h=>by cases h
  cases hr : (execOp a.eval o).run P w with
  | ok nx w'=>
    rw [hr] at h
    cases nx with
    | value v=>exact hK _ _ h
    | skip=>exact hK _ _ h
    | defer d=>exact hK _ _ h
    | enter f args=>
      have h' : Calls P f args w' fun
        | .returned v,w''=>K (a.put o.dst v) w''
        | .panicked chain,w''=>Q (.panic chain) a w''
        | .outgrown,_=>LetsOut Q:=h
      refine ⟨hdep,(callsIn_wide (n:=m - 1)).2 (h'.mono fun e w2 h2=>?_)⟩
      cases e with
      | returned v=>exact hK _ _ h2
      | panicked ch=>exact h2
      | outgrown=>exact h2
    | row r args=>
      have h' : Rows P r args w' fun v w''=>K (a.put o.dst v) w'':=h
      refine ⟨hdep,fun c cs _=>?_⟩
      obtain ⟨v,w2,h2,hs⟩:=h' c cs
      exact ⟨v,w2,hK _ _ h2,stepsIn_wide.2 hs⟩
    | round=>exact h.elim
    | _=>exact h.elim
  | halt x w'=>
    rw [hr] at h
    cases x with
    | panic v=>exact h
    | _=>exact h.elim
theorem bp {ops : Array Oper} {Q : Exit→Act→World→Prop} (hQ : ¬ LetsOut Q) : ∀ (os : List Oper),os.all bD=true→∀ a w,wpList P ops Q os a w→wpListIn (Rd l) m P ops Q os a w
  | [],_,a,w,h=>h
  | o::os,hd,a,w,h=>by
    simp only [List.all_cons,Bool.and_eq_true] at hd
    have ih:=bp (ops:=ops) hQ os hd.2
    unfold wpList at h
    unfold wpListIn
    by_cases hw : Region.wanted o (yielded ops a.tmps)=true
    · simp only [hw,if_true] at h ⊢
      rcases h with h | h
      · exact eU hd.1 hQ ih h
      · exact absurd h.2 hQ
    · simp only [hw,if_false] at h ⊢
      exact ⟨fun _ _=>trivial,ih _ _ h⟩
end
section
variable {P : Program} {n : Nat} {w0 : World} {S : List Nat} {Q Q' : Exit→Act→World→Prop} {E : Env} {M : List ah} {m l : Nat}
structure JR (P : Program) (n : Nat) (w0 : World) (S : List Nat) (l m : Nat) (Q : Exit→Act→World→Prop) (c : Code) (E : Env) (M : List ah) : Prop where
  go : ∀ a w,an n E a→aa w0 S M w→c.wpIn (Rd l) m P Q a w
theorem JR.region {id : Nat} {os : List Oper} (hd : os.all bD=true) (hQ : ¬ LetsOut Q) (h : JL P n w0 S os.toArray Q os E M) : JR P n w0 S l m Q (.region id os.toArray false) E M:=
  ⟨fun a w ha hw=>wpIn_region_lit (bp hQ os hd a w (h.go a w ha hw))⟩
theorem JR.seq {x y : Code} (h : JR P n w0 S l m (Exit.then (y.wpIn (Rd l) m P Q) Q) x E M) : JR P n w0 S l m Q (.seq x y) E M:=⟨fun a w ha hw=>wpIn_seq (h.go a w ha hw)⟩
theorem JR.block {id : Nat} {c : Code} (h : JR P n w0 S l m (Exit.inBlock id Q) c E M) : JR P n w0 S l m Q (.block id c) E M:=⟨fun a w ha hw=>wpIn_block (h.go a w ha hw)⟩
theorem JE.cr {y : Code} (h : JR P n w0 S l m Q' y E M) : JE n w0 S (Exit.then (y.wpIn (Rd l) m P Q') Q) .normal E M:=⟨h.go⟩
theorem ag {K : Act→World→Prop} (h : ¬ LetsOut Q) : ¬ LetsOut (Exit.then K Q):=fun ⟨a,w,x⟩=>h ⟨a,w,x⟩
theorem ay {id : Nat} (h : ¬ LetsOut Q) : ¬ LetsOut (Exit.inBlock id Q):=fun ⟨a,w,x⟩=>h ⟨a,w,x⟩
end
def mk (D : Nat) : Deferred:={ target:=.collected D,args:=#[] }
def fV : Obj→Prop:=fun o=>o=.deferred (some [])
structure bu (D n : Nat) (E : Env) (a : Act) : Prop where
  defers : a.defers=[mk D]
  base : an n E { a with defers:=[] }
section
variable {P : Program} {D n : Nat} {w0 : World} {S : List Nat} {ops : Array Oper} {Q Q' : Exit→Act→World→Prop} {os : List Oper} {E : Env} {M : List ah} {d : Nat} {op : Op} {ty : TypeId} {pos : String} {aft : Array Edge} {v : Value}
theorem fD (a : Act) : ({ a with defers:=[] } : Act).eval=a.eval:=funext fun x=>by cases x <;> rfl
theorem bu.put {a : Act} (h : bu D n E a) (d : Nat) (v : Value) (hd : Nat.blt d n=true) : bu D n ((d,v)::E) (a.put (some d) v):=⟨h.defers,h.base.put d v hd⟩
theorem bu.eval {a : Act} (h : bu D n E a) {x : Operand} {v : Value} (hx : ev E x=some v) : a.eval x=v:=by
  rw [← fD];exact h.base.eval hx
structure KL (P : Program) (D n : Nat) (w0 : World) (S : List Nat) (ops : Array Oper) (Q : Exit→Act→World→Prop) (os : List Oper) (E : Env) (M : List ah) : Prop where
  go : ∀ a w,bu D n E a→aa w0 S M w→wpList P ops Q os a w
structure KE (D n : Nat) (w0 : World) (S : List Nat) (Q : Exit→Act→World→Prop) (e : Exit) (E : Env) (M : List ah) : Prop where
  go : ∀ a w,bu D n E a→aa w0 S M w→Q e a w
structure KC (P : Program) (D n : Nat) (w0 : World) (S : List Nat) (Q : Exit→Act→World→Prop) (c : Code) (E : Env) (M : List ah) : Prop where
  go : ∀ a w,bu D n E a→aa w0 S M w→c.wp P Q a w
theorem KC.seq {x y : Code} (h : KC P D n w0 S (Exit.then (y.wp P Q) Q) x E M) : KC P D n w0 S Q (.seq x y) E M:=⟨fun a w ha hw=>wp_seq (h.go a w ha hw)⟩
theorem KC.skip (h : KE D n w0 S Q .normal E M) : KC P D n w0 S Q .skip E M:=⟨fun a w ha hw=>wp_skip (h.go a w ha hw)⟩
theorem KC.ret (h : KE D n w0 S Q .ret E M) : KC P D n w0 S Q .ret E M:=⟨fun a w ha hw=>wp_ret (h.go a w ha hw)⟩
theorem KC.cond {c : Operand} {x y : Code} {t : Bool} (hc : ev E c=some (.bool t)) (ht : t=true→KC P D n w0 S Q x E M) (hf : t=false→KC P D n w0 S Q y E M) : KC P D n w0 S Q (.cond c x y) E M:=
  ⟨fun a w ha hw=>wp_cond_split (ha.eval hc) (fun h=>(ht h).go a w ha hw) (fun h=>(hf h).go a w ha hw)⟩
theorem KC.region {id : Nat} {os : List Oper} (h : KL P D n w0 S os.toArray Q os E M) : KC P D n w0 S Q (.region id os.toArray false) E M:=⟨fun a w ha hw=>wp_region_lit (h.go a w ha hw)⟩
theorem KE.next {y : Code} (h : KC P D n w0 S Q' y E M) : KE D n w0 S (Exit.then (y.wp P Q') Q) .normal E M:=⟨h.go⟩
theorem KE.az {K : Act→World→Prop} (h : KE D n w0 S Q .ret E M) : KE D n w0 S (Exit.then K Q) .ret E M:=⟨h.go⟩
theorem KE.au {id : Nat} (h : KE D n w0 S Q .normal E M) : KE D n w0 S (Exit.inBlock id Q) .normal E M:=⟨h.go⟩
theorem KL.nil (h : KE D n w0 S Q .normal E M) : KL P D n w0 S ops Q [] E M:=⟨h.go⟩
theorem KL.q (h : OQ P n E (aa w0 S M) ⟨some d,op,ty,pos,aft,none⟩ v) (hd : Nat.blt d n=true) (k : KL P D n w0 S ops Q os ((d,v)::E) M) : KL P D n w0 S ops Q (⟨some d,op,ty,pos,aft,none⟩::os) E M:=
  ⟨fun a _ ha hw=>wpList_plain rfl fun _ hK=>Oper.wp_of_quiet (C:=aa w0 S M) (K:=fun a'=>a'=a.put (some d) v) hw (fun _ _ hw' e=>hK _ _ (e ▸ k.go _ _ (ha.put d v hd) hw')) ⟨v,fun w hw=>by
    have:=h.go _ ha.base w hw
    unfold Oper.quietAt at this ⊢
    rwa [fD] at this,rfl⟩⟩
theorem KC.weak {c : Code} {M' : List ah} (hM : av M' M) (h : KC P D n w0 S Q c E M') : KC P D n w0 S Q c E M:=⟨fun a w ha hw=>h.go a w ha (hw.weak hM)⟩
theorem dW {m : Nat} {fn : Func} {R : Ending→World→Prop} {a : Act} {w : World} {v : Value} (ha : bu D n E a) (hw : aa w0 S (⟨D,fV,true⟩::M) w)
    (hv : ∀ w',aa w0 S M w'→(results fn a.tmps).run P w'=.ok v w') (hR : ∀ w',aa w0 S M w'→R (.returned v) w') : bodyPostM Fence.wide m P fn R .ret a w:=by
  obtain ⟨o,ho,hA⟩:=hw.get (b:=D) (A:=fV) (wr:=true) .here
  cases hA
  have hlt : D<w.heap.size:=(Array.getElem?_eq_some_iff.1 ho).1
  have h2 : aa w0 S (⟨D,fun o=>o=.deferred none,true⟩::M) (w.putObj D (.deferred none)):=
    hw.write (A':=fun o=>o=.deferred none) .here rfl (World.putObj_heap_same hlt) World.putObj_size (fun k hk=>World.putObj_heap_other hk) rfl rfl rfl
  have h3 : aa w0 S M (w.putObj D (.deferred none)):=h2.weak (.drop _ _ _ (av.refl _))
  show LeavesInM Fence.wide m P fn a.tmps R a.defers .returning w
  rw [ha.defers]
  exact ⟨by simp,.inl ⟨D,_,rfl,run_takeDeferred ho,v,hv _ h3,hR _ h3⟩⟩
theorem KE.less {e : Exit} {M' : List ah} (hM : av M' M) (h : KE D n w0 S Q e E M') : KE D n w0 S Q e E M:=⟨fun a w ha hw=>h.go a w ha (hw.weak hM)⟩
theorem kY {f : FuncId} {fn : Func} {c : Code} {vs : List Value} {w : World} {R : Ending→World→Prop} (hf : P.funcs[f]?=some fn) (hb : fn.body=some c) (hn : fn.ntmps=n) (hl : Nat.ble vs.length n=true)
    (hM : aa w S M w) (h : JC P n w S (bodyPostM Fence.wide 3 P fn R) c (enum 0 vs) M) : Calls P f vs.toArray w R:=by
  refine callsIn_wide.1 (callsIn_of_wp_marks (n:=3) hf hb trivial (wpIn_wide.2 (h.go _ _ ?_ hM)))
  rw [hn]
  exact an.enter vs (by simpa using hl)
end
structure gJ (L : List Nat) (W W' : World) : Prop where
  os : W'.os=W.os
  tape : W'.tape=W.tape
  output : W'.output=W.output
  size : W.heap.size≤W'.heap.size
  same : ∀ k ∈ L,W'.heap[k]?=W.heap[k]?
theorem gJ.trans {L : List Nat} {X Y Z : World} (h : gJ L X Y) (k : gJ L Y Z) : gJ L X Z:=
  ⟨k.os.trans h.os,k.tape.trans h.tape,k.output.trans h.output,Nat.le_trans h.size k.size,fun i hi=>(k.same i hi).trans (h.same i hi)⟩
def iL {α ι : Type} (Mi : ι→List ah) (Inv : List α→ι→Prop) (xs : List α) (w1 : World) (S1 : List Nat) : Exit→Act→World→Prop
  | .normal,_,W'=>∃ j,Inv xs j∧aa w1 S1 (Mi j) W'
  | _,_,_=>False
theorem ak {α ι : Type} {Mi : ι→List ah} {Inv : List α→ι→Prop} {xs : List α} {w1 : World} {S1 : List Nat} : ¬ LetsOut (iL Mi Inv xs w1 S1):=fun ⟨_,_,h⟩=>h
theorem JE.round {α ι : Type} {n : Nat} {w1 : World} {S1 : List Nat} {E : Env} {M : List ah} {Mi : ι→List ah} {Inv : List α→ι→Prop} {xs : List α} (j : ι) (hj : Inv xs j) (hM : av (Mi j) M) : JE n w1 S1 (iL Mi Inv xs w1 S1) .normal E M:=
  ⟨fun _ _ _ hw=>⟨j,hj,hw.weak hM⟩⟩
theorem JC.range {P : Program} {n : Nat} {w0 : World} {Q : Exit→Act→World→Prop} {E : Env} {M : List ah} {α ι : Type} {g : Operand} {p d rid : Nat} {ty : TypeId} {pos : String} {body : Code} {gf : Nat} {lb : Array Value} (enc : α→Value) (L : List Nat) (Sd Sp : List α→Prop) (N : Nat)
    (Mi : ι→List ah) (Inv : List α→ι→Prop) (hg : ev E g=some (.func (.func gf) #[] lb)) (eg : ∀ args w,(callFunc gf args).run P w=.ok (.enter gf args) w)
    (hseq : ∀ W,aa w0 [] M W→SeqStopsK Fence.wide 2 P gf lb (fun x=>#[enc x]) (gJ L) Sd Sp N W)
    (hcell : ∀ i,∀ e ∈ Mi i,∀ o,e.A o→o.isCells=true) (hL : ∀ i,∀ k ∈ L,k<w0.heap.size∨∃ A,Has (Mi i) k A false)
    (i0 : ι) (h0 : Inv [] i0) (hM : ∀ w,aa w0 [] M w→aa w0 [] (Mi i0) w) (hp : Nat.blt p n=true) (hd : Nat.blt d n=true)
    (hbody : ∀ l pre x i w1,Inv pre i→pre.length<N→Ext w0 w1→(∀ k ∈ eS (Mi i),w0.heap.size≤k)→JR P n w1 (eS (Mi i)) l 1 (iL Mi Inv (pre++[x]) w1 (eS (Mi i))) body ((d,enc x)::(p,enc x)::E) (Mi i))
    (hdone : ∀ D xs i,Sd xs→Inv xs i→KE D n w0 [] Q .normal E (⟨D,fV,true⟩::Mi i)) :
    JC P n w0 [] Q (.rangeFunc g #[p] (.region rid #[⟨some d,.assign (.tmp p),ty,pos,#[],none⟩] false) body) E M:=by
  refine ⟨fun a w ha hw=>(wpIn_wide (n:=3)).1 ?_⟩
  have hLw : ∀ k ∈ L,k<w.heap.size:=fun k hk=>by
    rcases hL i0 k hk with h | ⟨A,h⟩
    · exact Nat.lt_of_lt_of_le h hw.aq.size
    · exact (hM w hw).lt h.mem
  have hI : OwnFrom w.heap.size (fun pre W=>∃ i,Inv pre i∧aa w0 [] (Mi i) W):=by
    rintro pre W W' row ⟨i,hi,h⟩ hgr hrow
    refine ⟨i,hi,⟨hgr.os.trans h.aq.os,hgr.tape.trans h.aq.tape,hgr.output.trans h.aq.output,Nat.le_trans h.aq.size hgr.size,fun k hk _=>?_⟩,h.nodup,fun e he=>⟨?_,(h.all e he).2⟩⟩
    · refine (hgr.block k (Nat.lt_of_lt_of_le hk h.aq.size) fun hr=>?_).trans (h.aq.block k hk (by simp))
      have:=(hrow k hr.symm).1
      have:=hw.aq.size
      omega
    · obtain ⟨o,ho,hA⟩:=(h.all e he).1
      refine ⟨o,(hgr.block e.b (h.lt he) fun hr=>?_).trans ho,hA⟩
      obtain ⟨_,o2,ho2,hc⟩:=hrow _ hr.symm
      rw [ho] at ho2
      cases ho2
      rw [hcell i e he o hA] at hc
      cases hc
  have hpn : p<n:=by simpa using hp
  have hdn : d<n:=by simpa using hd
  refine wpIn_rangeFunc_ownG (n:=3) rfl (by omega) (gf:=gf) (lb:=lb) (ha.eval hg) trivial eg (w0:=w) (hseq w hw) (fun h k=>h.trans k) (fun W l o o' hl _ _ _=>?_) (RowKit.Below.refl _ _) (fun _=>rfl)
    (fun pre W=>∃ i,Inv pre i∧aa w0 [] (Mi i) W) (fun _ _ _=>False) hI (fun _ _ _ _ _ h _ _=>h) ⟨i0,h0,hM w hw⟩ (fun x=>(a.put (some p) (enc x)).put (some d) (enc x)) ?_ ?_ ?_ (fun _ _ _ _ _ _ h _=>h.elim)
  · exact ⟨rfl,rfl,rfl,by simp,fun k hk=>World.putObj_heap_other (by have:=hLw k hk;omega)⟩
  · intro l x W K hK
    refine wpIn_region_lit (wpListIn_plain rfl fun K' hK'=>⟨fun _ _=>trivial,?_⟩)
    have he : ((#[p].zip #[enc x]).foldl (fun t (x : Nat × Value)=>t.setIfInBounds x.1 x.2) a.tmps).getD p undef=enc x:=by
      have : p<a.tmps.size:=by rw [ha.size];exact hpn
      simp [this]
    have hs : Oper.semAt (Rd l).round ({ tmps:=(#[p].zip #[enc x]).foldl (fun t (x : Nat × Value)=>t.setIfInBounds x.1 x.2) a.tmps,defers:=[] } : Act).eval ⟨some d,.assign (.tmp p),ty,pos,#[],none⟩=.pure (.value (enc x)):=by
      refine (Oper.semAt_some l _ _ ?_).trans ?_
      · intro c h;cases h
      show Sem.pure (Next.value (_ : Value))=_
      exact congrArg (fun v=>Sem.pure (Next.value v)) he
    show Oper.uponIn _ _ _ _ _ _ _ ((Oper.semAt (Rd l).round _ _).run P W)
    rw [hs]
    refine hK' _ _ (wpListIn_nil ?_)
    show K _ W
    have e : ({ tmps:=(#[p].zip #[enc x]).foldl (fun t (x : Nat × Value)=>t.setIfInBounds x.1 x.2) a.tmps,defers:=[] } : Act).put (some d) (enc x)=(a.put (some p) (enc x)).put (some d) (enc x):=by
      obtain ⟨tm,df⟩:=a
      have:=ha.defers
      simp only at this
      subst this
      simp [Act.put]
    rw [e]
    exact hK
  · rintro l pre x W ⟨i,hi,h⟩ hlen
    refine wpIn_mono ((hbody l pre x i W hi hlen h.aq h.eT).go _ W ((ha.put p _ hp).put d _ hd) h.iK) ?_
    · rintro e a2 W2 hq
      cases e with
      | normal=>
        obtain ⟨j,hj,h2⟩:=hq
        refine ⟨⟨h2.aq.size,fun k o _ hk ho=>?_⟩,⟨h2.aq.os,h2.aq.tape,h2.aq.output,h2.aq.size,fun k hk=>?_⟩,j,hj,h.nX h2⟩
        · refine (h2.aq.block k (Array.getElem?_eq_some_iff.1 hk).1 fun hm=>?_).trans hk
          obtain ⟨e,he,_,rfl⟩:=cm.1 hm
          obtain ⟨o',ho',hA⟩:=(h.all e he).1
          rw [hk] at ho'
          cases ho'
          rw [hcell i e he _ hA] at ho
          cases ho
        · rcases hL i k hk with hlt | ⟨A,hA⟩
          · exact h2.aq.block k (Nat.lt_of_lt_of_le hlt h.aq.size) fun hm=>by have:=h.eT k hm;omega
          · refine h2.aq.block k (h.lt hA.mem) fun hm=>?_
            obtain ⟨e,he,hwr,hb⟩:=cm.1 hm
            have:=jS h.nodup he hA.mem hb
            subst this
            cases hwr
      | ret=>exact hq.elim
      | exit id=>exact hq.elim
      | goto t=>exact hq.elim
      | panic ch=>exact hq.elim
      | outgrown=>exact hq.elim
  · rintro D xs W hD hS ⟨i,hi,h⟩ hk
    refine (hdone D xs i hS hi).go _ W ⟨?_,?_⟩ ?_
    · show _::a.defers=_
      rw [ha.defers];rfl
    · exact ⟨ha.size,rfl,ha.all⟩
    · refine ⟨h.aq,?_,fun e he=>?_⟩
      · simp only [List.map_cons,List.nodup_cons,h.nodup,and_true]
        intro hm
        obtain ⟨e,he,hb⟩:=List.mem_map.1 hm
        obtain ⟨o,ho,hA⟩:=(h.all e he).1
        rw [hb] at ho
        rw [hk] at ho
        cases ho
        have:=hcell i e he _ hA
        cases this
      · simp only [List.mem_cons] at he
        rcases he with rfl | he
        · exact ⟨⟨_,hk,rfl⟩,fun _=>.inr (Nat.le_trans hw.aq.size hD)⟩
        · exact h.all e he
end Sl
end
end Go.Proofs.YtbmagnpmfpfckaaDoor
