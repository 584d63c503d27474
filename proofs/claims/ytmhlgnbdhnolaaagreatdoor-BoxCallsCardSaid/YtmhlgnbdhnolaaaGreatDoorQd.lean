/-
  Of no statement by itself: the texts StoC, StoS, BoxL, BoxP, BoxQ, Shpx, StoD, StoE, StoF, StoG, StoH, StoI, Slja, Slj3, StoJ, BoxA, BoxB, BoxC, BoxD, BoxE, StoK in one.
  Conditions: each theorem's own.
-/
import Derived.Test.YtmhlgnbdhnolaaaGreatDoorQc
import Derived.Shelf.SlMaps.Clone
import Derived.Shelf.Sort.Plain
import Derived.Shelf.Slices.In.SortNone
import Derived.Sort.OwnSorted
import Derived.Shelf.Strconv.Itoa3
import Derived.Shelf.Strconv.AtoiAll
import Derived.Shelf.Strings.Repeat
import Derived.Lib.ItoaNum
import Derived.Lib.AtoiAll
import Derived.WideLaws
set_option linter.unusedSimpArgs false
set_option linter.unusedVariables false
namespace Go.Proofs.YtmhlgnbdhnolaaaGreatDoor
section
set_option maxRecDepth 10000
open Sl cY dy fI
abbrev MV:=List (ME aC)
def xC (z : MV × Nat) (p : aM) : MV × Nat:=if p.gone then (gT p.key z.1,z.2) else (fX p.key p.s z.2 z.1,sH p.key z.1 z.2)
def cJ (z : MV × Nat) (l : List aM) : MV × Nat:=l.foldl xC z
def zD (mm : MV) : VL:=mm.map fun e=>(e.key,e.val.l)
def iP (mm : MV) (vs : VL) : Prop:=(zD mm).Perm vs
theorem sL {z : MV × Nat} (h : WF z.1 z.2) (p : aM) : WF (xC z p).1 (xC z p).2:=by
  unfold xC
  split
  · exact h.del _
  · exact h.put _ _
theorem lu : ∀ (l : List aM) {z : MV × Nat},WF z.1 z.2→WF (cJ z l).1 (cJ z l).2
  | [],_,h=>h
  | p::l,_,h=>lu l (sL h p)
theorem mJ (k : Bk) (mm : MV) : zD (mm.filter fun e=>decide (e.key≠k))=(zD mm).filter fun q=>decide (q.1≠k):=by
  unfold zD
  rw [List.filter_map]
  rfl
theorem BE {z : MV × Nat} {vs : VL} (h : WF z.1 z.2) (hs : ji vs) (hm : iP z.1 vs) (p : aM) : iP (xC z p).1 (vg vs p.p):=by
  unfold xC vg iP
  by_cases hg : p.gone=true
  · rw [if_pos hg,if_pos (show p.p.gone=true from hg),gS hs]
    show (zD (gT p.key z.1)).Perm _
    rw [kN _ _ h.keys,mJ]
    exact hm.filter _
  · rw [if_neg hg,if_neg (show ¬ p.p.gone=true from hg)]
    have h1:=(ko p.key p.s z.2 z.1 h.keys).map fun q : Bk × aC=>(q.1,q.2.l)
    rw [List.map_map,List.map_cons,List.map_map] at h1
    refine List.Perm.trans h1 (List.Perm.trans (List.Perm.cons _ ?_) (ki hs).symm)
    show (zD (z.1.filter fun e=>decide (e.key≠p.key))).Perm _
    rw [mJ]
    exact hm.filter _
theorem lz : ∀ (l : List aM) {z : MV × Nat} {vs : VL},WF z.1 z.2→ji vs→iP z.1 vs→iP (cJ z l).1 (cy vs (l.map aM.p))
  | [],_,_,_,_,h=>h
  | p::l,_,_,h,hs,hm=>lz l (sL h p) (ug hs) (BE h hs hm p)
theorem zE {z : MV × Nat} (h : WF z.1 z.2) (p : aM) : ∃ r,((xC z p).1.map ME.val++r).Perm (z.1.map ME.val++[p.s]):=by
  unfold xC
  split
  · obtain ⟨r,hr⟩:=((gV p.key z.1).map ME.val).exists_perm_append
    exact ⟨r++[p.s],by rw [← List.append_assoc];exact hr.symm.append_right _⟩
  · have h1:=(ko p.key p.s z.2 z.1 h.keys).map fun q : Bk × aC=>q.2
    rw [List.map_map,List.map_cons,List.map_map] at h1
    obtain ⟨r,hr⟩:=((List.filter_sublist (p:=fun e : ME aC=>decide (e.key≠p.key)) (l:=z.1)).map ME.val).exists_perm_append
    refine ⟨r,(h1.append_right r).trans ?_⟩
    show (p.s::((z.1.filter fun e=>decide (e.key≠p.key)).map ME.val++r)).Perm _
    exact (List.Perm.cons _ hr.symm).trans (List.perm_append_singleton _ _).symm
theorem gY : ∀ (l : List aM) {z : MV × Nat},WF z.1 z.2→∃ r,((cJ z l).1.map ME.val++r).Perm (z.1.map ME.val++l.map aM.s)
  | [],_,_=>⟨[],by simp [cJ]⟩
  | p::l,z,h=>by
    obtain ⟨r1,h1⟩:=zE h p
    obtain ⟨r2,h2⟩:=gY l (sL h p)
    refine ⟨r2++r1,?_⟩
    rw [← List.append_assoc]
    refine (h2.append_right r1).trans ?_
    have e : (z.1.map ME.val++(p::l).map aM.s)=(z.1.map ME.val++[p.s])++l.map aM.s:=by simp
    rw [e,List.append_assoc]
    refine ((List.perm_append_comm (l₁:=l.map aM.s)).append_left _).trans ?_
    rw [← List.append_assoc]
    exact h1.append_right _
theorem vl (z : MV × Nat) (l : List aM) (p : aM) : cJ z (l++[p])=xC (cJ z l) p:=by simp [cJ]
abbrev dO (z : MV × Nat) : Obj→Prop:=MB aC.v z.1 z.2
section
variable {P : Program} {n : Nat} {w0 : World} {S : List Nat} {ops : Array Oper} {Q : Exit→Act→World→Prop} {l : List Oper} {E : Env} {M M' : List ai}
variable {b : Nat} {t k e ty : TypeId} {pos : String} {aft : Array Edge} {x y : Operand} {α : Type} {f : α→Value} {es : List (ME α)} {c : Nat} {key : List Bt}
theorem JL.zF (ht : P.underlying t=some (.map k e)) (hk : P.underlying k=some .string) (hx : ev E x=some (.map (some b))) (hy : ev E y=some (Z key))
    (hu : lE M b (MB f es c) (MB f (gT key es) c) M')
    (kk : JL P n w0 S ops Q l E M') : JL P n w0 S ops Q (⟨none,.call ⟨.builtin .delete,#[x,y],#[t,k]⟩,ty,pos,aft,none⟩::l) E M:=
  ⟨fun a w ha hw=>wpList_plain rfl fun K hK=>by
    obtain ⟨o,ho,rfl⟩:=hw.get hu.has
    have hlt:=(Array.getElem?_eq_some_iff.1 ho).1
    unfold Oper.wp
    simp only [execOp,resolve,invoke,builtin,Sem.run_bind,Sem.run_pure,Result.andThen_ok,List.map_toArray,List.map_cons,List.map_nil,ha.eval hx,ha.eval hy,sJ (ty:=ty) ht hk ho]
    refine hK _ _ (kk.go _ _ (ha.jk _) (hw.write hu (o':=.map ((gT key es).map (ME.en f)).toArray c) rfl ?_ ?_ ?_ rfl rfl rfl))
    · simp [hlt]
    · simp
    · intro k hk
      simp [Array.getElem?_setIfInBounds,Ne.symm hk]⟩
end
theorem lB : aL Tryz.prog 61:=⟨_,Tryz.func61,rfl,by kernel_rfl⟩
set_option maxHeartbeats 16000000 in
theorem oU (s : ez) (b : Nat) (mm : MV) (c : Nat) (w : World) (hs : s.ok w) (hn : s.l.length≤4294967296) (ha : jM s [b]) (hw : Holds w [b] [⟨b,dO (mm,c),true⟩] w) :
    Calls Tryz.prog 61 [.map (some b),s.v].toArray w fun e w'=>e=.returned (.tuple #[])∧Holds w [b] [⟨b,dO (cJ (mm,c) s.l),true⟩] w':=by
  refine enter (n:=23) Tryz.func61 rfl rfl rfl hw ?_
  repeat (first | refine JL.q (by first|(apply OQ.len (k:=s.l.length) (ad:=s.ad) (cap:=s.cap);exact Tryz.underlying81;rfl)|(apply OQ.move;rfl)) rfl ?_ | refine JC.seq ?_ | refine JC.region ?_ | refine JC.block ?_ | refine JL.nil ?_ | refine JE.next ?_)
  refine JC.loop (fun i : Nat=>[(0,.map (some b)),(6,s.v),(7,N s.l.length),(8,N i)]) (fun i=>[⟨b,dO (cJ (mm,c) (s.l.take i)),true⟩]) (fun i=>s.l.length - i) (fun i=>i≤s.l.length) 0 (Nat.zero_le _) (by repeat (first | exact ag.nil | refine ag.cons _ _ _ rfl ?_)) (aj.refl _) ?_
  intro i hi
  repeat (first | refine JL.q (by (apply OQ.dX;rfl;rfl)) rfl ?_ | refine JC.seq ?_ | refine JC.region ?_ | refine JL.nil ?_ | refine JE.next ?_)
  refine JC.cond rfl (fun hc=>?_) (fun hc=>?_)
  · have hi' : i<s.l.length:=Nat.lt_of_not_le fun h=>by have:=of_decide_eq_true hc;omega
    clear hc
    obtain ⟨bb,j,e,lb,cc⟩:=hs.at hi'
    have hm:=ez.get_mem hi'
    have ht : s.l.take (i+1)=s.l.take i++[s.l.getD i BB]:=by
      rw [List.take_add_one]
      simp [List.getD_eq_getElem?_getD,hi']
    generalize s.l.getD i BB=p at cc hm ht
    have hne : s.l≠[]:=fun h=>by rw [h] at hi';exact absurd hi' (Nat.not_lt_zero _)
    have hbb : bb ∉ [b]:=ha.a hne _ e
    have hsv : s.v=.slice (some ⟨bb,j,none⟩) s.l.length s.cap:=by rw [← e];rfl
    rw [hsv]
    repeat (first | refine JL.q (by first|(apply OQ.fc (i:=i);exact Tryz.underlying81;exact jK;rfl;rfl;exact hi')|(apply OQ.dV (cs:=p.cs);exact gX;rfl;exact jK;exact lb;exact hbb;exact cc)) rfl ?_ | refine JC.seq ?_ | refine JC.region ?_ | refine JC.block ?_ | refine JC.skip ?_ | refine JE.next ?_)
    rw [← hsv]
    refine JL.alloc Cg rfl fun b6 _=>?_
    refine JL.aq (cs:=p.cs) jK rfl rfl rfl p.one .here rfl ?_
    repeat (first | refine JL.q (by first|(apply OQ.load;exact gL;rfl;exact .here;exact (Row.cell (v:=.bool p.gone) rfl))|(apply OQ.aV;rfl;rfl;rfl;exact (by decide);rfl)) rfl ?_ | refine JC.seq ?_ | refine JC.region ?_ | refine JL.nil ?_ | refine JE.next ?_)
    have e2 : cJ (mm,c) (s.l.take (i+1))=xC (cJ (mm,c) (s.l.take i)) p:=by rw [ht,vl]
    unfold xC at e2
    refine JC.cond rfl (fun hc=>?_) (fun hc=>?_)
    · rw [if_pos hc] at e2
      repeat (first | refine JL.q (by first|(apply OQ.load;exact eE;rfl;exact .here;exact (Row.cell (v:=Z p.key) rfl))|(apply OQ.move;rfl)|(apply OQ.aV;rfl;rfl;rfl;exact (by decide);rfl)) rfl ?_ | refine JC.region ?_)
      refine JL.zF Tryz.underlying100 Tryz.underlying9 rfl rfl (.there .here) ?_
      repeat (first | refine JL.q (by first|(apply OQ.move;rfl)|(apply OQ.addN;rfl;rfl;exact (by (try simp only []);omega))) rfl ?_ | refine JC.region ?_ | refine JL.nil ?_ | refine JE.next ?_ | refine JE.an ?_)
      refine JE.again (i:=i) (i+1) hi' (by omega) (by repeat (first | exact ag.nil | refine ag.cons _ _ _ rfl ?_)) ?_
      show aj [⟨b,dO (cJ (mm,c) (s.l.take (i+1))),true⟩] _
      rw [e2]
      exact .drop _ _ _ (aj.refl _)
    · rw [if_neg (by rw [hc];simp)] at e2
      repeat (first | refine JL.q (by first|(apply OQ.load;exact eE;rfl;exact .here;exact (Row.cell (v:=Z p.key) rfl))|(apply OQ.load;exact qB;rfl;exact .here;exact (Row.cell (v:=p.s.v) rfl))|(apply OQ.move;rfl)|(apply OQ.aV;rfl;rfl;rfl;exact (by decide);rfl)) rfl ?_ | refine JC.region ?_)
      refine JL.Bu (f:=aC.v) (v:=p.s) Tryz.underlying100 Tryz.underlying9 rfl rfl rfl (.there .here) ?_
      repeat (first | refine JL.q (by first|(apply OQ.move;rfl)|(apply OQ.addN;rfl;rfl;exact (by (try simp only []);omega))) rfl ?_ | refine JC.region ?_ | refine JL.nil ?_ | refine JE.next ?_ | refine JE.an ?_)
      refine JE.again (i:=i) (i+1) hi' (by omega) (by repeat (first | exact ag.nil | refine ag.cons _ _ _ rfl ?_)) ?_
      show aj [⟨b,dO (cJ (mm,c) (s.l.take (i+1))),true⟩] _
      rw [e2]
      exact .drop _ _ _ (aj.refl _)
  · have hi' : i=s.l.length:=by have:=of_decide_eq_false hc;omega
    rw [hi',List.take_length]
    repeat (first | refine JC.exit ?_ | refine JE.aH ?_ | refine JE.aW ?_)
    exact JE.rI rfl fun w' hw=>⟨rfl,hw⟩
section
variable {P : Program} {n : Nat} {w0 : World} {S : List Nat} {ops : Array Oper} {Q : Exit→Act→World→Prop} {l : List Oper} {E : Env} {M : List ai} {C : World→Prop}
variable {d b : Nat} {t t' k e ty : TypeId} {dst : Option Tmp} {pos : String} {aft : Array Edge} {g : Option (Nat × Bool)} {x y : Operand} {α : Type} {f : α→Value} {es : List (ME α)} {c : Nat}
theorem OQ.BF {p : Option Nat} (hu : P.underlying t=some (.map k e)) (hx : ev E x=some (.map p)) (hy : ev E y=some (.map none)) :
    OQ P n E C ⟨dst,.binOp .eql t x y t',ty,pos,aft,g⟩ (.bool p.isNone):=
  OQ.run fun a ha w _=>by
    have h1:=ha.eval hx
    have h2:=ha.eval hy
    simp [execOp,h1,h2,eqGuard,run_eql_map_nil_sl w t k e p hu]
theorem OQ.xD (hu : P.underlying t=some (.map k e)) {v : Value} (hx : ev E x=some v) : OQ P n E C ⟨dst,.makeInterface t x,ty,pos,aft,g⟩ (.iface t v):=
  OQ.run fun a ha w _=>by
    have h1:=ha.eval hx
    have h2 : (Instr.makeInterface t v).run P w=.ok (.iface t v) w:=by simp [Instr.makeInterface,run_underlying hu,Sem.run_bind]
    simp [execOp,h1,h2]
theorem OQ.vm (hu : P.underlying t=some (.map k e)) {v : Value} {xT : TypeId} (hx : ev E x=some (.iface t v)) : OQ P n E C ⟨dst,.typeAssert x xT t false,ty,pos,aft,g⟩ v:=
  OQ.run fun a ha w _=>by
    have h1:=ha.eval hx
    simp [execOp,h1,run_typeAssert_map_sl w t xT k e v hu]
structure uk (P : Program) (f : FuncId) : Prop where
  go : ∃ fn,P.funcs[f]?=some fn∧(fn.name == "runtime.NumGoroutine")=false∧fn.body.isNone=true∧Extern.findNext fn=none∧Extern.find fn=some Extern.MapsClone.clone
theorem JL.xE {fi : FuncId} {ats : Array TypeId} {wr : Bool} (hf : uk P fi) (hx : ev E x=some (.iface t (.map (some b)))) (hM : Has M b (MB f es c) wr) (hd : Nat.blt d n=true)
    (kk : ∀ b',w0.heap.size≤b'→JL P n w0 S ops Q l ((d,.iface t (.map (some b')))::E) (⟨b',MB f es c,true⟩::M)) : JL P n w0 S ops Q (⟨some d,.call ⟨.value (.func fi),#[x],ats⟩,ty,pos,aft,none⟩::l) E M:=
  ⟨fun a w ha hw=>wpList_plain rfl fun K hK=>by
    obtain ⟨o,ho,rfl⟩:=hw.get hM
    obtain ⟨fn,h1,h2,h3,h4,h5⟩:=hf.go
    have r:=run_callFunc_extern h1 h2 h3 h4 h5 #[.iface t (.map (some b))] w
    rw [run_maps_clone_sl (P:=P) w t ho] at r
    simp only [Result.andThen] at r
    have r' : (execOp a.eval ⟨some d,.call ⟨.value (.func fi),#[x],ats⟩,ty,pos,aft,none⟩).run P w=.ok (.value (.iface t (.map (some w.heap.size)))) (w.alloc (.map (es.map (ME.en f)).toArray c)):=by
      have k1:=ha.eval hx
      rw [← r]
      simp [execOp,resolve,Sem.run_bind,Act.eval,Deferred.ofValue,invoke,k1]
      simp [Act.eval] at k1
      simp [k1]
    unfold Oper.wp
    rw [r']
    exact hK _ _ ((kk w.heap.size hw.bf.size).go _ _ (ha.put d _ hd) (hw.push (.map (es.map (ME.en f)).toArray c) rfl rfl rfl rfl rfl))⟩
end
theorem zG : uk Tryz.prog 151:=⟨_,Tryz.func151,by kernel_rfl,rfl,by kernel_rfl,by kernel_rfl⟩
theorem qO : aL Tryz.prog 123:=⟨_,Tryz.func123,rfl,by kernel_rfl⟩
set_option maxHeartbeats 16000000 in
theorem sM (b : Nat) (z : MV × Nat) (w : World) (hb : ∃ o,w.heap[b]?=some o∧dO z o) :
    Calls Tryz.prog 123 [.map (some b)].toArray w fun e w'=>∃ b',e=.returned (.map (some b'))∧Holds w [] [⟨b',dO z,true⟩] w':=by
  obtain ⟨o,ho,hA⟩:=hb
  refine enter (n:=9) Tryz.func123 rfl rfl rfl (Holds.seen (S:=[]) ho hA) ?_
  repeat (first | refine JL.q (by first|(apply OQ.BF;exact Tryz.underlying100;rfl;rfl)|(apply OQ.move;rfl)|(apply OQ.assign;rfl)) rfl ?_ | refine JC.seq ?_ | refine JC.region ?_ | refine JL.nil ?_ | refine JE.next ?_)
  refine JC.cond_false rfl rfl ?_
  repeat (first | refine JL.q (by first|(apply OQ.xD;exact Tryz.underlying100;rfl)|(apply OQ.move;rfl)) rfl ?_ | refine JC.seq ?_ | refine JC.region ?_ | refine JC.skip ?_ | refine JE.next ?_)
  refine JL.xE zG rfl .here rfl fun b' _=>?_
  repeat (first | refine JL.q (by first|(apply OQ.vm;exact Tryz.underlying100;rfl)|(apply OQ.assign;rfl)) rfl ?_ | refine JL.nil ?_ | refine JE.next ?_)
  exact JC.ret (JE.aR rfl (RV.tmp rfl) fun w' hw=>⟨b',rfl,hw.weak (ax _ _)⟩)
theorem ez.ok.lt {w : World} {s : ez} (h : s.ok w) (h0 : s.l≠[]) (a : Addr) (e : s.ad=some a) : a.block<w.heap.size:=by
  have : 0<s.l.length:=List.length_pos_iff.2 h0
  obtain ⟨b,j,e',lb,_⟩:=h.at this
  rw [e,Option.some.injEq] at e'
  rw [e']
  exact lb
theorem vn {w0 w : World} {X M : List ai} {s : ez} (hw : Holds w0 [] (X++M) w) (hX : ∀ e ∈ X,e.wr=true) (hs : s.ok w0) : jM s (keys X):=by
  refine ⟨fun h0 a ha hm=>?_,fun p hp=>lV hw hX (hs.all p hp)⟩
  obtain ⟨e,he,hb⟩:=List.mem_map.1 hm
  have h1:=hs.lt h0 a ha
  rcases (hw.all e (List.mem_append_left _ he)).2 (hX e he) with h | h
  · cases h
  · omega
theorem qP : aL Tryz.prog 89:=⟨_,Tryz.func89,rfl,by kernel_rfl⟩
set_option maxHeartbeats 16000000 in
theorem sN (b : Nat) (z : MV × Nat) (s : ez) (w : World) (hb : ∃ o,w.heap[b]?=some o∧dO z o) (hs : s.ok w) (hn : s.l.length≤4294967296) :
    Calls Tryz.prog 89 [.map (some b),s.v].toArray w fun e w'=>∃ b',e=.returned (.map (some b'))∧Holds w [] [⟨b',dO (cJ z s.l),true⟩] w':=by
  obtain ⟨o,ho,hA⟩:=hb
  refine enter (n:=12) Tryz.func89 rfl rfl rfl (Holds.seen (S:=[]) ho hA) ?_
  repeat (first | refine JL.q (by first|(apply OQ.move;rfl)|(apply OQ.assign;rfl)) rfl ?_ | refine JC.seq ?_ | refine JC.region ?_ | refine JL.nil ?_ | refine JE.next ?_)
  refine JL.bA (ι:=Nat) (vs:=[.map (some b)]) (fun b'=>.map (some b')) (fun b'=>[⟨b',dO z,true⟩]) qO rfl rfl (by simp) (fun w' hw'=>sM b z w' (hw'.get .here)) fun b'=>?_
  repeat (first | refine JL.q (by first|(apply OQ.move;rfl)|(apply OQ.assign;rfl)) rfl ?_ | refine JC.seq ?_ | refine JC.region ?_ | refine JL.nil ?_ | refine JE.next ?_)
  refine JL.bE (ι:=Unit) (X:=[⟨b',dO z,true⟩]) (vs:=[.map (some b'),s.v]) (fun _=>.tuple #[]) (fun _=>[⟨b',dO (cJ z s.l),true⟩]) lB rfl rfl (by simp) (by simp) (fun w' h0 hw'=>(oU s b' z.1 z.2 w' (hs.holds h0 rfl) hn (vn h0 (by simp) hs) hw').mono fun _ _ ⟨h1,h2⟩=>⟨(),h1,h2⟩) fun _=>?_
  repeat (first | refine JL.q (by first|(apply OQ.move;rfl)|(apply OQ.assign;rfl)) rfl ?_ | refine JC.seq ?_ | refine JC.region ?_ | refine JL.nil ?_ | refine JE.next ?_)
  exact JC.ret (JE.aR rfl (RV.tmp rfl) fun w' hw=>⟨b',rfl,hw.weak (ax _ _)⟩)
end
section
set_option maxRecDepth 10000
namespace fI
open cY dy
def jN (k : Bk) : List UInt8:=k.map UInt8.ofBitVec
def AM (x : List UInt8) : Bk:=x.map UInt8.toBitVec
theorem zH (k : Bk) : AM (jN k)=k:=by simp [AM,jN,Function.comp_def]
theorem zI (x : List UInt8) : jN (AM x)=x:=by simp [AM,jN,Function.comp_def]
theorem um : ∀ (a b : Bk),eO a b=decide (jN a<jN b)
  | [],[]=>by simp [eO,jN]
  | [],_::_=>by simp [eO,jN]
  | _::_,[]=>by simp [eO,jN]
  | a::l,b::r=>by
    have ih:=um l r
    have e1 : jN (a::l)=UInt8.ofBitVec a::jN l:=rfl
    have e2 : jN (b::r)=UInt8.ofBitVec b::jN r:=rfl
    have h1 : (UInt8.ofBitVec a<UInt8.ofBitVec b)↔a.toNat<b.toNat:=Iff.rfl
    have h2 : (UInt8.ofBitVec a=UInt8.ofBitVec b)↔a.toNat=b.toNat:=⟨fun h=>by have:=congrArg UInt8.toBitVec h;simpa using congrArg BitVec.toNat this,fun h=>by rw [BitVec.eq_of_toNat_eq h]⟩
    rw [eO,e1,e2,ih]
    by_cases c1 : a.toNat<b.toNat
    · rw [if_pos c1]
      exact (decide_eq_true (List.cons_lt_cons_iff.2 (.inl (h1.2 c1)))).symm
    · rw [if_neg c1]
      by_cases c2 : b.toNat<a.toNat
      · rw [if_pos c2]
        refine (decide_eq_false fun h=>?_).symm
        rcases List.cons_lt_cons_iff.1 h with h | h
        · exact c1 (h1.1 h)
        · have:=h2.1 h.1;omega
      · rw [if_neg c2]
        refine decide_eq_decide.2 ⟨fun h=>List.cons_lt_cons_iff.2 (.inr ⟨h2.2 (by omega),h⟩),fun h=>?_⟩
        rcases List.cons_lt_cons_iff.1 h with h | h
        · exact absurd (h1.1 h) c1
        · exact h.2
theorem BG (a b : Bk) : decide (jN a≤jN b)=!eO b a:=by
  rw [um,← decide_not]
  exact decide_eq_decide.2 List.not_lt.symm
def cu (ks : List Bk) : List Bk:=((ks.map jN).mergeSort fun x y=>decide (x≤y)).map AM
theorem ot (ks : List Bk) : (cu ks).map jN=(ks.map jN).mergeSort fun x y=>decide (x≤y):=by
  unfold cu
  rw [List.map_map,show jN ∘ AM=id from funext zI,List.map_id]
theorem fZ (ks : List Bk) : (cu ks).Perm ks:=by
  unfold cu
  have h:=(List.mergeSort_perm (ks.map jN) fun x y=>decide (x≤y)).map AM
  rwa [List.map_map,show AM ∘ jN=id from funext zH,List.map_id] at h
theorem fD (ks : List Bk) : (cu ks).length=ks.length:=(fZ ks).length_eq
theorem jf (ks : List Bk) : (cu ks).Pairwise fun a b=>eO b a=false:=by
  have tr : ∀ a b c : List UInt8,decide (a≤b)=true→decide (b≤c)=true→decide (a≤c)=true:=fun a b c h1 h2=>by simp only [decide_eq_true_eq] at *;exact List.le_trans h1 h2
  have tto : ∀ a b : List UInt8,(decide (a≤b) || decide (b≤a))=true:=fun a b=>by simp only [Bool.or_eq_true,decide_eq_true_eq];exact List.le_total a b
  have h:=List.pairwise_mergeSort tr tto (ks.map jN)
  rw [← ot,List.pairwise_map] at h
  exact h.imp fun {a b} h=>by rw [BG] at h;simpa using h
theorem xF {ks ts : List Bk} (hp : ks.Perm ts) (ht : ts.Pairwise fun a b=>eO a b=true) : cu ks=ts:=by
  refine List.Perm.eq_of_pairwise (le:=fun a b=>eO b a=false) (fun a b _ _ h1 h2=>?_) (jf ks) (ht.imp fun h=>og h) ((fZ ks).trans hp)
  by_cases e : a=b
  · exact e
  · have:=iq a b e h2;rw [h1] at this;cases this
end fI
open Sl cY dy fI Go.Shelf Go.Sort
def vo : Ren:=⟨fun | 190=>99 | 125=>131 | 258=>130 | 128=>167 | 129=>168 | 302=>158 | 303=>159 | 304=>160 | 305=>161 | 306=>162 | 307=>163 | 308=>164 | 309=>165 | 310=>166 | 333=>192 | 329=>193 | 330=>194 | 334=>195 | 335=>196 | 336=>197 | 344=>206 | n=>n,
  fun | 31=>33 | 9=>9 | 3=>3 | 46=>132 | 0=>0 | 51=>156 | 53=>90 | 4=>4 | 183=>242 | 182=>241 | 131=>246 | 5=>5 | 218=>260 | 222=>264 | 228=>274 | 229=>275 | n=>n,
  fun n=>n⟩
theorem xG : Lays.n190 Tryz.prog vo:={
  mixed:=by kernel_rfl
  f125:=Tryz.func131.trans (congrArg some (by kernel_rfl))
  f128:=Tryz.func167.trans (congrArg some (by kernel_rfl))
  f129:=Tryz.func168.trans (congrArg some (by kernel_rfl))
  f190:=Tryz.func99.trans (congrArg some (by kernel_rfl))
  f258:=Tryz.func130.trans (congrArg some (by kernel_rfl))
  f302:=Tryz.func158.trans (congrArg some (by kernel_rfl))
  f303:=Tryz.func159.trans (congrArg some (by kernel_rfl))
  f304:=Tryz.func160.trans (congrArg some (by kernel_rfl))
  f305:=Tryz.func161.trans (congrArg some (by kernel_rfl))
  f306:=Tryz.func162.trans (congrArg some (by kernel_rfl))
  f307:=Tryz.func163.trans (congrArg some (by kernel_rfl))
  f308:=Tryz.func164.trans (congrArg some (by kernel_rfl))
  f309:=Tryz.func165.trans (congrArg some (by kernel_rfl))
  f310:=Tryz.func166.trans (congrArg some (by kernel_rfl))
  f329:=Tryz.func193.trans (congrArg some (by kernel_rfl))
  f330:=Tryz.func194.trans (congrArg some (by kernel_rfl))
  f333:=Tryz.func192.trans (congrArg some (by kernel_rfl))
  f334:=Tryz.func195.trans (congrArg some (by kernel_rfl))
  f335:=Tryz.func196.trans (congrArg some (by kernel_rfl))
  f336:=Tryz.func197.trans (congrArg some (by kernel_rfl))
  f344:=Tryz.func206.trans (congrArg some (by kernel_rfl))
  t0:=Tryz.underlying0
  a0:=Tryz.isAgg0
  z0:=Tryz.sizeOf0
  v0:=Tryz.zeroValue0
  t3:=Tryz.underlying3
  a3:=Tryz.isAgg3
  z3:=Tryz.sizeOf3
  v3:=Tryz.zeroValue3
  t4:=Tryz.underlying4
  a4:=Tryz.isAgg4
  z4:=Tryz.sizeOf4
  v4:=Tryz.zeroValue4
  t5:=Tryz.underlying5
  a5:=Tryz.isAgg5
  z5:=Tryz.sizeOf5
  v5:=Tryz.zeroValue5
  t9:=Tryz.underlying9
  a9:=Tryz.isAgg9
  z9:=Tryz.sizeOf9
  v9:=Tryz.zeroValue9
  t31:=Tryz.underlying33
  a31:=Tryz.isAgg33
  z31:=Tryz.sizeOf33
  v31:=Tryz.zeroValue33
  t46:=Tryz.underlying132
  a46:=Tryz.isAgg132
  z46:=Tryz.sizeOf132
  v46:=Tryz.zeroValue132
  t51:=Tryz.underlying156
  a51:=Tryz.isAgg156
  z51:=Tryz.sizeOf156
  v51:=Tryz.zeroValue156
  t53:=Tryz.underlying90
  a53:=Tryz.isAgg90
  z53:=Tryz.sizeOf90
  v53:=Tryz.zeroValue90
  t131:=Tryz.underlying246
  a131:=Tryz.isAgg246
  z131:=Tryz.sizeOf246
  v131:=Tryz.zeroValue246
  t182:=Tryz.underlying241
  a182:=Tryz.isAgg241
  z182:=Tryz.sizeOf241
  v182:=Tryz.zeroValue241
  t183:=Tryz.underlying242
  a183:=Tryz.isAgg242
  z183:=Tryz.sizeOf242
  v183:=Tryz.zeroValue242
  t218:=Tryz.underlying260
  a218:=Tryz.isAgg260
  z218:=Tryz.sizeOf260
  v218:=Tryz.zeroValue260
  t222:=Tryz.underlying264
  a222:=Tryz.isAgg264
  z222:=Tryz.sizeOf264
  v222:=Tryz.zeroValue264
  t228:=Tryz.underlying274
  a228:=Tryz.isAgg274
  z228:=Tryz.sizeOf274
  v228:=Tryz.zeroValue274
  t229:=Tryz.underlying275
  a229:=Tryz.isAgg275
  z229:=Tryz.sizeOf275
  v229:=Tryz.zeroValue275 }
theorem sO : aL Tryz.prog 99:=⟨_,Tryz.func99,rfl,by kernel_rfl⟩
theorem vp (q : Acc) (ks : List Bk) (hq : q=none→ks=[]) (hl : ks.length≤4294967296) (w : World) (hw : Sl.Holds w (keys (aa 9 q (ks.map Z))) (aa 9 q (ks.map Z)) w) :
    Calls Tryz.prog 99 [ah q ks.length].toArray w fun e w'=>e=.returned (.tuple #[])∧Sl.Holds w (keys (aa 9 q (ks.map Z))) (aa 9 q ((cu ks).map Z)) w':=by
  cases q with
  | none=>
    rw [hq rfl]
    exact (Any.slices_Sort_string_none xG none 0 w).mono fun e w' ⟨h1,h2⟩=>⟨h1,by rw [h2];exact Sl.Holds.start _ _⟩
  | some p=>
    obtain ⟨g,cap⟩:=p
    obtain ⟨o,ho,sp,rfl,h1,h2,h3⟩:=hw.get (b:=g) (A:=Sl.Own 9 1 (ks.map Z).length cap (ks.map Z)) (wr:=true) .here
    have e1 : (ks.map jN).map encStr=ks.map Z:=by rw [List.map_map];rfl
    have hH : Go.Sort.Holds encStr w g 0 (ks.map jN).toArray:=holds_of_block ho (by
      rw [e1,List.length_map,List.toList_toArray]
      exact List.take_left' (List.length_map _))
    have hlt : g<w.heap.size:=(Array.getElem?_eq_some_iff.1 ho).1
    have h:=Any.slices_Sort_string xG g 0 cap (ks.map jN) w hH hlt (by rw [List.length_map];omega)
    rw [List.length_map] at h
    refine h.mono fun e w' ⟨he,n,os,hw'⟩=>⟨he,?_⟩
    rw [← ot] at hw'
    subst hw'
    have e2 : ((cu ks).map jN).map encStr=(cu ks).map Z:=by rw [List.map_map];rfl
    have hsz : ((cu ks).map Z).length=(ks.map Z).length:=by rw [List.length_map,List.length_map,fD]
    refine ⟨⟨rfl,rfl,rfl,by simp [grow,putRow,mapBlock,Sort.ahead],fun k hk hS=>?_⟩,by simp [aa],fun x hx=>?_⟩
    · rw [heap_grow_old _ _ (by simpa using hk)]
      have : g≠k:=fun e=>hS (by simp [keys,aa,e])
      simp [putRow,mapBlock,Sort.ahead,Array.getElem?_modify,this]
    · have hx' : x=⟨g,Sl.Own 9 1 ((cu ks).map Z).length cap ((cu ks).map Z),true⟩:=List.mem_singleton.1 hx
      subst hx'
      refine ⟨⟨_,heap_sorted _ ho,?_⟩,fun _=>.inl (by simp [keys,aa])⟩
      have hk:=take_putCells (ks.map Z++sp).toArray ((cu ks).map jN) (by simp [fD])
      rw [e2,List.length_map,← List.length_map (f:=Z)] at hk
      have hcat:=List.take_append_drop ((cu ks).map Z).length (putCells encStr 0 ((cu ks).map jN).toArray (ks.map Z++sp).toArray).toList
      rw [hk] at hcat
      refine ⟨(putCells encStr 0 ((cu ks).map jN).toArray (ks.map Z++sp).toArray).toList.drop ((cu ks).map Z).length,?_,?_,by simp,by rw [hsz];exact h3⟩
      · rw [hcat,Array.toArray_toList]
      · rw [hcat]
        simp only [putCells,Array.length_toList,Array.size_mapIdx]
        simpa using h1
end
section
set_option maxRecDepth 10000
open Sl Go.Shelf
def xH : Ren:=⟨fun | 171=>63 | 243=>92 | 246=>124 | 283=>152 | 284=>153 | 285=>154 | 286=>155 | 129=>168 | 317=>188 | 318=>189 | 319=>190 | 320=>191 | 337=>204 | 338=>205 | n=>n,
  fun | 3=>3 | 9=>9 | 2=>2 | 4=>4 | 171=>232 | 0=>0 | 53=>90 | 37=>24 | 5=>5 | 173=>235 | 212=>258 | 51=>156 | 20=>20 | 213=>259 | 46=>132 | 232=>278 | 233=>140 | n=>n,
  fun | 17=>3 | 18=>6 | 19=>7 | n=>n⟩
theorem CS : LaysM.n171 Tryz.prog xH:={
  mixed:=by kernel_rfl
  f129:=Tryz.func168.trans (congrArg some (by kernel_rfl))
  f171:=Tryz.func63.trans (congrArg some (by kernel_rfl))
  f243:=Tryz.func92.trans (congrArg some (by kernel_rfl))
  f246:=Tryz.func124.trans (congrArg some (by kernel_rfl))
  f283:=Tryz.func152.trans (congrArg some (by kernel_rfl))
  f284:=Tryz.func153.trans (congrArg some (by kernel_rfl))
  f285:=Tryz.func154.trans (congrArg some (by kernel_rfl))
  f286:=Tryz.func155.trans (congrArg some (by kernel_rfl))
  f317:=Tryz.func188.trans (congrArg some (by kernel_rfl))
  f318:=Tryz.func189.trans (congrArg some (by kernel_rfl))
  f319:=Tryz.func190.trans (congrArg some (by kernel_rfl))
  f320:=Tryz.func191.trans (congrArg some (by kernel_rfl))
  f337:=Tryz.func204.trans (congrArg some (by kernel_rfl))
  f338:=Tryz.func205.trans (congrArg some (by kernel_rfl))
  t0:=Tryz.underlying0
  a0:=Tryz.isAgg0
  z0:=Tryz.sizeOf0
  v0:=Tryz.zeroValue0
  t2:=Tryz.underlying2
  a2:=Tryz.isAgg2
  z2:=Tryz.sizeOf2
  v2:=Tryz.zeroValue2
  t3:=Tryz.underlying3
  a3:=Tryz.isAgg3
  z3:=Tryz.sizeOf3
  v3:=Tryz.zeroValue3
  t4:=Tryz.underlying4
  a4:=Tryz.isAgg4
  z4:=Tryz.sizeOf4
  v4:=Tryz.zeroValue4
  t5:=Tryz.underlying5
  a5:=Tryz.isAgg5
  z5:=Tryz.sizeOf5
  v5:=Tryz.zeroValue5
  t9:=Tryz.underlying9
  a9:=Tryz.isAgg9
  z9:=Tryz.sizeOf9
  v9:=Tryz.zeroValue9
  t20:=Tryz.underlying20
  a20:=Tryz.isAgg20
  z20:=Tryz.sizeOf20
  v20:=Tryz.zeroValue20
  t37:=Tryz.underlying24
  a37:=Tryz.isAgg24
  z37:=Tryz.sizeOf24
  v37:=Tryz.zeroValue24
  t46:=Tryz.underlying132
  a46:=Tryz.isAgg132
  z46:=Tryz.sizeOf132
  v46:=Tryz.zeroValue132
  t51:=Tryz.underlying156
  a51:=Tryz.isAgg156
  z51:=Tryz.sizeOf156
  v51:=Tryz.zeroValue156
  t53:=Tryz.underlying90
  a53:=Tryz.isAgg90
  z53:=Tryz.sizeOf90
  v53:=Tryz.zeroValue90
  t171:=Tryz.underlying232
  a171:=Tryz.isAgg232
  z171:=Tryz.sizeOf232
  v171:=Tryz.zeroValue232
  t173:=Tryz.underlying235
  a173:=Tryz.isAgg235
  z173:=Tryz.sizeOf235
  v173:=Tryz.zeroValue235
  t212:=Tryz.underlying258
  a212:=Tryz.isAgg258
  z212:=Tryz.sizeOf258
  v212:=Tryz.zeroValue258
  t213:=Tryz.underlying259
  a213:=Tryz.isAgg259
  z213:=Tryz.sizeOf259
  t232:=Tryz.underlying278
  a232:=Tryz.isAgg278
  z232:=Tryz.sizeOf278
  v232:=Tryz.zeroValue278
  t233:=Tryz.underlying140
  a233:=Tryz.isAgg140
  z233:=Tryz.sizeOf140
  v233:=Tryz.zeroValue140
  g17:=by kernel_rfl
  g18:=by kernel_rfl
  g19:=by kernel_rfl
  i0:=by kernel_rfl
  i2:=by kernel_rfl
  i3:=by kernel_rfl
  i4:=by kernel_rfl
  i5:=by kernel_rfl
  i9:=by kernel_rfl
  i20:=by kernel_rfl
  i37:=by kernel_rfl
  i46:=by kernel_rfl
  i51:=by kernel_rfl
  i53:=by kernel_rfl
  i173:=by kernel_rfl
  m17:=by kernel_rfl
  m18:=by kernel_rfl
  m19:=by kernel_rfl
  i171:=by kernel_rfl
  i212:=by kernel_rfl
  i232:=by kernel_rfl
  i233:=by kernel_rfl }
def xI : Ren:=⟨fun | 172=>37 | 244=>67 | 245=>68 | 247=>100 | 279=>101 | 280=>102 | 281=>103 | 282=>104 | 287=>132 | 316=>133 | 171=>63 | 205=>134 | 321=>169 | 322=>170 | 243=>92 | 246=>124 | 283=>152 | 284=>153 | 285=>154 | 286=>155 | 129=>168 | 317=>188 | 318=>189 | 319=>190 | 320=>191 | 337=>204 | 338=>205 | n=>n,
  fun | 9=>9 | 3=>3 | 75=>87 | 76=>88 | 4=>4 | 5=>5 | 167=>173 | 37=>24 | 0=>0 | 85=>174 | 2=>2 | 168=>176 | 53=>90 | 175=>202 | 46=>132 | 210=>205 | 127=>199 | 145=>251 | 143=>249 | 21=>21 | 171=>232 | 173=>235 | 212=>258 | 51=>156 | 20=>20 | 213=>259 | 232=>278 | 233=>140 | 80=>171 | n=>n,
  fun | 15=>0 | 16=>1 | 17=>3 | 18=>6 | 19=>7 | n=>n⟩
theorem CT : LaysC.n172 Tryz.prog xI:={
  mixed:=by kernel_rfl
  f129:=Tryz.func168.trans (congrArg some (by kernel_rfl))
  f171:=Tryz.func63.trans (congrArg some (by kernel_rfl))
  f172:=Tryz.func37.trans (congrArg some (by kernel_rfl))
  f205:=Tryz.func134.trans (congrArg some (by kernel_rfl))
  f243:=Tryz.func92.trans (congrArg some (by kernel_rfl))
  f244:=Tryz.func67.trans (congrArg some (by kernel_rfl))
  f245:=Tryz.func68.trans (congrArg some (by kernel_rfl))
  f246:=Tryz.func124.trans (congrArg some (by kernel_rfl))
  f247:=Tryz.func100.trans (congrArg some (by kernel_rfl))
  f279:=Tryz.func101.trans (congrArg some (by kernel_rfl))
  f280:=Tryz.func102.trans (congrArg some (by kernel_rfl))
  f281:=Tryz.func103.trans (congrArg some (by kernel_rfl))
  f282:=Tryz.func104.trans (congrArg some (by kernel_rfl))
  f283:=Tryz.func152.trans (congrArg some (by kernel_rfl))
  f284:=Tryz.func153.trans (congrArg some (by kernel_rfl))
  f285:=Tryz.func154.trans (congrArg some (by kernel_rfl))
  f286:=Tryz.func155.trans (congrArg some (by kernel_rfl))
  f287:=Tryz.func132.trans (congrArg some (by kernel_rfl))
  f316:=Tryz.func133.trans (congrArg some (by kernel_rfl))
  f317:=Tryz.func188.trans (congrArg some (by kernel_rfl))
  f318:=Tryz.func189.trans (congrArg some (by kernel_rfl))
  f319:=Tryz.func190.trans (congrArg some (by kernel_rfl))
  f320:=Tryz.func191.trans (congrArg some (by kernel_rfl))
  f321:=Tryz.func169.trans (congrArg some (by kernel_rfl))
  f322:=Tryz.func170.trans (congrArg some (by kernel_rfl))
  f337:=Tryz.func204.trans (congrArg some (by kernel_rfl))
  f338:=Tryz.func205.trans (congrArg some (by kernel_rfl))
  t0:=Tryz.underlying0
  a0:=Tryz.isAgg0
  z0:=Tryz.sizeOf0
  v0:=Tryz.zeroValue0
  t2:=Tryz.underlying2
  a2:=Tryz.isAgg2
  z2:=Tryz.sizeOf2
  v2:=Tryz.zeroValue2
  t3:=Tryz.underlying3
  a3:=Tryz.isAgg3
  z3:=Tryz.sizeOf3
  v3:=Tryz.zeroValue3
  t4:=Tryz.underlying4
  a4:=Tryz.isAgg4
  z4:=Tryz.sizeOf4
  v4:=Tryz.zeroValue4
  t5:=Tryz.underlying5
  a5:=Tryz.isAgg5
  z5:=Tryz.sizeOf5
  v5:=Tryz.zeroValue5
  t9:=Tryz.underlying9
  a9:=Tryz.isAgg9
  z9:=Tryz.sizeOf9
  v9:=Tryz.zeroValue9
  t20:=Tryz.underlying20
  a20:=Tryz.isAgg20
  z20:=Tryz.sizeOf20
  v20:=Tryz.zeroValue20
  t21:=Tryz.underlying21
  a21:=Tryz.isAgg21
  z21:=Tryz.sizeOf21
  v21:=Tryz.zeroValue21
  t37:=Tryz.underlying24
  a37:=Tryz.isAgg24
  z37:=Tryz.sizeOf24
  v37:=Tryz.zeroValue24
  t46:=Tryz.underlying132
  a46:=Tryz.isAgg132
  z46:=Tryz.sizeOf132
  v46:=Tryz.zeroValue132
  t51:=Tryz.underlying156
  a51:=Tryz.isAgg156
  z51:=Tryz.sizeOf156
  v51:=Tryz.zeroValue156
  t53:=Tryz.underlying90
  a53:=Tryz.isAgg90
  z53:=Tryz.sizeOf90
  v53:=Tryz.zeroValue90
  t75:=Tryz.underlying87
  a75:=Tryz.isAgg87
  z75:=Tryz.sizeOf87
  v75:=Tryz.zeroValue87
  t76:=Tryz.underlying88
  a76:=Tryz.isAgg88
  z76:=Tryz.sizeOf88
  v76:=Tryz.zeroValue88
  t85:=Tryz.underlying174
  a85:=Tryz.isAgg174
  z85:=Tryz.sizeOf174
  v85:=Tryz.zeroValue174
  t127:=Tryz.underlying199
  a127:=Tryz.isAgg199
  z127:=Tryz.sizeOf199
  v127:=Tryz.zeroValue199
  t143:=Tryz.underlying249
  a143:=Tryz.isAgg249
  z143:=Tryz.sizeOf249
  v143:=Tryz.zeroValue249
  t145:=Tryz.underlying251
  a145:=Tryz.isAgg251
  z145:=Tryz.sizeOf251
  v145:=Tryz.zeroValue251
  t167:=Tryz.underlying173
  a167:=Tryz.isAgg173
  z167:=Tryz.sizeOf173
  v167:=Tryz.zeroValue173
  t168:=Tryz.underlying176
  a168:=Tryz.isAgg176
  z168:=Tryz.sizeOf176
  v168:=Tryz.zeroValue176
  t171:=Tryz.underlying232
  a171:=Tryz.isAgg232
  z171:=Tryz.sizeOf232
  v171:=Tryz.zeroValue232
  t173:=Tryz.underlying235
  a173:=Tryz.isAgg235
  z173:=Tryz.sizeOf235
  v173:=Tryz.zeroValue235
  t175:=Tryz.underlying202
  a175:=Tryz.isAgg202
  z175:=Tryz.sizeOf202
  v175:=Tryz.zeroValue202
  t210:=Tryz.underlying205
  a210:=Tryz.isAgg205
  z210:=Tryz.sizeOf205
  v210:=Tryz.zeroValue205
  t212:=Tryz.underlying258
  a212:=Tryz.isAgg258
  z212:=Tryz.sizeOf258
  v212:=Tryz.zeroValue258
  t213:=Tryz.underlying259
  a213:=Tryz.isAgg259
  z213:=Tryz.sizeOf259
  t232:=Tryz.underlying278
  a232:=Tryz.isAgg278
  z232:=Tryz.sizeOf278
  v232:=Tryz.zeroValue278
  t233:=Tryz.underlying140
  a233:=Tryz.isAgg140
  z233:=Tryz.sizeOf140
  v233:=Tryz.zeroValue140
  g15:=by kernel_rfl
  g16:=by kernel_rfl
  g17:=by kernel_rfl
  g18:=by kernel_rfl
  g19:=by kernel_rfl
  t80:=Tryz.underlying171
  a80:=Tryz.isAgg171
  z80:=Tryz.sizeOf171
  v80:=Tryz.zeroValue171
  i0:=by kernel_rfl
  i2:=by kernel_rfl
  i3:=by kernel_rfl
  i4:=by kernel_rfl
  i5:=by kernel_rfl
  i9:=by kernel_rfl
  i20:=by kernel_rfl
  i21:=by kernel_rfl
  i37:=by kernel_rfl
  i46:=by kernel_rfl
  i51:=by kernel_rfl
  i53:=by kernel_rfl
  i75:=by kernel_rfl
  i76:=by kernel_rfl
  i80:=by kernel_rfl
  i85:=by kernel_rfl
  i127:=by kernel_rfl
  i143:=by kernel_rfl
  i145:=by kernel_rfl
  i167:=by kernel_rfl
  i168:=by kernel_rfl
  i173:=by kernel_rfl
  i175:=by kernel_rfl
  m15:=by kernel_rfl
  m16:=by kernel_rfl
  m17:=by kernel_rfl
  m18:=by kernel_rfl
  m19:=by kernel_rfl
  c0:=by kernel_rfl
  c2:=by kernel_rfl
  c3:=by kernel_rfl
  c4:=by kernel_rfl
  c5:=by kernel_rfl
  c9:=by kernel_rfl
  c20:=by kernel_rfl
  c21:=by kernel_rfl
  c37:=by kernel_rfl
  c46:=by kernel_rfl
  c51:=by kernel_rfl
  c53:=by kernel_rfl
  c75:=by kernel_rfl
  c76:=by kernel_rfl
  c80:=by kernel_rfl
  c85:=by kernel_rfl
  c127:=by kernel_rfl
  c143:=by kernel_rfl
  c145:=by kernel_rfl
  c167:=by kernel_rfl
  c168:=by kernel_rfl
  c171:=by kernel_rfl
  c173:=by kernel_rfl
  c175:=by kernel_rfl
  c210:=by kernel_rfl
  c212:=by kernel_rfl
  c213:=by kernel_rfl
  c232:=by kernel_rfl
  c233:=by kernel_rfl
  i171:=by kernel_rfl
  i210:=by kernel_rfl
  i212:=by kernel_rfl
  i232:=by kernel_rfl
  i233:=by kernel_rfl }
def qQ : Ren:=⟨fun | 105=>64 | 212=>93 | 99=>94 | 165=>95 | 166=>96 | 170=>97 | 169=>98 | 263=>125 | 264=>126 | 206=>127 | 240=>128 | 241=>129 | 276=>156 | 277=>157 | n=>n,
  fun | 9=>9 | 3=>3 | 4=>4 | 20=>20 | 0=>0 | 46=>132 | 109=>164 | 5=>5 | 72=>168 | 76=>88 | 51=>156 | 146=>195 | 53=>90 | 148=>197 | 70=>166 | 37=>24 | 75=>87 | 127=>199 | 164=>237 | 80=>171 | n=>n,
  fun n=>n⟩
theorem CU : Lays.n105 Tryz.prog qQ:={
  mixed:=by kernel_rfl
  f99:=Tryz.func94.trans (congrArg some (by kernel_rfl))
  f105:=Tryz.func64.trans (congrArg some (by kernel_rfl))
  f165:=Tryz.func95.trans (congrArg some (by kernel_rfl))
  f166:=Tryz.func96.trans (congrArg some (by kernel_rfl))
  f169:=Tryz.func98.trans (congrArg some (by kernel_rfl))
  f170:=Tryz.func97.trans (congrArg some (by kernel_rfl))
  f206:=Tryz.func127.trans (congrArg some (by kernel_rfl))
  f212:=Tryz.func93.trans (congrArg some (by kernel_rfl))
  f240:=Tryz.func128.trans (congrArg some (by kernel_rfl))
  f241:=Tryz.func129.trans (congrArg some (by kernel_rfl))
  f263:=Tryz.func125.trans (congrArg some (by kernel_rfl))
  f264:=Tryz.func126.trans (congrArg some (by kernel_rfl))
  f276:=Tryz.func156.trans (congrArg some (by kernel_rfl))
  f277:=Tryz.func157.trans (congrArg some (by kernel_rfl))
  t0:=Tryz.underlying0
  a0:=Tryz.isAgg0
  z0:=Tryz.sizeOf0
  v0:=Tryz.zeroValue0
  t3:=Tryz.underlying3
  a3:=Tryz.isAgg3
  z3:=Tryz.sizeOf3
  v3:=Tryz.zeroValue3
  t4:=Tryz.underlying4
  a4:=Tryz.isAgg4
  z4:=Tryz.sizeOf4
  v4:=Tryz.zeroValue4
  t5:=Tryz.underlying5
  a5:=Tryz.isAgg5
  z5:=Tryz.sizeOf5
  v5:=Tryz.zeroValue5
  t9:=Tryz.underlying9
  a9:=Tryz.isAgg9
  z9:=Tryz.sizeOf9
  v9:=Tryz.zeroValue9
  t20:=Tryz.underlying20
  a20:=Tryz.isAgg20
  z20:=Tryz.sizeOf20
  v20:=Tryz.zeroValue20
  t37:=Tryz.underlying24
  a37:=Tryz.isAgg24
  z37:=Tryz.sizeOf24
  v37:=Tryz.zeroValue24
  t46:=Tryz.underlying132
  a46:=Tryz.isAgg132
  z46:=Tryz.sizeOf132
  v46:=Tryz.zeroValue132
  t51:=Tryz.underlying156
  a51:=Tryz.isAgg156
  z51:=Tryz.sizeOf156
  v51:=Tryz.zeroValue156
  t53:=Tryz.underlying90
  a53:=Tryz.isAgg90
  z53:=Tryz.sizeOf90
  v53:=Tryz.zeroValue90
  t70:=Tryz.underlying166
  a70:=Tryz.isAgg166
  z70:=Tryz.sizeOf166
  v70:=Tryz.zeroValue166
  t72:=Tryz.underlying168
  a72:=Tryz.isAgg168
  z72:=Tryz.sizeOf168
  v72:=Tryz.zeroValue168
  t75:=Tryz.underlying87
  a75:=Tryz.isAgg87
  z75:=Tryz.sizeOf87
  v75:=Tryz.zeroValue87
  t76:=Tryz.underlying88
  a76:=Tryz.isAgg88
  z76:=Tryz.sizeOf88
  v76:=Tryz.zeroValue88
  t109:=Tryz.underlying164
  a109:=Tryz.isAgg164
  z109:=Tryz.sizeOf164
  v109:=Tryz.zeroValue164
  t127:=Tryz.underlying199
  a127:=Tryz.isAgg199
  z127:=Tryz.sizeOf199
  v127:=Tryz.zeroValue199
  t146:=Tryz.underlying195
  a146:=Tryz.isAgg195
  z146:=Tryz.sizeOf195
  v146:=Tryz.zeroValue195
  t148:=Tryz.underlying197
  a148:=Tryz.isAgg197
  z148:=Tryz.sizeOf197
  v148:=Tryz.zeroValue197
  t164:=Tryz.underlying237
  a164:=Tryz.isAgg237
  z164:=Tryz.sizeOf237
  v164:=Tryz.zeroValue237 }
theorem CV : Builder.Extra Tryz.prog qQ:={
  sizeBuilder:=by kernel_rfl
  liesBuilder:=by kernel_rfl
  t5:=Tryz.underlying5
  a5:=Tryz.isAgg5
  z5:=Tryz.sizeOf5
  v5:=Tryz.zeroValue5
  infoByte:=by kernel_rfl
  cellsByte:=by kernel_rfl
  sizeByte:=by kernel_rfl
  neB5:=by decide }
end
section
namespace Bx
open fI dy cY
def ny (x : List UInt8) : Bk:=x.map UInt8.toBitVec
def dc (n : Int) : Bk:=ny (Go.Lib.itoa n)
def dW : Nat→Nat→List UInt8
  | 0,_=>[]
  | k+1,u=>dW k (u / 10)++[UInt8.ofNat (48+u % 10)]
theorem gZ : ∀ (k u : Nat),(dW k u).length=k
  | 0,_=>rfl
  | k+1,u=>by rw [dW,List.length_append,gZ k];rfl
theorem uo : ∀ (k : Nat),dW k 0=List.replicate k 48
  | 0=>rfl
  | k+1=>by rw [dW,Nat.zero_div,uo k,List.replicate_succ'];rfl
theorem xJ {k u : Nat} (h : u<10 ^ (k+1)) : List.replicate (k+1 - (Go.Lib.decDigits u).length) 48++Go.Lib.decDigits u=dW (k+1) u:=by
  induction k generalizing u with
  | zero=>
    have h' : u<10:=by simpa using h
    rw [Go.Lib.decDigits_one h',dW,dW]
    simp [Nat.mod_eq_of_lt h']
  | succ k ih=>
    by_cases h' : u<10
    · rw [Go.Lib.decDigits_one h',dW,Nat.div_eq_of_lt h',uo,Nat.mod_eq_of_lt h']
      rfl
    · have h2 : u / 10<10 ^ (k+1):=by rw [Nat.pow_succ] at h;omega
      have ih:=ih h2
      have e : Go.Lib.decDigits u=Go.Lib.decDigits (u / 10)++[UInt8.ofNat (48+u % 10)]:=by rw [Go.Lib.decDigits,dif_neg h']
      rw [e,List.length_append,List.length_singleton,Nat.add_sub_add_right,← List.append_assoc,ih]
      rfl
theorem iu {d : Nat} (h : d<10) : (UInt8.ofNat (48+d)).toNat=48+d:=by
  rw [UInt8.toNat_ofNat']
  omega
theorem mK : ∀ (l : List UInt8) (acc m d : Nat),Go.Lib.parseUint10 acc l=.ok m→d<10→m<1844674407370955161→Go.Lib.parseUint10 acc (l++[UInt8.ofNat (48+d)])=.ok (m * 10+d)
  | [],acc,m,d,h,hd,hm=>by
    simp only [Go.Lib.parseUint10,Go.Lib.NumEnd.ok.injEq] at h
    subst h
    have e:=iu hd
    simp only [List.nil_append,Go.Lib.parseUint10,e]
    rw [if_pos (by omega),if_neg (by omega),if_neg (by omega)]
    congr 1
    omega
  | c::l,acc,m,d,h,hd,hm=>by
    simp only [List.cons_append,Go.Lib.parseUint10] at h ⊢
    split at h
    · rename_i hc
      rw [if_pos hc]
      split at h
      · cases h
      · rename_i h1
        rw [if_neg h1]
        split at h
        · cases h
        · rename_i h2
          rw [if_neg h2]
          exact mK l _ m d h hd hm
    · cases h
theorem qR : ∀ (k u : Nat),k≤18→u<10 ^ k→Go.Lib.parseUint10 0 (dW k u)=.ok u
  | 0,u,_,h=>by
    have : u=0:=by simpa using h
    subst this;rfl
  | k+1,u,hk,h=>by
    have h2 : u / 10<10 ^ k:=by rw [Nat.pow_succ] at h;omega
    have h3 : (10 : Nat) ^ k≤10 ^ 17:=Nat.pow_le_pow_right (by decide) (by omega)
    have h4 : (10 : Nat) ^ 17=100000000000000000:=by decide
    rw [dW,mK _ 0 (u / 10) (u % 10) (qR k (u / 10) (by omega) h2) (Nat.mod_lt _ (by decide)) (by omega)]
    congr 1
    omega
theorem kC : ∀ (k u : Nat),∀ c ∈ dW k u,48≤c.toNat∧c.toNat≤57
  | 0,_,c,h=>by cases h
  | k+1,u,c,h=>by
    rw [dW] at h
    rcases List.mem_append.1 h with h | h
    · exact kC k _ c h
    · rw [List.mem_singleton] at h
      subst h
      rw [iu (Nat.mod_lt _ (by decide))]
      have:=Nat.mod_lt u (show 0<10 by decide)
      omega
theorem oV {u : Nat} (h : u<10 ^ 10) : Go.Lib.atoiAll (dW 10 u)=.ok (u : Int):=by
  have hl:=gZ 10 u
  have hp:=qR 10 u (by decide) h
  have hd:=kC 10 u
  generalize dW 10 u=l at hl hp hd
  match l,hl with
  | c::r,_=>
    have hc:=hd c (by simp)
    have h1 : ¬ (c.toNat=43∨c.toNat=45):=by omega
    have h2 : ¬ c.toNat=45:=by omega
    have e : Go.Lib.parseMag (c::r)=.ok u:=by rw [Go.Lib.parseMag,if_neg (by simp)];exact hp
    have h5 : (10 : Nat) ^ 10=10000000000:=by decide
    unfold Go.Lib.atoiAll
    simp only [if_neg h1,e]
    rw [if_neg (by omega),if_neg (fun hh=>h2 hh.1),if_neg h2]
theorem BH {u v : Nat} (hu : u<10 ^ 10) (hv : v<10 ^ 10) (h : dW 10 u=dW 10 v) : u=v:=by
  have h1:=oV hu
  rw [h,oV hv] at h1
  injection h1 with h1
  omega
def rG (u : Int) : Bk:=List.replicate (10 - (dc u).length) 48#8++dc u
def bg (f : Bk) (u : Int) : Bk:=[109#8,58#8]++f++[58#8]++List.replicate (10 - (dc u).length) 48#8++dc u
def bk (f : Bk) : Bk:=[109#8,58#8]++f++[58#8]
def cS (f : Bk) : Bk:=[110#8,58#8]++f
theorem ga (f : Bk) (u : Int) : bg f u=bk f++rG u:=by unfold bg bk rG;rw [List.append_assoc]
theorem gb (x : List UInt8) : (ny x).length=x.length:=List.length_map _
theorem jg (x y : List UInt8) : ny (x++y)=ny x++ny y:=List.map_append
theorem zJ {x y : List UInt8} (h : ny x=ny y) : x=y:=by
  have:=congrArg (List.map UInt8.ofBitVec) h
  unfold ny at this
  rw [List.map_map,List.map_map,show UInt8.ofBitVec ∘ UInt8.toBitVec=id from funext fun _=>rfl,List.map_id,List.map_id] at this
  exact this
theorem qS (u : Nat) : Go.Lib.itoa (u : Int)=Go.Lib.decDigits u:=by
  unfold Go.Lib.itoa
  rw [if_neg (by omega)]
  simp
theorem de {u : Nat} (h : u<10 ^ 10) : rG (u : Int)=ny (dW 10 u):=by
  unfold rG dc
  rw [qS,gb,← xJ (k:=9) h,jg]
  congr 1
  unfold ny
  rw [List.map_replicate]
  rfl
theorem fE : ∀ (u : Nat),∀ c ∈ Go.Lib.decDigits u,48≤c.toNat∧c.toNat≤57:=by
  intro u
  induction u using Nat.strongRecOn with
  | ind u ih=>
    intro c hc
    rw [Go.Lib.decDigits] at hc
    by_cases h : u<10
    · rw [dif_pos h,List.mem_singleton] at hc
      subst hc
      rw [iu h];omega
    · rw [dif_neg h] at hc
      rcases List.mem_append.1 hc with hc | hc
      · exact ih (u / 10) (by omega) c hc
      · rw [List.mem_singleton] at hc
        subst hc
        have:=Nat.mod_lt u (show 0<10 by decide)
        rw [iu this];omega
theorem sP (u : Int) : ∀ c ∈ dc u,c.toNat=45∨(48≤c.toNat∧c.toNat≤57):=by
  intro c hc
  unfold dc ny at hc
  obtain ⟨x,hx,rfl⟩:=List.mem_map.1 hc
  unfold Go.Lib.itoa at hx
  split at hx
  · rcases List.mem_cons.1 hx with rfl | hx
    · exact .inl rfl
    · exact .inr (fE _ x hx)
  · exact .inr (fE _ x hx)
theorem vq (u : Int) : ∀ c ∈ rG u,c.toNat=45∨(48≤c.toNat∧c.toNat≤57):=by
  intro c hc
  rcases List.mem_append.1 hc with hc | hc
  · rw [(List.mem_replicate.1 hc).2];exact .inr (by decide)
  · exact sP u c hc
theorem iw (u : Int) : 58#8 ∉ rG u:=fun h=>by have:=vq u _ h;revert this;decide
theorem zK {u : Int} {v : Nat} (hv : v<10 ^ 10) (h : rG u=rG (v : Int)) : u=(v : Int):=by
  have hl : (rG (v : Int)).length=10:=by rw [de hv,gb,gZ]
  by_cases hu : u<0
  · exfalso
    have hm : 45#8 ∈ rG u:=by
      refine List.mem_append_right _ ?_
      unfold dc Go.Lib.itoa ny
      rw [if_pos hu]
      exact List.mem_map_of_mem (f:=UInt8.toBitVec) (List.mem_cons_self (a:=(45 : UInt8)))
    rw [h,de hv] at hm
    obtain ⟨x,hx,e⟩:=List.mem_map.1 hm
    have:=kC 10 v x hx
    have e2 : x.toNat=45:=by show x.toBitVec.toNat=45;rw [e];rfl
    omega
  · obtain ⟨n,rfl⟩ : ∃ n : Nat,u=(n : Int):=⟨u.toNat,by omega⟩
    by_cases hn : n<10 ^ 10
    · rw [de hn,de hv] at h
      rw [BH hn hv (zJ h)]
    · exfalso
      have h1 : (dc (n : Int)).length=Go.Lib.nDigits n:=by unfold dc;rw [gb,qS,Go.Lib.decDigits_length]
      have h2:=Go.Lib.lt_pow_nDigits n
      have h3 : 10<Go.Lib.nDigits n:=by
        rcases Nat.lt_or_ge 10 (Go.Lib.nDigits n) with h | h
        · exact h
        · have:=Nat.pow_le_pow_right (n:=10) (by decide) h
          omega
      have h4 : 10<(rG (n : Int)).length:=by unfold rG;rw [List.length_append,h1];omega
      rw [h,hl] at h4
      omega
theorem mL {c : BitVec 8} : ∀ {a b d e : Bk},c ∉ d→c ∉ e→a++c::d=b++c::e→a=b∧d=e
  | [],[],d,e,_,_,h=>⟨rfl,by simpa using h⟩
  | [],x::b,d,e,hd,_,h=>by
    simp only [List.nil_append,List.cons_append,List.cons.injEq] at h
    exact absurd (h.2 ▸ by simp) hd
  | x::a,[],d,e,_,he,h=>by
    simp only [List.nil_append,List.cons_append,List.cons.injEq] at h
    exact absurd (h.2 ▸ by simp) he
  | x::a,y::b,d,e,hd,he,h=>by
    simp only [List.cons_append,List.cons.injEq] at h
    obtain ⟨h1,h2⟩:=mL hd he h.2
    exact ⟨by rw [h.1,h1],h2⟩
theorem hG (f : Bk) (u : Int) : bg f u=([109#8,58#8]++f)++58#8::rG u:=by rw [ga];unfold bk;simp
theorem mM {f g : Bk} {u : Int} {v : Nat} (hv : v<10 ^ 10) (h : bg f u=bg g (v : Int)) : f=g∧u=(v : Int):=by
  rw [hG,hG] at h
  obtain ⟨h1,h2⟩:=mL (iw u) (iw _) h
  exact ⟨List.append_cancel_left h1,zK hv h2⟩
theorem xK {f g : Bk} (h : cS f=cS g) : f=g:=List.append_cancel_left h
theorem uq (f g : Bk) (u : Int) : cS f≠bg g u:=fun h=>by
  rw [hG] at h
  unfold cS at h
  simp at h
theorem BI (f g : Bk) (u : Int) : bg g u≠cS f:=fun h=>uq f g u h.symm
theorem ou {f g : Bk} {u : Int} (hg : 58#8 ∉ g) : ((bg g u).take (bk f).length=bk f)↔f=g:=by
  constructor
  · intro h
    have e : bg g u=bk f++(bg g u).drop (bk f).length:=by
      conv=>lhs;rw [← List.take_append_drop (bk f).length (bg g u),h]
    have hc : (bg g u).count 58#8=2:=by
      rw [hG]
      simp only [List.count_append,List.count_cons,List.count_nil]
      rw [List.count_eq_zero.2 hg,List.count_eq_zero.2 (iw u)]
      decide
    have hr : 58#8 ∉ (bg g u).drop (bk f).length:=by
      intro hm
      have h1:=List.count_pos_iff.2 hm
      have h2 : (bg g u).count 58#8=(bk f).count 58#8+((bg g u).drop (bk f).length).count 58#8:=by
        conv=>lhs;rw [e,List.count_append]
      have h3 : 2≤(bk f).count 58#8:=by
        unfold bk
        simp only [List.count_append,List.count_cons,List.count_nil]
        simp
        try omega
      omega
    generalize (bg g u).drop (bk f).length=r at e hr
    rw [hG] at e
    have e' : ([109#8,58#8]++g)++58#8::rG u=([109#8,58#8]++f)++58#8::r:=by rw [e];unfold bk;simp
    obtain ⟨h1,_⟩:=mL (iw u) hr e'
    exact (List.append_cancel_left h1).symm
  · rintro rfl
    rw [ga,List.take_left']
    rfl
theorem BJ (f g : Bk) : ¬ ((cS g).take (bk f).length=bk f):=by
  unfold cS bk
  intro h
  simp at h
theorem xL (p a b : Bk) : eO (p++a) (p++b)=eO a b:=by
  induction p with
  | nil=>rfl
  | cons c p ih=>
    rw [List.cons_append,List.cons_append,eO,if_neg (Nat.lt_irrefl _),if_neg (Nat.lt_irrefl _),ih]
theorem qT : ∀ {a b : Bk} {c d : BitVec 8},a.length=b.length→eO (a++[c]) (b++[d])=(eO a b || (decide (a=b) && decide (c.toNat<d.toNat)))
  | [],[],c,d,_=>by
    by_cases h : c.toNat<d.toNat
    · simp [eO,h]
    · by_cases h2 : d.toNat<c.toNat <;> simp [eO,h,h2]
  | x::a,y::b,c,d,h=>by
    have h' : a.length=b.length:=by simpa using h
    have ih:=qT (c:=c) (d:=d) h'
    rw [List.cons_append,List.cons_append,eO,eO,ih]
    by_cases h1 : x.toNat<y.toNat
    · rw [if_pos h1,if_pos h1];rfl
    · rw [if_neg h1,if_neg h1]
      by_cases h2 : y.toNat<x.toNat
      · rw [if_pos h2,if_pos h2]
        have : ¬ x::a=y::b:=fun e=>by
          injection e with e1 e2
          rw [e1] at h2;omega
        simp [this]
      · rw [if_neg h2,if_neg h2]
        have e : x=y:=BitVec.eq_of_toNat_eq (by omega)
        simp [e]
theorem AN : ∀ (k u v : Nat),u<10 ^ k→v<10 ^ k→(u<v→eO (ny (dW k u)) (ny (dW k v))=true)∧(u / 10=v / 10→dW k (u / 10)=dW k (v / 10))
  | 0,u,v,hu,hv=>⟨fun h=>by simp at hu hv;omega,fun h=>by rw [h]⟩
  | k+1,u,v,hu,hv=>by
    refine ⟨fun h=>?_,fun h=>by rw [h]⟩
    have h2 : u / 10<10 ^ k:=by rw [Nat.pow_succ] at hu;omega
    have h3 : v / 10<10 ^ k:=by rw [Nat.pow_succ] at hv;omega
    rw [dW,dW,jg,jg]
    show eO (_++[_]) (_++[_])=true
    rw [qT (by rw [gb,gb,gZ,gZ])]
    by_cases hq : u / 10<v / 10
    · rw [(AN k _ _ h2 h3).1 hq];rfl
    · have hq' : u / 10=v / 10:=by omega
      have m1:=Nat.mod_lt u (show 0<10 by decide)
      have m2:=Nat.mod_lt v (show 0<10 by decide)
      have e1:=iu m1
      have e2:=iu m2
      rw [hq']
      have : (UInt8.ofNat (48+u % 10)).toBitVec.toNat<(UInt8.ofNat (48+v % 10)).toBitVec.toNat:=by
        show (UInt8.ofNat (48+u % 10)).toNat<(UInt8.ofNat (48+v % 10)).toNat
        rw [e1,e2];omega
      rw [decide_eq_true this]
      simp
theorem zL {f : Bk} {u v : Nat} (hu : u<10 ^ 10) (hv : v<10 ^ 10) (h : u<v) : eO (bg f (u : Int)) (bg f (v : Int))=true:=by
  rw [ga,ga,xL,de hu,de hv]
  exact (AN 10 u v hu hv).1 h
theorem BK {a b : List Bk} (ha : a.Pairwise fun x y=>eO x y=true) (hb : b.Pairwise fun x y=>eO x y=true) (h : ∀ x,x ∈ a↔x ∈ b) : a=b:=by
  have na : a.Nodup:=ha.imp fun h=>mB h
  have nb : b.Nodup:=hb.imp fun h=>mB h
  exact List.Perm.eq_of_pairwise (le:=fun x y=>eO x y=true) (fun x y _ _ h1 h2=>by rw [og h1] at h2;cases h2) ha hb ((List.perm_ext_iff_of_nodup na nb).2 h)
end Bx
end
section
namespace Bx
open fI dy cY
structure Ml where
  f : Bk
  u : Nat
  fl : Nat
  b : Bk
structure Rb where
  ms : List Ml
  nx : List (Bk × Nat)
def Rb.next? (R : Rb) (f : Bk) : Option Nat:=(R.nx.find? fun x=>decide (x.1=f)).map Prod.snd
def Rb.next (R : Rb) (f : Bk) : Nat:=(R.next? f).getD 1
def Rb.find (R : Rb) (f : Bk) (u : Int) : Option Ml:=R.ms.find? fun m=>decide (m.f=f) && decide ((m.u : Int)=u)
def Rb.list (R : Rb) (f : Bk) : List Nat:=(R.ms.filter fun m=>decide (m.f=f)).map Ml.u
def yH (n : Nat) : Bool:=(decide ((97 : Int)≤(n : Int)) && decide ((n : Int)≤122)) || ((decide ((65 : Int)≤(n : Int)) && decide ((n : Int)≤90)) || ((decide ((48 : Int)≤(n : Int)) && decide ((n : Int)≤57)) || (decide ((n : Int)=45) || decide ((n : Int)=46))))
def okF (f : Bk) : Bool:=(f.all fun c=>yH c.toNat) && decide (1≤f.length) && decide (f.length≤40)
theorem ur {f : Bk} (h : okF f=true) : 58#8 ∉ f:=fun hm=>by
  unfold okF at h
  rw [Bool.and_eq_true,Bool.and_eq_true,List.all_eq_true] at h
  have:=h.1.1 _ hm
  revert this
  decide
theorem oW {f : Bk} (h : okF f=true) : 1≤f.length∧f.length≤40:=by
  unfold okF at h
  simp only [Bool.and_eq_true,decide_eq_true_eq] at h
  exact ⟨h.1.2,h.2⟩
def Ml.v (m : Ml) : Bk:=BitVec.ofNat 8 m.fl::m.b
def nV (n : Nat) : Bk:=dY (BitVec.ofNat 64 n) 8
def hit (R : Rb) (f : Bk) : Bk × Nat→Bk × Nat:=fun x=>if x.1=f then (x.1,x.2+1) else x
def Rb.aD (R : Rb) (f b : Bk) : Rb:=
  ⟨R.ms++[⟨f,R.next f,0,b⟩],if (R.next? f).isSome then R.nx.map (hit R f) else R.nx++[(f,2)]⟩
def iJ (f : Bk) (u : Int) (fl : Nat) : Ml→Ml:=fun m=>if m.f=f∧(m.u : Int)=u then ⟨m.f,m.u,fl,m.b⟩ else m
def Rb.mark (R : Rb) (f : Bk) (u : Int) (fl : Nat) : Rb:=⟨R.ms.map (iJ f u fl),R.nx⟩
def goes (f : Bk) (m : Ml) : Bool:=decide (m.f=f) && decide (m.fl / 4 % 2=1)
def Rb.aX (R : Rb) (f : Bk) : Rb:=⟨R.ms.filter fun m=>!goes f m,R.nx⟩
structure Rb.ok (R : Rb) (n : Nat) : Prop where
  le : n≤1000000
  fold : ∀ m ∈ R.ms,okF m.f=true
  low : ∀ m ∈ R.ms,1≤m.u∧m.u<R.next m.f
  fl : ∀ m ∈ R.ms,m.fl<16
  Ch : ∀ x ∈ R.nx,okF x.1=true∧1≤x.2∧x.2≤n+1
  names : (R.nx.map Prod.fst).Nodup
  oX : R.ms.Pairwise fun a b=>a.f=b.f→a.u<b.u
structure Bv (vs : VL) (R : Rb) : Prop where
  mN : ji vs
  next : ∀ f,fh vs (cS f)=(R.next? f).map nV
  xM : ∀ f u,fh vs (bg f u)=(R.find f u).map Ml.v
  keys : ∀ p ∈ vs,(∃ x ∈ R.nx,p.1=cS x.1)∨∃ m ∈ R.ms,p.1=bg m.f (m.u : Int)
def Rb.zero : Rb:=⟨[],[]⟩
theorem zM : Rb.zero.ok 0:=⟨by decide,by simp [Rb.zero],by simp [Rb.zero],by simp [Rb.zero],by simp [Rb.zero],by simp [Rb.zero],by simp [Rb.zero]⟩
theorem zN : Bv [] Rb.zero:=⟨List.Pairwise.nil,fun _=>rfl,fun _ _=>rfl,by simp⟩
theorem Rb.iy {R : Rb} {n : Nat} (k : R.ok n) (f : Bk) : 1≤R.next f∧R.next f≤n+1:=by
  unfold Rb.next Rb.next?
  cases h : R.nx.find? fun x=>decide (x.1=f) with
  | none=>simp
  | some x=>
    have:=k.Ch x (List.mem_of_find?_eq_some h)
    simpa using this.2
theorem Rb.ok.mO {R : Rb} {n : Nat} (k : R.ok n) {m : Ml} (h : m ∈ R.ms) : m.u<10 ^ 10:=by
  have h1:=k.low m h
  have h2:=R.iy k m.f
  have:=k.le
  omega
theorem dm {R : Rb} {f : Bk} {u : Int} {m : Ml} (h : R.find f u=some m) : m ∈ R.ms∧m.f=f∧(m.u : Int)=u:=by
  have h1:=List.find?_some h
  simp only [Bool.and_eq_true,decide_eq_true_eq] at h1
  exact ⟨List.mem_of_find?_eq_some h,h1.1,h1.2⟩
theorem fF {vs : VL} (h : ji vs) (k v k' : Bk) : fh (fB k v vs) k'=if k'=k then some v else fh vs k':=by
  have h1:=fC (k:=k) (v:=v) h
  have hp:=ki (k:=k) (v:=v) h
  apply Option.ext
  intro x
  rw [di h1.keys,hp.mem_iff,List.mem_cons,List.mem_filter]
  by_cases e : k'=k
  · subst e
    rw [if_pos rfl]
    simp [eq_comm]
  · rw [if_neg e,di h.keys]
    simp [e]
theorem xN {vs : VL} (h : ji vs) (k k' : Bk) : fh (kg k vs) k'=if k'=k then none else fh vs k':=by
  apply Option.ext
  intro x
  rw [di (mC h).keys,gS h,List.mem_filter]
  by_cases e : k'=k
  · subst e
    simp
  · rw [if_neg e,di h.keys]
    simp [e]
theorem mP {vs : VL} (h : ji vs) {k v : Bk} {p : Bk × Bk} (hp : p ∈ fB k v vs) : p.1=k∨p ∈ vs:=by
  rcases jI hp with rfl | h
  · exact .inl rfl
  · exact .inr h
theorem jO (R : Rb) (f b g : Bk) : (R.aD f b).next? g=if g=f then some (R.next f+1) else R.next? g:=by
  unfold Rb.aD
  by_cases hk : (R.next? f).isSome=true
  · rw [if_pos hk]
    unfold Rb.next? at hk ⊢
    dsimp only
    rw [List.find?_map]
    have e : ((fun x : Bk × Nat=>decide (x.1=g)) ∘ hit R f)=fun x=>decide (x.1=g):=by
      funext x
      simp only [Function.comp,hit]
      split <;> rfl
    rw [e,Option.map_map]
    by_cases hg : g=f
    · subst hg
      rw [if_pos rfl]
      unfold Rb.next Rb.next?
      cases h : R.nx.find? fun x=>decide (x.1=g) with
      | none=>rw [h] at hk;cases hk
      | some x=>
        have:=List.find?_some h
        simp only [decide_eq_true_eq] at this
        simp [hit,this]
    · rw [if_neg hg]
      cases h : R.nx.find? fun x=>decide (x.1=g) with
      | none=>rfl
      | some x=>
        have:=List.find?_some h
        simp only [decide_eq_true_eq] at this
        have h2 : ¬ x.1=f:=fun e=>hg (this.symm.trans e)
        simp [hit,h2]
  · rw [if_neg hk]
    have hn : R.next? f=none:=by cases h : R.next? f with | none=>rfl | some x=>rw [h] at hk;exact absurd rfl hk
    unfold Rb.next
    rw [hn]
    unfold Rb.next? at hn ⊢
    dsimp only
    rw [List.find?_append]
    by_cases hg : g=f
    · subst hg
      rw [if_pos rfl]
      cases h : R.nx.find? fun x=>decide (x.1=g) with
      | none=>simp
      | some x=>rw [h] at hn;cases hn
    · rw [if_neg hg]
      cases h : R.nx.find? fun x=>decide (x.1=g) with
      | none=>simp [Ne.symm hg,fun e=>hg (Eq.symm e)]
      | some x=>rfl
theorem oY {R : Rb} {n : Nat} (k : R.ok n) (f b g : Bk) (u : Int) : (R.aD f b).find g u=if g=f∧u=(R.next f : Int) then some ⟨f,R.next f,0,b⟩ else R.find g u:=by
  unfold Rb.aD Rb.find
  dsimp only
  rw [List.find?_append]
  by_cases h : g=f∧u=(R.next f : Int)
  · rw [if_pos h]
    obtain ⟨rfl,rfl⟩:=h
    cases h : R.ms.find? fun m=>decide (m.f=g) && decide ((m.u : Int)=(R.next g : Int)) with
    | none=>simp
    | some m=>
      have h1:=List.find?_some h
      simp only [Bool.and_eq_true,decide_eq_true_eq] at h1
      have:=(k.low m (List.mem_of_find?_eq_some h)).2
      rw [h1.1] at this
      omega
  · rw [if_neg h]
    cases R.ms.find? fun m=>decide (m.f=g) && decide ((m.u : Int)=u) with
    | some m=>rfl
    | none=>
      have : ¬ (f=g∧(R.next f : Int)=u):=fun e=>h ⟨e.1.symm,e.2.symm⟩
      simp only [Option.none_or,List.find?_cons,List.find?_nil]
      rw [show (decide (f=g) && decide ((R.next f : Int)=u))=false by rw [← Bool.decide_and];exact decide_eq_false this]
theorem sQ {R : Rb} {n : Nat} (k : R.ok n) (hn : n+1≤1000000) {f : Bk} (hf : okF f=true) (b : Bk) : (R.aD f b).ok (n+1):=by
  have hnx : ∀ g,(R.aD f b).next g=if g=f then R.next f+1 else R.next g:=fun g=>by
    unfold Rb.next
    rw [jO]
    split <;> rfl
  have hb:=R.iy k f
  refine ⟨hn,?_,?_,?_,?_,?_,?_⟩
  · intro m hm
    rcases List.mem_append.1 hm with hm | hm
    · exact k.fold m hm
    · rw [List.mem_singleton] at hm;subst hm;exact hf
  · intro m hm
    rw [hnx]
    rcases List.mem_append.1 hm with hm | hm
    · have:=k.low m hm
      split
      · next e=>rw [e] at this;omega
      · exact this
    · rw [List.mem_singleton] at hm
      subst hm
      rw [if_pos rfl]
      dsimp only
      omega
  · intro m hm
    rcases List.mem_append.1 hm with hm | hm
    · exact k.fl m hm
    · rw [List.mem_singleton] at hm;subst hm;exact (by decide : 0<16)
  · intro x hx
    unfold Rb.aD at hx
    dsimp only at hx
    split at hx
    · obtain ⟨y,hy,rfl⟩:=List.mem_map.1 hx
      have:=k.Ch y hy
      unfold hit
      split
      · exact ⟨this.1,by dsimp only;omega,by dsimp only;omega⟩
      · exact ⟨this.1,this.2.1,by omega⟩
    · rcases List.mem_append.1 hx with hx | hx
      · have:=k.Ch x hx
        exact ⟨this.1,this.2.1,by omega⟩
      · rw [List.mem_singleton] at hx;subst hx;exact ⟨hf,(by decide : 1≤2),by show 2≤n+1+1;omega⟩
  · unfold Rb.aD
    dsimp only
    split
    · rw [List.map_map,show Prod.fst ∘ hit R f=Prod.fst from funext fun x=>by simp only [Function.comp,hit];split <;> rfl]
      exact k.names
    · next hk=>
      rw [List.map_append,List.nodup_append]
      refine ⟨k.names,by simp,fun a ha b hb=>?_⟩
      simp only [List.map_cons,List.map_nil,List.mem_singleton] at hb
      subst hb
      rintro rfl
      obtain ⟨x,hx,e⟩:=List.mem_map.1 ha
      refine hk ?_
      unfold Rb.next?
      rw [Option.isSome_map]
      exact List.find?_isSome.2 ⟨x,hx,decide_eq_true e⟩
  · unfold Rb.aD
    dsimp only
    rw [List.pairwise_append]
    refine ⟨k.oX,List.pairwise_singleton _ _,fun a ha b hb=>?_⟩
    rw [List.mem_singleton] at hb
    subst hb
    intro e
    have:=(k.low a ha).2
    dsimp only at e ⊢
    rw [e] at this
    exact this
theorem sR {R : Rb} {n : Nat} (k : R.ok n) {vs : VL} (hb : Bv vs R) (f b : Bk) :
    Bv (cy vs [⟨bg f (R.next f : Int),0#8::b,false⟩,⟨cS f,nV (R.next f+1),false⟩]) (R.aD f b):=by
  have e : cy vs [⟨bg f (R.next f : Int),0#8::b,false⟩,⟨cS f,nV (R.next f+1),false⟩]=fB (cS f) (nV (R.next f+1)) (fB (bg f (R.next f : Int)) (0#8::b) vs):=rfl
  have s1:=fC (k:=bg f (R.next f : Int)) (v:=0#8::b) hb.mN
  have hl : R.next f<10 ^ 10:=by have:=R.iy k f;have:=k.le;omega
  rw [e]
  refine ⟨fC s1,fun g=>?_,fun g u=>?_,fun p hp=>?_⟩
  · rw [fF s1,fF hb.mN,jO]
    by_cases h : g=f
    · subst h;rw [if_pos rfl,if_pos rfl];rfl
    · rw [if_neg fun e=>h (xK e),if_neg (uq _ _ _),if_neg h,hb.next]
  · rw [fF s1,if_neg (BI _ _ _),fF hb.mN,oY k]
    by_cases h : g=f∧u=(R.next f : Int)
    · obtain ⟨rfl,rfl⟩:=h
      rw [if_pos rfl,if_pos ⟨rfl,rfl⟩];rfl
    · rw [if_neg fun e=>h (mM hl e),if_neg h,hb.xM]
  · have hnx : ∀ x ∈ R.nx,∃ y ∈ (R.aD f b).nx,y.1=x.1:=fun x hx=>by
      unfold Rb.aD
      dsimp only
      split
      · exact ⟨hit R f x,List.mem_map_of_mem hx,by unfold hit;split <;> rfl⟩
      · exact ⟨x,List.mem_append_left _ hx,rfl⟩
    rcases mP s1 hp with h | h
    · left
      unfold Rb.aD
      dsimp only
      split
      · next hk=>
        unfold Rb.next? at hk
        rw [Option.isSome_map,List.find?_isSome] at hk
        obtain ⟨x,hx,hd⟩:=hk
        rw [decide_eq_true_eq] at hd
        refine ⟨hit R f x,List.mem_map_of_mem hx,?_⟩
        rw [h,show (hit R f x).1=x.1 by unfold hit;split <;> rfl,hd]
      · exact ⟨(f,2),by simp,h⟩
    · rcases mP hb.mN h with h | h
      · exact .inr ⟨⟨f,R.next f,0,b⟩,List.mem_append_right _ (by simp),h⟩
      · rcases hb.keys p h with ⟨x,hx,e⟩ | ⟨m,hm,e⟩
        · obtain ⟨y,hy,e2⟩:=hnx x hx
          exact .inl ⟨y,hy,by rw [e,e2]⟩
        · exact .inr ⟨m,List.mem_append_left _ hm,e⟩
theorem dn (f : Bk) (u : Int) (fl : Nat) (m : Ml) : (iJ f u fl m).f=m.f∧(iJ f u fl m).u=m.u∧(iJ f u fl m).b=m.b:=by unfold iJ;split <;> exact ⟨rfl,rfl,rfl⟩
theorem vr (R : Rb) (f : Bk) (u : Int) (fl : Nat) (g : Bk) (v : Int) : (R.mark f u fl).find g v=if g=f∧v=u then (R.find g v).map fun m=>⟨m.f,m.u,fl,m.b⟩ else R.find g v:=by
  unfold Rb.mark Rb.find
  dsimp only
  rw [List.find?_map]
  have e : ((fun m : Ml=>decide (m.f=g) && decide ((m.u : Int)=v)) ∘ iJ f u fl)=fun m=>decide (m.f=g) && decide ((m.u : Int)=v):=by
    funext m
    simp only [Function.comp,(dn f u fl m).1,(dn f u fl m).2.1]
  rw [e]
  cases h : R.ms.find? fun m=>decide (m.f=g) && decide ((m.u : Int)=v) with
  | none=>simp
  | some m=>
    have h1:=List.find?_some h
    simp only [Bool.and_eq_true,decide_eq_true_eq] at h1
    by_cases hh : g=f∧v=u
    · rw [if_pos hh]
      simp only [Option.map_some]
      unfold iJ
      rw [if_pos ⟨h1.1.trans hh.1,h1.2.trans hh.2⟩]
    · rw [if_neg hh]
      simp only [Option.map_some]
      unfold iJ
      rw [if_neg fun e=>hh ⟨h1.1.symm.trans e.1,h1.2.symm.trans e.2⟩]
theorem zO {R : Rb} {n : Nat} (k : R.ok n) (f : Bk) (u : Int) {fl : Nat} (hf : fl<16) : (R.mark f u fl).ok n:=by
  have hn : ∀ g,(R.mark f u fl).next g=R.next g:=fun _=>rfl
  refine ⟨k.le,?_,?_,?_,k.Ch,k.names,?_⟩
  · intro m hm
    obtain ⟨m',hm',rfl⟩:=List.mem_map.1 hm
    rw [(dn f u fl m').1];exact k.fold m' hm'
  · intro m hm
    obtain ⟨m',hm',rfl⟩:=List.mem_map.1 hm
    rw [(dn f u fl m').1,(dn f u fl m').2.1,hn];exact k.low m' hm'
  · intro m hm
    obtain ⟨m',hm',rfl⟩:=List.mem_map.1 hm
    unfold iJ
    split
    · exact hf
    · exact k.fl m' hm'
  · unfold Rb.mark
    dsimp only
    rw [List.pairwise_map]
    refine k.oX.imp fun {a b} h=>?_
    rw [(dn f u fl a).1,(dn f u fl b).1,(dn f u fl a).2.1,(dn f u fl b).2.1]
    exact h
theorem zP {R : Rb} {n : Nat} (k : R.ok n) {vs : VL} (hb : Bv vs R) {f : Bk} {u : Int} {fl : Nat} {m : Ml} (hm : R.find f u=some m) :
    Bv (cy vs [⟨bg f u,BitVec.ofNat 8 fl::m.b,false⟩]) (R.mark f u fl):=by
  have e : cy vs [⟨bg f u,BitVec.ofNat 8 fl::m.b,false⟩]=fB (bg f u) (BitVec.ofNat 8 fl::m.b) vs:=rfl
  obtain ⟨hmm,hmf,hmu⟩:=dm hm
  have hl:=k.mO hmm
  rw [e]
  refine ⟨fC hb.mN,fun g=>?_,fun g v=>?_,fun p hp=>?_⟩
  · rw [fF hb.mN,if_neg (uq _ _ _),hb.next];rfl
  · rw [fF hb.mN,vr]
    by_cases h : g=f∧v=u
    · obtain ⟨rfl,rfl⟩:=h
      rw [if_pos rfl,if_pos ⟨rfl,rfl⟩,hm];rfl
    · rw [if_neg fun e=>h (by rw [← hmu] at e ⊢;exact mM hl e),if_neg h,hb.xM]
  · rcases mP hb.mN hp with h | h
    · exact .inr ⟨iJ f u fl m,List.mem_map_of_mem hmm,by rw [h,(dn f u fl m).1,(dn f u fl m).2.1,hmf,hmu]⟩
    · rcases hb.keys p h with h | ⟨m2,h2,e⟩
      · exact .inl h
      · exact .inr ⟨iJ f u fl m2,List.mem_map_of_mem h2,by rw [e,(dn f u fl m2).1,(dn f u fl m2).2.1]⟩
theorem xO {R : Rb} {n : Nat} (k : R.ok n) (f g : Bk) (u : Int) : (R.aX f).find g u=(R.find g u).filter fun m=>!goes f m:=by
  obtain ⟨ms,nx⟩:=R
  have kr:=k.oX
  clear k
  unfold Rb.aX Rb.find
  dsimp only at kr ⊢
  induction ms with
  | nil=>rfl
  | cons m ms ih=>
    obtain ⟨h1,h2⟩:=List.pairwise_cons.1 kr
    have ih:=ih h2
    rw [List.find?_cons]
    by_cases hp : (decide (m.f=g) && decide ((m.u : Int)=u))=true
    · rw [hp]
      by_cases hg : goes f m=true
      · rw [List.filter_cons_of_neg (by simp [hg])]
        rw [ih]
        have hn : (ms.find? fun m=>decide (m.f=g) && decide ((m.u : Int)=u))=none:=by
          rw [List.find?_eq_none]
          intro x hx hq
          simp only [Bool.and_eq_true,decide_eq_true_eq] at hp hq
          have:=h1 x hx (hp.1.trans hq.1.symm)
          omega
        rw [hn]
        simp [hg,Option.filter]
      · rw [List.filter_cons_of_pos (by simp [hg]),List.find?_cons,hp]
        simp [hg,Option.filter]
    · have hp' : (decide (m.f=g) && decide ((m.u : Int)=u))=false:=by simpa using hp
      rw [hp']
      by_cases hg : goes f m=true
      · rw [List.filter_cons_of_neg (by simp [hg]),ih]
      · rw [List.filter_cons_of_pos (by simp [hg]),List.find?_cons,hp',ih]
theorem sS {R : Rb} {n : Nat} (k : R.ok n) (f : Bk) : (R.aX f).ok n:=by
  have hs : ∀ m ∈ (R.aX f).ms,m ∈ R.ms:=fun m hm=>(List.mem_filter.1 hm).1
  exact ⟨k.le,fun m hm=>k.fold m (hs m hm),fun m hm=>k.low m (hs m hm),fun m hm=>k.fl m (hs m hm),k.Ch,k.names,k.oX.filter _⟩
def gz (R : Rb) (f : Bk) : List Pq:=(R.ms.filter (goes f)).map fun m=>⟨bg f (m.u : Int),[],true⟩
theorem fG : ∀ (ks : List Bk) {vs : VL} (_ : ji vs) (k' : Bk),ji (cy vs (ks.map fun k=>⟨k,[],true⟩))∧fh (cy vs (ks.map fun k=>⟨k,[],true⟩)) k'=if k' ∈ ks then none else fh vs k'
  | [],vs,h,k'=>by simpa using ⟨h,rfl⟩
  | k::ks,vs,h,k'=>by
    have ih:=fG ks (mC (k:=k) h) k'
    have e : cy vs ((k::ks).map fun k=>(⟨k,[],true⟩ : Pq))=cy (kg k vs) (ks.map fun k=>⟨k,[],true⟩):=rfl
    rw [e]
    refine ⟨ih.1,ih.2.trans ?_⟩
    rw [xN h]
    by_cases h1 : k' ∈ ks
    · rw [if_pos h1,if_pos (List.mem_cons_of_mem _ h1)]
    · rw [if_neg h1]
      by_cases h2 : k'=k
      · rw [if_pos h2,if_pos (by simp [h2])]
      · rw [if_neg h2,if_neg (by simp [h1,h2])]
theorem qU : ∀ (ks : List Bk) (vs : VL),∀ p ∈ cy vs (ks.map fun k=>(⟨k,[],true⟩ : Pq)),p ∈ vs
  | [],_,_,h=>h
  | k::ks,vs,p,h=>(jJ k vs).subset (qU ks (kg k vs) p h)
theorem sU {R : Rb} {n : Nat} (k : R.ok n) {vs : VL} (hb : Bv vs R) (f : Bk) : Bv (cy vs (gz R f)) (R.aX f):=by
  have e : gz R f=((R.ms.filter (goes f)).map fun m=>bg f (m.u : Int)).map fun k=>⟨k,[],true⟩:=by unfold gz;rw [List.map_map];rfl
  generalize hks : ((R.ms.filter (goes f)).map fun m=>bg f (m.u : Int))=ks at e
  have hmem : ∀ x,x ∈ ks↔∃ m ∈ R.ms,goes f m=true∧x=bg f (m.u : Int):=fun x=>by
    rw [← hks,List.mem_map]
    constructor
    · rintro ⟨m,hm,rfl⟩
      exact ⟨m,(List.mem_filter.1 hm).1,(List.mem_filter.1 hm).2,rfl⟩
    · rintro ⟨m,h1,h2,rfl⟩
      exact ⟨m,List.mem_filter.2 ⟨h1,h2⟩,rfl⟩
  have hgf : ∀ m,goes f m=true→m.f=f:=fun m h=>by unfold goes at h;simp only [Bool.and_eq_true,decide_eq_true_eq] at h;exact h.1
  have hmail : ∀ g u,fh (cy vs (ks.map fun k=>(⟨k,[],true⟩ : Pq))) (bg g u)=((R.aX f).find g u).map Ml.v:=fun g u=>by
    rw [(fG ks hb.mN _).2,xO k,hb.xM]
    by_cases h : bg g u ∈ ks
    · rw [if_pos h]
      obtain ⟨m,hm,hg,e⟩:=(hmem _).1 h
      obtain ⟨rfl,rfl⟩:=mM (k.mO hm) e
      cases h2 : R.find g (m.u : Int) with
      | none=>rfl
      | some m2=>
        obtain ⟨hm2,hf2,hu2⟩:=dm h2
        have : m2=m:=by
          have hr:=k.oX
          have hu : m2.u=m.u:=by omega
          have hff : m2.f=m.f:=hf2.trans (hgf m hg).symm
          rcases List.mem_iff_getElem.1 hm with ⟨i,hi,rfl⟩
          rcases List.mem_iff_getElem.1 hm2 with ⟨j,hj,rfl⟩
          rcases Nat.lt_trichotomy i j with hij | hij | hij
          · have:=List.pairwise_iff_getElem.1 hr i j hi hj hij hff.symm;omega
          · subst hij;rfl
          · have:=List.pairwise_iff_getElem.1 hr j i hj hi hij hff;omega
        subst this
        simp [hg,Option.filter]
    · rw [if_neg h]
      cases h2 : R.find g u with
      | none=>rfl
      | some m=>
        obtain ⟨hm,hf,hu⟩:=dm h2
        have hg : goes f m=false:=by
          cases hgo : goes f m with
          | false=>rfl
          | true=>
            refine absurd ((hmem _).2 ⟨m,hm,hgo,?_⟩) h
            rw [hu,← hf,hgf m hgo]
        simp [hg,Option.filter]
  rw [e]
  refine ⟨(fG ks hb.mN []).1,fun g=>?_,hmail,fun p hp=>?_⟩
  · rw [(fG ks hb.mN _).2,if_neg,hb.next]
    · rfl
    · intro h
      obtain ⟨m,_,_,e⟩:=(hmem _).1 h
      exact uq _ _ _ e
  · rcases hb.keys p (qU ks vs p hp) with h | ⟨m,hm,e⟩
    · exact .inl h
    · refine .inr ⟨m,?_,e⟩
      have h1 : fh (cy vs (ks.map fun k=>(⟨k,[],true⟩ : Pq))) p.1=some p.2:=(di (fG ks hb.mN []).1.keys).2 hp
      rw [e,hmail] at h1
      obtain ⟨m2,h2,_⟩:=Option.map_eq_some_iff.1 h1
      obtain ⟨h3,h4,h5⟩:=dm h2
      have h6:=h3
      have h3:=(List.mem_filter.1 h3).1
      have hr:=k.oX
      have hu : m2.u=m.u:=by omega
      have : m2=m:=by
        rcases List.mem_iff_getElem.1 hm with ⟨i,hi,rfl⟩
        rcases List.mem_iff_getElem.1 h3 with ⟨j,hj,rfl⟩
        rcases Nat.lt_trichotomy i j with hij | hij | hij
        · have:=List.pairwise_iff_getElem.1 hr i j hi hj hij h4.symm;omega
        · subst hij;rfl
        · have:=List.pairwise_iff_getElem.1 hr j i hj hi hij h4;omega
      rw [← this]
      exact h6
theorem vt {R : Rb} {n : Nat} (k : R.ok n) {vs : VL} (hb : Bv vs R) (f : Bk) :
    (vs.filter fun p=>decide (p.1.take (bk f).length=bk f)).map Prod.fst=(R.list f).map fun u=>bg f ((u : Nat) : Int):=by
  refine BK ?_ ?_ fun x=>?_
  · rw [List.pairwise_map];exact hb.mN.filter _
  · unfold Rb.list
    rw [List.map_map,List.pairwise_map]
    have h1 : (R.ms.filter fun m=>decide (m.f=f)).Pairwise fun a b=>a.f=b.f→a.u<b.u:=k.oX.filter _
    refine List.Pairwise.imp_of_mem (fun {a b} ha hb h=>?_) h1
    obtain ⟨ha1,ha2⟩:=List.mem_filter.1 ha
    obtain ⟨hb1,hb2⟩:=List.mem_filter.1 hb
    rw [decide_eq_true_eq] at ha2 hb2
    exact zL (k.mO ha1) (k.mO hb1) (h (ha2.trans hb2.symm))
  · rw [List.mem_map,List.mem_map]
    constructor
    · rintro ⟨p,hp,rfl⟩
      obtain ⟨h1,h2⟩:=List.mem_filter.1 hp
      rw [decide_eq_true_eq] at h2
      rcases hb.keys p h1 with ⟨y,_,e⟩ | ⟨m,hm,e⟩
      · rw [e] at h2;exact absurd h2 (BJ _ _)
      · rw [e] at h2 ⊢
        have hf:=(ou (ur (k.fold m hm))).1 h2
        subst hf
        exact ⟨m.u,List.mem_map_of_mem (List.mem_filter.2 ⟨hm,by simp⟩),rfl⟩
    · rintro ⟨u,hu,rfl⟩
      obtain ⟨m,hm,rfl⟩:=List.mem_map.1 hu
      obtain ⟨h1,h2⟩:=List.mem_filter.1 hm
      rw [decide_eq_true_eq] at h2
      subst h2
      have hv : fh vs (bg m.f (m.u : Int))≠none:=by
        rw [hb.xM]
        cases h : R.find m.f (m.u : Int) with
        | some x=>simp
        | none=>
          unfold Rb.find at h
          have:=List.find?_eq_none.1 h m h1
          simp at this
      cases h : fh vs (bg m.f (m.u : Int)) with
      | none=>exact absurd h hv
      | some v=>
        refine ⟨(bg m.f (m.u : Int),v),List.mem_filter.2 ⟨(di hb.mN.keys).1 h,?_⟩,rfl⟩
        rw [decide_eq_true_eq]
        exact (ou (ur (k.fold m h1))).2 rfl
end Bx
end
section
set_option maxRecDepth 10000
open Sl
theorem ov : aL Tryz.prog 94:=⟨_,Tryz.func94,rfl,by kernel_rfl⟩
theorem vu : aL Tryz.prog 127:=⟨_,Tryz.func127,rfl,by kernel_rfl⟩
set_option maxHeartbeats 2000000 in
theorem xP (s d : List Bt) (w : World) : Calls Tryz.prog 127 [Z s,Z d].toArray w fun e w'=>e=.returned (.bool (decide (s.take d.length=d)))∧Ext w w':=by
  refine enter (n:=18) Tryz.func127 rfl rfl rfl (Holds.start w []) ?_
  cases h1 : decide ((d.length : Int)≤(s.length : Int))
  · have hF : decide (s.take d.length=d)=false:=decide_eq_false fun e=>by
      have:=congrArg List.length e
      rw [List.length_take] at this
      have:=of_decide_eq_false h1
      omega
    rw [hF]
    repeat (first | refine JL.q (by first|(apply OQ.lQ;exact Tryz.underlying9;rfl)|(apply OQ.ee (b:=(d.length : Int));rfl;rfl;exact h1)|(apply OQ.aJ;rfl;rfl)|(apply OQ.move;rfl)|(apply OQ.assign;rfl)) rfl ?_ | refine JC.seq ?_ | refine JC.region ?_ | refine JL.nil ?_ | refine JE.next ?_ | refine JL.bC rfl rfl rfl rfl ?_)
    exact JC.ret (JE.aR rfl (RV.tmp rfl) fun w' hw=>⟨rfl,hw.bf⟩)
  · have hle : d.length≤s.length:=by have:=of_decide_eq_true h1;omega
    cases h2 : decide (s.take d.length=d)
    all_goals (repeat (first | refine JL.q (by first|(apply OQ.lQ;exact Tryz.underlying9;rfl)|(apply OQ.ee (b:=(d.length : Int));rfl;rfl;exact h1)|(apply OQ.yT (j:=d.length);exact Tryz.underlying9;rfl;rfl;exact hle)|(apply OQ.lS;rfl;rfl;exact h2)|(apply OQ.aS;rfl;rfl)|(apply OQ.move;rfl)|(apply OQ.assign;rfl)) rfl ?_ | refine JC.seq ?_ | refine JC.region ?_ | refine JL.nil ?_ | refine JE.next ?_ | refine JL.aB rfl rfl ?_))
    all_goals exact JC.ret (JE.aR rfl (RV.tmp rfl) fun w' hw=>⟨rfl,hw.bf⟩)
theorem xQ (s d : List Bt) (w : World) : Calls Tryz.prog 94 [Z s,Z d].toArray w fun e w'=>e=.returned (.bool (decide (s.take d.length=d)))∧Ext w w':=by
  refine enter (n:=8) Tryz.func94 rfl rfl rfl (Holds.start w []) ?_
  have hq:=fun w'=>xP s d w'
  repeat (first | refine JL.q (by first|(apply OQ.aF (vs:=[Z s,Z d]);exact vu;rfl;exact (fun w' _=>hq w'))|(apply OQ.move;rfl)|(apply OQ.assign;rfl)) rfl ?_ | refine JC.seq ?_ | refine JC.region ?_ | refine JL.nil ?_ | refine JE.next ?_)
  exact JC.ret (JE.aR rfl (RV.tmp rfl) fun w' hw=>⟨rfl,hw.bf⟩)
end
section
set_option maxRecDepth 10000
open Sl cY dy fI
theorem BL : dH Tryz.prog 9=some 1:=by kernel_rfl
theorem xR : EI Tryz.prog 9 (Z []) 1 16:=by unfold EI;kernel_rfl
def fk (front k : Bk) : Bool:=decide (k.take front.length=front)
def cz (mm : MV) (front : Bk) : List Bk:=cu ((mm.filter fun e=>fk front e.key).map ME.key)
theorem xS {ks ts : List Bk} (h : ks.Perm ts) : cu ks=cu ts:=
  List.Perm.eq_of_pairwise (le:=fun a b=>eO b a=false) (fun a b _ _ h1 h2=>by
    by_cases e : a=b
    · exact e
    · have:=iq a b e h2;rw [h1] at this;cases this) (jf ks) (jf ts) ((fZ ks).trans (h.trans (fZ ts).symm))
theorem qV {mm : MV} {vs : VL} (hs : ji vs) (hm : iP mm vs) (front : Bk) : cz mm front=(vs.filter fun p=>fk front p.1).map Prod.fst:=by
  unfold cz
  refine xF ?_ ?_
  · have h:=(hm.filter fun p=>fk front p.1).map Prod.fst
    unfold zD at h
    rw [List.filter_map,List.map_map] at h
    exact h
  · rw [List.pairwise_map]
    exact hs.sublist List.filter_sublist
theorem vv {mm : MV} {front : Bk} : (cz mm front).length≤mm.length:=by
  unfold cz
  rw [fD,List.length_map]
  exact List.length_filter_le _ _
structure Ks where
  q : Acc
  done : MV
  rest : MV
def Ks.ks (z : Ks) (front : Bk) : List Bk:=(z.done.filter fun e=>fk front e.key).map ME.key
theorem ow : aL Tryz.prog 66:=⟨_,Tryz.func66,rfl,by kernel_rfl⟩
set_option maxHeartbeats 16000000 in
theorem qW (b : Nat) (mm : MV) (c : Nat) (front : Bk) (w : World) (hf : WF mm c) (hb : ∃ o,w.heap[b]?=some o∧dO (mm,c) o) (hn : mm.length≤4294967296) :
    Calls Tryz.prog 66 [.map (some b),Z front].toArray w fun e w'=>∃ q : {q : Acc // q=none→cz mm front=[]},e=.returned (ah q.1 (cz mm front).length)∧Holds w [] (aa 9 q.1 ((cz mm front).map Z)) w':=by
  obtain ⟨o,ho,hA⟩:=hb
  refine enter (n:=23) Tryz.func66 rfl rfl rfl (Holds.seen (S:=[]) ho hA) ?_
  repeat (first | refine JL.q (by first|(apply OQ.move;rfl)|(apply OQ.assign;rfl)) rfl ?_ | refine JC.seq ?_ | refine JC.region ?_ | refine JL.nil ?_ | refine JE.next ?_)
  refine JL.mapRange Tryz.underlying100 rfl .here rfl fun r _=>?_
  repeat (first | refine JC.block ?_ | refine JL.nil ?_ | refine JE.next ?_)
  refine JC.loop (fun z : Ks=>[(1,Z front),(5,ah z.q (z.ks front).length),(8,Pt r 0)]) (fun z=>⟨r,IB b c (z.done.map ME.born) c,true⟩::⟨b,dO (mm,c),false⟩::aa 9 z.q ((z.ks front).map Z)) (fun z=>z.rest.length) (fun z=>(z.done++z.rest).Perm mm∧(z.q=none→z.ks front=[])) ⟨none,[],mm⟩ ⟨.refl _,fun _=>rfl⟩ (by repeat (first | exact ag.nil | refine ag.cons _ _ _ rfl ?_)) (aj.refl _) ?_
  rintro ⟨q,done,rest⟩ ⟨hp,hq⟩
  dsimp only [Ks.ks] at hp hq ⊢
  generalize hks : (done.filter fun e=>fk front e.key).map ME.key=ks at hq
  have hlen : ks.length≤mm.length:=by
    rw [← hks,List.length_map]
    refine Nat.le_trans (List.length_filter_le _ _) ?_
    rw [← hp.length_eq,List.length_append]
    omega
  repeat (first | refine JC.seq ?_ | refine JC.region ?_)
  refine JL.mapNext (f:=aC.v) hf rfl (.there .here) (fun s'=>.here) rfl (fun hall=>?_) (fun m hm hnew=>?_)
  · repeat (first | refine JL.q (by (apply OQ.extract;rfl;rfl)) rfl ?_ | refine JC.seq ?_ | refine JL.nil ?_ | refine JE.next ?_)
    refine JC.cond_false rfl rfl ?_
    have hr : rest=[]:=by
      cases rest with
      | nil=>rfl
      | cons x rest=>
        obtain ⟨y,hy,e⟩:=List.mem_map.1 (hall x (hp.mem_iff.1 (by simp)))
        have hnd:=(hp.map ME.born).nodup_iff.2 hf.qI
        rw [List.map_append,List.map_cons,List.nodup_append] at hnd
        exact absurd e (hnd.2.2 _ (List.mem_map_of_mem hy) _ (by simp))
    subst hr
    rw [List.append_nil] at hp
    have hkk : cu ks=cz mm front:=by
      rw [← hks]
      exact xS ((hp.filter _).map _)
    repeat (first | refine JL.q (by (apply OQ.move;rfl)) rfl ?_ | refine JC.seq ?_ | refine JC.region ?_ | refine JC.exit ?_ | refine JE.next ?_ | refine JE.aH ?_ | refine JE.aW ?_)
    refine JL.perm (M':=aa 9 q (ks.map Z)++[⟨r,IB b c (done.map ME.born) c,true⟩,⟨b,dO (mm,c),false⟩]) ?_ (by exact List.perm_append_comm (l₁:=[_,_]))
    refine JL.bE (ι:=Unit) (vs:=[ah q ks.length]) (fun _=>.tuple #[]) (fun _=>aa 9 q ((cu ks).map Z)) sO rfl rfl (aP _ _ _) (fun _=>aP _ _ _) (fun w' h0 hw'=>(vp q ks hq (by omega) w' hw').mono fun _ _ ⟨h1,h2⟩=>⟨(),h1,h2⟩) fun _=>?_
    rw [hkk]
    have hl2 : ks.length=(cz mm front).length:=by rw [← hkk,fD]
    rw [hl2]
    repeat (first | refine JL.q (by first|(apply OQ.move;rfl)|(apply OQ.assign;rfl)) rfl ?_ | refine JC.seq ?_ | refine JC.region ?_ | refine JL.nil ?_ | refine JE.next ?_)
    exact JC.ret (JE.aR rfl (RV.tmp rfl) fun w' hw=>⟨⟨q,fun e=>by rw [← hkk,hq e];exact List.length_eq_zero_iff.1 (fD [])⟩,rfl,hw.weak (ax _ _)⟩)
  · have hmr : m ∈ rest:=by
      rcases List.mem_append.1 (hp.mem_iff.2 hm) with h | h
      · exact absurd (List.mem_map_of_mem h) hnew
      · exact h
    obtain ⟨s1,s2,rfl⟩:=List.append_of_mem hmr
    have hp' : ((done++[m])++(s1++s2)).Perm mm:=by
      refine List.Perm.trans ?_ hp
      rw [List.append_assoc]
      exact (List.Perm.append_left _ (by rw [List.singleton_append];exact List.perm_middle.symm))
    have hmu : (s1++s2).length<(s1++m::s2).length:=by simp
    repeat (first | refine JL.q (by (apply OQ.extract;rfl;rfl)) rfl ?_ | refine JC.seq ?_ | refine JL.nil ?_ | refine JE.next ?_)
    refine JC.cond_true rfl rfl ?_
    have hpx:=fun w'=>xQ m.key front w'
    cases g1 : decide (m.key.take front.length=front)
    · rw [g1] at hpx
      repeat (first | refine JL.q (by first|(apply OQ.entry;exact hf;rfl;exact (.there .here);exact .here;exact hm)|(apply OQ.extract;rfl;rfl)|(apply OQ.aF (vs:=[Z m.key,Z front]);exact ov;rfl;exact (fun w' _=>hpx w'))|(apply OQ.move;rfl)|(apply OQ.assign;rfl)) rfl ?_ | refine JC.seq ?_ | refine JC.region ?_ | refine JC.block ?_ | refine JC.skip ?_ | refine JL.nil ?_ | refine JE.next ?_)
      refine JC.cond_false rfl rfl ?_
      repeat (first | refine JC.skip ?_ | refine JE.an ?_)
      have hk2 : ((done++[m]).filter fun e=>fk front e.key).map ME.key=ks:=by
        rw [List.filter_append,List.map_append,hks]
        have : fk front m.key=false:=g1
        simp [this]
      refine JE.again (i:=Ks.mk q done (s1++m::s2)) ⟨q,done++[m],s1++s2⟩ ⟨hp',?_⟩ hmu ?_ ?_
      · dsimp only [Ks.ks];rw [hk2];exact hq
      · dsimp only [Ks.ks];rw [hk2];exact (by repeat (first | exact ag.nil | refine ag.cons _ _ _ rfl ?_))
      · dsimp only [Ks.ks];rw [hk2,List.map_append];exact aj.refl _
    · rw [g1] at hpx
      repeat (first | refine JL.q (by first|(apply OQ.entry;exact hf;rfl;exact (.there .here);exact .here;exact hm)|(apply OQ.extract;rfl;rfl)|(apply OQ.aF (vs:=[Z m.key,Z front]);exact ov;rfl;exact (fun w' _=>hpx w'))|(apply OQ.move;rfl)|(apply OQ.assign;rfl)) rfl ?_ | refine JC.seq ?_ | refine JC.region ?_ | refine JC.block ?_ | refine JC.skip ?_ | refine JL.nil ?_ | refine JE.next ?_)
      refine JC.cond_true rfl rfl ?_
      repeat (first | refine JL.q (by (apply OQ.move;rfl)) rfl ?_ | refine JC.region ?_)
      refine JL.gu (v:=Z m.key) Tryz.underlying33 xR rfl rfl rfl rfl fun bl _=>?_
      refine JL.perm (M':=aa 9 q (ks.map Z)++[⟨bl,Row 9 [Z m.key],true⟩,⟨r,IB b c (done.map ME.born++[m.born]) c,true⟩,⟨b,dO (mm,c),false⟩]) ?_ (by exact List.perm_append_comm (l₁:=[_,_,_]))
      refine JL.bM (xs:=ks.map Z) (cs:=[Z m.key]) (m:=1) (ad:=some ⟨bl,0,none⟩) (sc:=1) q Tryz.underlying33 xR (fun e=>by rw [hq e];rfl) (by rw [List.length_map];rfl) rfl rfl (fun w' hw'=>?_) (by simp [Value.oneCell']) rfl (by rw [List.length_map];omega) (by rw [List.length_map];omega) rfl fun q1 hq1=>?_
      · obtain ⟨o,ho,hA⟩:=hw'.get (b:=bl) (A:=Row 9 [Z m.key]) (wr:=true) (aG .here)
        exact Reads.block ho (Row.all o hA)
      have hk2 : ((done++[m]).filter fun e=>fk front e.key).map ME.key=ks++[m.key]:=by
        rw [List.filter_append,List.map_append,hks]
        have : fk front m.key=true:=g1
        simp [this]
      rw [show ks.map Z++[Z m.key]=(ks++[m.key]).map Z by simp,List.length_map]
      repeat (first | refine JL.q (by (apply OQ.assign;rfl)) rfl ?_ | refine JL.nil ?_ | refine JE.an ?_)
      refine JE.perm (List.perm_append_comm (l₂:=[_,_,_])) ?_
      refine JE.again (i:=Ks.mk q done (s1++m::s2)) ⟨q1,done++[m],s1++s2⟩ ⟨hp',?_⟩ hmu ?_ ?_
      · dsimp only [Ks.ks];rw [hk2];intro e;have:=hq1 e;simp at this
      · dsimp only [Ks.ks];rw [hk2];exact (by repeat (first | exact ag.nil | refine ag.cons _ _ _ rfl ?_))
      · dsimp only [Ks.ks];rw [hk2,List.map_append];exact .drop _ _ _ (aj.refl _)
def aN (mm : MV) : List aM:=(cz mm []).map fun k=>⟨k,(look mm k).getD bG,false⟩
theorem oZ {mm : MV} {k : Bk} {s : aC} : look mm k=some s→∃ e ∈ mm,e.key=k∧e.val=s:=by
  induction mm with
  | nil=>intro h;cases h
  | cons x mm ih=>
    intro h
    rw [vh] at h
    split at h
    · next hk=>exact ⟨x,by simp,hk.symm,Option.some.inj h⟩
    · obtain ⟨e,he,h1⟩:=ih h
      exact ⟨e,by simp [he],h1⟩
theorem qX {mm : MV} {vs : VL} {c : Nat} (hf : WF mm c) (hs : ji vs) (hm : iP mm vs) (k : Bk) : (look mm k).map aC.l=fh vs k:=by
  cases h : look mm k with
  | none=>
    have h1:=kj.1 h
    cases h2 : fh vs k with
    | none=>rfl
    | some v=>
      have:=hm.mem_iff.2 ((di hs.keys).1 h2)
      obtain ⟨e,he,h3⟩:=List.mem_map.1 this
      exact absurd (List.mem_map.2 ⟨e,he,congrArg Prod.fst h3⟩) h1
  | some s=>
    obtain ⟨e,he,h1,h2⟩:=oZ h
    exact ((di hs.keys).2 (hm.mem_iff.1 (List.mem_map.2 ⟨e,he,by rw [h1,h2]⟩))).symm
theorem vw {mm : MV} {vs : VL} {c : Nat} (hf : WF mm c) (hs : ji vs) (hm : iP mm vs) : (aN mm).map aM.p=cH vs:=by
  unfold aN cH
  rw [qV hs hm,List.filter_eq_self.2 fun p _=>by show decide (p.1.take 0=[])=true;simp,List.map_map,List.map_map]
  refine List.map_congr_left fun p hp=>?_
  have h:=qX hf hs hm p.1
  rw [(di hs.keys).2 (show (p.1,p.2) ∈ vs from hp)] at h
  cases h2 : look mm p.1 with
  | none=>rw [h2] at h;cases h
  | some s=>
    rw [h2] at h
    simp only [Option.map_some,Option.some.injEq] at h
    simp [aM.p,h2,h]
theorem vz {mm : MV} {p : aM} (h : p ∈ aN mm) : p.s=bG∨p.s ∈ mm.map ME.val:=by
  obtain ⟨k,_,rfl⟩:=List.mem_map.1 h
  dsimp only
  cases h2 : look mm k with
  | none=>exact .inl rfl
  | some s=>
    obtain ⟨e,he,_,h1⟩:=oZ h2
    exact .inr (List.mem_map.2 ⟨e,he,h1⟩)
theorem sV {mm : MV} : (aN mm).length≤mm.length:=by unfold aN;rw [List.length_map];exact vv
section
variable {n : Nat} {E : Env} {C : World→Prop} {dst : Option Tmp} {ty : TypeId} {pos : String} {aft : Array Edge} {g : Option (Nat × Bool)} {x1 x2 : Operand} {s : aC}
theorem OQ.o5 {key : Bk} (h1 : ev E x1=some (Z key)) (h2 : ev E x2=some s.v) :
    OQ Tryz.prog n E C ⟨dst,.build 78 #[(0,x1),(1,x2)],ty,pos,aft,g⟩ (.agg #[Z key,s.v,.bool false]):=
  OQ.run fun a ha w _=>by
    have e1:=ha.eval h1
    have e2:=ha.eval h2
    have r:=run_build (P:=Tryz.prog) w 78 #[(0,Z key),(1,s.v)] #[Z key,s.v,.bool false] (by kernel_rfl)
    simp [execOp,e1,e2,r]
end
theorem xU : (Tryz.prog.info? 24).bind (·.zero)=some (.slice none 0 0):=by kernel_rfl
theorem BM (o : Option aC) : qN (o.map aC.v) (.slice none 0 0) false=(o.getD bG).v:=by cases o <;> rfl
theorem sW : aL Tryz.prog 90:=⟨_,Tryz.func90,rfl,by kernel_rfl⟩
set_option maxHeartbeats 16000000 in
theorem vC (b : Nat) (mm : MV) (c : Nat) (w : World) (hf : WF mm c) (hb : ∃ o,w.heap[b]?=some o∧dO (mm,c) o) (hn : mm.length≤4294967296) :
    Calls Tryz.prog 90 [.map (some b)].toArray w fun e w'=>∃ q : {q : Acc // q=none→aN mm=[]},e=.returned (ah q.1 (aN mm).length)∧Holds w [] (aY 78 3 q.1 ((aN mm).map aM.cs)) w':=by
  have hb0:=hb
  obtain ⟨o,ho,hA⟩:=hb
  have hlen:=sV (mm:=mm)
  refine enter (n:=23) Tryz.func90 rfl rfl rfl (Holds.seen (S:=[]) ho hA) ?_
  repeat (first | refine JL.q (by first|(apply OQ.move;rfl)|(apply OQ.assign;rfl)) rfl ?_ | refine JC.seq ?_ | refine JC.region ?_ | refine JL.nil ?_ | refine JE.next ?_)
  refine JL.bA (ι:={q : Acc // q=none→cz mm []=[]}) (vs:=[.map (some b),Z []]) (fun q=>ah q.1 (cz mm []).length) (fun q=>aa 9 q.1 ((cz mm []).map Z)) ow rfl rfl (fun _=>aP _ _ _) (fun w' hw'=>qW b mm c [] w' hf (hw'.get .here) hn) fun qk=>?_
  obtain ⟨qk,hqk⟩:=qk
  dsimp only
  have hpk : (aN mm).length=(cz mm []).length:=by unfold aN;rw [List.length_map]
  generalize hks : cz mm []=ks at hqk hpk
  have hav : ∃ (ad : Option Addr) (cap : Nat),ah qk ks.length=.slice ad ks.length cap:=by
    cases qk with
    | none=>exact ⟨none,0,by rw [hqk rfl];rfl⟩
    | some p=>exact ⟨_,_,rfl⟩
  obtain ⟨ad,cap,hav⟩:=hav
  rw [hav]
  repeat (first | refine JL.q (by first|(apply OQ.len (k:=ks.length) (ad:=ad) (cap:=cap);exact Tryz.underlying33;rfl)|(apply OQ.move;rfl)) rfl ?_ | refine JC.block ?_ | refine JL.nil ?_ | refine JE.next ?_)
  rw [← hav]
  refine JC.loop (fun z : Nat × Acc=>[(0,.map (some b)),(3,ah z.2 ((aN mm).take z.1).length),(7,ah qk ks.length),(8,N ks.length),(9,N z.1)]) (fun z=>aY 78 3 z.2 (((aN mm).take z.1).map aM.cs)++(aa 9 qk (ks.map Z)++[⟨b,dO (mm,c),false⟩])) (fun z=>ks.length - z.1) (fun z=>z.1≤ks.length∧(z.2=none→(aN mm).take z.1=[])) (0,none) ⟨Nat.zero_le _,fun _=>rfl⟩ (by repeat (first | exact ag.nil | refine ag.cons _ _ _ rfl ?_)) (aj.refl _) ?_
  rintro ⟨i,q⟩ ⟨hi,hq⟩
  dsimp only at hi hq ⊢
  repeat (first | refine JL.q (by (apply OQ.dX;rfl;rfl)) rfl ?_ | refine JC.seq ?_ | refine JC.region ?_ | refine JL.nil ?_ | refine JE.next ?_)
  refine JC.cond rfl (fun hc=>?_) (fun hc=>?_)
  · have hi' : i<ks.length:=Nat.lt_of_not_le fun h=>by have:=of_decide_eq_true hc;omega
    clear hc
    cases qk with
    | none=>rw [hqk rfl] at hi';cases hi'
    | some p=>
    obtain ⟨gk,ck⟩:=p
    have hki : ks[i]?=some ks[i]:=List.getElem?_eq_getElem hi'
    generalize ks[i]=key at hki
    have hav2 : ah (some (gk,ck)) ks.length=.slice (some ⟨gk,0,none⟩) ks.length ck:=rfl
    have ht : (aN mm).take (i+1)=(aN mm).take i++[⟨key,(look mm key).getD bG,false⟩]:=by
      rw [List.take_add_one]
      unfold aN
      rw [hks,List.getElem?_map,hki]
      rfl
    have hlv : ∃ sl,(look mm key).getD bG=sl:=⟨_,rfl⟩
    obtain ⟨sl,hsl⟩:=hlv
    have hlv : qN ((look mm key).map aC.v) (.slice none 0 0) false=sl.v:=by rw [BM,hsl]
    rw [hsl] at ht
    have hq0 : q=none→((aN mm).take i).map aM.cs=[]:=fun e=>by rw [hq e];rfl
    have hm : (((aN mm).take i).map aM.cs).length=((aN mm).take i).length:=List.length_map _
    have hml : ((aN mm).take i).length≤4294967296:=by rw [List.length_take];omega
    have hkz : (ks.map Z)[i]?=some (Z key):=by rw [List.getElem?_map,hki];rfl
    repeat (first | refine JL.q (by first|(apply OQ.Au (i:=i);exact Tryz.underlying33;exact BL;exact (congrArg some hav2);rfl;exact hi')|(apply OQ.load;exact eE;rfl;exact (aG .here);exact (Sl.Own.cell hkz))|(apply OQ.to;exact (OQ.look (ok:=false) Tryz.underlying100 Tryz.underlying9 xU rfl rfl (aG (.there .here)));exact hlv)|(apply OQ.o5;rfl;rfl)|(apply OQ.move;rfl)|(apply OQ.assign;rfl)) rfl ?_ | refine JC.seq ?_ | refine JC.region ?_ | refine JC.block ?_ | refine JC.skip ?_ | refine JL.nil ?_ | refine JE.next ?_)
    refine JL.pW (cs:=(aM.mk key sl false).cs) Tryz.underlying81 AK rfl (by decide) (by decide) rfl rfl rfl fun bl _=>?_
    refine JL.fS (c:=(aM.mk key sl false).cs) (L:=((aN mm).take i).map aM.cs) q Tryz.underlying81 AK hq0 (by rw [hm];rfl) rfl rfl (fun u hu=>List.all_eq_true.1 (aM.one _) u hu) rfl (by decide) (by rw [hm];omega) (by rw [hm];omega) rfl fun b' cap'=>?_
    have eM : ((aN mm).take i).map aM.cs++[(aM.mk key sl false).cs]=((aN mm).take (i+1)).map aM.cs:=by rw [ht,List.map_append,List.map_singleton]
    rw [eM,List.length_map]
    repeat (first | refine JL.q (by first|(apply OQ.move;rfl)|(apply OQ.assign;rfl)|(apply OQ.addN;rfl;rfl;exact (by (try simp only []);omega))) rfl ?_ | refine JC.region ?_ | refine JL.nil ?_ | refine JE.next ?_ | refine JE.an ?_)
    exact JE.again (i:=(i,q)) (i+1,some (b',cap')) ⟨hi',nofun⟩ (by dsimp only;omega) (by repeat (first | exact ag.nil | refine ag.cons _ _ _ rfl ?_)) (aj.refl _)
  · have hi' : i=ks.length:=by have:=of_decide_eq_false hc;omega
    have hf : (aN mm).take i=aN mm:=List.take_of_length_le (by omega)
    rw [hf] at hq ⊢
    repeat (first | refine JL.q (by first|(apply OQ.move;rfl)|(apply OQ.assign;rfl)) rfl ?_ | refine JC.seq ?_ | refine JC.region ?_ | refine JC.exit ?_ | refine JL.nil ?_ | refine JE.next ?_ | refine JE.aH ?_ | refine JE.aW ?_)
    exact JC.ret (JE.aR rfl (RV.tmp rfl) fun w' hw=>⟨⟨q,hq⟩,rfl,hw.weak (ax _ _)⟩)
end
section
set_option maxRecDepth 10000
open Sl cY dy fI
namespace fI
def sX (p : Pq) : Nat:=7+p.key.length+p.val.length
def iz (l : List Pq) : Nat:=(l.map sX).sum
def iA (vs : VL) : Nat:=(vs.map fun p=>7+p.1.length+p.2.length).sum
theorem cK (p : Bk × Bk) (vs : VL) : iA (p::vs)=7+p.1.length+p.2.length+iA vs:=by simp [iA]
theorem eC (p : Pq) (l : List Pq) : iz (p::l)=sX p+iz l:=by simp [iz]
theorem sY (a b : List Pq) : iz (a++b)=iz a+iz b:=by simp [iz]
theorem uu (k v : Bk) : ∀ (vs : VL),iA (fB k v vs)≤7+k.length+v.length+iA vs
  | []=>by simp [fB,iA]
  | p::vs=>by
    have ih:=uu k v vs
    rw [fB]
    split
    · rw [cK,cK];omega
    · split
      · rw [cK,cK];simp only;omega
      · rw [cK];simp only;omega
theorem o6 (k : Bk) : ∀ (vs : VL),iA (kg k vs)≤iA vs
  | []=>Nat.le_refl _
  | p::vs=>by
    have ih:=o6 k vs
    rw [kg]
    split
    · rw [cK,cK];omega
    · split
      · rw [cK];omega
      · exact Nat.le_refl _
theorem BN (vs : VL) (p : Pq) : iA (vg vs p)≤iA vs+sX p:=by
  unfold vg sX
  split
  · have:=o6 p.key vs;omega
  · have:=uu p.key p.val vs;omega
theorem gd : ∀ (l : List Pq) (vs : VL),iA (cy vs l)≤iA vs+iz l
  | [],vs=>by simp [cy]
  | p::l,vs=>by
    have h1:=gd l (vg vs p)
    have h2:=BN vs p
    rw [eC]
    show iA (cy (vg vs p) l)≤_
    omega
theorem o7 (vs : VL) : 7 * vs.length≤iA vs:=by
  induction vs with
  | nil=>simp [iA]
  | cons p vs ih=>rw [cK,List.length_cons];omega
theorem o8 {vs : VL} {p : Bk × Bk} (h : p ∈ vs) : p.1.length+p.2.length≤iA vs:=by
  induction vs with
  | nil=>cases h
  | cons q vs ih=>
    rw [cK]
    rcases List.mem_cons.1 h with rfl | h
    · omega
    · have:=ih h;omega
theorem o9 (l : List Pq) : (aZ l).length=iz l:=by
  induction l with
  | nil=>rfl
  | cons p l ih=>
    have e : aZ (p::l)=gR p++aZ l:=rfl
    rw [e,List.length_append,qH,ih,eC]
    rfl
theorem ox (vs : VL) : iz (cH vs)=iA vs:=by
  unfold iz iA cH
  rw [List.map_map]
  rfl
def okV (vs : VL) : Prop:=∀ p ∈ vs,1≤p.1.length∧p.1.length≤1000
theorem xV {p : Pq} (h : jU p=true) : 1≤p.key.length∧p.key.length≤1000:=⟨(ij h).1,(ij h).2.1⟩
theorem BO {vs : VL} {p : Pq} (h : okV vs) (hp : jU p=true) : okV (vg vs p):=by
  unfold vg
  split
  · exact fun q hq=>h q ((jJ _ _).subset hq)
  · intro q hq
    rcases jI hq with rfl | hq
    · exact xV hp
    · exact h q hq
theorem pe : ∀ {l : List Pq} {vs : VL},okV vs→fV l=true→okV (cy vs l)
  | [],_,h,_=>h
  | p::l,vs,h,hl=>by
    unfold fV at hl
    rw [List.all_cons,Bool.and_eq_true] at hl
    exact pe (l:=l) (BO h hl.1) hl.2
theorem oy {vs : VL} (h : okV vs) : fV (cH vs)=true:=by
  unfold fV cH
  rw [List.all_map,List.all_eq_true]
  intro p hp
  have:=h p hp
  show jU ⟨p.1,p.2,false⟩=true
  unfold jU
  simp only [Bool.and_eq_true,decide_eq_true_eq,Bool.false_and,Bool.not_false,and_true]
  exact ⟨this.1,this.2⟩
theorem oz : ∀ {rs : List Bk} {l : List Pq},aU rs=some l→fV l=true∧iz l=(rs.map List.length).sum
  | [],l,h=>by rw [aU,Option.some.injEq] at h;subst h;exact ⟨rfl,rfl⟩
  | r::rs,l,h=>by
    rw [aU] at h
    cases h1 : dec r with
    | none=>rw [h1] at h;cases h
    | some a=>
      cases h2 : aU rs with
      | none=>rw [h1,h2] at h;cases h
      | some b=>
        rw [h1,h2] at h
        cases h
        have ⟨i1,i2⟩:=oz h2
        have ⟨j1,j2⟩:=sG h1
        refine ⟨by unfold fV at *;rw [List.all_append,j1,i1];rfl,?_⟩
        rw [sY,i2,List.map_cons,List.sum_cons,← j2]
        rfl
theorem uv (rs : List Bk) : (rs.map List.length).sum≤42 * room rs:=by
  induction rs with
  | nil=>simp
  | cons r rs ih=>
    rw [dZ,List.map_cons,List.sum_cons]
    have : r.length≤42 * nb r.length:=by unfold nb;omega
    omega
end fI
structure Sz where
  p : Nat
  mb : Nat
  mm : MV
  c : Nat
  j : Nat
  h : Hf
  bl : List Bk
def Sz.cs (z : Sz) : List Value:=[Pt z.j 0,.map (some z.mb)]
def Sz.E (z : Sz) : List ai:=⟨z.p,Row 108 z.cs,true⟩::⟨z.mb,dO (z.mm,z.c),true⟩::(cn z.j z.h z.bl []++ay (z.mm.map ME.val))
theorem Sz.wr (z : Sz) : ∀ e ∈ z.E,e.wr=true:=by
  intro e he
  rcases List.mem_cons.1 he with rfl | he
  · rfl
  · rcases List.mem_cons.1 he with rfl | he
    · rfl
    · rcases List.mem_append.1 he with he | he
      · exact cG _ _ _ _ e he
      · exact gO _ e he
structure Sz.ok (z : Sz) (af : List Bk) (vs : VL) : Prop where
  wf : WF z.mm z.c
  is : iP z.mm vs
  mN : ji vs
  h0 : ∀ x ∈ z.mm.map ME.val,x.ad=none→x.l=[]
  jv : Jv z.h z.bl af
  dk : bB z.h.x z.bl []
  vals : ew af=some vs
namespace Sz.ok
variable {z : Sz} {af : List Bk} {vs : VL}
theorem sz (k : z.ok af vs) : iA vs≤1400000∧okV vs:=by
  have h:=k.vals
  unfold ew at h
  cases hd : aU af with
  | none=>rw [hd] at h;cases h
  | some l=>
    rw [hd,Option.map_some,Option.some.injEq] at h
    have ⟨h1,h2⟩:=oz hd
    have h3:=gd l []
    rw [h] at h3
    have h4:=uv af
    have h5:=k.jv.r
    have h6:=k.jv.fs
    refine ⟨?_,h ▸ pe (fun _ h=>by cases h) h1⟩
    have : iA ([] : VL)=0:=rfl
    omega
theorem len (k : z.ok af vs) : z.mm.length=vs.length:=by have:=k.is.length_eq;unfold zD at this;rwa [List.length_map] at this
theorem DI (k : z.ok af vs) : z.mm.length≤200000:=by have:=k.len;have:=o7 vs;have:=k.sz.1;omega
theorem val (k : z.ok af vs) {x : aC} (h : x ∈ z.mm.map ME.val) : x.l.length≤1400000:=by
  obtain ⟨e,he,rfl⟩:=List.mem_map.1 h
  have:=o8 (k.is.mem_iff.1 (List.mem_map.2 ⟨e,he,rfl⟩))
  have:=k.sz.1
  dsimp only at *
  omega
theorem El (k : z.ok af vs) {u w : World} {S : List Nat} {M : List ai} (hw : Holds u S (z.E++M) w) : ∀ x ∈ z.mm.map ME.val,x.ok w:=
  k6 (A:=[⟨z.p,Row 108 z.cs,true⟩,⟨z.mb,dO (z.mm,z.c),true⟩]++cn z.j z.h z.bl []) (by
    have h:=hw.weak (M':=z.E) (ax _ _)
    unfold Sz.E at h
    simpa using h) k.h0
end Sz.ok
def CW (p mb : Nat) (cs : List Value) (z : MV × Nat) : List ai:=[⟨p,Row 108 cs,false⟩,⟨mb,dO z,false⟩]
theorem xW {z : Sz} {u w : World} {S : List Nat} {M : List ai} (hw : Holds u S (z.E++M) w) : Holds w [] (CW z.p z.mb z.cs (z.mm,z.c)) w:=
  (gH hw).weak (.keep _ _ _ _ _ _ (fun _ h=>h) (.keep _ _ _ _ _ _ (fun _ h=>h) (.nil _)))
theorem xX : dP Tryz.prog 104=true:=by kernel_rfl
theorem qY : dP Tryz.prog 100=true:=by kernel_rfl
theorem vD : aL Tryz.prog 35:=⟨_,Tryz.func35,rfl,by kernel_rfl⟩
theorem sZ : aL Tryz.prog 36:=⟨_,Tryz.func36,rfl,by kernel_rfl⟩
theorem zQ (o : Option aC) : qN (o.map aC.v) (.slice none 0 0) true=.tuple #[(o.getD bG).v,.bool o.isSome]:=by cases o <;> rfl
set_option maxHeartbeats 8000000 in
theorem zR (p mb : Nat) (j : Value) (mm : MV) (c : Nat) (key : Bk) (w : World) (h0 : Holds w [] (CW p mb [j,.map (some mb)] (mm,c)) w) (hv : ∀ x ∈ mm.map ME.val,x.ok w∧x.l.length≤4294967296) :
    Calls Tryz.prog 35 [Pt p 0,Z key].toArray w fun e w'=>∃ q : {q : Acc // q=none→((look mm key).getD bG).l=[]},e=.returned (.tuple #[ah q.1 ((look mm key).getD bG).l.length,.bool (look mm key).isSome])∧Holds w [] (aa 5 q.1 (((look mm key).getD bG).l.map U8)) w':=by
  have hs : ((look mm key).getD bG).ok w∧((look mm key).getD bG).l.length≤4294967296:=by
    cases h2 : look mm key with
    | none=>exact ⟨fO w,by show (0 : Nat)≤_;omega⟩
    | some s=>
      obtain ⟨e,he,_,h1⟩:=oZ h2
      exact hv s (List.mem_map.2 ⟨e,he,h1⟩)
  have hlv:=zQ (look mm key)
  refine enter (n:=20) Tryz.func35 rfl rfl rfl h0 ?_
  unfold CW
  generalize hsl : (look mm key).getD bG=sl at hs hlv
  generalize (look mm key).isSome=is at hlv
  repeat (first | refine JL.q (by first|(apply OQ.load;exact qY;rfl;exact .here;exact (Row.cell (v:=.map (some mb)) rfl))|(apply OQ.to;exact (OQ.look (ok:=true) Tryz.underlying100 Tryz.underlying9 xU rfl rfl (.there .here));exact hlv)|(apply OQ.extract;rfl;rfl)|(apply OQ.move;rfl)|(apply OQ.assign;rfl)|(apply OQ.aO;rfl)|(apply OQ.aV;rfl;rfl;rfl;exact (by decide);rfl)) rfl ?_ | refine JC.seq ?_ | refine JC.region ?_ | refine JL.nil ?_ | refine JE.next ?_)
  refine JL.bA (ι:={ q : Acc // q=none→sl.l=[] }) (vs:=[sl.v]) (fun q=>ah q.1 sl.l.length) (fun q=>aa 5 q.1 (sl.l.map U8)) mw rfl rfl (fun q=>aP _ _ _) (fun w' hw'=>(od sl w' (hs.1.holds hw' rfl) hs.2).mono fun e w2 ⟨q,h1,h2,h3⟩=>⟨⟨q,h2⟩,h1,h3⟩) fun q=>?_
  repeat (first | refine JL.q (by first|(apply OQ.move;rfl)|(apply OQ.assign;rfl)) rfl ?_ | refine JL.nil ?_ | refine JE.next ?_)
  exact JC.ret (JE.cw rfl (RV.tmp rfl) (RV.tmp rfl) fun w' hw=>⟨q,rfl,hw.weak (ax _ _)⟩)
set_option maxHeartbeats 8000000 in
theorem vE (p mb : Nat) (j : Value) (mm : MV) (c : Nat) (front : Bk) (w : World) (hf : WF mm c) (h0 : Holds w [] (CW p mb [j,.map (some mb)] (mm,c)) w) (hn : mm.length≤4294967296) :
    Calls Tryz.prog 36 [Pt p 0,Z front].toArray w fun e w'=>∃ q : {q : Acc // q=none→cz mm front=[]},e=.returned (ah q.1 (cz mm front).length)∧Holds w [] (aa 9 q.1 ((cz mm front).map Z)) w':=by
  refine enter (n:=11) Tryz.func36 rfl rfl rfl h0 ?_
  unfold CW
  repeat (first | refine JL.q (by first|(apply OQ.load;exact qY;rfl;exact .here;exact (Row.cell (v:=.map (some mb)) rfl))|(apply OQ.move;rfl)|(apply OQ.assign;rfl)|(apply OQ.aO;rfl)|(apply OQ.aV;rfl;rfl;rfl;exact (by decide);rfl)) rfl ?_ | refine JC.seq ?_ | refine JC.region ?_ | refine JL.nil ?_ | refine JE.next ?_)
  refine JL.bA (ι:={q : Acc // q=none→cz mm front=[]}) (vs:=[.map (some mb),Z front]) (fun q=>ah q.1 (cz mm front).length) (fun q=>aa 9 q.1 ((cz mm front).map Z)) ow rfl rfl (fun _=>aP _ _ _) (fun w' hw'=>qW mb mm c front w' hf (hw'.get (.there .here)) hn) fun q=>?_
  repeat (first | refine JL.q (by (apply OQ.assign;rfl)) rfl ?_ | refine JL.nil ?_ | refine JE.next ?_)
  exact JC.ret (JE.aR rfl (RV.tmp rfl) fun w' hw=>⟨q,rfl,hw.weak (ax _ _)⟩)
end
section
set_option maxRecDepth 10000
open Sl cY dy fI
def CX (q : Acc) (l : List aM) : ez:=match q with
  | none=>⟨none,0,[]⟩
  | some p=>⟨some ⟨p.1,0,none⟩,p.2,l⟩
theorem CY {q : Acc} {l : List aM} (h : q=none→l=[]) : (CX q l).l=l:=by
  cases q with
  | none=>exact (h rfl).symm
  | some p=>rfl
theorem CZ {q : Acc} {l : List aM} (h : q=none→l=[]) : (CX q l).v=ah q l.length:=by
  cases q with
  | none=>rw [h rfl];rfl
  | some p=>rfl
theorem xY {q : Acc} {l : List aM} {w0 w : World} {S : List Nat} {M : List ai} (h : q=none→l=[]) (hw : Holds w0 S (aY 78 3 q (l.map aM.cs)++M) w) (ha : ∀ p ∈ l,p.s.ok w) : (CX q l).ok w:=by
  cases q with
  | none=>exact ⟨Nat.le_refl _,Reads.nil _ _,nofun⟩
  | some p=>
    obtain ⟨o,ho,hA⟩:=hw.get (b:=p.1) (A:=Sl.Own 78 3 (l.map aM.cs).length p.2 (l.map aM.cs).flatten) (wr:=true) .here
    have hc:=hA
    obtain ⟨sp,_,_,_,h4⟩:=hc
    rw [List.length_map] at h4
    exact ⟨h4,Reads.block ho (Sl.Own.cells o hA),ha⟩
theorem s4 (A B : List ai) (c p m : ai) (J F : List ai) : (A++(B++(c::p::m::(J++F)))).Perm (J++(A++(B++(c::p::m::F)))):=by
  have:=List.perm_append_comm_assoc (A++(B++[c,p,m])) J F
  simpa using this
def Sz.put (z : Sz) (mc : MV × Nat) (h : Hf) (bl : List Bk) : Sz:=⟨z.p,z.mb,mc.1,mc.2,z.j,h,bl⟩
theorem vF : aL Tryz.prog 60:=⟨_,Tryz.func60,rfl,by kernel_rfl⟩
def bO (vs : VL) (l : List Pq) : Bk:=aZ (cH (cy vs l))
def vG (z : Sz) (b : Bk) : Nat × Sz:=if z.h.size<nb b.length∨gm z.bl=4294967295#32 then (6,z) else (0,z.put (z.mm,z.c) (mq z.h z.bl b) (mu z.h z.bl b))
set_option maxHeartbeats 16000000 in
theorem xZ (z : Sz) (af : List Bk) (vs : VL) (k : z.ok af vs) (s : ez) (w : World) (hs : s.ok w) (ha : jM s (keys z.E)) (hok : fV s.ps=true) (hz : iz s.ps≤2500000) (h0 : Holds w (keys z.E) z.E w) :
    Calls Tryz.prog 60 [Pt z.p 0,s.v].toArray w fun e w'=>e=.returned (N (vG z (bO vs s.ps)).1)∧Holds w (keys z.E) (vG z (bO vs s.ps)).2.E w':=by
  generalize hS : keys z.E=S at h0 ha ⊢
  have hsl : s.l.length≤400000:=by
    have h1 : 7 * s.ps.length≤iz s.ps:=by
      generalize s.ps=l
      induction l with
      | nil=>simp [iz]
      | cons p l ih=>rw [eC,List.length_cons];unfold sX;omega
    unfold ez.ps at h1 hz
    rw [List.length_map] at h1
    omega
  have hsv : ∀ p ∈ s.l,p.s.l.length≤2500000:=fun p hp=>by
    have : ∀ l : List Pq,∀ q ∈ l,q.val.length≤iz l:=by
      intro l
      induction l with
      | nil=>intro q h;cases h
      | cons x l ih=>
        intro q h
        rw [eC]
        rcases List.mem_cons.1 h with rfl | h
        · unfold sX;omega
        · have:=ih q h;omega
    have:=this s.ps p.p (List.mem_map_of_mem hp)
    unfold aM.p at this
    dsimp only at this
    omega
  have hwf:=lu s.l (z:=(z.mm,z.c)) k.wf
  have his:=lz s.l (z:=(z.mm,z.c)) k.wf k.mN k.is
  have hsrt:=ir (l:=s.ps) k.mN
  have hps:=vw hwf hsrt his
  have hsz:=gd s.ps vs
  have hvz:=k.sz
  have hlen2 : (aN (cJ (z.mm,z.c) s.l).1).length≤600000:=by
    have h1:=congrArg List.length hps
    rw [List.length_map] at h1
    unfold cH at h1
    rw [List.length_map] at h1
    have:=o7 (cy vs s.ps)
    omega
  have hmlen : (cJ (z.mm,z.c) s.l).1.length≤600000:=by
    have h1:=his.length_eq
    unfold zD at h1
    rw [List.length_map] at h1
    have h2 : (s.l.map aM.p)=s.ps:=rfl
    rw [h2] at h1
    have:=o7 (cy vs s.ps)
    omega
  have hval : ∀ p ∈ aN (cJ (z.mm,z.c) s.l).1,p.s.l.length≤4000000:=fun p hp=>by
    have h1 : p.p ∈ cH (cy vs s.ps):=hps ▸ List.mem_map_of_mem hp
    obtain ⟨q,hq,e⟩:=List.mem_map.1 h1
    have h2:=o8 hq
    have h3 : q.2.length=p.s.l.length:=by rw [show p.s.l=p.p.val from rfl,← e]
    omega
  have hok2 : fV (cH (cy vs s.ps))=true:=oy (pe hvz.2 hok)
  have hin : ∀ p ∈ aN (cJ (z.mm,z.c) s.l).1,p.s=bG∨p.s ∈ z.mm.map ME.val∨∃ y ∈ s.l,p.s=y.s:=fun p hp=>by
    rcases vz hp with h | h
    · exact .inl h
    · obtain ⟨r,hr⟩:=gY s.l (z:=(z.mm,z.c)) k.wf
      rcases List.mem_append.1 (hr.mem_iff.1 (List.mem_append_left r h)) with h | h
      · exact .inr (.inl h)
      · obtain ⟨y,hy,e⟩:=List.mem_map.1 h
        exact .inr (.inr ⟨y,hy,e.symm⟩)
  unfold bO
  rw [← hps]
  rw [← hps] at hok2
  obtain ⟨mc,hmc⟩ : ∃ mc,cJ (z.mm,z.c) s.l=mc:=⟨_,rfl⟩
  rw [hmc] at hwf his hps hlen2 hmlen hval hin hok2 ⊢
  refine enter (n:=24) Tryz.func60 rfl rfl rfl h0 ?_
  show JC _ _ _ _ _ _ _ (⟨z.p,Row 108 z.cs,true⟩::⟨z.mb,dO (z.mm,z.c),true⟩::(cn z.j z.h z.bl []++ay (z.mm.map ME.val)))
  repeat (first | refine JL.q (by first|(apply OQ.load;exact qY;rfl;exact .here;exact (Row.cell (v:=.map (some z.mb)) rfl))|(apply OQ.move;rfl)|(apply OQ.assign;rfl)|(apply OQ.aO;rfl)|(apply OQ.aV;rfl;rfl;rfl;exact (by decide);rfl)) rfl ?_ | refine JC.seq ?_ | refine JC.region ?_ | refine JL.nil ?_ | refine JE.next ?_)
  refine JL.bA (ι:=Nat) (vs:=[.map (some z.mb),s.v]) (fun b'=>.map (some b')) (fun b'=>[⟨b',dO mc,true⟩]) qP rfl rfl (by simp) (fun w' hw'=>by have:=sN z.mb (z.mm,z.c) s w' (hw'.get (.there .here)) (hs.iY hw' ha) (by omega);rwa [hmc] at this) fun b'=>?_
  refine JL.bA (ι:={q : Acc // q=none→aN mc.1=[]}) (vs:=[.map (some b')]) (fun q=>ah q.1 (aN mc.1).length) (fun q=>aY 78 3 q.1 ((aN mc.1).map aM.cs)) sW rfl rfl (fun _=>jy _ _ _ _) (fun w' hw'=>vC b' mc.1 mc.2 w' hwf (hw'.get .here) (by omega)) fun q2=>?_
  obtain ⟨q2,hq2⟩:=q2
  dsimp only
  have hv2:=CZ hq2
  have hl2:=CY hq2
  have hps2 : (CX q2 (aN mc.1)).ps=(aN mc.1).map aM.p:=by unfold ez.ps;rw [hl2]
  refine JL.bA (ι:={q : Acc // q=none→aZ ((aN mc.1).map aM.p)=[]}) (vs:=[(CX q2 (aN mc.1)).v]) (fun q=>.tuple #[ah q.1 (aZ ((aN mc.1).map aM.p)).length,N 0]) (fun q=>aa 5 q.1 ((aZ ((aN mc.1).map aM.p)).map U8)) kq (by rw [hv2];rfl) rfl (fun _=>aP _ _ _) (fun w' hw'=>?_) fun q3=>?_
  · have hz' : Holds w S (([⟨b',dO mc,true⟩]++(aY 78 3 q2 ((aN mc.1).map aM.cs)))++(z.E++[])) w':=by
      rw [List.append_nil]
      refine hw'.perm' ?_
      rw [← List.append_assoc]
      exact (List.perm_append_comm).append_right _
    have hvok:=k.El (M:=[]) (hz'.weak (av _ (aj.refl _)))
    have hsok:=hs.iY hw' ha
    have hg:=xY hq2 hw' fun p hp=>by
      rcases hin p hp with h | h | ⟨y,hy,h⟩
      · rw [h];exact fO _
      · exact hvok _ h
      · rw [h];exact hsok.all y hy
    have:=mH _ w' hg (by rw [hl2];omega) (by rw [hl2];exact hval)
    rw [hps2,hok2] at this
    exact this
  obtain ⟨q3,hq3⟩:=q3
  dsimp only
  have hrl : (aZ ((aN mc.1).map aM.p)).length<4611686018427387904:=by
    rw [hps,o9,ox]
    omega
  generalize aZ ((aN mc.1).map aM.p)=rec at hq3 hrl ⊢
  have hfs:=k.jv.fs
  have hl3:=gI hq3
  have hv3:=iT q3 rec
  have hwr:=aP 5 q3 (rec.map U8)
  repeat (first | refine JL.q (by first|(apply OQ.extract;rfl;rfl)|(apply OQ.load;exact xX;rfl;exact (aG (aG (.there .here)));exact (Row.cell (v:=Pt z.j 0) rfl))|(apply OQ.move;rfl)|(apply OQ.assign;rfl)|(apply OQ.aO;rfl)|(apply OQ.aV;rfl;rfl;rfl;exact (by decide);rfl)) rfl ?_ | refine JC.seq ?_ | refine JC.region ?_ | refine JL.nil ?_ | refine JE.next ?_)
  unfold vG
  by_cases hno : z.h.size<nb rec.length∨gm z.bl=4294967295#32
  · rw [if_pos hno]
    have cN : ∀ w',Holds w S (aa 5 q3 (rec.map U8)++(aY 78 3 q2 ((aN mc.1).map aM.cs)++(⟨b',dO mc,true⟩::⟨z.p,Row 108 z.cs,true⟩::⟨z.mb,dO (z.mm,z.c),true⟩::(cn z.j z.h z.bl []++ay (z.mm.map ME.val))))) w'→Calls Tryz.prog 91 [Pt z.j 0,ah q3 rec.length].toArray w' fun e w2=>e=.returned (N 6)∧Ext w' w2:=fun w' hw'=>by
      have:=Bq z.j z.h z.bl [] (aI q3 rec) k.dk.ok k.jv.n5 (by omega) (by rw [hl3];exact hrl) (by rw [hl3];exact hno) w' (sD (hw'.perm' (s4 _ _ _ _ _ _ _)))
      rwa [hv3] at this
    repeat (first | refine JL.q (by first|(apply OQ.aF (vs:=[Pt z.j 0,ah q3 rec.length]);exact qD;rfl;exact (fun w' hw'=>cN w' hw'))|(apply OQ.assign;rfl)) rfl ?_ | refine JL.nil ?_ | refine JE.next ?_)
    exact JC.ret (JE.aR rfl (RV.tmp rfl) fun w' hw=>⟨rfl,hw.weak (av _ (av _ (.drop _ _ _ (aj.refl _))))⟩)
  · rw [if_neg hno]
    refine JL.perm (M':=cn z.j z.h z.bl []++(aa 5 q3 (rec.map U8)++(aY 78 3 q2 ((aN mc.1).map aM.cs)++(⟨b',dO mc,true⟩::⟨z.p,Row 108 z.cs,true⟩::⟨z.mb,dO (z.mm,z.c),true⟩::ay (z.mm.map ME.val))))) ?_ (s4 _ _ _ _ _ _ _)
    refine JL.DG (s:=aI q3 rec) k.jv k.dk (by decide) (by rw [hl3];exact hno) (fun w' hw'=>?_) rfl (by rw [hv3];rfl) rfl ?_
    · refine ⟨fR (hw'.weak (av _ (aj.refl _))),?_⟩
      intro h0' a ea
      cases q3 with
      | none=>cases ea
      | some p=>
        have e : a=⟨p.1,0,none⟩:=by cases ea;rfl
        rw [e]
        exact cr (b:=p.1) (A:=Sl.Own 5 1 (rec.map U8).length p.2 (rec.map U8)) hw' .here
    rw [hl3]
    repeat (first | refine JL.q (by (apply OQ.assign;rfl)) rfl ?_ | refine JL.nil ?_ | refine JE.next ?_)
    exact JC.ret (JE.aR rfl (RV.tmp rfl) fun w' hw=>⟨rfl,(hw.perm' (s4 _ _ _ _ _ _ _).symm).weak (av _ (av _ (.drop _ _ _ (aj.refl _))))⟩)
end
section
set_option maxRecDepth 10000
open Sl cY dy fI
theorem lC {w0 w : World} {S : List Nat} {X M : List ai} {z : Gp} (hw : Holds w0 S (X++(z.E++M)) w) : jM z.s (keys X):=by
  have key : ∀ b,b ∈ z.E.map ai.b→b ∉ keys X:=fun b hb hm=>by
    have hn:=hw.nodup
    rw [List.map_append,List.nodup_append] at hn
    exact hn.2.2 b hm b (by rw [List.map_append];exact List.mem_append_left _ hb) rfl
  have hl:=z.AL
  obtain ⟨q,ps,hq,h0⟩:=z
  refine ⟨fun _ a ha=>?_,fun y hy h0 a ha=>?_⟩
  · cases q with
    | none=>cases ha
    | some p=>
      have : a=⟨p.1,0,none⟩:=by cases ha;rfl
      rw [this]
      exact key p.1 (by unfold Gp.E;rw [List.map_append];exact List.mem_append_left _ (by simp [aY]))
  · have hy' : y ∈ ps:=by rwa [hl] at hy
    refine key a.block ?_
    unfold Gp.E
    rw [List.map_append]
    refine List.mem_append_right _ ?_
    unfold ay
    rw [List.map_flatMap,List.mem_flatMap]
    exact ⟨y.s,List.mem_map_of_mem hy',by unfold aC.dQ;rw [ha];simp⟩
def Step (z : Sz) (af : List Bk) (vs : VL) (ps : List Pq) (code : Nat) (z' : Sz) (bh : List Bk) (vs' : VL) : Prop:=
  z'.ok bh vs'∧z'.p=z.p∧
  ((z'=z∧bh=af∧vs'=vs∧((fV ps=false∧code=1)∨(fV ps=true∧code=6∧¬ nb (aZ ps).length≤z.h.size - z.h.used∧mo z.h z.bl (bO vs ps).length)))∨
   (fV ps=true∧code=0∧vs'=cy vs ps∧
     ((nb (aZ ps).length≤z.h.size - z.h.used∧z'.h=qE z.h (aZ ps)∧z'.bl=iI z.h z.bl (aZ ps)∧bh=af++[aZ ps])∨
      (¬ nb (aZ ps).length≤z.h.size - z.h.used∧¬ mo z.h z.bl (bO vs ps).length∧z'.h=mq z.h z.bl (bO vs ps)∧z'.bl=mu z.h z.bl (bO vs ps)∧bh=[bO vs ps]))))
structure mQ (z : Sz) (af : List Bk) (vs : VL) (ps : List Pq) where
  code : Nat
  z' : Sz
  bh : List Bk
  vs' : VL
  st : Step z af vs ps code z' bh vs'
theorem s6 {af : List Bk} {vs : VL} {r : Bk} {l : List Pq} (h : ew af=some vs) (hd : dec r=some l) : ew (af++[r])=some (cy vs l):=by
  unfold ew at *
  rw [dF,jd,hd]
  cases h1 : aU af with
  | none=>rw [h1] at h;cases h
  | some a=>
    rw [h1,Option.map_some,Option.some.injEq] at h
    simp only [Option.map_some,Option.some.injEq]
    rw [mD,h]
theorem qZ {vs : VL} (hs : ji vs) (hk : okV vs) (hz : iA vs<4294967296) : ew [aZ (cH vs)]=some vs:=by
  unfold ew
  rw [jd,oS (oy hk) fun p hp=>by
    obtain ⟨q,hq,rfl⟩:=List.mem_map.1 hp
    have:=o8 hq
    show q.2.length<_
    omega]
  simp only [Option.map_some,Option.some.injEq]
  exact zu hs
theorem mR {a b : List aC} (h : a.Perm b) : (ay a).Perm (ay b):=h.flatMap_right _
theorem fH (a b : List aC) : ay (a++b)=ay a++ay b:=List.flatMap_append
theorem Holds.values {w0 w : World} {S : List Nat} {A : List ai} {mc : MV × Nat} {l : List aM} (hf : WF mc.1 mc.2) (h : Holds w0 S (A++(ay (mc.1.map ME.val)++ay (l.map aM.s))) w) : Holds w0 S (A++ay ((cJ mc l).1.map ME.val)) w:=by
  obtain ⟨r,hr⟩:=gY l hf
  rw [← fH] at h
  have h2:=h.perm' ((mR hr.symm).append_left A)
  rw [fH,← List.append_assoc] at h2
  exact h2.weak (ax _ _)
theorem Sz.ok.step {z : Sz} {af : List Bk} {vs : VL} (k : z.ok af vs) {l : List aM} (h0 : ∀ p ∈ l,p.s.ad=none→p.s.l=[]) {h : Hf} {bl bh : List Bk} (jv : Jv h bl bh) (dk : bB h.x bl []) (hv : ew bh=some (cy vs (l.map aM.p))) :
    (z.put (cJ (z.mm,z.c) l) h bl).ok bh (cy vs (l.map aM.p)) where
  wf:=lu l (z:=(z.mm,z.c)) k.wf
  is:=lz l (z:=(z.mm,z.c)) k.wf k.mN k.is
  mN:=ir k.mN
  h0:=fun x hx=>by
    obtain ⟨r,hr⟩:=gY l (z:=(z.mm,z.c)) k.wf
    rcases List.mem_append.1 (hr.mem_iff.1 (List.mem_append_left r hx)) with h1 | h1
    · exact k.h0 x h1
    · obtain ⟨p,hp,rfl⟩:=List.mem_map.1 h1
      exact h0 p hp
  jv:=jv
  dk:=dk
  vals:=hv
theorem x5 : aL Tryz.prog 31:=⟨_,Tryz.func31,rfl,by kernel_rfl⟩
theorem s7 (A B : List ai) (p m : ai) (J F : List ai) : (A++(B++(p::m::(J++F)))).Perm (J++(A++(B++(p::m::F)))):=by
  have:=List.perm_append_comm_assoc (A++(B++[p,m])) J F
  simpa using this
theorem x6 (J A B : List ai) (p m : ai) (F : List ai) : (J++(A++(B++(p::m::F)))).Perm (m::(J++(A++(B++(p::F))))):=by
  have:=List.perm_middle (a:=m) (l₁:=J++(A++(B++[p]))) (l₂:=F)
  simpa using this
theorem BP (m p : ai) (J C G A F : List ai) : (m::(J++((C++G)++(A++(p::F))))).Perm (((p::m::J)++(F++G))++(C++A)):=by
  have h1:=List.perm_middle (a:=p) (l₁:=m::(J++((C++G)++A))) (l₂:=F)
  have h2 : ((C++G)++A++F).Perm (F++G++(C++A)):=by
    refine List.perm_append_comm.trans ?_
    have h3 : ((C++G)++A).Perm (G++C++A):=List.perm_append_comm.append_right _
    have:=h3.append_left F
    simpa using this
  have h4:=(h2.append_left J).cons m |>.cons p
  have e1 : m::(J++((C++G)++(A++(p::F))))=(m::(J++((C++G)++A)))++(p::F):=by simp
  have e2 : ((p::m::J)++(F++G))++(C++A)=p::m::(J++(F++G++(C++A))):=by simp
  rw [e1,e2]
  refine h1.trans ?_
  have e3 : p::(m::(J++((C++G)++A))++F)=p::m::(J++((C++G)++A++F)):=by simp
  rw [e3]
  exact h4
theorem Sz.close {z : Sz} {g : Gp} {A : List ai} {h : Hf} {bl : List Bk} {w0 w : World} {S : List Nat} (hf : WF z.mm z.c) (hw : Holds w0 S (⟨z.mb,dO (cJ (z.mm,z.c) g.ps),true⟩::(cn z.j h bl []++(g.E++(A++(⟨z.p,Row 108 z.cs,true⟩::ay (z.mm.map ME.val)))))) w) : Holds w0 S (z.put (cJ (z.mm,z.c) g.ps) h bl).E w:=by
  have h1:=(hw.perm' (BP _ _ _ _ _ _ _)).weak (ax _ _)
  exact Holds.values (mc:=(z.mm,z.c)) (l:=g.ps) hf h1
set_option maxHeartbeats 16000000 in
theorem zS (z : Sz) (af : List Bk) (vs : VL) (k : z.ok af vs) (s : ez) (w : World) (hs : s.ok w) (ha : jM s (keys z.E)) (hz : iz s.ps≤2500000) (h0 : Holds w (keys z.E) z.E w) :
    Calls Tryz.prog 31 [Pt z.p 0,s.v].toArray w fun e w'=>∃ r : mQ z af vs s.ps,e=.returned (N r.code)∧Holds w (keys z.E) r.z'.E w':=by
  generalize hS : keys z.E=S at h0 ha ⊢
  have hsl : s.l.length≤400000:=by
    have h1 : 7 * s.ps.length≤iz s.ps:=by
      generalize s.ps=l
      induction l with
      | nil=>simp [iz]
      | cons p l ih=>rw [eC,List.length_cons];unfold sX;omega
    unfold ez.ps at h1 hz
    rw [List.length_map] at h1
    omega
  have hsv : ∀ q ∈ s.ps,q.val.length≤2500000:=fun q hq=>by
    have : ∀ l : List Pq,∀ q ∈ l,q.val.length≤iz l:=by
      intro l
      induction l with
      | nil=>intro q h;cases h
      | cons x l ih=>
        intro q h
        rw [eC]
        rcases List.mem_cons.1 h with rfl | h
        · unfold sX;omega
        · have:=ih q h;omega
    have:=this s.ps q hq
    omega
  refine enter (n:=47) Tryz.func31 rfl rfl rfl h0 ?_
  show JC _ _ _ _ _ _ _ (⟨z.p,Row 108 z.cs,true⟩::⟨z.mb,dO (z.mm,z.c),true⟩::(cn z.j z.h z.bl []++ay (z.mm.map ME.val)))
  repeat (first | refine JL.q (by first|(apply OQ.move;rfl)|(apply OQ.assign;rfl)) rfl ?_ | refine JC.seq ?_ | refine JC.region ?_ | refine JL.nil ?_ | refine JE.next ?_)
  cases hok : fV s.ps
  case false=>
    refine JL.bA (ι:=Acc) (vs:=[s.v]) (fun q=>.tuple #[ah q 0,N 1]) (fun q=>aa 5 q []) kq rfl rfl (fun _=>aP _ _ _) (fun w' hw'=>?_) fun q=>?_
    · have:=mH s w' (hs.iY hw' ha) (by omega) (fun p hp=>by have:=hsv p.p (List.mem_map_of_mem hp);unfold aM.p at this;dsimp only at this;omega)
      rw [hok] at this
      exact this.mono fun e w2 ⟨q,h1,h2⟩=>⟨q.1,h1,h2⟩
    repeat (first | refine JL.q (by first|(apply OQ.extract;rfl;rfl)|(apply OQ.fQ (a:=1) (b:=0) (c:=false);rfl;rfl;rfl)|(apply OQ.move;rfl)|(apply OQ.assign;rfl)) rfl ?_ | refine JC.seq ?_ | refine JC.region ?_ | refine JL.nil ?_ | refine JE.next ?_)
    refine JC.cond_true rfl rfl ?_
    repeat (first | refine JL.q (by first|(apply OQ.move;rfl)|(apply OQ.assign;rfl)) rfl ?_ | refine JC.seq ?_ | refine JC.region ?_ | refine JL.nil ?_ | refine JE.next ?_)
    refine JC.ret ?_
    repeat (refine JE.aA ?_)
    exact JE.aR rfl (RV.tmp rfl) fun w' hw=>⟨⟨1,z,af,vs,k,rfl,.inl ⟨rfl,rfl,rfl,.inl ⟨hok,rfl⟩⟩⟩,rfl,hw.weak (av _ (aj.refl _))⟩
  refine JL.bA (ι:={q : Acc // q=none→aZ s.ps=[]}) (vs:=[s.v]) (fun q=>.tuple #[ah q.1 (aZ s.ps).length,N 0]) (fun q=>aa 5 q.1 ((aZ s.ps).map U8)) kq rfl rfl (fun _=>aP _ _ _) (fun w' hw'=>?_) fun q1=>?_
  · have:=mH s w' (hs.iY hw' ha) (by omega) (fun p hp=>by have:=hsv p.p (List.mem_map_of_mem hp);unfold aM.p at this;dsimp only at this;omega)
    rw [hok] at this
    exact this
  obtain ⟨q1,hq1⟩:=q1
  dsimp only
  have hdec : dec (aZ s.ps)=some s.ps:=oS hok fun p hp=>by have:=hsv p hp;omega
  have hrl : (aZ s.ps).length≤2500000:=by rw [o9];exact hz
  have hl1:=gI hq1
  have hv1:=iT q1 (aZ s.ps)
  repeat (first | refine JL.q (by first|(apply OQ.extract;rfl;rfl)|(apply OQ.fQ (a:=0) (b:=0) (c:=true);rfl;rfl;rfl)|(apply OQ.move;rfl)|(apply OQ.assign;rfl)) rfl ?_ | refine JC.seq ?_ | refine JC.region ?_ | refine JL.nil ?_ | refine JE.next ?_)
  refine JC.cond_false rfl rfl ?_
  repeat (first | refine JL.q (by (apply OQ.move;rfl)) rfl ?_ | refine JC.seq ?_ | refine JC.region ?_ | refine JC.skip ?_ | refine JE.next ?_)
  refine JL.bA (ι:=zC (some s.ps)) (vs:=[(aI q1 (aZ s.ps)).v]) (fun g=>sK (some s.ps) g.1) (fun g=>g.1.E) ku (by rw [hv1];rfl) rfl (fun g=>g.1.wr) (fun w' hw'=>?_) fun g=>?_
  · have:=mI (aI q1 (aZ s.ps)) w' (fR hw') (by rw [hl1];omega)
    rw [hl1,hdec] at this
    exact this
  obtain ⟨g,hg⟩:=g
  have hg : g.l=s.ps:=hg
  dsimp only [sK]
  have hfs:=k.jv.fs
  have hju:=k.jv.u;have hjr:=k.jv.r
  have hps : g.ps.map aM.p=s.ps:=hg
  have hgl : g.ps.length≤4294967296:=by
    have:=congrArg List.length hps
    unfold ez.ps at this
    rw [List.length_map,List.length_map] at this
    omega
  have hq0 : q1=none→(aZ s.ps).length=0:=fun e=>by rw [hq1 e];rfl
  have cF : ∀ w',Holds w S (g.E++(aa 5 q1 ((aZ s.ps).map U8)++(⟨z.p,Row 108 z.cs,true⟩::⟨z.mb,dO (z.mm,z.c),true⟩::(cn z.j z.h z.bl []++ay (z.mm.map ME.val))))) w'→Calls Tryz.prog 58 [Pt z.j 0,N (aZ s.ps).length].toArray w' fun e w2=>e=.returned (.bool (decide (nb (aZ s.ps).length≤z.h.size - z.h.used)))∧Ext w' w2:=fun w' hw'=>
    qC z.j z.h _ (by omega) (by omega) (by omega) w' (xg (hw'.perm' (s7 _ _ _ _ _ _)))
  obtain ⟨fit,g1⟩ : ∃ c,decide (nb (aZ s.ps).length≤z.h.size - z.h.used)=c:=⟨_,rfl⟩
  rw [g1] at cF
  repeat (first | refine JL.q (by first|(apply OQ.extract;rfl;rfl)|(apply OQ.load;exact xX;rfl;exact (aG (aG .here));exact (Row.cell (v:=Pt z.j 0) rfl))|(apply OQ.iV (q:=q1) (k:=(aZ s.ps).length);exact Tryz.underlying24;exact hq0;rfl)|(apply OQ.aF (vs:=[Pt z.j 0,N (aZ s.ps).length]);exact nY;rfl;exact (fun w' hw'=>cF w' hw'))|(apply OQ.move;rfl)|(apply OQ.assign;rfl)|(apply OQ.aO;rfl)|(apply OQ.aV;rfl;rfl;rfl;exact (by decide);rfl)) rfl ?_ | refine JC.seq ?_ | refine JC.region ?_ | refine JL.nil ?_ | refine JE.next ?_)
  have hgS : g.v=g.s.v:=g.sw.symm
  cases fit
  case true=>
    have hfit:=of_decide_eq_true g1
    refine JC.cond_true rfl rfl ?_
    repeat (first | refine JL.q (by first|(apply OQ.load;exact xX;rfl;exact (aG (aG .here));exact (Row.cell (v:=Pt z.j 0) rfl))|(apply OQ.move;rfl)|(apply OQ.aO;rfl)|(apply OQ.aV;rfl;rfl;rfl;exact (by decide);rfl)) rfl ?_ | refine JC.region ?_)
    refine JL.perm (M':=cn z.j z.h z.bl []++(g.E++(aa 5 q1 ((aZ s.ps).map U8)++(⟨z.p,Row 108 z.cs,true⟩::⟨z.mb,dO (z.mm,z.c),true⟩::ay (z.mm.map ME.val))))) ?_ (s7 _ _ _ _ _ _)
    refine JL.DF (s:=aI q1 (aZ s.ps)) k.jv k.dk (by decide) (by rw [hl1];exact hfit) (fun w' hw'=>?_) rfl (by rw [hv1];rfl) rfl ?_
    · refine ⟨fR (hw'.weak (av _ (av _ (aj.refl _)))),?_⟩
      intro h0' a ea
      cases q1 with
      | none=>cases ea
      | some p=>
        have e : a=⟨p.1,0,none⟩:=by cases ea;rfl
        rw [e]
        exact cr (b:=p.1) (A:=Sl.Own 5 1 ((aZ s.ps).map U8).length p.2 ((aZ s.ps).map U8)) hw' (aG .here)
    rw [hl1]
    obtain ⟨HJ,hHJ⟩ : ∃ HJ,cn z.j (qE z.h (aZ s.ps)) (iI z.h z.bl (aZ s.ps)) []=HJ:=⟨_,rfl⟩
    rw [hHJ]
    refine JL.perm (M':=⟨z.mb,dO (z.mm,z.c),true⟩::(HJ++(g.E++(aa 5 q1 ((aZ s.ps).map U8)++(⟨z.p,Row 108 z.cs,true⟩::ay (z.mm.map ME.val)))))) ?_ (x6 _ _ _ _ _ _)
    repeat (first | refine JL.q (by first|(apply OQ.iC (a:=0) (b:=0) (c:=true);rfl;rfl;rfl)|(apply OQ.move;rfl)|(apply OQ.assign;rfl)) rfl ?_ | refine JC.seq ?_ | refine JC.region ?_ | refine JL.nil ?_ | refine JE.next ?_)
    refine JC.cond_true rfl rfl ?_
    repeat (first | refine JL.q (by first|(apply OQ.load;exact qY;rfl;exact (.there (aG (aG (aG .here))));exact (Row.cell (v:=.map (some z.mb)) rfl))|(apply OQ.move;rfl)|(apply OQ.aO;rfl)|(apply OQ.aV;rfl;rfl;rfl;exact (by decide);rfl)) rfl ?_ | refine JC.region ?_)
    refine JL.bE (ι:=Unit) (X:=[⟨z.mb,dO (z.mm,z.c),true⟩]) (vs:=[.map (some z.mb),g.v]) (fun _=>.tuple #[]) (fun _=>[⟨z.mb,dO (cJ (z.mm,z.c) g.ps),true⟩]) lB rfl rfl (by simp) (by simp) (fun w' h1 hw'=>?_) fun _=>?_
    · have h2 : Holds w S ([⟨z.mb,dO (z.mm,z.c),true⟩]++(g.E++(HJ++(aa 5 q1 ((aZ s.ps).map U8)++(⟨z.p,Row 108 z.cs,true⟩::ay (z.mm.map ME.val)))))) w':=h1.perm' ((List.perm_append_comm_assoc HJ g.E _).cons _)
      have hgo:=Gp.ok h2
      have hga:=lC h2
      have:=oU g.s z.mb z.mm z.c w' hgo (by rw [g.AL];exact hgl) hga hw'
      rw [g.sw,g.AL] at this
      exact this.mono fun _ _ ⟨h1,h2⟩=>⟨(),h1,h2⟩
    repeat (first | refine JL.q (by first|(apply OQ.move;rfl)|(apply OQ.assign;rfl)) rfl ?_ | refine JC.seq ?_ | refine JC.region ?_ | refine JL.nil ?_ | refine JE.next ?_)
    refine JC.ret (JE.aR rfl (RV.tmp rfl) fun w' hw=>⟨⟨0,z.put (cJ (z.mm,z.c) g.ps) (qE z.h (aZ s.ps)) (iI z.h z.bl (aZ s.ps)),af++[aZ s.ps],cy vs s.ps,?_,rfl,.inr ⟨hok,rfl,rfl,.inl ⟨hfit,rfl,rfl,rfl⟩⟩⟩,rfl,?_⟩)
    · have:=k.step g.h0 (k.jv.app hfit) (k.dk.app k.jv hfit) (bh:=af++[aZ s.ps]) (by rw [hps];exact s6 k.vals hdec)
      rwa [hps] at this
    · rw [← hHJ] at hw
      exact Sz.close k.wf hw
  case false=>
    have hfit:=of_decide_eq_false g1
    refine JC.cond_false rfl rfl ?_
    repeat (first | refine JL.q (by (apply OQ.move;rfl)) rfl ?_ | refine JC.region ?_)
    refine JL.perm (M':=z.E++(g.E++aa 5 q1 ((aZ s.ps).map U8))) ?_ (by
      show _
      have:=List.perm_append_comm (l₁:=g.E++aa 5 q1 ((aZ s.ps).map U8)) (l₂:=z.E)
      rw [List.append_assoc] at this
      exact this)
    refine JL.bE (ι:=Unit) (X:=z.E) (vs:=[Pt z.p 0,g.v]) (fun _=>N (vG z (bO vs s.ps)).1) (fun _=>(vG z (bO vs s.ps)).2.E) vF rfl rfl z.wr (fun _=>Sz.wr _) (fun w' h1 hw'=>?_) fun _=>?_
    · have hgo:=Gp.ok (M:=aa 5 q1 ((aZ s.ps).map U8)) h1
      have hga:=lC h1
      have:=xZ z af vs k g.s w' hgo hga (by rw [g.BC,hg];exact hok) (by rw [g.BC,hg];exact hz) hw'
      rw [g.sw,g.BC,hg] at this
      exact this.mono fun _ _ ⟨h1,h2⟩=>⟨(),h1,h2⟩
    unfold vG
    by_cases hno : z.h.size<nb (bO vs s.ps).length∨gm z.bl=4294967295#32
    · rw [if_pos hno]
      repeat (first | refine JL.q (by first|(apply OQ.iC (a:=6) (b:=0) (c:=false);rfl;rfl;rfl)|(apply OQ.move;rfl)|(apply OQ.assign;rfl)) rfl ?_ | refine JC.seq ?_ | refine JC.region ?_ | refine JL.nil ?_ | refine JE.next ?_)
      refine JC.cond_false rfl rfl ?_
      repeat (first | refine JL.q (by first|(apply OQ.move;rfl)|(apply OQ.assign;rfl)) rfl ?_ | refine JC.seq ?_ | refine JC.region ?_ | refine JC.skip ?_ | refine JL.nil ?_ | refine JE.next ?_)
      exact JC.ret (JE.aR rfl (RV.tmp rfl) fun w' hw=>⟨⟨6,z,af,vs,k,rfl,.inl ⟨rfl,rfl,rfl,.inr ⟨hok,rfl,hfit,hno⟩⟩⟩,rfl,hw.weak (ax _ _)⟩)
    · rw [if_neg hno]
      obtain ⟨HJ,hHJ⟩ : ∃ HJ,cn z.j (mq z.h z.bl (bO vs s.ps)) (mu z.h z.bl (bO vs s.ps)) []=HJ:=⟨_,rfl⟩
      refine JL.perm (M':=⟨z.mb,dO (z.mm,z.c),true⟩::(HJ++(g.E++(aa 5 q1 ((aZ s.ps).map U8)++(⟨z.p,Row 108 z.cs,true⟩::ay (z.mm.map ME.val)))))) ?_ (by
        rw [← hHJ]
        refine List.Perm.trans ?_ (x6 _ _ _ _ _ _)
        refine List.Perm.trans (List.perm_append_comm (l₁:=(z.put (z.mm,z.c) (mq z.h z.bl (bO vs s.ps)) (mu z.h z.bl (bO vs s.ps))).E)) ?_
        rw [List.append_assoc]
        exact s7 _ _ _ _ _ _)
      repeat (first | refine JL.q (by first|(apply OQ.iC (a:=0) (b:=0) (c:=true);rfl;rfl;rfl)|(apply OQ.move;rfl)|(apply OQ.assign;rfl)) rfl ?_ | refine JC.seq ?_ | refine JC.region ?_ | refine JL.nil ?_ | refine JE.next ?_)
      refine JC.cond_true rfl rfl ?_
      repeat (first | refine JL.q (by first|(apply OQ.load;exact qY;rfl;exact (.there (aG (aG (aG .here))));exact (Row.cell (v:=.map (some z.mb)) rfl))|(apply OQ.move;rfl)|(apply OQ.aO;rfl)|(apply OQ.aV;rfl;rfl;rfl;exact (by decide);rfl)) rfl ?_ | refine JC.region ?_)
      refine JL.bE (ι:=Unit) (X:=[⟨z.mb,dO (z.mm,z.c),true⟩]) (vs:=[.map (some z.mb),g.v]) (fun _=>.tuple #[]) (fun _=>[⟨z.mb,dO (cJ (z.mm,z.c) g.ps),true⟩]) lB rfl rfl (by simp) (by simp) (fun w' h1 hw'=>?_) fun _=>?_
      · have h2 : Holds w S ([⟨z.mb,dO (z.mm,z.c),true⟩]++(g.E++(HJ++(aa 5 q1 ((aZ s.ps).map U8)++(⟨z.p,Row 108 z.cs,true⟩::ay (z.mm.map ME.val)))))) w':=h1.perm' ((List.perm_append_comm_assoc HJ g.E _).cons _)
        have hgo:=Gp.ok h2
        have hga:=lC h2
        have:=oU g.s z.mb z.mm z.c w' hgo (by rw [g.AL];exact hgl) hga hw'
        rw [g.sw,g.AL] at this
        exact this.mono fun _ _ ⟨h1,h2⟩=>⟨(),h1,h2⟩
      repeat (first | refine JL.q (by first|(apply OQ.move;rfl)|(apply OQ.assign;rfl)) rfl ?_ | refine JC.seq ?_ | refine JC.region ?_ | refine JL.nil ?_ | refine JE.next ?_)
      refine JC.ret (JE.aR rfl (RV.tmp rfl) fun w' hw=>⟨⟨0,z.put (cJ (z.mm,z.c) g.ps) (mq z.h z.bl (bO vs s.ps)) (mu z.h z.bl (bO vs s.ps)),[bO vs s.ps],cy vs s.ps,?_,rfl,.inr ⟨hok,rfl,rfl,.inr ⟨hfit,hno,rfl,rfl,rfl⟩⟩⟩,rfl,?_⟩)
      · have hvz:=k.sz
        have:=gd s.ps vs
        have:=k.step g.h0 (k.jv.DH hno) (k.dk.DH k.jv hno) (bh:=[bO vs s.ps]) (by rw [hps];exact qZ (ir k.mN) (pe hvz.2 hok) (by omega))
        rwa [hps] at this
      · rw [← hHJ] at hw
        exact Sz.close k.wf hw
end
section
set_option maxRecDepth 10000
open Sl cY dy fI
theorem x7 : aL Tryz.prog 41:=⟨_,Tryz.func41,rfl,by kernel_rfl⟩
theorem s8 : aL Tryz.prog 25:=⟨_,Tryz.func25,rfl,by kernel_rfl⟩
theorem kQ {rs : List Bk} {i : Nat} {r : Bk} (h : rs[i]?=some r) : aU (rs.take (i+1))=match aU (rs.take i),dec r with | some l,some m=>some (l++m) | _,_=>none:=by
  have e : rs.take (i+1)=rs.take i++[r]:=by rw [List.take_add_one,h];rfl
  rw [e,dF,jd]
  cases aU (rs.take i) <;> cases dec r <;> rfl
theorem oA {α : Type} (f : α→Nat) : ∀ {l : List α} {a : α},a ∈ l→f a≤(l.map f).sum
  | b::l,a,h=>by
    rw [List.map_cons,List.sum_cons]
    rcases List.mem_cons.1 h with rfl | h
    · omega
    · have:=oA f h;omega
theorem oB : ∀ (m : List Pq),m.length≤(m.map fun p=>7+p.key.length+p.val.length).sum
  | []=>Nat.le_refl _
  | p::m=>by
    have:=oB m
    rw [List.map_cons,List.sum_cons,List.length_cons]
    omega
theorem q6 {rs : List Bk} {i : Nat} (h : aU (rs.take i)=none) : aU rs=none:=by
  rw [← List.take_append_drop i rs,dF,h]
structure Vz where
  mb : Nat
  mc : MV × Nat
structure Vz.ok (z : Vz) (l : List Pq) : Prop where
  wf : WF z.mc.1 z.mc.2
  is : iP z.mc.1 (cy [] l)
  h0 : ∀ x ∈ z.mc.1.map ME.val,x.ad=none→x.l=[]
def Vz.E (z : Vz) : List ai:=⟨z.mb,dO z.mc,true⟩::ay (z.mc.1.map ME.val)
theorem Vz.wr (z : Vz) : ∀ e ∈ z.E,e.wr=true:=by
  intro e he
  rcases List.mem_cons.1 he with rfl | he
  · rfl
  · exact gO _ e he
def BQ (o : Option (List Pq)) (z : Vz) : Value:=match o with
  | none=>.tuple #[.map none,N 9]
  | some _=>.tuple #[.map (some z.mb),N 0]
def zT (o : Option (List Pq)) (z : Vz) : List ai:=match o with
  | none=>[]
  | some _=>z.E
abbrev C0 (o : Option (List Pq)):={z : Vz // ∀ l,o=some l→z.ok l}
theorem BR (m : ai) (C G F R : List ai) (F' r : List ai) (h : (F++G).Perm (F'++r)) : (m::((C++G)++(F++R))).Perm (m::(F'++(R++(r++C)))):=by
  refine List.Perm.cons _ ?_
  have h1 : ((C++G)++(F++R)).Perm (C++((F++G)++R)):=by
    have:=(List.perm_append_comm_assoc G F R).append_left C
    simpa using this
  refine h1.trans ((h.append_right R).append_left C |>.trans ?_)
  have h2 : (C++(F'++r++R)).Perm ((F'++r++R)++C):=List.perm_append_comm
  refine h2.trans ?_
  have h3:=((List.perm_append_comm (l₁:=r) (l₂:=R)).append_right C).append_left F'
  simpa using h3
set_option maxHeartbeats 16000000 in
theorem zU (x : Dp) (bl : List Bk) (hd : bB x bl []) (hno : bY bl=0) (w : World) (h0 : Holds w (keys (cg x bl [])) (cg x bl []) w) :
    Calls Tryz.prog 41 [Pt x.p 0].toArray w fun e w'=>∃ z : C0 (aU (bz bl).2.2),e=.returned (BQ (aU (bz bl).2.2) z.1)∧Holds w (keys (cg x bl [])) (zT (aU (bz bl).2.2) z.1) w':=by
  have v:=Jv.CP (x:=x) hd.ok.b hd.n1 hno
  have hdj:=hd.CP hno
  generalize hR : (bz bl).2.2=af at v ⊢
  generalize keys (cg x bl [])=S at h0 ⊢
  refine enter (n:=39) Tryz.func41 rfl rfl rfl h0 ?_
  repeat (first | refine JL.q (by first|(apply OQ.move;rfl)|(apply OQ.assign;rfl)) rfl ?_ | refine JC.seq ?_ | refine JC.region ?_ | refine JL.nil ?_ | refine JE.next ?_)
  refine JL.perm ?_ (List.Perm.of_eq (List.append_nil _).symm)
  refine JL.AJ hd (by decide) hno rfl rfl fun j=>?_
  generalize jD x bl=h at v hdj ⊢
  generalize jC bl=bj at v hdj ⊢
  rw [List.append_nil]
  repeat (first | refine JL.q (by first|(apply OQ.extract;rfl;rfl)|(apply OQ.fQ (a:=0) (b:=0) (c:=true);rfl;rfl;rfl)|(apply OQ.move;rfl)|(apply OQ.assign;rfl)) rfl ?_ | refine JC.seq ?_ | refine JC.region ?_ | refine JL.nil ?_ | refine JE.next ?_)
  refine JC.cond_false rfl rfl ?_
  repeat (first | refine JC.seq ?_ | refine JC.region ?_ | refine JC.skip ?_ | refine JE.next ?_)
  refine JL.makeMap aC.v rfl rfl fun mb _=>?_
  repeat (first | refine JL.q (by first|(apply OQ.move;rfl)|(apply OQ.assign;rfl)) rfl ?_ | refine JC.seq ?_ | refine JC.region ?_ | refine JL.nil ?_ | refine JE.next ?_)
  refine JL.perm (M':=cn j h bj []++[⟨mb,dO ([],0),true⟩]) ?_ (List.perm_append_singleton _ _).symm
  refine JL.CO v hdj rfl rfl fun z=>?_
  obtain ⟨⟨q,rs,hq,hr0⟩,hy1,hy2⟩:=z
  have hz1 : rs.map aC.l=af:=hy1
  have hz2 : rs.length≤h.size:=hy2
  dsimp only [Gr.v,Gr.E]
  clear hy1 hy2
  have hfs:=v.fs
  have hro:=v.r
  refine JL.perm (M':=⟨mb,dO ([],0),true⟩::((aa 24 q (rs.map aC.v)++ay rs)++cn j h bj [])) ?_ (by rw [← List.append_assoc];exact List.perm_append_singleton _ _)
  have hq0 : q=none→rs.length=0:=fun e=>by rw [hq e];rfl
  repeat (first | refine JL.q (by first|(apply OQ.iV (q:=q) (k:=rs.length);exact Tryz.underlying137;exact hq0;rfl)|(apply OQ.move;rfl)) rfl ?_ | refine JC.block ?_ | refine JL.nil ?_ | refine JE.next ?_)
  obtain ⟨R,hRR⟩ : ∃ R,(aa 24 q (rs.map aC.v)++ay rs)++cn j h bj []=R:=⟨_,rfl⟩
  refine JC.loop (fun z : Nat × (MV × Nat)=>[(6,.map (some mb)),(21,ah q rs.length),(22,N rs.length),(23,N z.1)]) (fun z=>⟨mb,dO z.2,true⟩::(ay (z.2.1.map ME.val)++R)) (fun z=>rs.length - z.1) (fun z=>z.1≤rs.length∧∃ l,aU (af.take z.1)=some l∧(Vz.mk mb z.2).ok l) (0,([],0)) ⟨Nat.zero_le _,[],rfl,⟨WF.nil,.refl _,nofun⟩⟩ (by repeat (first | exact ag.nil | refine ag.cons _ _ _ rfl ?_)) (by rw [← hRR];exact aj.refl _) ?_
  rintro ⟨i,mc⟩ ⟨hi,l,hl,hv⟩
  dsimp only at hi hl hv ⊢
  repeat (first | refine JL.q (by (apply OQ.dX;rfl;rfl)) rfl ?_ | refine JC.seq ?_ | refine JC.region ?_ | refine JL.nil ?_ | refine JE.next ?_)
  refine JC.cond rfl (fun hc=>?_) (fun hc=>?_)
  · have hi' : i<rs.length:=Nat.lt_of_not_le fun h=>by have:=of_decide_eq_true hc;omega
    clear hc
    cases q with
    | none=>rw [hq rfl] at hi';cases hi'
    | some p=>
    obtain ⟨gk,ck⟩:=p
    have hki : rs[i]?=some rs[i]:=List.getElem?_eq_getElem hi'
    have hmem : rs[i] ∈ rs:=List.getElem_mem hi'
    generalize rs[i]=rec at hki hmem
    have hri : af[i]?=some rec.l:=by rw [← hz1,List.getElem?_map,hki];rfl
    have hrlen : rec.l.length≤2000000:=by
      have h1:=uv af
      have h2:=oA List.length (List.mem_of_getElem? hri)
      omega
    have hav2 : ah (some (gk,ck)) rs.length=.slice (some ⟨gk,0,none⟩) rs.length ck:=rfl
    have hkz : (rs.map aC.v)[i]?=some rec.v:=by rw [List.getElem?_map,hki];rfl
    have hR' : R=⟨gk,Sl.Own 24 1 (rs.map aC.v).length ck (rs.map aC.v),true⟩::(ay rs++cn j h bj []):=hRR.symm
    subst hR'
    have okR : ∀ w',Holds w S (⟨mb,dO mc,true⟩::(ay (mc.1.map ME.val)++(⟨gk,Sl.Own 24 1 (rs.map aC.v).length ck (rs.map aC.v),true⟩::(ay rs++cn j h bj [])))) w'→rec.ok w':=fun w' hw'=>
      k6 (A:=[]) (hw'.weak (.drop _ _ _ (av _ (.drop _ _ _ (ax (ay rs) _))))) hr0 rec hmem
    repeat (first | refine JL.q (by first|(apply OQ.Au (i:=i);exact Tryz.underlying137;exact w9;exact (congrArg some hav2);rfl;exact hi')|(apply OQ.load;exact qB;rfl;exact (.there (aG .here));exact (Sl.Own.cell hkz))|(apply OQ.move;rfl)|(apply OQ.assign;rfl)) rfl ?_ | refine JC.seq ?_ | refine JC.region ?_ | refine JC.block ?_ | refine JC.skip ?_ | refine JL.nil ?_ | refine JE.next ?_)
    cases hdr : dec rec.l with
    | none=>
      have hno2 : aU af=none:=q6 (i:=i+1) (by rw [kQ hri,hl,hdr])
      refine JL.bA (ι:=zC none) (vs:=[rec.v]) (fun g=>sK none g.1) (fun g=>g.1.E) ku rfl rfl (fun g=>g.1.wr) (fun w' hw'=>by have:=mI rec w' (okR w' hw') (by omega);rwa [hdr] at this) fun g=>?_
      dsimp only [sK]
      repeat (first | refine JL.q (by first|(apply OQ.extract;rfl;rfl)|(apply OQ.fQ (a:=3) (b:=0) (c:=false);rfl;rfl;rfl)|(apply OQ.move;rfl)|(apply OQ.assign;rfl)) rfl ?_ | refine JC.seq ?_ | refine JC.region ?_ | refine JL.nil ?_ | refine JE.next ?_)
      refine JC.cond_true rfl rfl ?_
      repeat (first | refine JL.q (by (apply OQ.assign;rfl)) rfl ?_ | refine JC.seq ?_ | refine JC.region ?_ | refine JL.nil ?_ | refine JE.next ?_)
      refine JC.ret ?_
      repeat (first | refine JE.aA ?_ | refine JE.bV ?_)
      rw [hno2]
      exact JE.cw rfl (RV.tmp rfl) (RV.tmp rfl) fun w' hw=>⟨⟨⟨0,([],0)⟩,nofun⟩,rfl,hw.weak (.nil _)⟩
    | some m=>
      refine JL.bA (ι:=zC (some m)) (vs:=[rec.v]) (fun g=>sK (some m) g.1) (fun g=>g.1.E) ku rfl rfl (fun g=>g.1.wr) (fun w' hw'=>by have:=mI rec w' (okR w' hw') (by omega);rwa [hdr] at this) fun g=>?_
      obtain ⟨g,hg⟩:=g
      have hg : g.ps.map aM.p=m:=hg
      dsimp only [sK]
      have hgl : g.ps.length≤4294967296:=by
        have h1:=congrArg List.length hg
        rw [List.length_map] at h1
        have h2:=(sG hdr).2
        have h3:=oB m
        omega
      repeat (first | refine JL.q (by first|(apply OQ.extract;rfl;rfl)|(apply OQ.fQ (a:=0) (b:=0) (c:=true);rfl;rfl;rfl)|(apply OQ.move;rfl)|(apply OQ.assign;rfl)) rfl ?_ | refine JC.seq ?_ | refine JC.region ?_ | refine JL.nil ?_ | refine JE.next ?_)
      refine JC.cond_false rfl rfl ?_
      obtain ⟨R,hRR⟩ : ∃ R,(⟨gk,Sl.Own 24 1 (rs.map aC.v).length ck (rs.map aC.v),true⟩::(ay rs++cn j h bj []))=R:=⟨_,rfl⟩
      rw [hRR]
      repeat (first | refine JL.q (by (apply OQ.move;rfl)) rfl ?_ | refine JC.region ?_ | refine JC.skip ?_ | refine JE.next ?_)
      refine JL.perm (M':=⟨mb,dO mc,true⟩::(g.E++(ay (mc.1.map ME.val)++R))) ?_ List.perm_middle
      refine JL.bE (ι:=Unit) (X:=[⟨mb,dO mc,true⟩]) (vs:=[.map (some mb),g.v]) (fun _=>.tuple #[]) (fun _=>[⟨mb,dO (cJ mc g.ps),true⟩]) lB rfl rfl (by simp) (by simp) (fun w' h1 hw'=>?_) fun _=>?_
      · have hgo:=Gp.ok (A:=[_]) h1
        have hga:=lC (X:=[_]) h1
        have:=oU g.s mb mc.1 mc.2 w' hgo (by rw [g.AL];exact hgl) hga hw'
        rw [g.sw,g.AL] at this
        exact this.mono fun _ _ ⟨h1,h2⟩=>⟨(),h1,h2⟩
      repeat (first | refine JL.q (by first|(apply OQ.move;rfl)|(apply OQ.addN;rfl;rfl;exact (by (try simp only []);omega))) rfl ?_ | refine JC.region ?_ | refine JL.nil ?_ | refine JE.next ?_ | refine JE.an ?_)
      obtain ⟨r,hr⟩:=gY g.ps hv.wf
      refine JE.perm (BR _ _ (ay (g.ps.map aM.s)) (ay (mc.1.map ME.val)) R (ay ((cJ mc g.ps).1.map ME.val)) (ay r) (by rw [← fH,← fH];exact mR hr.symm)) ?_
      refine JE.again (i:=(i,mc)) (i+1,cJ mc g.ps) ⟨hi',l++m,by dsimp only;rw [kQ hri,hl,hdr],⟨lu _ hv.wf,?_,?_⟩⟩ (by dsimp only;omega) (by repeat (first | exact ag.nil | refine ag.cons _ _ _ rfl ?_)) ?_
      · have:=lz g.ps hv.wf (ir (l:=l) (vs:=[]) .nil) hv.is
        rw [hg,← mD] at this
        exact this
      · intro x hx
        rcases List.mem_append.1 (hr.mem_iff.1 (List.mem_append_left r hx)) with h1 | h1
        · exact hv.h0 x h1
        · obtain ⟨p,hp,rfl⟩:=List.mem_map.1 h1
          exact g.h0 p hp
      · refine .keep _ _ _ _ _ _ (fun _ h=>h) ?_
        rw [← List.append_assoc]
        exact ax _ _
  · have hi' : i=rs.length:=by have:=of_decide_eq_false hc;omega
    have hfl : af.take i=af:=List.take_of_length_le (by rw [← hz1,List.length_map];omega)
    rw [hfl] at hl
    rw [hl]
    repeat (first | refine JL.q (by first|(apply OQ.move;rfl)|(apply OQ.assign;rfl)) rfl ?_ | refine JC.seq ?_ | refine JC.region ?_ | refine JC.exit ?_ | refine JL.nil ?_ | refine JE.next ?_ | refine JE.aH ?_ | refine JE.aW ?_)
    exact JC.ret (JE.cw rfl (RV.tmp rfl) (RV.tmp rfl) fun w' hw=>⟨⟨⟨mb,mc⟩,fun l' h=>by cases h;exact hv⟩,rfl,hw.weak (.keep _ _ _ _ _ _ (fun _ h=>h) (ax _ _))⟩)
end
section
set_option maxRecDepth 10000
open Sl cY dy fI
section
variable {n : Nat} {E : Env} {C : World→Prop} {dst : Option Tmp} {ty : TypeId} {pos : String} {aft : Array Edge} {g : Option (Nat × Bool)} {x1 x2 : Operand}
theorem OQ.zV {j mb : Nat} (h1 : ev E x1=some (Pt j 0)) (h2 : ev E x2=some (.map (some mb))) :
    OQ Tryz.prog n E C ⟨dst,.build 108 #[(0,x1),(1,x2)],ty,pos,aft,g⟩ (.agg #[Pt j 0,.map (some mb)]):=
  OQ.run fun a ha w _=>by
    have e1:=ha.eval h1
    have e2:=ha.eval h2
    have r:=run_build (P:=Tryz.prog) w 108 #[(0,Pt j 0),(1,.map (some mb))] #[Pt j 0,.map (some mb)] (by kernel_rfl)
    simp [execOp,e1,e2,r]
end
theorem bB.twin {x z : Dp} {bl : List Bk} (h : bB x bl []) : bB ⟨z.p,z.q,z.cap,none⟩ bl []:=⟨h.ok,h.n0,h.n1,h.m,fun _=>rfl⟩
theorem zW (o : Option (List Pq)) (z : Vz) : ∀ e ∈ zT o z,e.wr=true:=by
  intro e he
  cases o with
  | none=>cases he
  | some l=>exact z.wr e he
set_option maxHeartbeats 16000000 in
theorem vH (x : Dp) (bl : List Bk) (l : List Pq) (hd : bB x bl []) (hno : bY bl=0) (ho : aU (bz bl).2.2=some l) (w : World) (h0 : Holds w (keys (cg x bl [])) (cg x bl []) w) :
    Calls Tryz.prog 25 [Pt x.p 0].toArray w fun e w'=>∃ z : {z : Sz // z.ok (bz bl).2.2 (cy [] l)∧z.h=jD x bl∧z.bl=jC bl},e=.returned (.tuple #[Pt z.1.p 0,N 0])∧Holds w (keys (cg x bl [])) z.1.E w':=by
  have v:=Jv.CP (x:=x) hd.ok.b hd.n1 hno
  have hdj:=hd.CP hno
  generalize keys (cg x bl [])=S at h0 ⊢
  refine enter (n:=28) Tryz.func25 rfl rfl rfl h0 ?_
  repeat (first | refine JL.q (by first|(apply OQ.move;rfl)|(apply OQ.assign;rfl)) rfl ?_ | refine JC.seq ?_ | refine JC.region ?_ | refine JL.nil ?_ | refine JE.next ?_)
  refine JL.bA (ι:=Dp) (vs:=[Pt x.p 0]) (fun z=>Pt z.p 0) (fun z=>cg ⟨z.p,z.q,z.cap,none⟩ bl []) uP rfl rfl (fun z=>cl _ _ _) (fun w' hw'=>uQ x bl [] hd (M:=[]) (by rw [List.append_nil];exact hw')) fun t=>?_
  refine JL.bE (ι:=C0 (some l)) (X:=cg ⟨t.p,t.q,t.cap,none⟩ bl []) (vs:=[Pt t.p 0]) (fun z=>BQ (some l) z.1) (fun z=>zT (some l) z.1) x7 rfl rfl (cl _ _ _) (fun z=>zW _ _) (fun w' _ hw'=>by have:=zU ⟨t.p,t.q,t.cap,none⟩ bl hd.twin hno w' hw';rwa [ho] at this) fun z=>?_
  obtain ⟨⟨mb,mm,c⟩,hz⟩:=z
  have hz:=hz l rfl
  dsimp only [BQ,zT,Vz.E]
  repeat (first | refine JL.q (by first|(apply OQ.extract;rfl;rfl)|(apply OQ.fQ (a:=0) (b:=0) (c:=true);rfl;rfl;rfl)|(apply OQ.move;rfl)|(apply OQ.assign;rfl)) rfl ?_ | refine JC.seq ?_ | refine JC.region ?_ | refine JL.nil ?_ | refine JE.next ?_)
  refine JC.cond_false rfl rfl ?_
  repeat (first | refine JL.q (by (apply OQ.move;rfl)) rfl ?_ | refine JC.seq ?_ | refine JC.region ?_ | refine JC.skip ?_ | refine JE.next ?_)
  refine JL.perm (M':=cg x bl []++(⟨mb,dO (mm,c),true⟩::ay (mm.map ME.val))) ?_ List.perm_append_comm
  refine JL.AJ hd (by decide) hno rfl rfl fun j=>?_
  repeat (first | refine JL.q (by first|(apply OQ.extract;rfl;rfl)|(apply OQ.fQ (a:=0) (b:=0) (c:=true);rfl;rfl;rfl)|(apply OQ.move;rfl)|(apply OQ.assign;rfl)) rfl ?_ | refine JC.seq ?_ | refine JC.region ?_ | refine JL.nil ?_ | refine JE.next ?_)
  refine JC.cond_false rfl rfl ?_
  repeat (first | refine JL.q (by first|(apply OQ.zV;rfl;rfl)|(apply OQ.move;rfl)) rfl ?_ | refine JC.seq ?_ | refine JC.region ?_ | refine JC.skip ?_ | refine JE.next ?_)
  refine JL.box (r:=[Pt j 0,.map (some mb)]) rfl rfl rfl fun p _=>?_
  repeat (first | refine JL.q (by (apply OQ.assign;rfl)) rfl ?_ | refine JL.nil ?_ | refine JE.next ?_)
  exact JC.ret (JE.cw rfl (RV.tmp rfl) (RV.tmp rfl) fun w' hw=>⟨⟨⟨p,mb,mm,c,j,jD x bl,jC bl⟩,⟨hz.wf,hz.is,ir .nil,hz.h0,v,hdj,by show ew _=_;unfold ew;rw [ho];rfl⟩,rfl,rfl⟩,rfl,hw.perm' (List.Perm.cons _ List.perm_middle)⟩)
end
section
namespace Sl
section
variable {P : Program} {n : Nat} {w0 : World} {S : List Nat} {ops : Array Oper} {Q : Exit→Act→World→Prop} {l : List Oper} {E : Env} {M : List ai}
variable {d : Nat} {t e ty : TypeId} {pos : String} {aft : Array Edge} {v z : Value} {x y : Operand} {sz by' : Nat} {cs ds : List Value}
theorem q9 {w : World} (hu : P.underlying t=some (.slice e)) (hi : EI P e z sz by') (_hz : z.cells.size=sz) (h0 : 0<sz) (hsm : sz≤8388608) (hl : cs.length=sz) (hl2 : ds.length=sz) :
    (Instr.buildSlice t 2 #[(0,.agg cs.toArray),(1,.agg ds.toArray)]).run P w=.ok (.slice (some ⟨w.heap.size,0,none⟩) 2 2) { w with heap:=w.heap.push (.cells (cs++ds).toArray e (0,0)) }:=by
  have h3 : (underlying t).run P w=.ok (.slice e) w:=run_underlying hu w
  obtain ⟨i,h4,h5,_⟩:=hi.get
  obtain ⟨r,h6,h7,h8⟩:=Great.fill_dense h0 [.agg cs.toArray,.agg ds.toArray] 0 ((Array.range (2 * sz)).map (z.cells[· % z.cells.size]!)) (by intro v hv;simp only [List.mem_cons,List.not_mem_nil,or_false] at hv;rcases hv with rfl | rfl <;> simp [Value.cells,hl,hl2]) (by simp)
  have hr : r=(cs++ds).toArray:=by
    apply Array.ext_getElem?
    intro k
    rw [h8 k]
    by_cases hk : k<2 * sz
    · rw [if_pos (by simp;omega)]
      by_cases h1 : k<sz
      · rw [List.getElem?_toArray,List.getElem?_append_left (by omega)]
        simp [Nat.div_eq_of_lt h1,Nat.mod_eq_of_lt h1,Value.cells]
      · have e1 : k / sz=1:=by
          rw [Nat.div_eq_iff h0];omega
        have e2 : k % sz=k - sz:=by
          rw [Nat.mod_eq_sub_mod (by omega),Nat.mod_eq_of_lt (by omega)]
        rw [List.getElem?_toArray,List.getElem?_append_right (by omega),hl]
        simp [e1,e2,Value.cells]
    · rw [if_neg (by simp;omega),Array.getElem?_eq_none (by simp;omega),Array.getElem?_eq_none (by simp;omega)]
  subst hr
  have h11 : (zeroValue e).run P w=.ok z w:=by simp [zeroValue,typeInfo,h4,h5]
  have h12 : ¬ (16777216<2 * sz):=by omega
  have h13 : ¬ (2 * sz=0):=by omega
  have h14 : ¬ (sz=0):=by omega
  simp only [List.zipIdx_cons,List.zipIdx_nil,List.map_cons,List.map_nil] at h6
  simp [Instr.buildSlice,Sem.run_bind,h3,aQ hi.sz,h11,h12,h13,h14,h6,newRow,newObj,Sem.run]
theorem JL.C1 (hu : P.underlying t=some (.slice e)) (hi : EI P e z sz by') (hz : z.cells.size=sz) (h0 : 0<sz) (hsm : sz≤8388608) (hx : ev E x=some (.agg cs.toArray)) (hy : ev E y=some (.agg ds.toArray)) (hl : cs.length=sz) (hl2 : ds.length=sz) (hd : Nat.blt d n=true)
    (k : ∀ b,w0.heap.size≤b→JL P n w0 S ops Q l ((d,.slice (some ⟨b,0,none⟩) 2 2)::E) (⟨b,Row e (cs++ds),true⟩::M)) : JL P n w0 S ops Q (⟨some d,.buildSlice t 2 #[(0,x),(1,y)],ty,pos,aft,none⟩::l) E M:=
  ⟨fun a w ha hw=>wpList_plain rfl fun K hK=>by
    unfold Oper.wp
    have hm : (#[(0,x),(1,y)] : Array (Nat × Operand)).map (fun (i,x)=>(i,a.eval x))=#[(0,.agg cs.toArray),(1,.agg ds.toArray)]:=by simp [ha.eval hx,ha.eval hy]
    simp only [execOp,hm,Sem.run_bind,q9 hu hi hz h0 hsm hl hl2,Result.andThen_ok]
    exact hK _ _ ((k w.heap.size hw.bf.size).go _ _ (ha.put d _ hd) (hw.push _ rfl rfl rfl rfl rfl))⟩
end
end Sl
end
section
namespace Sl
section
variable {P : Program} {n : Nat} {w0 : World} {S : List Nat} {ops : Array Oper} {Q : Exit→Act→World→Prop} {l : List Oper} {E : Env} {M : List ai}
variable {d : Nat} {t e ty : TypeId} {pos : String} {aft : Array Edge} {v z : Value} {x y u : Operand} {sz by' : Nat} {cs ds es : List Value}
end
end Sl
end
section
set_option maxRecDepth 10000
open Sl cY dy fI
section
variable {P : Program} {n : Nat} {E : Env} {C : World→Prop} {dst : Option Tmp} {ty t t' : TypeId} {pos : String} {aft : Array Edge} {g : Option (Nat × Bool)} {x y : Operand} {l r : Bk}
end
def AO (vs : VL) (front : Bk) : List Bk:=(vs.filter fun p=>fk front p.1).map Prod.fst
section
variable {n : Nat} {w0 : World} {S : List Nat} {ops : Array Oper} {Q : Exit→Act→World→Prop} {l : List Oper} {E : Env} {M : List ai}
variable {d : Nat} {ty : TypeId} {pos : String} {aft : Array Edge} {x1 x2 : Operand} {ats : Array TypeId} {x : Dp} {bl af : List Bk} {vs : VL} {z : Sz} {s : ez} {key : Bk} {ls : List Pq}
abbrev C2 (x : Dp) (bl : List Bk) (ls : List Pq):={z : Sz // z.ok (bz bl).2.2 (cy [] ls)∧z.h=jD x bl∧z.bl=jC bl}
theorem JL.C3 (hd : bB x bl []) (hno : bY bl=0) (ho : aU (bz bl).2.2=some ls) (e1 : ev E x1=some (Pt x.p 0)) (hn : Nat.blt d n=true)
    (kk : ∀ z : C2 x bl ls,JL Tryz.prog n w0 S ops Q l ((d,.tuple #[Pt z.1.p 0,N 0])::E) (z.1.E++M)) : JL Tryz.prog n w0 S ops Q (⟨some d,.call ⟨.value (.func 25),#[x1],ats⟩,ty,pos,aft,none⟩::l) E (cg x bl []++M):=
  JL.bE (ι:=C2 x bl ls) (xs:=[x1]) (vs:=[Pt x.p 0]) (fun z=>.tuple #[Pt z.1.p 0,N 0]) (fun z=>z.1.E) s8 (by simp [gr,e1]) hn (cl _ _ _) (fun z=>z.1.wr)
    (fun w _ hw=>vH x bl ls hd hno ho w hw) kk
theorem JL.BS (k : z.ok af vs) (hz : iz s.ps≤2500000) (hs : ∀ w,Holds w0 S (z.E++M) w→s.ok w∧jM s (keys z.E)) (e1 : ev E x1=some (Pt z.p 0)) (e2 : ev E x2=some s.v) (hn : Nat.blt d n=true)
    (kk : ∀ r : mQ z af vs s.ps,JL Tryz.prog n w0 S ops Q l ((d,N r.code)::E) (r.z'.E++M)) : JL Tryz.prog n w0 S ops Q (⟨some d,.call ⟨.value (.func 31),#[x1,x2],ats⟩,ty,pos,aft,none⟩::l) E (z.E++M):=
  JL.bE (ι:=mQ z af vs s.ps) (xs:=[x1,x2]) (vs:=[Pt z.p 0,s.v]) (fun r=>N r.code) (fun r=>r.z'.E) x5 (by simp [gr,e1,e2]) hn z.wr (fun r=>r.z'.wr)
    (fun w h0 hw=>zS z af vs k s w (hs w h0).1 (hs w h0).2 hz hw) kk
theorem JL.BT {v : Bk} {is : Bool} (k : z.ok af vs) (hv : (fh vs key).getD []=v) (hi : (fh vs key).isSome=is) (e1 : ev E x1=some (Pt z.p 0)) (e2 : ev E x2=some (Z key)) (hn : Nat.blt d n=true)
    (kk : ∀ q : {q : Acc // q=none→v=[]},JL Tryz.prog n w0 S ops Q l ((d,.tuple #[ah q.1 v.length,.bool is])::E) (aa 5 q.1 (v.map U8)++(z.E++M))) : JL Tryz.prog n w0 S ops Q (⟨some d,.call ⟨.value (.func 35),#[x1,x2],ats⟩,ty,pos,aft,none⟩::l) E (z.E++M):=by
  have hl:=qX k.wf k.mN k.is key
  have h1 : ((look z.mm key).getD bG).l=v:=by
    rw [← hv,← hl]
    cases look z.mm key <;> rfl
  have h2 : (look z.mm key).isSome=is:=by rw [← hi,← hl,Option.isSome_map]
  refine JL.bA (ι:={q : Acc // q=none→v=[]}) (xs:=[x1,x2]) (vs:=[Pt z.p 0,Z key]) (fun q=>.tuple #[ah q.1 v.length,.bool is]) (fun q=>aa 5 q.1 (v.map U8)) vD (by simp [gr,e1,e2]) hn (fun _=>aP _ _ _) (fun w hw=>?_) kk
  have:=zR z.p z.mb (Pt z.j 0) z.mm z.c key w (xW hw) fun x hx=>⟨k.El hw x hx,by have:=k.val hx;omega⟩
  rwa [h1,h2] at this
theorem JL.C4 {front : Bk} {ks : List Bk} (k : z.ok af vs) (hk : AO vs front=ks) (e1 : ev E x1=some (Pt z.p 0)) (e2 : ev E x2=some (Z front)) (hn : Nat.blt d n=true)
    (kk : ∀ q : {q : Acc // q=none→ks=[]},JL Tryz.prog n w0 S ops Q l ((d,ah q.1 ks.length)::E) (aa 9 q.1 (ks.map Z)++(z.E++M))) : JL Tryz.prog n w0 S ops Q (⟨some d,.call ⟨.value (.func 36),#[x1,x2],ats⟩,ty,pos,aft,none⟩::l) E (z.E++M):=by
  have h1 : cz z.mm front=ks:=by rw [← hk];exact qV k.mN k.is front
  refine JL.bA (ι:={q : Acc // q=none→ks=[]}) (xs:=[x1,x2]) (vs:=[Pt z.p 0,Z front]) (fun q=>ah q.1 ks.length) (fun q=>aa 9 q.1 (ks.map Z)) sZ (by simp [gr,e1,e2]) hn (fun _=>aP _ _ _) (fun w hw=>?_) kk
  have:=vE z.p z.mb (Pt z.j 0) z.mm z.c front w k.wf (xW hw) (by have:=k.DI;omega)
  rwa [h1] at this
end
theorem x8 (n : Nat) : aU (bz (dh n)).2.2=some []:=by rw [(jG n).1];rfl
section
variable {n : Nat} {E : Env} {C : World→Prop} {dst : Option Tmp} {ty : TypeId} {pos : String} {aft : Array Edge} {g : Option (Nat × Bool)} {x1 x2 : Operand}
theorem OQ.zX {key : Bk} {b : Bool} (h1 : ev E x1=some (Z key)) (h2 : ev E x2=some (.bool b)) :
    OQ Tryz.prog n E C ⟨dst,.build 78 #[(0,x1),(2,x2)],ty,pos,aft,g⟩ (.agg #[Z key,.slice none 0 0,.bool b]):=
  OQ.run fun a ha w _=>by
    have e1:=ha.eval h1
    have e2:=ha.eval h2
    have r:=run_build (P:=Tryz.prog) w 78 #[(0,Z key),(2,.bool b)] #[Z key,.slice none 0 0,.bool b] (by kernel_rfl)
    simp [execOp,e1,e2,r]
end
theorem uw {b : Nat} {l : List aM} {w0 w : World} {S : List Nat} {M : List ai} {wr : Bool} (hw : Holds w0 S M w) (hM : Has M b (Row 78 (l.map aM.cs).flatten) wr) (ha : ∀ p ∈ l,p.s.ok w) : (ez.mk (some ⟨b,0,none⟩) l.length l).ok w:=by
  obtain ⟨o,ho,hA⟩:=hw.get hM
  exact ⟨Nat.le_refl _,Reads.block ho (Row.all o hA),ha⟩
end
section
set_option maxRecDepth 10000
open Sl cY dy fI Bx
theorem kR : aL Tryz.prog 30:=⟨_,Tryz.func30,rfl,by kernel_rfl⟩
set_option maxHeartbeats 16000000 in
theorem s9 (c : Bt) (w : World) : Calls Tryz.prog 30 [U8 c].toArray w fun e w'=>e=.returned (.bool (yH c.toNat))∧Ext w w':=by
  cases h1 : decide ((65 : Int)≤(c.toNat : Int)) <;> cases h2 : decide ((c.toNat : Int)≤90) <;> try (exfalso;simp only [decide_eq_true_eq,decide_eq_false_iff_not] at h1 h2;omega)
  all_goals (cases h3 : decide ((97 : Int)≤(c.toNat : Int)) <;> cases h4 : decide ((c.toNat : Int)≤122) <;> try (exfalso;simp only [decide_eq_true_eq,decide_eq_false_iff_not] at h1 h2 h3 h4;omega))
  all_goals (cases h5 : decide ((48 : Int)≤(c.toNat : Int)) <;> cases h6 : decide ((c.toNat : Int)≤57) <;> try (exfalso;simp only [decide_eq_true_eq,decide_eq_false_iff_not] at h1 h2 h3 h4 h5 h6;omega))
  all_goals (cases h7 : decide ((c.toNat : Int)=45) <;> cases h8 : decide ((c.toNat : Int)=46) <;> try (exfalso;simp only [decide_eq_true_eq,decide_eq_false_iff_not] at h1 h2 h3 h4 h5 h6 h7 h8;omega))
  all_goals obtain ⟨b,hb⟩ : ∃ b,yH c.toNat=b:=⟨_,rfl⟩
  all_goals have hb':=hb
  all_goals unfold yH at hb'
  all_goals rw [h1,h2,h3,h4,h5,h6,h7,h8] at hb'
  all_goals simp only [Bool.and_true,Bool.and_false,Bool.true_and,Bool.false_and,Bool.or_false,Bool.or_true,Bool.false_or,Bool.true_or] at hb'
  all_goals subst hb'
  all_goals rw [hb]
  all_goals refine enter (n:=33) Tryz.func30 rfl rfl rfl (Holds.start w []) ?_
  all_goals (repeat (first | refine JL.q (by first|(apply OQ.ee (b:=65);rfl;rfl;exact h1)|(apply OQ.lR (b:=90);rfl;rfl;exact h2)|(apply OQ.ee (b:=97);rfl;rfl;exact h3)|(apply OQ.lR (b:=122);rfl;rfl;exact h4)|(apply OQ.ee (b:=48);rfl;rfl;exact h5)|(apply OQ.lR (b:=57);rfl;rfl;exact h6)|(apply OQ.iC (b:=45);rfl;rfl;exact h7)|(apply OQ.iC (b:=46);rfl;rfl;exact h8)|(apply OQ.aS;rfl;rfl)|(apply OQ.aJ;rfl;rfl)|(apply OQ.move;rfl)|(apply OQ.assign;rfl)) rfl ?_ | refine JC.seq ?_ | refine JC.region ?_ | refine JL.nil ?_ | refine JE.next ?_ | refine JL.aB rfl rfl ?_ | refine JL.bC rfl rfl rfl rfl ?_ | refine JL.gF rfl rfl rfl rfl ?_))
  all_goals exact JC.ret (JE.aR rfl (RV.tmp rfl) fun w' hw=>⟨rfl,hw.bf⟩)
def zY (l : Bk) : Bool:=l.all fun c=>yH c.toNat
theorem iB (f : Bk) : okF f=(zY f && (decide ((1 : Int)≤(f.length : Int)) && decide ((f.length : Int)≤40))):=by
  unfold okF zY
  rw [Bool.and_assoc]
  congr 1
  rw [show decide ((1 : Int)≤(f.length : Int))=decide (1≤f.length) from decide_eq_decide.2 (by omega),show decide ((f.length : Int)≤40)=decide (f.length≤40) from decide_eq_decide.2 (by omega)]
theorem rj {l : Bk} {i : Nat} (hi : i<l.length) : zY (l.take (i+1))=(zY (l.take i) && yH (l.getD i 0).toNat):=by
  unfold zY
  rw [List.take_succ_eq_append_getElem hi,List.all_append]
  simp [hi]
theorem ux {l : Bk} {i : Nat} (hi : i<l.length) (h : yH (l.getD i 0).toNat=false) : zY l=false:=by
  unfold zY
  rw [List.all_eq_false]
  have e : l.getD i 0=l[i]:=by simp [hi]
  rw [e] at h
  exact ⟨l[i],List.getElem_mem hi,by rw [h];simp⟩
theorem hO : aL Tryz.prog 7:=⟨_,Tryz.func7,rfl,by kernel_rfl⟩
set_option maxHeartbeats 8000000 in
theorem mS (f : Bk) (w : World) (hl : f.length<9223372036854775808) : Calls Tryz.prog 7 [Z f].toArray w fun e w'=>e=.returned (.bool (okF f))∧Ext w w':=by
  refine enter (n:=24) Tryz.func7 rfl rfl rfl (Holds.start w []) ?_
  repeat (first | refine JL.q (by first|(apply OQ.move;rfl)|(apply OQ.assign;rfl)) rfl ?_ | refine JC.seq ?_ | refine JC.region ?_ | refine JL.nil ?_ | refine JE.next ?_)
  refine JL.Ez (s:=bR f) Tryz.underlying9 Tryz.underlying24 Tryz.underlying5 rfl rfl fun bb capB=>?_
  rw [fP]
  have hents : (⟨some ⟨bb,0,none⟩,capB,f⟩ : aC).dQ=[⟨bb,fun o=>bn o 0 (f.map U8)∧f.length≤capB∧(none : Option Nat)=none,true⟩]:=rfl
  rw [hents]
  repeat (first | refine JL.q (by first|(apply OQ.len (k:=f.length) (ad:=some ⟨bb,0,none⟩) (cap:=capB);exact Tryz.underlying24;rfl)|(apply OQ.move;rfl)) rfl ?_ | refine JC.block ?_ | refine JL.nil ?_ | refine JE.next ?_)
  refine JC.loop (fun i : Nat=>[(0,Z f),(6,.slice (some ⟨bb,0,none⟩) f.length capB),(7,N f.length),(8,N i)]) (fun _=>[⟨bb,fun o=>bn o 0 (f.map U8)∧f.length≤capB∧(none : Option Nat)=none,true⟩]) (fun i=>f.length - i) (fun i=>i≤f.length∧zY (f.take i)=true) 0 ⟨Nat.zero_le _,rfl⟩ (by repeat (first | exact ag.nil | refine ag.cons _ _ _ rfl ?_)) (ax _ _) ?_
  rintro i ⟨hi,hA⟩
  repeat (first | refine JL.q (by (apply OQ.dX;rfl;rfl)) rfl ?_ | refine JC.seq ?_ | refine JC.region ?_ | refine JL.nil ?_ | refine JE.next ?_)
  refine JC.cond rfl (fun h=>?_) (fun h=>?_)
  · have hi' : i<f.length:=by have:=of_decide_eq_true h;omega
    clear h
    have es:=rj hi'
    rw [hA,Bool.true_and] at es
    have hcell : ∀ o,(bn o 0 (f.map U8)∧f.length≤capB∧(none : Option Nat)=none)→cellAt o (0+i)=some (U8 (f.getD i 0)):=fun o ho=>by
      obtain ⟨c,e,fr,rfl,h⟩:=ho.1
      have h1:=h i (by rw [List.length_map];exact hi')
      show c[0+i]?=_
      rw [h1]
      exact fL U8 0 hi'
    have hq:=fun w'=>s9 (f.getD i 0) w'
    cases hc : yH (f.getD i 0).toNat
    all_goals rw [hc] at hq
    · repeat (first | refine JL.q (by first|(apply OQ.bD;exact Tryz.underlying24;exact iD;rfl;rfl;exact hi')|(apply OQ.load (v:=U8 (f.getD i 0));exact A5;rfl;exact .here;exact hcell)|(apply OQ.aF (vs:=[U8 (f.getD i 0)]) (v:=.bool false);exact kR;rfl;exact (fun w' _=>hq w'))|(apply OQ.not;rfl)|(apply OQ.move;rfl)|(apply OQ.assign;rfl)) rfl ?_ | refine JC.seq ?_ | refine JC.region ?_ | refine JC.block ?_ | refine JC.skip ?_ | refine JL.nil ?_ | refine JE.next ?_)
      refine JC.cond_true rfl rfl ?_
      repeat (first | refine JL.q (by (apply OQ.assign;rfl)) rfl ?_ | refine JC.seq ?_ | refine JC.region ?_ | refine JL.nil ?_ | refine JE.next ?_)
      refine JC.ret ?_
      repeat (first | refine JE.aA ?_ | refine JE.bV ?_)
      refine JE.aR rfl (RV.tmp rfl) fun w' hw=>⟨?_,hw.bf⟩
      rw [iB,ux hi' hc];rfl
    · repeat (first | refine JL.q (by first|(apply OQ.bD;exact Tryz.underlying24;exact iD;rfl;rfl;exact hi')|(apply OQ.load (v:=U8 (f.getD i 0));exact A5;rfl;exact .here;exact hcell)|(apply OQ.aF (vs:=[U8 (f.getD i 0)]) (v:=.bool true);exact kR;rfl;exact (fun w' _=>hq w'))|(apply OQ.not;rfl)|(apply OQ.move;rfl)|(apply OQ.assign;rfl)) rfl ?_ | refine JC.seq ?_ | refine JC.region ?_ | refine JC.block ?_ | refine JC.skip ?_ | refine JL.nil ?_ | refine JE.next ?_)
      refine JC.cond_false rfl rfl ?_
      repeat (first | refine JL.q (by first|(apply OQ.move;rfl)|(apply OQ.addN;rfl;rfl;exact (by (try simp only []);omega))) rfl ?_ | refine JC.region ?_ | refine JC.skip ?_ | refine JL.nil ?_ | refine JE.next ?_ | refine JE.an ?_)
      rw [hc] at es
      exact JE.again (i:=i) (i+1) ⟨hi',es⟩ (by omega) (by repeat (first | exact ag.nil | refine ag.cons _ _ _ rfl ?_)) (ax _ _)
  · have hi' : i=f.length:=by have:=of_decide_eq_false h;omega
    subst hi'
    rw [List.take_length] at hA
    repeat (first | refine JL.q (by (apply OQ.move;rfl)) rfl ?_ | refine JC.seq ?_ | refine JC.region ?_ | refine JC.exit ?_ | refine JE.next ?_ | refine JE.aH ?_ | refine JE.aW ?_)
    have hF:=iB f
    rw [hA,Bool.true_and] at hF
    rw [hF]
    cases h1 : decide ((1 : Int)≤(f.length : Int)) <;> cases h2 : decide ((f.length : Int)≤40)
    all_goals (repeat (first | refine JL.q (by first|(apply OQ.lQ;exact Tryz.underlying9;rfl)|(apply OQ.ee (b:=1);rfl;rfl;exact h1)|(apply OQ.lR (b:=40);rfl;rfl;exact h2)|(apply OQ.aS;rfl;rfl)|(apply OQ.aJ;rfl;rfl)|(apply OQ.move;rfl)|(apply OQ.assign;rfl)) rfl ?_ | refine JL.nil ?_ | refine JE.next ?_ | refine JL.aB rfl rfl ?_ | refine JL.bC rfl rfl rfl rfl ?_))
    all_goals exact JC.ret (JE.aR rfl (RV.tmp rfl) fun w' hw=>⟨rfl,hw.bf⟩)
theorem jP : aL Tryz.prog 8:=⟨_,Tryz.func8,rfl,by kernel_rfl⟩
set_option maxHeartbeats 32000000 in
theorem kS (f : Bk) (w : World) (hl : f.length<9223372036854775808) : Calls Tryz.prog 8 [Z f].toArray w fun e w'=>e=.returned (.bool (okF f))∧Ext w w':=by
  refine enter (n:=53) Tryz.func8 rfl rfl rfl (Holds.start w []) ?_
  repeat (first | refine JL.q (by (apply OQ.assign;rfl)) rfl ?_ | refine JC.seq ?_ | refine JC.region ?_ | refine JC.block ?_ | refine JL.nil ?_ | refine JE.next ?_)
  refine JC.loop (fun i : Nat=>[(0,Z f),(3,N i)]) (fun _=>[]) (fun i=>f.length - i) (fun i=>i≤f.length∧zY (f.take i)=true) 0 ⟨Nat.zero_le _,rfl⟩ (by repeat (first | exact ag.nil | refine ag.cons _ _ _ rfl ?_)) (aj.refl _) ?_
  rintro i ⟨hi,hA⟩
  repeat (first | refine JL.q (by first|(apply OQ.lQ;exact Tryz.underlying9;rfl)|(apply OQ.move;rfl)|(apply OQ.dX;rfl;rfl)) rfl ?_ | refine JC.seq ?_ | refine JC.region ?_ | refine JL.nil ?_ | refine JE.next ?_)
  refine JC.cond rfl (fun h=>?_) (fun h=>?_)
  · have hi' : i<f.length:=by have:=of_decide_eq_true h;omega
    clear h
    have es:=rj hi'
    rw [hA,Bool.true_and] at es
    repeat (first | refine JL.q (by first|(apply OQ.Dv;exact Tryz.underlying9;rfl;rfl;exact hi')|(apply OQ.move;rfl)|(apply OQ.assign;rfl)) rfl ?_ | refine JC.seq ?_ | refine JC.region ?_ | refine JC.block ?_ | refine JC.skip ?_ | refine JL.nil ?_ | refine JE.next ?_)
    obtain ⟨c,hcc⟩ : ∃ c,f.getD i 0=c:=⟨_,rfl⟩
    have hbad:=ux (l:=f) hi'
    rw [hcc] at es hbad ⊢
    cases h1 : decide ((65 : Int)≤(c.toNat : Int)) <;> cases h2 : decide ((c.toNat : Int)≤90) <;> try (exfalso;simp only [decide_eq_true_eq,decide_eq_false_iff_not] at h1 h2;omega)
    all_goals (cases h3 : decide ((97 : Int)≤(c.toNat : Int)) <;> cases h4 : decide ((c.toNat : Int)≤122) <;> try (exfalso;simp only [decide_eq_true_eq,decide_eq_false_iff_not] at h1 h2 h3 h4;omega))
    all_goals (cases h5 : decide ((48 : Int)≤(c.toNat : Int)) <;> cases h6 : decide ((c.toNat : Int)≤57) <;> try (exfalso;simp only [decide_eq_true_eq,decide_eq_false_iff_not] at h1 h2 h3 h4 h5 h6;omega))
    all_goals (cases h7 : decide ((c.toNat : Int)=45) <;> cases h8 : decide ((c.toNat : Int)=46) <;> try (exfalso;simp only [decide_eq_true_eq,decide_eq_false_iff_not] at h1 h2 h3 h4 h5 h6 h7 h8;omega))
    all_goals obtain ⟨b,hb⟩ : ∃ b,yH c.toNat=b:=⟨_,rfl⟩
    all_goals have hb':=hb
    all_goals unfold yH at hb'
    all_goals rw [h1,h2,h3,h4,h5,h6,h7,h8] at hb'
    all_goals simp only [Bool.and_true,Bool.and_false,Bool.true_and,Bool.false_and,Bool.or_false,Bool.or_true,Bool.false_or,Bool.true_or] at hb'
    all_goals subst hb'
    all_goals rw [hb] at es hbad
    all_goals (repeat (first | refine JL.q (by first|(apply OQ.ee (b:=65);rfl;rfl;exact h1)|(apply OQ.lR (b:=90);rfl;rfl;exact h2)|(apply OQ.ee (b:=97);rfl;rfl;exact h3)|(apply OQ.lR (b:=122);rfl;rfl;exact h4)|(apply OQ.ee (b:=48);rfl;rfl;exact h5)|(apply OQ.lR (b:=57);rfl;rfl;exact h6)|(apply OQ.iC (b:=45);rfl;rfl;exact h7)|(apply OQ.iC (b:=46);rfl;rfl;exact h8)|(apply OQ.aS;rfl;rfl)|(apply OQ.aJ;rfl;rfl)|(apply OQ.not;rfl)|(apply OQ.move;rfl)) rfl ?_ | refine JL.nil ?_ | refine JE.next ?_ | refine JL.aB rfl rfl ?_ | refine JL.bC rfl rfl rfl rfl ?_ | refine JL.gF rfl rfl rfl rfl ?_))
    all_goals first
      | (refine JC.cond_true rfl rfl ?_
         have hb2:=hbad rfl
         repeat (first | refine JL.q (by (apply OQ.assign;rfl)) rfl ?_ | refine JC.seq ?_ | refine JC.region ?_ | refine JL.nil ?_ | refine JE.next ?_)
         refine JC.ret ?_
         repeat (first | refine JE.aA ?_ | refine JE.bV ?_)
         refine JE.aR rfl (RV.tmp rfl) fun w' hw=>⟨?_,hw.bf⟩
         rw [iB,hb2]
         rfl)
      | (refine JC.cond_false rfl rfl ?_
         repeat (first | refine JL.q (by first|(apply OQ.move;rfl)|(apply OQ.assign;rfl)|(apply OQ.addN;rfl;rfl;exact (by (try simp only []);omega))) rfl ?_ | refine JC.region ?_ | refine JC.skip ?_ | refine JL.nil ?_ | refine JE.next ?_ | refine JE.an ?_)
         exact JE.again (i:=i) (i+1) ⟨hi',es⟩ (by omega) (by repeat (first | exact ag.nil | refine ag.cons _ _ _ rfl ?_)) (aj.refl _))
  · have hi' : i=f.length:=by have:=of_decide_eq_false h;omega
    subst hi'
    rw [List.take_length] at hA
    repeat (first | refine JL.q (by (apply OQ.move;rfl)) rfl ?_ | refine JC.seq ?_ | refine JC.region ?_ | refine JC.exit ?_ | refine JE.next ?_ | refine JE.aH ?_ | refine JE.aW ?_)
    have hF:=iB f
    rw [hA,Bool.true_and] at hF
    rw [hF]
    cases h1 : decide ((1 : Int)≤(f.length : Int)) <;> cases h2 : decide ((f.length : Int)≤40)
    all_goals (repeat (first | refine JL.q (by first|(apply OQ.lQ;exact Tryz.underlying9;rfl)|(apply OQ.ee (b:=1);rfl;rfl;exact h1)|(apply OQ.lR (b:=40);rfl;rfl;exact h2)|(apply OQ.aS;rfl;rfl)|(apply OQ.aJ;rfl;rfl)|(apply OQ.move;rfl)|(apply OQ.assign;rfl)) rfl ?_ | refine JL.nil ?_ | refine JE.next ?_ | refine JL.aB rfl rfl ?_ | refine JL.bC rfl rfl rfl rfl ?_))
    all_goals exact JC.ret (JE.aR rfl (RV.tmp rfl) fun w' hw=>⟨rfl,hw.bf⟩)
end
section
set_option maxRecDepth 10000
open Sl cY dy fI Bx Go.Shelf
def DJ : List Value:=Go.Lib.pow10Tab.map fun z=>Value.int .u64 z
def eY (w : World) : Prop:=∃ e fr,w.heap[3]?=some (.cells DJ.toArray e fr)
theorem eY.lt {w : World} (h : eY w) : 3<w.heap.size:=by
  obtain ⟨e,fr,h⟩:=h
  exact (Array.getElem?_eq_some_iff.1 h).1
theorem eY.bf {S : List Nat} {w w' : World} (h : eY w) (hS : 3 ∉ S) (hx : kE S w w') : eY w':=by
  have hl:=h.lt
  obtain ⟨e,fr,h⟩:=h
  exact ⟨e,fr,(hx.block _ hl hS).trans h⟩
def dS (S : List Nat) (w : World) : Prop:=eY w∧3 ∉ S
theorem dS.holds {w0 w : World} {S : List Nat} {M : List ai} (h : dS S w0) (hw : Holds w0 S M w) : eY w:=h.1.bf h.2 hw.bf
theorem dS.keys {w0 w : World} {S : List Nat} {X M : List ai} (h : dS S w0) (hX : ∀ e ∈ X,e.wr=true) (hw : Holds w0 S (X++M) w) : dS (keys X) w:=by
  refine ⟨h.holds hw,fun hm=>?_⟩
  obtain ⟨e,he,hb⟩:=List.mem_map.1 hm
  have h1:=h.1.lt
  rcases (hw.all e (List.mem_append_left _ he)).2 (hX e he) with h2 | h2
  · exact h.2 (hb ▸ h2)
  · omega
theorem vI : aL Tryz.prog 63:=⟨_,Tryz.func63,rfl,by kernel_rfl⟩
theorem vJ : aL Tryz.prog 37:=⟨_,Tryz.func37,rfl,by kernel_rfl⟩
theorem vK : aL Tryz.prog 64:=⟨_,Tryz.func64,rfl,by kernel_rfl⟩
theorem pg (x : List UInt8) : Z (ny x)=.string ⟨x.toArray⟩:=by
  show Value.string (bR (ny x))=_
  have : (ny x).map UInt8.ofBitVec=x:=by
    unfold ny
    rw [List.map_map,show UInt8.ofBitVec ∘ UInt8.toBitVec=id from funext fun _=>rfl,List.map_id]
  show Value.string ⟨((ny x).map UInt8.ofBitVec).toArray⟩=_
  rw [this]
theorem x9 (n : Int) (h0 : -9223372036854775808≤n) (h1 : n≤9223372036854775807) (w : World) (hT : eY w) :
    Calls Tryz.prog 63 [.int .i64 n].toArray w fun e w'=>e=.returned (Z (dc n))∧Ext w w':=by
  have ht : Go.Lib.TabIs Tryz.prog w "internal/strconv.uint64pow10" .u64 Go.Lib.pow10Tab:=by
    obtain ⟨e,fr,h⟩:=hT
    unfold Go.Lib.TabIs World.var?
    rw [show Tryz.prog.globalNamed "internal/strconv.uint64pow10" = some 3 by kernel_rfl]
    simp only [Option.bind_some,h]
    rfl
  refine (Any.strconv_Itoa CS n h0 h1 w ht).mono ?_
  rintro e w' ⟨h1,k,os,rfl⟩
  refine ⟨by rw [h1];unfold dc;rw [pg],⟨rfl,rfl,rfl,by simp [Go.Sort.grow],fun k hk hS=>?_⟩⟩
  rw [Go.Sort.heap_grow_old _ _ (by simpa using hk)]
  rfl
theorem jQ {w w' : World} (h : Go.RowKit.Below w.heap.size w w') : Ext w w':=⟨h.os,h.tape,h.output,h.size,fun k hk _=>h.block k hk⟩
theorem ya (c : Nat) (hc : c≤10) (w : World) : Calls Tryz.prog 64 [Z [48#8],N c].toArray w fun e w'=>e=.returned (Z (List.replicate c 48#8))∧Ext w w':=by
  have h:=Any.strings_Repeat CU CV (bR [48#8]) c w (by omega) (by show 1 * c≤_;omega)
  refine Calls.mono (show Calls Tryz.prog 64 [Z [48#8],N c].toArray w _ from h) ?_
  rintro e w' ⟨h1,h2⟩
  refine ⟨?_,jQ h2⟩
  have e1 : Go.Lib.repeatL (bR [48#8]).data.toList c=List.replicate c 48:=by
    have:=Go.Lib.repeatL_replicate 48 1 c
    rw [Nat.mul_one] at this
    exact this
  have e2 : List.replicate c 48#8=ny (List.replicate c 48):=by unfold ny;rw [List.map_replicate];rfl
  rw [h1,e1,e2,pg]
theorem yb (u : Nat) (hu : u<10 ^ 10) (w : World) : Calls Tryz.prog 37 [Z (rG (u : Int))].toArray w fun e w'=>e=.returned (.tuple #[N u,.nilIface])∧Ext w w':=by
  rw [de hu,pg]
  have h1:=oV hu
  have h2:=gZ 10 u
  generalize dW 10 u=l at h1 h2 ⊢
  have hs : ByteArray.size ⟨l.toArray⟩≤9223372036854775806:=by
    have : ByteArray.size ⟨l.toArray⟩=l.length:=List.size_toArray
    rw [this,h2];omega
  have h3 : Go.Lib.atoiAll (ByteArray.mk l.toArray).data.toList=.ok (u : Int):=by rw [List.toList_toArray];exact h1
  refine (Any.strconv_Atoi_ok CT ⟨l.toArray⟩ hs (u : Int) h3 w).mono ?_
  rintro e w' ⟨h1,h2⟩
  refine ⟨h1,?_⟩
  rcases h2 with rfl | ⟨t,rfl⟩
  · exact kE.refl _ _
  · exact jQ (Go.Lib.bytesWorld_below _ _ _)
theorem vL (n : Int) (h0 : -9223372036854775808≤n) (h1 : n≤9223372036854775807) : (dc n).length≤100:=by
  unfold dc
  rw [gb]
  have hd : ∀ u : Nat,u<10 ^ 19→(Go.Lib.decDigits u).length≤19:=fun u hu=>by
    have:=congrArg List.length (xJ (k:=18) hu)
    rw [List.length_append,gZ] at this
    omega
  unfold Go.Lib.itoa
  have e : (10 : Nat) ^ 19=10000000000000000000:=by decide
  split
  · rw [List.length_cons]
    have:=hd n.natAbs (by omega)
    omega
  · have:=hd n.toNat (by omega)
    omega
theorem kD : aL Tryz.prog 34:=⟨_,Tryz.func34,rfl,by kernel_rfl⟩
set_option maxHeartbeats 4000000 in
theorem mT (f : Bk) (u : Int) (hf : f.length<1000000000000000) (h0 : -9223372036854775808≤u) (h1 : u≤9223372036854775807) (w : World) (hT : eY w) :
    Calls Tryz.prog 34 [Z f,.int .i64 u].toArray w fun e w'=>e=.returned (Z (bg f u))∧Ext w w':=by
  refine enter (n:=21) Tryz.func34 rfl rfl rfl (Holds.start w []) ?_
  have hl:=vL u h0 h1
  have hi:=fun (w' : World) (hw : Holds w [] [] w')=>x9 u h0 h1 w' (hT.bf (by simp) hw.bf)
  have hr:=fun (w' : World)=>ya (10 - (dc u).length) (by omega) w'
  have hm : (max (0 : Int) ((10 : Int) - ((dc u).length : Int)))=((10 - (dc u).length : Nat) : Int):=by omega
  have hk : [109#8,58#8]++f++[58#8]++List.replicate (10 - (dc u).length) 48#8++dc u=bg f u:=rfl
  generalize dc u=d at hl hi hr hm hk
  repeat (first | refine JL.q (by first|(apply OQ.aF (vs:=[.int .i64 u]);exact vI;rfl;exact hi)|(apply OQ.lQ;exact Tryz.underlying9;rfl)|(apply OQ.Ds (a:=10) (b:=(d.length : Int));rfl;rfl;exact (by omega);exact (by omega))|(apply OQ.Dz (a:=0) (c:=(10 : Int) - (d.length : Int));rfl;rfl)|(apply OQ.move;rfl)|(apply OQ.assign;rfl)) rfl ?_ | refine JC.seq ?_ | refine JC.region ?_ | refine JL.nil ?_ | refine JE.next ?_)
  rw [hm]
  repeat (first | refine JL.q (by first|(apply OQ.aF (vs:=[Z [48#8],N (10 - d.length)]);exact vK;rfl;exact (fun w' _=>hr w'))|(apply OQ.pY (l:=[109#8,58#8]) (r:=f);rfl;rfl;exact (by simp;omega))|(apply OQ.pY (l:=[109#8,58#8]++f) (r:=[58#8]);rfl;rfl;exact (by simp;omega))|(apply OQ.pY (l:=[109#8,58#8]++f++[58#8]) (r:=List.replicate (10 - d.length) 48#8);rfl;rfl;exact (by simp;omega))|(apply OQ.pY (l:=[109#8,58#8]++f++[58#8]++List.replicate (10 - d.length) 48#8) (r:=d);rfl;rfl;exact (by simp;omega))|(apply OQ.move;rfl)|(apply OQ.assign;rfl)) rfl ?_ | refine JC.seq ?_ | refine JC.region ?_ | refine JL.nil ?_ | refine JE.next ?_)
  exact JC.ret (JE.aR rfl (RV.tmp rfl) fun w' hw=>⟨by rw [hk],hw.bf⟩)
theorem OQ.zZ {n : Nat} {E : Env} {C : World→Prop} {dst : Option Tmp} {ty : TypeId} {pos : String} {aft : Array Edge} {g : Option (Nat × Bool)} {x1 : Operand} {p : Nat} (h1 : ev E x1=some (Pt p 0)) :
    OQ Tryz.prog n E C ⟨dst,.build 76 #[(0,x1)],ty,pos,aft,g⟩ (.agg #[Pt p 0]):=
  OQ.run fun a ha w _=>by
    have e1:=ha.eval h1
    have r:=run_build (P:=Tryz.prog) w 76 #[(0,Pt p 0)] #[Pt p 0] (by kernel_rfl)
    simp [execOp,e1,r]
theorem vM : aL Tryz.prog 26:=⟨_,Tryz.func26,rfl,by kernel_rfl⟩
theorem yc (p : Nat) (w : World) : Calls Tryz.prog 26 [Pt p 0].toArray w fun e w'=>∃ b : Nat,e=.returned (Pt b 0)∧Holds w [] [⟨b,Row 76 [Pt p 0],true⟩] w':=by
  refine enter (n:=6) Tryz.func26 rfl rfl rfl (Holds.start w []) ?_
  repeat (first | refine JL.q (by first|(apply OQ.zZ;rfl)|(apply OQ.move;rfl)|(apply OQ.assign;rfl)) rfl ?_ | refine JC.seq ?_ | refine JC.region ?_ | refine JL.nil ?_ | refine JE.next ?_)
  refine JL.box (r:=[Pt p 0]) rfl rfl rfl fun b _=>?_
  repeat (first | refine JL.q (by (apply OQ.assign;rfl)) rfl ?_ | refine JL.nil ?_ | refine JE.next ?_)
  exact JC.ret (JE.aR rfl (RV.tmp rfl) fun w' hw=>⟨b,rfl,hw⟩)
theorem tc : aL Tryz.prog 33:=⟨_,Tryz.func33,rfl,by kernel_rfl⟩
theorem vN (f : Bk) (n : Nat) (hf : f.length<1000000000000000) (w : World) :
    Calls Tryz.prog 33 [Z f,N n].toArray w fun e w'=>∃ r : Nat × Nat,e=.returned (.agg (aM.cs ⟨cS f,⟨some ⟨r.1,0,none⟩,r.2,nV n⟩,false⟩).toArray)∧Holds w [] (aa 5 (some r) ((nV n).map U8)) w':=by
  refine enter (n:=11) Tryz.func33 rfl rfl rfl (Holds.start w []) ?_
  refine JC.seq (JC.region (JL.alloc Cg rfl fun b _=>?_))
  repeat (first | refine JL.q (by first|(apply OQ.pY (l:=[110#8,58#8]) (r:=f);rfl;rfl;exact (by simp;omega))|(apply OQ.fq;exact Tryz.underlying3;exact Tryz.underlying90;rfl)|(apply OQ.move;rfl)) rfl ?_ | refine JC.seq ?_ | refine JC.region ?_ | refine JL.nil ?_ | refine JE.next ?_)
  refine JL.r9 (M:=[⟨b,Row 78 [Z [],.slice none 0 0,.bool false],true⟩]) (q:=none) (xs:=[]) (m:=BitVec.ofNat 64 n) (size:=8) (by decide) (by decide) (fun _=>rfl) (by decide) rfl rfl rfl rfl fun r=>?_
  repeat (refine JL.q (by (apply OQ.o5 (key:=cS f) (s:=⟨some ⟨r.1,0,none⟩,r.2,nV n⟩);rfl;rfl)) rfl ?_)
  refine JL.perm (M':=⟨b,Row 78 [Z [],.slice none 0 0,.bool false],true⟩::aa 5 (some r) ((nV n).map U8)) ?_ (by exact List.perm_append_comm (l₁:=aa 5 (some r) ((nV n).map U8)) (l₂:=[_]))
  refine JL.aq (cs:=aM.cs ⟨cS f,⟨some ⟨r.1,0,none⟩,r.2,nV n⟩,false⟩) jK rfl rfl rfl (aM.one _) .here rfl ?_
  repeat (first | refine JL.nil ?_ | refine JE.next ?_)
  exact JC.ret (JE.aR rfl (RV.aT (cs:=aM.cs ⟨cS f,⟨some ⟨r.1,0,none⟩,r.2,nV n⟩,false⟩) gX jK rfl .here rfl Row.all) fun w' hw=>⟨r,rfl,hw.weak (.drop _ _ _ (aj.refl _))⟩)
end
section
set_option maxRecDepth 10000
open Sl cY dy fI Bx
theorem yd : jX Tryz.prog 46=true:=by kernel_rfl
theorem mU : dH Tryz.prog 46=some 3:=by kernel_rfl
theorem Cj : zc Tryz.prog 46=some [.int .i64 0,.int .i64 0,.slice none 0 0]:=by kernel_rfl
theorem rq : dP Tryz.prog 24=true:=by kernel_rfl
abbrev cU (i : Int) : Value:=.int .i64 i
def cm (u fl : Int) (s : aC) : List Value:=[cU u,cU fl,s.v]
theorem mV : aL Tryz.prog 32:=⟨_,Tryz.func32,rfl,by kernel_rfl⟩
def jV (f : Bk) (u fl : Int) (l : Bk) (r : Nat × Nat) : aM:=⟨bg f u,⟨some ⟨r.1,0,none⟩,r.2,BitVec.ofInt 8 fl::l⟩,false⟩
set_option maxHeartbeats 8000000 in
theorem oC (f : Bk) (u fl : Int) (s : aC) (hf : f.length<1000000000000000) (h0 : -9223372036854775808≤u) (h1 : u≤9223372036854775807) (hl : s.l.length≤3000000) (w : World) (hs : s.ok w) (hT : eY w) :
    Calls Tryz.prog 32 [Z f,.agg (cm u fl s).toArray].toArray w fun e w'=>∃ r : Nat × Nat,e=.returned (.agg (jV f u fl s.l r).cs.toArray)∧Holds w [] (aa 5 (some r) ((BitVec.ofInt 8 fl::s.l).map U8)) w':=by
  refine enter (n:=17) Tryz.func32 rfl rfl rfl (Holds.start w []) ?_
  refine JC.seq (JC.region (JL.box (r:=cm u fl s) rfl rfl rfl fun b3 _=>?_))
  refine JL.alloc Cg rfl fun b4 _=>?_
  repeat (first | refine JC.seq ?_ | refine JL.nil ?_ | refine JE.next ?_)
  let vs : Nat→Nat × Nat→Value:=fun j y=>match j with
    | 0=>Z f
    | 1=>Pt b3 0
    | 2=>cU u
    | 3=>Z (bg f u)
    | 4=>Pt b3 1
    | 5=>cU fl
    | 6=>U8 (BitVec.ofInt 8 fl)
    | 7=>ah (some y) 1
    | 8=>Pt b3 2
    | 9=>s.v
    | 10=>ah (some y) (s.l.length+1)
    | 11=>.agg (jV f u fl s.l y).cs.toArray
    | _=>N 0
  let Ms : Nat→Nat × Nat→List ai:=fun j y=>match j with
    | 7=>aa 5 (some y) [U8 (BitVec.ofInt 8 fl)]
    | 10=>aa 5 (some y) ((BitVec.ofInt 8 fl::s.l).map U8)
    | 12=>[⟨b4,Row 78 (jV f u fl s.l y).cs,true⟩]
    | 13=>[⟨b4,Row 78 [Z [],.slice none 0 0,.bool false],true⟩]
    | 14=>[⟨b3,Row 46 (cm u fl s),true⟩]
    | _=>[]
  refine JC.grow (g:=⟨[(0,Z f),(3,Pt b3 0),(4,Pt b4 0)],15,vs,Ms,(fun j=>match j with | 2=>[(1,6)] | 3=>[(0,5),(2,7)] | 5=>[(4,9)] | 6=>[(5,10)] | 7=>[(6,11)] | 9=>[(8,13)] | 10=>[(7,12),(9,14)] | 11=>[(3,8),(10,15)] | 12=>[(11,16)] | _=>[]),(fun j=>match j with | 2=>[14] | 5=>[14] | 9=>[14] | 10=>[7] | 12=>[13] | _=>[]),(fun j=>match j with | 10=>[7] | 12=>[13] | _=>[]),(fun j=>match j with | 11=>some 10 | 12=>some 11 | _=>none)⟩) [] [12,10,14] bZ (by repeat (first | exact ag.nil | refine ag.cons _ _ _ rfl ?_)) ?_ (by kernel_rfl) (by kernel_rfl) (by kernel_rfl) ?_ ?_
  · exact aj.refl _
  · refine ⟨?_,?_,?_,?_,?_,?_,?_,?_,?_,?_,?_,?_,?_,trivial⟩
    · (intro xx EF MF Q kk;(try refine JL.aB rfl rfl ?_);exact JL.q (OQ.move rfl) rfl (JL.nil (kk default nofun)))
    · (intro xx EF MF Q kk;(try refine JL.aB rfl rfl ?_);exact JL.q (OQ.aV rfl rfl rfl (by decide) rfl) rfl (JL.nil (kk default nofun)))
    · (intro xx EF MF Q kk;(try refine JL.aB rfl rfl ?_);exact JL.q (OQ.load (v:=cU u) bI rfl .here (Row.cell rfl)) rfl (JL.nil (kk default nofun)))
    · (intro xx EF MF Q kk;(try refine JL.aB rfl rfl ?_);exact JL.q (OQ.aF (vs:=[Z f,cU u]) kD rfl (fun w' hw'=>mT f u hf h0 h1 w' (hT.bf (by simp) hw'.bf))) rfl (JL.nil (kk default nofun)))
    · (intro xx EF MF Q kk;(try refine JL.aB rfl rfl ?_);exact JL.q (OQ.aV rfl rfl rfl (by decide) rfl) rfl (JL.nil (kk default nofun)))
    · (intro xx EF MF Q kk;(try refine JL.aB rfl rfl ?_);exact JL.q (OQ.load (v:=cU fl) bI rfl .here (Row.cell rfl)) rfl (JL.nil (kk default nofun)))
    · (intro xx EF MF Q kk;(try refine JL.aB rfl rfl ?_);exact JL.q (OQ.yN Tryz.underlying3 Tryz.underlying5 rfl) rfl (JL.nil (kk default nofun)))
    · (intro xx EF MF Q kk;refine JL.gu (v:=U8 (BitVec.ofInt 8 fl)) Tryz.underlying24 pJ rfl rfl rfl rfl fun b _=>?_;refine JL.p7 (M':=aa 5 (some (b,1)) [U8 (BitVec.ofInt 8 fl)]++MF) ?_ (.keep _ _ _ _ _ _ (ju rfl) (aj.refl _));exact JL.nil (kk (b,1) nofun))
    · (intro xx EF MF Q kk;(try refine JL.aB rfl rfl ?_);exact JL.q (OQ.aV rfl rfl rfl (by decide) rfl) rfl (JL.nil (kk default nofun)))
    · (intro xx EF MF Q kk;(try refine JL.aB rfl rfl ?_);exact JL.q (OQ.load (v:=s.v) rq rfl .here (Row.cell rfl)) rfl (JL.nil (kk default nofun)))
    · (intro xx EF MF Q kk;refine JL.bM (xs:=[U8 (BitVec.ofInt 8 fl)]) (cs:=s.l.map U8) (m:=s.l.length) (ad:=s.ad) (sc:=s.cap) (some (xx 7)) Tryz.underlying24 pJ nofun rfl rfl (List.length_map _) (fun w' hw'=>(hs.holds hw' rfl).reads) (fun v hv=>by obtain ⟨c,_,rfl⟩:=List.mem_map.1 hv;rfl) rfl (by simp;omega) (by simp;omega) rfl fun q' hq'=>?_;rcases q' with _ | r;(exact absurd (hq' rfl) (by simp));have hle : ([U8 (BitVec.ofInt 8 fl)]++s.l.map U8).length=s.l.length+1:=(by simp);rw [hle];exact JL.nil (kk r nofun))
    · (intro xx EF MF Q kk;(try refine JL.aB rfl rfl ?_);exact JL.q (OQ.o5 (key:=bg f u) (s:=⟨some ⟨(xx 10).1,0,none⟩,(xx 10).2,BitVec.ofInt 8 fl::s.l⟩) rfl rfl) rfl (JL.nil (kk (xx 10) (fun k h=>by cases h;rfl))))
    · (intro xx EF MF Q kk;exact JL.aq (cs:=(jV f u fl s.l (xx 11)).cs) jK rfl rfl rfl (aM.one _) .here rfl (JL.nil (kk (xx 11) (fun k h=>by cases h;rfl))))
  · intro xx hx
    have e1:=hx 12 11 (by decide) rfl
    have e2:=hx 11 10 (by decide) rfl
    show JE _ _ _ _ _ [(0,Z f),(3,Pt b3 0),(4,Pt b4 0)] ([⟨b4,Row 78 (jV f u fl s.l (xx 12)).cs,true⟩]++(aa 5 (some (xx 10)) ((BitVec.ofInt 8 fl::s.l).map U8)++([⟨b3,Row 46 (cm u fl s),true⟩]++[])))
    rw [e1,e2]
    generalize xx 10=r
    clear hx e1 e2 xx vs Ms
    refine JE.next ?_
    exact JC.ret (JE.aR rfl (RV.aT (cs:=(jV f u fl s.l r).cs) gX jK rfl .here rfl Row.all) fun w' hw=>⟨r,rfl,hw.weak (.drop _ _ _ (ax _ _))⟩)
end
section
set_option maxRecDepth 10000
open Sl cY dy fI Bx
structure Bz where
  b : Nat
  z : Sz
def Bz.E (x : Bz) : List ai:=x.z.E++[⟨x.b,Row 76 [Pt x.z.p 0],true⟩]
theorem Bz.wr (x : Bz) : ∀ e ∈ x.E,e.wr=true:=by
  intro e he
  rcases List.mem_append.1 he with he | he
  · exact x.z.wr e he
  · rw [List.mem_singleton] at he;subst he;rfl
structure Bz.ok (x : Bz) (af : List Bk) (vs : VL) (R : Rb) (n : Nat) : Prop where
  z : x.z.ok af vs
  v : Bv vs R
  r : R.ok n
theorem Ck : dP Tryz.prog 61=true:=by kernel_rfl
theorem fm : EI Tryz.prog 3 (.int .i64 0) 1 8:=by unfold EI;kernel_rfl
section
variable {n : Nat} {E : Env} {C : World→Prop} {dst : Option Tmp} {ty t' : TypeId} {pos : String} {aft : Array Edge} {g : Option (Nat × Bool)} {x y : Operand}
theorem OQ.BU (hx : ev E x=some .nilIface) : OQ Tryz.prog n E C ⟨dst,.binOp .eql 87 x (.const .nilIface) t',ty,pos,aft,g⟩ (.bool true):=
  OQ.run fun a ha w _=>by
    have h1:=ha.eval hx
    have h4 : (binOp .eql 87 .nilIface .nilIface).run Tryz.prog w=.ok (.bool true) w:=by
      show (do pure (.bool (← Op.equal 87 .nilIface .nilIface)) : Sem Value).run Tryz.prog w=_
      simp [Sem.run_bind,run_equal_nil_nil w 87 Tryz.underlying87]
    have h5 : a.eval (.const .nilIface)=.nilIface:=rfl
    simp [execOp,h1,h5,eqGuard,h4]
end
theorem tf : aL Tryz.prog 22:=⟨_,Tryz.func22,rfl,by kernel_rfl⟩
set_option maxHeartbeats 8000000 in
theorem vO (x : Bz) (af : List Bk) (vs : VL) (R : Rb) (n : Nat) (k : x.ok af vs R n) (f : Bk) (hf : f.length<1000000000000000) (w : World) (h0 : Holds w (keys x.E) x.E w) :
    Calls Tryz.prog 22 [Pt x.b 0,Z f].toArray w fun e w'=>e=.returned (N (R.next f))∧Holds w (keys x.E) x.E w':=by
  generalize keys x.E=S at h0 ⊢
  refine enter (n:=22) Tryz.func22 rfl rfl rfl h0 ?_
  unfold Bz.E
  repeat (first | refine JL.q (by first|(apply OQ.load;exact Ck;rfl;exact (aG (N:=x.z.E) .here);exact (Row.cell (v:=Pt x.z.p 0) rfl))|(apply OQ.pY (l:=[110#8,58#8]) (r:=f);rfl;rfl;exact (by simp;omega))|(apply OQ.move;rfl)|(apply OQ.assign;rfl)|(apply OQ.aO;rfl)|(apply OQ.aV;rfl;rfl;rfl;exact (by decide);rfl)) rfl ?_ | refine JC.seq ?_ | refine JC.region ?_ | refine JL.nil ?_ | refine JE.next ?_)
  have hg:=k.v.next f
  cases hn : R.next? f with
  | none=>
    rw [hn] at hg
    refine JL.BT (key:=cS f) (v:=[]) (is:=false) k.z (by rw [hg];rfl) (by rw [hg];rfl) rfl rfl rfl fun q=>?_
    repeat (first | refine JL.q (by first|(apply OQ.extract;rfl;rfl)|(apply OQ.not;rfl)|(apply OQ.move;rfl)|(apply OQ.assign;rfl)) rfl ?_ | refine JC.seq ?_ | refine JC.region ?_ | refine JL.nil ?_ | refine JE.next ?_)
    refine JC.cond_true rfl rfl ?_
    repeat (first | refine JL.q (by (apply OQ.assign;rfl)) rfl ?_ | refine JC.seq ?_ | refine JC.region ?_ | refine JL.nil ?_ | refine JE.next ?_)
    have e : R.next f=1:=by unfold Rb.next;rw [hn];rfl
    rw [e]
    refine JC.ret ?_
    repeat (refine JE.aA ?_)
    exact JE.aR rfl (RV.tmp rfl) fun w' hw=>⟨rfl,hw.weak (bP _ _)⟩
  | some m=>
    rw [hn] at hg
    refine JL.BT (key:=cS f) (v:=nV m) (is:=true) k.z (by rw [hg];rfl) (by rw [hg];rfl) rfl rfl rfl fun q=>?_
    have hlv : (aI q.1 (nV m)).l=nV m:=gI fun e=>absurd (q.2 e) (by unfold nV;intro h;have:=congrArg List.length h;rw [dL] at this;cases this)
    have hvv:=iT q.1 (nV m)
    rw [← hvv]
    repeat (first | refine JL.q (by first|(apply OQ.extract;rfl;rfl)|(apply OQ.not;rfl)|(apply OQ.move;rfl)|(apply OQ.assign;rfl)) rfl ?_ | refine JC.seq ?_ | refine JC.region ?_ | refine JL.nil ?_ | refine JE.next ?_)
    refine JC.cond_false rfl rfl ?_
    have e : R.next f=m:=by unfold Rb.next;rw [hn];rfl
    have hle:=R.iy k.r f
    rw [e] at hle ⊢
    have h1:=k.r.le
    have hto : (BitVec.ofNat 64 m).toNat=m:=by rw [BitVec.toNat_ofNat];omega
    have hr:=fun (w' : World) (ok : (aI q.1 (nV m)).ok w')=>c6 (aI q.1 (nV m)) w' ok (by rw [hlv];unfold nV;rw [dL];decide)
    rw [hlv,show dR (nV m)=BitVec.ofNat 64 m from uR _] at hr
    repeat (first | refine JL.q (by first|(apply OQ.aF (vs:=[(aI q.1 (nV m)).v]);exact bW;rfl;exact (fun w' hw'=>hr w' (fR hw')))|(apply OQ.pR;exact Tryz.underlying90;exact Tryz.underlying3;rfl;exact (by rw [hto];omega))|(apply OQ.move;rfl)|(apply OQ.assign;rfl)) rfl ?_ | refine JC.seq ?_ | refine JC.region ?_ | refine JC.skip ?_ | refine JL.nil ?_ | refine JE.next ?_)
    rw [hto]
    exact JC.ret (JE.aR rfl (RV.tmp rfl) fun w' hw=>⟨rfl,hw.weak (bP _ _)⟩)
theorem tg : aL Tryz.prog 21:=⟨_,Tryz.func21,rfl,by kernel_rfl⟩
def au (l : List Nat) : List Value:=l.map fun u=>N u
theorem z6 {R : Rb} {n : Nat} (k : R.ok n) {f : Bk} {u : Nat} (h : u ∈ R.list f) : u<10 ^ 10:=by
  obtain ⟨m,hm,rfl⟩:=List.mem_map.1 h
  exact k.mO (List.mem_filter.1 hm).1
set_option maxHeartbeats 16000000 in
theorem vP (x : Bz) (af : List Bk) (vs : VL) (R : Rb) (n : Nat) (k : x.ok af vs R n) (f : Bk) (hf : f.length<1000000000000000) (hn : R.ms.length≤1000000) (w : World) (h0 : Holds w (keys x.E) x.E w) :
    Calls Tryz.prog 21 [Pt x.b 0,Z f].toArray w fun e w'=>∃ q : {q : Acc // q=none→R.list f=[]},e=.returned (ah q.1 (R.list f).length)∧Holds w (keys x.E) (aa 3 q.1 (au (R.list f))++x.E) w':=by
  generalize keys x.E=S at h0 ⊢
  refine enter (n:=41) Tryz.func21 rfl rfl rfl h0 ?_
  unfold Bz.E
  have hlk : AO vs (bk f)=(R.list f).map fun u=>bg f ((u : Nat) : Int):=vt k.r k.v f
  have hll : (R.list f).length≤1000000:=by
    unfold Rb.list
    rw [List.length_map]
    have:=List.length_filter_le (fun m=>decide (m.f=f)) R.ms
    omega
  have hlt : ∀ u ∈ R.list f,u<10 ^ 10:=fun u h=>z6 k.r h
  have hfl : (bk f).length=f.length+3:=by unfold bk;simp
  generalize R.list f=L at hlk hll hlt ⊢
  repeat (first | refine JL.q (by first|(apply OQ.pY (l:=[109#8,58#8]) (r:=f);rfl;rfl;exact (by simp;omega))|(apply OQ.pY (l:=[109#8,58#8]++f) (r:=[58#8]);rfl;rfl;exact (by simp;omega))|(apply OQ.load;exact Ck;rfl;exact (aG (N:=x.z.E) .here);exact (Row.cell (v:=Pt x.z.p 0) rfl))|(apply OQ.move;rfl)|(apply OQ.assign;rfl)|(apply OQ.aO;rfl)|(apply OQ.aV;rfl;rfl;rfl;exact (by decide);rfl)) rfl ?_ | refine JC.seq ?_ | refine JC.region ?_ | refine JL.nil ?_ | refine JE.next ?_)
  refine JL.C4 (front:=bk f) (ks:=L.map fun u=>bg f ((u : Nat) : Int)) k.z hlk rfl rfl rfl fun q2=>?_
  obtain ⟨q2,hq2⟩:=q2
  dsimp only
  obtain ⟨ks,hks⟩ : ∃ ks,(L.map fun u=>bg f ((u : Nat) : Int))=ks:=⟨_,rfl⟩
  have hkl : ks.length=L.length:=by rw [← hks,List.length_map]
  rw [hks] at hq2 ⊢
  obtain ⟨X,hX⟩ : ∃ X,x.z.E++[(⟨x.b,Row 76 [Pt x.z.p 0],true⟩ : ai)]=X:=⟨_,rfl⟩
  rw [hX]
  repeat (first | refine JL.q (by first|(apply OQ.iV (q:=q2) (k:=ks.length);exact Tryz.underlying33;exact (fun e=>by rw [hq2 e];rfl);rfl)|(apply OQ.move;rfl)) rfl ?_ | refine JC.block ?_ | refine JL.nil ?_ | refine JE.next ?_)
  refine JC.loop (fun z : Nat × Acc=>[(5,ah z.2 z.1),(6,Z (bk f)),(19,ah q2 ks.length),(20,N ks.length),(21,N z.1)]) (fun z=>aa 3 z.2 (au (L.take z.1))++(aa 9 q2 (ks.map Z)++X)) (fun z=>ks.length - z.1) (fun z=>z.1≤ks.length∧(z.2=none→z.1=0)) (0,none) ⟨Nat.zero_le _,fun _=>rfl⟩ (by repeat (first | exact ag.nil | refine ag.cons _ _ _ rfl ?_)) (aj.refl _) ?_
  rintro ⟨i,q⟩ ⟨hi,hq0⟩
  dsimp only at hi hq0 ⊢
  repeat (first | refine JL.q (by (apply OQ.dX;rfl;rfl)) rfl ?_ | refine JC.seq ?_ | refine JC.region ?_ | refine JL.nil ?_ | refine JE.next ?_)
  refine JC.cond rfl (fun h=>?_) (fun h=>?_)
  · have hi' : i<ks.length:=by have:=of_decide_eq_true h;omega
    clear h
    have hiL : i<L.length:=by omega
    cases q2 with
    | none=>rw [hq2 rfl] at hi';cases hi'
    | some r2=>
    have hul : L.getD i 0<10 ^ 10:=hlt _ (by rw [List.getD_eq_getElem?_getD,List.getElem?_eq_getElem hiL];exact List.getElem_mem hiL)
    have htk : L.take (i+1)=L.take i++[L.getD i 0]:=by
      rw [List.take_succ_eq_append_getElem hiL,List.getD_eq_getElem?_getD,List.getElem?_eq_getElem hiL]
      rfl
    have hki : ks[i]?=some (bg f ((L.getD i 0 : Nat) : Int)):=by
      rw [← hks,List.getElem?_map,List.getD_eq_getElem?_getD,List.getElem?_eq_getElem hiL]
      rfl
    generalize L.getD i 0=u at hul htk hki
    have hzk : (ks.map Z)[i]?=some (Z (bg f (u : Int))):=by rw [List.getElem?_map,hki];rfl
    have hH : Has (aa 3 q (au (L.take i))++(aa 9 (some r2) (ks.map Z)++X)) r2.1 (Sl.Own 9 1 (ks.map Z).length r2.2 (ks.map Z)) true:=aG .here
    have hcell:=Sl.Own.cell (e:=9) (sz:=1) (n:=(ks.map Z).length) (cap:=r2.2) hzk
    have hkv : ah (some r2) ks.length=.slice (some ⟨r2.1,0,none⟩) ks.length r2.2:=rfl
    have hdr : (bg f (u : Int)).drop (bk f).length=rG (u : Int):=by rw [ga,List.drop_left'];rfl
    have hml : (bk f).length≤(bg f (u : Int)).length:=by rw [ga,List.length_append];omega
    have ha:=fun w'=>yb u hul w'
    rw [← hdr] at ha
    rw [hkv]
    repeat (first | refine JL.q (by first|(apply OQ.bD (i:=i) (b:=r2.1) (j:=0);exact Tryz.underlying33;exact iE;rfl;rfl;exact hi')|(apply OQ.load (v:=Z (bg f (u : Int)));exact eE;rfl;exact hH;exact (by rw [Nat.zero_add];exact hcell))|(apply OQ.lQ;exact Tryz.underlying9;rfl)|(apply OQ.yS (i:=(bk f).length);exact Tryz.underlying9;rfl;rfl;exact hml)|(apply OQ.aF (vs:=[Z ((bg f (u : Int)).drop (bk f).length)]);exact vJ;rfl;exact (fun w' _=>ha w'))|(apply OQ.extract;rfl;rfl)|(apply OQ.BU;rfl)|(apply OQ.move;rfl)|(apply OQ.assign;rfl)) rfl ?_ | refine JC.seq ?_ | refine JC.region ?_ | refine JC.block ?_ | refine JC.skip ?_ | refine JL.nil ?_ | refine JE.next ?_)
    refine JC.cond_true rfl rfl ?_
    repeat (first | refine JL.q (by (apply OQ.move;rfl)) rfl ?_ | refine JC.region ?_)
    refine JL.gu (v:=N u) Tryz.underlying35 fm rfl rfl rfl rfl fun bl _=>?_
    have hxl : (au (L.take i)).length=i:=by unfold au;rw [List.length_map,List.length_take];omega
    refine JL.perm (M':=aa 3 q (au (L.take i))++(⟨bl,Row 3 [N u],true⟩::(aa 9 (some r2) (ks.map Z)++X))) ?_ (by exact (List.perm_append_comm_assoc [_] _ _))
    refine JL.bM (xs:=au (L.take i)) (cs:=[N u]) (m:=1) (ad:=some ⟨bl,0,none⟩) (sc:=1) q Tryz.underlying35 fm (fun e=>by have:=hq0 e;subst this;rfl) (by rw [hxl];rfl) rfl rfl (fun w' hw'=>?_) (by simp [Value.oneCell']) rfl (by rw [hxl];omega) (by rw [hxl];omega) rfl fun q' hq'=>?_
    · obtain ⟨o,ho,hA⟩:=hw'.get (b:=bl) (A:=Row 3 [N u]) (wr:=true) (aG .here)
      exact Reads.block ho (Row.all o hA)
    have e2 : au (L.take i)++[N u]=au (L.take (i+1)):=by unfold au;rw [htk,List.map_append];rfl
    have e3 : (au (L.take i)++[N u]).length=i+1:=by rw [List.length_append,hxl];rfl
    rw [e3,e2]
    repeat (first | refine JL.q (by first|(apply OQ.move;rfl)|(apply OQ.assign;rfl)|(apply OQ.addN;rfl;rfl;exact (by (try simp only []);omega))) rfl ?_ | refine JC.region ?_ | refine JL.nil ?_ | refine JE.next ?_ | refine JE.an ?_)
    rw [← hkv]
    exact JE.again (i:=(i,q)) (i+1,q') ⟨hi',fun e=>absurd (hq' e) (by simp)⟩ (by dsimp only;omega) (by repeat (first | exact ag.nil | refine ag.cons _ _ _ rfl ?_)) (aE (.drop _ _ _ (aj.refl _)) _)
  · have hi' : i=L.length:=by have:=of_decide_eq_false h;omega
    subst hi'
    rw [List.take_length]
    repeat (first | refine JL.q (by first|(apply OQ.move;rfl)|(apply OQ.assign;rfl)) rfl ?_ | refine JC.seq ?_ | refine JC.region ?_ | refine JC.exit ?_ | refine JL.nil ?_ | refine JE.next ?_ | refine JE.aH ?_ | refine JE.aW ?_)
    exact JC.ret (JE.aR rfl (RV.tmp rfl) fun w' hw=>⟨⟨q,fun e=>List.eq_nil_of_length_eq_zero (hq0 e)⟩,rfl,hw.weak (aE (bP _ _) _)⟩)
end
section
set_option maxRecDepth 10000
open Sl cY dy fI Bx
section
variable {n : Nat} {E : Env} {C : World→Prop} {dst : Option Tmp} {ty t' : TypeId} {pos : String} {aft : Array Edge} {g : Option (Nat × Bool)} {x y z : Operand}
theorem OQ.z7 {u fl : Int} {s : aC} (hx : ev E x=some (cU u)) (hy : ev E y=some (cU fl)) (hz : ev E z=some s.v) : OQ Tryz.prog n E C ⟨dst,.build 46 #[(0,x),(1,y),(2,z)],ty,pos,aft,g⟩ (.agg (cm u fl s).toArray):=
  OQ.run fun a ha w _=>by
    have h1:=ha.eval hx
    have h2:=ha.eval hy
    have h3:=ha.eval hz
    have r:=run_build (P:=Tryz.prog) w 46 #[(0,cU u),(1,cU fl),(2,s.v)] (cm u fl s).toArray (by kernel_rfl)
    simp [execOp,h1,h2,h3,r]
theorem OQ.ye : OQ Tryz.prog n E C ⟨dst,.build 46 #[],ty,pos,aft,g⟩ (.agg (cm 0 0 bG).toArray):=OQ.pure rfl rfl (by kernel_rfl)
end
theorem yf (x : Bz) {M : List ai} : Has ((x.E++[])++M) x.b (Row 76 [Pt x.z.p 0]) true:=by
  rw [List.append_nil]
  unfold Bz.E
  rw [List.append_assoc]
  exact aG .here
theorem yg (x : Bz) (M : List ai) : (x.E++[])++M=x.z.E++([(⟨x.b,Row 76 [Pt x.z.p 0],true⟩ : ai)]++M):=by
  unfold Bz.E
  rw [List.append_nil,List.append_assoc]
theorem DK (u fl : Int) (s : aC) : (cm u fl s).all Value.oneCell'=true:=rfl
def vQ (r : Nat × Nat) (l : Bk) : aC:=⟨if r.2=1 then some ⟨r.1,0,none⟩ else (some (⟨r.1,0,none⟩ : Addr)).map (·.add (1 * 1)),r.2 - 1,l⟩
theorem yh {w0 w : World} {S : List Nat} {M : List ai} {r : Nat × Nat} {c : Bt} {l : Bk} (hw : Holds w0 S (aa 5 (some r) ((c::l).map U8)++M) w) : (vQ r l).ok w:=by
  have h:=fR (q:=some r) (l:=c::l) hw
  have h2 : (c::l).length≤r.2:=h.len
  have h1:=h.reads.drop (len:=(c::l).length) (cap:=r.2) (lo:=1) (by rw [List.length_map];rfl) h2 (by simp)
  refine ⟨?_,?_⟩
  · show l.length≤r.2 - 1
    rw [List.length_cons] at h2
    omega
  · have e : ((c::l).map U8).drop 1=l.map U8:=rfl
    show Reads w _ (l.map U8)
    rw [← e]
    exact h1
def BV (u : Int) (o : Option Ml) (r : Nat × Nat) : Value:=match o with
  | none=>.tuple #[.agg (cm 0 0 bG).toArray,N 7]
  | some m=>.tuple #[.agg (cm u m.fl (vQ r m.b)).toArray,N 0]
def z8 (o : Option Ml) (r : Nat × Nat) : List ai:=match o with
  | none=>[]
  | some m=>aa 5 (some r) (m.v.map U8)
theorem Aa (o : Option Ml) (r : Nat × Nat) : ∀ e ∈ z8 o r,e.wr=true:=by
  cases o with
  | none=>intro e h;cases h
  | some m=>exact fun e h=>aP 5 (some r) (m.v.map U8) e h
theorem ru : aL Tryz.prog 19:=⟨_,Tryz.func19,rfl,by kernel_rfl⟩
set_option maxHeartbeats 16000000 in
theorem th (x : Bz) (af : List Bk) (vs : VL) (R : Rb) (n : Nat) (k : x.ok af vs R n) (f : Bk) (u : Int) (hf : f.length<1000000000000000) (hu0 : -9223372036854775808≤u) (hu1 : u≤9223372036854775807) (w : World) (h0 : Holds w (keys x.E) x.E w) (hT : dS (keys x.E) w) :
    Calls Tryz.prog 19 [Pt x.b 0,Z f,cU u].toArray w fun e w'=>∃ r : Nat × Nat,e=.returned (BV u (R.find f u) r)∧Holds w (keys x.E) (z8 (R.find f u) r++x.E) w':=by
  generalize keys x.E=S at h0 hT ⊢
  refine enter (n:=33) Tryz.func19 rfl rfl rfl h0 ?_
  refine JC.seq (JC.region (JL.alloc Cj rfl fun b6 _=>?_))
  have hMk:=fun (w' : World) (M' : List ai) (hw' : Holds w S M' w')=>mT f u hf hu0 hu1 w' (hT.holds hw')
  obtain ⟨v,hv⟩ : ∃ v,(fh vs (bg f u)).getD []=v:=⟨_,rfl⟩
  haveI : Inhabited {q : Acc // q=none→v=[]}:=⟨⟨some (0,0),nofun⟩⟩
  obtain ⟨is,his⟩ : ∃ is,(fh vs (bg f u)).isSome=is:=⟨_,rfl⟩
  repeat (first | refine JL.q (by (apply OQ.assign;rfl)) rfl ?_ | refine JC.seq ?_ | refine JL.nil ?_ | refine JE.next ?_)
  let vs2 : Nat→{q : Acc // q=none→v=[]}→Value:=fun j y=>match j with
    | 0=>Pt x.b 0
    | 1=>Pt x.b 0
    | 2=>Pt x.b 0
    | 3=>Pt x.z.p 0
    | 4=>Z f
    | 5=>cU u
    | 6=>Z (bg f u)
    | 7=>.tuple #[ah y.1 v.length,.bool is]
    | 8=>.tuple #[ah y.1 v.length,.bool is]
    | 9=>ah y.1 v.length
    | 10=>.bool is
    | 11=>ah y.1 v.length
    | 12=>.bool is
    | _=>N 0
  let Ms : Nat→{q : Acc // q=none→v=[]}→List ai:=fun j y=>match j with
    | 7=>aa 5 y.1 (v.map U8)
    | 13=>[⟨b6,Row 46 [.int .i64 0,.int .i64 0,.slice none 0 0],true⟩]
    | 14=>x.E
    | _=>[]
  refine JC.grow (g:=⟨[(0,Pt x.b 0),(1,Z f),(2,cU u),(6,Pt b6 0)],15,vs2,Ms,(fun j=>match j with | 1=>[(0,11)] | 2=>[(1,12)] | 3=>[(2,13)] | 6=>[(4,15),(5,16)] | 7=>[(3,14),(6,17)] | 8=>[(7,18)] | 9=>[(8,10)] | 10=>[(8,10)] | 11=>[(9,19)] | 12=>[(10,20)] | _=>[]),(fun j=>match j with | 3=>[14] | 7=>[14] | _=>[]),(fun j=>match j with | _=>[]),(fun j=>match j with | 8=>some 7 | 9=>some 8 | 11=>some 9 | _=>none)⟩) [(11,8)] [7,13,14] bZ (by repeat (first | exact ag.nil | refine ag.cons _ _ _ rfl ?_)) ?_ (by kernel_rfl) (by kernel_rfl) (by kernel_rfl) ?_ ?_
  · exact List.append_nil x.E ▸ aj.refl _
  · refine ⟨?_,?_,?_,?_,?_,?_,?_,?_,?_,?_,?_,?_,?_,trivial⟩
    · (intro xx EF MF Q kk;(try refine JL.aB rfl rfl ?_);exact JL.q (OQ.move rfl) rfl (JL.nil (kk default nofun)))
    · (intro xx EF MF Q kk;(try refine JL.aB rfl rfl ?_);exact JL.q (OQ.aO rfl) rfl (JL.nil (kk default nofun)))
    · (intro xx EF MF Q kk;(try refine JL.aB rfl rfl ?_);exact JL.q (OQ.aV rfl rfl rfl (by decide) rfl) rfl (JL.nil (kk default nofun)))
    · (intro xx EF MF Q kk;(try refine JL.aB rfl rfl ?_);exact JL.q (OQ.load (v:=Pt x.z.p 0) Ck rfl (yf x) (Row.cell rfl)) rfl (JL.nil (kk default nofun)))
    · (intro xx EF MF Q kk;(try refine JL.aB rfl rfl ?_);exact JL.q (OQ.move rfl) rfl (JL.nil (kk default nofun)))
    · (intro xx EF MF Q kk;(try refine JL.aB rfl rfl ?_);exact JL.q (OQ.move rfl) rfl (JL.nil (kk default nofun)))
    · (intro xx EF MF Q kk;(try refine JL.aB rfl rfl ?_);exact JL.q (OQ.aF (vs:=[Z f,cU u]) kD rfl (fun w' hw'=>hMk w' _ hw')) rfl (JL.nil (kk default nofun)))
    · (intro xx EF MF Q kk;refine JL.perm (M':=x.z.E++([(⟨x.b,Row 76 [Pt x.z.p 0],true⟩ : ai)]++MF)) ?_ (List.Perm.of_eq (yg x MF));refine JL.BT (key:=bg f u) (v:=v) (is:=is) k.z hv his rfl rfl rfl fun q=>?_;refine JL.perm (M':=aa 5 q.1 (v.map U8)++((x.E++[])++MF)) (JL.nil (kk q nofun)) (List.Perm.of_eq (by rw [yg x MF])))
    · (intro xx EF MF Q kk;(try refine JL.aB rfl rfl ?_);exact JL.q (OQ.move rfl) rfl (JL.nil (kk (xx 7) (fun k h=>by cases h;rfl))))
    · (intro xx EF MF Q kk;(try refine JL.aB rfl rfl ?_);exact JL.q (OQ.extract rfl rfl) rfl (JL.nil (kk (xx 8) (fun k h=>by cases h;rfl))))
    · (intro xx EF MF Q kk;(try refine JL.aB rfl rfl ?_);exact JL.q (OQ.extract rfl rfl) rfl (JL.nil (kk default nofun)))
    · (intro xx EF MF Q kk;(try refine JL.aB rfl rfl ?_);exact JL.q (OQ.assign rfl) rfl (JL.nil (kk (xx 9) (fun k h=>by cases h;rfl))))
    · (intro xx EF MF Q kk;(try refine JL.aB rfl rfl ?_);exact JL.q (OQ.assign rfl) rfl (JL.nil (kk default nofun)))
  · intro xx hx
    have e1:=hx 11 9 (by decide) rfl
    have e2:=hx 9 8 (by decide) rfl
    have e3:=hx 8 7 (by decide) rfl
    show JE _ _ _ _ _ [(8,ah (xx 11).1 v.length),(0,Pt x.b 0),(1,Z f),(2,cU u),(6,Pt b6 0)] (aa 5 (xx 7).1 (v.map U8)++([⟨b6,Row 46 [.int .i64 0,.int .i64 0,.slice none 0 0],true⟩]++(x.E++[])))
    rw [e1,e2,e3]
    generalize xx 7=q
    clear hx e1 e2 e3 xx vs2 Ms
    obtain ⟨q,hq⟩:=q
    rw [List.append_nil]
    dsimp only
    refine JE.next ?_
    have hg:=k.v.xM f u
    cases hn : R.find f u with
    | none=>
      rw [hn] at hg
      have hv0 : v=[]:=by rw [← hv,hg];rfl
      subst hv0
      repeat (first | refine JL.q (by first|(apply OQ.iV (q:=q) (k:=0);exact Tryz.underlying24;exact (fun _=>rfl);rfl)|(apply OQ.iC (a:=0) (b:=0) (c:=true);rfl;rfl;rfl)|(apply OQ.move;rfl)) rfl ?_ | refine JC.seq ?_ | refine JC.region ?_ | refine JL.nil ?_ | refine JE.next ?_)
      refine JC.cond_true rfl rfl ?_
      repeat (first | refine JL.q (by (apply OQ.ye)) rfl ?_ | refine JC.seq ?_ | refine JC.region ?_)
      refine JL.perm (M':=⟨b6,Row 46 [.int .i64 0,.int .i64 0,.slice none 0 0],true⟩::(aa 5 q (([] : Bk).map U8)++x.E)) ?_ (by exact List.perm_middle)
      refine JL.aq (cs:=cm 0 0 bG) mU rfl rfl rfl rfl .here rfl ?_
      repeat (first | refine JL.q (by (apply OQ.assign;rfl)) rfl ?_ | refine JL.nil ?_ | refine JE.next ?_)
      refine JC.ret ?_
      repeat (refine JE.aA ?_)
      exact JE.cw rfl (RV.aT (cs:=cm 0 0 bG) yd mU rfl .here rfl Row.all) (RV.tmp rfl) fun w' hw=>⟨(0,0),rfl,hw.weak (.drop _ _ _ (bP _ _))⟩
    | some m=>
      rw [hn] at hg
      have hv0 : v=m.v:=by rw [← hv,hg];rfl
      subst hv0
      have hml : m.v.length=m.b.length+1:=rfl
      cases q with
      | none=>exact absurd (hq rfl) (by unfold Ml.v;simp)
      | some r=>
      have hfl : (BitVec.ofNat 8 m.fl).toNat=m.fl:=by
        have:=k.r.fl m (dm hn).1
        rw [BitVec.toNat_ofNat]
        omega
      have hne : decide (((m.v.length : Nat) : Int)=0)=false:=decide_eq_false (by rw [hml];omega)
      repeat (first | refine JL.q (by first|(apply OQ.iV (q:=some r) (k:=m.v.length);exact Tryz.underlying24;exact nofun;rfl)|(apply OQ.iC (a:=(m.v.length : Int)) (b:=0);rfl;rfl;exact hne)|(apply OQ.move;rfl)) rfl ?_ | refine JC.seq ?_ | refine JC.region ?_ | refine JL.nil ?_ | refine JE.next ?_)
      refine JC.cond_false rfl rfl ?_
      have hvv : ah (some r) m.v.length=.slice (some ⟨r.1,0,none⟩) m.v.length r.2:=rfl
      have hsl : (Value.slice (if r.2=1 then some (⟨r.1,0,none⟩ : Addr) else (some (⟨r.1,0,none⟩ : Addr)).map (·.add (1 * 1))) (m.v.length - 1) (r.2 - 1))=(vQ r m.b).v:=rfl
      have hcell : ∀ o,Sl.Own 5 1 (m.v.map U8).length r.2 (m.v.map U8) o→cellAt o (0+0)=some (U8 (BitVec.ofNat 8 m.fl)):=Sl.Own.cell rfl
      have hHr : Has (aa 5 (some r) (m.v.map U8)++([(⟨b6,Row 46 [.int .i64 0,.int .i64 0,.slice none 0 0],true⟩ : ai)]++x.E)) r.1 (Sl.Own 5 1 (m.v.map U8).length r.2 (m.v.map U8)) true:=.here
      rw [hvv]
      repeat (first | refine JC.seq ?_ | refine JC.skip ?_ | refine JE.next ?_)
      refine JC.tail 8 bZ (by kernel_rfl) ?_
      simp only [List.take_succ_cons,List.take_zero,List.drop_succ_cons,List.drop_zero]
      repeat (first | refine JQ.q (by first|(apply OQ.bD (i:=0) (b:=r.1) (j:=0);exact Tryz.underlying24;exact iD;rfl;rfl;exact (by omega))|(apply OQ.load;exact A5;rfl;exact hHr;exact hcell)|(apply OQ.to;exact (OQ.yO Tryz.underlying5 Tryz.underlying3 rfl);exact (congrArg N hfl))|(apply OQ.to;exact (OQ.rK (lo:=1) Tryz.underlying24 iD rfl rfl (by omega));exact hsl)|(apply OQ.z7 (u:=u) (fl:=m.fl) (s:=vQ r m.b);rfl;rfl;rfl)|(apply OQ.move;rfl)) rfl ?_ | refine JQ.cI ?_)
      refine JL.perm (M':=⟨b6,Row 46 [.int .i64 0,.int .i64 0,.slice none 0 0],true⟩::(aa 5 (some r) (m.v.map U8)++x.E)) ?_ (by exact List.perm_middle)
      refine JL.aq (cs:=cm u m.fl (vQ r m.b)) mU rfl rfl rfl rfl .here rfl ?_
      repeat (first | refine JL.q (by (apply OQ.assign;rfl)) rfl ?_ | refine JL.nil ?_ | refine JE.next ?_)
      exact JC.ret (JE.cw rfl (RV.aT (cs:=cm u m.fl (vQ r m.b)) yd mU rfl .here rfl Row.all) (RV.tmp rfl) fun w' hw=>⟨r,rfl,hw.weak (.drop _ _ _ (aj.refl _))⟩)
end
section
set_option maxRecDepth 10000
open Sl cY dy fI
theorem Step.keep {z z' : Sz} {af bh : List Bk} {vs vs' : VL} {ps : List Pq} {code : Nat} (st : Step z af vs ps code z' bh vs') (k : z.ok af vs) (hg : z.h.g.toNat<4294967295) :
    z'.h.size=z.h.size∧z'.h.x.p=z.h.x.p∧z'.h.g.toNat≤z.h.g.toNat+1:=by
  obtain ⟨_,_,st⟩:=st
  rcases st with ⟨rfl,_⟩ | ⟨_,_,_,⟨_,e,_⟩ | ⟨_,_,e,_⟩⟩
  · exact ⟨rfl,rfl,Nat.le_succ _⟩
  · rw [e];exact ⟨rfl,rfl,Nat.le_succ _⟩
  · rw [e];exact ⟨rfl,rfl,oR k.jv.ue hg⟩
theorem Step.zero {z z' : Sz} {af bh : List Bk} {vs vs' : VL} {ps : List Pq} {code : Nat} (st : Step z af vs ps code z' bh vs') (k : z.ok af vs) (hok : fV ps=true) (hs : nb (bO vs ps).length≤z.h.size) (hg : z.h.g.toNat<4294967295) : code=0∧vs'=cy vs ps:=by
  obtain ⟨_,_,st⟩:=st
  rcases st with ⟨_,_,_,h | h⟩ | ⟨_,h1,h2,_⟩
  · rw [hok] at h;exact absurd h.1 (by decide)
  · rcases h.2.2.2 with h | h
    · omega
    · have:=k.jv.ue
      rw [h,show (4294967295#32).toNat=4294967295 from rfl] at this
      omega
  · exact ⟨h1,h2⟩
theorem Sz.ok.again {z : Sz} {af : List Bk} {vs : VL} (k : z.ok af vs) : ∃ ls,aU (bz z.bl).2.2=some ls∧cy [] ls=vs∧(bz z.bl).2.2=af:=by
  have h:=k.vals
  unfold ew at h
  have hc : (bz z.bl).2.2=af:=by rw [k.jv.cur]
  cases hd : aU af with
  | none=>rw [hd] at h;cases h
  | some l=>
    rw [hd,Option.map_some,Option.some.injEq] at h
    exact ⟨l,by rw [hc,hd],h,hc⟩
theorem BW (z : Sz) (R : List ai) : (z.E++R).Perm (cg z.h.x z.bl []++(⟨z.p,Row 108 z.cs,true⟩::⟨z.mb,dO (z.mm,z.c),true⟩::⟨z.j,Row 160 (bp z.h),true⟩::(ay (z.mm.map ME.val)++R))):=by
  have:=List.perm_append_comm_assoc [⟨z.p,Row 108 z.cs,true⟩,⟨z.mb,dO (z.mm,z.c),true⟩,⟨z.j,Row 160 (bp z.h),true⟩] (cg z.h.x z.bl []) (ay (z.mm.map ME.val)++R)
  unfold Sz.E cn
  simpa using this
structure EH where
  i : Nat
  z : Sz
  af : List Bk
  q : Option Bk
end
end Go.Proofs.YtmhlgnbdhnolaaaGreatDoor
