/-
  Of no statement by itself: the texts RwF, Slcc, Slin, RwM, RwW, RwX, LinA, Slcv, RwY, RwS, RwT, RwL, RwG, RwH, RwI, RwU, RwV in one.
  Conditions: each theorem's own.
-/
import Derived.Test.YtbmagnpmfpfckaaDoorTb
import Derived.Laws.Tables
import Derived.Laws.Cover3
set_option linter.unusedSimpArgs false
set_option linter.unusedVariables false
namespace Go.Proofs.YtbmagnpmfpfckaaDoor
section
set_option maxRecDepth 10000
open Sl bV eu
namespace Rw
def bR (l : List Bt) (k : Nat) : List Bt:=aG ((l.drop (au l k)).take (aH (l.drop (au l k))))
theorem jX (h : aq) (k : Nat) : (aD h k).l=bR h.l k:=by
  show aG ((cU h k).l.take (aH (cU h k).l))=_
  rw [iC]
  rfl
theorem fI (h : aq) (k : Nat) : (aD h k).l.length+(ay h k).l.length=aH (h.l.drop (au h.l k)):=by
  have h1:=lW h k
  have h2 : (ay h k).l.length=(ew h k).l.length - (aD h k).l.length:=List.length_drop
  have h3 : (ew h k).l.length=aH (h.l.drop (au h.l k)):=by
    show ((cU h k).l.take (aH (cU h k).l)).length=_
    rw [iC,List.length_take]
    exact Nat.min_eq_left (gM _)
  omega
theorem eM {h : aq} {w : World} (hs : h.ok w) (k : Nat) : (aD h k).ok w:=sy (gP (fF hs k))
theorem dV {w0 : World} {M : List az} (h : aq) (hs : h.ok w0) (hl : h.l.length≤4611686018427387904) {bb : Nat} {t : TypeId} (hM : Has M bb (Row t [h.v]) true) :
    ∀ W,aa w0 [] M W→qy Tryd.prog 29 #[Pt bb 0] (fun k=>#[(aD h k).v,(ay h k).v]) (fun b=>b ∈ [bb]) (dA h) (aM h.l).length W:=fun W hW=>by
  obtain ⟨o,ho,hA⟩:=hW.get hM
  have hge : w0.heap.size≤bb:=((hW.all _ hM.mem).2 rfl).resolve_left (by simp)
  have ho : W.heap[bb]?=some (.cells #[h.v] t (0,0)):=by rw [ho];exact congrArg some hA
  exact qB h bb hl W (hs.holds hW rfl) (fun k hk=>by have:=cu hs k hk;omega) ho
theorem pX (l : List Bt) : (aM l).length≤l.length:=by
  have key : ∀ k,k≤(aM l).length→k≤au l k:=by
    intro k
    induction k with
    | zero=>exact fun _=>Nat.zero_le _
    | succ k ih=>
      intro hk
      have h1:=ih (by omega)
      have h2:=(dj l k).1 (by omega)
      have h3 : 0<aH (l.drop (au l k)):=fj (by rw [ne_eq,List.drop_eq_nil_iff];omega)
      show k+1≤au l k+_
      omega
  have:=key _ (Nat.le_refl _)
  have:=bF l (aM l).length
  omega
def jj (f : List (Nat × Nat)) (n : Nat) : List (Nat × Nat):=f.set (f.length - 1) ((f.getD (f.length - 1) (0,0)).1,(f.getD (f.length - 1) (0,0)).2+n)
def c8 (l : List Bt) (k : Nat) (f : List (Nat × Nat)) : List (Nat × Nat):=if cE ((bR l k).getD 0 0) then f else f++[(au l k,0)]
def gR (l : List Bt) : Nat→List (Nat × Nat)
  | 0=>[]
  | k+1=>jj (c8 l k (gR l k)) (aH (l.drop (au l k)))
theorem lY (l : List Bt) (k : Nat) : au l k≤au l (k+1):=Nat.le_add_right _ _
theorem pY {l : List Bt} {k : Nat} {f : List (Nat × Nat)} (h : ∀ p ∈ f,p.1+p.2≤au l k) : ∀ p ∈ c8 l k f,p.1+p.2≤au l k:=by
  unfold c8
  split
  · exact h
  · intro p hp
    rcases List.mem_append.1 hp with hp | hp
    · exact h p hp
    · obtain rfl:=List.mem_singleton.1 hp
      exact Nat.le_refl _
theorem vO {f : List (Nat × Nat)} {a n : Nat} (h : ∀ p ∈ f,p.1+p.2≤a) : ∀ p ∈ jj f n,p.1+p.2≤a+n:=by
  intro p hp
  rcases List.mem_or_eq_of_mem_set hp with hp | rfl
  · have:=h p hp;omega
  · by_cases hf : f=[]
    · subst hf;simp [jj] at hp
    · have hlt : f.length - 1<f.length:=by have:=List.length_pos_iff.2 hf;omega
      have:=h (f.getD (f.length - 1) (0,0)) (by rw [List.getD_eq_getElem?_getD,List.getElem?_eq_getElem hlt];exact List.getElem_mem _)
      dsimp only
      omega
theorem sJ (l : List Bt) : ∀ k,∀ p ∈ gR l k,p.1+p.2≤au l k
  | 0=>by intro p hp;cases hp
  | k+1=>vO (pY (sJ l k))
theorem mY {l : List Bt} {k : Nat} {f : List (Nat × Nat)} : (c8 l k f).length≤f.length+1:=by
  unfold c8
  split
  · omega
  · simp
theorem oM (l : List Bt) : ∀ k,(gR l k).length≤k
  | 0=>Nat.le_refl _
  | k+1=>by
    have h1:=oM l k
    have h2:=mY (l:=l) (k:=k) (f:=gR l k)
    show (List.set _ _ _).length≤k+1
    rw [List.length_set]
    omega
def aO (h : aq) (p : Nat × Nat) : Value:=.slice (h.snd p.1).ad p.2 (h.snd p.1).cap
def aZ (l : List Bt) : List (Nat × Nat):=if (aM l).length=0∨cE ((bR l 0).getD 0 0)=true then [] else gR l (aM l).length
structure wT where
  q : Acc
  k : Nat
theorem mZ : aR Tryd.prog 17:=⟨_,Tryd.func17,rfl,by kernel_rfl⟩
theorem vP : EI Tryd.prog 22 (.slice none 0 0) 1 24:=by unfold EI;kernel_rfl
theorem ez : fM Tryd.prog 31=true:=by kernel_rfl
theorem xo : dw Tryd.prog 31=some 1:=by kernel_rfl
theorem aF : fM Tryd.prog 3=true:=by kernel_rfl
theorem kU : dw Tryd.prog 3=some 1:=by kernel_rfl
abbrev uL (b1 b2 b3 b4 : Nat) (h : aq) (s : wT) : List az:=⟨b1,Row 22 [h.v],true⟩::⟨b2,Row 31 [.slice none 0 0],true⟩::⟨b3,Row 31 [ak s.q (gR h.l s.k).length],true⟩::⟨b4,Row 3 [N (au h.l s.k)],true⟩::an 22 s.q ((gR h.l s.k).map (aO h))
theorem aX {e : TypeId} {l : List Value} : ∀ o,Row e l o→o.isCells=true:=by rintro o rfl;rfl
theorem cJ {e : TypeId} {q : Acc} {l : List Value} : ∀ x ∈ an e q l,∀ o,x.A o→o.isCells=true:=by
  intro x hx o hA
  cases q with
  | none=>cases hx
  | some p=>
    rw [List.mem_singleton.1 hx] at hA
    obtain ⟨_,rfl,_⟩:=hA
    rfl
theorem kV {b1 b2 b3 b4 : Nat} {h : aq} {s : wT} : ∀ e ∈ uL b1 b2 b3 b4 h s,∀ o,e.A o→o.isCells=true:=by
  intro e he o hA
  simp only [uL,List.mem_cons] at he
  rcases he with rfl | rfl | rfl | rfl | he
  · exact aX o hA
  · exact aX o hA
  · exact aX o hA
  · exact aX o hA
  · exact cJ e he o hA
theorem sK {b1 b2 b3 b4 : Nat} {h : aq} {s : wT} : ∀ e ∈ uL b1 b2 b3 b4 h s,e.wr=true:=by
  intro e he
  simp only [uL,List.mem_cons] at he
  rcases he with rfl | rfl | rfl | rfl | he
  · rfl
  · rfl
  · rfl
  · rfl
  · exact aT _ _ _ e he
theorem KE.pZ {P : Program} {D n m : Nat} {w0 : World} {S : List Nat} {E : Env} {M : List az} {fn : Func} {R : Ending→World→Prop} {r1 : ResultVar} {v1 : Value} (hr : fn.results=#[r1]) (h1 : RV P n w0 S E M r1 v1) (hR : ∀ w,aa w0 S M w→R (.returned v1) w) : KE D n w0 S (bodyPostM Fence.wide m P fn R) .ret E (⟨D,fN,true⟩::M):=by
  refine ⟨fun a w ha hw=>iP (v:=v1) ha hw (fun w' hw'=>?_) hR⟩
  have e1:=h1 _ w' ha.base hw'
  dsimp only at e1
  rw [dH,hr]
  simp [e1,Sem.run_bind]
theorem JR.join {ι : Type} {P : Program} {n : Nat} {w0 : World} {S : List Nat} {Q Q' : Exit→Act→World→Prop} {E : Env} {M : List az} {r m : Nat} (Ei : ι→Env) (Mi : ι→List az) (I : ι→Prop) {p q : Code} (h : JR P n w0 S r m (Exit.then (fun a' w'=>∃ i,I i∧aE n (Ei i) a'∧aa w0 S (Mi i) w') Q) p E M)
    (k : ∀ i,I i→JR P n w0 S r m Q' q (Ei i) (Mi i)) : JR P n w0 S r m (Exit.then (q.wpIn (Rd r) m P Q') Q) p E M:=
  ⟨fun a w ha hw=>wpIn_mono (h.go a w ha hw) fun e a' w' he=>by
    cases e with
    | normal=>obtain ⟨i,hi,h1,h2⟩:=he;exact (k i hi).go a' w' h1 h2
    | exit _=>exact he
    | goto _=>exact he
    | ret=>exact he
    | panic _=>exact he
    | outgrown=>exact he⟩
theorem OQ.ng {P : Program} {n : Nat} {E : Env} {C : World→Prop} {dst : Option Tmp} {t ty e : TypeId} {pos : String} {aft : Array Edge} {g : Option (Nat × Bool)} {x : Operand} {q : Acc} {k : Nat} (hu : P.underlying t=some (.slice e)) (hq : q=none→k=0) (hx : ev E x=some (ak q k)) : OQ P n E C ⟨dst,.call ⟨.builtin .len,#[x],#[t]⟩,ty,pos,aft,g⟩ (N k):=by
  cases q with
  | none=>obtain rfl:=hq rfl;exact OQ.len hu hx
  | some r=>exact OQ.len hu hx
theorem sL (e : az) (A : List az) : aA [e] (e::A):=by
  obtain ⟨b,X,wr⟩:=e
  exact .keep _ _ _ _ _ _ (fun _ h=>h) (.nil _)
def uM (q : Acc) : Nat:=(q.getD (0,0)).1
set_option maxHeartbeats 16000000 in
theorem oN (h : aq) (w : World) (hs : h.ok w) (hl : h.l.length≤1000000000) (hne : ∀ k,k<(aM h.l).length→bR h.l k≠[]) :
    Calls Tryd.prog 17 [h.v].toArray w fun e w'=>∃ q : {q : Acc // q=none→aZ h.l=[]},e=.returned (ak q.1 (aZ h.l).length)∧aa w [] (an 22 q.1 ((aZ h.l).map (aO h))) w':=by
  refine jP (n:=56) Tryd.func17 rfl rfl rfl (aa.start w []) ?_
  refine JC.seq (JC.region ?_)
  refine JL.box (r:=[h.v]) rfl rfl rfl fun b1 _=>?_
  refine JL.alloc (r:=[.slice none 0 0]) (by kernel_rfl) rfl fun b2 _=>?_
  repeat (first | refine JC.seq ?_ | refine JC.region ?_ | refine JL.nil ?_ | refine JE.next ?_)
  refine JL.alloc (r:=[.slice none 0 0]) (by kernel_rfl) rfl fun b3 _=>?_
  repeat (first | refine JC.seq ?_ | refine JC.region ?_ | refine JL.nil ?_ | refine JE.next ?_)
  refine JL.alloc (r:=[.int .i64 0]) (by kernel_rfl) rfl fun b4 _=>?_
  refine JL.aK (v:=.int .i64 0) (r':=[.int .i64 0]) kU rfl rfl rfl rfl .here (by decide) rfl ?_
  repeat (first | refine JL.q (by (apply OQ.load;exact bX;rfl;exact (.there (.there (.there .here)));exact (Row.cell (v:=h.v) rfl))) rfl ?_ | refine JC.seq ?_ | refine JC.region ?_ | refine JL.nil ?_ | refine JE.next ?_)
  refine JL.bC (ι:=Nat) (vs:=[h.v]) (fun b=>jT b) (fun b=>[⟨b,Row 22 [h.v],true⟩]) eK rfl rfl (fun b e he=>by rw [List.mem_singleton.1 he]) (fun w' _=>fE h w') fun be=>?_
  repeat (first | refine JC.block ?_ | refine JL.nil ?_ | refine JE.next ?_)
  have hfirst : ∀ k,k<(aM h.l).length→0<(bR h.l k).length:=fun k hk=>List.length_pos_iff.2 (hne k hk)
  refine JC.jR (ι:=wT) (κ:=Unit) (τ:=wT) (fun k=>#[(aD h k).v,(ay h k).v]) [⟨be,Row 22 [h.v],true⟩] (dA h) (aM h.l).length (fun k=>(11,(ay h k).v)::(10,(aD h k).v)::[(0,h.v),(1,Pt b1 0),(2,Pt b2 0),(3,Pt b3 0),(4,Pt b4 0)])
    (uL b1 b2 b3 b4 h) (fun k s=>s.k=k∧(s.q=none→gR h.l k=[])∧(0<k→gR h.l k≠[]∧cE ((bR h.l 0).getD 0 0)=false)) (uL b1 b2 b3 b4 h) (fun k _=>[(5,(aD h k).v),(6,(ay h k).v),(0,h.v),(1,Pt b1 0),(2,Pt b2 0),(3,Pt b3 0),(4,Pt b4 0)]) (fun k s=>s.k=k∧(s.q=none→gR h.l k=[])∧(0<k→gR h.l k≠[]∧cE ((bR h.l 0).getD 0 0)=false))
    (fun _=>[⟨b2,Row 31 [.slice none 0 0],true⟩]) (fun _=>aZ h.l=[])
    ?hput (fun _=>rfl) rfl (enters_of Tryd.func29 (by kernel_rfl) rfl) (dV h hs (by omega) .here) (fun e he=>by rw [List.mem_singleton.1 he]) (fun _=>sK) (fun _=>sK) (fun _ e he=>by rw [List.mem_singleton.1 he]) (fun _=>kV) (fun _=>kV) (fun _ e he o hA=>by rw [List.mem_singleton.1 he] at hA;exact aX o hA)
    (fun b hb=>⟨cu hs b hb,by simp⟩) ⟨none,0⟩ ⟨rfl,fun _=>rfl,fun h=>absurd h (by decide)⟩ ?hMz ?hasg ?hbody ?hdone ?hstop
  case hput=>
    intro k a ha
    rw [jq a 10 11 _ _ ha.defers]
    exact (((ha.put 10 _ rfl).put 11 _ rfl)).sub (by repeat (first | exact ax.nil | refine ax.cons _ _ _ rfl ?_))
  case hMz=>
    intro w' hw'
    refine hw'.perm ?_
    exact .cons _ (List.reverse_perm [(⟨b1,Row 22 [h.v],true⟩ : az),⟨b2,Row 31 [.slice none 0 0],true⟩,⟨b3,Row 31 [.slice none 0 0],true⟩,⟨b4,Row 3 [N 0],true⟩])
  case hasg=>
    intro r k s w1 hi hk hH
    exact JR.seq (JR.region rfl (ag dz) (JL.q (OQ.assign rfl) rfl (JL.nil (JE.bW (JR.region rfl dz (JL.q (OQ.assign rfl) rfl (JL.nil (JE.qx s hi (by repeat (first | exact ax.nil | refine ax.cons _ _ _ rfl ?_)) (aA.refl _)))))))))
  case hdone=>
    rintro D ⟨q,k⟩ ⟨hk,hq,hne'⟩
    dsimp only at hk hq hne'
    subst hk
    have hfb : aZ h.l=gR h.l (aM h.l).length:=by
      unfold aZ
      split
      · rename_i h0
        rcases h0 with h0 | h0
        · rw [h0];rfl
        · by_cases hz : (aM h.l).length=0
          · rw [hz];rfl
          · rw [(hne' (by omega)).2] at h0;cases h0
      · rfl
    rw [← hfb] at hq
    rw [show uL b1 b2 b3 b4 h ⟨q,(aM h.l).length⟩=⟨b1,Row 22 [h.v],true⟩::⟨b2,Row 31 [.slice none 0 0],true⟩::⟨b3,Row 31 [ak q (aZ h.l).length],true⟩::⟨b4,Row 3 [N (au h.l (aM h.l).length)],true⟩::an 22 q ((aZ h.l).map (aO h)) from by rw [hfb]]
    repeat (first | refine KL.q (by (apply OQ.load;exact ez;rfl;exact (.there (.there (.there .here)));exact (Row.cell (v:=ak q (aZ h.l).length) rfl))) rfl ?_ | refine KC.seq ?_ | refine KC.region ?_ | refine KE.next ?_ | refine KE.aj ?_)
    refine KL.aK (v:=ak q (aZ h.l).length) (r':=[ak q (aZ h.l).length]) xo rfl rfl (by cases q <;> rfl) (by cases q <;> rfl) (.there (.there .here)) (by decide) rfl ?_
    repeat (first | refine KL.nil ?_ | refine KE.next ?_)
    refine KC.ret ?_
    refine KE.pZ rfl (RV.cell rfl ez (b:=b2) (.there .here) (Row.cell rfl)) fun w' hw=>⟨⟨q,hq⟩,rfl,hw.weak (.drop _ _ _ (.drop _ _ _ (.drop _ _ _ (.drop _ _ _ (aA.refl _)))))⟩
  case hstop=>
    intro D _ hfb
    rw [hfb]
    exact KE.aI (KE.av (KE.pZ rfl (RV.cell rfl ez (b:=b2) .here (Row.cell (v:=.slice none 0 0) rfl)) fun w' hw=>⟨⟨none,fun _=>rfl⟩,rfl,hw.weak (.nil _)⟩))
  case hbody=>
    rintro r k ⟨q,k'⟩ w1 ⟨hk',hq,hpr⟩ hk hH
    dsimp only at hk' hq hpr
    subst hk'
    have hok : h.ok w1:=hs.holds hH rfl
    have tok:=eM hok k'
    have hge : ∀ b ∈ gJ (uL b1 b2 b3 b4 h ⟨q,k'⟩),w.heap.size≤b:=hH.fh
    have htl:=jX h k'
    have hel:=fI h k'
    have hpos:=hfirst k' hk
    rw [← htl] at hpos
    have hat:=lY h.l k'
    have hatl:=bF h.l (k'+1)
    have hats : au h.l (k'+1)=au h.l k'+aH (h.l.drop (au h.l k')):=rfl
    have hfl:=sJ h.l k'
    have hfn:=oM h.l k'
    have hnl : (aM h.l).length≤h.l.length:=by
      have:=pX h.l
      omega
    obtain ⟨c,rest,hc⟩ : ∃ c rest,(aD h k').l=c::rest:=by
      cases hh : (aD h k').l with
      | nil=>rw [hh] at hpos;cases hpos
      | cons c rest=>exact ⟨c,rest,rfl⟩
    have hc0 : (bR h.l k').getD 0 0=c:=by rw [← htl,hc];rfl
    have hop : c8 h.l k' (gR h.l k')=if cE c then gR h.l k' else gR h.l k'++[(au h.l k',0)]:=by unfold c8;rw [hc0]
    obtain ⟨bt,jt,had,hcell⟩:=tok.reads.at (by rw [List.length_map];exact hpos)
    have hc1 : w1.cell? ⟨bt,jt,none⟩=some (U8 c):=by
      have:=hcell 0 (U8 c) (by rw [hc];rfl)
      exact this
    have htv : (aD h k').v=.slice (some ⟨bt,jt,none⟩) (aD h k').l.length (aD h k').cap:=by rw [← had];rfl
    have hbt : bt ∉ gJ (uL b1 b2 b3 b4 h ⟨q,k'⟩):=fun hm=>by
      obtain ⟨b',j',had',hcell'⟩:=(eM hs k').reads.at (by rw [List.length_map];exact hpos)
      rw [had] at had'
      cases had'
      have h1 : bt<w.heap.size:=block_lt_of_cell (hcell' 0 (U8 c) (by rw [hc];rfl))
      have h2:=hge _ hm
      omega
    have hblt:=block_lt_of_cell hc1
    have hcap : h.l.length≤h.cap:=hs.len
    obtain ⟨f1,hf1⟩ : ∃ f1,c8 h.l k' (gR h.l k')=f1:=⟨_,rfl⟩
    have hfl1 : ∀ p ∈ f1,p.1+p.2≤au h.l k':=hf1 ▸ pY hfl
    have hfn1 : f1.length≤k'+1:=by
      have:=mY (l:=h.l) (k:=k') (f:=gR h.l k')
      rw [hf1] at this
      omega
    have hfs1 : gR h.l (k'+1)=jj f1 (aH (h.l.drop (au h.l k'))):=by rw [← hf1];rfl
    rw [hf1] at hop
    obtain ⟨g,hg⟩ : ∃ g,cE c=g:=⟨_,rfl⟩
    rw [hg] at hop
    have hbl:=fun w' : World=>hg ▸ fG c w'
    show JR _ _ _ _ _ _ _ _ [(5,(aD h k').v),(6,(ay h k').v),(0,h.v),(1,Pt b1 0),(2,Pt b2 0),(3,Pt b3 0),(4,Pt b4 0)] _
    rw [htv]
    repeat (first | refine JL.q (by first|(apply OQ.bZ (i:=0) (b:=bt) (j:=jt) (len:=(aD h k').l.length) (cap:=(aD h k').cap);exact Tryd.underlying22;exact cn;rfl;rfl;exact hpos)|(apply OQ.cA;exact og;rfl;exact hblt;exact hbt;exact hc1)|(apply OQ.aB (vs:=[U8 c]);exact cF;rfl;exact (fun w' _=>hbl w'))|(apply OQ.not;rfl)|(apply OQ.move;rfl)) rfl ?_ | refine JR.seq ?_ | refine JR.block ?_ | refine JL.nil ?_ | with_reducible refine JE.bW ?_ | refine JR.region rfl (by first | with_reducible exact ah | with_reducible exact ag ah | with_reducible exact ai ah | with_reducible exact ag (ai ah) | with_reducible exact af | with_reducible exact ag af | with_reducible exact ai af | with_reducible exact ag (ai af) | with_reducible exact ag (ag (ai af))) ?_)
    rw [← htv]
    refine JR.join (fun _ : Acc=>[(5,(aD h k').v),(6,(ay h k').v),(0,h.v),(1,Pt b1 0),(2,Pt b2 0),(3,Pt b3 0),(4,Pt b4 0)]) (fun q'=>⟨b1,Row 22 [h.v],true⟩::⟨b2,Row 31 [.slice none 0 0],true⟩::⟨b3,Row 31 [ak q' f1.length],true⟩::⟨b4,Row 3 [N (au h.l k')],true⟩::an 22 q' (f1.map (aO h))) (fun q'=>q'=none→f1=[]) ?_ ?_
    · cases g
      case true=>
        rw [if_pos rfl] at hop
        subst hop
        refine JR.cond rfl (fun h=>by cases h) (fun _=>?_)
        exact JR.skip (JE.mid q hq (by repeat (first | exact ax.nil | refine ax.cons _ _ _ rfl ?_)) (aA.refl _))
      case false=>
        rw [if_neg (by decide)] at hop
        subst hop
        refine JR.cond rfl (fun _=>?_) (fun h=>by cases h)
        obtain ⟨A,hA⟩ : ∃ A,au h.l k'=A:=⟨_,rfl⟩
        obtain ⟨F,hF⟩ : ∃ F,gR h.l k'=F:=⟨_,rfl⟩
        rw [hF] at hfn hq ⊢
        rw [hA] at hat ⊢
        have hAc : A≤h.cap:=by omega
        have hsl : (.slice (if h.cap=A then h.ad else h.ad.map (·.add (A * 1))) (A - A) (h.cap - A) : Value)=aO h (A,0):=by rw [Nat.sub_self];rfl
        have hm : ((F++[(A,0)]).map (aO h))=F.map (aO h)++[aO h (A,0)]:=by rw [List.map_append];rfl
        have hml : (F.map (aO h)).length=F.length:=List.length_map _
        have hll : (F++[(A,0)]).length=(F.map (aO h)++[aO h (A,0)]).length:=by rw [← hm,List.length_map]
        show JR _ _ _ _ _ _ _ _ _ (⟨b1,Row 22 [h.v],true⟩::⟨b2,Row 31 [.slice none 0 0],true⟩::⟨b3,Row 31 [ak q (gR h.l k').length],true⟩::⟨b4,Row 3 [N (au h.l k')],true⟩::an 22 q ((gR h.l k').map (aO h)))
        rw [hF,hA]
        let vs : Nat→Acc→Value:=fun j y=>match j with
          | 0=>ak q F.length
          | 1=>h.v
          | 2=>N A
          | 3=>N A
          | 4=>aO h (A,0)
          | 5=>.slice (some ⟨uM y,0,none⟩) 1 1
          | 6=>ak (some (y.getD (0,0))) (F.map (aO h)++[aO h (A,0)]).length
          | _=>N 0
        let Ms : Nat→Acc→List az:=fun j y=>match j with
          | 5=>[⟨uM y,Row 22 [aO h (A,0)],true⟩]
          | 6=>an 22 (some (y.getD (0,0))) (F.map (aO h)++[aO h (A,0)])
          | 7=>[⟨b3,Row 31 [ak (some (y.getD (0,0))) (F.map (aO h)++[aO h (A,0)]).length],true⟩]
          | 8=>[⟨b1,Row 22 [h.v],true⟩]
          | 9=>[⟨b2,Row 31 [.slice none 0 0],true⟩]
          | 10=>[⟨b3,Row 31 [ak q F.length],true⟩]
          | 11=>[⟨b4,Row 3 [N A],true⟩]
          | 12=>an 22 q (F.map (aO h))
          | _=>[]
        refine JR.fS (g:=⟨[(5,(aD h k').v),(6,(ay h k').v),(0,h.v),(1,Pt b1 0),(2,Pt b2 0),(3,Pt b3 0),(4,Pt b4 0)],13,vs,Ms,(fun j=>match j with | 4=>[(1,18),(2,19),(3,20)] | 5=>[(4,21)] | 6=>[(0,17),(5,22)] | 7=>[(6,23)] | _=>[]),(fun j=>match j with | 0=>[10] | 1=>[8] | 2=>[11] | 3=>[11] | 6=>[12,5] | 7=>[10] | _=>[]),(fun j=>match j with | 6=>[12] | 7=>[10] | _=>[]),(fun j=>match j with | 7=>some 6 | _=>none),fun _=>[],fun _ a b=>a=b⟩) [] [8,9,7,11,6] rfl (by repeat (first | with_reducible exact af | with_reducible apply ag | with_reducible apply ai)) di (by repeat (first | exact ax.nil | refine ax.cons _ _ _ rfl ?_)) (fun _ _=>.nil) ?_ (by kernel_rfl) (by kernel_rfl) (by kernel_rfl) ?_ ?_
        · show aA (Ms 8 default++(Ms 9 default++(Ms 10 default++(Ms 11 default++(Ms 12 default++[]))))) _;rw [List.append_nil];exact aA.refl _
        · refine ⟨?_,?_,?_,?_,?_,?_,?_,?_,trivial⟩
          · (intro xx EF MF Q kk;(try refine JL.aN rfl rfl ?_);exact JL.q (OQ.load ez rfl .here (Row.cell (v:=ak q F.length) rfl)) rfl (JL.nil (kk default nofun)))
          · (intro xx EF MF Q kk;(try refine JL.aN rfl rfl ?_);exact JL.q (OQ.load bX rfl .here (Row.cell (v:=h.v) rfl)) rfl (JL.nil (kk default nofun)))
          · (intro xx EF MF Q kk;(try refine JL.aN rfl rfl ?_);exact JL.q (OQ.load aF rfl .here (Row.cell (v:=N A) rfl)) rfl (JL.nil (kk default nofun)))
          · (intro xx EF MF Q kk;(try refine JL.aN rfl rfl ?_);exact JL.q (OQ.load aF rfl .here (Row.cell (v:=N A) rfl)) rfl (JL.nil (kk default nofun)))
          · (intro xx EF MF Q kk;(try refine JL.aN rfl rfl ?_);exact JL.q (OQ.to (OQ.gD (ad:=h.ad) (len:=h.l.length) (cap:=h.cap) (lo:=A) (hi:=A) Tryd.underlying22 cn rfl rfl rfl (Nat.le_refl _) hAc) hsl) rfl (JL.nil (kk default nofun)))
          · (intro xx EF MF Q kk;exact JL.gA (v:=aO h (A,0)) Tryd.underlying31 vP rfl rfl rfl rfl fun b0 _=>JL.nil (kk (some (b0,0)) nofun))
          · (intro xx EF MF Q kk;refine JL.perm (M':=an 22 q (F.map (aO h))++((Ms 5 (xx 5)++[])++MF)) ?_ (List.Perm.of_eq (List.append_assoc _ _ _));refine JL.bS (xs:=F.map (aO h)) (cs:=[aO h (A,0)]) (m:=1) (ad:=some ⟨uM (xx 5),0,none⟩) (sc:=1) q Tryd.underlying31 vP (fun e=>by rw [hq e];rfl) ?hzx9 rfl rfl (fun w' hw'=>?hrd9) (fun v hv=>by rw [List.mem_singleton.1 hv];rfl) rfl (by rw [hml];omega) (by rw [hml];omega) rfl ?hkk9;(case hzx9=>rw [hml];rfl);(case hrd9=>(obtain ⟨o,ho,hA⟩:=hw'.get (b:=uM (xx 5)) (A:=Row 22 [aO h (A,0)]) (wr:=true) (kE (N:=an 22 q (F.map (aO h))) .here));exact Reads.block ho (Row.all _ hA));(case hkk9=>intro q3 hq3;cases q3 with | none=>exact absurd (hq3 rfl) (by simp) | some p=>exact JL.nil (kk (some p) nofun)))
          · (intro xx EF MF Q kk;exact JL.aK (v:=ak (some ((xx 6).getD (0,0))) (F.map (aO h)++[aO h (A,0)]).length) (r':=[ak (some ((xx 6).getD (0,0))) (F.map (aO h)++[aO h (A,0)]).length]) xo rfl rfl rfl rfl .here (Nat.zero_lt_one) rfl (JL.nil (kk (xx 6) (fun k h=>by cases h;rfl))))
        · intro xx hx
          have e7 : xx 7=xx 6:=hx 7 6 (by decide) rfl
          refine JE.mid (some ((xx 6).getD (0,0))) nofun (by repeat (first | exact ax.nil | refine ax.cons _ _ _ rfl ?_)) ?_
          show aA _ (⟨b1,Row 22 [h.v],true⟩::⟨b2,Row 31 [.slice none 0 0],true⟩::⟨b3,Row 31 [ak (some ((xx 7).getD (0,0))) (F.map (aO h)++[aO h (A,0)]).length],true⟩::⟨b4,Row 3 [N A],true⟩::(an 22 (some ((xx 6).getD (0,0))) (F.map (aO h)++[aO h (A,0)])++[]))
          rw [e7,List.append_nil,← hm,List.length_map]
          exact aA.refl _
    · intro q' hq'
      by_cases hfe : f1=[]
      · subst hfe
        have hg9 : decide (((([] : List (Nat × Nat)).length : Nat) : Int) - 1<0)=true:=rfl
        repeat (first | refine JL.q (by first|(apply OQ.load;exact ez;rfl;exact (.there (.there .here));exact (Row.cell (v:=ak q' ([] : List (Nat × Nat)).length) rfl))|(apply OQ.ng (q:=q') (k:=([] : List (Nat × Nat)).length);exact Tryd.underlying31;exact (fun e=>rfl);rfl)|(apply OQ.wA (a:=(([] : List (Nat × Nat)).length : Nat)) (b:=1);rfl;rfl;exact (by decide);exact (by decide))|(apply OQ.kz (b:=0);rfl;rfl;exact hg9)|(apply OQ.move;rfl)|(apply OQ.assign;rfl)) rfl ?_ | refine JR.seq ?_ | refine JL.nil ?_ | with_reducible refine JE.bW ?_ | refine JR.region rfl (by first | with_reducible exact ah | with_reducible exact ag ah | with_reducible exact ai ah | with_reducible exact ag (ai ah) | with_reducible exact af | with_reducible exact ag af | with_reducible exact ai af | with_reducible exact ag (ai af) | with_reducible exact ag (ag (ai af))) ?_)
        refine JR.cond rfl (fun _=>?_) (fun h=>by cases h)
        have hfb : aZ h.l=[]:=by
          have hk0 : k'=0:=by
            rcases Nat.eq_zero_or_pos k' with h0 | h0
            · exact h0
            · have:=(hpr h0).1
              cases g
              · rw [if_neg (by decide)] at hop;exact absurd hop.symm (by simp)
              · rw [if_pos rfl] at hop;exact absurd hop.symm this
          subst hk0
          unfold aZ
          rw [if_pos (.inr (by
            rw [hc0,hg]
            cases g
            · rw [if_neg (by decide)] at hop;exact absurd hop.symm (by simp)
            · rfl))]
        refine JR.seq (JR.region rfl (by repeat (first | with_reducible exact af | with_reducible apply ag | with_reducible apply ai)) ?_)
        refine JL.aK (v:=.slice none 0 0) (r':=[.slice none 0 0]) xo rfl rfl rfl rfl (.there .here) (by decide) rfl ?_
        refine JL.nil (JE.bW (JR.ret ?_))
        repeat (first | with_reducible refine JE.av ?_ | with_reducible refine JE.aI ?_)
        exact JE.fY () hfb (.drop _ _ _ (sL _ _))
      have hfp:=List.length_pos_iff.2 hfe
      obtain ⟨rr,hrr⟩ : ∃ rr,q'=some rr:=by
        cases q' with
        | none=>exact absurd (hq' rfl) hfe
        | some rr=>exact ⟨rr,rfl⟩
      subst hrr
      have hg9 : decide (((f1.length - 1 : Nat) : Int)<0)=false:=decide_eq_false (by omega)
      repeat (first | refine JL.q (by first|(apply OQ.load;exact ez;rfl;exact (.there (.there .here));exact (Row.cell (v:=ak (some rr) f1.length) rfl))|(apply OQ.ng (q:=some rr) (k:=f1.length);exact Tryd.underlying31;exact nofun;rfl)|(apply OQ.lJ (a:=f1.length) (b:=1);rfl;rfl;exact (by omega);exact (by omega))|(apply OQ.kz (b:=0);rfl;rfl;exact hg9)|(apply OQ.move;rfl)|(apply OQ.assign;rfl)) rfl ?_ | refine JR.seq ?_ | refine JL.nil ?_ | with_reducible refine JE.bW ?_ | refine JR.region rfl (by first | with_reducible exact ah | with_reducible exact ag ah | with_reducible exact ai ah | with_reducible exact ag (ai ah) | with_reducible exact af | with_reducible exact ag af | with_reducible exact ai af | with_reducible exact ag (ai af) | with_reducible exact ag (ag (ai af))) ?_)
      refine JR.cond rfl (fun h=>by cases h) (fun _=>?_)
      obtain ⟨p,hp⟩ : ∃ p,f1.getD (f1.length - 1) (0,0)=p:=⟨_,rfl⟩
      have hlt1 : f1.length - 1<f1.length:=by omega
      have hpm : p ∈ f1:=by rw [← hp,List.getD_eq_getElem?_getD,List.getElem?_eq_getElem hlt1];exact List.getElem_mem _
      have hple:=hfl1 p hpm
      have hpg : (f1.map (aO h))[f1.length - 1]?=some (aO h p):=by
        rw [List.getElem?_map,← hp,List.getD_eq_getElem?_getD,List.getElem?_eq_getElem hlt1]
        rfl
      have hx1 : jj f1 (aH (h.l.drop (au h.l k')))=f1.set (f1.length - 1) (p.1,p.2+aH (h.l.drop (au h.l k'))):=by unfold jj;rw [hp]
      have hsum : (aD h k').l.length+(ay h k').l.length=aH (h.l.drop (au h.l k')):=hel
      have hN1 : N (au h.l k'+((aD h k').l.length+(ay h k').l.length))=N (au h.l (k'+1)):=by rw [hsum];rfl
      have hN2 : p.2+(aD h k').l.length+(ay h k').l.length=p.2+aH (h.l.drop (au h.l k')):=by omega
      have hs2 : (f1.map (aO h)).set (f1.length - 1) (aO h (p.1,p.2+aH (h.l.drop (au h.l k'))))=(gR h.l (k'+1)).map (aO h):=by rw [hfs1,hx1,List.map_set]
      have hln : (gR h.l (k'+1)).length=f1.length:=by rw [hfs1,hx1,List.length_set]
      have hcp : (h.snd p.1).cap=h.cap - p.1:=rfl
      have hsl3 : (.slice (if (h.snd p.1).cap=0 then (h.snd p.1).ad else (h.snd p.1).ad.map (·.add 0)) (p.2+aH (h.l.drop (au h.l k'))) (h.snd p.1).cap : Value)=aO h (p.1,p.2+aH (h.l.drop (au h.l k'))):=by
        unfold aO
        congr 1
        split
        · rfl
        · cases (h.snd p.1).ad <;> simp [Addr.add]
      have hmn : (f1.map (aO h)).length=f1.length:=List.length_map _
      repeat (first | refine JL.q (by first|(apply OQ.load;exact aF;rfl;exact (.there (.there (.there .here)));exact (Row.cell (v:=N (au h.l k')) rfl))|(apply OQ.len (k:=(aD h k').l.length) (ad:=(aD h k').ad) (cap:=(aD h k').cap);exact Tryd.underlying22;rfl)|(apply OQ.len (k:=(ay h k').l.length) (ad:=(ay h k').ad) (cap:=(ay h k').cap);exact Tryd.underlying22;rfl)|(apply OQ.bH (a:=(aD h k').l.length) (b:=(ay h k').l.length);rfl;rfl;exact (by omega))|(apply OQ.to;exact (OQ.bH (a:=au h.l k') (b:=(aD h k').l.length+(ay h k').l.length) rfl rfl (by omega));exact hN1)|(apply OQ.move;rfl)) rfl ?_ | refine JR.seq ?_ | with_reducible refine JE.bW ?_ | refine JR.skip ?_ | refine JR.region rfl (by first | with_reducible exact ah | with_reducible exact ag ah | with_reducible exact ai ah | with_reducible exact ag (ai ah) | with_reducible exact af | with_reducible exact ag af | with_reducible exact ai af | with_reducible exact ag (ai af) | with_reducible exact ag (ag (ai af))) ?_)
      refine JL.aK (v:=N (au h.l (k'+1))) (r':=[N (au h.l (k'+1))]) kU rfl rfl rfl rfl (.there (.there (.there .here))) Nat.zero_lt_one rfl ?_
      repeat (first | refine JL.nil ?_ | with_reducible refine JE.bW ?_)
      refine JR.tail 19 di rfl (by repeat (first | with_reducible exact af | with_reducible apply ag | with_reducible apply ai)) (by kernel_rfl) ?_
      have hkv : ak (some rr) f1.length=.slice (some ⟨rr.1,0,none⟩) f1.length rr.2:=rfl
      rw [hkv]
      have hcl : ∀ o,Sl.Own 22 1 (f1.map (aO h)).length rr.2 (f1.map (aO h)) o→cellAt o (0+(f1.length - 1))=some (aO h p):=by rw [Nat.zero_add];exact Sl.Own.cell hpg
      repeat (refine JQ.q (by first|(apply OQ.load;exact ez;rfl;exact (.there (.there .here));exact (Row.cell (v:=.slice (some ⟨rr.1,0,none⟩) f1.length rr.2) rfl))|(apply OQ.bZ (i:=f1.length - 1) (b:=rr.1) (j:=0) (len:=f1.length) (cap:=rr.2);exact Tryd.underlying31;exact bY;rfl;rfl;exact hlt1)|(apply OQ.load (v:=aO h p);exact bX;rfl;exact (.there (.there (.there (.there .here))));exact hcl)|(apply OQ.len (k:=p.2) (ad:=(h.snd p.1).ad) (cap:=(h.snd p.1).cap);exact Tryd.underlying22;rfl)|(apply OQ.len (k:=(aD h k').l.length) (ad:=(aD h k').ad) (cap:=(aD h k').cap);exact Tryd.underlying22;rfl)|(apply OQ.len (k:=(ay h k').l.length) (ad:=(ay h k').ad) (cap:=(ay h k').cap);exact Tryd.underlying22;rfl)|(apply OQ.bH (a:=p.2) (b:=(aD h k').l.length);rfl;rfl;exact (by omega))|(apply OQ.to;exact (OQ.bH (a:=p.2+(aD h k').l.length) (b:=(ay h k').l.length) rfl rfl (by omega));exact (congrArg N hN2))|(apply OQ.to;exact (OQ.jB (ad:=(h.snd p.1).ad) (len:=p.2) (cap:=(h.snd p.1).cap) (hi:=p.2+aH (h.l.drop (au h.l k'))) Tryd.underlying22 cn rfl rfl (by omega));exact hsl3)|(apply OQ.move;rfl)) rfl ?_)
      refine JQ.mG ?_
      refine JL.cG (j:=f1.length - 1) (xs':=(gR h.l (k'+1)).map (aO h)) bY (by simp only [Nat.zero_add];rfl) rfl rfl rfl (.there (.there (.there (.there .here)))) (by rw [hmn];exact hlt1) hs2 ?_
      refine JL.nil ?_
      repeat (with_reducible refine JE.aj ?_)
      refine JE.fZ ⟨some rr,k'+1⟩ ⟨rfl,nofun,fun _=>⟨fun e=>?_,?_⟩⟩ ?_
      · rw [e] at hln
        exact hfe (List.length_eq_zero_iff.1 hln.symm)
      · rcases Nat.eq_zero_or_pos k' with h0 | h0
        · subst h0
          rw [hc0,hg]
          cases g
          · rfl
          · rw [if_pos rfl] at hop
            exact absurd hop (fun e=>hfe e)
        · exact (hpr h0).2
      · show aA (⟨b1,Row 22 [h.v],true⟩::⟨b2,Row 31 [.slice none 0 0],true⟩::⟨b3,Row 31 [ak (some rr) (gR h.l (k'+1)).length],true⟩::⟨b4,Row 3 [N (au h.l (k'+1))],true⟩::[⟨rr.1,Sl.Own 22 1 ((gR h.l (k'+1)).map (aO h)).length rr.2 ((gR h.l (k'+1)).map (aO h)),true⟩]) _
        rw [hln,List.length_map,hln,← hmn]
        exact aA.refl _
end Rw
end
section
set_option maxRecDepth 10000
open Sl
namespace Sl
section
variable {P : Program} {n : Nat} {w0 : World} {S : List Nat} {ops : Array Oper} {Q : Exit→Act→World→Prop} {l : List Oper} {E : Env} {M M' M0 : List az} {d : Nat} {t e ty : TypeId} {pos : String} {aft : Array Edge} {x y : Operand}
end
section
variable {P : Program} {n : Nat} {w0 : World} {S : List Nat} {ops : Array Oper} {Q : Exit→Act→World→Prop} {l : List Oper} {E : Env} {M M' : List az} {C : World→Prop}
variable {dst : Option Tmp} {d b : Nat} {t e ty : TypeId} {pos : String} {aft : Array Edge} {g : Option (Nat × Bool)} {x y : Operand} {c : List Value} {L : List (List Value)} {wr : Bool}
end
section
variable {P : Program} {n : Nat} {w0 : World} {S : List Nat} {ops : Array Oper} {Q : Exit→Act→World→Prop} {l : List Oper} {E : Env} {M M' : List az}
variable {b : Nat} {t e ty : TypeId} {pos : String} {aft : Array Edge} {x y : Operand} {c : List Value} {L : List (List Value)}
end
end Sl
end
section
set_option maxRecDepth 10000
open Sl
namespace Sl
section
variable {P : Program} {n : Nat} {w0 : World} {S : List Nat} {ops : Array Oper} {Q : Exit→Act→World→Prop} {l : List Oper} {E : Env} {M M' : List az} {C : World→Prop}
variable {dst : Option Tmp} {d b : Nat} {t e ty : TypeId} {pos : String} {aft : Array Edge} {g : Option (Nat × Bool)} {x y z u : Operand} {cs : List Value}
theorem OQ.nh {len cap lo hi mx sz : Nat} {ad : Option Addr} (hu : P.underlying t=some (.slice e)) (hz : dw P e=some sz) (hx : ev E x=some (.slice ad len cap)) (hl : ev E y=some (N lo)) (hh : ev E z=some (N hi)) (hm : ev E u=some (N mx)) (h : lo≤hi) (h2 : hi≤mx) (h' : mx≤cap) :
    OQ P n E C ⟨dst,.slice t x (some y) (some z) (some u),ty,pos,aft,g⟩ (.slice (if mx=lo then ad else ad.map (·.add (lo * sz))) (hi - lo) (mx - lo)):=
  OQ.run fun a ha w _=>by
    have h1:=ha.eval hx
    have h4:=ha.eval hl
    have h5:=ha.eval hh
    have h6:=ha.eval hm
    have h3 : (underlying t).run P w=.ok (.slice e) w:=run_underlying hu w
    simp [execOp,h1,h4,h5,h6,Instr.sliceAt,Sem.run_bind,h3,Instr.slice,Instr.sliceBounds,Instr.sliceBound,asIntOf,h,h2,h',aL hz]
theorem JL.sM {zv : Value} {ad : Option Addr} {sz by' i k m cap sc : Nat} {xs xs' : List Value} (hu : P.underlying t=some (.slice e)) (hi : EI P e zv sz by') (hx : ev E x=some (.slice (some ⟨b,0,none⟩) i cap)) (hy : ev E y=some (.slice ad m sc))
    (hup : jc M b (Sl.Own e sz k cap xs) (Sl.Own e sz k cap xs') M') (hl : cs.length=m * sz) (hr : ∀ w,aa w0 S M w→Reads w ad cs) (h1 : ∀ v ∈ cs,v.oneCell'=true) (h0 : 0<sz) (hroom : i+m≤k) (he : xs.take (i * sz)++cs++xs.drop (i * sz+m * sz)=xs') (hd : Nat.blt d n=true)
    (kk : JL P n w0 S ops Q l ((d,.slice (some ⟨b,0,none⟩) (i+m) cap)::E) M') : JL P n w0 S ops Q (⟨some d,.call ⟨.builtin .append,#[x,y],#[t,t]⟩,ty,pos,aft,none⟩::l) E M:=
  ⟨fun a w ha hw=>wpList_plain rfl fun K hK=>by
    obtain ⟨inf,hi1,hi2,hi3,hi4⟩:=hi.get
    obtain ⟨o,ho,sp,rfl,hc1,hc2,hc3⟩:=hw.get hup.has
    have hru:=hr w hw
    have hle : i * sz+m * sz≤k * sz:=by rw [← Nat.add_mul];exact Nat.mul_le_mul_right _ hroom
    unfold Oper.wp
    simp only [execOp,resolve,invoke,builtin,Sem.run_bind,Sem.run_pure,Result.andThen_ok,List.map_toArray,List.map_cons,List.map_nil,ha.eval hx,ha.eval hy]
    by_cases hm : m=0
    · subst hm
      have hcs : cs=[]:=List.eq_nil_of_length_eq_zero (by simpa using hl)
      subst hcs
      rw [e6 (_t':=t) hu hi1 (by omega)]
      refine hK _ _ (kk.go _ _ (ha.put d _ hd) (hw.write hup (o':=.cells (xs++sp).toArray e (0,0)) ?_ ho rfl (fun _ _=>rfl) rfl rfl rfl))
      rw [← he]
      refine ⟨sp,?_,?_,?_,hc3⟩
      · simp
      · simpa using hc1
      · simpa using hc2
    · have hpos : 0<cs.length:=by rw [hl];exact Nat.mul_pos (Nat.pos_of_ne_zero hm) h0
      obtain ⟨b2,j2,rfl,hcell⟩:=hru.at hpos
      have hfit : i * inf.size+cs.length≤(xs++sp).toArray.size:=by
        rw [hl,hi3,List.size_toArray,List.length_append];omega
      rw [run_append_room (P:=P) w t ty e inf hu hi1 b i cap (xs++sp).toArray ho ⟨b2,j2,none⟩ m sc cs (by rw [hl,hi3]) (fun u v hv=>by rw [bh];exact hcell u v hv) h1 (by omega) hfit]
      refine hK _ _ (kk.go _ _ (ha.put d _ hd) (hw.write hup (o':=.cells ((xs++sp).take (i * inf.size)++cs++(xs++sp).drop (i * inf.size+cs.length)).toArray e (0,0)) ?_ (setRow_heap w b _ _ e _ ho) (by simp) (fun q hq=>setRow_other w b q _ hq) rfl rfl rfl))
      rw [hi3,hl,List.take_append_of_le_length (by omega),List.drop_append_of_le_length (by omega),← List.append_assoc,he]
      have hxl : xs'.length=xs.length:=by rw [← he];simp only [List.length_append,List.length_take,List.length_drop,hl];omega
      exact ⟨sp,rfl,by rw [List.length_append] at hc1 ⊢;omega,by omega,hc3⟩⟩
theorem zip_map {a : Act} (hk : aE n E a) : ∀ {is : List Nat} {xs : List Operand} {vs : List Value},eY E xs=some vs→(is.zip xs).map (fun p=>(p.1,a.eval p.2))=is.zip vs
  | [],xs,vs,_=>by simp
  | i::is,[],vs,h=>by
    simp only [eY,Option.some.injEq] at h
    subst h
    rfl
  | i::is,x::xs,vs,h=>by
    simp only [eY] at h
    cases h1 : ev E x with
    | none=>simp [h1] at h
    | some v=>
      cases h2 : eY E xs with
      | none=>simp [h1,h2] at h
      | some us=>
        simp only [h1,h2,Option.some.injEq] at h
        subst h
        simp [hk.eval h1,zip_map hk h2]
theorem OQ.oO {ps : Array (Nat × Operand)} (is : List Nat) (xs : List Operand) {vs : List Value} (hps : ps=(is.zip xs).toArray) (hx : eY E xs=some vs) (h : P.built t (is.zip vs)=some cs.toArray) : OQ P n E C ⟨dst,.build t ps,ty,pos,aft,g⟩ (.agg cs.toArray):=
  OQ.run fun a ha w _=>by
    have hm : ps.map (fun (i,x)=>(i,a.eval x))=(is.zip vs).toArray:=by
      rw [hps,List.map_toArray,← zip_map ha hx]
    have r:=run_build w t (is.zip vs).toArray cs.toArray (by simpa using h)
    simp only [execOp,hm,Sem.run_bind,r,Result.andThen_ok]
    rfl
end
end Sl
end
section
set_option maxRecDepth 10000
open Sl bV eu
namespace Rw
theorem gS (d : List Bt) : aH d=if (d.takeWhile (· != 10)).length<d.length then (d.takeWhile (· != 10)).length+1 else d.length:=rfl
theorem uN (d : List Bt) (m : Nat) (h : aH d≤m) : (d.take m).takeWhile (· != 10)=d.takeWhile (· != 10)∨d.length≤m:=by
  by_cases hd : d.length≤m
  · exact .inr hd
  left
  have key : ∀ (d : List Bt) (m : Nat),(d.takeWhile (· != 10)).length<m→(d.take m).takeWhile (· != 10)=d.takeWhile (· != 10):=by
    intro d
    induction d with
    | nil=>intro m _;simp
    | cons c r ih=>
      intro m hm
      cases m with
      | zero=>cases hm
      | succ m=>
        rw [List.take_succ_cons,List.takeWhile_cons,List.takeWhile_cons]
        rw [List.takeWhile_cons] at hm
        by_cases hc : (c != 10)=true
        · rw [if_pos hc] at hm ⊢
          rw [if_pos hc,ih m (by simp at hm;omega)]
        · rw [if_neg hc,if_neg hc]
  refine key d m ?_
  rw [gS] at h
  split at h
  · omega
  · omega
theorem kW {d : List Bt} {m : Nat} (h : aH d≤m) : aH (d.take m)=aH d:=by
  by_cases hd : d.length≤m
  · rw [List.take_of_length_le hd]
  · have h1:=(uN d m h).resolve_right hd
    have h2 : (d.take m).length=m:=by rw [List.length_take];omega
    rw [gS] at h
    rw [gS,gS,h1,h2]
    split at h
    · rw [if_pos (by omega)]
      rename_i h3
      rw [if_pos h3]
    · omega
theorem vo (l : List Bt) {j k : Nat} (h : j≤k) : au l j≤au l k:=by
  induction h with
  | refl=>exact Nat.le_refl _
  | step _ ih=>exact Nat.le_trans ih (lY l _)
theorem jY (l : List Bt) (a x : Nat) : (l.take a).drop x=(l.drop x).take (a - x):=List.drop_take
theorem lZ (l : List Bt) (k : Nat) : ∀ j,j≤k→au (l.take (au l k)) j=au l j:=by
  intro j
  induction j with
  | zero=>exact fun _=>rfl
  | succ j ih=>
    intro hj
    have h1:=vo l hj
    have hd : au l (j+1)=au l j+aH (l.drop (au l j)):=rfl
    show au (l.take (au l k)) j+aH ((l.take (au l k)).drop (au (l.take (au l k)) j))=_
    rw [ih (by omega),jY,kW (by omega),hd]
theorem sN (l : List Bt) {k : Nat} (hk : k≤(aM l).length) : (aM (l.take (au l k))).length=k:=by
  have hl : (l.take (au l k)).length=au l k:=by rw [List.length_take];exact Nat.min_eq_left (bF l k)
  have h1:=dj (l.take (au l k)) k
  rw [lZ l k k (Nat.le_refl _),hl] at h1
  rcases Nat.eq_zero_or_pos k with h0 | h0
  · subst h0;omega
  · have h2:=dj (l.take (au l k)) (k - 1)
    rw [lZ l k (k - 1) (by omega),hl] at h2
    have h3 : au l (k - 1)<au l k:=by
      have h4:=(dj l (k - 1)).1 (by omega)
      have h5 : 0<aH (l.drop (au l (k - 1))):=fj (by rw [ne_eq,List.drop_eq_nil_iff];omega)
      have h6 : au l (k - 1+1)=au l (k - 1)+aH (l.drop (au l (k - 1))):=rfl
      rw [show k - 1+1=k by omega] at h6
      omega
    omega
theorem sO (l : List Bt) {j k : Nat} (h : j<k) : bR (l.take (au l k)) j=bR l j:=by
  have h1:=vo l (show j+1≤k from h)
  have hd : au l (j+1)=au l j+aH (l.drop (au l j)):=rfl
  unfold bR
  rw [lZ l k j (by omega),jY,kW (by omega),List.take_take,Nat.min_eq_left (by omega)]
def br (l : List Bt) (k : Nat) : Prop:=k<(aM l).length∧bR l k=[]∧∀ j,j<k→bR l j≠[]
def kX (l : List Bt) : Prop:=∀ j,j<(aM l).length→bR l j≠[]
theorem uO {l : List Bt} {j k : Nat} (h : br l j) (h' : br l k) : j=k:=by
  rcases Nat.lt_trichotomy j k with h1 | h1 | h1
  · exact absurd h.2.1 (h'.2.2 j h1)
  · exact h1
  · exact absurd h'.2.1 (h.2.2 k h1)
theorem sP {l : List Bt} {k : Nat} (h : br l k) : ¬ kX l:=fun h'=>h' k h.1 h.2.1
def cc (l : List Bt) (k : Nat) : List (Nat × Nat):=aZ (l.take (au l k))
def FQ (F : List (Nat × Nat)) : Type:={q : Acc // q=none→F=[]}
instance (F : List (Nat × Nat)) : Inhabited (FQ F):=⟨⟨some (0,0),nofun⟩⟩
def bA (h : aq) (k : Nat) : aq:=h.fst (au h.l k)
def aW (h : aq) (k : Nat) (q : Acc) : List Value:=[ak q (cc h.l k).length,(ay h k).v,(h.snd (au h.l (k+1))).v]
def cB : List Value:=[.slice none 0 0,.slice none 0 0,.slice none 0 0]
theorem cw : aR Tryd.prog 10:=⟨_,Tryd.func10,rfl,by kernel_rfl⟩
theorem eA : dw Tryd.prog 33=some 3:=by kernel_rfl
theorem sQ : lH Tryd.prog 33=true:=by kernel_rfl
theorem vp : dw Tryd.prog 4=some 1:=by kernel_rfl
theorem vq : fM Tryd.prog 4=true:=by kernel_rfl
theorem fo (q : Acc) (k : Nat) : (ak q k).oneCell'=true:=by cases q <;> rfl
theorem cx (h : aq) (k : Nat) (q : Acc) : (aW h k q).all Value.oneCell'=true:=by
  simp only [aW,List.all_cons,List.all_nil,fo,Bool.true_and,Bool.and_true,aq.v]
  rfl
theorem KL.bI {P : Program} {D n : Nat} {w0 : World} {S : List Nat} {ops : Array Oper} {Q : Exit→Act→World→Prop} {os : List Oper} {E : Env} {M M' : List az} {pos : String} {aft : Array Edge} {ty : TypeId} {r cs : List Value} {e t : TypeId} {x y : Operand} {b m : Nat} (hz' : dw P t=some m) (hx : ev E x=some (.pointer (some ⟨b,0,none⟩))) (hy : ev E y=some (.agg cs.toArray)) (hc : cs.length=m) (hv : cs.all Value.oneCell'=true) (hu : jc M b (Row e r) (Row e cs) M') (hr : r.length=m)
    (k : KL P D n w0 S ops Q os E M') : KL P D n w0 S ops Q (⟨none,.store t x y,ty,pos,aft,none⟩::os) E M:=
  ⟨fun a w ha hw=>wpList_plain rfl fun K hK=>by
    have hz : dw P t=some cs.length:=hc ▸ hz'
    obtain ⟨o,ho,hAo⟩:=hw.get hu.has
    cases hAo
    obtain ⟨w',r1,r2,r3,r4,r5,r6,r7⟩:=bT (P:=P) (j:=0) cs 0 w r (fun v hv'=>List.all_eq_true.1 hv v hv') ho (by omega)
    have hA' : Row e cs (.cells (r.take 0++cs++r.drop (0+cs.length)).toArray e (0,0)):=by simp [Row,hc,← hr]
    have h1 : (execOp a.eval ⟨none,.store t x y,ty,pos,aft,none⟩).run P w=.ok .skip w':=by
      simp [execOp,ha.eval hx,ha.eval hy,Instr.storeAt,Instr.sureAddr,Sem.run_bind,storeVar,aL hz,Value.cells,r1]
    unfold Oper.wp
    rw [h1]
    exact hK _ _ (k.go _ _ ⟨ha.defers,ha.base⟩ (hw.write hu hA' (by simpa using r2) r3 r4 r5 r6 r7))⟩
theorem xR (q : Acc) (n : Nat) (b c : aq) : Tryd.prog.built 33 ([0,1,2].zip [ak q n,b.v,c.v])=some [ak q n,b.v,c.v].toArray:=by cases q <;> (unfold aq.v ak;kernel_rfl)
abbrev wU (b1 b2 b3 b4 : Nat) (h : aq) (k : Nat) : List az:=[⟨b1,Row 22 [h.v],true⟩,⟨b2,Row 33 cB,true⟩,⟨b3,Row 4 [.bool false],true⟩,⟨b4,Row 3 [N (au h.l k)],true⟩]
abbrev xp (b2 b3 : Nat) (h : aq) (s : Nat × Acc) : List az:=⟨b2,Row 33 (aW h s.1 s.2),true⟩::⟨b3,Row 4 [.bool true],true⟩::an 22 s.2 ((cc h.l s.1).map (aO (bA h s.1)))
theorem wV {b2 b3 : Nat} {h : aq} {k A : Nat} {q : Acc} {F : List (Nat × Nat)} (hF : cc h.l k=F) (hA : au h.l k=A) : aA (⟨b2,Row 33 (aW h k q),true⟩::⟨b3,Row 4 [.bool true],true⟩::an 22 q (F.map (aO (h.fst A)))) (⟨b2,Row 33 (aW h k q),true⟩::⟨b3,Row 4 [.bool true],true⟩::an 22 q (F.map (aO (h.fst A))))→aA (xp b2 b3 h (k,q)) (⟨b2,Row 33 (aW h k q),true⟩::⟨b3,Row 4 [.bool true],true⟩::an 22 q (F.map (aO (h.fst A)))):=by subst hF hA;exact id
theorem sR {b1 b2 b3 b4 : Nat} {h : aq} {k : Nat} : ∀ e ∈ wU b1 b2 b3 b4 h k,e.wr=true:=by
  intro e he
  simp only [List.mem_cons,List.mem_nil_iff,or_false] at he
  rcases he with rfl | rfl | rfl | rfl <;> rfl
theorem kY {b1 b2 b3 b4 : Nat} {h : aq} {k : Nat} : ∀ e ∈ wU b1 b2 b3 b4 h k,∀ o,e.A o→o.isCells=true:=by
  intro e he o hA
  simp only [List.mem_cons,List.mem_nil_iff,or_false] at he
  rcases he with rfl | rfl | rfl | rfl <;> exact aX o hA
theorem vQ {b2 b3 : Nat} {h : aq} {s : Nat × Acc} : ∀ e ∈ xp b2 b3 h s,e.wr=true:=by
  intro e he
  simp only [List.mem_cons] at he
  rcases he with rfl | rfl | he
  · rfl
  · rfl
  · exact aT _ _ _ e he
theorem qH {b2 b3 : Nat} {h : aq} {s : Nat × Acc} : ∀ e ∈ xp b2 b3 h s,∀ o,e.A o→o.isCells=true:=by
  intro e he o hA
  simp only [List.mem_cons] at he
  rcases he with rfl | rfl | he
  · exact aX o hA
  · exact aX o hA
  · exact cJ e he o hA
set_option maxHeartbeats 16000000 in
theorem ni (h : aq) (w : World) (hs : h.ok w) (hl : h.l.length≤1000000000) :
    Calls Tryd.prog 10 [h.v].toArray w fun e w'=>(∃ s : Nat × Acc,(br h.l s.1∧(s.2=none→cc h.l s.1=[]))∧e=.returned (.tuple #[.agg (aW h s.1 s.2).toArray,.bool true])∧aa w [] (an 22 s.2 ((cc h.l s.1).map (aO (bA h s.1)))) w')∨(kX h.l∧e=.returned (.tuple #[.agg cB.toArray,.bool false])∧Ext w w'):=by
  refine jP (n:=34) Tryd.func10 rfl rfl rfl (aa.start w []) ?_
  refine JC.seq (JC.region ?_)
  refine JL.box (r:=[h.v]) rfl rfl rfl fun b1 _=>?_
  refine JL.alloc (r:=cB) (by kernel_rfl) rfl fun b2 _=>?_
  skip
  refine JL.alloc (r:=[.bool false]) (by kernel_rfl) rfl fun b3 _=>?_
  repeat (first | refine JC.seq ?_ | refine JC.region ?_ | refine JL.nil ?_ | refine JE.next ?_)
  refine JL.alloc (r:=[.int .i64 0]) (by kernel_rfl) rfl fun b4 _=>?_
  refine JL.aK (v:=.int .i64 0) (r':=[.int .i64 0]) kU rfl rfl rfl rfl .here (by decide) rfl ?_
  repeat (first | refine JL.q (by (apply OQ.load;exact bX;rfl;exact (.there (.there (.there .here)));exact (Row.cell (v:=h.v) rfl))) rfl ?_ | refine JC.seq ?_ | refine JC.region ?_ | refine JL.nil ?_ | refine JE.next ?_)
  refine JL.bC (ι:=Nat) (vs:=[h.v]) (fun b=>jT b) (fun b=>[⟨b,Row 22 [h.v],true⟩]) eK rfl rfl (fun b e he=>by rw [List.mem_singleton.1 he]) (fun w' _=>fE h w') fun be=>?_
  repeat (first | refine JC.block ?_ | refine JL.nil ?_ | refine JE.next ?_)
  refine JC.jR (ι:=Nat) (κ:=Nat × Acc) (τ:=Nat) (fun k=>#[(aD h k).v,(ay h k).v]) [⟨be,Row 22 [h.v],true⟩] (dA h) (aM h.l).length (fun k=>(10,(ay h k).v)::(9,(aD h k).v)::[(0,h.v),(1,Pt b1 0),(2,Pt b2 0),(3,Pt b3 0),(4,Pt b4 0)])
    (wU b1 b2 b3 b4 h) (fun k s=>s=k∧∀ j,j<k→bR h.l j≠[]) (wU b1 b2 b3 b4 h) (fun k _=>[(5,(aD h k).v),(6,(ay h k).v),(0,h.v),(1,Pt b1 0),(2,Pt b2 0),(3,Pt b3 0),(4,Pt b4 0)]) (fun k s=>s=k∧∀ j,j<k→bR h.l j≠[])
    (xp b2 b3 h) (fun s=>br h.l s.1∧(s.2=none→cc h.l s.1=[]))
    ?hput (fun _=>rfl) rfl (enters_of Tryd.func29 (by kernel_rfl) rfl) (dV h hs (by omega) .here) (fun e he=>by rw [List.mem_singleton.1 he]) (fun _=>sR) (fun _=>sR) (fun _=>vQ) (fun _=>kY) (fun _=>kY) (fun _=>qH)
    (fun b hb=>⟨cu hs b hb,by simp⟩) 0 ⟨rfl,fun _ h=>absurd h (Nat.not_lt_zero _)⟩ ?hMz ?hasg ?hbody ?hdone ?hstop
  case hput=>
    intro k a ha
    rw [jq a 9 10 _ _ ha.defers]
    exact (((ha.put 9 _ rfl).put 10 _ rfl)).sub (by repeat (first | exact ax.nil | refine ax.cons _ _ _ rfl ?_))
  case hMz=>
    intro w' hw'
    refine hw'.perm ?_
    exact .cons _ (List.reverse_perm [(⟨b1,Row 22 [h.v],true⟩ : az),⟨b2,Row 33 cB,true⟩,⟨b3,Row 4 [.bool false],true⟩,⟨b4,Row 3 [N 0],true⟩])
  case hasg=>
    intro r k s w1 hi hk hH
    exact JR.seq (JR.region rfl (ag dz) (JL.q (OQ.assign rfl) rfl (JL.nil (JE.bW (JR.region rfl dz (JL.q (OQ.assign rfl) rfl (JL.nil (JE.qx s hi (by repeat (first | exact ax.nil | refine ax.cons _ _ _ rfl ?_)) (aA.refl _)))))))))
  case hdone=>
    rintro D k ⟨hk,hno⟩
    subst hk
    repeat (first | refine KC.seq ?_ | refine KC.region ?_ | refine KE.next ?_ | refine KE.aj ?_)
    refine KL.q (OQ.oO (cs:=cB) [] [] (vs:=[]) rfl rfl (by kernel_rfl)) rfl ?_
    refine KL.bI (cs:=cB) (r:=cB) eA rfl rfl rfl (by decide) (.there (.there .here)) rfl ?_
    refine KL.aK (v:=.bool false) (r':=[.bool false]) vp rfl rfl rfl rfl (.there (.there (.there .here))) (by decide) rfl ?_
    repeat (first | refine KL.nil ?_ | refine KE.next ?_)
    refine KC.ret ?_
    exact KE.sw rfl (RV.mJ (cs:=cB) sQ eA rfl (.there .here) rfl Row.all) (RV.cell rfl vq (.there (.there .here)) (Row.cell rfl)) fun w' hw=>.inr ⟨hno,rfl,hw.aC⟩
  case hstop=>
    rintro D ⟨k,q⟩ ⟨hg,hq⟩
    exact KE.aI (KE.av (KE.sw rfl (RV.mJ (cs:=aW h k q) sQ eA rfl .here rfl Row.all) (RV.cell rfl vq (.there .here) (Row.cell rfl)) fun w' hw=>.inl ⟨(k,q),⟨hg,hq⟩,rfl,hw.weak (.drop _ _ _ (.drop _ _ _ (aA.refl _)))⟩))
  case hbody=>
    rintro r k k' w1 ⟨hk',hno⟩ hk hH
    subst hk'
    have tok:=eM (hs.holds hH rfl) k'
    have htl:=jX h k'
    have hel:=fI h k'
    have hat:=lY h.l k'
    have hatl:=bF h.l (k'+1)
    have hats : au h.l (k'+1)=au h.l k'+aH (h.l.drop (au h.l k')):=rfl
    have hcap : h.l.length≤h.cap:=hs.len
    by_cases htx : bR h.l k'=[]
    · have ht0 : (aD h k').l.length=0:=by rw [htl,htx];rfl
      rw [ht0,Nat.zero_add] at hel
      have hg9 : decide ((((aD h k').l.length : Nat) : Int)=0)=true:=by rw [ht0];rfl
      repeat (first | refine JL.q (by first|(apply OQ.len (k:=(aD h k').l.length) (ad:=(aD h k').ad) (cap:=(aD h k').cap);exact Tryd.underlying22;rfl)|(apply OQ.aU (b:=0);rfl;rfl;exact hg9)|(apply OQ.move;rfl)) rfl ?_ | refine JR.seq ?_ | refine JR.block ?_ | refine JL.nil ?_ | with_reducible refine JE.bW ?_ | refine JR.region rfl (by first | with_reducible exact ah | with_reducible exact ag ah | with_reducible exact ai ah | with_reducible exact ag (ai ah) | with_reducible exact af | with_reducible exact ag af | with_reducible exact ai af | with_reducible exact ag (ai af) | with_reducible exact ag (ag (ai af))) ?_)
      refine JR.cond rfl (fun _=>?_) (fun h=>by cases h)
      refine JR.seq ?_
      obtain ⟨A,hA⟩ : ∃ A,au h.l k'=A:=⟨_,rfl⟩
      have hA1 : au h.l (k'+1)=A+(ay h k').l.length:=by rw [hats,hA,hel,hA]
      rw [hA] at hat
      have hAl : A≤h.l.length:=by omega
      obtain ⟨F,hF⟩ : ∃ F,cc h.l k'=F:=⟨_,rfl⟩
      have hne : ∀ j,j<(aM (h.fst A).l).length→bR (h.fst A).l j≠[]:=by
        intro j hj
        show bR (h.l.take A) j≠[]
        have hj : j<(aM (h.l.take A)).length:=hj
        rw [← hA] at hj ⊢
        rw [sN h.l (by omega)] at hj
        rw [sO h.l hj]
        exact hno j hj
      have hFA : aZ (h.fst A).l=F:=by rw [← hF,← hA];rfl
      have hcall : ∀ w',h.ok w'→Calls Tryd.prog 17 [(h.fst A).v].toArray w' fun e w2=>∃ q : FQ F,e=.returned (ak q.1 F.length)∧aa w' [] (an 22 q.1 (F.map (aO (h.fst A)))) w2:=by
        intro w' hw'
        have:=oN (h.fst A) w' (hw'.fst A) (by show (h.l.take A).length≤_;rw [List.length_take];omega) hne
        rw [hFA] at this
        exact this
      have hok' : ∀ {M : List az} {w' : World},aa w1 (gJ (wU b1 b2 b3 b4 h k')) M w'→h.ok w':=fun hw'=>hs.holds (hH.gK hw') rfl
      have hmv : ∀ q : Acc,[ak q F.length,(ay h k').v,(h.snd (A+(ay h k').l.length)).v]=aW h k' q:=fun q=>by unfold aW;rw [hF,hA1]
      show JR _ _ _ _ _ _ _ _ _ [⟨b1,Row 22 [h.v],true⟩,⟨b2,Row 33 cB,true⟩,⟨b3,Row 4 [.bool false],true⟩,⟨b4,Row 3 [N (au h.l k')],true⟩]
      rw [hA]
      obtain ⟨EE,hEE⟩ : ∃ EE,ay h k'=EE:=⟨_,rfl⟩
      rw [hEE] at hmv hA1 hel ⊢
      let vs : Nat→FQ F→Value:=fun j y=>match j with
        | 0=>h.v
        | 1=>N A
        | 2=>(h.fst A).v
        | 3=>ak y.1 F.length
        | 4=>EE.v
        | 5=>h.v
        | 6=>N A
        | 7=>EE.v
        | 8=>N EE.l.length
        | 9=>N (A+EE.l.length)
        | 10=>(h.snd (A+EE.l.length)).v
        | 11=>.agg [ak y.1 F.length,EE.v,(h.snd (A+EE.l.length)).v].toArray
        | _=>N 0
      let Ms : Nat→FQ F→List az:=fun j y=>match j with
        | 3=>an 22 y.1 (F.map (aO (h.fst A)))
        | 12=>[⟨b2,Row 33 [ak y.1 F.length,EE.v,(h.snd (A+EE.l.length)).v],true⟩]
        | 13=>[⟨b3,Row 4 [.bool true],true⟩]
        | 14=>[⟨b1,Row 22 [h.v],true⟩]
        | 15=>[⟨b2,Row 33 cB,true⟩]
        | 16=>[⟨b3,Row 4 [.bool false],true⟩]
        | 17=>[⟨b4,Row 3 [N A],true⟩]
        | _=>[]
      refine JR.fS (g:=⟨[(5,(aD h k').v),(6,EE.v),(0,h.v),(1,Pt b1 0),(2,Pt b2 0),(3,Pt b3 0),(4,Pt b4 0)],18,vs,Ms,(fun j=>match j with | 2=>[(0,14),(1,15)] | 3=>[(2,16)] | 8=>[(7,21)] | 9=>[(6,20),(8,22)] | 10=>[(5,19),(9,23)] | 11=>[(3,17),(4,18),(10,24)] | 12=>[(11,25)] | _=>[]),(fun j=>match j with | 0=>[14] | 1=>[17] | 5=>[14] | 6=>[17] | 12=>[15] | 13=>[16] | _=>[]),(fun j=>match j with | 12=>[15] | 13=>[16] | _=>[]),(fun j=>match j with | 11=>some 3 | 12=>some 11 | _=>none),fun _=>[],fun _ a b=>a=b⟩) [] [12,13,3] rfl (by repeat (first | with_reducible exact af | with_reducible apply ag | with_reducible apply ai)) di (by repeat (first | exact ax.nil | refine ax.cons _ _ _ rfl ?_)) (fun _ _=>.nil) ?_ (by kernel_rfl) (by kernel_rfl) (by kernel_rfl) ?_ ?_
      · exact aA.refl _
      · refine ⟨?_,?_,?_,?_,?_,?_,?_,?_,?_,?_,?_,?_,?_,?_,trivial⟩
        · (intro xx EF MF Q kk;(try refine JL.aN rfl rfl ?_);exact JL.q (OQ.load bX rfl .here (Row.cell (v:=h.v) rfl)) rfl (JL.nil (kk default nofun)))
        · (intro xx EF MF Q kk;(try refine JL.aN rfl rfl ?_);exact JL.q (OQ.load aF rfl .here (Row.cell (v:=N A) rfl)) rfl (JL.nil (kk default nofun)))
        · (intro xx EF MF Q kk;(try refine JL.aN rfl rfl ?_);exact JL.q (OQ.fst (s:=h) (m:=A) Tryd.underlying22 cn rfl rfl hAl hcap) rfl (JL.nil (kk default nofun)))
        · (intro xx EF MF Q kk;exact JL.bC (ι:=FQ F) (vs:=[(h.fst A).v]) (fun q=>ak q.1 F.length) (fun q=>an 22 q.1 (F.map (aO (h.fst A)))) mZ rfl rfl (fun q e he=>aT _ _ _ e he) (fun w' hw'=>hcall w' (hok' hw')) fun q=>JL.nil (kk q nofun))
        · (intro xx EF MF Q kk;(try refine JL.aN rfl rfl ?_);exact JL.q (OQ.move rfl) rfl (JL.nil (kk default nofun)))
        · (intro xx EF MF Q kk;(try refine JL.aN rfl rfl ?_);exact JL.q (OQ.load bX rfl .here (Row.cell (v:=h.v) rfl)) rfl (JL.nil (kk default nofun)))
        · (intro xx EF MF Q kk;(try refine JL.aN rfl rfl ?_);exact JL.q (OQ.load aF rfl .here (Row.cell (v:=N A) rfl)) rfl (JL.nil (kk default nofun)))
        · (intro xx EF MF Q kk;(try refine JL.aN rfl rfl ?_);exact JL.q (OQ.move rfl) rfl (JL.nil (kk default nofun)))
        · (intro xx EF MF Q kk;(try refine JL.aN rfl rfl ?_);exact JL.q (OQ.len (k:=EE.l.length) (ad:=EE.ad) (cap:=EE.cap) Tryd.underlying22 rfl) rfl (JL.nil (kk default nofun)))
        · (intro xx EF MF Q kk;(try refine JL.aN rfl rfl ?_);exact JL.q (OQ.bH (a:=A) (b:=EE.l.length) rfl rfl (by omega)) rfl (JL.nil (kk default nofun)))
        · (intro xx EF MF Q kk;(try refine JL.aN rfl rfl ?_);exact JL.q (OQ.snd (s:=h) (m:=A+EE.l.length) Tryd.underlying22 cn rfl rfl (by omega)) rfl (JL.nil (kk default nofun)))
        · (intro xx EF MF Q kk;(try refine JL.aN rfl rfl ?_);exact JL.q (OQ.oO (cs:=[ak (xx 3).1 F.length,EE.v,(h.snd (A+EE.l.length)).v]) [0,1,2] [.tmp 17,.tmp 18,.tmp 24] (vs:=[ak (xx 3).1 F.length,EE.v,(h.snd (A+EE.l.length)).v]) rfl rfl (xR _ _ _ _)) rfl (JL.nil (kk (xx 3) (fun k h=>by cases h;rfl))))
        · (intro xx EF MF Q kk;exact JL.bI (cs:=[ak (xx 11).1 F.length,EE.v,(h.snd (A+EE.l.length)).v]) (r:=cB) eA rfl rfl rfl ((congrArg (List.all · Value.oneCell') (hmv (xx 11).1)).trans (cx _ _ _)) .here rfl (JL.nil (kk (xx 11) (fun k h=>by cases h;rfl))))
        · (intro xx EF MF Q kk;exact JL.aK (v:=.bool true) (r':=[.bool true]) vp rfl rfl rfl rfl .here (Nat.zero_lt_one) rfl (JL.nil (kk default nofun)))
      · intro xx hx
        have e1 : xx 12=xx 11:=hx 12 11 (by decide) rfl
        have e2 : xx 11=xx 3:=hx 11 3 (by decide) rfl
        refine JE.bW (JR.ret ?_)
        repeat (first | with_reducible refine JE.av ?_ | with_reducible refine JE.aI ?_)
        refine JE.fY (k',(xx 3).1) ⟨⟨hk,htx,hno⟩,fun e=>hF.trans ((xx 3).2 e)⟩ ?_
        show aA _ (⟨b2,Row 33 [ak (xx 12).1 F.length,EE.v,(h.snd (A+EE.l.length)).v],true⟩::⟨b3,Row 4 [.bool true],true⟩::(an 22 (xx 3).1 (F.map (aO (h.fst A)))++[]))
        rw [e1,e2,List.append_nil,hmv (xx 3).1]
        exact wV hF hA (aA.refl _)
    · have ht0 : 0<(aD h k').l.length:=by rw [htl];exact List.length_pos_iff.2 htx
      have hg9 : decide ((((aD h k').l.length : Nat) : Int)=0)=false:=decide_eq_false (by omega)
      repeat (first | refine JL.q (by first|(apply OQ.len (k:=(aD h k').l.length) (ad:=(aD h k').ad) (cap:=(aD h k').cap);exact Tryd.underlying22;rfl)|(apply OQ.aU (b:=0);rfl;rfl;exact hg9)|(apply OQ.move;rfl)) rfl ?_ | refine JR.seq ?_ | refine JR.block ?_ | refine JL.nil ?_ | with_reducible refine JE.bW ?_ | refine JR.region rfl (by first | with_reducible exact ah | with_reducible exact ag ah | with_reducible exact ai ah | with_reducible exact ag (ai ah) | with_reducible exact af | with_reducible exact ag af | with_reducible exact ai af | with_reducible exact ag (ai af) | with_reducible exact ag (ag (ai af))) ?_)
      refine JR.cond rfl (fun h=>by cases h) (fun _=>?_)
      have hN1 : N (au h.l k'+((aD h k').l.length+(ay h k').l.length))=N (au h.l (k'+1)):=by rw [hel];rfl
      repeat (first | refine JL.q (by first|(apply OQ.load;exact aF;rfl;exact (.there (.there (.there .here)));exact (Row.cell (v:=N (au h.l k')) rfl))|(apply OQ.len (k:=(aD h k').l.length) (ad:=(aD h k').ad) (cap:=(aD h k').cap);exact Tryd.underlying22;rfl)|(apply OQ.len (k:=(ay h k').l.length) (ad:=(ay h k').ad) (cap:=(ay h k').cap);exact Tryd.underlying22;rfl)|(apply OQ.bH (a:=(aD h k').l.length) (b:=(ay h k').l.length);rfl;rfl;exact (by omega))|(apply OQ.to;exact (OQ.bH (a:=au h.l k') (b:=(aD h k').l.length+(ay h k').l.length) rfl rfl (by omega));exact hN1)|(apply OQ.move;rfl)) rfl ?_ | with_reducible refine JE.bW ?_ | refine JR.skip ?_ | refine JR.region rfl (by first | with_reducible exact ah | with_reducible exact ag ah | with_reducible exact ai ah | with_reducible exact ag (ai ah) | with_reducible exact af | with_reducible exact ag af | with_reducible exact ai af | with_reducible exact ag (ai af) | with_reducible exact ag (ag (ai af))) ?_)
      refine JL.aK (v:=N (au h.l (k'+1))) (r':=[N (au h.l (k'+1))]) kU rfl rfl rfl rfl (.there (.there (.there .here))) Nat.zero_lt_one rfl ?_
      repeat (first | refine JL.nil ?_ | with_reducible refine JE.aj ?_)
      refine JE.fZ (k'+1) ⟨rfl,fun j hj=>?_⟩ (aA.refl _)
      rcases Nat.lt_or_ge j k' with h1 | h1
      · exact hno j h1
      · rw [show j=k' by omega]
        exact htx
end Rw
end
section
set_option maxRecDepth 10000
open Sl bV eu
namespace Rw
theorem cy : aR Tryd.prog 13:=⟨_,Tryd.func13,rfl,by kernel_rfl⟩
def jk (s : gr) : List Bt:=bM s.rs s.rs.length
theorem vR (a b c : aq) : bM [a,b,c] 3=a.l++(b.l++c.l):=by simp [bM]
theorem vr (a b c : aq) : (bM [a,b,c] 3).length=a.l.length+(b.l.length+c.l.length):=by rw [vR,List.length_append,List.length_append]
abbrev WY:=Nat × Nat × Nat
theorem oP {w0 : World} {T : List Bt} {g c : aq} {z : WY} {MF : List az} (w' : World) (hg : g.ok w') (hc : c.ok w') (hl : T.length+(g.l.length+c.l.length)≤1000000000) (h0 : 0<T.length)
    (hw : aa w0 [] ([⟨z.2.2,Row 22 [(⟨some ⟨z.1,0,none⟩,z.2.1,T⟩ : aq).v,g.v,c.v],true⟩,⟨z.1,Sl.Own 5 1 T.length z.2.1 (T.map U8),true⟩]++MF) w') :
    Calls Tryd.prog 20 [.slice (some ⟨z.2.2,0,none⟩) 3 3].toArray w' fun e w2=>∃ x : Nat × Nat,e=.returned (.slice (some ⟨x.1,0,none⟩) (T++(g.l++c.l)).length x.2)∧aa w' [] [⟨x.1,Sl.Own 5 1 (T++(g.l++c.l)).length x.2 ((T++(g.l++c.l)).map U8),true⟩] w2:=by
  obtain ⟨o,ho,hA⟩:=hw.get (b:=z.2.2) .here
  have ok : gr.ok w' ⟨some ⟨z.2.2,0,none⟩,3,[⟨some ⟨z.1,0,none⟩,z.2.1,T⟩,g,c]⟩:=by
    refine ⟨Nat.le_refl _,Reads.block ho (Row.all _ hA),fun y hy=>?_⟩
    simp only [List.mem_cons,List.mem_nil_iff,or_false] at hy
    rcases hy with rfl | rfl | rfl
    · exact dy hw (.there .here)
    · exact hg
    · exact hc
  have:=eL _ w' ok (by show 0<(bM [_,g,c] 3).length;rw [vr];dsimp only;omega) (by show (bM [_,g,c] 3).length≤_;rw [vr];dsimp only;omega) (show 3≤1000000000 by decide)
  rw [show bM (⟨some ⟨z.2.2,0,none⟩,3,[⟨some ⟨z.1,0,none⟩,z.2.1,T⟩,g,c]⟩ : gr).rs (⟨some ⟨z.2.2,0,none⟩,3,[⟨some ⟨z.1,0,none⟩,z.2.1,T⟩,g,c]⟩ : gr).rs.length=T++(g.l++c.l) from vR _ _ _] at this
  exact this
set_option maxHeartbeats 8000000 in
theorem cK (s : gr) (g c : aq) (p : Nat) (t : TypeId) (w : World) (hp : w.heap[p]?=some (.cells #[s.v,g.v,c.v] t (0,0))) (hs : s.ok w) (hg : g.ok w) (hc : c.ok w) (h0 : 0<(jk s).length) (hn : s.rs.length≤1000000000) (hl : (jk s).length+(g.l.length+c.l.length)≤1000000000) :
    Calls Tryd.prog 13 [Pt p 0].toArray w fun e w'=>∃ x : Nat × Nat,e=.returned (.slice (some ⟨x.1,0,none⟩) (jk s++(g.l++c.l)).length x.2)∧aa w [] [⟨x.1,Sl.Own 5 1 (jk s++(g.l++c.l)).length x.2 ((jk s++(g.l++c.l)).map U8),true⟩] w':=by
  refine enter (n:=18) Tryd.func13 rfl rfl rfl (aa.start w []) ?_
  have hlt : p<w.heap.size:=(Array.getElem?_eq_some_iff.1 hp).1
  have hx : ∀ {M : List az} {w' : World},aa w [] M w'→w'.heap[p]?=some (.cells #[s.v,g.v,c.v] t (0,0)):=fun hw=>(hw.aC.block p hlt (by simp)).trans hp
  obtain ⟨T,hT⟩ : ∃ T,jk s=T:=⟨_,rfl⟩
  have c1 : ∀ {M : List az} {w' : World},aa w [] M w'→Calls Tryd.prog 20 [s.v].toArray w' fun e w2=>∃ x : Nat × Nat,e=.returned (.slice (some ⟨x.1,0,none⟩) T.length x.2)∧aa w' [] [⟨x.1,Sl.Own 5 1 T.length x.2 (T.map U8),true⟩] w2:=fun {M w'} hw=>by
    have:=eL s w' (hs.holds hw rfl) (by rw [show bM s.rs s.rs.length=_ from hT,← hT];exact h0) (by rw [show bM s.rs s.rs.length=_ from hT,← hT];omega) hn
    rwa [show bM s.rs s.rs.length=T from hT] at this
  rw [hT] at h0 hl ⊢
  clear hT
  repeat (first | refine JL.q (by (apply OQ.assign;rfl)) rfl ?_ | refine JC.seq ?_ | refine JC.region ?_ | refine JL.nil ?_ | refine JE.next ?_)
  let vs : Nat→WY→Value:=fun j y=>match j with
    | 0=>Pt p 0
    | 1=>Pt p 0
    | 2=>Pt p 0
    | 3=>s.v
    | 4=>(.slice (some ⟨y.1,0,none⟩) T.length y.2.1)
    | 5=>Pt p 0
    | 6=>Pt p 0
    | 7=>Pt p 1
    | 8=>g.v
    | 9=>Pt p 0
    | 10=>Pt p 0
    | 11=>Pt p 2
    | 12=>c.v
    | 13=>.slice (some ⟨y.2.2,0,none⟩) 3 3
    | 14=>.slice (some ⟨y.1,0,none⟩) (T++(g.l++c.l)).length y.2.1
    | 15=>.slice (some ⟨y.1,0,none⟩) (T++(g.l++c.l)).length y.2.1
    | _=>N 0
  let Ms : Nat→WY→List az:=fun j y=>match j with
    | 4=>[⟨y.1,Sl.Own 5 1 T.length y.2.1 (T.map U8),true⟩]
    | 13=>[⟨y.2.2,Row 22 [(⟨some ⟨y.1,0,none⟩,y.2.1,T⟩ : aq).v,g.v,c.v],true⟩,⟨y.1,Sl.Own 5 1 T.length y.2.1 (T.map U8),true⟩]
    | 14=>[⟨y.1,Sl.Own 5 1 (T++(g.l++c.l)).length y.2.1 ((T++(g.l++c.l)).map U8),true⟩]
    | _=>[]
  refine JC.fS (g:=⟨[(0,Pt p 0)],16,vs,Ms,(fun j=>match j with | 1=>[(0,3)] | 2=>[(1,4)] | 3=>[(2,5)] | 4=>[(3,6)] | 6=>[(5,8)] | 7=>[(6,9)] | 8=>[(7,10)] | 10=>[(9,12)] | 11=>[(10,13)] | 12=>[(11,14)] | 13=>[(4,7),(8,11),(12,15)] | 14=>[(13,16)] | 15=>[(14,17)] | _=>[]),(fun j=>match j with | 13=>[4] | 14=>[13] | _=>[]),(fun j=>match j with | 13=>[4] | _=>[]),(fun j=>match j with | 13=>some 4 | 15=>some 14 | _=>none),fun _=>[],fun j a b=>j=15→a=b⟩) [(15,2)] [14] di (by repeat (first | exact ax.nil | refine ax.cons _ _ _ rfl ?_)) (fun _ _=>.nil) ?_ (by kernel_rfl) (by kernel_rfl) (by kernel_rfl) ?_ ?_
  · exact .nil _
  · refine ⟨?_,?_,?_,?_,?_,?_,?_,?_,?_,?_,?_,?_,?_,?_,?_,?_,trivial⟩
    · (intro xx EF MF Q kk;(try refine JL.aN rfl rfl ?_);exact JL.q (OQ.move rfl) rfl (JL.nil (kk default nofun)))
    · (intro xx EF MF Q kk;(try refine JL.aN rfl rfl ?_);exact JL.q (OQ.cl rfl) rfl (JL.nil (kk default nofun)))
    · (intro xx EF MF Q kk;(try refine JL.aN rfl rfl ?_);exact JL.q (OQ.b8 rfl rfl rfl (by decide) rfl) rfl (JL.nil (kk default nofun)))
    · (intro xx EF MF Q kk;(try refine JL.aN rfl rfl ?_);exact JL.q (OQ.cN (fun w' hw'=>bn ez (cell_of (hx hw') rfl)) rfl) rfl (JL.nil (kk default nofun)))
    · (intro xx EF MF Q kk;exact JL.bC (ι:=Nat × Nat) (vs:=[s.v]) (fun x=>(.slice (some ⟨x.1,0,none⟩) T.length x.2)) (fun x=>[⟨x.1,Sl.Own 5 1 T.length x.2 (T.map U8),true⟩]) cV rfl rfl (fun x e he=>by rw [List.mem_singleton.1 he]) (fun w' hw'=>c1 hw') fun x=>JL.nil (kk (x.1,x.2,0) nofun))
    · (intro xx EF MF Q kk;(try refine JL.aN rfl rfl ?_);exact JL.q (OQ.move rfl) rfl (JL.nil (kk default nofun)))
    · (intro xx EF MF Q kk;(try refine JL.aN rfl rfl ?_);exact JL.q (OQ.cl rfl) rfl (JL.nil (kk default nofun)))
    · (intro xx EF MF Q kk;(try refine JL.aN rfl rfl ?_);exact JL.q (OQ.b8 rfl rfl rfl (by decide) rfl) rfl (JL.nil (kk default nofun)))
    · (intro xx EF MF Q kk;(try refine JL.aN rfl rfl ?_);exact JL.q (OQ.cN (fun w' hw'=>bn bX (cell_of (hx hw') rfl)) rfl) rfl (JL.nil (kk default nofun)))
    · (intro xx EF MF Q kk;(try refine JL.aN rfl rfl ?_);exact JL.q (OQ.move rfl) rfl (JL.nil (kk default nofun)))
    · (intro xx EF MF Q kk;(try refine JL.aN rfl rfl ?_);exact JL.q (OQ.cl rfl) rfl (JL.nil (kk default nofun)))
    · (intro xx EF MF Q kk;(try refine JL.aN rfl rfl ?_);exact JL.q (OQ.b8 rfl rfl rfl (by decide) rfl) rfl (JL.nil (kk default nofun)))
    · (intro xx EF MF Q kk;(try refine JL.aN rfl rfl ?_);exact JL.q (OQ.cN (fun w' hw'=>bn bX (cell_of (hx hw') rfl)) rfl) rfl (JL.nil (kk default nofun)))
    · (intro xx EF MF Q kk;exact JL.wz (v1:=(⟨some ⟨(xx 4).1,0,none⟩,(xx 4).2.1,T⟩ : aq).v) (v2:=g.v) (v3:=c.v) Tryd.underlying31 vP rfl rfl rfl rfl rfl rfl rfl rfl fun b0 _=>JL.nil (kk ((xx 4).1,(xx 4).2.1,b0) (fun k h hh=>by cases hh)))
    · (intro xx EF MF Q kk;exact JL.bC (ι:=Nat × Nat) (vs:=[.slice (some ⟨(xx 13).2.2,0,none⟩) 3 3]) (fun x=>.slice (some ⟨x.1,0,none⟩) (T++(g.l++c.l)).length x.2) (fun x=>[⟨x.1,Sl.Own 5 1 (T++(g.l++c.l)).length x.2 ((T++(g.l++c.l)).map U8),true⟩]) cV rfl rfl (fun x e he=>by rw [List.mem_singleton.1 he]) (fun w' hw'=>oP w' (hg.holds hw' rfl) (hc.holds hw' rfl) hl h0 hw') fun x=>JL.nil (kk (x.1,x.2,0) nofun))
    · (intro xx EF MF Q kk;(try refine JL.aN rfl rfl ?_);exact JL.q (OQ.assign rfl) rfl (JL.nil (kk (xx 14) (fun k h hh=>by cases h;rfl))))
  · intro xx hx
    have e1 : xx 15=xx 14:=hx 15 14 (by decide) rfl rfl
    refine JE.next ?_
    skip
    refine JC.ret (JE.aJ rfl (RV.tmp rfl) fun w2 hw=>⟨((xx 15).1,(xx 15).2.1),rfl,?_⟩)
    rw [e1]
    exact hw
end Rw
end
section
set_option maxRecDepth 10000
open Sl bV eu
namespace Rw
theorem gT (q : Acc) (k : Nat) : (ak q k).cells=#[ak q k]:=by cases q <;> rfl
theorem cL : aR Tryd.prog 12:=⟨_,Tryd.func12,rfl,by kernel_rfl⟩
def dW (s : aq) (S : List Nat) : Prop:=s.l≠[]→∀ a,s.ad=some a→a.block ∉ S
theorem cC {w0 w : World} {S : List Nat} {M : List az} {s : aq} (h : s.ok w0) (hw : aa w0 S M w) (ha : dW s S) : s.ok w:=
  ⟨h.len,hw.reads h.reads fun h0 a e=>ha (fun h1=>h0 (by rw [h1];rfl)) a e⟩
def bB (k n m : Int) (tx : List Bt) : List Value:=[I k,I n,I m,Z tx]
abbrev cq (p b cap : Nat) (gv cv : Value) (fs : List Value) : List az:=[⟨p,Row 33 [.slice (some ⟨b,0,none⟩) fs.length cap,gv,cv],true⟩,⟨b,Sl.Own 22 1 fs.length cap fs,true⟩]
def cg (n : Int) (k : Nat) : Nat:=(n % (k : Int)).toNat
theorem dL {n : Int} {k : Nat} (h : 0<k) : cg n k<k:=by
  unfold cg
  have h1:=Int.emod_nonneg n (b:=(k : Int)) (by omega)
  have h2:=Int.emod_lt_of_pos n (b:=(k : Int)) (by omega)
  omega
theorem iQ {n : Int} {k : Nat} (h : 0<k) : I (n % (k : Int))=N (cg n k):=by
  unfold cg
  have h1:=Int.emod_nonneg n (b:=(k : Int)) (by omega)
  show I _=I _
  rw [Int.toNat_of_nonneg h1]
set_option maxHeartbeats 8000000 in
theorem nj (p b cap : Nat) (gv cv : Value) (fs : List Value) (R : aq) (xn xm : Int) (tx : List Bt) (w : World) (S : List Nat) (h0 : aa w S (cq p b cap gv cv fs) w) (hn : 0<fs.length) (hn2 : fs.length<4611686018427387904) (hR : fs[cg xn fs.length]?=some R.v) (hok : R.ok w) (haw : dW R S) (hl : R.l.length≤4294967296) :
    Calls Tryd.prog 12 [Pt p 0,.agg (bB 4 xn xm tx).toArray].toArray w fun e w'=>∃ q : {q : Acc // q=none→R.l=[]},e=.returned (.tuple #[])∧aa w S (cq p b cap gv cv (fs.set (cg xn fs.length) (ak q.1 R.l.length))++an 5 q.1 ((bP xm R.l).map U8)) w':=by
  refine enter (n:=87) Tryd.func12 rfl rfl rfl h0 ?_
  obtain ⟨n,hnn⟩ : ∃ n,fs.length=n:=⟨_,rfl⟩
  obtain ⟨at_,hat⟩ : ∃ a,cg xn n=a:=⟨_,rfl⟩
  have hlt : at_<n:=hat ▸ dL (hnn ▸ hn)
  have hav : I (xn % (n : Int))=N at_:=hat ▸ iQ (hnn ▸ hn)
  show JC _ _ _ _ _ _ _ [⟨p,Row 33 [.slice (some ⟨b,0,none⟩) fs.length cap,gv,cv],true⟩,⟨b,Sl.Own 22 1 fs.length cap fs,true⟩]
  rw [hnn] at hn hn2 hR ⊢
  rw [hat] at hR ⊢
  have hcl : ∀ o,Sl.Own 22 1 n cap fs o→cellAt o (0+at_)=some R.v:=by rw [Nat.zero_add];exact Sl.Own.cell hR
  have hzp : Pt b (0+at_)=Pt b at_:=by rw [Nat.zero_add]
  have hg3 : decide ((4 : Int)=3)=false:=rfl
  have hg4 : decide ((4 : Int)=4)=true:=rfl
  refine JC.seq (JC.region ?_)
  refine JL.box (r:=bB 4 xn xm tx) rfl rfl rfl fun b3 _=>?_
  refine JL.nil (JE.next ?_)
  refine JC.seq ?_
  refine JC.quiet di (by kernel_rfl) ?_
  repeat (first | refine JL.q (by first|(apply OQ.load;exact aF;rfl;exact .here;exact (Row.cell (v:=I xn) rfl))|(apply OQ.load;exact ez;rfl;exact (.there .here);exact (Row.cell (v:=.slice (some ⟨b,0,none⟩) n cap) rfl))|(apply OQ.len (k:=n) (ad:=some ⟨b,0,none⟩) (cap:=cap);exact Tryd.underlying31;rfl)|(apply OQ.to;exact (OQ.aB (vs:=[I xn,N n]) aV rfl (fun w' _=>bf xn n hn hn2 w'));exact hav)|(apply OQ.load;exact aF;rfl;exact .here;exact (Row.cell (v:=I 4) rfl))|(apply OQ.aU (a:=4) (b:=3);rfl;rfl;exact hg3)|(apply OQ.move;rfl)|(apply OQ.assign;rfl)|(apply OQ.cl;rfl)|(apply OQ.b8;rfl;rfl;rfl;exact (by decide);rfl)) rfl ?_ | refine JQ.q (by first|(apply OQ.load;exact aF;rfl;exact .here;exact (Row.cell (v:=I xn) rfl))|(apply OQ.load;exact ez;rfl;exact (.there .here);exact (Row.cell (v:=.slice (some ⟨b,0,none⟩) n cap) rfl))|(apply OQ.len (k:=n) (ad:=some ⟨b,0,none⟩) (cap:=cap);exact Tryd.underlying31;rfl)|(apply OQ.to;exact (OQ.aB (vs:=[I xn,N n]) aV rfl (fun w' _=>bf xn n hn hn2 w'));exact hav)|(apply OQ.load;exact aF;rfl;exact .here;exact (Row.cell (v:=I 4) rfl))|(apply OQ.aU (a:=4) (b:=3);rfl;rfl;exact hg3)|(apply OQ.move;rfl)|(apply OQ.assign;rfl)|(apply OQ.cl;rfl)|(apply OQ.b8;rfl;rfl;rfl;exact (by decide);rfl)) rfl ?_ | refine JC.seq ?_ | refine JC.region ?_ | refine JC.block ?_ | refine JL.nil ?_ | refine JQ.nil ?_ | refine JE.next ?_)
  refine JC.cond_false rfl rfl ?_
  repeat (first | refine JL.q (by first|(apply OQ.aU (a:=4) (b:=4);rfl;rfl;exact hg4)|(apply OQ.assign;rfl)) rfl ?_ | refine JC.seq ?_ | refine JC.region ?_ | refine JL.nil ?_ | refine JE.next ?_)
  refine JC.cond_true rfl rfl ?_
  haveI : Inhabited {q : Acc // q=none→R.l=[]}:=⟨⟨some (0,0),nofun⟩⟩
  let vs : Nat→{q : Acc // q=none→R.l=[]}→Value:=fun j y=>match j with
    | 0=>Pt p 0
    | 1=>Pt p 0
    | 2=>Pt p 0
    | 3=>.slice (some ⟨b,0,none⟩) n cap
    | 4=>N at_
    | 5=>Pt p 0
    | 6=>Pt p 0
    | 7=>Pt p 0
    | 8=>.slice (some ⟨b,0,none⟩) n cap
    | 9=>N at_
    | 10=>Pt b (0+at_)
    | 11=>R.v
    | 12=>Pt b3 2
    | 13=>I xm
    | 14=>ak y.1 R.l.length
    | 15=>Pt b at_
    | _=>N 0
  let Ms : Nat→{q : Acc // q=none→R.l=[]}→List az:=fun j y=>match j with
    | 14=>an 5 y.1 ((bP xm R.l).map U8)
    | 16=>[⟨b,Sl.Own 22 1 n cap (fs.set at_ (ak y.1 R.l.length)),true⟩]
    | 17=>[⟨b3,Row 26 (bB 4 xn xm tx),true⟩]
    | 18=>[⟨p,Row 33 [.slice (some ⟨b,0,none⟩) n cap,gv,cv],true⟩]
    | 19=>[⟨b,Sl.Own 22 1 n cap fs,true⟩]
    | _=>[]
  refine JC.fS (g:=⟨[(0,Pt p 0),(3,Pt b3 0),(4,N at_)],20,vs,Ms,(fun j=>match j with | 1=>[(0,35)] | 2=>[(1,36)] | 3=>[(2,37)] | 6=>[(5,40)] | 7=>[(6,41)] | 8=>[(7,42)] | 10=>[(8,43),(9,44)] | 11=>[(10,45)] | 13=>[(12,47)] | 14=>[(11,46),(13,48)] | 15=>[(3,38),(4,39)] | 16=>[(15,50),(14,49)] | _=>[]),(fun j=>match j with | 3=>[18] | 8=>[18] | 11=>[19] | 13=>[17] | 16=>[19] | _=>[]),(fun j=>match j with | 16=>[19] | _=>[]),(fun j=>match j with | 16=>some 14 | _=>none),fun _=>[],fun _ a b=>a=b⟩) [] [18,16,14] di (by repeat (first | exact ax.nil | refine ax.cons _ _ _ rfl ?_)) (fun _ _=>.nil) ?_ (by kernel_rfl) (by kernel_rfl) (by kernel_rfl) ?_ ?_
  · exact aA.refl _
  · refine ⟨?_,?_,?_,?_,?_,?_,?_,?_,?_,?_,?_,?_,?_,?_,?_,?_,?_,trivial⟩
    · (intro xx EF MF Q kk;(try refine JL.aN rfl rfl ?_);exact JL.q (OQ.move rfl) rfl (JL.nil (kk default nofun)))
    · (intro xx EF MF Q kk;(try refine JL.aN rfl rfl ?_);exact JL.q (OQ.cl rfl) rfl (JL.nil (kk default nofun)))
    · (intro xx EF MF Q kk;(try refine JL.aN rfl rfl ?_);exact JL.q (OQ.b8 rfl rfl rfl (by decide) rfl) rfl (JL.nil (kk default nofun)))
    · (intro xx EF MF Q kk;(try refine JL.aN rfl rfl ?_);exact JL.q (OQ.load ez rfl .here (Row.cell (v:=.slice (some ⟨b,0,none⟩) n cap) rfl)) rfl (JL.nil (kk default nofun)))
    · (intro xx EF MF Q kk;(try refine JL.aN rfl rfl ?_);exact JL.q (OQ.move rfl) rfl (JL.nil (kk default nofun)))
    · (intro xx EF MF Q kk;(try refine JL.aN rfl rfl ?_);exact JL.q (OQ.move rfl) rfl (JL.nil (kk default nofun)))
    · (intro xx EF MF Q kk;(try refine JL.aN rfl rfl ?_);exact JL.q (OQ.cl rfl) rfl (JL.nil (kk default nofun)))
    · (intro xx EF MF Q kk;(try refine JL.aN rfl rfl ?_);exact JL.q (OQ.b8 rfl rfl rfl (by decide) rfl) rfl (JL.nil (kk default nofun)))
    · (intro xx EF MF Q kk;(try refine JL.aN rfl rfl ?_);exact JL.q (OQ.load ez rfl .here (Row.cell (v:=.slice (some ⟨b,0,none⟩) n cap) rfl)) rfl (JL.nil (kk default nofun)))
    · (intro xx EF MF Q kk;(try refine JL.aN rfl rfl ?_);exact JL.q (OQ.move rfl) rfl (JL.nil (kk default nofun)))
    · (intro xx EF MF Q kk;(try refine JL.aN rfl rfl ?_);exact JL.q (OQ.bZ (i:=at_) (b:=b) (j:=0) (len:=n) (cap:=cap) Tryd.underlying31 bY rfl rfl hlt) rfl (JL.nil (kk default nofun)))
    · (intro xx EF MF Q kk;(try refine JL.aN rfl rfl ?_);exact JL.q (OQ.load (v:=R.v) bX rfl .here hcl) rfl (JL.nil (kk default nofun)))
    · (intro xx EF MF Q kk;(try refine JL.aN rfl rfl ?_);exact JL.q (OQ.b8 rfl rfl rfl (by decide) rfl) rfl (JL.nil (kk default nofun)))
    · (intro xx EF MF Q kk;(try refine JL.aN rfl rfl ?_);exact JL.q (OQ.load aF rfl .here (Row.cell (v:=I xm) rfl)) rfl (JL.nil (kk default nofun)))
    · (intro xx EF MF Q kk;exact JL.bC (ι:={q : Acc // q=none→R.l=[]}) (vs:=[R.v,I xm]) (fun q=>ak q.1 R.l.length) (fun q=>an 5 q.1 ((bP xm R.l).map U8)) oL rfl rfl (fun q e he=>aT _ _ _ e he) (fun w' hw'=>qG R xm w' (cC hok hw' haw) hl) fun q=>JL.nil (kk q nofun))
    · (intro xx EF MF Q kk;(try refine JL.aN rfl rfl ?_);exact JL.q (OQ.to (OQ.bZ (i:=at_) (b:=b) (j:=0) (len:=n) (cap:=cap) Tryd.underlying31 bY rfl rfl hlt) hzp) rfl (JL.nil (kk default nofun)))
    · (intro xx EF MF Q kk;exact JL.cG (j:=at_) (xs':=fs.set at_ (ak (xx 14).1 R.l.length)) bY rfl rfl (fo _ _) (gT _ _) .here (by rw [hnn];exact hlt) rfl (JL.nil (kk (xx 14) (fun k h=>by cases h;rfl))))
  · intro xx hx
    have e1 : xx 16=xx 14:=hx 16 14 (by decide) rfl
    repeat (refine JE.aj ?_)
    refine JE.jd rfl fun w2 hw=>⟨xx 14,rfl,?_⟩
    have hw : aa w S (⟨p,Row 33 [.slice (some ⟨b,0,none⟩) n cap,gv,cv],true⟩::⟨b,Sl.Own 22 1 n cap (fs.set at_ (ak (xx 16).1 R.l.length)),true⟩::(an 5 (xx 14).1 ((bP xm R.l).map U8)++[])) w2:=hw
    rw [e1,List.append_nil] at hw
    unfold cq
    rw [List.length_set,hnn]
    exact hw
end Rw
end
section
set_option maxRecDepth 10000
open Sl mO
def de (l : List mO.By) (w : World) (e : Ending) (w' : World) : Prop:=∃ x : aq,e=.returned x.v∧Ext w w'∧x.l=l∧x.ok w'
theorem JL.fR {P : Program} {n : Nat} {w0 : World} {S S' : List Nat} {ops : Array Oper} {Q : Exit→Act→World→Prop} {l : List Oper} {E : Env} {M : List az} {d : Nat} {ty : TypeId} {pos : String} {aft : Array Edge} {r : List Bt} (M' : List az)
    {f : FuncId} {xs : List Operand} {ats : Array TypeId} {vs : List Value} (hg : aR P f) (hx : eY E xs=some vs) (hd : Nat.blt d n=true)
    (hc : ∀ w1,aa w0 S M w1→Calls P f vs.toArray w1 (de r w1))
    (hM : aA M' M) (hS : ∀ e ∈ M',e.wr=true→e.b ∈ S')
    (k : ∀ x : aq,x.l=r→∀ w1,aa w0 S M w1→x.ok w1→JL P n w1 S' ops Q l ((d,x.v)::E) M') : JL P n w0 S ops Q (⟨some d,.call ⟨.value (.func f),xs.toArray,ats⟩,ty,pos,aft,none⟩::l) E M:=
  JL.vh (ι:={ x : aq // x.l=r }) (fun x=>x.1.v) (fun x w=>x.1.ok w) M' hg hx hd (fun w1 h1=>(hc w1 h1).mono fun e w2 ⟨x,e1,e2,e3,e4⟩=>⟨⟨x,e3⟩,e1,e2,e4⟩) hM hS fun x w1 h1 h2=>k x.1 x.2 w1 h1 h2
end
section
set_option maxRecDepth 10000
open Sl
section
variable {P : Program} {n : Nat} {w0 : World} {S : List Nat} {ops : Array Oper} {Q : Exit→Act→World→Prop} {l : List Oper} {E : Env} {M : List az} {C : World→Prop}
variable {dst : Option Tmp} {d : Nat} {t t' e ty : TypeId} {pos : String} {aft : Array Edge} {g : Option (Nat × Bool)} {x y : Operand}
theorem JL.eB {ι : Type} {X M0 : List az} (vf : ι→Value) (Yf : ι→List az) {f : FuncId} {xs : List Operand} {ats : Array TypeId} {vs : List Value} (hg : aR P f) (hx : eY E xs=some vs) (hd : Nat.blt d n=true) (hX : ∀ e ∈ X,e.wr=true) (hY : ∀ i,∀ e ∈ Yf i,e.wr=true)
    (hc : ∀ w,aa w0 S (X++M0) w→aa w (keys X) X w→Calls P f vs.toArray w fun e w'=>∃ i,e=.returned (vf i)∧aa w (keys X) (Yf i) w')
    (k : ∀ i,JL P n w0 S ops Q l ((d,vf i)::E) (Yf i++M0)) : JL P n w0 S ops Q (⟨some d,.call ⟨.value (.func f),xs.toArray,ats⟩,ty,pos,aft,none⟩::l) E (X++M0):=
  JL.call (ι:=ι) vf (fun i=>Yf i++M0) hg hx hd (fun w hw=>(hc w hw (hw.own.weak (en _ _))).mono fun _ _ ⟨i,h1,h2⟩=>⟨i,h1,hw.vn h2 hX (hY i)⟩) k
end
end
section
set_option maxRecDepth 10000
open Sl bV eu
namespace Rw
def aY (l : List Bt) (p : Nat × Nat) : List Bt:=(l.drop p.1).take p.2
def bu (h : aq) (p : Nat × Nat) : aq:=⟨(h.snd p.1).ad,(h.snd p.1).cap,aY h.l p⟩
theorem eN {h : aq} {p : Nat × Nat} (hp : p.1+p.2≤h.l.length) : (bu h p).v=aO h p:=by
  have : (aY h.l p).length=p.2:=by unfold aY;rw [List.length_take,List.length_drop];omega
  unfold bu aq.v aO
  rw [this]
theorem bN {h : aq} {p : Nat × Nat} {w : World} (hs : h.ok w) (hp : p.1+p.2≤h.l.length) : (bu h p).ok w:=by
  have:=(hs.snd p.1 (by omega)).fst p.2
  rw [fk] at this
  exact this
theorem fJ (l : List Bt) : ∀ p ∈ aZ l,p.1+p.2≤l.length:=by
  intro p hp
  unfold aZ at hp
  split at hp
  · cases hp
  · exact Nat.le_trans (sJ _ _ p hp) (bF _ _)
theorem dM (l : List Bt) : (aZ l).length≤l.length:=by
  unfold aZ
  split
  · exact Nat.zero_le _
  · exact Nat.le_trans (oM _ _) (pX l)
def bO (l : List Bt) (k : Nat) : List Bt:=((l.drop (au l k)).take (aH (l.drop (au l k)))).drop (bR l k).length
theorem dn (h : aq) (k : Nat) : (ay h k).l=bO h.l k:=by
  show ((cU h k).l.take (aH (cU h k).l)).drop (aD h k).l.length=_
  rw [iC,jX]
  rfl
theorem dB {h : aq} {w : World} (hs : h.ok w) (k : Nat) : (ay h k).ok w:=(gP (fF hs k)).snd _ (lW h k)
theorem eO (l : List Bt) (k : Nat) : (bO l k).length≤l.length:=by
  unfold bO
  rw [List.length_drop,List.length_take,List.length_drop]
  omega
theorem dg (h : aq) (w : World) (hs : h.ok w) (hl : h.l.length≤1000000000) {k : Nat} (hg : br h.l k) {F : List (Nat × Nat)} (hF : cc h.l k=F) :
    Calls Tryd.prog 10 [h.v].toArray w fun e w'=>∃ q : FQ F,e=.returned (.tuple #[.agg (aW h k q.1).toArray,.bool true])∧aa w [] (an 22 q.1 (F.map (aO (bA h k)))) w':=
  (ni h w hs hl).mono fun e w' he=>by
    rcases he with ⟨⟨k',q⟩,⟨h1,h2⟩,h3,h4⟩ | ⟨h1,_⟩
    · obtain rfl : k'=k:=uO h1 hg
      subst hF
      exact ⟨⟨q,h2⟩,h3,h4⟩
    · exact absurd h1 (sP hg)
theorem dN {w0 w : World} {X M : List az} {s : aq} (hw : aa w0 [] (X++M) w) (hX : ∀ e ∈ X,e.wr=true) (hs : s.ok w0) : dW s (keys X):=by
  intro h0 a ha hm
  obtain ⟨e,he,hb⟩:=List.mem_map.1 hm
  have h1:=hs.lt h0 a ha
  rcases (hw.all e (List.mem_append_left _ he)).2 (hX e he) with h | h
  · simp at h
  · omega
theorem bQ {p b cap : Nat} {gv cv : Value} {fs : List Value} : ∀ e ∈ cq p b cap gv cv fs,e.wr=true:=by
  intro e he
  simp only [List.mem_cons,List.mem_nil_iff,or_false] at he
  rcases he with rfl | rfl <;> rfl
theorem jr {p b cap : Nat} {gv cv : Value} {fs cs : List Value} {q : Acc} : ∀ e ∈ cq p b cap gv cv fs++an 5 q cs,e.wr=true:=by
  intro e he
  rcases List.mem_append.1 he with he | he
  · exact bQ e he
  · exact aT _ _ _ e he
theorem gi : aR Tryd.prog 6:=⟨_,Tryd.func6,rfl,by kernel_rfl⟩
theorem l5 : lH Tryd.prog 26=true:=by kernel_rfl
theorem uP : dw Tryd.prog 26=some 4:=by kernel_rfl
set_option maxHeartbeats 8000000 in
theorem gj (h : aq) (xn xm : Int) (tx : List Bt) (w : World) (hs : h.ok w) (hl : h.l.length≤100000000) {k : Nat} (hg : br h.l k) {F : List (Nat × Nat)} (hF : cc h.l k=F) (hne : F≠[]) {p : Nat × Nat} (hp : F[cg xn F.length]?=some p) {T : List Bt}
    (hT : ((F.map (aY (bA h k).l)).set (cg xn F.length) (bP xm (aY (bA h k).l p))).flatten=T) (h0 : 0<T.length) (ht : T.length≤100000000) :
    Calls Tryd.prog 6 [h.v,.agg (bB 4 xn xm tx).toArray].toArray w (de (T++(bO h.l k++h.l.drop (au h.l (k+1)))) w):=by
  refine enter (n:=45) Tryd.func6 rfl rfl rfl (aa.start w []) ?_
  have hFn : 0<F.length:=List.length_pos_iff.2 hne
  have hdl : (bA h k).l=h.l.take (au h.l k):=rfl
  have hFl : F.length≤100000000:=by
    have:=dM (h.l.take (au h.l k))
    rw [show aZ (h.l.take (au h.l k))=F from hF,List.length_take] at this
    omega
  have hFb : ∀ p ∈ F,p.1+p.2≤(bA h k).l.length:=by
    have:=fJ (h.l.take (au h.l k))
    rw [show aZ (h.l.take (au h.l k))=F from hF] at this
    exact this
  have hpm : p ∈ F:=List.mem_of_getElem? hp
  have hg1 : decide ((4 : Int)=1)=false:=rfl
  have hg2 : decide ((4 : Int)=2)=false:=rfl
  have hg6 : decide ((4 : Int)=6)=false:=rfl
  refine JC.seq (JC.region ?_)
  refine JL.box (r:=bB 4 xn xm tx) rfl rfl rfl fun b3 _=>?_
  repeat (first | refine JL.q (by first|(apply OQ.load;exact aF;rfl;exact .here;exact (Row.cell (v:=I 4) rfl))|(apply OQ.aU (a:=4) (b:=1);rfl;rfl;exact hg1)|(apply OQ.assign;rfl)|(apply OQ.b8;rfl;rfl;rfl;exact (by decide);rfl)) rfl ?_ | refine JC.seq ?_ | refine JC.region ?_ | refine JC.block ?_ | refine JL.nil ?_ | refine JE.next ?_)
  refine JC.cond_false rfl rfl ?_
  repeat (first | refine JL.q (by first|(apply OQ.aU (a:=4) (b:=2);rfl;rfl;exact hg2)|(apply OQ.assign;rfl)) rfl ?_ | refine JC.seq ?_ | refine JC.region ?_ | refine JL.nil ?_ | refine JE.next ?_)
  refine JC.cond_false rfl rfl ?_
  repeat (first | refine JL.q (by (apply OQ.move;rfl)) rfl ?_ | refine JC.seq ?_ | refine JC.region ?_ | refine JC.skip ?_ | refine JE.next ?_ | refine JE.aj ?_)
  refine JL.bC (ι:=FQ F) (vs:=[h.v]) (fun q=>.tuple #[.agg (aW h k q.1).toArray,.bool true]) (fun q=>an 22 q.1 (F.map (aO (bA h k)))) cw rfl rfl (fun q e he=>aT _ _ _ e he) (fun w' hw'=>dg h w' (hs.holds hw' rfl) (by omega) hg hF) ?_
  rintro ⟨q,hq⟩
  obtain ⟨⟨b,cap⟩,rfl⟩ : ∃ x : Nat × Nat,q=some x:=by
    cases q with
    | none=>exact absurd (hq rfl) hne
    | some x=>exact ⟨x,rfl⟩
  dsimp only
  repeat (refine JL.q (by first|(apply OQ.extract;rfl;rfl)|(apply OQ.move;rfl)) rfl ?_)
  refine JL.alloc (r:=cB) (by kernel_rfl) rfl fun b5 _=>?_
  refine JL.bI (cs:=aW h k (some (b,cap))) (r:=cB) eA rfl rfl rfl (cx _ _ _) .here rfl ?_
  have hmv : aW h k (some (b,cap))=[.slice (some ⟨b,0,none⟩) F.length cap,(ay h k).v,(h.snd (au h.l (k+1))).v]:=by unfold aW;rw [hF];rfl
  rw [hmv]
  repeat (first | refine JL.q (by first|(apply OQ.load;exact aF;rfl;exact (.there (.there .here));exact (Row.cell (v:=I 4) rfl))|(apply OQ.aU (a:=4) (b:=6);rfl;rfl;exact hg6)|(apply OQ.aP;rfl;rfl)|(apply OQ.move;rfl)|(apply OQ.assign;rfl)|(apply OQ.b8;rfl;rfl;rfl;exact (by decide);rfl)) rfl ?_ | refine JC.seq ?_ | refine JC.region ?_ | refine JC.block ?_ | refine JL.nil ?_ | refine JE.next ?_ | refine JL.aN rfl rfl ?_)
  refine JC.cond_false rfl rfl ?_
  have hgt : decide ((F.length : Int)>0)=true:=decide_eq_true (by omega)
  repeat (first | refine JL.q (by first|(apply OQ.load;exact ez;rfl;exact .here;exact (Row.cell (v:=.slice (some ⟨b,0,none⟩) F.length cap) rfl))|(apply OQ.len (k:=F.length) (ad:=some ⟨b,0,none⟩) (cap:=cap);exact Tryd.underlying31;rfl)|(apply OQ.eo (b:=0);rfl;rfl;exact hgt)|(apply OQ.aP;rfl;rfl)|(apply OQ.move;rfl)|(apply OQ.assign;rfl)|(apply OQ.b8;rfl;rfl;rfl;exact (by decide);rfl)) rfl ?_ | refine JC.seq ?_ | refine JC.region ?_ | refine JL.nil ?_ | refine JE.next ?_ | refine JL.aN rfl rfl ?_)
  refine JC.cond_true rfl rfl ?_
  repeat (first | refine JL.q (by (apply OQ.cP (cs:=bB 4 xn xm tx);exact l5;exact uP;rfl;exact (.there (.there .here));rfl;exact Row.all)) rfl ?_ | refine JC.seq ?_ | refine JC.region ?_)
  obtain ⟨fs,hfs⟩ : ∃ fs,F.map (aO (bA h k))=fs:=⟨_,rfl⟩
  have hfl : fs.length=F.length:=by rw [← hfs,List.length_map]
  have hhd : ∀ {w' : World},h.ok w'→(bA h k).ok w':=fun h=>h.fst _
  have hRl : (bu (bA h k) p).l.length≤4294967296:=by
    show (((h.l.take _).drop _).take _).length≤_
    rw [List.length_take,List.length_drop,List.length_take]
    omega
  have hRv : fs[cg xn fs.length]?=some (bu (bA h k) p).v:=by
    rw [hfl,← hfs,List.getElem?_map,hp,eN (hFb p hpm)]
    rfl
  rw [hfs]
  show JL _ _ _ _ _ _ _ _ (⟨b5,Row 33 [.slice (some ⟨b,0,none⟩) F.length cap,(ay h k).v,(h.snd (au h.l (k+1))).v],true⟩::⟨b,Sl.Own 22 1 fs.length cap fs,true⟩::[⟨b3,Row 26 (bB 4 xn xm tx),true⟩])
  rw [← hfl]
  show JL _ _ _ _ _ _ _ _ (cq b5 b cap (ay h k).v (h.snd (au h.l (k+1))).v fs++[⟨b3,Row 26 (bB 4 xn xm tx),true⟩])
  refine JL.eB (ι:={q : Acc // q=none→(bu (bA h k) p).l=[]}) (X:=cq b5 b cap (ay h k).v (h.snd (au h.l (k+1))).v fs) (M0:=[⟨b3,Row 26 (bB 4 xn xm tx),true⟩]) (vs:=[Pt b5 0,.agg (bB 4 xn xm tx).toArray]) (fun _=>.tuple #[]) (fun q=>cq b5 b cap (ay h k).v (h.snd (au h.l (k+1))).v (fs.set (cg xn fs.length) (ak q.1 (bu (bA h k) p).l.length))++an 5 q.1 ((bP xm (bu (bA h k) p).l).map U8)) cL rfl rfl bQ (fun _=>jr)
    (fun w' hw' hx'=>nj b5 b cap _ _ fs (bu (bA h k) p) xn xm tx w' _ hx' (by omega) (by omega) hRv (bN (hhd (hs.holds hw' rfl)) (hFb p hpm)) (dN hw' bQ (bN (hhd hs) (hFb p hpm))) hRl) ?_
  rintro ⟨q,hq2⟩
  dsimp only
  repeat (first | refine JC.seq ?_ | refine JC.region ?_ | refine JL.nil ?_ | refine JE.next ?_)
  obtain ⟨R,hR⟩ : ∃ R,bu (bA h k) p=R:=⟨_,rfl⟩
  have hRb : R.l=aY (bA h k).l p:=by rw [← hR];rfl
  rw [hR] at hq2 ⊢
  have hcl : (bP xm R.l).length=R.l.length:=gQ _ _ _
  have hq3 : q=none→bP xm R.l=[]:=fun e=>List.length_eq_zero_iff.1 (by rw [hcl,hq2 e];rfl)
  obtain ⟨rs,hrs⟩ : ∃ rs,(F.map (bu (bA h k))).set (cg xn fs.length) (eH q (bP xm R.l))=rs:=⟨_,rfl⟩
  have hrv : rs.map aq.v=fs.set (cg xn fs.length) (ak q R.l.length):=by
    rw [← hrs,List.map_set,e9,hcl,List.map_map,← hfs]
    congr 1
    exact List.map_congr_left fun p hp=>eN (hFb p hp)
  have hrl : (rs.map aq.l).flatten=T:=by
    rw [← hT,← hrs,List.map_set,eI hq3,List.map_map,hRb,hfl]
    rfl
  have hrn : (fs.set (cg xn fs.length) (ak q R.l.length)).length=rs.length:=by rw [← hrv,List.length_map]
  have hrn2 : rs.length=F.length:=by rw [← hrs,List.length_set,List.length_map]
  have hcA : jk ⟨some ⟨b,0,none⟩,cap,rs⟩=T:=by
    show ((rs.take rs.length).map aq.l).flatten=T
    rw [List.take_length,hrl]
  rw [← dn,show h.l.drop (au h.l (k+1))=(h.snd (au h.l (k+1))).l from rfl]
  rw [← hrv] at hrn ⊢
  have hel : (ay h k).l.length≤h.l.length:=by rw [dn];exact eO _ _
  have hdr : (h.snd (au h.l (k+1))).l.length≤h.l.length:=by show (h.l.drop _).length≤_;rw [List.length_drop];omega
  refine JL.bC (ι:=Nat × Nat) (vs:=[Pt b5 0]) (fun x=>.slice (some ⟨x.1,0,none⟩) (T++((ay h k).l++(h.snd (au h.l (k+1))).l)).length x.2) (fun x=>[⟨x.1,Sl.Own 5 1 (T++((ay h k).l++(h.snd (au h.l (k+1))).l)).length x.2 ((T++((ay h k).l++(h.snd (au h.l (k+1))).l)).map U8),true⟩]) cy rfl rfl (fun x e he=>by rw [List.mem_singleton.1 he]) (fun w' hw'=>?_) fun x=>?_
  · have ok:=hs.holds hw' rfl
    have hw2 : aa w [] (⟨b5,Row 33 [.slice (some ⟨b,0,none⟩) (rs.map aq.v).length cap,(ay h k).v,(h.snd (au h.l (k+1))).v],true⟩::⟨b,Sl.Own 22 1 (rs.map aq.v).length cap (rs.map aq.v),true⟩::(an 5 q ((bP xm R.l).map U8)++[⟨b3,Row 26 (bB 4 xn xm tx),true⟩])) w':=hw'
    rw [List.length_map] at hw2
    obtain ⟨o,ho,hA⟩:=hw2.get (b:=b5) .here
    obtain ⟨o2,ho2,hA2⟩:=hw2.get (b:=b) (.there .here)
    have hh:=Sl.Own.cells _ hA2
    have iL : gr.ok w' ⟨some ⟨b,0,none⟩,cap,rs⟩:=by
      refine ⟨?_,Reads.block ho2 hh,fun y hy=>?_⟩
      · obtain ⟨sp,_,_,_,h4⟩:=hA2
        exact h4
      · rw [← hrs] at hy
        rcases List.mem_or_eq_of_mem_set hy with hy | rfl
        · obtain ⟨p',hp',rfl⟩:=List.mem_map.1 hy
          exact bN (hhd ok) (hFb p' hp')
        · exact fc (hw2.weak (.drop _ _ _ (.drop _ _ _ (aA.refl _))))
    have:=cK ⟨some ⟨b,0,none⟩,cap,rs⟩ (ay h k) (h.snd (au h.l (k+1))) b5 33 w' (by rw [ho];exact congrArg some hA) iL (dB ok k) (ok.snd _ (bF _ _)) (by rw [hcA];exact h0) (by show rs.length≤_;omega) (by rw [hcA];omega)
    rw [hcA] at this
    exact this
  · repeat (first | refine JL.q (by (apply OQ.assign;rfl)) rfl ?_ | refine JL.nil ?_ | refine JE.next ?_)
    refine JC.ret ?_
    repeat (first | refine JE.av ?_ | refine JE.aI ?_)
    exact JE.aJ rfl (RV.tmp rfl) fun w' hw=>⟨⟨some ⟨x.1,0,none⟩,x.2,_⟩,rfl,hw.aC,rfl,dy hw .here⟩
end Rw
end
section
set_option maxRecDepth 10000
open Sl mO
namespace Rw
def buf (T : Nat) (o : List Bt) : List Value:=o.map U8++List.replicate (T - o.length) (.int .u8 0)
def sS (b T k : Nat) : Value:=.slice (some ⟨b,if T=k then 0 else k,none⟩) (T - k) (T - k)
theorem uQ {T : Nat} {o : List Bt} (h : o.length≤T) : (buf T o).length=T:=by
  unfold buf
  rw [List.length_append,List.length_map,List.length_replicate]
  omega
theorem uR {T j : Nat} {o p : List Bt} (h : o.length+p.length≤T) (hj : j=o.length∨p=[]∧j≤T) : (buf T o).take j++p.map U8++(buf T o).drop (j+p.length * 1)=buf T (o++p):=by
  rcases hj with rfl | ⟨rfl,_⟩
  · unfold buf
    rw [List.take_append_of_le_length (by simp),List.take_of_length_le (by simp),List.drop_append,List.drop_of_length_le (by simp),List.map_append,List.length_append,List.length_map,List.nil_append,List.drop_replicate]
    congr 2
    omega
  · simp
theorem OQ.l6 {P : Program} {n : Nat} {E : Env} {C : World→Prop} {dst : Option Tmp} {t ty e : TypeId} {pos : String} {aft : Array Edge} {g : Option (Nat × Bool)} {x y : Operand} {b T k : Nat} (hu : P.underlying t=some (.slice e)) (hz : dw P e=some 1) (hx : ev E x=some (.slice (some ⟨b,0,none⟩) T T)) (hl : ev E y=some (N k)) (h : k≤T) :
    OQ P n E C ⟨dst,.slice t x (some y) none none,ty,pos,aft,g⟩ (sS b T k):=by
  refine OQ.to (OQ.ot hu hz hx hl h) ?_
  unfold sS
  congr 1
  by_cases hk : T=k
  · rw [if_pos hk,if_pos hk]
  · rw [if_neg hk,if_neg hk]
    simp only [Option.map_some,Addr.add,Nat.mul_one]
    split <;> simp_all
theorem OQ.bu {P : Program} {n : Nat} {E : Env} {C : World→Prop} {dst : Option Tmp} {t ty e : TypeId} {pos : String} {aft : Array Edge} {g : Option (Nat × Bool)} {x y z : Operand} {s : aq} {lo k : Nat} (hu : P.underlying t=some (.slice e)) (hz : dw P e=some 1) (hx : ev E x=some s.v) (hl : ev E y=some (N lo)) (hh : ev E z=some (N (lo+k))) (h : lo+k≤s.l.length) (hc : s.l.length≤s.cap) :
    OQ P n E C ⟨dst,.slice t x (some y) (some z) none,ty,pos,aft,g⟩ (bu s (lo,k)).v:=by
  rw [eN h]
  refine OQ.to (OQ.gD (ad:=s.ad) (len:=s.l.length) (cap:=s.cap) hu hz hx hl hh (Nat.le_add_right _ _) (by omega)) ?_
  unfold aO aq.snd
  rw [Nat.add_sub_cancel_left]
theorem JL.sU {P : Program} {n : Nat} {w0 : World} {S : List Nat} {ops : Array Oper} {Q : Exit→Act→World→Prop} {l : List Oper} {E : Env} {M M' : List az} {d : Nat} {t t' e te ty : TypeId} {pos : String} {aft : Array Edge} {x y : Operand} {b T : Nat} {o : List Bt} {pc : aq}
    (hu : P.underlying t=some (.slice e)) (hz : dw P e=some 1) (hx : ev E x=some (sS b T o.length)) (hy : ev E y=some pc.v) (hup : jc M b (Row te (buf T o)) (Row te (buf T (o++pc.l))) M') (hr : ∀ w,aa w0 S M w→pc.ok w) (hT : o.length+pc.l.length≤T) (hd : Nat.blt d n=true)
    (k : JL P n w0 S ops Q l ((d,N pc.l.length)::E) M') : JL P n w0 S ops Q (⟨some d,.call ⟨.builtin .copy,#[x,y],#[t,t']⟩,ty,pos,aft,none⟩::l) E M:=by
  refine JL.wQ (m:=pc.l.length) (sz:=1) (cs:=pc.l.map U8) (A:=Row te (buf T o)) (A':=Row te (buf T (o++pc.l))) hu hz hx hy hup (by omega) (by rw [List.length_map,Nat.mul_one]) (fun w hw=>(hr w hw).reads) (fun v hv=>by obtain ⟨c,_,rfl⟩:=List.mem_map.1 hv;rfl) (fun ob hob=>?_) hd k
  have hbl:=uQ (T:=T) (o:=o) (by omega)
  refine ⟨buf T o,te,hob,?_,?_⟩
  · rw [hbl]
    split <;> omega
  · have:=uR (T:=T) (o:=o) (p:=pc.l) (j:=if T=o.length then 0 else o.length) hT (by
      split
      · exact .inr ⟨List.length_eq_zero_iff.1 (by omega),Nat.zero_le _⟩
      · exact .inl rfl)
    rw [this]
    exact rfl
theorem wW (b T : Nat) : (.slice (if T=0 then some ⟨b,0,none⟩ else (some (⟨b,0,none⟩ : Addr)).map (·.add (0 * 1))) (T - 0) (T - 0) : Value)=.slice (some ⟨b,0,none⟩) T T:=by
  rw [Nat.sub_zero]
  congr 1
  split
  · rfl
  · simp [Addr.add]
def fq (l : List Bt) (w : World) (e : Ending) (w' : World) : Prop:=∃ x : aq,e=.returned x.v∧Ext w w'∧x.l=l∧x.ok w'∧(x.ad=none→x.cap=0)
theorem sV {q : Acc} {l : List Bt} : (eH q l).ad=none→(eH q l).cap=0:=by
  cases q with
  | none=>exact fun _=>rfl
  | some p=>intro h;cases h
theorem l7 : aR Tryd.prog 28:=⟨_,Tryd.func28,rfl,by kernel_rfl⟩
structure yb where
  i : Nat
  st : Nat
  o : List Bt
set_option maxHeartbeats 8000000 in
theorem sW (s d u : aq) (w : World) (hs : s.ok w) (hd : d.ok w) (hu : u.ok w) (hd1 : 1≤d.l.length) (hd2 : d.l.length≤2) (hu2 : u.l.length≤2) (hl : s.l.length≤1000000000) (hm : dm w)
    (hcnt : ∀ (M : List az) (w' : World),aa w [] M w'→Calls Tryd.prog 46 [s.v,d.v].toArray w' fun e w2=>e=.returned (N (gu d.l s.l))∧Ext w' w2) :
    Calls Tryd.prog 28 [s.v,d.v,u.v,I (-1)].toArray w (fq (fW d.l u.l (gu d.l s.l) s.l) w):=by
  have hd0 : d.l≠[]:=fun h=>by rw [h] at hd1;cases hd1
  refine enter (n:=132) Tryd.func28 rfl rfl rfl (aa.start w []) ?_
  have hrl:=sj u.l hd0 (gu d.l s.l) s.l rfl
  have hcl:=si hd0 s.l.length s.l (Nat.le_refl _)
  have hsc:=hs.len
  obtain ⟨n,hn⟩ : ∃ n,gu d.l s.l=n:=⟨_,rfl⟩
  rw [hn] at hrl hcl hcnt ⊢
  have hgm : decide ((-1 : Int)=0)=false:=rfl
  repeat (first | refine JL.q (by first|(apply OQ.xK (a:=-1) (b:=0);rfl;rfl;exact hgm)|(apply OQ.move;rfl)|(apply OQ.assign;rfl)) rfl ?_ | refine JC.seq ?_ | refine JC.region ?_ | refine JL.nil ?_ | refine JE.next ?_)
  refine JC.cond_true rfl rfl ?_
  by_cases h0 : n=0
  · subst h0
    have hg : decide (((0 : Nat) : Int)=0)=true:=rfl
    repeat (first | refine JL.q (by first|(apply OQ.aB (vs:=[s.v,d.v]);exact jN;rfl;exact (hcnt _))|(apply OQ.aU (b:=0);rfl;rfl;exact hg)|(apply OQ.move;rfl)|(apply OQ.assign;rfl)) rfl ?_ | refine JC.seq ?_ | refine JC.region ?_ | refine JL.nil ?_ | refine JE.next ?_)
    refine JC.cond_true rfl rfl ?_
    repeat (first | refine JL.q (by (apply OQ.move;rfl)) rfl ?_ | refine JC.seq ?_ | refine JC.region ?_)
    refine JL.bS (xs:=[]) (cs:=s.l.map U8) (m:=s.l.length) (ad:=s.ad) (sc:=s.cap) none Tryd.underlying22 eD (fun _=>rfl) rfl rfl (List.length_map _) (fun w' hw'=>(hs.holds hw' rfl).reads) (fun v hv=>by obtain ⟨c,_,rfl⟩:=List.mem_map.1 hv;rfl) rfl (by simp;omega) (by simp;omega) rfl fun q hq=>?_
    rw [List.nil_append,List.length_map] at *
    repeat (first | refine JL.q (by (apply OQ.assign;rfl)) rfl ?_ | refine JL.nil ?_ | refine JE.next ?_)
    refine JC.ret ?_
    repeat (refine JE.av ?_)
    refine JE.aJ rfl (RV.tmp rfl) fun w' hw=>⟨eH q s.l,by rw [e9],hw.aC,?_,fc hw,sV⟩
    exact eI fun e=>by simpa using hq e
  · have hg : decide (((n : Nat) : Int)=0)=false:=decide_eq_false (by omega)
    repeat (first | refine JL.q (by first|(apply OQ.aB (vs:=[s.v,d.v]);exact jN;rfl;exact (hcnt _))|(apply OQ.aU (b:=0);rfl;rfl;exact hg)|(apply OQ.move;rfl)|(apply OQ.assign;rfl)) rfl ?_ | refine JC.seq ?_ | refine JC.region ?_ | refine JL.nil ?_ | refine JE.next ?_)
    refine JC.cond_false rfl rfl ?_
    have hg1 : decide ((-1 : Int)<0)=true:=rfl
    repeat (first | refine JL.q (by first|(apply OQ.kz (a:=-1) (b:=0);rfl;rfl;exact hg1)|(apply OQ.aP;rfl;rfl)|(apply OQ.move;rfl)) rfl ?_ | refine JC.seq ?_ | refine JC.region ?_ | refine JC.skip ?_ | refine JL.nil ?_ | refine JE.next ?_ | refine JL.cj rfl rfl rfl rfl ?_)
    refine JC.cond_true rfl rfl ?_
    obtain ⟨R,hR⟩ : ∃ R,fW d.l u.l n s.l=R:=⟨_,rfl⟩
    obtain ⟨T,hT⟩ : ∃ T,R.length=T:=⟨_,rfl⟩
    rw [hR] at hrl ⊢
    rw [hT] at hrl
    obtain ⟨A,hA⟩ : ∃ A,n * u.l.length=A:=⟨_,rfl⟩
    obtain ⟨B,hB⟩ : ∃ B,n * d.l.length=B:=⟨_,rfl⟩
    have hA2 : A≤2000000000:=by
      have:=Nat.mul_le_mul (show n≤1000000000 by omega) hu2
      omega
    have hB2 : B≤2000000000:=by
      have:=Nat.mul_le_mul (show n≤1000000000 by omega) hd2
      omega
    rw [hA,hB] at hrl
    have hAB : (n : Int) * ((u.l.length : Int) - (d.l.length : Int))=(A : Int) - B:=by rw [Int.mul_sub,← Int.natCast_mul,← Int.natCast_mul,hA,hB]
    have hTv : I ((s.l.length : Int)+(n : Int) * ((u.l.length : Int) - (d.l.length : Int)))=N T:=by
      rw [hAB]
      show I _=I _
      congr 1
      omega
    have hgd : decide ((d.l.length : Int)>0)=true:=decide_eq_true (by omega)
    repeat (first | refine JL.q (by first|(apply OQ.len (k:=s.l.length) (ad:=s.ad) (cap:=s.cap);exact Tryd.underlying22;rfl)|(apply OQ.len (k:=u.l.length) (ad:=u.ad) (cap:=u.cap);exact Tryd.underlying22;rfl)|(apply OQ.len (k:=d.l.length) (ad:=d.ad) (cap:=d.cap);exact Tryd.underlying22;rfl)|(apply OQ.wA (a:=(u.l.length : Int)) (b:=(d.l.length : Int));rfl;rfl;exact (by omega);exact (by omega))|(apply OQ.xF (a:=(n : Int)) (b:=(u.l.length : Int) - (d.l.length : Int));rfl;rfl;exact (by rw [hAB];omega);exact (by rw [hAB];omega))|(apply OQ.to;exact (OQ.wG (a:=(s.l.length : Int)) (b:=(n : Int) * ((u.l.length : Int) - (d.l.length : Int))) rfl rfl (by rw [hAB];omega) (by rw [hAB];omega));exact hTv)|(apply OQ.move;rfl)|(apply OQ.assign;rfl)) rfl ?_ | refine JC.seq ?_ | refine JC.region ?_ | refine JL.nil ?_ | refine JE.next ?_)
    refine JL.make (c:=T) Tryd.underlying22 eD (by rfl) (by decide) rfl rfl (by omega) (by omega) rfl fun b _=>?_
    repeat (first | refine JL.q (by first|(apply OQ.len (k:=d.l.length) (ad:=d.ad) (cap:=d.cap);exact Tryd.underlying22;rfl)|(apply OQ.eo (b:=0);rfl;rfl;exact hgd)|(apply OQ.move;rfl)|(apply OQ.assign;rfl)) rfl ?_ | refine JC.seq ?_ | refine JC.region ?_ | refine JL.nil ?_ | refine JE.next ?_)
    refine JC.cond_true rfl rfl ?_
    repeat (first | refine JL.q (by (apply OQ.move;rfl)) rfl ?_ | refine JC.seq ?_ | refine JC.region ?_ | refine JC.block ?_ | refine JL.nil ?_ | refine JE.next ?_)
    refine JC.loop (fun z : yb=>[(0,s.v),(1,d.v),(2,u.v),(3,N n),(10,.slice (some ⟨b,0,none⟩) T T),(11,N z.o.length),(12,N z.st),(48,N n),(49,N z.i)]) (fun z=>[⟨b,Row 5 (buf T z.o),true⟩]) (fun z=>n - z.i) (fun z=>z.i≤n∧z.st≤s.l.length∧gu d.l (s.l.drop z.st)=n - z.i∧z.o++fW d.l u.l (n - z.i) (s.l.drop z.st)=R) ⟨0,0,[]⟩ ⟨Nat.zero_le _,Nat.zero_le _,hn,hR⟩ (by repeat (first | exact ax.nil | refine ax.cons _ _ _ rfl ?_)) ?hM0 ?hround
    case hM0=>
      show aA [⟨b,Row 5 (buf T []),true⟩] _
      unfold buf
      rw [List.map_nil,List.nil_append,List.length_nil,Nat.sub_zero]
      show aA _ [⟨b,Row 5 (List.replicate (T * 1) (.int .u8 0)),true⟩]
      rw [Nat.mul_one]
      exact aA.refl _
    case hround=>
    rintro ⟨i,st,o⟩ ⟨hi,hst,hc,ho⟩
    dsimp only at hi hst hc ho ⊢
    have hol : o.length+(fW d.l u.l (n - i) (s.l.drop st)).length=T:=by rw [← hT,← ho,List.length_append]
    repeat (first | refine JL.q (by (apply OQ.ij (a:=i) (b:=n);rfl;rfl)) rfl ?_ | refine JC.seq ?_ | refine JC.region ?_ | refine JL.nil ?_ | refine JE.next ?_)
    refine JC.cond rfl (fun h=>?_) (fun h=>?_)
    · have hi' : i<n:=of_decide_eq_true h
      clear h
      obtain ⟨ix,hj,hjl,hj3⟩:=ff hd0 (l:=s.l.drop st) (by omega)
      rw [List.length_drop] at hjl
      rw [List.drop_drop] at hj3
      have hq : ∀ (M : List az) (w' : World),aa w [] M w'→Calls Tryd.prog 47 [(s.snd st).v,d.v].toArray w' fun e w2=>e=.returned (N ix)∧Ext w' w2:=fun M w' hw'=>by
        have:=sn (s.snd st) d w' ((hs.holds hw' rfl).snd st hst) (hd.holds hw' rfl) (fun e=>by
          have e : s.l.drop st=[]:=e
          have:=congrArg List.length e
          rw [List.length_drop,List.length_nil] at this
          omega) hd0 (by show (s.l.drop st).length<_;rw [List.length_drop];omega) hd2 (hm.ext hw'.aC)
        rw [show jo d.l (s.snd st).l=(ix : Int) from hj] at this
        exact this
      have hk : n - i=(n - (i+1))+1:=by omega
      rw [hk,fW,hj,Int.toNat_natCast,List.drop_drop] at ho hol
      obtain ⟨pc,hpc⟩ : ∃ pc,bu s (st,ix)=pc:=⟨_,rfl⟩
      have hpl : pc.l=(s.l.drop st).take ix:=by rw [← hpc];rfl
      have hpn : pc.l.length=ix:=by rw [hpl,List.length_take,List.length_drop];omega
      rw [← hpl] at ho hol
      rw [List.length_append,List.length_append] at hol
      have hpo : ∀ {M : List az} {w' : World},aa w [] M w'→pc.ok w':=fun hw'=>hpc ▸ bN (hs.holds hw' rfl) (show st+ix≤s.l.length by omega)
      repeat (first | refine JL.q (by first|(apply OQ.snd (s:=s) (m:=st);exact Tryd.underlying22;exact cn;rfl;rfl;exact hst)|(apply OQ.aB (vs:=[(s.snd st).v,d.v]);exact fX;rfl;exact (hq _))|(apply OQ.bH (a:=st) (b:=ix);rfl;rfl;exact (by omega))|(apply OQ.move;rfl)|(apply OQ.assign;rfl)) rfl ?_ | refine JC.seq ?_ | refine JC.region ?_ | refine JC.block ?_ | refine JC.skip ?_ | refine JL.nil ?_ | refine JE.next ?_)
      let vs : Nat→Nat→Value:=fun j y=>match j with
        | 0=>N o.length
        | 1=>.slice (some ⟨b,0,none⟩) T T
        | 2=>N o.length
        | 3=>sS b T o.length
        | 4=>s.v
        | 5=>N st
        | 6=>N (st+ix)
        | 7=>pc.v
        | 8=>N pc.l.length
        | 9=>N (o.length+pc.l.length)
        | 10=>N (o.length+pc.l.length)
        | _=>N 0
      let Ms : Nat→Nat→List az:=fun j y=>match j with
        | 8=>[⟨b,Row 5 (buf T (o++pc.l)),true⟩]
        | 11=>[⟨b,Row 5 (buf T o),true⟩]
        | _=>[]
      refine JC.vg (g:=⟨[(0,s.v),(1,d.v),(2,u.v),(3,N n),(10,.slice (some ⟨b,0,none⟩) T T),(12,N st),(13,N (st+ix)),(48,N n),(49,N i)],12,vs,Ms,(fun j=>match j with | 3=>[(1,59),(2,60)] | 7=>[(4,62),(5,63),(6,64)] | 8=>[(3,61),(7,65)] | 9=>[(0,58),(8,66)] | 10=>[(9,67)] | _=>[]),(fun j=>match j with | 8=>[11] | _=>[]),(fun j=>match j with | 8=>[11] | _=>[]),(fun j=>match j with | _=>none),(fun j=>match j with | 0=>[(11,N o.length)] | 2=>[(11,N o.length)] | _=>[])⟩) [(10,11)] [8] di (by repeat (first | exact ax.nil | refine ax.cons _ _ _ rfl ?_)) (fun i _=>by dsimp only;split <;> first | exact ax.nil | exact (by repeat (first | exact ax.nil | refine ax.cons _ _ _ rfl ?_))) ?_ (by kernel_rfl) (by kernel_rfl) (by kernel_rfl) ?_ ?_
      · exact aA.refl _
      · refine ⟨?_,?_,?_,?_,?_,?_,?_,?_,?_,?_,?_,trivial⟩
        · (intro xx EF MF Q kk;(try refine JL.aN rfl rfl ?_);exact JL.q (OQ.move rfl) rfl (JL.nil (kk default nofun)))
        · (intro xx EF MF Q kk;(try refine JL.aN rfl rfl ?_);exact JL.q (OQ.move rfl) rfl (JL.nil (kk default nofun)))
        · (intro xx EF MF Q kk;(try refine JL.aN rfl rfl ?_);exact JL.q (OQ.move rfl) rfl (JL.nil (kk default nofun)))
        · (intro xx EF MF Q kk;(try refine JL.aN rfl rfl ?_);exact JL.q (OQ.l6 Tryd.underlying22 cn rfl rfl (by omega)) rfl (JL.nil (kk default nofun)))
        · (intro xx EF MF Q kk;(try refine JL.aN rfl rfl ?_);exact JL.q (OQ.move rfl) rfl (JL.nil (kk default nofun)))
        · (intro xx EF MF Q kk;(try refine JL.aN rfl rfl ?_);exact JL.q (OQ.move rfl) rfl (JL.nil (kk default nofun)))
        · (intro xx EF MF Q kk;(try refine JL.aN rfl rfl ?_);exact JL.q (OQ.move rfl) rfl (JL.nil (kk default nofun)))
        · (intro xx EF MF Q kk;(try refine JL.aN rfl rfl ?_);exact JL.q (OQ.to (OQ.bu (s:=s) (lo:=st) (k:=ix) Tryd.underlying22 cn rfl rfl rfl (by omega) hsc) (congrArg aq.v hpc)) rfl (JL.nil (kk default nofun)))
        · (intro xx EF MF Q kk;exact JL.sU (o:=o) (pc:=pc) Tryd.underlying22 cn rfl rfl .here (fun w' hw'=>hpo hw') (by omega) rfl (JL.nil (kk default nofun)))
        · (intro xx EF MF Q kk;(try refine JL.aN rfl rfl ?_);exact JL.q (OQ.bH (a:=o.length) (b:=pc.l.length) rfl rfl (by omega)) rfl (JL.nil (kk default nofun)))
        · (intro xx EF MF Q kk;(try refine JL.aN rfl rfl ?_);exact JL.q (OQ.assign rfl) rfl (JL.nil (kk default nofun)))
      · intro xx hx
        refine JE.next ?_
        have hno : (o++pc.l).length=o.length+pc.l.length:=List.length_append
        show JC _ _ _ _ _ _ ((11,N (o.length+pc.l.length))::[(0,s.v),(1,d.v),(2,u.v),(3,N n),(10,.slice (some ⟨b,0,none⟩) T T),(12,N st),(13,N (st+ix)),(48,N n),(49,N i)]) [⟨b,Row 5 (buf T (o++pc.l)),true⟩]
        rw [← Nat.add_assoc,← hno] at hol
        rw [← hno]
        rw [← List.append_assoc] at ho
        obtain ⟨o2,ho2⟩ : ∃ o2,o++pc.l=o2:=⟨_,rfl⟩
        rw [ho2] at ho hol ⊢
        have hno2 : (o2++u.l).length=o2.length+u.l.length:=List.length_append
        repeat (first | refine JL.q (by first|(apply OQ.l6;exact Tryd.underlying22;exact cn;rfl;rfl;exact (by omega))|(apply OQ.move;rfl)) rfl ?_ | refine JC.seq ?_ | refine JC.region ?_)
        refine JL.sU (o:=o2) (pc:=u) Tryd.underlying22 cn rfl rfl .here (fun w' hw'=>hu.holds hw' rfl) (by omega) rfl ?_
        repeat (first | refine JL.q (by first|(apply OQ.to;exact (OQ.bH (a:=o2.length) (b:=u.l.length) rfl rfl (by omega));exact (congrArg N hno2.symm))|(apply OQ.len (k:=d.l.length) (ad:=d.ad) (cap:=d.cap);exact Tryd.underlying22;rfl)|(apply OQ.to;exact (OQ.bH (a:=st+ix) (b:=d.l.length) rfl rfl (by omega));exact (congrArg N (Nat.add_assoc st ix d.l.length)))|(apply OQ.bH (a:=i) (b:=1);rfl;rfl;exact (by omega))|(apply OQ.move;rfl)|(apply OQ.assign;rfl)) rfl ?_ | refine JC.region ?_ | refine JL.nil ?_ | refine JE.next ?_ | refine JE.aj ?_)
        refine JE.again (i:=⟨i,st,o⟩) (⟨i+1,st+(ix+d.l.length),o2++u.l⟩ : yb) ?_ ?_ ?_ ?_
        rotate_left
        · show n - (i+1)<n - i
          omega
        · exact (by repeat (first | exact ax.nil | refine ax.cons _ _ _ rfl ?_))
        · exact aA.refl _
        refine ⟨hi',?_,?_,?_⟩
        · show st+(ix+d.l.length)≤s.l.length
          omega
        · show gu d.l (s.l.drop (st+(ix+d.l.length)))=n - (i+1)
          omega
        · show (o2++u.l)++fW d.l u.l (n - (i+1)) (s.l.drop (st+(ix+d.l.length)))=R
          rw [List.append_assoc]
          exact ho
    · have hi' : i=n:=by have:=of_decide_eq_false h;omega
      subst hi'
      clear h
      rw [Nat.sub_self,fW] at ho hol
      rw [List.length_drop] at hol
      have hso : ∀ {M : List az} {w' : World},aa w [] M w'→(s.snd st).ok w':=fun hw'=>(hs.holds hw' rfl).snd st hst
      have hsn : (s.snd st).l.length=s.l.length - st:=List.length_drop
      have hoT : o.length+(s.snd st).l.length=T:=by rw [hsn];omega
      repeat (first | refine JC.seq ?_ | refine JC.exit ?_ | refine JE.next ?_ | refine JE.aS ?_ | refine JE.bE ?_)
      let vs : Nat→Nat→Value:=fun j y=>match j with
        | 0=>N o.length
        | 1=>.slice (some ⟨b,0,none⟩) T T
        | 2=>N o.length
        | 3=>sS b T o.length
        | 4=>s.v
        | 5=>N st
        | 6=>(s.snd st).v
        | 7=>N (s.snd st).l.length
        | 8=>N T
        | 9=>N T
        | _=>N 0
      let Ms : Nat→Nat→List az:=fun j y=>match j with
        | 7=>[⟨b,Row 5 (buf T (o++(s.snd st).l)),true⟩]
        | 10=>[⟨b,Row 5 (buf T o),true⟩]
        | _=>[]
      refine JC.vg (g:=⟨[(0,s.v),(1,d.v),(2,u.v),(3,N i),(10,.slice (some ⟨b,0,none⟩) T T),(12,N st),(48,N i),(49,N i)],11,vs,Ms,(fun j=>match j with | 3=>[(1,121),(2,122)] | 6=>[(4,124),(5,125)] | 7=>[(3,123),(6,126)] | 8=>[(0,120),(7,127)] | 9=>[(8,128)] | _=>[]),(fun j=>match j with | 7=>[10] | _=>[]),(fun j=>match j with | 7=>[10] | _=>[]),(fun j=>match j with | _=>none),(fun j=>match j with | 0=>[(11,N o.length)] | 2=>[(11,N o.length)] | _=>[])⟩) [(9,11)] [7] di (by repeat (first | exact ax.nil | refine ax.cons _ _ _ rfl ?_)) (fun i _=>by dsimp only;split <;> first | exact ax.nil | exact (by repeat (first | exact ax.nil | refine ax.cons _ _ _ rfl ?_))) ?_ (by kernel_rfl) (by kernel_rfl) (by kernel_rfl) ?_ ?_
      · exact aA.refl _
      · refine ⟨?_,?_,?_,?_,?_,?_,?_,?_,?_,?_,trivial⟩
        · (intro xx EF MF Q kk;(try refine JL.aN rfl rfl ?_);exact JL.q (OQ.move rfl) rfl (JL.nil (kk default nofun)))
        · (intro xx EF MF Q kk;(try refine JL.aN rfl rfl ?_);exact JL.q (OQ.move rfl) rfl (JL.nil (kk default nofun)))
        · (intro xx EF MF Q kk;(try refine JL.aN rfl rfl ?_);exact JL.q (OQ.move rfl) rfl (JL.nil (kk default nofun)))
        · (intro xx EF MF Q kk;(try refine JL.aN rfl rfl ?_);exact JL.q (OQ.l6 Tryd.underlying22 cn rfl rfl (by omega)) rfl (JL.nil (kk default nofun)))
        · (intro xx EF MF Q kk;(try refine JL.aN rfl rfl ?_);exact JL.q (OQ.move rfl) rfl (JL.nil (kk default nofun)))
        · (intro xx EF MF Q kk;(try refine JL.aN rfl rfl ?_);exact JL.q (OQ.move rfl) rfl (JL.nil (kk default nofun)))
        · (intro xx EF MF Q kk;(try refine JL.aN rfl rfl ?_);exact JL.q (OQ.snd (s:=s) (m:=st) Tryd.underlying22 cn rfl rfl hst) rfl (JL.nil (kk default nofun)))
        · (intro xx EF MF Q kk;exact JL.sU (o:=o) (pc:=s.snd st) Tryd.underlying22 cn rfl rfl .here (fun w' hw'=>hso hw') (by rw [hsn];omega) rfl (JL.nil (kk default nofun)))
        · (intro xx EF MF Q kk;(try refine JL.aN rfl rfl ?_);exact JL.q (OQ.to (OQ.bH (a:=o.length) (b:=(s.snd st).l.length) rfl rfl (by rw [hsn];omega)) (congrArg N hoT)) rfl (JL.nil (kk default nofun)))
        · (intro xx EF MF Q kk;(try refine JL.aN rfl rfl ?_);exact JL.q (OQ.assign rfl) rfl (JL.nil (kk default nofun)))
      · intro xx hx
        refine JE.next ?_
        have hbR : buf T (o++(s.snd st).l)=R.map U8:=by
          rw [show o++(s.snd st).l=R from ho]
          unfold buf
          rw [hT,Nat.sub_self,List.replicate_zero,List.append_nil]
        show JC _ _ _ _ _ _ ((11,N T)::[(0,s.v),(1,d.v),(2,u.v),(3,N i),(10,.slice (some ⟨b,0,none⟩) T T),(12,N st),(48,N i),(49,N i)]) [⟨b,Row 5 (buf T (o++(s.snd st).l)),true⟩]
        rw [hbR]
        repeat (first | refine JL.q (by first|(apply OQ.to;exact (OQ.gD (ad:=some ⟨b,0,none⟩) (len:=T) (cap:=T) (lo:=0) (hi:=T) Tryd.underlying22 cn rfl rfl rfl (Nat.zero_le _) (Nat.le_refl _));exact (wW b T))|(apply OQ.move;rfl)|(apply OQ.assign;rfl)) rfl ?_ | refine JC.seq ?_ | refine JC.region ?_ | refine JL.nil ?_ | refine JE.next ?_)
        refine JC.ret ?_
        skip
        refine JE.aJ rfl (RV.tmp rfl) fun w2 hw=>⟨⟨some ⟨b,0,none⟩,R.length,R⟩,?_,hw.aC,rfl,eJ hw .here,nofun⟩
        rw [hT]
        unfold aq.v
        rw [hT]
end Rw
end
section
set_option maxRecDepth 10000
open Sl mO
namespace Rw
theorem JL.kZ {P : Program} {n : Nat} {w0 : World} {S S' : List Nat} {ops : Array Oper} {Q : Exit→Act→World→Prop} {l : List Oper} {E : Env} {M : List az} {d : Nat} {ty : TypeId} {pos : String} {aft : Array Edge} {r : List Bt} (M' : List az)
    {f : FuncId} {xs : List Operand} {ats : Array TypeId} {vs : List Value} (hg : aR P f) (hx : eY E xs=some vs) (hd : Nat.blt d n=true)
    (hc : ∀ w1,aa w0 S M w1→Calls P f vs.toArray w1 (fq r w1))
    (hM : aA M' M) (hS : ∀ e ∈ M',e.wr=true→e.b ∈ S')
    (k : ∀ x : aq,x.l=r→(x.ad=none→x.cap=0)→∀ w1,aa w0 S M w1→x.ok w1→JL P n w1 S' ops Q l ((d,x.v)::E) M') : JL P n w0 S ops Q (⟨some d,.call ⟨.value (.func f),xs.toArray,ats⟩,ty,pos,aft,none⟩::l) E M:=
  JL.vh (ι:={ x : aq // x.l=r∧(x.ad=none→x.cap=0) }) (fun x=>x.1.v) (fun x w=>x.1.ok w) M' hg hx hd (fun w1 h1=>(hc w1 h1).mono fun e w2 ⟨x,e1,e2,e3,e4,e5⟩=>⟨⟨x,e3,e5⟩,e1,e2,e4⟩) hM hS fun x w1 h1 h2=>k x.1 x.2.1 x.2.2 w1 h1 h2
theorem gU : aR Tryd.prog 15:=⟨_,Tryd.func15,rfl,by kernel_rfl⟩
theorem ld : aR Tryd.prog 8:=⟨_,Tryd.func8,rfl,by kernel_rfl⟩
theorem oQ : aR Tryd.prog 9:=⟨_,Tryd.func9,rfl,by kernel_rfl⟩
def fu (d u l : List Bt) : List Bt:=fW d u (gu d l) l
theorem iR (s d u : aq) (w : World) (hs : s.ok w) (hd : d.ok w) (hu : u.ok w) (hd1 : 1≤d.l.length) (hd2 : d.l.length≤2) (hu2 : u.l.length≤2) (hl : s.l.length≤1000000000) (hm : dm w)
    (hcnt : ∀ w',s.ok w'→d.ok w'→dm w'→Calls Tryd.prog 46 [s.v,d.v].toArray w' fun e w2=>e=.returned (N (gu d.l s.l))∧Ext w' w2) :
    Calls Tryd.prog 15 [s.v,d.v,u.v].toArray w (fq (fu d.l u.l s.l) w):=by
  refine enter (n:=11) Tryd.func15 rfl rfl rfl (aa.start w []) ?_
  repeat (first | refine JL.q (by first|(apply OQ.move;rfl)|(apply OQ.assign;rfl)) rfl ?_ | refine JC.seq ?_ | refine JC.region ?_ | refine JL.nil ?_ | refine JE.next ?_)
  refine JL.kZ (vs:=[s.v,d.v,u.v,I (-1)]) (S':=[]) [] l7 rfl rfl (fun w' hw'=>sW s d u w' (hs.holds hw' rfl) (hd.holds hw' rfl) (hu.holds hw' rfl) hd1 hd2 hu2 hl (hm.ext hw'.aC) (fun M w2 hw2=>hcnt w2 ((hs.holds hw' rfl).holds hw2 rfl) ((hd.holds hw' rfl).holds hw2 rfl) ((hm.ext hw'.aC).ext hw2.aC))) (.nil _) (by simp) ?_
  intro x hx hz w1 hw1 okx
  repeat (first | refine JL.q (by (apply OQ.assign;rfl)) rfl ?_ | refine JL.nil ?_ | refine JE.next ?_)
  refine JC.ret ?_
  skip
  exact JE.aJ rfl (RV.tmp rfl) fun w' hw=>⟨x,rfl,hw1.aC.trans hw.aC,hx,okx.holds hw rfl,hz⟩
def gV (l : List Bt) : List Bt:=fu [13,10] [10] l
def iD (l : List Bt) : List Bt:=fu [10] [13,10] (gV l)
theorem jZ : ∀ v ∈ [U8 (13 : BitVec 8),U8 10],v.cells=#[v]:=by
  intro v hv
  simp only [List.mem_cons,List.not_mem_nil,or_false] at hv
  rcases hv with rfl | rfl <;> rfl
theorem nk (s : aq) (w : World) (hs : s.ok w) (hl : s.l.length≤1000000000) (hm : dm w) : Calls Tryd.prog 8 [s.v].toArray w (fq (gV s.l) w):=by
  refine enter (n:=8) Tryd.func8 rfl rfl rfl (aa.start w []) ?_
  repeat (first | refine JL.q (by first|(apply OQ.move;rfl)|(apply OQ.assign;rfl)) rfl ?_ | refine JC.seq ?_ | refine JC.region ?_ | refine JL.nil ?_ | refine JE.next ?_)
  refine JL.rO (xs:=[.const (U8 13),.const (U8 10)]) (vs:=[U8 13,U8 10]) Tryd.underlying22 eD rfl rfl rfl rfl jZ rfl (by decide) (by decide) rfl fun b1 _=>?_
  refine JL.mark (r:=[U8 13,U8 10]) (te:=5) Tryd.underlying22 Tryd.underlying5 rfl .here rfl ?_
  refine JL.gA (v:=U8 (10 : BitVec 8)) Tryd.underlying22 eD rfl rfl rfl rfl fun b2 _=>?_
  refine JL.kZ (vs:=[s.v,aq.v ⟨some ⟨b1,0,none⟩,2,[13,10]⟩,aq.v ⟨some ⟨b2,0,none⟩,1,[10]⟩]) (S':=[]) [] gU rfl rfl (fun w' hw'=>iR s ⟨some ⟨b1,0,none⟩,2,[13,10]⟩ ⟨some ⟨b2,0,none⟩,1,[10]⟩ w' (hs.holds hw' rfl) (fH (l:=[13,10]) hw' (.there .here)) (eJ (l:=[10]) hw' .here) (show 1≤2 by decide) (show 2≤2 by decide) (show 1≤2 by decide) hl (hm.ext hw'.aC) (fun w2 h1 h2 h3=>sr s ⟨some ⟨b1,0,none⟩,2,[13,10]⟩ w2 h1 h2 (by omega) rfl h3)) (.nil _) (by simp) ?_
  intro x hx hz w1 hw1 okx
  repeat (first | refine JL.q (by (apply OQ.assign;rfl)) rfl ?_ | refine JL.nil ?_ | refine JE.next ?_)
  refine JC.ret ?_
  skip
  exact JE.aJ rfl (RV.tmp rfl) fun w' hw=>⟨x,rfl,hw1.aC.trans hw.aC,hx,okx.holds hw rfl,hz⟩
theorem qI (s : aq) (w : World) (hs : s.ok w) (hl : s.l.length≤1000000000) (hl2 : (gV s.l).length≤1000000000) (hm : dm w) : Calls Tryd.prog 9 [s.v].toArray w (fq (iD s.l) w):=by
  refine enter (n:=9) Tryd.func9 rfl rfl rfl (aa.start w []) ?_
  repeat (first | refine JL.q (by first|(apply OQ.move;rfl)|(apply OQ.assign;rfl)) rfl ?_ | refine JC.seq ?_ | refine JC.region ?_ | refine JL.nil ?_ | refine JE.next ?_)
  refine JL.kZ (vs:=[s.v]) (S':=[]) [] ld rfl rfl (fun w' hw'=>nk s w' (hs.holds hw' rfl) hl (hm.ext hw'.aC)) (.nil _) (by simp) ?_
  intro x hx hz w1 hw1 okx
  have hm1:=hm.ext hw1.aC
  rw [← hx] at hl2
  refine JL.gA (v:=U8 (10 : BitVec 8)) Tryd.underlying22 eD rfl rfl rfl rfl fun b2 _=>?_
  refine JL.rO (xs:=[.const (U8 13),.const (U8 10)]) (vs:=[U8 13,U8 10]) Tryd.underlying22 eD rfl rfl rfl rfl jZ rfl (by decide) (by decide) rfl fun b1 _=>?_
  refine JL.mark (r:=[U8 13,U8 10]) (te:=5) Tryd.underlying22 Tryd.underlying5 rfl .here rfl ?_
  refine JL.kZ (vs:=[x.v,aq.v ⟨some ⟨b2,0,none⟩,1,[10]⟩,aq.v ⟨some ⟨b1,0,none⟩,2,[13,10]⟩]) (S':=[]) [] gU rfl rfl (fun w' hw'=>iR x ⟨some ⟨b2,0,none⟩,1,[10]⟩ ⟨some ⟨b1,0,none⟩,2,[13,10]⟩ w' (okx.holds hw' rfl) (eJ (l:=[10]) hw' (.there .here)) (fH (l:=[13,10]) hw' .here) (show 1≤1 by decide) (show 1≤2 by decide) (show 2≤2 by decide) hl2 (hm1.ext hw'.aC) (fun w2 h1 h2 h3=>su x b2 1 10 w2 h1 hz h2)) (.nil _) (by simp) ?_
  intro y hy hzy w2 hw2 oky
  repeat (first | refine JL.q (by (apply OQ.assign;rfl)) rfl ?_ | refine JL.nil ?_ | refine JE.next ?_)
  refine JC.ret ?_
  skip
  refine JE.aJ rfl (RV.tmp rfl) fun w' hw=>⟨y,rfl,hw1.aC.trans (hw2.aC.trans hw.aC),?_,oky.holds hw rfl,hzy⟩
  rw [hy,hx]
  rfl
set_option maxHeartbeats 4000000 in
theorem oR (h : aq) (xn xm : Int) (tx : List Bt) (w : World) (hs : h.ok w) (hl : h.l.length≤1000000000) (hm : dm w) :
    Calls Tryd.prog 6 [h.v,.agg (bB 1 xn xm tx).toArray].toArray w (fq (gV h.l) w):=by
  refine enter (n:=45) Tryd.func6 rfl rfl rfl (aa.start w []) ?_
  have hg1 : decide ((1 : Int)=1)=true:=rfl
  refine JC.seq (JC.region ?_)
  refine JL.box (r:=bB 1 xn xm tx) rfl rfl rfl fun b3 _=>?_
  repeat (first | refine JL.q (by first|(apply OQ.load;exact aF;rfl;exact .here;exact (Row.cell (v:=I 1) rfl))|(apply OQ.aU (a:=1) (b:=1);rfl;rfl;exact hg1)|(apply OQ.assign;rfl)|(apply OQ.b8;rfl;rfl;rfl;exact (by decide);rfl)) rfl ?_ | refine JC.seq ?_ | refine JC.region ?_ | refine JC.block ?_ | refine JL.nil ?_ | refine JE.next ?_)
  refine JC.cond_true rfl rfl ?_
  repeat (first | refine JL.q (by (apply OQ.move;rfl)) rfl ?_ | refine JC.seq ?_ | refine JC.region ?_)
  refine JL.kZ (vs:=[h.v]) (S':=[]) [] ld rfl rfl (fun w' hw'=>nk h w' (hs.holds hw' rfl) hl (hm.ext hw'.aC)) (.nil _) (by simp) ?_
  intro x hx hz w1 hw1 okx
  repeat (first | refine JL.q (by (apply OQ.assign;rfl)) rfl ?_ | refine JL.nil ?_ | refine JE.next ?_)
  refine JC.ret ?_
  repeat (first | refine JE.av ?_ | refine JE.aI ?_)
  exact JE.aJ rfl (RV.tmp rfl) fun w' hw=>⟨x,rfl,hw1.aC.trans hw.aC,hx,okx.holds hw rfl,hz⟩
set_option maxHeartbeats 4000000 in
theorem iS (h : aq) (xn xm : Int) (tx : List Bt) (w : World) (hs : h.ok w) (hl : h.l.length≤1000000000) (hl2 : (gV h.l).length≤1000000000) (hm : dm w) :
    Calls Tryd.prog 6 [h.v,.agg (bB 2 xn xm tx).toArray].toArray w (fq (iD h.l) w):=by
  refine enter (n:=45) Tryd.func6 rfl rfl rfl (aa.start w []) ?_
  have hg1 : decide ((2 : Int)=1)=false:=rfl
  have hg2 : decide ((2 : Int)=2)=true:=rfl
  refine JC.seq (JC.region ?_)
  refine JL.box (r:=bB 2 xn xm tx) rfl rfl rfl fun b3 _=>?_
  repeat (first | refine JL.q (by first|(apply OQ.load;exact aF;rfl;exact .here;exact (Row.cell (v:=I 2) rfl))|(apply OQ.aU (a:=2) (b:=1);rfl;rfl;exact hg1)|(apply OQ.assign;rfl)|(apply OQ.b8;rfl;rfl;rfl;exact (by decide);rfl)) rfl ?_ | refine JC.seq ?_ | refine JC.region ?_ | refine JC.block ?_ | refine JL.nil ?_ | refine JE.next ?_)
  refine JC.cond_false rfl rfl ?_
  repeat (first | refine JL.q (by first|(apply OQ.aU (a:=2) (b:=2);rfl;rfl;exact hg2)|(apply OQ.assign;rfl)) rfl ?_ | refine JC.seq ?_ | refine JC.region ?_ | refine JL.nil ?_ | refine JE.next ?_)
  refine JC.cond_true rfl rfl ?_
  repeat (first | refine JL.q (by (apply OQ.move;rfl)) rfl ?_ | refine JC.seq ?_ | refine JC.region ?_)
  refine JL.kZ (vs:=[h.v]) (S':=[]) [] oQ rfl rfl (fun w' hw'=>qI h w' (hs.holds hw' rfl) hl hl2 (hm.ext hw'.aC)) (.nil _) (by simp) ?_
  intro x hx hz w1 hw1 okx
  repeat (first | refine JL.q (by (apply OQ.assign;rfl)) rfl ?_ | refine JL.nil ?_ | refine JE.next ?_)
  refine JC.ret ?_
  repeat (first | refine JE.av ?_ | refine JE.aI ?_)
  exact JE.aJ rfl (RV.tmp rfl) fun w' hw=>⟨x,rfl,hw1.aC.trans hw.aC,hx,okx.holds hw rfl,hz⟩
end Rw
end
section
open Sl mO
namespace Rw
theorem oS {a b : Bt} : UInt8.ofBitVec a=UInt8.ofBitVec b↔a=b:=by simp
theorem all_nil (d u : List Bt) (hd : d≠[]) : fu d u []=[]:=by
  have:=si hd 0 [] (Nat.le_refl _)
  have h0 : gu d []=0:=by simpa using this
  unfold fu
  rw [h0]
  rfl
theorem p6 (d u l : List Bt) (hd : d≠[]) (h : (dP d).isPrefixOf (dP l)=true) (hl : l≠[]) : fu d u l=u++fu d u (l.drop d.length):=by
  have h0 : jo d l=(0 : Nat):=by
    cases l with
    | nil=>exact absurd rfl hl
    | cons c r=>
      show Go.Lib.index (UInt8.ofBitVec c::dP r) (dP d)=_
      unfold Go.Lib.index
      exact if_pos h
  have h1:=lR hd h0
  obtain ⟨i,h2,_,h3⟩:=ff hd h1
  have hi : i=0:=by rw [h0] at h2;omega
  subst hi
  rw [Nat.zero_add] at h3
  unfold fu
  rw [h3,Nat.add_comm 1,fW,h0]
  simp
theorem j0 (d u : List Bt) (c : Bt) (r : List Bt) (hd : d≠[]) (h : (dP d).isPrefixOf (dP (c::r))=false) : fu d u (c::r)=c::fu d u r:=by
  have hx : jo d (c::r)=if jo d r == -1 then -1 else jo d r+1:=by
    show Go.Lib.index (UInt8.ofBitVec c::dP r) (dP d)=_
    have h' : (dP d).isPrefixOf (UInt8.ofBitVec c::dP r)=false:=h
    conv=>lhs;unfold Go.Lib.index
    rw [h']
    rfl
  rcases Nat.eq_zero_or_pos (gu d r) with h0 | h0
  · have hr : jo d r=-1:=by
      have hge : -1≤jo d r:=Go.Lib.index_ge (dP r) (dP d)
      by_cases hh : jo d r=-1
      · exact hh
      · have:=lR hd (l:=r) (i:=(jo d r).toNat) (by omega)
        omega
    rw [hr] at hx
    have hc:=uA (d:=d) (l:=c::r) (by rw [hx];rfl)
    unfold fu
    rw [hc,h0]
    rfl
  · obtain ⟨i,h1,h2,h3⟩:=ff hd h0
    have hx1 : jo d (c::r)=((i+1 : Nat) : Int):=by
      rw [hx,h1,if_neg (by rw [beq_iff_eq];omega)]
      omega
    have hp:=lR hd hx1
    obtain ⟨k,k1,k2,k3⟩:=ff hd hp
    have hk : k=i+1:=by rw [hx1] at k1;omega
    subst hk
    have hdr : (c::r).drop (i+1+d.length)=r.drop (i+d.length):=by
      rw [show i+1+d.length=(i+d.length)+1 by omega]
      rfl
    rw [hdr] at k3
    unfold fu
    rw [k3,h3,Nat.add_comm 1,fW,fW,hx1,h1,Int.toNat_natCast,Int.toNat_natCast,hdr]
    rfl
def cX : List Bt→List Bt
  | []=>[]
  | [c]=>[c]
  | c::e::r=>if c=13∧e=10 then 10::cX r else c::cX (e::r)
def dr : List Bt→List Bt
  | []=>[]
  | c::r=>if c=10 then 13::10::dr r else c::dr r
theorem p7 : ∀ l,fu [10] [13,10] l=dr l
  | []=>all_nil _ _ (by simp)
  | c::r=>by
    have ih:=p7 r
    by_cases hc : c=10
    · rw [p6 _ _ (c::r) (by simp) (by subst hc;rfl) (by simp),dr,if_pos hc]
      show [13,10]++fu [10] [13,10] r=_
      rw [ih]
      rfl
    · rw [j0 _ _ _ _ (by simp) (by
        show ((UInt8.ofBitVec 10 == UInt8.ofBitVec c) && true)=false
        rw [Bool.and_true,beq_eq_false_iff_ne]
        intro e
        exact hc (oS.1 e).symm),dr,if_neg hc,ih]
theorem uS : ∀ (k : Nat) (l : List Bt),l.length≤k→gV l=cX l:=by
  intro k
  induction k with
  | zero=>
    intro l hl
    obtain rfl:=List.length_eq_zero_iff.1 (Nat.le_zero.1 hl)
    exact all_nil _ _ (by simp)
  | succ k ih=>
    intro l hl
    match l,hl with
    | [],_=>exact all_nil _ _ (by simp)
    | [c],_=>
      show fu _ _ _=_
      rw [j0 _ _ c [] (by simp) (by show ((UInt8.ofBitVec 13 == UInt8.ofBitVec c) && false)=false;rw [Bool.and_false]),all_nil _ _ (by simp)]
      rfl
    | c::e::r,hl=>
      show fu _ _ _=_
      rw [cX]
      by_cases hc : c=13∧e=10
      · rw [if_pos hc,p6 _ _ (c::e::r) (by simp) (by obtain ⟨rfl,rfl⟩:=hc;rfl) (by simp)]
        show [10]++gV r=_
        rw [ih r (by simp at hl;omega)]
        rfl
      · rw [if_neg hc,j0 _ _ c (e::r) (by simp) (by
          show ((UInt8.ofBitVec 13 == UInt8.ofBitVec c) && ((UInt8.ofBitVec 10 == UInt8.ofBitVec e) && true))=false
          rw [Bool.eq_false_iff]
          intro h
          rw [Bool.and_eq_true,Bool.and_true,beq_iff_eq,beq_iff_eq] at h
          exact hc ⟨(oS.1 h.1).symm,(oS.1 h.2).symm⟩)]
        rw [show fu [13,10] [10] (e::r)=cX (e::r) from ih (e::r) (by simp at hl ⊢;omega)]
theorem gW (l : List Bt) : gV l=cX l:=uS l.length l (Nat.le_refl _)
theorem lf (l : List Bt) : iD l=dr (cX l):=by unfold iD;rw [gW,p7]
theorem qJ (m : List Bt) {e : Bt} {t : List Bt} (h : dr m=e::t) : e≠10:=by
  cases m with
  | nil=>cases h
  | cons c r=>
    rw [dr] at h
    split at h
    · cases h;decide
    · rename_i hc
      cases h
      exact hc
theorem iE : ∀ m,cX (dr m)=m
  | []=>rfl
  | c::r=>by
    have ih:=iE r
    rw [dr]
    by_cases hc : c=10
    · rw [if_pos hc,cX,if_pos ⟨rfl,rfl⟩,ih,hc]
    · rw [if_neg hc]
      cases hf : dr r with
      | nil=>
        rw [hf] at ih
        rw [← ih]
        rfl
      | cons e t=>
        rw [cX,if_neg (fun h=>qJ r hf h.2),← hf,ih]
theorem nq : ∀ (k : Nat) (l : List Bt),l.length≤k→(cX l).length≤l.length:=by
  intro k
  induction k with
  | zero=>
    intro l hl
    obtain rfl:=List.length_eq_zero_iff.1 (Nat.le_zero.1 hl)
    exact Nat.le_refl _
  | succ k ih=>
    intro l hl
    match l,hl with
    | [],_=>exact Nat.le_refl _
    | [c],_=>exact Nat.le_refl _
    | c::e::r,hl=>
      rw [cX]
      have hl : r.length+1+1≤k+1:=hl
      split
      · have:=ih r (by omega)
        simp only [List.length_cons]
        omega
      · have:=ih (e::r) (by simp only [List.length_cons];omega)
        simp only [List.length_cons] at this ⊢
        omega
theorem nr : ∀ m : List Bt,(dr m).length≤2 * m.length
  | []=>Nat.le_refl _
  | c::r=>by
    have:=nr r
    rw [dr]
    split <;> simp only [List.length_cons] <;> omega
end Rw
end
section
set_option maxRecDepth 10000
open Sl bV eu
namespace Rw
section
variable {P : Program} {D n : Nat} {w0 : World} {S : List Nat} {ops : Array Oper} {Q : Exit→Act→World→Prop} {l : List Oper} {E : Env} {M : List az}
def rG (D : Nat) (a : Act) : Act:={ a with defers:=a.defers++[Sl.mk D] }
def vS (D : Nat) (Q : Exit→Act→World→Prop) : Exit→Act→World→Prop:=fun e a w=>Q e (rG D a) w
theorem fK (a : Act) (d : Option Nat) (v : Value) : (rG D a).put d v=rG D (a.put d v):=by cases d <;> rfl
theorem nu (a : Act) : (rG D a).eval=a.eval:=funext fun x=>by cases x <;> rfl
theorem nv (h : LetsOut (vS D Q)) : LetsOut Q:=by
  obtain ⟨a,w,h⟩:=h
  exact ⟨rG D a,w,h⟩
theorem vT {o : Oper} {a : Act} {w : World} {K K' : Act→World→Prop} (hK : ∀ a w,K a w→K' (rG D a) w) (h : o.wp P a w K (vS D Q)) : o.wp P (rG D a) w K' Q:=by
  unfold Oper.wp at h ⊢
  rw [nu]
  cases hr : (execOp a.eval o).run P w with
  | ok nx w'=>
    rw [hr] at h
    cases nx with
    | value v=>show K' _ _;rw [fK];exact hK _ _ h
    | skip=>show K' _ _;rw [fK];exact hK _ _ h
    | defer d=>
      have h : K (({ a with defers:=d::a.defers } : Act).put o.dst undef) w':=h
      have:=hK _ _ h
      rw [← fK] at this
      exact this
    | enter f args=>
      have h' : Calls P f args w' fun
        | .returned v,w''=>K (a.put o.dst v) w''
        | .panicked chain,w''=>(vS D Q) (.panic chain) a w''
        | .outgrown,_=>LetsOut (vS D Q):=h
      refine h'.mono fun e w2 h2=>?_
      cases e with
      | returned v=>show K' _ _;rw [fK];exact hK _ _ h2
      | panicked ch=>exact h2
      | outgrown=>exact nv h2
    | row r args=>
      have h' : Rows P r args w' fun v w''=>K (a.put o.dst v) w'':=h
      exact h'.mono fun v w2 h2=>by rw [fK];exact hK _ _ h2
    | round=>exact h.elim
    | _=>exact h.elim
  | halt x w'=>
    rw [hr] at h
    cases x with
    | panic v=>exact h
    | _=>exact h.elim
theorem sX {i : Nat} {a : Act} {w : World} {K K' : Act→World→Prop} (hK : ∀ a w,K a w→K' (rG D a) w) (h : wpOp P ops (vS D Q) i K a w) : wpOp P ops Q i K' (rG D a) w:=by
  unfold wpOp at h ⊢
  cases ho : ops[i]? with
  | none=>rw [ho] at h;exact hK _ _ h
  | some o=>
    rw [ho] at h
    dsimp only at h ⊢
    have hy : yielded ops (rG D a).tmps=yielded ops a.tmps:=rfl
    rw [hy]
    by_cases hw : Region.wanted o (yielded ops a.tmps)=true
    · rw [if_pos hw] at h ⊢
      rcases h with h | h
      · exact .inl (vT hK h)
      · refine .inr ⟨?_,nv h.2⟩
        have h1:=h.1
        unfold Oper.asks at h1 ⊢
        rw [nu]
        exact h1
    · rw [if_neg hw] at h ⊢
      rw [fK]
      exact hK _ _ h
theorem lg {md : Region.Mode} : ∀ (fuel : Nat) (listed : Array Bool) (a : Act) (w : World),wpAny P md ops (vS D Q) fuel listed a w→wpAny P md ops Q fuel listed (rG D a) w
  | 0,_,_,_,h=>h
  | fuel+1,listed,a,w,h=>⟨h.1,fun i hi=>sX (fun a w=>lg fuel _ a w) (h.2 i hi)⟩
theorem KC.fS {Y : Type} [Inhabited Y] (g : bg Y) (outs : List (Nat × Nat)) (ends : List Nat) {id : Nat} (hm : P.follows .mixedOrders=true) (hE : ax E g.E0) (hE1 : ∀ i,i<l.length→ax E (g.E1 i)) (hM : aA (((List.range g.N).filter fun j=>decide (l.length≤j)).flatMap fun j=>g.M j default) M)
    (hok : g.cR l 0 l=true) (ho : (outs.all fun p=>decide (p.1<l.length) && ck l p.1 == some p.2)=true)
    (he : (fQ ends && ends.all fun j=>decide (j<g.N) && (List.range l.length).all fun k=>!(g.kK k).contains j)=true)
    (hj : g.je P n w0 S l 0 l)
    (k : ∀ x : Nat→Y,(∀ j k,j<l.length→g.src j=some k→g.R j (x j) (x k))→KE D n w0 S Q .normal (outs.map (fun p=>(p.2,g.v p.1 (x p.1)))++g.E0) (ends.flatMap fun j=>g.M j (x j))) : KC P D n w0 S Q (.region id l.toArray true) E M:=
  ⟨fun a w ha hw=>by
    have e : a=rG D { a with defers:=[] }:=by
      obtain ⟨t,d⟩:=a
      have:=ha.defers
      dsimp only at this
      subst this
      rfl
    rw [e]
    exact wp_region_any hm (lg _ _ _ _ (iz (Q:=vS D Q) g outs ends hE hE1 hM hok ho he hj (fun x hx=>⟨fun a w h1 h2=>(k x hx).go _ w ⟨by show a.defers++[Sl.mk D]=_;rw [h1.defers];rfl,⟨h1.size,rfl,h1.all⟩⟩ h2⟩) ha.base hw))⟩
end
def ny (s : aq) (S : List Nat) : Prop:=s.l≠[]→∀ a,s.ad=some a→a.block ∉ S
theorem dh {w0 w : World} {S : List Nat} {M : List az} {s : aq} (h : s.ok w0) (hw : aa w0 S M w) (ha : ny s S) : s.ok w:=
  ⟨h.len,hw.reads h.reads fun h0 a e=>ha (fun h1=>h0 (by rw [h1];rfl)) a e⟩
def gm (l : List Bt) : Nat→List Bt
  | 0=>[]
  | k+1=>gm l k++bR l k
def bG (l : List Bt) : List Bt:=gm l (aM l).length
def fU (h : aq) : Nat→aq
  | 0=>eG
  | k+1=>ay h k
def gX (h : aq) : aq:=fU h (aM h.l).length
theorem p8 (h : aq) (k : Nat) : (bR h.l k).length≤aH (h.l.drop (au h.l k)):=by
  have:=fI h k
  rw [jX] at this
  omega
theorem nA (h : aq) : ∀ k,(gm h.l k).length≤au h.l k
  | 0=>Nat.le_refl _
  | k+1=>by
    have h1:=nA h k
    have h2:=p8 h k
    rw [gm,List.length_append]
    show _≤au h.l k+aH _
    omega
theorem iT : aR Tryd.prog 37:=⟨_,Tryd.func37,rfl,by kernel_rfl⟩
structure wX where
  q : Acc
  k : Nat
abbrev wY (b2 b3 : Nat) (h : aq) (s : wX) : List az:=⟨b2,Row 22 [ak s.q (gm h.l s.k).length],true⟩::⟨b3,Row 22 [(fU h s.k).v],true⟩::an 5 s.q ((gm h.l s.k).map U8)
theorem lp {b2 b3 : Nat} {h : aq} {s : wX} : ∀ e ∈ wY b2 b3 h s,∀ o,e.A o→o.isCells=true:=by
  intro e he o hA
  simp only [List.mem_cons] at he
  rcases he with rfl | rfl | he
  · exact aX o hA
  · exact aX o hA
  · exact cJ e he o hA
theorem sY {b2 b3 : Nat} {h : aq} {s : wX} : ∀ e ∈ wY b2 b3 h s,e.wr=true:=by
  intro e he
  simp only [List.mem_cons] at he
  rcases he with rfl | rfl | he
  · rfl
  · rfl
  · exact aT _ _ _ e he
theorem j3 : ∀ e ∈ ([] : List az),∀ o,e.A o→o.isCells=true:=by intro e he;cases he
set_option maxHeartbeats 8000000 in
theorem j4 (h : aq) (w : World) (hs : h.ok w) (hl : h.l.length≤1000000000) :
    Calls Tryd.prog 37 [h.v].toArray w fun e w'=>∃ q : {q : Acc // q=none→bG h.l=[]},e=.returned (.tuple #[ak q.1 (bG h.l).length,(gX h).v])∧aa w [] (an 5 q.1 ((bG h.l).map U8)) w':=by
  refine jP (n:=16) Tryd.func37 rfl rfl rfl (aa.start w []) ?_
  refine JC.seq (JC.region ?_)
  refine JL.alloc (r:=[.slice none 0 0]) (by kernel_rfl) rfl fun b2 _=>?_
  refine JL.alloc (r:=[.slice none 0 0]) (by kernel_rfl) rfl fun b3 _=>?_
  repeat (first | refine JL.q (by (apply OQ.move;rfl)) rfl ?_ | refine JC.seq ?_ | refine JC.region ?_ | refine JL.nil ?_ | refine JE.next ?_)
  refine JL.bC (ι:=Nat) (vs:=[h.v]) (fun b=>jT b) (fun b=>[⟨b,Row 22 [h.v],true⟩]) eK rfl rfl (fun b e he=>by rw [List.mem_singleton.1 he]) (fun w' _=>fE h w') fun be=>?_
  repeat (first | refine JC.block ?_ | refine JL.nil ?_ | refine JE.next ?_)
  refine JC.jR (ι:=wX) (κ:=Unit) (τ:=wX) (fun k=>#[(aD h k).v,(ay h k).v]) [⟨be,Row 22 [h.v],true⟩] (dA h) (aM h.l).length (fun k=>(9,(ay h k).v)::(8,(aD h k).v)::[(0,h.v),(2,Pt b2 0),(3,Pt b3 0)])
    (wY b2 b3 h) (fun k s=>s.k=k∧(s.q=none→gm h.l k=[])) (wY b2 b3 h) (fun k _=>[(4,(aD h k).v),(5,(ay h k).v),(0,h.v),(2,Pt b2 0),(3,Pt b3 0)]) (fun k s=>s.k=k∧(s.q=none→gm h.l k=[]))
    (fun _=>[]) (fun _=>False)
    ?hput (fun _=>rfl) rfl (enters_of Tryd.func29 (by kernel_rfl) rfl) (dV h hs (by omega) .here) (fun e he=>by rw [List.mem_singleton.1 he]) (fun _=>sY) (fun _=>sY) (fun _ e he=>by cases he) (fun _=>lp) (fun _=>lp) (fun _=>j3)
    (fun b hb=>⟨cu hs b hb,by simp⟩) ⟨none,0⟩ ⟨rfl,fun _=>rfl⟩ ?hMz ?hasg ?hbody ?hdone (fun _ _ hf=>hf.elim)
  case hput=>
    intro k a ha
    rw [jq a 8 9 _ _ ha.defers]
    exact (((ha.put 8 _ rfl).put 9 _ rfl)).sub (by repeat (first | exact ax.nil | refine ax.cons _ _ _ rfl ?_))
  case hMz=>
    intro w' hw'
    refine hw'.perm ?_
    exact .cons _ (List.reverse_perm [(⟨b2,Row 22 [.slice none 0 0],true⟩ : az),⟨b3,Row 22 [.slice none 0 0],true⟩])
  case hasg=>
    intro r k s w1 hi hk hH
    exact JR.seq (JR.region rfl (ag dz) (JL.q (OQ.assign rfl) rfl (JL.nil (JE.bW (JR.region rfl dz (JL.q (OQ.assign rfl) rfl (JL.nil (JE.qx s hi (by repeat (first | exact ax.nil | refine ax.cons _ _ _ rfl ?_)) (aA.refl _)))))))))
  case hdone=>
    rintro D ⟨q,k⟩ ⟨hk,hq⟩
    dsimp only at hk hq
    subst hk
    have hoc : (fU h (aM h.l).length).v.oneCell'=true:=rfl
    obtain ⟨A2,hA2⟩ : ∃ A2,ak q (gm h.l (aM h.l).length).length=A2:=⟨_,rfl⟩
    obtain ⟨A3,hA3⟩ : ∃ A3,(fU h (aM h.l).length).v=A3:=⟨_,rfl⟩
    have ho2 : A2.oneCell'=true:=by rw [← hA2];cases q <;> rfl
    have hc2 : A2.cells=#[A2]:=by rw [← hA2];cases q <;> rfl
    have ho3 : A3.oneCell'=true:=by rw [← hA3];rfl
    have hc3 : A3.cells=#[A3]:=by rw [← hA3];rfl
    repeat (first | refine KC.seq ?_ | refine KE.next ?_ | refine KE.aj ?_)
    show KC _ _ _ _ _ _ _ _ (⟨D,fN,true⟩::⟨b2,Row 22 [ak q (gm h.l (aM h.l).length).length],true⟩::⟨b3,Row 22 [(fU h (aM h.l).length).v],true⟩::an 5 q ((gm h.l (aM h.l).length).map U8))
    rw [hA2,hA3]
    let vs : Nat→Nat→Value:=fun j y=>match j with
      | 0=>A2
      | 1=>A3
      | _=>N 0
    let Ms : Nat→Nat→List az:=fun j y=>match j with
      | 2=>[⟨b2,Row 22 [A2],true⟩]
      | 3=>[⟨b3,Row 22 [A3],true⟩]
      | 4=>[⟨D,fN,true⟩]
      | 5=>[⟨b2,Row 22 [A2],true⟩]
      | 6=>[⟨b3,Row 22 [A3],true⟩]
      | 7=>an 5 q ((gm h.l (aM h.l).length).map U8)
      | _=>[]
    refine KC.fS (g:=⟨[(2,Pt b2 0),(3,Pt b3 0)],8,vs,Ms,(fun j=>match j with | 2=>[(0,14)] | 3=>[(1,15)] | _=>[]),(fun j=>match j with | 0=>[5] | 1=>[6] | 2=>[5] | 3=>[6] | _=>[]),(fun j=>match j with | 2=>[5] | 3=>[6] | _=>[]),(fun j=>match j with | _=>none),fun _=>[],fun _ _ _=>True⟩) [] [4,2,3,7] di (by repeat (first | exact ax.nil | refine ax.cons _ _ _ rfl ?_)) (fun _ _=>.nil) ?_ (by kernel_rfl) (by kernel_rfl) (by kernel_rfl) ?_ ?_
    · show aA ([⟨D,fN,true⟩]++([⟨b2,Row 22 [A2],true⟩]++([⟨b3,Row 22 [A3],true⟩]++(an 5 q ((gm h.l (aM h.l).length).map U8)++[])))) _;rw [List.append_nil];exact aA.refl _
    · refine ⟨?_,?_,?_,?_,trivial⟩
      · (intro xx EF MF Q kk;(try refine JL.aN rfl rfl ?_);exact JL.q (OQ.load bX rfl .here (Row.cell (v:=A2) rfl)) rfl (JL.nil (kk default nofun)))
      · (intro xx EF MF Q kk;(try refine JL.aN rfl rfl ?_);exact JL.q (OQ.load bX rfl .here (Row.cell (v:=A3) rfl)) rfl (JL.nil (kk default nofun)))
      · (intro xx EF MF Q kk;exact JL.aK (v:=A2) (r':=[A2]) bY rfl rfl ho2 hc2 .here Nat.zero_lt_one rfl (JL.nil (kk default nofun)))
      · (intro xx EF MF Q kk;exact JL.aK (v:=A3) (r':=[A3]) bY rfl rfl ho3 hc3 .here Nat.zero_lt_one rfl (JL.nil (kk default nofun)))
    · intro xx hx
      refine KE.next ?_
      show KC _ _ _ _ _ _ _ _ (⟨D,fN,true⟩::⟨b2,Row 22 [A2],true⟩::⟨b3,Row 22 [A3],true⟩::(an 5 q ((gm h.l (aM h.l).length).map U8)++[]))
      rw [List.append_nil]
      refine KC.ret ?_
      rw [← hA2,← hA3]
      exact KE.sw rfl (RV.cell rfl bX (b:=b2) .here (Row.cell rfl)) (RV.cell rfl bX (b:=b3) (.there .here) (Row.cell rfl)) fun w' hw=>⟨⟨q,hq⟩,rfl,hw.weak (.drop _ _ _ (.drop _ _ _ (aA.refl _)))⟩
  case hbody=>
    rintro r k ⟨q,k'⟩ w1 ⟨hk',hq⟩ hk hH
    dsimp only at hk' hq
    subst hk'
    have tok:=eM (hs.holds hH rfl) k'
    have htl:=jX h k'
    have hjl:=nA h k'
    have htx:=p8 h k'
    have hat:=bF h.l (k'+1)
    have hats : au h.l (k'+1)=au h.l k'+aH (h.l.drop (au h.l k')):=rfl
    have hml : ((gm h.l k').map U8).length=(gm h.l k').length:=List.length_map _
    have haw : ny (aD h k') (gJ (wY b2 b3 h ⟨q,k'⟩)):=fun h0 a ha hm=>by
      have h1:=(eM hs k').lt h0 a ha
      have h2:=hH.fh _ hm
      omega
    repeat (first | refine JL.q (by first|(apply OQ.load;exact bX;rfl;exact .here;exact (Row.cell (v:=ak q (gm h.l k').length) rfl))|(apply OQ.move;rfl)) rfl ?_ | refine JR.block ?_ | refine JR.region rfl (by first | with_reducible exact ah | with_reducible exact ag ah | with_reducible exact ai ah | with_reducible exact ag (ai ah) | with_reducible exact af | with_reducible exact ag af | with_reducible exact ai af | with_reducible exact ag (ai af) | with_reducible exact ag (ag (ai af))) ?_)
    refine JL.perm (M':=an 5 q ((gm h.l k').map U8)++[⟨b2,Row 22 [ak q (gm h.l k').length],true⟩,⟨b3,Row 22 [(fU h k').v],true⟩]) ?_ (List.perm_append_comm (l₁:=[_,_]))
    refine JL.bS (xs:=(gm h.l k').map U8) (cs:=(aD h k').l.map U8) (m:=(aD h k').l.length) (ad:=(aD h k').ad) (sc:=(aD h k').cap) q Tryd.underlying22 eD (fun e=>by rw [hq e];rfl) (by rw [hml];rfl) rfl (List.length_map _) (fun w' hw'=>(dh tok hw' haw).reads) (fun v hv=>by obtain ⟨c,_,rfl⟩:=List.mem_map.1 hv;rfl) rfl (by rw [hml,htl];omega) (by rw [hml,htl];omega) rfl fun q' hq'=>?_
    have hj1 : (gm h.l k').map U8++(aD h k').l.map U8=(gm h.l (k'+1)).map U8:=by rw [htl,gm,List.map_append]
    rw [hj1] at hq' ⊢
    rw [List.length_map]
    refine JL.perm (M':=⟨b2,Row 22 [ak q (gm h.l k').length],true⟩::⟨b3,Row 22 [(fU h k').v],true⟩::an 5 q' ((gm h.l (k'+1)).map U8)) ?_ (List.perm_append_comm (l₂:=[_,_]))
    repeat (refine JL.q (by (apply OQ.move;rfl)) rfl ?_)
    refine JL.aK (v:=ak q' (gm h.l (k'+1)).length) (r':=[ak q' (gm h.l (k'+1)).length]) bY rfl rfl (by cases q' <;> rfl) (by cases q' <;> rfl) .here Nat.zero_lt_one rfl ?_
    skip
    refine JL.aK (v:=(ay h k').v) (r':=[(ay h k').v]) bY rfl rfl rfl rfl (.there .here) Nat.zero_lt_one rfl ?_
    repeat (first | refine JL.nil ?_ | with_reducible refine JE.aj ?_)
    exact JE.fZ ⟨q',k'+1⟩ ⟨rfl,fun e=>by simpa using hq' e⟩ (aA.refl _)
end Rw
end
section
set_option maxRecDepth 10000
open Sl bV eu
namespace Rw
def wj (t : List Bt) (from_ i : Nat) : Bool:=decide (from_≤i) && cE (t.getD i 0) && !cE (t.getD (i - 1) 0)
def ei (bits : Int) (t : List Bt) (from_ : Nat) : Nat→Nat × List Bt
  | 0=>(0,[])
  | i+1=>if wj t from_ i then ((ei bits t from_ i).1+1,(ei bits t from_ i).2++((if jV bits (ei bits t from_ i).1 then [13,10] else [])++[t.getD i 0])) else ((ei bits t from_ i).1,(ei bits t from_ i).2++[t.getD i 0])
def iU (t : List Bt) : Nat:=if fi 58 t<t.length then fi 58 t+2 else t.length
def iM (bits : Int) (t e : List Bt) : List Bt:=(ei bits t (iU t) t.length).2++e
theorem p9 (bits : Int) (t : List Bt) (f : Nat) : ∀ i,(ei bits t f i).1≤i
  | 0=>Nat.le_refl _
  | i+1=>by
    have:=p9 bits t f i
    rw [ei]
    split <;> dsimp only <;> omega
theorem l8 (bits : Int) (t : List Bt) (f : Nat) : ∀ i,(ei bits t f i).2.length≤3 * i
  | 0=>Nat.le_refl _
  | i+1=>by
    have:=l8 bits t f i
    rw [ei]
    split
    · dsimp only
      rw [List.length_append,List.length_append,List.length_singleton]
      split
      · simp only [List.length_cons,List.length_nil];omega
      · simp only [List.length_nil];omega
    · dsimp only
      rw [List.length_append,List.length_singleton]
      omega
theorem sZ {h : aq} {w : World} (hs : h.ok w) : ∀ k,(fU h k).ok w
  | 0=>jn w
  | k+1=>(gP (fF hs k)).snd _ (lW h k)
theorem s4 (h : aq) : ∀ k,(fU h k).l.length≤h.l.length
  | 0=>Nat.zero_le _
  | k+1=>by
    have h1:=fI h k
    have h2:=gM (h.l.drop (au h.l k))
    rw [List.length_drop] at h2
    show (ay h k).l.length≤_
    omega
theorem qK (A M : List az) : aA A (A++M):=by
  induction A with
  | nil=>exact .nil _
  | cons e A ih=>exact .keep _ _ _ _ _ _ (fun _ h=>h) ih
theorem nB : aR Tryd.prog 21:=⟨_,Tryd.func21,rfl,by kernel_rfl⟩
theorem s5 : aR Tryd.prog 38:=⟨_,Tryd.func38,rfl,by kernel_rfl⟩
theorem nC (h : aq) (w : World) (hs : h.ok w) (hl : h.l.length≤1000000000) {t : List Bt} (ht : bG h.l=t) {e : aq} (he : gX h=e) :
    Calls Tryd.prog 37 [h.v].toArray w fun r w'=>∃ q : {q : Acc // q=none→t=[]},r=.returned (.tuple #[ak q.1 t.length,e.v])∧aa w [] (an 5 q.1 (t.map U8)) w':=by
  have:=j4 h w hs hl
  rw [ht,he] at this
  exact this
set_option maxHeartbeats 16000000 in
theorem oT (h : aq) (bits : Int) (w : World) (hs : h.ok w) (hl : h.l.length≤100000000) :
    Calls Tryd.prog 21 [h.v,I bits].toArray w fun r w'=>∃ q : {q : Acc // q=none→iM bits (bG h.l) (gX h).l=[]},r=.returned (ak q.1 (iM bits (bG h.l) (gX h).l).length)∧aa w [] (an 5 q.1 ((iM bits (bG h.l) (gX h).l).map U8)) w':=by
  refine enter (n:=65) Tryd.func21 rfl rfl rfl (aa.start w []) ?_
  obtain ⟨t,ht⟩ : ∃ t,bG h.l=t:=⟨_,rfl⟩
  obtain ⟨e,he⟩ : ∃ e,gX h=e:=⟨_,rfl⟩
  have htl : t.length≤100000000:=by
    have h1:=nA h (aM h.l).length
    have h2:=bF h.l (aM h.l).length
    have : (bG h.l).length≤_:=h1
    rw [ht] at this
    omega
  have hel : e.l.length≤100000000:=by
    have:=s4 h (aM h.l).length
    rw [show fU h (aM h.l).length=e from he] at this
    omega
  have heo : ∀ {M : List az} {w' : World},aa w [] M w'→e.ok w':=fun hw'=>he ▸ sZ (hs.holds hw' rfl) _
  rw [ht,he]
  repeat (first | refine JL.q (by first|(apply OQ.move;rfl)|(apply OQ.assign;rfl)) rfl ?_ | refine JC.seq ?_ | refine JC.region ?_ | refine JL.nil ?_ | refine JE.next ?_)
  refine JL.bC (ι:={q : Acc // q=none→t=[]}) (vs:=[h.v]) (fun q=>.tuple #[ak q.1 t.length,e.v]) (fun q=>an 5 q.1 (t.map U8)) iT rfl rfl (fun q x hx=>aT _ _ _ x hx) (fun w' hw'=>nC h w' (hs.holds hw' rfl) (by omega) ht he) ?_
  rintro ⟨q1,hq1⟩
  dsimp only
  have hav : ak q1 t.length=(eH q1 t).v:=(e9 q1 t).symm
  have hal : (eH q1 t).l=t:=eI hq1
  have hix : ∀ w',aa w [] (an 5 q1 (t.map U8)) w'→Calls Tryd.prog 38 [ak q1 t.length,U8 58].toArray w' fun r w2=>r=.returned (I (oC 58 t))∧Ext w' w2:=fun w' hw'=>by
    have:=jK (eH q1 t) 58 w' (fc (M:=[]) (by rw [List.append_nil];exact hw'))
    rw [hal,← hav] at this
    exact this
  obtain ⟨f,hf⟩ : ∃ f,iU t=f:=⟨_,rfl⟩
  have hfl : f≤t.length+2:=by
    rw [← hf]
    unfold iU
    split <;> omega
  have hf1 : f≤t.length→∀ i,f≤i→i<t.length→0<i:=fun _ i h1 h2=>by
    rw [← hf] at h1
    unfold iU at h1
    split at h1 <;> omega
  have hfi : ∀ i,f≤i→i<t.length→0<i:=fun i h1 h2=>hf1 (by omega) i h1 h2
  unfold iM
  rw [hf]
  rw [List.append_nil]
  obtain ⟨z,hz⟩ : ∃ z,oC 58 t=z:=⟨_,rfl⟩
  obtain ⟨g,hg⟩ : ∃ g,decide ((0 : Int)≤z)=g:=⟨_,rfl⟩
  rw [hz] at hix
  repeat (first | refine JL.q (by first|(apply OQ.extract;rfl;rfl)|(apply OQ.ng (q:=q1) (k:=t.length);exact Tryd.underlying22;exact (fun e=>by rw [hq1 e];rfl);rfl)|(apply OQ.wH (l:=[58]) (i:=0);exact Tryd.underlying9;rfl;rfl;exact Nat.zero_lt_one)|(apply OQ.aB (vs:=[ak q1 t.length,U8 58]);exact s5;rfl;exact hix)|(apply OQ.gE (a:=z) (b:=0);rfl;rfl;exact hg)|(apply OQ.move;rfl)|(apply OQ.assign;rfl)) rfl ?_ | refine JC.seq ?_ | refine JC.region ?_ | refine JL.nil ?_ | refine JE.next ?_)
  refine JC.join (ι:=Unit) (fun _=>[(0,h.v),(1,I bits),(5,ak q1 t.length),(6,e.v),(7,N f)]) (fun _=>an 5 q1 (t.map U8)) (fun _=>True) ?_ ?_
  · by_cases hc : fi 58 t<t.length
    · have hixv : oC 58 t=(fi 58 t : Nat):=if_pos hc
      have hff : fi 58 t+2=f:=by rw [← hf];exact (if_pos hc).symm
      have hzv : z=((fi 58 t : Nat) : Int):=hz.symm.trans hixv
      subst hzv
      have hgt : g=true:=by rw [← hg];exact decide_eq_true (by omega)
      subst hgt
      refine JC.cond_true rfl rfl ?_
      repeat (first | refine JL.q (by first|(apply OQ.to;exact (OQ.bH (a:=fi 58 t) (b:=2) rfl rfl (by omega));exact (congrArg N hff))|(apply OQ.move;rfl)|(apply OQ.assign;rfl)) rfl ?_ | refine JC.region ?_ | refine JL.nil ?_)
      exact JE.mid () trivial (by repeat (first | exact ax.nil | refine ax.cons _ _ _ rfl ?_)) (aA.refl _)
    · have hixv : oC 58 t=-1:=if_neg hc
      have hff : t.length=f:=by rw [← hf];exact (if_neg hc).symm
      have hzv : z=-1:=hz.symm.trans hixv
      subst hzv
      have hgt : g=false:=by rw [← hg];rfl
      subst hgt
      refine JC.cond_false rfl rfl ?_
      rw [← hff]
      repeat (refine JC.skip ?_)
      exact JE.mid () trivial (by repeat (first | exact ax.nil | refine ax.cons _ _ _ rfl ?_)) (aA.refl _)
  rintro ⟨⟩ _
  repeat (first | refine JL.q (by first|(apply OQ.ng (q:=q1) (k:=t.length);exact Tryd.underlying22;exact (fun e=>by rw [hq1 e];rfl);rfl)|(apply OQ.move;rfl)|(apply OQ.assign;rfl)) rfl ?_ | refine JC.seq ?_ | refine JC.region ?_ | refine JC.block ?_ | refine JL.nil ?_ | refine JE.next ?_)
  refine JC.loop (fun z : Nat × Acc=>[(0,h.v),(1,I bits),(5,ak q1 t.length),(6,e.v),(7,N f),(9,ak z.2 (ei bits t f z.1).2.length),(10,N (ei bits t f z.1).1),(27,ak q1 t.length),(28,N t.length),(29,N z.1)]) (fun z=>an 5 z.2 ((ei bits t f z.1).2.map U8)++an 5 q1 (t.map U8)) (fun z=>t.length - z.1) (fun z=>z.1≤t.length∧(z.2=none→(ei bits t f z.1).2=[])) (0,none) ⟨Nat.zero_le _,fun _=>rfl⟩ (by repeat (first | exact ax.nil | refine ax.cons _ _ _ rfl ?_)) (aA.refl _) ?_
  rintro ⟨i,q⟩ ⟨hi,hq⟩
  dsimp only at hi hq ⊢
  have hp1:=p9 bits t f i
  have hm1:=l8 bits t f i
  repeat (first | refine JL.q (by (apply OQ.ij (a:=i) (b:=t.length);rfl;rfl)) rfl ?_ | refine JC.seq ?_ | refine JC.region ?_ | refine JL.nil ?_ | refine JE.next ?_)
  refine JC.cond rfl (fun hh=>?_) (fun hh=>?_)
  · have hi' : i<t.length:=of_decide_eq_true hh
    clear hh
    obtain ⟨⟨b1,c1⟩,rfl⟩ : ∃ x : Nat × Nat,q1=some x:=by
      cases q1 with
      | none=>rw [hq1 rfl] at hi';cases hi'
      | some x=>exact ⟨x,rfl⟩
    obtain ⟨p,hp⟩ : ∃ p,(ei bits t f i).1=p:=⟨_,rfl⟩
    obtain ⟨m,hm⟩ : ∃ m,(ei bits t f i).2=m:=⟨_,rfl⟩
    obtain ⟨c,hc⟩ : ∃ c,t.getD i 0=c:=⟨_,rfl⟩
    obtain ⟨d,hd⟩ : ∃ d,t.getD (i - 1) 0=d:=⟨_,rfl⟩
    have hnx : ei bits t f (i+1)=if wj t f i then (p+1,m++((if jV bits p then [13,10] else [])++[c])) else (p,m++[c]):=by rw [ei,hp,hm,hc]
    have hsp : wj t f i=(decide (f≤i) && cE c && !cE d):=by unfold wj;rw [hc,hd]
    rw [hp] at hp1
    rw [hm] at hm1 hq
    rw [hp,hm]
    have hcell : ∀ k x,k<t.length→t.getD k 0=x→∀ o,Sl.Own 5 1 (t.map U8).length c1 (t.map U8) o→cellAt o (0+k)=some (U8 x):=fun k x hk hx=>by
      rw [Nat.zero_add]
      refine Sl.Own.cell ?_
      rw [List.getElem?_map,List.getElem?_eq_getElem hk]
      rw [List.getD_eq_getElem?_getD,List.getElem?_eq_getElem hk] at hx
      exact congrArg (fun z=>some (U8 z)) hx
    have hci:=hcell i c hi' hc
    have hdi:=hcell (i - 1) d (by omega) hd
    have hil : i - 1<t.length:=by omega
    have hH1 : Has (an 5 q (m.map U8)++an 5 (some (b1,c1)) (t.map U8)) b1 (Sl.Own 5 1 (t.map U8).length c1 (t.map U8)) true:=kE .here
    have hav1 : ak (some (b1,c1)) t.length=.slice (some ⟨b1,0,none⟩) t.length c1:=rfl
    have hb1:=fun w' : World=>fG c w'
    have hb2:=fun w' : World=>fG d w'
    have hml : (m.map U8).length=m.length:=List.length_map _
    obtain ⟨gc,hgc⟩ : ∃ g,cE c=g:=⟨_,rfl⟩
    obtain ⟨gd,hgd⟩ : ∃ g,cE d=g:=⟨_,rfl⟩
    rw [hgc] at hb1 hsp
    rw [hgd] at hb2 hsp
    by_cases hfi1 : f≤i
    · have hi0:=hfi i hfi1 hi'
      have gf : decide ((f : Int)≤(i : Int))=true:=decide_eq_true (by omega)
      rw [decide_eq_true hfi1,Bool.true_and] at hsp
      cases gc with
      | false=>
        repeat (first | refine JL.q (by first|(apply OQ.bZ (i:=i) (b:=b1) (j:=0) (len:=t.length) (cap:=c1);exact Tryd.underlying22;exact cn;rfl;rfl;exact hi')|(apply OQ.load;exact og;rfl;exact hH1;exact hci)|(apply OQ.gE (a:=(i : Int)) (b:=(f : Int));rfl;rfl;exact gf)|(apply OQ.aB (vs:=[U8 c]);exact cF;rfl;exact (fun w' _=>hb1 w'))|(apply OQ.aP;rfl;rfl)|(apply OQ.bz;rfl;rfl)|(apply OQ.move;rfl)|(apply OQ.assign;rfl)) rfl ?_ | refine JC.seq ?_ | refine JC.region ?_ | refine JC.block ?_ | refine JC.skip ?_ | refine JL.nil ?_ | refine JE.next ?_ | refine JL.aN rfl rfl ?_ | refine JL.cj rfl rfl rfl rfl ?_)
        refine JC.cond_false rfl rfl ?_
        have hn2 : ei bits t f (i+1)=(p,m++[c]):=by rw [hnx,hsp];rfl
        repeat (first | refine JL.q (by (apply OQ.move;rfl)) rfl ?_ | refine JC.region ?_ | refine JC.skip ?_ | refine JE.next ?_)
        refine JL.gA (v:=U8 c) Tryd.underlying22 eD rfl rfl rfl rfl fun bl _=>?_
        refine JL.perm (M':=an 5 q (m.map U8)++(⟨bl,Row 5 [U8 c],true⟩::an 5 (some (b1,c1)) (t.map U8))) ?_ (by exact (List.perm_append_comm_assoc [_] (an 5 q (m.map U8)) _))
        refine JL.bS (xs:=m.map U8) (cs:=[U8 c]) (m:=1) (ad:=some ⟨bl,0,none⟩) (sc:=1) q Tryd.underlying22 eD (fun e=>by rw [hq e];rfl) (by rw [List.length_map];rfl) rfl rfl (fun w' hw'=>?_) (fun v hv=>by rw [List.mem_singleton.1 hv];rfl) rfl (by rw [List.length_map];omega) (by rw [List.length_map];omega) rfl fun q3 hq3=>?_
        · obtain ⟨o,ho,hA⟩:=hw'.get (b:=bl) (A:=Row 5 [U8 c]) (wr:=true) (kE .here)
          exact Reads.block ho (Row.all o hA)
        have hmc : m.map U8++[U8 c]=(m++[c]).map U8:=by rw [List.map_append];rfl
        rw [hmc,List.length_map]
        rw [hmc] at hq3
        repeat (first | refine JL.q (by first|(apply OQ.bH (a:=i) (b:=1);rfl;rfl;exact (by omega))|(apply OQ.move;rfl)|(apply OQ.assign;rfl)) rfl ?_ | refine JC.region ?_ | refine JL.nil ?_ | refine JE.next ?_ | refine JE.aj ?_)
        have hn3 : (ei bits t f (i+1)).1=p:=by rw [hn2]
        have hn4 : (ei bits t f (i+1)).2=m++[c]:=by rw [hn2]
        rw [← hn3,← hn4]
        refine JE.again (i:=(i,q)) (i+1,q3) ⟨hi',fun e=>?_⟩ (show t.length - (i+1)<t.length - i by omega) (by repeat (first | exact ax.nil | refine ax.cons _ _ _ rfl ?_)) (dG (.drop _ _ _ (aA.refl _)) _)
        exact absurd (hq3 e) (by simp)
      | true=>
        cases gd with
        | true=>
          repeat (first | refine JL.q (by first|(apply OQ.bZ (i:=i) (b:=b1) (j:=0) (len:=t.length) (cap:=c1);exact Tryd.underlying22;exact cn;rfl;rfl;exact hi')|(apply OQ.load;exact og;rfl;exact hH1;exact hci)|(apply OQ.gE (a:=(i : Int)) (b:=(f : Int));rfl;rfl;exact gf)|(apply OQ.aB (vs:=[U8 c]);exact cF;rfl;exact (fun w' _=>hb1 w'))|(apply OQ.lJ (a:=i) (b:=1);rfl;rfl;exact (by omega);exact (by omega))|(apply OQ.bZ (i:=i - 1) (b:=b1) (j:=0) (len:=t.length) (cap:=c1);exact Tryd.underlying22;exact cn;rfl;rfl;exact hil)|(apply OQ.load;exact og;rfl;exact hH1;exact hdi)|(apply OQ.aB (vs:=[U8 d]);exact cF;rfl;exact (fun w' _=>hb2 w'))|(apply OQ.not;rfl)|(apply OQ.aP;rfl;rfl)|(apply OQ.move;rfl)|(apply OQ.assign;rfl)) rfl ?_ | refine JC.seq ?_ | refine JC.region ?_ | refine JC.block ?_ | refine JC.skip ?_ | refine JL.nil ?_ | refine JE.next ?_ | refine JL.aN rfl rfl ?_)
          refine JC.cond_false rfl rfl ?_
          have hn2 : ei bits t f (i+1)=(p,m++[c]):=by rw [hnx,hsp];rfl
          repeat (first | refine JL.q (by (apply OQ.move;rfl)) rfl ?_ | refine JC.region ?_ | refine JC.skip ?_ | refine JE.next ?_)
          refine JL.gA (v:=U8 c) Tryd.underlying22 eD rfl rfl rfl rfl fun bl _=>?_
          refine JL.perm (M':=an 5 q (m.map U8)++(⟨bl,Row 5 [U8 c],true⟩::an 5 (some (b1,c1)) (t.map U8))) ?_ (by exact (List.perm_append_comm_assoc [_] (an 5 q (m.map U8)) _))
          refine JL.bS (xs:=m.map U8) (cs:=[U8 c]) (m:=1) (ad:=some ⟨bl,0,none⟩) (sc:=1) q Tryd.underlying22 eD (fun e=>by rw [hq e];rfl) (by rw [List.length_map];rfl) rfl rfl (fun w' hw'=>?_) (fun v hv=>by rw [List.mem_singleton.1 hv];rfl) rfl (by rw [List.length_map];omega) (by rw [List.length_map];omega) rfl fun q3 hq3=>?_
          · obtain ⟨o,ho,hA⟩:=hw'.get (b:=bl) (A:=Row 5 [U8 c]) (wr:=true) (kE .here)
            exact Reads.block ho (Row.all o hA)
          have hmc : m.map U8++[U8 c]=(m++[c]).map U8:=by rw [List.map_append];rfl
          rw [hmc,List.length_map]
          rw [hmc] at hq3
          repeat (first | refine JL.q (by first|(apply OQ.bH (a:=i) (b:=1);rfl;rfl;exact (by omega))|(apply OQ.move;rfl)|(apply OQ.assign;rfl)) rfl ?_ | refine JC.region ?_ | refine JL.nil ?_ | refine JE.next ?_ | refine JE.aj ?_)
          have hn3 : (ei bits t f (i+1)).1=p:=by rw [hn2]
          have hn4 : (ei bits t f (i+1)).2=m++[c]:=by rw [hn2]
          rw [← hn3,← hn4]
          refine JE.again (i:=(i,q)) (i+1,q3) ⟨hi',fun e=>?_⟩ (show t.length - (i+1)<t.length - i by omega) (by repeat (first | exact ax.nil | refine ax.cons _ _ _ rfl ?_)) (dG (.drop _ _ _ (aA.refl _)) _)
          exact absurd (hq3 e) (by simp)
        | false=>
          obtain ⟨bt,hbt⟩ : ∃ b,jV bits p=b:=⟨_,rfl⟩
          have hb3:=fun w' : World=>hbt ▸ pW bits p w'
          repeat (first | refine JL.q (by first|(apply OQ.bZ (i:=i) (b:=b1) (j:=0) (len:=t.length) (cap:=c1);exact Tryd.underlying22;exact cn;rfl;rfl;exact hi')|(apply OQ.load;exact og;rfl;exact hH1;exact hci)|(apply OQ.gE (a:=(i : Int)) (b:=(f : Int));rfl;rfl;exact gf)|(apply OQ.aB (vs:=[U8 c]);exact cF;rfl;exact (fun w' _=>hb1 w'))|(apply OQ.lJ (a:=i) (b:=1);rfl;rfl;exact (by omega);exact (by omega))|(apply OQ.bZ (i:=i - 1) (b:=b1) (j:=0) (len:=t.length) (cap:=c1);exact Tryd.underlying22;exact cn;rfl;rfl;exact hil)|(apply OQ.load;exact og;rfl;exact hH1;exact hdi)|(apply OQ.aB (vs:=[U8 d]);exact cF;rfl;exact (fun w' _=>hb2 w'))|(apply OQ.not;rfl)|(apply OQ.aP;rfl;rfl)|(apply OQ.move;rfl)|(apply OQ.assign;rfl)) rfl ?_ | refine JC.seq ?_ | refine JC.region ?_ | refine JC.block ?_ | refine JC.skip ?_ | refine JL.nil ?_ | refine JE.next ?_ | refine JL.aN rfl rfl ?_)
          refine JC.cond_true rfl rfl ?_
          repeat (first | refine JL.q (by first|(apply OQ.aB (vs:=[I bits,N p]);exact jW;rfl;exact (fun w' _=>hb3 w'))|(apply OQ.move;rfl)) rfl ?_ | refine JC.seq ?_ | refine JC.region ?_ | refine JL.nil ?_ | refine JE.next ?_)
          cases bt with
          | false=>
            refine JC.cond_false rfl rfl ?_
            have hn2 : ei bits t f (i+1)=(p+1,m++[c]):=by rw [hnx,hsp,hbt];rfl
            repeat (first | refine JL.q (by first|(apply OQ.bH (a:=p) (b:=1);rfl;rfl;exact (by omega))|(apply OQ.move;rfl)|(apply OQ.assign;rfl)) rfl ?_ | refine JC.region ?_ | refine JC.skip ?_ | refine JL.nil ?_ | refine JE.next ?_)
            refine JL.gA (v:=U8 c) Tryd.underlying22 eD rfl rfl rfl rfl fun bl _=>?_
            refine JL.perm (M':=an 5 q (m.map U8)++(⟨bl,Row 5 [U8 c],true⟩::an 5 (some (b1,c1)) (t.map U8))) ?_ (by exact (List.perm_append_comm_assoc [_] (an 5 q (m.map U8)) _))
            refine JL.bS (xs:=m.map U8) (cs:=[U8 c]) (m:=1) (ad:=some ⟨bl,0,none⟩) (sc:=1) q Tryd.underlying22 eD (fun e=>by rw [hq e];rfl) (by rw [List.length_map];rfl) rfl rfl (fun w' hw'=>?_) (fun v hv=>by rw [List.mem_singleton.1 hv];rfl) rfl (by rw [List.length_map];omega) (by rw [List.length_map];omega) rfl fun q3 hq3=>?_
            · obtain ⟨o,ho,hA⟩:=hw'.get (b:=bl) (A:=Row 5 [U8 c]) (wr:=true) (kE .here)
              exact Reads.block ho (Row.all o hA)
            have hmc : m.map U8++[U8 c]=(m++[c]).map U8:=by rw [List.map_append];rfl
            rw [hmc,List.length_map]
            rw [hmc] at hq3
            repeat (first | refine JL.q (by first|(apply OQ.bH (a:=i) (b:=1);rfl;rfl;exact (by omega))|(apply OQ.move;rfl)|(apply OQ.assign;rfl)) rfl ?_ | refine JC.region ?_ | refine JL.nil ?_ | refine JE.next ?_ | refine JE.aj ?_)
            have hn3 : (ei bits t f (i+1)).1=(p+1):=by rw [hn2]
            have hn4 : (ei bits t f (i+1)).2=m++[c]:=by rw [hn2]
            rw [← hn3,← hn4]
            refine JE.again (i:=(i,q)) (i+1,q3) ⟨hi',fun e=>?_⟩ (show t.length - (i+1)<t.length - i by omega) (by repeat (first | exact ax.nil | refine ax.cons _ _ _ rfl ?_)) (dG (.drop _ _ _ (aA.refl _)) _)
            exact absurd (hq3 e) (by simp)
          | true=>
            refine JC.cond_true rfl rfl ?_
            repeat (first | refine JL.q (by (apply OQ.move;rfl)) rfl ?_ | refine JC.region ?_)
            refine JL.lO (r:=[13,10]) (xs:=m.map U8) q Tryd.underlying22 Tryd.underlying9 eD (fun e=>by rw [hq e];rfl) (by rw [hml];rfl) rfl (by simp) (by rw [hml];simp;omega) rfl fun q2=>?_
            have hn2 : ei bits t f (i+1)=(p+1,(m++[13,10])++[c]):=by rw [hnx,hsp,hbt];simp
            rw [show m.map U8++([13,10] : List Bt).map U8=(m++[13,10]).map U8 from (List.map_append ..).symm]
            obtain ⟨m2,hm2⟩ : ∃ m2,m++[13,10]=m2:=⟨_,rfl⟩
            have hm2l : m2.length=m.length+2:=by rw [← hm2];simp
            rw [hm2] at hn2 ⊢
            repeat (first | refine JL.q (by first|(apply OQ.bH (a:=p) (b:=1);rfl;rfl;exact (by omega))|(apply OQ.move;rfl)|(apply OQ.assign;rfl)) rfl ?_ | refine JC.region ?_ | refine JL.nil ?_ | refine JE.next ?_)
            refine JL.gA (v:=U8 c) Tryd.underlying22 eD rfl rfl rfl rfl fun bl _=>?_
            refine JL.perm (M':=an 5 (some q2) (m2.map U8)++(⟨bl,Row 5 [U8 c],true⟩::an 5 (some (b1,c1)) (t.map U8))) ?_ (by exact (List.perm_append_comm_assoc [_] (an 5 (some q2) (m2.map U8)) _))
            refine JL.bS (xs:=m2.map U8) (cs:=[U8 c]) (m:=1) (ad:=some ⟨bl,0,none⟩) (sc:=1) (some q2) Tryd.underlying22 eD nofun (by rw [List.length_map];rfl) rfl rfl (fun w' hw'=>?_) (fun v hv=>by rw [List.mem_singleton.1 hv];rfl) rfl (by rw [List.length_map];omega) (by rw [List.length_map];omega) rfl fun q3 hq3=>?_
            · obtain ⟨o,ho,hA⟩:=hw'.get (b:=bl) (A:=Row 5 [U8 c]) (wr:=true) (kE .here)
              exact Reads.block ho (Row.all o hA)
            have hmc : m2.map U8++[U8 c]=(m2++[c]).map U8:=by rw [List.map_append];rfl
            rw [hmc,List.length_map]
            rw [hmc] at hq3
            repeat (first | refine JL.q (by first|(apply OQ.bH (a:=i) (b:=1);rfl;rfl;exact (by omega))|(apply OQ.move;rfl)|(apply OQ.assign;rfl)) rfl ?_ | refine JC.region ?_ | refine JL.nil ?_ | refine JE.next ?_ | refine JE.aj ?_)
            have hn3 : (ei bits t f (i+1)).1=(p+1):=by rw [hn2]
            have hn4 : (ei bits t f (i+1)).2=m2++[c]:=by rw [hn2]
            rw [← hn3,← hn4]
            refine JE.again (i:=(i,q)) (i+1,q3) ⟨hi',fun e=>?_⟩ (show t.length - (i+1)<t.length - i by omega) (by repeat (first | exact ax.nil | refine ax.cons _ _ _ rfl ?_)) (dG (.drop _ _ _ (aA.refl _)) _)
            exact absurd (hq3 e) (by simp)
    · have gf : decide ((f : Int)≤(i : Int))=false:=decide_eq_false (by omega)
      rw [decide_eq_false hfi1,Bool.false_and,Bool.false_and] at hsp
      repeat (first | refine JL.q (by first|(apply OQ.bZ (i:=i) (b:=b1) (j:=0) (len:=t.length) (cap:=c1);exact Tryd.underlying22;exact cn;rfl;rfl;exact hi')|(apply OQ.load;exact og;rfl;exact hH1;exact hci)|(apply OQ.gE (a:=(i : Int)) (b:=(f : Int));rfl;rfl;exact gf)|(apply OQ.bz;rfl;rfl)|(apply OQ.move;rfl)|(apply OQ.assign;rfl)) rfl ?_ | refine JC.seq ?_ | refine JC.region ?_ | refine JC.block ?_ | refine JC.skip ?_ | refine JL.nil ?_ | refine JE.next ?_ | refine JL.cj rfl rfl rfl rfl ?_)
      refine JC.cond_false rfl rfl ?_
      have hn2 : ei bits t f (i+1)=(p,m++[c]):=by rw [hnx,hsp];rfl
      repeat (first | refine JL.q (by (apply OQ.move;rfl)) rfl ?_ | refine JC.region ?_ | refine JC.skip ?_ | refine JE.next ?_)
      refine JL.gA (v:=U8 c) Tryd.underlying22 eD rfl rfl rfl rfl fun bl _=>?_
      refine JL.perm (M':=an 5 q (m.map U8)++(⟨bl,Row 5 [U8 c],true⟩::an 5 (some (b1,c1)) (t.map U8))) ?_ (by exact (List.perm_append_comm_assoc [_] (an 5 q (m.map U8)) _))
      refine JL.bS (xs:=m.map U8) (cs:=[U8 c]) (m:=1) (ad:=some ⟨bl,0,none⟩) (sc:=1) q Tryd.underlying22 eD (fun e=>by rw [hq e];rfl) (by rw [List.length_map];rfl) rfl rfl (fun w' hw'=>?_) (fun v hv=>by rw [List.mem_singleton.1 hv];rfl) rfl (by rw [List.length_map];omega) (by rw [List.length_map];omega) rfl fun q3 hq3=>?_
      · obtain ⟨o,ho,hA⟩:=hw'.get (b:=bl) (A:=Row 5 [U8 c]) (wr:=true) (kE .here)
        exact Reads.block ho (Row.all o hA)
      have hmc : m.map U8++[U8 c]=(m++[c]).map U8:=by rw [List.map_append];rfl
      rw [hmc,List.length_map]
      rw [hmc] at hq3
      repeat (first | refine JL.q (by first|(apply OQ.bH (a:=i) (b:=1);rfl;rfl;exact (by omega))|(apply OQ.move;rfl)|(apply OQ.assign;rfl)) rfl ?_ | refine JC.region ?_ | refine JL.nil ?_ | refine JE.next ?_ | refine JE.aj ?_)
      have hn3 : (ei bits t f (i+1)).1=p:=by rw [hn2]
      have hn4 : (ei bits t f (i+1)).2=m++[c]:=by rw [hn2]
      rw [← hn3,← hn4]
      refine JE.again (i:=(i,q)) (i+1,q3) ⟨hi',fun e=>?_⟩ (show t.length - (i+1)<t.length - i by omega) (by repeat (first | exact ax.nil | refine ax.cons _ _ _ rfl ?_)) (dG (.drop _ _ _ (aA.refl _)) _)
      exact absurd (hq3 e) (by simp)
  · have hi' : i=t.length:=by have:=of_decide_eq_false hh;omega
    subst hi'
    clear hh
    obtain ⟨m,hm⟩ : ∃ m,(ei bits t f t.length).2=m:=⟨_,rfl⟩
    rw [hm] at hq hm1 ⊢
    repeat (first | refine JL.q (by (apply OQ.move;rfl)) rfl ?_ | refine JC.seq ?_ | refine JC.region ?_ | refine JC.exit ?_ | refine JE.next ?_ | refine JE.aS ?_ | refine JE.bE ?_)
    refine JL.bS (xs:=m.map U8) (cs:=e.l.map U8) (m:=e.l.length) (ad:=e.ad) (sc:=e.cap) q Tryd.underlying22 eD (fun e=>by rw [hq e];rfl) (by rw [List.length_map];rfl) rfl (List.length_map _) (fun w' hw'=>(heo hw').reads) (fun v hv=>by obtain ⟨c,_,rfl⟩:=List.mem_map.1 hv;rfl) rfl (by rw [List.length_map];omega) (by rw [List.length_map];omega) rfl fun q3 hq3=>?_
    have hmc : m.map U8++e.l.map U8=(m++e.l).map U8:=(List.map_append ..).symm
    rw [hmc] at hq3
    rw [hmc,List.length_map]
    repeat (first | refine JL.q (by (apply OQ.assign;rfl)) rfl ?_ | refine JL.nil ?_ | refine JE.next ?_)
    refine JC.ret ?_
    skip
    exact JE.aJ rfl (RV.tmp rfl) fun w' hw=>⟨⟨q3,fun e=>by simpa using hq3 e⟩,rfl,hw.weak (qK _ _)⟩
end Rw
end
section
set_option maxRecDepth 10000
open Sl bV eu
namespace Rw
def gY (l : List Bt) : List Bt:=match (aM l).length with
  | 0=>[]
  | k+1=>bO l k
theorem vU (h : aq) : (gX h).l=gY h.l:=by
  unfold gX gY
  cases (aM h.l).length with
  | zero=>rfl
  | succ k=>exact dn h k
def bw (bits : Int) (l : List Bt) : List Bt:=iM bits (bG l) (gY l)
theorem oU (h : aq) (bits : Int) (w : World) (hs : h.ok w) (hl : h.l.length≤100000000) :
    Calls Tryd.prog 21 [h.v,I bits].toArray w fun r w'=>∃ q : {q : Acc // q=none→bw bits h.l=[]},r=.returned (ak q.1 (bw bits h.l).length)∧aa w [] (an 5 q.1 ((bw bits h.l).map U8)) w':=by
  have:=oT h bits w hs hl
  rw [vU] at this
  exact this
set_option maxHeartbeats 8000000 in
theorem nD (p b cap : Nat) (gv cv : Value) (fs : List Value) (R : aq) (xn xm : Int) (tx : List Bt) (w : World) (S : List Nat) (h0 : aa w S (cq p b cap gv cv fs) w) (hn : 0<fs.length) (hn2 : fs.length<4611686018427387904) (hR : fs[cg xn fs.length]?=some R.v) (hok : R.ok w) (haw : dW R S) (hl : R.l.length≤100000000) :
    Calls Tryd.prog 12 [Pt p 0,.agg (bB 3 xn xm tx).toArray].toArray w fun e w'=>∃ q : {q : Acc // q=none→bw xm R.l=[]},e=.returned (.tuple #[])∧aa w S (cq p b cap gv cv (fs.set (cg xn fs.length) (ak q.1 (bw xm R.l).length))++an 5 q.1 ((bw xm R.l).map U8)) w':=by
  refine enter (n:=87) Tryd.func12 rfl rfl rfl h0 ?_
  obtain ⟨n,hnn⟩ : ∃ n,fs.length=n:=⟨_,rfl⟩
  obtain ⟨at_,hat⟩ : ∃ a,cg xn n=a:=⟨_,rfl⟩
  have hlt : at_<n:=hat ▸ dL (hnn ▸ hn)
  have hav : I (xn % (n : Int))=N at_:=hat ▸ iQ (hnn ▸ hn)
  show JC _ _ _ _ _ _ _ [⟨p,Row 33 [.slice (some ⟨b,0,none⟩) fs.length cap,gv,cv],true⟩,⟨b,Sl.Own 22 1 fs.length cap fs,true⟩]
  rw [hnn] at hn hn2 hR ⊢
  rw [hat] at hR ⊢
  have hcl : ∀ o,Sl.Own 22 1 n cap fs o→cellAt o (0+at_)=some R.v:=by rw [Nat.zero_add];exact Sl.Own.cell hR
  have hzp : Pt b (0+at_)=Pt b at_:=by rw [Nat.zero_add]
  have hg3 : decide ((3 : Int)=3)=true:=rfl
  refine JC.seq (JC.region ?_)
  refine JL.box (r:=bB 3 xn xm tx) rfl rfl rfl fun b3 _=>?_
  refine JL.nil (JE.next ?_)
  refine JC.seq ?_
  refine JC.quiet di (by kernel_rfl) ?_
  repeat (first | refine JL.q (by first|(apply OQ.load;exact aF;rfl;exact .here;exact (Row.cell (v:=I xn) rfl))|(apply OQ.load;exact ez;rfl;exact (.there .here);exact (Row.cell (v:=.slice (some ⟨b,0,none⟩) n cap) rfl))|(apply OQ.len (k:=n) (ad:=some ⟨b,0,none⟩) (cap:=cap);exact Tryd.underlying31;rfl)|(apply OQ.to;exact (OQ.aB (vs:=[I xn,N n]) aV rfl (fun w' _=>bf xn n hn hn2 w'));exact hav)|(apply OQ.load;exact aF;rfl;exact .here;exact (Row.cell (v:=I 3) rfl))|(apply OQ.aU (a:=3) (b:=3);rfl;rfl;exact hg3)|(apply OQ.move;rfl)|(apply OQ.assign;rfl)|(apply OQ.cl;rfl)|(apply OQ.b8;rfl;rfl;rfl;exact (by decide);rfl)) rfl ?_ | refine JQ.q (by first|(apply OQ.load;exact aF;rfl;exact .here;exact (Row.cell (v:=I xn) rfl))|(apply OQ.load;exact ez;rfl;exact (.there .here);exact (Row.cell (v:=.slice (some ⟨b,0,none⟩) n cap) rfl))|(apply OQ.len (k:=n) (ad:=some ⟨b,0,none⟩) (cap:=cap);exact Tryd.underlying31;rfl)|(apply OQ.to;exact (OQ.aB (vs:=[I xn,N n]) aV rfl (fun w' _=>bf xn n hn hn2 w'));exact hav)|(apply OQ.load;exact aF;rfl;exact .here;exact (Row.cell (v:=I 3) rfl))|(apply OQ.aU (a:=3) (b:=3);rfl;rfl;exact hg3)|(apply OQ.move;rfl)|(apply OQ.assign;rfl)|(apply OQ.cl;rfl)|(apply OQ.b8;rfl;rfl;rfl;exact (by decide);rfl)) rfl ?_ | refine JC.seq ?_ | refine JC.region ?_ | refine JC.block ?_ | refine JL.nil ?_ | refine JQ.nil ?_ | refine JE.next ?_)
  refine JC.cond_true rfl rfl ?_
  skip
  haveI : Inhabited {q : Acc // q=none→bw xm R.l=[]}:=⟨⟨some (0,0),nofun⟩⟩
  let vs : Nat→{q : Acc // q=none→bw xm R.l=[]}→Value:=fun j y=>match j with
    | 0=>Pt p 0
    | 1=>Pt p 0
    | 2=>Pt p 0
    | 3=>.slice (some ⟨b,0,none⟩) n cap
    | 4=>N at_
    | 5=>Pt p 0
    | 6=>Pt p 0
    | 7=>Pt p 0
    | 8=>.slice (some ⟨b,0,none⟩) n cap
    | 9=>N at_
    | 10=>Pt b (0+at_)
    | 11=>R.v
    | 12=>Pt b3 2
    | 13=>I xm
    | 14=>ak y.1 (bw xm R.l).length
    | 15=>Pt b at_
    | _=>N 0
  let Ms : Nat→{q : Acc // q=none→bw xm R.l=[]}→List az:=fun j y=>match j with
    | 14=>an 5 y.1 ((bw xm R.l).map U8)
    | 16=>[⟨b,Sl.Own 22 1 n cap (fs.set at_ (ak y.1 (bw xm R.l).length)),true⟩]
    | 17=>[⟨b3,Row 26 (bB 3 xn xm tx),true⟩]
    | 18=>[⟨p,Row 33 [.slice (some ⟨b,0,none⟩) n cap,gv,cv],true⟩]
    | 19=>[⟨b,Sl.Own 22 1 n cap fs,true⟩]
    | _=>[]
  refine JC.fS (g:=⟨[(0,Pt p 0),(3,Pt b3 0),(4,N at_)],20,vs,Ms,(fun j=>match j with | 1=>[(0,17)] | 2=>[(1,18)] | 3=>[(2,19)] | 6=>[(5,22)] | 7=>[(6,23)] | 8=>[(7,24)] | 10=>[(8,25),(9,26)] | 11=>[(10,27)] | 13=>[(12,29)] | 14=>[(11,28),(13,30)] | 15=>[(3,20),(4,21)] | 16=>[(15,32),(14,31)] | _=>[]),(fun j=>match j with | 3=>[18] | 8=>[18] | 11=>[19] | 13=>[17] | 16=>[19] | _=>[]),(fun j=>match j with | 16=>[19] | _=>[]),(fun j=>match j with | 16=>some 14 | _=>none),fun _=>[],fun _ a b=>a=b⟩) [] [18,16,14] di (by repeat (first | exact ax.nil | refine ax.cons _ _ _ rfl ?_)) (fun _ _=>.nil) ?_ (by kernel_rfl) (by kernel_rfl) (by kernel_rfl) ?_ ?_
  · exact aA.refl _
  · refine ⟨?_,?_,?_,?_,?_,?_,?_,?_,?_,?_,?_,?_,?_,?_,?_,?_,?_,trivial⟩
    · (intro xx EF MF Q kk;(try refine JL.aN rfl rfl ?_);exact JL.q (OQ.move rfl) rfl (JL.nil (kk default nofun)))
    · (intro xx EF MF Q kk;(try refine JL.aN rfl rfl ?_);exact JL.q (OQ.cl rfl) rfl (JL.nil (kk default nofun)))
    · (intro xx EF MF Q kk;(try refine JL.aN rfl rfl ?_);exact JL.q (OQ.b8 rfl rfl rfl (by decide) rfl) rfl (JL.nil (kk default nofun)))
    · (intro xx EF MF Q kk;(try refine JL.aN rfl rfl ?_);exact JL.q (OQ.load ez rfl .here (Row.cell (v:=.slice (some ⟨b,0,none⟩) n cap) rfl)) rfl (JL.nil (kk default nofun)))
    · (intro xx EF MF Q kk;(try refine JL.aN rfl rfl ?_);exact JL.q (OQ.move rfl) rfl (JL.nil (kk default nofun)))
    · (intro xx EF MF Q kk;(try refine JL.aN rfl rfl ?_);exact JL.q (OQ.move rfl) rfl (JL.nil (kk default nofun)))
    · (intro xx EF MF Q kk;(try refine JL.aN rfl rfl ?_);exact JL.q (OQ.cl rfl) rfl (JL.nil (kk default nofun)))
    · (intro xx EF MF Q kk;(try refine JL.aN rfl rfl ?_);exact JL.q (OQ.b8 rfl rfl rfl (by decide) rfl) rfl (JL.nil (kk default nofun)))
    · (intro xx EF MF Q kk;(try refine JL.aN rfl rfl ?_);exact JL.q (OQ.load ez rfl .here (Row.cell (v:=.slice (some ⟨b,0,none⟩) n cap) rfl)) rfl (JL.nil (kk default nofun)))
    · (intro xx EF MF Q kk;(try refine JL.aN rfl rfl ?_);exact JL.q (OQ.move rfl) rfl (JL.nil (kk default nofun)))
    · (intro xx EF MF Q kk;(try refine JL.aN rfl rfl ?_);exact JL.q (OQ.bZ (i:=at_) (b:=b) (j:=0) (len:=n) (cap:=cap) Tryd.underlying31 bY rfl rfl hlt) rfl (JL.nil (kk default nofun)))
    · (intro xx EF MF Q kk;(try refine JL.aN rfl rfl ?_);exact JL.q (OQ.load (v:=R.v) bX rfl .here hcl) rfl (JL.nil (kk default nofun)))
    · (intro xx EF MF Q kk;(try refine JL.aN rfl rfl ?_);exact JL.q (OQ.b8 rfl rfl rfl (by decide) rfl) rfl (JL.nil (kk default nofun)))
    · (intro xx EF MF Q kk;(try refine JL.aN rfl rfl ?_);exact JL.q (OQ.load aF rfl .here (Row.cell (v:=I xm) rfl)) rfl (JL.nil (kk default nofun)))
    · (intro xx EF MF Q kk;exact JL.bC (ι:={q : Acc // q=none→bw xm R.l=[]}) (vs:=[R.v,I xm]) (fun q=>ak q.1 (bw xm R.l).length) (fun q=>an 5 q.1 ((bw xm R.l).map U8)) nB rfl rfl (fun q e he=>aT _ _ _ e he) (fun w' hw'=>oU R xm w' (cC hok hw' haw) hl) fun q=>JL.nil (kk q nofun))
    · (intro xx EF MF Q kk;(try refine JL.aN rfl rfl ?_);exact JL.q (OQ.to (OQ.bZ (i:=at_) (b:=b) (j:=0) (len:=n) (cap:=cap) Tryd.underlying31 bY rfl rfl hlt) hzp) rfl (JL.nil (kk default nofun)))
    · (intro xx EF MF Q kk;exact JL.cG (j:=at_) (xs':=fs.set at_ (ak (xx 14).1 (bw xm R.l).length)) bY rfl rfl (fo _ _) (gT _ _) .here (by rw [hnn];exact hlt) rfl (JL.nil (kk (xx 14) (fun k h=>by cases h;rfl))))
  · intro xx hx
    have e1 : xx 16=xx 14:=hx 16 14 (by decide) rfl
    repeat (refine JE.aj ?_)
    refine JE.jd rfl fun w2 hw=>⟨xx 14,rfl,?_⟩
    have hw : aa w S (⟨p,Row 33 [.slice (some ⟨b,0,none⟩) n cap,gv,cv],true⟩::⟨b,Sl.Own 22 1 n cap (fs.set at_ (ak (xx 16).1 (bw xm R.l).length)),true⟩::(an 5 (xx 14).1 ((bw xm R.l).map U8)++[])) w2:=hw
    rw [e1,List.append_nil] at hw
    unfold cq
    rw [List.length_set,hnn]
    exact hw
set_option maxHeartbeats 8000000 in
theorem j5 (h : aq) (xn xm : Int) (tx : List Bt) (w : World) (hs : h.ok w) (hl : h.l.length≤100000000) {k : Nat} (hg : br h.l k) {F : List (Nat × Nat)} (hF : cc h.l k=F) (hne : F≠[]) {p : Nat × Nat} (hp : F[cg xn F.length]?=some p) {T : List Bt}
    (hT : ((F.map (aY (bA h k).l)).set (cg xn F.length) (bw xm (aY (bA h k).l p))).flatten=T) (h0 : 0<T.length) (ht : T.length≤100000000) :
    Calls Tryd.prog 6 [h.v,.agg (bB 3 xn xm tx).toArray].toArray w (de (T++(bO h.l k++h.l.drop (au h.l (k+1)))) w):=by
  refine enter (n:=45) Tryd.func6 rfl rfl rfl (aa.start w []) ?_
  have hFn : 0<F.length:=List.length_pos_iff.2 hne
  have hdl : (bA h k).l=h.l.take (au h.l k):=rfl
  have hFl : F.length≤100000000:=by
    have:=dM (h.l.take (au h.l k))
    rw [show aZ (h.l.take (au h.l k))=F from hF,List.length_take] at this
    omega
  have hFb : ∀ p ∈ F,p.1+p.2≤(bA h k).l.length:=by
    have:=fJ (h.l.take (au h.l k))
    rw [show aZ (h.l.take (au h.l k))=F from hF] at this
    exact this
  have hpm : p ∈ F:=List.mem_of_getElem? hp
  have hg1 : decide ((3 : Int)=1)=false:=rfl
  have hg2 : decide ((3 : Int)=2)=false:=rfl
  have hg6 : decide ((3 : Int)=6)=false:=rfl
  refine JC.seq (JC.region ?_)
  refine JL.box (r:=bB 3 xn xm tx) rfl rfl rfl fun b3 _=>?_
  repeat (first | refine JL.q (by first|(apply OQ.load;exact aF;rfl;exact .here;exact (Row.cell (v:=I 3) rfl))|(apply OQ.aU (a:=3) (b:=1);rfl;rfl;exact hg1)|(apply OQ.assign;rfl)|(apply OQ.b8;rfl;rfl;rfl;exact (by decide);rfl)) rfl ?_ | refine JC.seq ?_ | refine JC.region ?_ | refine JC.block ?_ | refine JL.nil ?_ | refine JE.next ?_)
  refine JC.cond_false rfl rfl ?_
  repeat (first | refine JL.q (by first|(apply OQ.aU (a:=3) (b:=2);rfl;rfl;exact hg2)|(apply OQ.assign;rfl)) rfl ?_ | refine JC.seq ?_ | refine JC.region ?_ | refine JL.nil ?_ | refine JE.next ?_)
  refine JC.cond_false rfl rfl ?_
  repeat (first | refine JL.q (by (apply OQ.move;rfl)) rfl ?_ | refine JC.seq ?_ | refine JC.region ?_ | refine JC.skip ?_ | refine JE.next ?_ | refine JE.aj ?_)
  refine JL.bC (ι:=FQ F) (vs:=[h.v]) (fun q=>.tuple #[.agg (aW h k q.1).toArray,.bool true]) (fun q=>an 22 q.1 (F.map (aO (bA h k)))) cw rfl rfl (fun q e he=>aT _ _ _ e he) (fun w' hw'=>dg h w' (hs.holds hw' rfl) (by omega) hg hF) ?_
  rintro ⟨q,hq⟩
  obtain ⟨⟨b,cap⟩,rfl⟩ : ∃ x : Nat × Nat,q=some x:=by
    cases q with
    | none=>exact absurd (hq rfl) hne
    | some x=>exact ⟨x,rfl⟩
  dsimp only
  repeat (refine JL.q (by first|(apply OQ.extract;rfl;rfl)|(apply OQ.move;rfl)) rfl ?_)
  refine JL.alloc (r:=cB) (by kernel_rfl) rfl fun b5 _=>?_
  refine JL.bI (cs:=aW h k (some (b,cap))) (r:=cB) eA rfl rfl rfl (cx _ _ _) .here rfl ?_
  have hmv : aW h k (some (b,cap))=[.slice (some ⟨b,0,none⟩) F.length cap,(ay h k).v,(h.snd (au h.l (k+1))).v]:=by unfold aW;rw [hF];rfl
  rw [hmv]
  repeat (first | refine JL.q (by first|(apply OQ.load;exact aF;rfl;exact (.there (.there .here));exact (Row.cell (v:=I 3) rfl))|(apply OQ.aU (a:=3) (b:=6);rfl;rfl;exact hg6)|(apply OQ.aP;rfl;rfl)|(apply OQ.move;rfl)|(apply OQ.assign;rfl)|(apply OQ.b8;rfl;rfl;rfl;exact (by decide);rfl)) rfl ?_ | refine JC.seq ?_ | refine JC.region ?_ | refine JC.block ?_ | refine JL.nil ?_ | refine JE.next ?_ | refine JL.aN rfl rfl ?_)
  refine JC.cond_false rfl rfl ?_
  have hgt : decide ((F.length : Int)>0)=true:=decide_eq_true (by omega)
  repeat (first | refine JL.q (by first|(apply OQ.load;exact ez;rfl;exact .here;exact (Row.cell (v:=.slice (some ⟨b,0,none⟩) F.length cap) rfl))|(apply OQ.len (k:=F.length) (ad:=some ⟨b,0,none⟩) (cap:=cap);exact Tryd.underlying31;rfl)|(apply OQ.eo (b:=0);rfl;rfl;exact hgt)|(apply OQ.aP;rfl;rfl)|(apply OQ.move;rfl)|(apply OQ.assign;rfl)|(apply OQ.b8;rfl;rfl;rfl;exact (by decide);rfl)) rfl ?_ | refine JC.seq ?_ | refine JC.region ?_ | refine JL.nil ?_ | refine JE.next ?_ | refine JL.aN rfl rfl ?_)
  refine JC.cond_true rfl rfl ?_
  repeat (first | refine JL.q (by (apply OQ.cP (cs:=bB 3 xn xm tx);exact l5;exact uP;rfl;exact (.there (.there .here));rfl;exact Row.all)) rfl ?_ | refine JC.seq ?_ | refine JC.region ?_)
  obtain ⟨fs,hfs⟩ : ∃ fs,F.map (aO (bA h k))=fs:=⟨_,rfl⟩
  have hfl : fs.length=F.length:=by rw [← hfs,List.length_map]
  have hhd : ∀ {w' : World},h.ok w'→(bA h k).ok w':=fun h=>h.fst _
  have hRl : (bu (bA h k) p).l.length≤100000000:=by
    show (((h.l.take _).drop _).take _).length≤_
    rw [List.length_take,List.length_drop,List.length_take]
    omega
  have hRv : fs[cg xn fs.length]?=some (bu (bA h k) p).v:=by
    rw [hfl,← hfs,List.getElem?_map,hp,eN (hFb p hpm)]
    rfl
  rw [hfs]
  show JL _ _ _ _ _ _ _ _ (⟨b5,Row 33 [.slice (some ⟨b,0,none⟩) F.length cap,(ay h k).v,(h.snd (au h.l (k+1))).v],true⟩::⟨b,Sl.Own 22 1 fs.length cap fs,true⟩::[⟨b3,Row 26 (bB 3 xn xm tx),true⟩])
  rw [← hfl]
  show JL _ _ _ _ _ _ _ _ (cq b5 b cap (ay h k).v (h.snd (au h.l (k+1))).v fs++[⟨b3,Row 26 (bB 3 xn xm tx),true⟩])
  refine JL.eB (ι:={q : Acc // q=none→bw xm (bu (bA h k) p).l=[]}) (X:=cq b5 b cap (ay h k).v (h.snd (au h.l (k+1))).v fs) (M0:=[⟨b3,Row 26 (bB 3 xn xm tx),true⟩]) (vs:=[Pt b5 0,.agg (bB 3 xn xm tx).toArray]) (fun _=>.tuple #[]) (fun q=>cq b5 b cap (ay h k).v (h.snd (au h.l (k+1))).v (fs.set (cg xn fs.length) (ak q.1 (bw xm (bu (bA h k) p).l).length))++an 5 q.1 ((bw xm (bu (bA h k) p).l).map U8)) cL rfl rfl bQ (fun _=>jr)
    (fun w' hw' hx'=>nD b5 b cap _ _ fs (bu (bA h k) p) xn xm tx w' _ hx' (by omega) (by omega) hRv (bN (hhd (hs.holds hw' rfl)) (hFb p hpm)) (dN hw' bQ (bN (hhd hs) (hFb p hpm))) hRl) ?_
  rintro ⟨q,hq2⟩
  dsimp only
  repeat (first | refine JC.seq ?_ | refine JC.region ?_ | refine JL.nil ?_ | refine JE.next ?_)
  obtain ⟨R,hR⟩ : ∃ R,bu (bA h k) p=R:=⟨_,rfl⟩
  have hRb : R.l=aY (bA h k).l p:=by rw [← hR];rfl
  rw [hR] at hq2 ⊢
  have hq3:=hq2
  obtain ⟨rs,hrs⟩ : ∃ rs,(F.map (bu (bA h k))).set (cg xn fs.length) (eH q (bw xm R.l))=rs:=⟨_,rfl⟩
  have hrv : rs.map aq.v=fs.set (cg xn fs.length) (ak q (bw xm R.l).length):=by
    rw [← hrs,List.map_set,e9,List.map_map,← hfs]
    congr 1
    exact List.map_congr_left fun p hp=>eN (hFb p hp)
  have hrl : (rs.map aq.l).flatten=T:=by
    rw [← hT,← hrs,List.map_set,eI hq3,List.map_map,hRb,hfl]
    rfl
  have hrn : (fs.set (cg xn fs.length) (ak q (bw xm R.l).length)).length=rs.length:=by rw [← hrv,List.length_map]
  have hrn2 : rs.length=F.length:=by rw [← hrs,List.length_set,List.length_map]
  have hcA : jk ⟨some ⟨b,0,none⟩,cap,rs⟩=T:=by
    show ((rs.take rs.length).map aq.l).flatten=T
    rw [List.take_length,hrl]
  rw [← dn,show h.l.drop (au h.l (k+1))=(h.snd (au h.l (k+1))).l from rfl]
  rw [← hrv] at hrn ⊢
  have hel : (ay h k).l.length≤h.l.length:=by rw [dn];exact eO _ _
  have hdr : (h.snd (au h.l (k+1))).l.length≤h.l.length:=by show (h.l.drop _).length≤_;rw [List.length_drop];omega
  refine JL.bC (ι:=Nat × Nat) (vs:=[Pt b5 0]) (fun x=>.slice (some ⟨x.1,0,none⟩) (T++((ay h k).l++(h.snd (au h.l (k+1))).l)).length x.2) (fun x=>[⟨x.1,Sl.Own 5 1 (T++((ay h k).l++(h.snd (au h.l (k+1))).l)).length x.2 ((T++((ay h k).l++(h.snd (au h.l (k+1))).l)).map U8),true⟩]) cy rfl rfl (fun x e he=>by rw [List.mem_singleton.1 he]) (fun w' hw'=>?_) fun x=>?_
  · have ok:=hs.holds hw' rfl
    have hw2 : aa w [] (⟨b5,Row 33 [.slice (some ⟨b,0,none⟩) (rs.map aq.v).length cap,(ay h k).v,(h.snd (au h.l (k+1))).v],true⟩::⟨b,Sl.Own 22 1 (rs.map aq.v).length cap (rs.map aq.v),true⟩::(an 5 q ((bw xm R.l).map U8)++[⟨b3,Row 26 (bB 3 xn xm tx),true⟩])) w':=hw'
    rw [List.length_map] at hw2
    obtain ⟨o,ho,hA⟩:=hw2.get (b:=b5) .here
    obtain ⟨o2,ho2,hA2⟩:=hw2.get (b:=b) (.there .here)
    have hh:=Sl.Own.cells _ hA2
    have iL : gr.ok w' ⟨some ⟨b,0,none⟩,cap,rs⟩:=by
      refine ⟨?_,Reads.block ho2 hh,fun y hy=>?_⟩
      · obtain ⟨sp,_,_,_,h4⟩:=hA2
        exact h4
      · rw [← hrs] at hy
        rcases List.mem_or_eq_of_mem_set hy with hy | rfl
        · obtain ⟨p',hp',rfl⟩:=List.mem_map.1 hy
          exact bN (hhd ok) (hFb p' hp')
        · exact fc (hw2.weak (.drop _ _ _ (.drop _ _ _ (aA.refl _))))
    have:=cK ⟨some ⟨b,0,none⟩,cap,rs⟩ (ay h k) (h.snd (au h.l (k+1))) b5 33 w' (by rw [ho];exact congrArg some hA) iL (dB ok k) (ok.snd _ (bF _ _)) (by rw [hcA];exact h0) (by show rs.length≤_;omega) (by rw [hcA];omega)
    rw [hcA] at this
    exact this
  · repeat (first | refine JL.q (by (apply OQ.assign;rfl)) rfl ?_ | refine JL.nil ?_ | refine JE.next ?_)
    refine JC.ret ?_
    repeat (first | refine JE.av ?_ | refine JE.aI ?_)
    exact JE.aJ rfl (RV.tmp rfl) fun w' hw=>⟨⟨some ⟨x.1,0,none⟩,x.2,_⟩,rfl,hw.aC,rfl,dy hw .here⟩
end Rw
end
section
set_option maxRecDepth 10000
open Sl bV eu
namespace Rw
theorem uT (h : aq) (w : World) (hs : h.ok w) (hl : h.l.length≤1000000000) (hn : kX h.l) :
    Calls Tryd.prog 10 [h.v].toArray w fun e w'=>e=.returned (.tuple #[.agg cB.toArray,.bool false])∧Ext w w':=
  (ni h w hs hl).mono fun e w' he=>by
    rcases he with ⟨⟨k',q⟩,⟨h1,_⟩,_,_⟩ | ⟨_,h2,h3⟩
    · exact absurd hn (sP h1)
    · exact ⟨h2,h3⟩
theorem dX : aR Tryd.prog 14:=⟨_,Tryd.func14,rfl,by kernel_rfl⟩
theorem dY (h : aq) (w : World) (hs : h.ok w) (hl : h.l.length≤4294967296) : Calls Tryd.prog 14 [h.v].toArray w (de h.l w):=
  (kN h w hs hl).mono fun e w' ⟨q,h1,h2,h3⟩=>⟨eH q h.l,by rw [h1,e9],h3.aC,eI h2,fc (M:=[]) (by rw [List.append_nil];exact h3)⟩
set_option maxHeartbeats 8000000 in
theorem iV (h : aq) (kd xn xm : Int) (tx : List Bt) (w : World) (hs : h.ok w) (hl : h.l.length≤100000000) (hk1 : kd≠1) (hk2 : kd≠2) (hn : kX h.l) :
    Calls Tryd.prog 6 [h.v,.agg (bB kd xn xm tx).toArray].toArray w (de h.l w):=by
  refine enter (n:=45) Tryd.func6 rfl rfl rfl (aa.start w []) ?_
  have hg1 : decide (kd=1)=false:=decide_eq_false hk1
  have hg2 : decide (kd=2)=false:=decide_eq_false hk2
  refine JC.seq (JC.region ?_)
  refine JL.box (r:=bB kd xn xm tx) rfl rfl rfl fun b3 _=>?_
  repeat (first | refine JL.q (by first|(apply OQ.load;exact aF;rfl;exact .here;exact (Row.cell (v:=I kd) rfl))|(apply OQ.aU (a:=kd) (b:=1);rfl;rfl;exact hg1)|(apply OQ.assign;rfl)|(apply OQ.b8;rfl;rfl;rfl;exact (by decide);rfl)) rfl ?_ | refine JC.seq ?_ | refine JC.region ?_ | refine JC.block ?_ | refine JL.nil ?_ | refine JE.next ?_)
  refine JC.cond_false rfl rfl ?_
  repeat (first | refine JL.q (by first|(apply OQ.aU (a:=kd) (b:=2);rfl;rfl;exact hg2)|(apply OQ.assign;rfl)) rfl ?_ | refine JC.seq ?_ | refine JC.region ?_ | refine JL.nil ?_ | refine JE.next ?_)
  refine JC.cond_false rfl rfl ?_
  have cm : ∀ (M : List az) (w' : World),aa w [] M w'→Calls Tryd.prog 10 [h.v].toArray w' fun e w2=>e=.returned (.tuple #[.agg cB.toArray,.bool false])∧Ext w' w2:=fun M w' hw'=>uT h w' (hs.holds hw' rfl) (by omega) hn
  repeat (first | refine JL.q (by first|(apply OQ.aB (vs:=[h.v]);exact cw;rfl;exact (cm _))|(apply OQ.extract;rfl;rfl)|(apply OQ.move;rfl)) rfl ?_ | refine JC.seq ?_ | refine JC.region ?_ | refine JC.skip ?_ | refine JE.next ?_ | refine JE.aj ?_)
  refine JL.alloc (r:=cB) (by kernel_rfl) rfl fun b5 _=>?_
  refine JL.bI (cs:=cB) (r:=cB) eA rfl rfl rfl (by decide) .here rfl ?_
  repeat (first | refine JL.q (by first|(apply OQ.bz;rfl;rfl)|(apply OQ.move;rfl)|(apply OQ.assign;rfl)) rfl ?_ | refine JC.seq ?_ | refine JC.region ?_ | refine JC.block ?_ | refine JL.nil ?_ | refine JE.next ?_ | refine JL.cj rfl rfl rfl rfl ?_)
  refine JC.cond_false rfl rfl ?_
  repeat (first | refine JL.q (by first|(apply OQ.bz;rfl;rfl)|(apply OQ.move;rfl)|(apply OQ.assign;rfl)) rfl ?_ | refine JC.seq ?_ | refine JC.region ?_ | refine JL.nil ?_ | refine JE.next ?_ | refine JL.cj rfl rfl rfl rfl ?_)
  refine JC.cond_false rfl rfl ?_
  repeat (first | refine JL.q (by (apply OQ.move;rfl)) rfl ?_ | refine JC.seq ?_ | refine JC.region ?_ | refine JC.skip ?_ | refine JE.next ?_ | refine JE.aj ?_)
  refine JL.fR (vs:=[h.v]) (S':=[]) [] dX rfl rfl (fun w' hw'=>dY h w' (hs.holds hw' rfl) (by omega)) (.nil _) (by simp) ?_
  intro x hx w1 hw1 okx
  repeat (first | refine JL.q (by (apply OQ.assign;rfl)) rfl ?_ | refine JL.nil ?_ | refine JE.next ?_)
  refine JC.ret ?_
  skip
  exact JE.aJ rfl (RV.tmp rfl) fun w' hw=>⟨x,rfl,hw1.aC.trans hw.aC,hx,okx.holds hw rfl⟩
set_option maxHeartbeats 8000000 in
theorem kF (h : aq) (kd xn xm : Int) (tx : List Bt) (w : World) (hs : h.ok w) (hl : h.l.length≤100000000) (hk1 : kd≠1) (hk2 : kd≠2) (hk6 : kd≠6) {k : Nat} (hg : br h.l k) (hF : cc h.l k=[]) :
    Calls Tryd.prog 6 [h.v,.agg (bB kd xn xm tx).toArray].toArray w (de h.l w):=by
  refine enter (n:=45) Tryd.func6 rfl rfl rfl (aa.start w []) ?_
  have hg1 : decide (kd=1)=false:=decide_eq_false hk1
  have hg2 : decide (kd=2)=false:=decide_eq_false hk2
  have hg6 : decide (kd=6)=false:=decide_eq_false hk6
  refine JC.seq (JC.region ?_)
  refine JL.box (r:=bB kd xn xm tx) rfl rfl rfl fun b3 _=>?_
  repeat (first | refine JL.q (by first|(apply OQ.load;exact aF;rfl;exact .here;exact (Row.cell (v:=I kd) rfl))|(apply OQ.aU (a:=kd) (b:=1);rfl;rfl;exact hg1)|(apply OQ.assign;rfl)|(apply OQ.b8;rfl;rfl;rfl;exact (by decide);rfl)) rfl ?_ | refine JC.seq ?_ | refine JC.region ?_ | refine JC.block ?_ | refine JL.nil ?_ | refine JE.next ?_)
  refine JC.cond_false rfl rfl ?_
  repeat (first | refine JL.q (by first|(apply OQ.aU (a:=kd) (b:=2);rfl;rfl;exact hg2)|(apply OQ.assign;rfl)) rfl ?_ | refine JC.seq ?_ | refine JC.region ?_ | refine JL.nil ?_ | refine JE.next ?_)
  refine JC.cond_false rfl rfl ?_
  repeat (first | refine JL.q (by (apply OQ.move;rfl)) rfl ?_ | refine JC.seq ?_ | refine JC.region ?_ | refine JC.skip ?_ | refine JE.next ?_ | refine JE.aj ?_)
  refine JL.bC (ι:=FQ []) (vs:=[h.v]) (fun q=>.tuple #[.agg (aW h k q.1).toArray,.bool true]) (fun q=>an 22 q.1 (([] : List (Nat × Nat)).map (aO (bA h k)))) cw rfl rfl (fun q e he=>aT _ _ _ e he) (fun w' hw'=>dg h w' (hs.holds hw' rfl) (by omega) hg hF) ?_
  rintro ⟨q,hq⟩
  dsimp only
  repeat (refine JL.q (by first|(apply OQ.extract;rfl;rfl)|(apply OQ.move;rfl)) rfl ?_)
  refine JL.alloc (r:=cB) (by kernel_rfl) rfl fun b5 _=>?_
  refine JL.bI (cs:=aW h k q) (r:=cB) eA rfl rfl rfl (cx _ _ _) .here rfl ?_
  have hmv : aW h k q=[ak q ([] : List (Nat × Nat)).length,(ay h k).v,(h.snd (au h.l (k+1))).v]:=by unfold aW;rw [hF]
  rw [hmv]
  have hH3 : Has (⟨b5,Row 33 [ak q ([] : List (Nat × Nat)).length,(ay h k).v,(h.snd (au h.l (k+1))).v],true⟩::(an 22 q (([] : List (Nat × Nat)).map (aO (bA h k)))++[⟨b3,Row 26 (bB kd xn xm tx),true⟩])) b3 (Row 26 (bB kd xn xm tx)) true:=.there (kE .here)
  have hgt : decide (((([] : List (Nat × Nat)).length : Nat) : Int)>0)=false:=rfl
  repeat (first | refine JL.q (by first|(apply OQ.load;exact aF;rfl;exact hH3;exact (Row.cell (v:=I kd) rfl))|(apply OQ.aU (a:=kd) (b:=6);rfl;rfl;exact hg6)|(apply OQ.aP;rfl;rfl)|(apply OQ.move;rfl)|(apply OQ.assign;rfl)|(apply OQ.b8;rfl;rfl;rfl;exact (by decide);rfl)) rfl ?_ | refine JC.seq ?_ | refine JC.region ?_ | refine JC.block ?_ | refine JL.nil ?_ | refine JE.next ?_ | refine JL.aN rfl rfl ?_)
  refine JC.cond_false rfl rfl ?_
  repeat (first | refine JL.q (by first|(apply OQ.load;exact ez;rfl;exact .here;exact (Row.cell (v:=ak q ([] : List (Nat × Nat)).length) rfl))|(apply OQ.ng (q:=q) (k:=([] : List (Nat × Nat)).length);exact Tryd.underlying31;exact (fun _=>rfl);rfl)|(apply OQ.eo (b:=0);rfl;rfl;exact hgt)|(apply OQ.aP;rfl;rfl)|(apply OQ.move;rfl)|(apply OQ.assign;rfl)|(apply OQ.b8;rfl;rfl;rfl;exact (by decide);rfl)) rfl ?_ | refine JC.seq ?_ | refine JC.region ?_ | refine JL.nil ?_ | refine JE.next ?_ | refine JL.aN rfl rfl ?_)
  refine JC.cond_false rfl rfl ?_
  repeat (first | refine JL.q (by (apply OQ.move;rfl)) rfl ?_ | refine JC.seq ?_ | refine JC.region ?_ | refine JC.skip ?_ | refine JE.next ?_ | refine JE.aj ?_)
  refine JL.fR (vs:=[h.v]) (S':=[]) [] dX rfl rfl (fun w' hw'=>dY h w' (hs.holds hw' rfl) (by omega)) (.nil _) (by simp) ?_
  intro x hx w1 hw1 okx
  repeat (first | refine JL.q (by (apply OQ.assign;rfl)) rfl ?_ | refine JL.nil ?_ | refine JE.next ?_)
  refine JC.ret ?_
  skip
  exact JE.aJ rfl (RV.tmp rfl) fun w' hw=>⟨x,rfl,hw1.aC.trans hw.aC,hx,okx.holds hw rfl⟩
end Rw
end
section
set_option maxRecDepth 10000
open Sl bV eu
namespace Rw
theorem fy (g : List (Nat × Nat)) (p : Nat × Nat) (n : Nat) : jj (g++[p]) n=g++[(p.1,p.2+n)]:=by
  unfold jj
  have e1 : (g++[p]).length - 1=g.length:=by simp
  have e2 : (g++[p]).getD g.length (0,0)=p:=by simp
  rw [e1,e2,List.set_append_right _ _ (Nat.le_refl _),Nat.sub_self]
  rfl
theorem gZ (l : List Bt) (a b n : Nat) : aY l (a,b+n)=aY l (a,b)++(l.drop (a+b)).take n:=by
  unfold aY
  dsimp only
  rw [List.take_add,List.drop_drop]
def nE (l : List Bt) (k : Nat) (f : List (Nat × Nat)) : Prop:=∃ g p,f=g++[p]∧p.1+p.2=au l k∧(f.map (aY l)).flatten=l.take (au l k)
theorem nF {l : List Bt} {k : Nat} {f : List (Nat × Nat)} (h : nE l k f) : nE l (k+1) (jj f (aH (l.drop (au l k)))):=by
  obtain ⟨g,p,rfl,h2,h3⟩:=h
  have hat : au l (k+1)=au l k+aH (l.drop (au l k)):=rfl
  refine ⟨g,(p.1,p.2+aH (l.drop (au l k))),fy _ _ _,by dsimp only;omega,?_⟩
  rw [fy,hat,List.take_add,← h3,List.map_append,List.map_append,List.flatten_append,List.flatten_append,List.append_assoc]
  congr 1
  show aY l (p.1,p.2+_)++[]=(aY l p++[])++_
  rw [List.append_nil,List.append_nil,gZ,h2]
theorem qL {l : List Bt} {k : Nat} {f : List (Nat × Nat)} (h : nE l k f) : nE l k (c8 l k f):=by
  unfold c8
  split
  · exact h
  · obtain ⟨g,p,h1,h2,h3⟩:=h
    refine ⟨f,(au l k,0),rfl,rfl,?_⟩
    rw [List.map_append,List.flatten_append,h3]
    simp [aY]
theorem qa {l : List Bt} (h0 : cE ((bR l 0).getD 0 0)=false) : ∀ k,nE l (k+1) (gR l (k+1))
  | 0=>by
    refine nF (k:=0) (f:=c8 l 0 []) ⟨[],(0,0),?_,rfl,?_⟩
    · unfold c8
      rw [h0]
      rfl
    · unfold c8
      rw [h0]
      simp [aY,au]
  | k+1=>nF (qL (qa h0 k))
theorem lq {l : List Bt} (h : aZ l≠[]) : ((aZ l).map (aY l)).flatten=l:=by
  unfold aZ at h ⊢
  split at h
  · exact absurd rfl h
  · rename_i hc
    rw [if_neg hc]
    have hn : (aM l).length≠0:=fun e=>hc (.inl e)
    have hb : cE ((bR l 0).getD 0 0)=false:=Bool.eq_false_iff.2 fun e=>hc (.inr e)
    obtain ⟨k,hk⟩ : ∃ k,(aM l).length=k+1:=⟨(aM l).length - 1,by omega⟩
    obtain ⟨_,_,_,_,h3⟩:=qa hb k
    rw [← hk] at h3
    rw [h3,uG,List.take_length]
theorem lu {l : List Bt} {k : Nat} (hg : br l k) : l.take (au l k)++(bO l k++l.drop (au l (k+1)))=l:=by
  have hat : au l (k+1)=au l k+aH (l.drop (au l k)):=rfl
  unfold bO
  rw [hg.2.1,List.length_nil,List.drop_zero,hat,← List.drop_drop,List.take_append_drop,List.take_append_drop]
set_option maxHeartbeats 8000000 in
theorem l9 (p b cap : Nat) (gv cv : Value) (fs : List Value) (kd xn xm : Int) (tx : List Bt) (w : World) (S : List Nat) (h0 : aa w S (cq p b cap gv cv fs) w) (hn : 0<fs.length) (hn2 : fs.length<4611686018427387904) (hk : ∀ j ∈ [3,4,5,7,8],kd≠j) :
    Calls Tryd.prog 12 [Pt p 0,.agg (bB kd xn xm tx).toArray].toArray w fun e w'=>e=.returned (.tuple #[])∧aa w S (cq p b cap gv cv fs) w':=by
  refine enter (n:=87) Tryd.func12 rfl rfl rfl h0 ?_
  obtain ⟨n,hnn⟩ : ∃ n,fs.length=n:=⟨_,rfl⟩
  obtain ⟨at_,hat⟩ : ∃ a,cg xn n=a:=⟨_,rfl⟩
  have hav : I (xn % (n : Int))=N at_:=hat ▸ iQ (hnn ▸ hn)
  show JC _ _ _ _ _ _ _ [⟨p,Row 33 [.slice (some ⟨b,0,none⟩) fs.length cap,gv,cv],true⟩,⟨b,Sl.Own 22 1 fs.length cap fs,true⟩]
  rw [hnn] at hn hn2 ⊢
  have hg3 : decide (kd=3)=false:=decide_eq_false (hk 3 (by simp))
  have hg4 : decide (kd=4)=false:=decide_eq_false (hk 4 (by simp))
  have hg5 : decide (kd=5)=false:=decide_eq_false (hk 5 (by simp))
  have hg7 : decide (kd=7)=false:=decide_eq_false (hk 7 (by simp))
  have hg8 : decide (kd=8)=false:=decide_eq_false (hk 8 (by simp))
  refine JC.seq (JC.region ?_)
  refine JL.box (r:=bB kd xn xm tx) rfl rfl rfl fun b3 _=>?_
  refine JL.nil (JE.next ?_)
  refine JC.seq ?_
  refine JC.quiet di (by kernel_rfl) ?_
  repeat (first | refine JL.q (by first|(apply OQ.load;exact aF;rfl;exact .here;exact (Row.cell (v:=I xn) rfl))|(apply OQ.load;exact ez;rfl;exact (.there .here);exact (Row.cell (v:=.slice (some ⟨b,0,none⟩) n cap) rfl))|(apply OQ.len (k:=n) (ad:=some ⟨b,0,none⟩) (cap:=cap);exact Tryd.underlying31;rfl)|(apply OQ.to;exact (OQ.aB (vs:=[I xn,N n]) aV rfl (fun w' _=>bf xn n hn hn2 w'));exact hav)|(apply OQ.load;exact aF;rfl;exact .here;exact (Row.cell (v:=I kd) rfl))|(apply OQ.aU (a:=kd) (b:=3);rfl;rfl;exact hg3)|(apply OQ.move;rfl)|(apply OQ.assign;rfl)|(apply OQ.cl;rfl)|(apply OQ.b8;rfl;rfl;rfl;exact (by decide);rfl)) rfl ?_ | refine JQ.q (by first|(apply OQ.load;exact aF;rfl;exact .here;exact (Row.cell (v:=I xn) rfl))|(apply OQ.load;exact ez;rfl;exact (.there .here);exact (Row.cell (v:=.slice (some ⟨b,0,none⟩) n cap) rfl))|(apply OQ.len (k:=n) (ad:=some ⟨b,0,none⟩) (cap:=cap);exact Tryd.underlying31;rfl)|(apply OQ.to;exact (OQ.aB (vs:=[I xn,N n]) aV rfl (fun w' _=>bf xn n hn hn2 w'));exact hav)|(apply OQ.load;exact aF;rfl;exact .here;exact (Row.cell (v:=I kd) rfl))|(apply OQ.aU (a:=kd) (b:=3);rfl;rfl;exact hg3)|(apply OQ.move;rfl)|(apply OQ.assign;rfl)|(apply OQ.cl;rfl)|(apply OQ.b8;rfl;rfl;rfl;exact (by decide);rfl)) rfl ?_ | refine JC.seq ?_ | refine JC.region ?_ | refine JC.block ?_ | refine JL.nil ?_ | refine JQ.nil ?_ | refine JE.next ?_)
  refine JC.cond_false rfl rfl ?_
  repeat (first | refine JL.q (by first|(apply OQ.aU (a:=kd) (b:=4);rfl;rfl;exact hg4)|(apply OQ.assign;rfl)) rfl ?_ | refine JC.seq ?_ | refine JC.region ?_ | refine JL.nil ?_ | refine JE.next ?_)
  refine JC.cond_false rfl rfl ?_
  repeat (first | refine JL.q (by first|(apply OQ.aU (a:=kd) (b:=5);rfl;rfl;exact hg5)|(apply OQ.assign;rfl)) rfl ?_ | refine JC.seq ?_ | refine JC.region ?_ | refine JL.nil ?_ | refine JE.next ?_)
  refine JC.cond_false rfl rfl ?_
  repeat (first | refine JL.q (by first|(apply OQ.aU (a:=kd) (b:=7);rfl;rfl;exact hg7)|(apply OQ.assign;rfl)) rfl ?_ | refine JC.seq ?_ | refine JC.region ?_ | refine JL.nil ?_ | refine JE.next ?_)
  refine JC.cond_false rfl rfl ?_
  repeat (first | refine JL.q (by first|(apply OQ.aU (a:=kd) (b:=8);rfl;rfl;exact hg8)|(apply OQ.assign;rfl)) rfl ?_ | refine JC.seq ?_ | refine JC.region ?_ | refine JL.nil ?_ | refine JE.next ?_)
  refine JC.cond_false rfl rfl ?_
  repeat (first | refine JC.skip ?_ | refine JE.aj ?_)
  refine JE.jd rfl fun w2 hw=>⟨rfl,?_⟩
  unfold cq
  rw [hnn]
  exact hw.weak (.drop _ _ _ (aA.refl _))
end Rw
end
end Go.Proofs.YtbmagnpmfpfckaaDoor
