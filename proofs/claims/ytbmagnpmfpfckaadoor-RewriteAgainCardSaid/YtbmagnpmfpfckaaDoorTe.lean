/-
  Of no statement by itself: the texts RwWp, RwAr, RwAa, RwWr, Plain, Prp, RwRo, RwAg, FraA in one.
  Conditions: each theorem's own.
-/
import Derived.Test.YtbmagnpmfpfckaaDoorTd
import Derived.Test.YtbmagnpmfpfckaaDoorProg
import Derived.Test.YtbmagnpmfpfckaaDoorRows
import Derived.ProofKit
import Derived.OpenShut
import Derived.Below
import Derived.Stop.Joined
import Derived.ChangeMaps5
import Derived.Deep.SlicePairs
import Derived.SliceStrings
import Derived.SizedLaws
import Derived.Test.YtbmagnpmfpfckaaDoorTie
import Derived.SevenTiedAt
import Derived.LaidMore
import Derived.Lay
import Derived.Handed
import Derived.HandedShaped
set_option linter.unusedSimpArgs false
set_option linter.unusedVariables false
namespace Go.Proofs.YtbmagnpmfpfckaaDoor
section
set_option maxRecDepth 10000
open Sl bV eu
namespace Rw
theorem JR.exit {P : Program} {n : Nat} {w0 : World} {S : List Nat} {Q : Exit→Act→World→Prop} {E : Env} {M : List az} {m r : Nat} {id : Nat} (h : JE n w0 S Q (.exit id) E M) : JR P n w0 S r m Q (.exit id) E M:=⟨fun a w ha hw=>wpIn_exit (h.go a w ha hw)⟩
def wpS (wd : Nat) (l : List Bt) : Nat→Nat × List Bt × List Bt
  | 0=>(0,[],[])
  | k+1=>
    if (wpS wd l k).1=3∧ko (wpS wd l k).1 (bR l k)=3 then (3,(wpS wd l k).2.1,(wpS wd l k).2.2++bR l k)
    else if (wpS wd l k).1=3 then (ko (wpS wd l k).1 (bR l k),(wpS wd l k).2.1++dF wd (wpS wd l k).2.2++[13,10]++bR l k++bO l k,[])
    else (ko (wpS wd l k).1 (bR l k),(wpS wd l k).2.1++bR l k++bO l k,(wpS wd l k).2.2)
def fA (wd : Nat) (l : List Bt) : List Bt:=(wpS wd l (aM l).length).2.1++dF wd (wpS wd l (aM l).length).2.2
theorem jv {wd : Nat} (hwd : 0<wd) (l : List Bt) : (dF wd l).length≤3 * l.length:=by
  have:=mz (l:=l) hwd (rH l.length wd) (Nat.le_refl _)
  unfold dF
  omega
theorem u6 {l : List Bt} {k : Nat} (hk : k<(aM l).length) : 1≤aH (l.drop (au l k)):=by
  have h4:=(dj l k).1 hk
  exact fj (by rw [ne_eq,List.drop_eq_nil_iff];omega)
theorem mB {wd : Nat} (hwd : 0<wd) (h : aq) : ∀ k,k≤(aM h.l).length→(wpS wd h.l k).2.1.length+3 * (wpS wd h.l k).2.2.length≤3 * au h.l k
  | 0,_=>Nat.zero_le _
  | k+1,hk=>by
    have ih:=mB hwd h k (by omega)
    have h1:=fI h k
    rw [jX,dn] at h1
    have h2:=u6 (l:=h.l) (k:=k) (by omega)
    have h3 : au h.l (k+1)=au h.l k+aH (h.l.drop (au h.l k)):=rfl
    have h4:=jv hwd (wpS wd h.l k).2.2
    rw [wpS,h3]
    split
    · dsimp only
      rw [List.length_append]
      omega
    · split
      · dsimp only
        simp only [List.length_append,List.length_cons,List.length_nil]
        omega
      · dsimp only
        simp only [List.length_append]
        omega
theorem ry {wd : Nat} (hwd : 0<wd) (h : aq) : (fA wd h.l).length≤3 * h.l.length:=by
  have h1:=mB hwd h _ (Nat.le_refl _)
  have h2:=jv hwd (wpS wd h.l (aM h.l).length).2.2
  have h3:=bF h.l (aM h.l).length
  unfold fA
  rw [List.length_append]
  omega
structure xd where
  q : Acc
  r : Acc
  k : Nat
abbrev u7 (b3 b5 b6 b7 wd : Nat) (l : List Bt) (s : xd) : List az:=⟨b3,Row 3 [N wd],true⟩::⟨b5,Row 22 [ak s.q (wpS wd l s.k).2.1.length],true⟩::⟨b6,Row 22 [ak s.r (wpS wd l s.k).2.2.length],true⟩::⟨b7,Row 3 [N (wpS wd l s.k).1],true⟩::(an 5 s.q ((wpS wd l s.k).2.1.map U8)++an 5 s.r ((wpS wd l s.k).2.2.map U8))
theorem lF {b3 b5 b6 b7 wd : Nat} {l : List Bt} {s : xd} : ∀ e ∈ u7 b3 b5 b6 b7 wd l s,∀ o,e.A o→o.isCells=true:=by
  intro e he o hA
  simp only [List.mem_cons,List.mem_append] at he
  rcases he with rfl | rfl | rfl | rfl | he | he
  · exact aX o hA
  · exact aX o hA
  · exact aX o hA
  · exact aX o hA
  · exact cJ e he o hA
  · exact cJ e he o hA
theorem tX {b3 b5 b6 b7 wd : Nat} {l : List Bt} {s : xd} : ∀ e ∈ u7 b3 b5 b6 b7 wd l s,e.wr=true:=by
  intro e he
  simp only [List.mem_cons,List.mem_append] at he
  rcases he with rfl | rfl | rfl | rfl | he | he
  · rfl
  · rfl
  · rfl
  · rfl
  · exact aT _ _ _ e he
  · exact aT _ _ _ e he
theorem tY {w0 w : World} {S : List Nat} {e : TypeId} {q r : Acc} {xs : List Value} {l : List Bt} {B : List az} (hw : aa w0 S (an e q xs++(B++an e r (l.map U8))) w) : dW (eH r l) (keys (an e q xs)):=by
  intro _ a ha hm
  cases r with
  | none=>cases ha
  | some p'=>
    have ha : (⟨p'.1,0,none⟩ : Addr)=a:=Option.some.inj ha
    subst ha
    cases q with
    | none=>cases hm
    | some p=>
      have hm : p'.1=p.1:=List.mem_singleton.1 hm
      have hn:=hw.nodup
      have hn : (p.1::((B++an e (some p') (l.map U8)).map az.b)).Nodup:=hn
      refine (List.nodup_cons.1 hn).1 ?_
      rw [List.map_append]
      refine List.mem_append_right _ ?_
      rw [← hm]
      exact List.mem_singleton.2 rfl
theorem KL.eB {P : Program} {D n : Nat} {w0 : World} {S : List Nat} {ops : Array Oper} {Q : Exit→Act→World→Prop} {l : List Oper} {E : Env} {d : Nat} {ty : TypeId} {pos : String} {aft : Array Edge} {ι : Type} {X M0 : List az} (vf : ι→Value) (Yf : ι→List az) {f : FuncId} {xs : List Operand} {ats : Array TypeId} {vs : List Value} (hg : aR P f) (hx : eY E xs=some vs) (hd : Nat.blt d n=true) (hX : ∀ e ∈ X,e.wr=true) (hY : ∀ i,∀ e ∈ Yf i,e.wr=true)
    (hc : ∀ w,aa w0 S (X++M0) w→aa w (keys X) X w→Calls P f vs.toArray w fun e w'=>∃ i,e=.returned (vf i)∧aa w (keys X) (Yf i) w')
    (k : ∀ i,KL P D n w0 S ops Q l ((d,vf i)::E) (Yf i++M0)) : KL P D n w0 S ops Q (⟨some d,.call ⟨.value (.func f),xs.toArray,ats⟩,ty,pos,aft,none⟩::l) E (X++M0):=
  ⟨fun a w ha hw=>wpList_plain rfl fun K hK=>by
    have e:=ek (ty:=ty) (pos:=pos) (aft:=aft) (ats:=ats) (dst:=some d) (g:=none) hg ha.base hx w
    rw [iy] at e
    unfold Oper.wp
    rw [e]
    exact (hc w hw (hw.own.weak (en _ _))).mono fun e w' ⟨i,h1,h2⟩=>by subst h1;exact hK _ _ ((k i).go _ _ (ha.put d _ hd) (hw.vn h2 hX (hY i)))⟩
theorem KL.perm {P : Program} {D n : Nat} {w0 : World} {S : List Nat} {ops : Array Oper} {Q : Exit→Act→World→Prop} {l : List Oper} {E : Env} {M M' : List az} (k : KL P D n w0 S ops Q l E M') (hp : M.Perm M') : KL P D n w0 S ops Q l E M:=⟨fun a w ha hw=>k.go a w ha (hw.perm hp)⟩
theorem kq {w0 w : World} {S : List Nat} {q r : Acc} {m a : List Bt} {wd : Nat} {B : List az} (hw : aa w0 S (an 5 q (m.map U8)++(B++an 5 r (a.map U8))) w) (h0 : aa w (keys (an 5 q (m.map U8))) (an 5 q (m.map U8)) w) (hq : q=none→m=[]) (hr : r=none→a=[]) (hwd : 0<wd) (hwd2 : wd≤1000000000) (hl : a.length≤1000000000) (hml : m.length≤10000000000) :
    Calls Tryd.prog 45 [ak q m.length,ak r a.length,N wd].toArray w fun e w'=>∃ q2 : {q2 : Acc // q2=none→m++dF wd a=[]},e=.returned (ak q2.1 (m++dF wd a).length)∧aa w (keys (an 5 q (m.map U8))) (an 5 q2.1 ((m++dF wd a).map U8)) w':=by
  have hok : (eH r a).ok w:=fc (M:=an 5 q (m.map U8)++B) (hw.perm (by rw [← List.append_assoc];exact List.perm_append_comm))
  have:=tQ q m (eH r a) wd _ w h0 hq hok (tY hw) hwd hwd2 (by rw [eI hr];exact hl) hml
  rw [e9,eI hr] at this
  exact this
theorem tZ (X A B : List az) : aA (X++(A++[])) (X++(A++B)):=by
  rw [List.append_nil,← List.append_assoc]
  exact en _ _
theorem mC : aR Tryd.prog 44:=⟨_,Tryd.func44,rfl,by kernel_rfl⟩
set_option maxHeartbeats 16000000 in
theorem rz (h : aq) (wd : Nat) (w : World) (hs : h.ok w) (hl : h.l.length≤100000000) (hwd : 0<wd) (hwd2 : wd≤1000000000) :
    Calls Tryd.prog 44 [h.v,N wd].toArray w fun e w'=>∃ q : {q : Acc // q=none→fA wd h.l=[]},e=.returned (ak q.1 (fA wd h.l).length)∧aa w [] (an 5 q.1 ((fA wd h.l).map U8)) w':=by
  refine jP (n:=45) Tryd.func44 rfl rfl rfl (aa.start w []) ?_
  refine JC.seq (JC.region ?_)
  refine JL.box (r:=[N wd]) rfl rfl rfl fun b3 _=>?_
  repeat (first | refine JL.q (by (apply OQ.assign;rfl)) rfl ?_ | refine JC.seq ?_ | refine JC.region ?_ | refine JL.nil ?_ | refine JE.next ?_)
  refine JL.alloc (r:=[.slice none 0 0]) (by kernel_rfl) rfl fun b5 _=>?_
  refine JL.alloc (r:=[.slice none 0 0]) (by kernel_rfl) rfl fun b6 _=>?_
  repeat (first | refine JC.seq ?_ | refine JC.region ?_ | refine JL.nil ?_ | refine JE.next ?_)
  refine JL.alloc (r:=[N 0]) (by kernel_rfl) rfl fun b7 _=>?_
  refine JL.aK (v:=N 0) (r':=[N 0]) kU rfl rfl rfl rfl .here Nat.zero_lt_one rfl ?_
  repeat (first | refine JL.q (by (apply OQ.move;rfl)) rfl ?_ | refine JC.seq ?_ | refine JC.region ?_ | refine JL.nil ?_ | refine JE.next ?_)
  refine JL.bC (ι:=Nat) (vs:=[h.v]) (fun b=>jT b) (fun b=>[⟨b,Row 22 [h.v],true⟩]) eK rfl rfl (fun b e he=>by rw [List.mem_singleton.1 he]) (fun w' _=>fE h w') fun be=>?_
  repeat (first | refine JC.block ?_ | refine JL.nil ?_ | refine JE.next ?_)
  refine JC.jR (ι:=xd) (κ:=Unit) (τ:=xd) (fun k=>#[(aD h k).v,(ay h k).v]) [⟨be,Row 22 [h.v],true⟩] (dA h) (aM h.l).length (fun k=>(14,(ay h k).v)::(13,(aD h k).v)::[(0,h.v),(3,Pt b3 0),(5,Pt b5 0),(6,Pt b6 0),(7,Pt b7 0)])
    (u7 b3 b5 b6 b7 wd h.l) (fun k s=>s.k=k∧(s.q=none→(wpS wd h.l k).2.1=[])∧(s.r=none→(wpS wd h.l k).2.2=[])) (u7 b3 b5 b6 b7 wd h.l) (fun k _=>[(9,(ay h k).v),(8,(aD h k).v),(0,h.v),(3,Pt b3 0),(5,Pt b5 0),(6,Pt b6 0),(7,Pt b7 0)]) (fun k s=>s.k=k∧(s.q=none→(wpS wd h.l k).2.1=[])∧(s.r=none→(wpS wd h.l k).2.2=[]))
    (fun _=>[]) (fun _=>False)
    ?hput (fun _=>rfl) rfl (enters_of Tryd.func29 (by kernel_rfl) rfl) (dV h hs (by omega) .here) (fun e he=>by rw [List.mem_singleton.1 he]) (fun _=>tX) (fun _=>tX) (fun _ e he=>by cases he) (fun _=>lF) (fun _=>lF) (fun _=>j3)
    (fun b hb=>⟨cu hs b hb,by simp⟩) ⟨none,none,0⟩ ⟨rfl,fun _=>rfl,fun _=>rfl⟩ ?hMz ?hasg ?hbody ?hdone (fun _ _ hf=>hf.elim)
  case hput=>
    intro k a ha
    rw [jq a 13 14 _ _ ha.defers]
    exact (((ha.put 13 _ rfl).put 14 _ rfl)).sub (by repeat (first | exact ax.nil | refine ax.cons _ _ _ rfl ?_))
  case hMz=>
    intro w' hw'
    refine hw'.perm ?_
    exact .cons _ (List.reverse_perm [(⟨b3,Row 3 [N wd],true⟩ : az),⟨b5,Row 22 [.slice none 0 0],true⟩,⟨b6,Row 22 [.slice none 0 0],true⟩,⟨b7,Row 3 [N 0],true⟩])
  case hasg=>
    intro r k s w1 hi hk hH
    exact JR.seq (JR.region rfl (ag dz) (JL.q (OQ.assign rfl) rfl (JL.nil (JE.bW (JR.region rfl dz (JL.q (OQ.assign rfl) rfl (JL.nil (JE.qx s hi (by repeat (first | exact ax.nil | refine ax.cons _ _ _ rfl ?_)) (aA.refl _)))))))))
  case hdone=>
    rintro D ⟨q,r,k⟩ ⟨hk,hq,hr⟩
    dsimp only at hk hq hr
    subst hk
    have hlen:=mB hwd h _ (Nat.le_refl _)
    have hat:=bF h.l (aM h.l).length
    have hpB : fA wd h.l=(wpS wd h.l (aM h.l).length).2.1++dF wd (wpS wd h.l (aM h.l).length).2.2:=rfl
    rw [hpB]
    obtain ⟨p,m,a,hst⟩ : ∃ p m a,wpS wd h.l (aM h.l).length=(p,m,a):=⟨_,_,_,rfl⟩
    rw [hst] at hq hr hlen ⊢
    dsimp only at hq hr hlen ⊢
    repeat (first | refine KC.seq ?_ | refine KC.region ?_ | refine KE.next ?_ | refine KE.aj ?_)
    show KL _ _ _ _ _ _ _ _ _ (⟨D,fN,true⟩::⟨b3,Row 3 [N wd],true⟩::⟨b5,Row 22 [ak q (wpS wd h.l (aM h.l).length).2.1.length],true⟩::⟨b6,Row 22 [ak r (wpS wd h.l (aM h.l).length).2.2.length],true⟩::⟨b7,Row 3 [N (wpS wd h.l (aM h.l).length).1],true⟩::(an 5 q ((wpS wd h.l (aM h.l).length).2.1.map U8)++an 5 r ((wpS wd h.l (aM h.l).length).2.2.map U8)))
    rw [hst]
    dsimp only
    repeat (refine KL.q (by first|(apply OQ.load;exact bX;rfl;exact (.there (.there .here));exact (Row.cell (v:=ak q m.length) rfl))|(apply OQ.load;exact bX;rfl;exact (.there (.there (.there .here)));exact (Row.cell (v:=ak r a.length) rfl))|(apply OQ.load;exact aF;rfl;exact (.there .here);exact (Row.cell (v:=N wd) rfl))) rfl ?_)
    refine KL.perm (M':=an 5 q (m.map U8)++((⟨D,fN,true⟩::⟨b3,Row 3 [N wd],true⟩::⟨b5,Row 22 [ak q m.length],true⟩::⟨b6,Row 22 [ak r a.length],true⟩::[⟨b7,Row 3 [N p],true⟩])++an 5 r (a.map U8))) ?_ (List.perm_append_comm_assoc [_,_,_,_,_] _ _)
    refine KL.eB (ι:={q2 : Acc // q2=none→m++dF wd a=[]}) (vs:=[ak q m.length,ak r a.length,N wd]) (fun q2=>ak q2.1 (m++dF wd a).length) (fun q2=>an 5 q2.1 ((m++dF wd a).map U8)) iG rfl rfl (fun e he=>aT _ _ _ e he) (fun q2 e he=>aT _ _ _ e he) (fun w' hw' h0=>kq hw' h0 hq hr hwd hwd2 (by omega) (by omega)) fun q2=>?_
    refine KL.perm (M':=⟨D,fN,true⟩::⟨b3,Row 3 [N wd],true⟩::⟨b5,Row 22 [ak q m.length],true⟩::⟨b6,Row 22 [ak r a.length],true⟩::⟨b7,Row 3 [N p],true⟩::(an 5 q2.1 ((m++dF wd a).map U8)++an 5 r (a.map U8))) ?_ (List.perm_append_comm_assoc _ [_,_,_,_,_] _)
    repeat (first | refine KL.q (by (apply OQ.assign;rfl)) rfl ?_ | refine KL.nil ?_ | refine KE.next ?_)
    refine KC.ret ?_
    exact KE.pZ rfl (RV.tmp rfl) fun w' hw=>⟨q2,rfl,hw.weak (.drop _ _ _ (.drop _ _ _ (.drop _ _ _ (.drop _ _ _ (en _ _)))))⟩
  case hbody=>
    rintro rr k ⟨q,r,k'⟩ w1 ⟨hk',hq,hr⟩ hk hH
    dsimp only at hk' hq hr
    subst hk'
    have tok:=eM (hs.holds hH rfl) k'
    have eok:=dB (hs.holds hH rfl) k'
    have htl:=jX h k'
    have hel:=dn h k'
    have hee:=fI h k'
    have hat:=bF h.l (k'+1)
    have hats : au h.l (k'+1)=au h.l k'+aH (h.l.drop (au h.l k')):=rfl
    have hlen:=mB hwd h k' (by omega)
    have taw : ny (aD h k') (gJ (u7 b3 b5 b6 b7 wd h.l ⟨q,r,k'⟩)):=fun h0 a ha hm=>by
      have h1:=(eM hs k').lt h0 a ha
      have h2:=hH.fh _ hm
      omega
    have eaw : ny (ay h k') (gJ (u7 b3 b5 b6 b7 wd h.l ⟨q,r,k'⟩)):=fun h0 a ha hm=>by
      have h1:=(dB hs k').lt h0 a ha
      have h2:=hH.fh _ hm
      omega
    obtain ⟨p,m,a,hst⟩ : ∃ p m a,wpS wd h.l k'=(p,m,a):=⟨_,_,_,rfl⟩
    obtain ⟨p',hp'⟩ : ∃ x,ko p (aD h k').l=x:=⟨_,rfl⟩
    have hnx : wpS wd h.l (k'+1)=if p=3∧p'=3 then (3,m,a++(aD h k').l) else if p=3 then (p',m++dF wd a++[13,10]++(aD h k').l++(ay h k').l,[]) else (p',m++(aD h k').l++(ay h k').l,a):=by
      rw [wpS,hst,← hp',htl,hel]
    rw [hst] at hq hr hlen
    dsimp only at hq hr hlen
    have hnc : ∀ w',aa w1 (gJ (u7 b3 b5 b6 b7 wd h.l ⟨q,r,k'⟩)) (u7 b3 b5 b6 b7 wd h.l ⟨q,r,k'⟩) w'→Calls Tryd.prog 65 [N p,(aD h k').v].toArray w' fun e w2=>e=.returned (N p')∧Ext w' w2:=fun w' hw'=>by
      have:=tW p (aD h k') w' (dh tok hw' taw) (by omega)
      rw [hp'] at this
      exact this
    revert hnc taw eaw
    generalize hSS : gJ (u7 b3 b5 b6 b7 wd h.l ⟨q,r,k'⟩)=SS
    intro taw eaw hnc
    show JR _ _ _ _ _ _ _ _ _ (⟨b3,Row 3 [N wd],true⟩::⟨b5,Row 22 [ak q (wpS wd h.l k').2.1.length],true⟩::⟨b6,Row 22 [ak r (wpS wd h.l k').2.2.length],true⟩::⟨b7,Row 3 [N (wpS wd h.l k').1],true⟩::(an 5 q ((wpS wd h.l k').2.1.map U8)++an 5 r ((wpS wd h.l k').2.2.map U8)))
    have hnc : ∀ w',aa w1 SS (⟨b3,Row 3 [N wd],true⟩::⟨b5,Row 22 [ak q m.length],true⟩::⟨b6,Row 22 [ak r a.length],true⟩::⟨b7,Row 3 [N p],true⟩::(an 5 q (m.map U8)++an 5 r (a.map U8))) w'→Calls Tryd.prog 65 [N p,(aD h k').v].toArray w' fun e w2=>e=.returned (N p')∧Ext w' w2:=fun w' hw'=>hnc w' (by show aa _ _ (⟨b3,Row 3 [N wd],true⟩::⟨b5,Row 22 [ak q (wpS wd h.l k').2.1.length],true⟩::⟨b6,Row 22 [ak r (wpS wd h.l k').2.2.length],true⟩::⟨b7,Row 3 [N (wpS wd h.l k').1],true⟩::(an 5 q ((wpS wd h.l k').2.1.map U8)++an 5 r ((wpS wd h.l k').2.2.map U8))) _;rw [hst];exact hw')
    rw [hst]
    dsimp only
    repeat (first | refine JL.q (by first|(apply OQ.load;exact aF;rfl;exact (.there (.there (.there .here)));exact (Row.cell (v:=N p) rfl))|(apply OQ.aB (vs:=[N p,(aD h k').v]);exact ru;rfl;exact hnc)|(apply OQ.move;rfl)|(apply OQ.assign;rfl)) rfl ?_ | refine JR.seq ?_ | refine JR.block ?_ | refine JL.nil ?_ | with_reducible refine JE.bW ?_ | refine JR.region rfl (by first | with_reducible exact ah | with_reducible exact ag ah | with_reducible exact ai ah | with_reducible exact ag (ai ah) | with_reducible exact af | with_reducible exact ag af | with_reducible exact ai af | with_reducible exact ag (ai af) | with_reducible exact ag (ag (ai af))) ?_)
    refine JL.aK (v:=N p') (r':=[N p']) kU rfl rfl rfl rfl (.there (.there (.there .here))) Nat.zero_lt_one rfl ?_
    by_cases h3 : p=3
    · subst h3
      have g1 : decide (((3 : Nat) : Int)=3)=true:=rfl
      by_cases h4 : p'=3
      · subst h4
        have hn1 : wpS wd h.l (k'+1)=(3,m,a++(aD h k').l):=by rw [hnx,if_pos ⟨rfl,rfl⟩]
        repeat (first | refine JL.q (by first|(apply OQ.aU (a:=((3 : Nat) : Int)) (b:=3);rfl;rfl;exact g1)|(apply OQ.load;exact aF;rfl;exact (.there (.there (.there .here)));exact (Row.cell (v:=N 3) rfl))|(apply OQ.aP;rfl;rfl)|(apply OQ.move;rfl)) rfl ?_ | refine JR.seq ?_ | refine JL.nil ?_ | with_reducible refine JE.bW ?_ | refine JL.aN rfl rfl ?_ | refine JR.region rfl (by first | with_reducible exact ah | with_reducible exact ag ah | with_reducible exact ai ah | with_reducible exact ag (ai ah) | with_reducible exact af | with_reducible exact ag af | with_reducible exact ai af | with_reducible exact ag (ai af) | with_reducible exact ag (ag (ai af))) ?_)
        refine JR.cond rfl (fun _=>?_) (fun h=>by cases h)
        repeat (first | refine JL.q (by first|(apply OQ.load;exact bX;rfl;exact (.there (.there .here));exact (Row.cell (v:=ak r a.length) rfl))|(apply OQ.move;rfl)) rfl ?_ | refine JR.seq ?_ | refine JR.region rfl (by first | with_reducible exact ah | with_reducible exact ag ah | with_reducible exact ai ah | with_reducible exact ag (ai ah) | with_reducible exact af | with_reducible exact ag af | with_reducible exact ai af | with_reducible exact ag (ai af) | with_reducible exact ag (ag (ai af))) ?_)
        refine JL.perm (M':=an 5 r (a.map U8)++(⟨b3,Row 3 [N wd],true⟩::⟨b5,Row 22 [ak q m.length],true⟩::⟨b6,Row 22 [ak r a.length],true⟩::⟨b7,Row 3 [N 3],true⟩::an 5 q (m.map U8))) ?_ ((List.Perm.append_left [_,_,_,_] List.perm_append_comm).trans (List.perm_append_comm_assoc [_,_,_,_] _ _))
        refine JL.bS (xs:=a.map U8) (cs:=(aD h k').l.map U8) (m:=(aD h k').l.length) (ad:=(aD h k').ad) (sc:=(aD h k').cap) r Tryd.underlying22 eD (fun e=>by rw [hr e];rfl) (by rw [List.length_map];rfl) rfl (List.length_map _) (fun w' hw'=>(dh tok hw' taw).reads) (fun v hv=>by obtain ⟨c,_,rfl⟩:=List.mem_map.1 hv;rfl) rfl (by rw [List.length_map];omega) (by rw [List.length_map];omega) rfl fun r2 hr2=>?_
        rw [show a.map U8++(aD h k').l.map U8=(a++(aD h k').l).map U8 from (List.map_append ..).symm] at hr2 ⊢
        rw [List.length_map]
        obtain ⟨a2,ha2⟩ : ∃ x,a++(aD h k').l=x:=⟨_,rfl⟩
        have ha2n : a2.length=a.length+(aD h k').l.length:=by rw [← ha2,List.length_append]
        rw [ha2] at hr2 ⊢
        refine JL.perm (M':=⟨b3,Row 3 [N wd],true⟩::⟨b5,Row 22 [ak q m.length],true⟩::⟨b6,Row 22 [ak r a.length],true⟩::⟨b7,Row 3 [N 3],true⟩::(an 5 q (m.map U8)++an 5 r2 (a2.map U8))) ?_ ((List.perm_append_comm_assoc _ [_,_,_,_] _).trans (List.Perm.append_left [_,_,_,_] List.perm_append_comm))
        skip
        refine JL.aK (v:=ak r2 a2.length) (r':=[ak r2 a2.length]) bY rfl rfl (by cases r2 <;> rfl) (by cases r2 <;> rfl) (.there (.there .here)) Nat.zero_lt_one rfl ?_
        repeat (first | refine JL.nil ?_ | with_reducible refine JE.bW ?_)
        refine JR.exit ?_
        refine JE.aS ?_
        refine JE.bE ?_
        refine JE.fZ ⟨q,r2,k'+1⟩ ⟨rfl,?_,?_⟩ ?_
        · dsimp only;rw [hn1];exact hq
        · dsimp only;rw [hn1,ha2];exact fun e=>by simpa using hr2 e
        · show aA (⟨b3,Row 3 [N wd],true⟩::⟨b5,Row 22 [ak q (wpS wd h.l (k'+1)).2.1.length],true⟩::⟨b6,Row 22 [ak r2 (wpS wd h.l (k'+1)).2.2.length],true⟩::⟨b7,Row 3 [N (wpS wd h.l (k'+1)).1],true⟩::(an 5 q ((wpS wd h.l (k'+1)).2.1.map U8)++an 5 r2 ((wpS wd h.l (k'+1)).2.2.map U8))) _
          rw [hn1,ha2]
          exact aA.refl _
      · have g2 : decide ((p' : Int)=3)=false:=decide_eq_false (fun e=>h4 (by omega))
        have hn1 : wpS wd h.l (k'+1)=(p',m++dF wd a++[13,10]++(aD h k').l++(ay h k').l,[]):=by rw [hnx,if_neg (fun e=>h4 e.2),if_pos rfl]
        repeat (first | refine JL.q (by first|(apply OQ.aU (a:=((3 : Nat) : Int)) (b:=3);rfl;rfl;exact g1)|(apply OQ.load;exact aF;rfl;exact (.there (.there (.there .here)));exact (Row.cell (v:=N p') rfl))|(apply OQ.aU (a:=(p' : Int)) (b:=3);rfl;rfl;exact g2)|(apply OQ.aP;rfl;rfl)|(apply OQ.move;rfl)) rfl ?_ | refine JR.seq ?_ | refine JL.nil ?_ | with_reducible refine JE.bW ?_ | refine JL.aN rfl rfl ?_ | refine JR.region rfl (by first | with_reducible exact ah | with_reducible exact ag ah | with_reducible exact ai ah | with_reducible exact ag (ai ah) | with_reducible exact af | with_reducible exact ag af | with_reducible exact ai af | with_reducible exact ag (ai af) | with_reducible exact ag (ag (ai af))) ?_)
        refine JR.cond rfl (fun h=>by cases h) (fun _=>?_)
        repeat (first | refine JL.q (by first|(apply OQ.aU (a:=((3 : Nat) : Int)) (b:=3);rfl;rfl;exact g1)|(apply OQ.move;rfl)) rfl ?_ | refine JR.seq ?_ | refine JL.nil ?_ | with_reducible refine JE.bW ?_ | refine JR.skip ?_ | refine JR.region rfl (by first | with_reducible exact ah | with_reducible exact ag ah | with_reducible exact ai ah | with_reducible exact ag (ai ah) | with_reducible exact af | with_reducible exact ag af | with_reducible exact ai af | with_reducible exact ag (ai af) | with_reducible exact ag (ag (ai af))) ?_)
        refine JR.cond rfl (fun _=>?_) (fun h=>by cases h)
        repeat (first | refine JL.q (by first|(apply OQ.load;exact bX;rfl;exact (.there .here);exact (Row.cell (v:=ak q m.length) rfl))|(apply OQ.load;exact bX;rfl;exact (.there (.there .here));exact (Row.cell (v:=ak r a.length) rfl))|(apply OQ.load;exact aF;rfl;exact .here;exact (Row.cell (v:=N wd) rfl))) rfl ?_ | refine JR.seq ?_ | refine JR.region rfl (by first | with_reducible exact ah | with_reducible exact ag ah | with_reducible exact ai ah | with_reducible exact ag (ai ah) | with_reducible exact af | with_reducible exact ag af | with_reducible exact ai af | with_reducible exact ag (ai af) | with_reducible exact ag (ag (ai af))) ?_)
        have hcl:=jv hwd a
        refine JL.perm (M':=an 5 q (m.map U8)++((⟨b3,Row 3 [N wd],true⟩::⟨b5,Row 22 [ak q m.length],true⟩::⟨b6,Row 22 [ak r a.length],true⟩::[⟨b7,Row 3 [N p'],true⟩])++an 5 r (a.map U8))) ?_ (List.perm_append_comm_assoc [_,_,_,_] _ _)
        refine JL.eB (ι:={q2 : Acc // q2=none→m++dF wd a=[]}) (vs:=[ak q m.length,ak r a.length,N wd]) (fun q2=>ak q2.1 (m++dF wd a).length) (fun q2=>an 5 q2.1 ((m++dF wd a).map U8)) iG rfl rfl (fun e he=>aT _ _ _ e he) (fun q2 e he=>aT _ _ _ e he) (fun w' hw' h0=>kq hw' h0 hq hr hwd hwd2 (by omega) (by omega)) ?_
        rintro ⟨q4,hq4⟩
        dsimp only
        obtain ⟨m4,hm4⟩ : ∃ x,m++dF wd a=x:=⟨_,rfl⟩
        have hm4n : m4.length=m.length+(dF wd a).length:=by rw [← hm4,List.length_append]
        rw [hm4] at hq4 hn1 ⊢
        refine JL.lO (r:=[13,10]) (xs:=m4.map U8) q4 Tryd.underlying22 Tryd.underlying9 eD (fun e=>by rw [hq4 e];rfl) (by rw [List.length_map];rfl) rfl (by simp) (by rw [List.length_map];simp;omega) rfl fun q5=>?_
        rw [show m4.map U8++([13,10] : List Bt).map U8=(m4++[13,10]).map U8 from (List.map_append ..).symm]
        rw [List.length_map]
        obtain ⟨m5,hm5⟩ : ∃ x,m4++[13,10]=x:=⟨_,rfl⟩
        have hm5n : m5.length=m4.length+2:=by rw [← hm5,List.length_append];rfl
        rw [hm5] at hn1 ⊢
        refine JL.perm (M':=⟨b3,Row 3 [N wd],true⟩::⟨b5,Row 22 [ak q m.length],true⟩::⟨b6,Row 22 [ak r a.length],true⟩::⟨b7,Row 3 [N p'],true⟩::(an 5 (some q5) (m5.map U8)++an 5 r (a.map U8))) ?_ (List.perm_append_comm_assoc _ [_,_,_,_] _)
        skip
        refine JL.aK (v:=ak (some q5) m5.length) (r':=[ak (some q5) m5.length]) bY rfl rfl rfl rfl (.there .here) Nat.zero_lt_one rfl ?_
        repeat (first | refine JL.nil ?_ | with_reducible refine JE.bW ?_ | refine JR.region rfl (by first | with_reducible exact ah | with_reducible exact ag ah | with_reducible exact ai ah | with_reducible exact ag (ai ah) | with_reducible exact af | with_reducible exact ag af | with_reducible exact ai af | with_reducible exact ag (ai af) | with_reducible exact ag (ag (ai af))) ?_)
        refine JL.aK (v:=.slice none 0 0) (r':=[.slice none 0 0]) bY rfl rfl rfl rfl (.there (.there .here)) Nat.zero_lt_one rfl ?_
        repeat (first | refine JR.seq ?_ | refine JL.nil ?_ | with_reducible refine JE.bW ?_ | refine JR.region rfl (by first | with_reducible exact ah | with_reducible exact ag ah | with_reducible exact ai ah | with_reducible exact ag (ai ah) | with_reducible exact af | with_reducible exact ag af | with_reducible exact ai af | with_reducible exact ag (ai af) | with_reducible exact ag (ag (ai af))) ?_)
        have hq5 : some q5=none→m5=[]:=nofun
        repeat (refine JL.q (by first|(apply OQ.load;exact bX;rfl;exact (.there .here);exact (Row.cell (v:=ak (some q5) m5.length) rfl))|(apply OQ.move;rfl)) rfl ?_)
        refine JL.perm (M':=an 5 (some q5) (m5.map U8)++(⟨b3,Row 3 [N wd],true⟩::⟨b5,Row 22 [ak (some q5) m5.length],true⟩::⟨b6,Row 22 [.slice none 0 0],true⟩::⟨b7,Row 3 [N p'],true⟩::an 5 r (a.map U8))) ?_ (List.perm_append_comm_assoc [_,_,_,_] (an 5 (some q5) (m5.map U8)) (an 5 r (a.map U8)))
        refine JL.bS (xs:=m5.map U8) (cs:=(aD h k').l.map U8) (m:=(aD h k').l.length) (ad:=(aD h k').ad) (sc:=(aD h k').cap) (some q5) Tryd.underlying22 eD (fun e=>by rw [hq5 e];rfl) (by rw [List.length_map];rfl) rfl (List.length_map _) (fun w' hw'=>(dh tok hw' taw).reads) (fun v hv=>by obtain ⟨c,_,rfl⟩:=List.mem_map.1 hv;rfl) rfl (by rw [List.length_map];omega) (by rw [List.length_map];omega) rfl fun q7 hq7=>?_
        rw [show m5.map U8++(aD h k').l.map U8=(m5++(aD h k').l).map U8 from (List.map_append ..).symm] at hq7 ⊢
        rw [List.length_map]
        obtain ⟨m7,hm7⟩ : ∃ x,m5++(aD h k').l=x:=⟨_,rfl⟩
        have hm7n : m7.length=m5.length+(aD h k').l.length:=by rw [← hm7,List.length_append]
        rw [hm7] at hq7 ⊢
        refine JL.perm (M':=⟨b3,Row 3 [N wd],true⟩::⟨b5,Row 22 [ak (some q5) m5.length],true⟩::⟨b6,Row 22 [.slice none 0 0],true⟩::⟨b7,Row 3 [N p'],true⟩::(an 5 q7 (m7.map U8)++an 5 r (a.map U8))) ?_ (List.perm_append_comm_assoc (an 5 q7 (m7.map U8)) [_,_,_,_] (an 5 r (a.map U8)))
        skip
        refine JL.aK (v:=ak q7 m7.length) (r':=[ak q7 m7.length]) bY rfl rfl (by cases q7 <;> rfl) (by cases q7 <;> rfl) (.there .here) Nat.zero_lt_one rfl ?_
        repeat (first | refine JL.q (by first|(apply OQ.load;exact bX;rfl;exact (.there .here);exact (Row.cell (v:=ak q7 m7.length) rfl))|(apply OQ.move;rfl)) rfl ?_ | refine JL.nil ?_ | with_reducible refine JE.bW ?_ | refine JR.region rfl (by first | with_reducible exact ah | with_reducible exact ag ah | with_reducible exact ai ah | with_reducible exact ag (ai ah) | with_reducible exact af | with_reducible exact ag af | with_reducible exact ai af | with_reducible exact ag (ai af) | with_reducible exact ag (ag (ai af))) ?_)
        have hq7' : q7=none→m7=[]:=fun e=>by simpa using hq7 e
        refine JL.perm (M':=an 5 q7 (m7.map U8)++(⟨b3,Row 3 [N wd],true⟩::⟨b5,Row 22 [ak q7 m7.length],true⟩::⟨b6,Row 22 [.slice none 0 0],true⟩::⟨b7,Row 3 [N p'],true⟩::an 5 r (a.map U8))) ?_ (List.perm_append_comm_assoc [_,_,_,_] (an 5 q7 (m7.map U8)) (an 5 r (a.map U8)))
        refine JL.bS (xs:=m7.map U8) (cs:=(ay h k').l.map U8) (m:=(ay h k').l.length) (ad:=(ay h k').ad) (sc:=(ay h k').cap) q7 Tryd.underlying22 eD (fun e=>by rw [hq7' e];rfl) (by rw [List.length_map];rfl) rfl (List.length_map _) (fun w' hw'=>(dh eok hw' eaw).reads) (fun v hv=>by obtain ⟨c,_,rfl⟩:=List.mem_map.1 hv;rfl) rfl (by rw [List.length_map];omega) (by rw [List.length_map];omega) rfl fun q8 hq8=>?_
        rw [show m7.map U8++(ay h k').l.map U8=(m7++(ay h k').l).map U8 from (List.map_append ..).symm] at hq8 ⊢
        rw [List.length_map]
        obtain ⟨m8,hm8⟩ : ∃ x,m7++(ay h k').l=x:=⟨_,rfl⟩
        have hm8n : m8.length=m7.length+(ay h k').l.length:=by rw [← hm8,List.length_append]
        rw [hm8] at hq8 ⊢
        refine JL.perm (M':=⟨b3,Row 3 [N wd],true⟩::⟨b5,Row 22 [ak q7 m7.length],true⟩::⟨b6,Row 22 [.slice none 0 0],true⟩::⟨b7,Row 3 [N p'],true⟩::(an 5 q8 (m8.map U8)++an 5 r (a.map U8))) ?_ (List.perm_append_comm_assoc (an 5 q8 (m8.map U8)) [_,_,_,_] (an 5 r (a.map U8)))
        skip
        refine JL.aK (v:=ak q8 m8.length) (r':=[ak q8 m8.length]) bY rfl rfl (by cases q8 <;> rfl) (by cases q8 <;> rfl) (.there .here) Nat.zero_lt_one rfl ?_
        repeat (first | refine JL.nil ?_ | with_reducible refine JE.aj ?_)
        refine JE.fZ ⟨q8,none,k'+1⟩ ⟨rfl,?_,?_⟩ ?_
        · dsimp only;rw [hn1,hm7,hm8];exact fun e=>by simpa using hq8 e
        · dsimp only;rw [hn1];exact fun _=>rfl
        · show aA (⟨b3,Row 3 [N wd],true⟩::⟨b5,Row 22 [ak q8 (wpS wd h.l (k'+1)).2.1.length],true⟩::⟨b6,Row 22 [ak none (wpS wd h.l (k'+1)).2.2.length],true⟩::⟨b7,Row 3 [N (wpS wd h.l (k'+1)).1],true⟩::(an 5 q8 ((wpS wd h.l (k'+1)).2.1.map U8)++an 5 none ((wpS wd h.l (k'+1)).2.2.map U8))) _
          rw [hn1,hm7,hm8]
          exact tZ [_,_,_,_] _ _
    · have g1 : decide ((p : Int)=3)=false:=decide_eq_false (fun e=>h3 (by omega))
      have hn1 : wpS wd h.l (k'+1)=(p',m++(aD h k').l++(ay h k').l,a):=by rw [hnx,if_neg (fun e=>h3 e.1),if_neg h3]
      repeat (first | refine JL.q (by first|(apply OQ.aU (a:=(p : Int)) (b:=3);rfl;rfl;exact g1)|(apply OQ.bz;rfl;rfl)|(apply OQ.move;rfl)) rfl ?_ | refine JR.seq ?_ | refine JL.nil ?_ | with_reducible refine JE.bW ?_ | refine JL.cj rfl rfl rfl rfl ?_ | refine JR.region rfl (by first | with_reducible exact ah | with_reducible exact ag ah | with_reducible exact ai ah | with_reducible exact ag (ai ah) | with_reducible exact af | with_reducible exact ag af | with_reducible exact ai af | with_reducible exact ag (ai af) | with_reducible exact ag (ag (ai af))) ?_)
      refine JR.cond rfl (fun h=>by cases h) (fun _=>?_)
      repeat (first | refine JL.q (by first|(apply OQ.aU (a:=(p : Int)) (b:=3);rfl;rfl;exact g1)|(apply OQ.move;rfl)) rfl ?_ | refine JR.seq ?_ | refine JL.nil ?_ | with_reducible refine JE.bW ?_ | refine JR.skip ?_ | refine JR.region rfl (by first | with_reducible exact ah | with_reducible exact ag ah | with_reducible exact ai ah | with_reducible exact ag (ai ah) | with_reducible exact af | with_reducible exact ag af | with_reducible exact ai af | with_reducible exact ag (ai af) | with_reducible exact ag (ag (ai af))) ?_)
      refine JR.cond rfl (fun h=>by cases h) (fun _=>?_)
      repeat (first | refine JL.q (by first|(apply OQ.load;exact bX;rfl;exact (.there .here);exact (Row.cell (v:=ak q m.length) rfl))|(apply OQ.move;rfl)) rfl ?_ | refine JR.seq ?_ | with_reducible refine JE.bW ?_ | refine JR.skip ?_ | refine JR.region rfl (by first | with_reducible exact ah | with_reducible exact ag ah | with_reducible exact ai ah | with_reducible exact ag (ai ah) | with_reducible exact af | with_reducible exact ag af | with_reducible exact ai af | with_reducible exact ag (ai af) | with_reducible exact ag (ag (ai af))) ?_)
      refine JL.perm (M':=an 5 q (m.map U8)++(⟨b3,Row 3 [N wd],true⟩::⟨b5,Row 22 [ak q m.length],true⟩::⟨b6,Row 22 [ak r a.length],true⟩::⟨b7,Row 3 [N p'],true⟩::an 5 r (a.map U8))) ?_ (List.perm_append_comm_assoc [_,_,_,_] (an 5 q (m.map U8)) (an 5 r (a.map U8)))
      refine JL.bS (xs:=m.map U8) (cs:=(aD h k').l.map U8) (m:=(aD h k').l.length) (ad:=(aD h k').ad) (sc:=(aD h k').cap) q Tryd.underlying22 eD (fun e=>by rw [hq e];rfl) (by rw [List.length_map];rfl) rfl (List.length_map _) (fun w' hw'=>(dh tok hw' taw).reads) (fun v hv=>by obtain ⟨c,_,rfl⟩:=List.mem_map.1 hv;rfl) rfl (by rw [List.length_map];omega) (by rw [List.length_map];omega) rfl fun q7 hq7=>?_
      rw [show m.map U8++(aD h k').l.map U8=(m++(aD h k').l).map U8 from (List.map_append ..).symm] at hq7 ⊢
      rw [List.length_map]
      obtain ⟨m7,hm7⟩ : ∃ x,m++(aD h k').l=x:=⟨_,rfl⟩
      have hm7n : m7.length=m.length+(aD h k').l.length:=by rw [← hm7,List.length_append]
      rw [hm7] at hq7 ⊢
      refine JL.perm (M':=⟨b3,Row 3 [N wd],true⟩::⟨b5,Row 22 [ak q m.length],true⟩::⟨b6,Row 22 [ak r a.length],true⟩::⟨b7,Row 3 [N p'],true⟩::(an 5 q7 (m7.map U8)++an 5 r (a.map U8))) ?_ (List.perm_append_comm_assoc (an 5 q7 (m7.map U8)) [_,_,_,_] (an 5 r (a.map U8)))
      skip
      refine JL.aK (v:=ak q7 m7.length) (r':=[ak q7 m7.length]) bY rfl rfl (by cases q7 <;> rfl) (by cases q7 <;> rfl) (.there .here) Nat.zero_lt_one rfl ?_
      repeat (first | refine JL.q (by first|(apply OQ.load;exact bX;rfl;exact (.there .here);exact (Row.cell (v:=ak q7 m7.length) rfl))|(apply OQ.move;rfl)) rfl ?_ | refine JL.nil ?_ | with_reducible refine JE.bW ?_ | refine JR.region rfl (by first | with_reducible exact ah | with_reducible exact ag ah | with_reducible exact ai ah | with_reducible exact ag (ai ah) | with_reducible exact af | with_reducible exact ag af | with_reducible exact ai af | with_reducible exact ag (ai af) | with_reducible exact ag (ag (ai af))) ?_)
      have hq7' : q7=none→m7=[]:=fun e=>by simpa using hq7 e
      refine JL.perm (M':=an 5 q7 (m7.map U8)++(⟨b3,Row 3 [N wd],true⟩::⟨b5,Row 22 [ak q7 m7.length],true⟩::⟨b6,Row 22 [ak r a.length],true⟩::⟨b7,Row 3 [N p'],true⟩::an 5 r (a.map U8))) ?_ (List.perm_append_comm_assoc [_,_,_,_] (an 5 q7 (m7.map U8)) (an 5 r (a.map U8)))
      refine JL.bS (xs:=m7.map U8) (cs:=(ay h k').l.map U8) (m:=(ay h k').l.length) (ad:=(ay h k').ad) (sc:=(ay h k').cap) q7 Tryd.underlying22 eD (fun e=>by rw [hq7' e];rfl) (by rw [List.length_map];rfl) rfl (List.length_map _) (fun w' hw'=>(dh eok hw' eaw).reads) (fun v hv=>by obtain ⟨c,_,rfl⟩:=List.mem_map.1 hv;rfl) rfl (by rw [List.length_map];omega) (by rw [List.length_map];omega) rfl fun q8 hq8=>?_
      rw [show m7.map U8++(ay h k').l.map U8=(m7++(ay h k').l).map U8 from (List.map_append ..).symm] at hq8 ⊢
      rw [List.length_map]
      obtain ⟨m8,hm8⟩ : ∃ x,m7++(ay h k').l=x:=⟨_,rfl⟩
      have hm8n : m8.length=m7.length+(ay h k').l.length:=by rw [← hm8,List.length_append]
      rw [hm8] at hq8 ⊢
      refine JL.perm (M':=⟨b3,Row 3 [N wd],true⟩::⟨b5,Row 22 [ak q7 m7.length],true⟩::⟨b6,Row 22 [ak r a.length],true⟩::⟨b7,Row 3 [N p'],true⟩::(an 5 q8 (m8.map U8)++an 5 r (a.map U8))) ?_ (List.perm_append_comm_assoc (an 5 q8 (m8.map U8)) [_,_,_,_] (an 5 r (a.map U8)))
      skip
      refine JL.aK (v:=ak q8 m8.length) (r':=[ak q8 m8.length]) bY rfl rfl (by cases q8 <;> rfl) (by cases q8 <;> rfl) (.there .here) Nat.zero_lt_one rfl ?_
      repeat (first | refine JL.nil ?_ | with_reducible refine JE.aj ?_)
      refine JE.fZ ⟨q8,r,k'+1⟩ ⟨rfl,?_,?_⟩ ?_
      · dsimp only;rw [hn1,hm7,hm8];exact fun e=>by simpa using hq8 e
      · dsimp only;rw [hn1];exact hr
      · show aA (⟨b3,Row 3 [N wd],true⟩::⟨b5,Row 22 [ak q8 (wpS wd h.l (k'+1)).2.1.length],true⟩::⟨b6,Row 22 [ak r (wpS wd h.l (k'+1)).2.2.length],true⟩::⟨b7,Row 3 [N (wpS wd h.l (k'+1)).1],true⟩::(an 5 q8 ((wpS wd h.l (k'+1)).2.1.map U8)++an 5 r ((wpS wd h.l (k'+1)).2.2.map U8))) _
        rw [hn1,hm7,hm8]
        exact aA.refl _
end Rw
end
section
set_option maxRecDepth 10000
open Sl eu mO
namespace Rw
theorem nY : aR Tryd.prog 63:=⟨_,Tryd.func63,rfl,by kernel_rfl⟩
theorem rA : aR Tryd.prog 62:=⟨_,Tryd.func62,rfl,by kernel_rfl⟩
theorem yj : fM Tryd.prog 43=true:=by kernel_rfl
structure nZ (nm : List Bt) (b1 b3 : Nat) (w : World) : Prop where
  c1 : ∃ o,w.heap[b1]?=some o∧Row 9 [Z nm] o
  c3 : ∃ o,w.heap[b3]?=some o∧Row 43 [mj b1] o
theorem nZ.ext {nm : List Bt} {b1 b3 : Nat} {w w' : World} (h : nZ nm b1 b3 w) (hx : Ext w w') : nZ nm b1 b3 w':=by
  obtain ⟨⟨o1,h1,a1⟩,⟨o3,h3,a3⟩⟩:=h
  exact ⟨⟨o1,(hx.block _ (Array.getElem?_eq_some_iff.1 h1).1 (by simp)).trans h1,a1⟩,⟨o3,(hx.block _ (Array.getElem?_eq_some_iff.1 h3).1 (by simp)).trans h3,a3⟩⟩
theorem pI (nm : List Bt) (b1 b3 : Nat) (R : aq) (w : World) (hA : nZ nm b1 b3 w) (hR : R.ok w) (hl : R.l.length≤1000000000) (hn : nm.length≤1000000000) :
    Calls Tryd.prog 63 [R.v,Pt b3 0].toArray w fun e w'=>e=.returned (.bool (bV.bD nm (aQ R.l)))∧Ext w w':=by
  obtain ⟨o3,h3,a3⟩:=hA.c3
  refine enter (n:=8) Tryd.func63 rfl rfl rfl (aa.seen (S:=[]) h3 a3) ?_
  repeat (first | refine JL.q (by (apply OQ.assign;rfl)) rfl ?_ | refine JC.seq ?_ | refine JC.region ?_ | refine JL.nil ?_ | refine JE.next ?_)
  refine JC.quiet di (by kernel_rfl) ?_
  repeat (first | refine JQ.q (by first|(apply OQ.load;exact yj;rfl;exact .here;exact (Row.cell (v:=mj b1) rfl))|(apply OQ.aB (vs:=[R.v]);exact ey;rfl;exact (fun w' hw'=>fm R w' (hR.holds hw' rfl) (by omega)))|(apply OQ.tE (caps:=[Pt b1 0]) (vs:=[Z (aQ R.l)]);exact iX;rfl;rfl;exact (fun w' hw'=>kg nm (aQ R.l) b1 w' (by omega) (hA.ext hw'.aC).c1))|(apply OQ.move;rfl)|(apply OQ.assign;rfl)) rfl ?_ | refine JQ.nil ?_ | refine JE.next ?_)
  refine JC.ret ?_
  skip
  exact JE.aJ rfl (RV.tmp rfl) fun w' hw=>⟨rfl,hw.aC⟩
def rB (nm : List Bt) (rs : List aq) : Nat:=(rs.takeWhile fun r=>!bV.bD nm (aQ r.l)).length
def wm (nm : List Bt) (rs : List aq) : Int:=if rB nm rs<rs.length then (rB nm rs : Nat) else -1
def u9 (b3 : Nat) : Value:=.func (.func 63) #[] [Pt b3 0].toArray
set_option maxHeartbeats 8000000 in
theorem vb (nm : List Bt) (b1 b3 : Nat) (s : gr) (w : World) (hA : nZ nm b1 b3 w) (hs : s.ok w) (hn9 : s.rs.length≤1000000000) (hn : nm.length≤1000000000) (hl : ∀ r ∈ s.rs,r.l.length≤1000000000) :
    Calls Tryd.prog 62 [s.v,u9 b3].toArray w fun e w'=>e=.returned (I (wm nm s.rs))∧Ext w w':=by
  refine enter (n:=19) Tryd.func62 rfl rfl rfl (aa.start w []) ?_
  have hsv : s.v=.slice s.ad s.rs.length s.cap:=rfl
  repeat (first | refine JL.q (by first|(apply OQ.len (k:=s.rs.length) (ad:=s.ad) (cap:=s.cap);exact Tryd.underlying31;rfl)|(apply OQ.move;rfl)|(apply OQ.assign;rfl)) rfl ?_ | refine JC.seq ?_ | refine JC.region ?_ | refine JC.block ?_ | refine JL.nil ?_ | refine JE.next ?_)
  refine JC.loop (fun i : Nat=>[(0,s.v),(1,u9 b3),(7,N s.rs.length),(8,N i)]) (fun _=>[]) (fun i=>s.rs.length - i) (fun i=>i≤s.rs.length∧i≤rB nm s.rs) 0 ⟨Nat.zero_le _,Nat.zero_le _⟩ (by repeat (first | exact ax.nil | refine ax.cons _ _ _ rfl ?_)) (aA.refl _) ?_
  rintro i ⟨hi,hix⟩
  repeat (first | refine JL.q (by (apply OQ.ij (a:=i) (b:=s.rs.length);rfl;rfl)) rfl ?_ | refine JC.seq ?_ | refine JC.region ?_ | refine JL.nil ?_ | refine JE.next ?_)
  refine JC.cond rfl (fun hh=>?_) (fun hh=>?_)
  · have hi' : i<s.rs.length:=of_decide_eq_true hh
    clear hh
    obtain ⟨x,hx⟩ : ∃ x,s.rs[i]?=some x:=⟨_,List.getElem?_eq_getElem hi'⟩
    have hxm : x ∈ s.rs:=List.mem_of_getElem? hx
    obtain ⟨b,j,had,hc⟩:=hs.reads i x.v (by rw [List.getElem?_map,hx];rfl)
    have hsl : s.v=.slice (some ⟨b,j,none⟩) s.rs.length s.cap:=by rw [hsv,had]
    obtain ⟨g,hg⟩ : ∃ g,bV.bD nm (aQ x.l)=g:=⟨_,rfl⟩
    have hq : ∀ w',aa w [] [] w'→Calls Tryd.prog 63 ([x.v]++[Pt b3 0]).toArray w' fun e w2=>e=.returned (.bool g)∧Ext w' w2:=fun w' hw'=>by
      have:=pI nm b1 b3 x w' (hA.ext hw'.aC) ((hs.all x hxm).holds hw' rfl) (hl x hxm) hn
      rw [hg] at this
      exact this
    have hstep : g=false→i+1≤rB nm s.rs:=fun hgf=>by
      unfold rB at hix ⊢
      by_cases hh : (s.rs.takeWhile fun r=>!bV.bD nm (aQ r.l)).length=i
      · have hdw:=List.takeWhile_append_dropWhile (p:=fun r : aq=>!bV.bD nm (aQ r.l)) (l:=s.rs)
        cases hdd : s.rs.dropWhile (fun r : aq=>!bV.bD nm (aQ r.l)) with
        | nil=>
          rw [hdd,List.append_nil] at hdw
          rw [hdw] at hh
          omega
        | cons y t=>
          have hy:=List.head?_dropWhile_not (p:=fun r : aq=>!bV.bD nm (aQ r.l)) (l:=s.rs)
          rw [hdd] at hdw hy
          have hxy : s.rs[i]?=some y:=by rw [← hdw,← hh];simp
          rw [hx] at hxy
          obtain rfl:=Option.some.inj hxy
          simp [hg,hgf] at hy
      · omega
    have hstop : g=true→rB nm s.rs=i:=fun hgt=>by
      unfold rB at hix ⊢
      rcases Nat.lt_or_ge i (s.rs.takeWhile fun r=>!bV.bD nm (aQ r.l)).length with hlt | hge
      · have hpre:=List.takeWhile_prefix (p:=fun r : aq=>!bV.bD nm (aQ r.l)) (l:=s.rs)
        have h1 : (s.rs.takeWhile fun r=>!bV.bD nm (aQ r.l))[i]?=some x:=by
          have:=hpre.getElem hlt
          rw [List.getElem?_eq_getElem hlt,this]
          exact (List.getElem?_eq_getElem hi').symm.trans hx
        have h2:=List.all_eq_true.1 (List.all_takeWhile (p:=fun r : aq=>!bV.bD nm (aQ r.l)) (l:=s.rs)) x (List.mem_of_getElem? h1)
        simp [hg,hgt] at h2
      · omega
    repeat (first | refine JL.q (by first|(apply OQ.bZ (i:=i) (b:=b) (j:=j) (len:=s.rs.length) (cap:=s.cap);exact Tryd.underlying31;exact bY;exact (congrArg some hsl);rfl;exact hi')|(apply OQ.cA (v:=x.v);exact bX;rfl;exact (block_lt_of_cell hc);exact (by simp);exact hc)|(apply OQ.tE (caps:=[Pt b3 0]) (vs:=[x.v]);exact nY;rfl;rfl;exact hq)|(apply OQ.move;rfl)|(apply OQ.assign;rfl)) rfl ?_ | refine JC.seq ?_ | refine JC.region ?_ | refine JC.block ?_ | refine JC.skip ?_ | refine JL.nil ?_ | refine JE.next ?_)
    cases g with
    | true=>
      refine JC.cond_true rfl rfl ?_
      have hr : wm nm s.rs=(i : Nat):=by unfold wm;rw [hstop rfl,if_pos hi']
      rw [hr]
      repeat (first | refine JL.q (by first|(apply OQ.move;rfl)|(apply OQ.assign;rfl)) rfl ?_ | refine JC.seq ?_ | refine JC.region ?_ | refine JL.nil ?_ | refine JE.next ?_)
      refine JC.ret ?_
      repeat (first | refine JE.av ?_ | refine JE.aI ?_)
      exact JE.aJ rfl (RV.tmp rfl) fun w' hw=>⟨rfl,hw.aC⟩
    | false=>
      refine JC.cond_false rfl rfl ?_
      repeat (first | refine JL.q (by first|(apply OQ.bH (a:=i) (b:=1);rfl;rfl;exact (by omega))|(apply OQ.move;rfl)) rfl ?_ | refine JC.region ?_ | refine JC.skip ?_ | refine JL.nil ?_ | refine JE.next ?_ | refine JE.aj ?_)
      exact JE.again (i:=i) (i+1) ⟨show i+1≤s.rs.length from hi',hstep rfl⟩ (show s.rs.length - (i+1)<s.rs.length - i by omega) (by repeat (first | exact ax.nil | refine ax.cons _ _ _ rfl ?_)) (aA.refl _)
  · have hi' : i=s.rs.length:=by have:=of_decide_eq_false hh;omega
    clear hh
    have hr : wm nm s.rs=-1:=by unfold wm;rw [if_neg (by omega)]
    rw [hr]
    repeat (first | refine JL.q (by (apply OQ.assign;rfl)) rfl ?_ | refine JC.seq ?_ | refine JC.region ?_ | refine JC.exit ?_ | refine JL.nil ?_ | refine JE.next ?_ | refine JE.aS ?_ | refine JE.bE ?_)
    refine JC.ret ?_
    skip
    exact JE.aJ rfl (RV.tmp rfl) fun w' hw=>⟨rfl,hw.aC⟩
end Rw
end
section
set_option maxRecDepth 10000
open Sl eu mO bV
namespace Rw
def kr : List Bt:=[67,111,110,116,101,110,116,45,84,114,97,110,115,102,101,114,45,69,110,99,111,100,105,110,103]
def rC : List Bt:=[98,97,115,101,54,52]
def n3 (s : aq) : aq:=if fi 58 s.l<s.l.length then s.snd (fi 58 s.l+1) else eG
def pJ (l : List Bt) : List Bt:=if fi 58 l<l.length then l.drop (fi 58 l+1) else []
theorem xe (s : aq) : (n3 s).l=pJ s.l:=by
  unfold n3 pJ
  split <;> rfl
theorem vZ {s : aq} {w : World} (h : s.ok w) : (n3 s).ok w:=by
  unfold n3
  split
  · rename_i h0
    exact h.snd _ h0
  · exact jn w
theorem vc (l : List Bt) : (pJ l).length≤l.length:=by
  unfold pJ
  split
  · rw [List.length_drop];omega
  · exact Nat.zero_le _
def mD (rs : List (List Bt)) : Bool:=match rs.find? fun r=>bV.bD kr (aQ r) with
  | some r=>bV.bD (cH (pJ r)) rC
  | none=>false
theorem qg (nm : List Bt) : ∀ rs : List aq,(rs.map aq.l).find? (fun r=>bV.bD nm (aQ r))=(rs[rB nm rs]?).map aq.l
  | []=>rfl
  | r::rs=>by
    have ih:=qg nm rs
    rw [List.map_cons,List.find?_cons]
    unfold rB at ih ⊢
    rw [List.takeWhile_cons]
    cases hh : bV.bD nm (aQ r.l) with
    | true=>rfl
    | false=>exact ih
theorem oa : aR Tryd.prog 43:=⟨_,Tryd.func43,rfl,by kernel_rfl⟩
theorem yl : dw Tryd.prog 43=some 1:=by kernel_rfl
set_option maxHeartbeats 8000000 in
theorem pK (s : gr) (w : World) (hs : s.ok w) (hn9 : s.rs.length≤1000000000) (hl : ∀ r ∈ s.rs,r.l.length≤1000000000) :
    Calls Tryd.prog 43 [s.v].toArray w fun e w'=>e=.returned (.bool (mD (s.rs.map aq.l)))∧Ext w w':=by
  refine enter (n:=28) Tryd.func43 rfl rfl rfl (aa.start w []) ?_
  have hsv : s.v=.slice s.ad s.rs.length s.cap:=rfl
  have hfd : mD (s.rs.map aq.l)=match (s.rs[rB kr s.rs]?).map aq.l with
    | some r=>bV.bD (cH (pJ r)) rC
    | none=>false:=by unfold mD;rw [qg]
  repeat (first | refine JL.q (by (apply OQ.assign;rfl)) rfl ?_ | refine JC.seq ?_ | refine JC.region ?_ | refine JL.nil ?_ | refine JE.next ?_)
  refine JL.bC (ι:=Nat) (vs:=[Z kr]) (fun b=>mj b) (fun b=>[⟨b,Row 9 [Z kr],true⟩]) ke rfl rfl (fun b e he=>by rw [List.mem_singleton.1 he]) (fun w' _=>lA kr w') fun b1=>?_
  refine JL.alloc (r:=[.nilFunc]) (by kernel_rfl) rfl fun b3 _=>?_
  refine JL.aK (v:=mj b1) (r':=[mj b1]) yl rfl rfl rfl rfl .here Nat.zero_lt_one rfl ?_
  obtain ⟨z,hz⟩ : ∃ z,wm kr s.rs=z:=⟨_,rfl⟩
  have hq : ∀ w',aa w [] [⟨b3,Row 43 [mj b1],true⟩,⟨b1,Row 9 [Z kr],true⟩] w'→Calls Tryd.prog 62 [s.v,u9 b3].toArray w' fun e w2=>e=.returned (I z)∧Ext w' w2:=fun w' hw'=>by
    have:=vb kr b1 b3 s w' ⟨hw'.get (.there .here),hw'.get .here⟩ (hs.holds hw' rfl) hn9 (by decide) hl
    rw [hz] at this
    exact this
  obtain ⟨g,hg⟩ : ∃ g,decide (z<0)=g:=⟨_,rfl⟩
  repeat (first | refine JL.q (by first|(apply OQ.xk (caps:=[Pt b3 0]);rfl)|(apply OQ.aB (vs:=[s.v,u9 b3]);exact rA;rfl;exact hq)|(apply OQ.kz (a:=z) (b:=0);rfl;rfl;exact hg)|(apply OQ.move;rfl)|(apply OQ.assign;rfl)) rfl ?_ | refine JC.seq ?_ | refine JC.region ?_ | refine JL.nil ?_ | refine JE.next ?_)
  by_cases hlt : rB kr s.rs<s.rs.length
  · have hzv : z=(rB kr s.rs : Nat):=hz.symm.trans (if_pos hlt)
    have hgf : g=false:=by rw [← hg];exact decide_eq_false (by omega)
    subst hgf
    refine JC.cond_false rfl rfl ?_
    obtain ⟨i,hi⟩ : ∃ i,rB kr s.rs=i:=⟨_,rfl⟩
    rw [hi] at hlt hzv hfd
    obtain ⟨x,hx⟩ : ∃ x,s.rs[i]?=some x:=⟨_,List.getElem?_eq_getElem hlt⟩
    have hxm : x ∈ s.rs:=List.mem_of_getElem? hx
    rw [hx] at hfd
    have hfd : mD (s.rs.map aq.l)=bV.bD (cH (pJ x.l)) rC:=hfd
    have xl:=hl x hxm
    obtain ⟨b,j,had,hc⟩:=hs.reads i x.v (by rw [List.getElem?_map,hx];rfl)
    have hsl : s.v=.slice (some ⟨b,j,none⟩) s.rs.length s.cap:=by rw [hsv,had]
    have xok : ∀ {M : List az} {w' : World},aa w [] M w'→x.ok w':=fun hw'=>(hs.all x hxm).holds hw' rfl
    subst hzv
    repeat (first | refine JL.q (by first|(apply OQ.bZ (i:=i) (b:=b) (j:=j) (len:=s.rs.length) (cap:=s.cap);exact Tryd.underlying31;exact bY;exact (congrArg some hsl);rfl;exact hlt)|(apply OQ.cA (v:=x.v);exact bX;rfl;exact (block_lt_of_cell hc);exact (by simp);exact hc)|(apply OQ.move;rfl)) rfl ?_ | refine JC.seq ?_ | refine JC.region ?_ | refine JC.skip ?_ | refine JE.next ?_)
    refine JL.gA (v:=U8 (58 : BitVec 8)) Tryd.underlying22 eD rfl rfl rfl rfl fun b2 _=>?_
    refine JL.mark (r:=[U8 (58 : BitVec 8)]) (te:=5) Tryd.underlying22 Tryd.underlying5 rfl .here rfl ?_
    have hbl:=vc x.l
    have hbo : ∀ {M : List az} {w' : World},aa w [] M w'→(n3 x).ok w':=fun hw'=>vZ (xok hw')
    have hbb:=xe x
    obtain ⟨v1,g1,hcw⟩ : ∃ (v1 : Value) (g1 : Bool),lQ 58 x=.tuple #[v1,(n3 x).v,.bool g1]:=by
      unfold lQ n3
      split
      · exact ⟨_,_,rfl⟩
      · exact ⟨_,_,rfl⟩
    have c2:=fun (w' : World) (h1 : x.ok w') (h2 : aq.ok w' ⟨some ⟨b2,0,none⟩,1,[58]⟩)=>jM x b2 1 58 w' (by omega) h1 h2
    rw [hcw] at c2
    generalize n3 x=B at *
    rw [← hbb] at hfd hbl
    have hsm : ∀ (M : List az) (w' : World),aa w [] M w'→Calls Tryd.prog 42 [Z (cH B.l),Z rC].toArray w' fun e w2=>e=.returned (.bool (mD (s.rs.map aq.l)))∧Ext w' w2:=fun M w' hw'=>by
      have h1 : (cH B.l).length≤B.l.length:=List.length_filter_le _ _
      have:=fL (cH B.l) rC w' (by omega)
      rw [← hfd] at this
      exact this
    repeat (first | refine JL.q (by first|(apply OQ.aB (vs:=[x.v,.slice (some ⟨b2,0,none⟩) 1 1]);exact fD;rfl;exact (fun w' hw'=>c2 w' (xok hw') (fH (l:=[58]) hw' .here)))|(apply OQ.extract;rfl;rfl)|(apply OQ.aB (vs:=[B.v]);exact kn;rfl;exact (fun w' hw'=>lE B w' (hbo hw') (by omega)))|(apply OQ.aB (vs:=[Z (cH B.l),Z rC]);exact fz;rfl;exact (hsm _))|(apply OQ.move;rfl)|(apply OQ.assign;rfl)) rfl ?_ | refine JC.seq ?_ | refine JC.region ?_ | refine JL.nil ?_ | refine JE.next ?_)
    refine JC.ret ?_
    skip
    exact JE.aJ rfl (RV.tmp rfl) fun w' hw=>⟨rfl,hw.aC⟩
  · have hzv : z=-1:=hz.symm.trans (if_neg hlt)
    subst hzv
    have hgf : g=true:=by rw [← hg];rfl
    subst hgf
    refine JC.cond_true rfl rfl ?_
    have hno : mD (s.rs.map aq.l)=false:=by
      rw [hfd,List.getElem?_eq_none (by omega)]
      rfl
    rw [hno]
    repeat (first | refine JL.q (by (apply OQ.assign;rfl)) rfl ?_ | refine JC.seq ?_ | refine JC.region ?_ | refine JL.nil ?_ | refine JE.next ?_)
    refine JC.ret ?_
    repeat (refine JE.av ?_)
    exact JE.aJ rfl (RV.tmp rfl) fun w' hw=>⟨rfl,hw.aC⟩
end Rw
end
section
set_option maxRecDepth 10000
open Sl bV eu
namespace Rw
def eT (wd : Nat) (fs : List (List Bt)) (l : List Bt) : List Bt:=if mD fs then dF wd (bG l) else fA wd l
theorem lG {wd : Nat} (hwd : 0<wd) (fs : List (List Bt)) (h : aq) : (eT wd fs h.l).length≤3 * h.l.length:=by
  unfold eT
  split
  · have h1:=jv hwd (bG h.l)
    have h2 : (bG h.l).length≤h.l.length:=Nat.le_trans (nA h _) (bF _ _)
    omega
  · exact ry hwd h
theorem rD : aR Tryd.prog 27:=⟨_,Tryd.func27,rfl,by kernel_rfl⟩
set_option maxHeartbeats 8000000 in
theorem ua (p b cap : Nat) (gv : Value) (B : aq) (rs : List aq) (wd : Nat) (w : World) (S : List Nat) (h0 : aa w S (cq p b cap gv B.v (rs.map aq.v)) w) (hB : B.ok w) (hBa : dW B S) (hrs : ∀ r ∈ rs,r.ok w∧dW r S∧r.l.length≤1000000000) (hn : rs.length≤1000000000) (hl : B.l.length≤100000000) (hwd : 0<wd) (hwd2 : wd≤1000000000) :
    Calls Tryd.prog 27 [Pt p 0,N wd].toArray w fun e w'=>∃ q : {q : Acc // q=none→eT wd (rs.map aq.l) B.l=[]},e=.returned (.tuple #[])∧aa w S (cq p b cap gv (ak q.1 (eT wd (rs.map aq.l) B.l).length) (rs.map aq.v)++an 5 q.1 ((eT wd (rs.map aq.l) B.l).map U8)) w':=by
  refine enter (n:=35) Tryd.func27 rfl rfl rfl h0 ?_
  have hml : (rs.map aq.v).length=rs.length:=List.length_map _
  show JC _ _ _ _ _ _ _ [⟨p,Row 33 [.slice (some ⟨b,0,none⟩) (rs.map aq.v).length cap,gv,B.v],true⟩,⟨b,Sl.Own 22 1 (rs.map aq.v).length cap (rs.map aq.v),true⟩]
  have hce : ∀ cv : Value,([⟨p,Row 33 [.slice (some ⟨b,0,none⟩) (rs.map aq.v).length cap,gv,cv],true⟩,⟨b,Sl.Own 22 1 (rs.map aq.v).length cap (rs.map aq.v),true⟩] : List az)=cq p b cap gv cv (rs.map aq.v):=fun cv=>rfl
  obtain ⟨T,hT⟩ : ∃ T,eT wd (rs.map aq.l) B.l=T:=⟨_,rfl⟩
  rw [hT]
  rw [hml]
  rw [hml] at hce
  have harm : ∀ w',aa w S [⟨p,Row 33 [.slice (some ⟨b,0,none⟩) rs.length cap,gv,B.v],true⟩,⟨b,Sl.Own 22 1 rs.length cap (rs.map aq.v),true⟩] w'→Calls Tryd.prog 43 [.slice (some ⟨b,0,none⟩) rs.length cap].toArray w' fun e w2=>e=.returned (.bool (mD (rs.map aq.l)))∧Ext w' w2:=fun w' hw'=>by
    obtain ⟨o2,ho2,hA2⟩:=hw'.get (b:=b) (.there .here)
    have hh:=Sl.Own.cells _ hA2
    have iL : gr.ok w' ⟨some ⟨b,0,none⟩,cap,rs⟩:=by
      refine ⟨?_,Reads.block ho2 hh,fun y hy=>cC (hrs y hy).1 hw' (hrs y hy).2.1⟩
      obtain ⟨sp,_,_,_,h4⟩:=hA2
      exact h4
    exact pK ⟨some ⟨b,0,none⟩,cap,rs⟩ w' iL hn (fun r hr=>(hrs r hr).2.2)
  repeat (first | refine JL.q (by first|(apply OQ.load;exact ez;rfl;exact .here;exact (Row.cell (v:=.slice (some ⟨b,0,none⟩) rs.length cap) rfl))|(apply OQ.aB (vs:=[.slice (some ⟨b,0,none⟩) rs.length cap]);exact oa;rfl;exact harm)|(apply OQ.not;rfl)|(apply OQ.move;rfl)|(apply OQ.cl;rfl)|(apply OQ.b8;rfl;rfl;rfl;exact (by decide);rfl)) rfl ?_ | refine JC.seq ?_ | refine JC.region ?_ | refine JL.nil ?_ | refine JE.next ?_)
  cases ha : mD (rs.map aq.l) with
  | false=>
    have hTp : fA wd B.l=T:=by rw [← hT];unfold eT;rw [ha];rfl
    refine JC.cond_true rfl rfl ?_
    repeat (first | refine JL.q (by first|(apply OQ.load;exact bX;rfl;exact .here;exact (Row.cell (v:=B.v) rfl))|(apply OQ.move;rfl)|(apply OQ.cl;rfl)|(apply OQ.b8;rfl;rfl;rfl;exact (by decide);rfl)) rfl ?_ | refine JC.seq ?_ | refine JC.region ?_)
    refine JL.bC (ι:={q : Acc // q=none→T=[]}) (vs:=[B.v,N wd]) (fun q=>ak q.1 T.length) (fun q=>an 5 q.1 (T.map U8)) mC rfl rfl (fun q e he=>aT _ _ _ e he) (fun w' hw'=>by have:=rz B wd w' (cC hB hw' hBa) hl hwd hwd2;rw [hTp] at this;exact this) ?_
    rintro ⟨q,hq⟩
    dsimp only
    refine JL.perm (M':=⟨p,Row 33 [.slice (some ⟨b,0,none⟩) rs.length cap,gv,B.v],true⟩::⟨b,Sl.Own 22 1 rs.length cap (rs.map aq.v),true⟩::an 5 q (T.map U8)) ?_ (List.perm_append_comm (l₂:=[_,_]))
    repeat (refine JL.q (by first|(apply OQ.cl;rfl)|(apply OQ.b8;rfl;rfl;rfl;exact (by decide);rfl)) rfl ?_)
    refine JL.aK (v:=ak q T.length) (r':=[.slice (some ⟨b,0,none⟩) rs.length cap,gv,ak q T.length]) bY rfl rfl (fo _ _) (gT _ _) .here (show 2<3 by decide) rfl ?_
    repeat (first | refine JL.nil ?_ | refine JE.next ?_)
    refine JC.ret ?_
    repeat (refine JE.av ?_)
    refine JE.qm rfl fun w2 hw=>⟨⟨q,hq⟩,rfl,?_⟩
    rw [← hce]
    exact hw
  | true=>
    have hTp : dF wd (bG B.l)=T:=by rw [← hT];unfold eT;rw [ha];rfl
    refine JC.cond_false rfl rfl ?_
    repeat (first | refine JL.q (by first|(apply OQ.load;exact bX;rfl;exact .here;exact (Row.cell (v:=B.v) rfl))|(apply OQ.move;rfl)|(apply OQ.cl;rfl)|(apply OQ.b8;rfl;rfl;rfl;exact (by decide);rfl)) rfl ?_ | refine JC.seq ?_ | refine JC.region ?_ | refine JC.skip ?_ | refine JE.next ?_)
    refine JL.bC (ι:={q : Acc // q=none→bG B.l=[]}) (vs:=[B.v]) (fun q=>.tuple #[ak q.1 (bG B.l).length,(gX B).v]) (fun q=>an 5 q.1 ((bG B.l).map U8)) iT rfl rfl (fun q e he=>aT _ _ _ e he) (fun w' hw'=>j4 B w' (cC hB hw' hBa) (by omega)) ?_
    rintro ⟨r,hr⟩
    dsimp only
    have hjl : (bG B.l).length≤B.l.length:=Nat.le_trans (nA B _) (bF _ _)
    repeat (first | refine JL.q (by first|(apply OQ.extract;rfl;rfl)|(apply OQ.move;rfl)|(apply OQ.assign;rfl)) rfl ?_ | refine JC.region ?_ | refine JL.nil ?_ | refine JE.next ?_)
    refine JL.perm (M':=an 5 none (([] : List Bt).map U8)++([⟨p,Row 33 [.slice (some ⟨b,0,none⟩) rs.length cap,gv,B.v],true⟩,⟨b,Sl.Own 22 1 rs.length cap (rs.map aq.v),true⟩]++an 5 r ((bG B.l).map U8))) ?_ (List.perm_append_comm (l₂:=[_,_]))
    refine JL.eB (ι:={q : Acc // q=none→T=[]}) (vs:=[ak none ([] : List Bt).length,ak r (bG B.l).length,N wd]) (fun q=>ak q.1 T.length) (fun q=>an 5 q.1 (T.map U8)) iG rfl rfl (fun e he=>by cases he) (fun q e he=>aT _ _ _ e he) (fun w' hw' h0=>by have:=kq (m:=[]) hw' h0 (fun _=>rfl) hr hwd hwd2 (by omega) (by simp);rw [List.nil_append,hTp] at this;exact this) ?_
    rintro ⟨q,hq⟩
    dsimp only
    refine JL.perm (M':=⟨p,Row 33 [.slice (some ⟨b,0,none⟩) rs.length cap,gv,B.v],true⟩::⟨b,Sl.Own 22 1 rs.length cap (rs.map aq.v),true⟩::(an 5 q (T.map U8)++an 5 r ((bG B.l).map U8))) ?_ (List.perm_append_comm_assoc _ [_,_] _)
    repeat (refine JL.q (by first|(apply OQ.cl;rfl)|(apply OQ.b8;rfl;rfl;rfl;exact (by decide);rfl)) rfl ?_)
    refine JL.aK (v:=ak q T.length) (r':=[.slice (some ⟨b,0,none⟩) rs.length cap,gv,ak q T.length]) bY rfl rfl (fo _ _) (gT _ _) .here (show 2<3 by decide) rfl ?_
    repeat (refine JL.nil ?_)
    refine JE.jd rfl fun w2 hw=>⟨⟨q,hq⟩,rfl,?_⟩
    rw [← hce]
    refine hw.weak ?_
    show aA ([_,_]++_) ([_,_]++(_++_))
    rw [← List.append_assoc]
    exact en _ _
set_option maxHeartbeats 8000000 in
theorem oc (p b cap : Nat) (gv cv : Value) (fs : List Value) (T : List Bt) (xn xm : Int) (tx : List Bt) (w : World) (S : List Nat) (h0 : aa w S (cq p b cap gv cv fs) w) (hn : 0<fs.length) (hn2 : fs.length<4611686018427387904)
    (hwr : ∀ (M0 : List az) (w' : World),aa w S (cq p b cap gv cv fs++M0) w'→aa w' (keys (cq p b cap gv cv fs)) (cq p b cap gv cv fs) w'→Calls Tryd.prog 27 [Pt p 0,N (cg xm 76+1)].toArray w' fun e w2=>∃ q : {q : Acc // q=none→T=[]},e=.returned (.tuple #[])∧aa w' (keys (cq p b cap gv cv fs)) (cq p b cap gv (ak q.1 T.length) fs++an 5 q.1 (T.map U8)) w2) :
    Calls Tryd.prog 12 [Pt p 0,.agg (bB 8 xn xm tx).toArray].toArray w fun e w'=>∃ q : {q : Acc // q=none→T=[]},e=.returned (.tuple #[])∧aa w S (cq p b cap gv (ak q.1 T.length) fs++an 5 q.1 (T.map U8)) w':=by
  refine enter (n:=87) Tryd.func12 rfl rfl rfl h0 ?_
  obtain ⟨n,hnn⟩ : ∃ n,fs.length=n:=⟨_,rfl⟩
  obtain ⟨at_,hat⟩ : ∃ a,cg xn n=a:=⟨_,rfl⟩
  have hav : I (xn % (n : Int))=N at_:=hat ▸ iQ (hnn ▸ hn)
  have hm76 : I (xm % ((76 : Nat) : Int))=N (cg xm 76):=iQ (by decide)
  have hlt76 : cg xm 76<76:=dL (by decide)
  obtain ⟨m6,hm6⟩ : ∃ x,cg xm 76=x:=⟨_,rfl⟩
  rw [hm6] at hm76 hlt76 hwr
  show JC _ _ _ _ _ _ _ [⟨p,Row 33 [.slice (some ⟨b,0,none⟩) fs.length cap,gv,cv],true⟩,⟨b,Sl.Own 22 1 fs.length cap fs,true⟩]
  rw [hnn] at hn hn2 ⊢
  have hg3 : decide ((8 : Int)=3)=false:=rfl
  have hg4 : decide ((8 : Int)=4)=false:=rfl
  have hg5 : decide ((8 : Int)=5)=false:=rfl
  have hg7 : decide ((8 : Int)=7)=false:=rfl
  have hg8 : decide ((8 : Int)=8)=true:=rfl
  refine JC.seq (JC.region ?_)
  refine JL.box (r:=bB 8 xn xm tx) rfl rfl rfl fun b3 _=>?_
  refine JL.nil (JE.next ?_)
  refine JC.seq ?_
  refine JC.quiet di (by kernel_rfl) ?_
  repeat (first | refine JL.q (by first|(apply OQ.load;exact aF;rfl;exact .here;exact (Row.cell (v:=I xn) rfl))|(apply OQ.load;exact ez;rfl;exact (.there .here);exact (Row.cell (v:=.slice (some ⟨b,0,none⟩) n cap) rfl))|(apply OQ.len (k:=n) (ad:=some ⟨b,0,none⟩) (cap:=cap);exact Tryd.underlying31;rfl)|(apply OQ.to;exact (OQ.aB (vs:=[I xn,N n]) aV rfl (fun w' _=>bf xn n hn hn2 w'));exact hav)|(apply OQ.load;exact aF;rfl;exact .here;exact (Row.cell (v:=I 8) rfl))|(apply OQ.aU (a:=8) (b:=3);rfl;rfl;exact hg3)|(apply OQ.move;rfl)|(apply OQ.assign;rfl)|(apply OQ.cl;rfl)|(apply OQ.b8;rfl;rfl;rfl;exact (by decide);rfl)) rfl ?_ | refine JQ.q (by first|(apply OQ.load;exact aF;rfl;exact .here;exact (Row.cell (v:=I xn) rfl))|(apply OQ.load;exact ez;rfl;exact (.there .here);exact (Row.cell (v:=.slice (some ⟨b,0,none⟩) n cap) rfl))|(apply OQ.len (k:=n) (ad:=some ⟨b,0,none⟩) (cap:=cap);exact Tryd.underlying31;rfl)|(apply OQ.to;exact (OQ.aB (vs:=[I xn,N n]) aV rfl (fun w' _=>bf xn n hn hn2 w'));exact hav)|(apply OQ.load;exact aF;rfl;exact .here;exact (Row.cell (v:=I 8) rfl))|(apply OQ.aU (a:=8) (b:=3);rfl;rfl;exact hg3)|(apply OQ.move;rfl)|(apply OQ.assign;rfl)|(apply OQ.cl;rfl)|(apply OQ.b8;rfl;rfl;rfl;exact (by decide);rfl)) rfl ?_ | refine JC.seq ?_ | refine JC.region ?_ | refine JC.block ?_ | refine JL.nil ?_ | refine JQ.nil ?_ | refine JE.next ?_)
  refine JC.cond_false rfl rfl ?_
  repeat (first | refine JL.q (by first|(apply OQ.aU (a:=8) (b:=4);rfl;rfl;exact hg4)|(apply OQ.assign;rfl)) rfl ?_ | refine JC.seq ?_ | refine JC.region ?_ | refine JL.nil ?_ | refine JE.next ?_)
  refine JC.cond_false rfl rfl ?_
  repeat (first | refine JL.q (by first|(apply OQ.aU (a:=8) (b:=5);rfl;rfl;exact hg5)|(apply OQ.assign;rfl)) rfl ?_ | refine JC.seq ?_ | refine JC.region ?_ | refine JL.nil ?_ | refine JE.next ?_)
  refine JC.cond_false rfl rfl ?_
  repeat (first | refine JL.q (by first|(apply OQ.aU (a:=8) (b:=7);rfl;rfl;exact hg7)|(apply OQ.assign;rfl)) rfl ?_ | refine JC.seq ?_ | refine JC.region ?_ | refine JL.nil ?_ | refine JE.next ?_)
  refine JC.cond_false rfl rfl ?_
  repeat (first | refine JL.q (by first|(apply OQ.aU (a:=8) (b:=8);rfl;rfl;exact hg8)|(apply OQ.assign;rfl)) rfl ?_ | refine JC.seq ?_ | refine JC.region ?_ | refine JL.nil ?_ | refine JE.next ?_)
  refine JC.cond_true rfl rfl ?_
  repeat (first | refine JL.q (by first|(apply OQ.load;exact aF;rfl;exact .here;exact (Row.cell (v:=I xm) rfl))|(apply OQ.to;exact (OQ.aB (vs:=[I xm,N 76]) aV rfl (fun w' _=>bf xm 76 (by decide) (by decide) w'));exact hm76)|(apply OQ.bH (a:=m6) (b:=1);rfl;rfl;exact (by omega))|(apply OQ.move;rfl)|(apply OQ.b8;rfl;rfl;rfl;exact (by decide);rfl)) rfl ?_ | refine JC.region ?_)
  have hce : ([⟨p,Row 33 [.slice (some ⟨b,0,none⟩) n cap,gv,cv],true⟩,⟨b,Sl.Own 22 1 n cap fs,true⟩] : List az)=cq p b cap gv cv fs:=by unfold cq;rw [hnn]
  refine JL.perm (M':=cq p b cap gv cv fs++[⟨b3,Row 26 (bB 8 xn xm tx),true⟩]) ?_ (by rw [← hce];exact List.perm_append_comm (l₁:=[_]))
  refine JL.eB (ι:={q : Acc // q=none→T=[]}) (X:=cq p b cap gv cv fs) (M0:=[⟨b3,Row 26 (bB 8 xn xm tx),true⟩]) (vs:=[Pt p 0,N (m6+1)]) (fun _=>.tuple #[]) (fun q=>cq p b cap gv (ak q.1 T.length) fs++an 5 q.1 (T.map U8)) rD rfl rfl bQ (fun _=>jr)
    (fun w' hw' hx'=>hwr _ w' hw' hx') ?_
  rintro ⟨q,hq⟩
  repeat (first | refine JL.nil ?_ | refine JE.aj ?_)
  exact JE.jd rfl fun w2 hw=>⟨⟨q,hq⟩,rfl,hw.weak (en _ _)⟩
set_option maxHeartbeats 8000000 in
theorem pL (h : aq) (xn xm : Int) (tx : List Bt) (w : World) (hs : h.ok w) (hl : h.l.length≤100000000) {k : Nat} (hg : br h.l k) {F : List (Nat × Nat)} (hF : cc h.l k=F) (hne : F≠[]) {T : List Bt}
    (hT : (F.map (aY (bA h k).l)).flatten=T) (h0 : 0<T.length) (ht : T.length≤100000000) :
    Calls Tryd.prog 6 [h.v,.agg (bB 8 xn xm tx).toArray].toArray w (de (T++(bO h.l k++eT (cg xm 76+1) (F.map (aY (bA h k).l)) (h.l.drop (au h.l (k+1))))) w):=by
  refine enter (n:=45) Tryd.func6 rfl rfl rfl (aa.start w []) ?_
  have hFn : 0<F.length:=List.length_pos_iff.2 hne
  have hdl : (bA h k).l=h.l.take (au h.l k):=rfl
  have hFl : F.length≤100000000:=by
    have:=dM (h.l.take (au h.l k))
    rw [show aZ (h.l.take (au h.l k))=F from hF,List.length_take] at this
    omega
  have hFb : ∀ p ∈ F,p.1+p.2≤(bA h k).l.length:=by
    have:=fJ (h.l.take (au h.l k))
    rw [show aZ (h.l.take (au h.l k))=F from hF] at this
    exact this
  have hg1 : decide ((8 : Int)=1)=false:=rfl
  have hg2 : decide ((8 : Int)=2)=false:=rfl
  have hg6 : decide ((8 : Int)=6)=false:=rfl
  refine JC.seq (JC.region ?_)
  refine JL.box (r:=bB 8 xn xm tx) rfl rfl rfl fun b3 _=>?_
  repeat (first | refine JL.q (by first|(apply OQ.load;exact aF;rfl;exact .here;exact (Row.cell (v:=I 8) rfl))|(apply OQ.aU (a:=8) (b:=1);rfl;rfl;exact hg1)|(apply OQ.assign;rfl)|(apply OQ.b8;rfl;rfl;rfl;exact (by decide);rfl)) rfl ?_ | refine JC.seq ?_ | refine JC.region ?_ | refine JC.block ?_ | refine JL.nil ?_ | refine JE.next ?_)
  refine JC.cond_false rfl rfl ?_
  repeat (first | refine JL.q (by first|(apply OQ.aU (a:=8) (b:=2);rfl;rfl;exact hg2)|(apply OQ.assign;rfl)) rfl ?_ | refine JC.seq ?_ | refine JC.region ?_ | refine JL.nil ?_ | refine JE.next ?_)
  refine JC.cond_false rfl rfl ?_
  repeat (first | refine JL.q (by (apply OQ.move;rfl)) rfl ?_ | refine JC.seq ?_ | refine JC.region ?_ | refine JC.skip ?_ | refine JE.next ?_ | refine JE.aj ?_)
  refine JL.bC (ι:=FQ F) (vs:=[h.v]) (fun q=>.tuple #[.agg (aW h k q.1).toArray,.bool true]) (fun q=>an 22 q.1 (F.map (aO (bA h k)))) cw rfl rfl (fun q e he=>aT _ _ _ e he) (fun w' hw'=>dg h w' (hs.holds hw' rfl) (by omega) hg hF) ?_
  rintro ⟨q,hq⟩
  obtain ⟨⟨b,cap⟩,rfl⟩ : ∃ x : Nat × Nat,q=some x:=by
    cases q with
    | none=>exact absurd (hq rfl) hne
    | some x=>exact ⟨x,rfl⟩
  dsimp only
  repeat (refine JL.q (by first|(apply OQ.extract;rfl;rfl)|(apply OQ.move;rfl)) rfl ?_)
  refine JL.alloc (r:=cB) (by kernel_rfl) rfl fun b5 _=>?_
  refine JL.bI (cs:=aW h k (some (b,cap))) (r:=cB) eA rfl rfl rfl (cx _ _ _) .here rfl ?_
  have hmv : aW h k (some (b,cap))=[.slice (some ⟨b,0,none⟩) F.length cap,(ay h k).v,(h.snd (au h.l (k+1))).v]:=by unfold aW;rw [hF];rfl
  rw [hmv]
  repeat (first | refine JL.q (by first|(apply OQ.load;exact aF;rfl;exact (.there (.there .here));exact (Row.cell (v:=I 8) rfl))|(apply OQ.aU (a:=8) (b:=6);rfl;rfl;exact hg6)|(apply OQ.aP;rfl;rfl)|(apply OQ.move;rfl)|(apply OQ.assign;rfl)|(apply OQ.b8;rfl;rfl;rfl;exact (by decide);rfl)) rfl ?_ | refine JC.seq ?_ | refine JC.region ?_ | refine JC.block ?_ | refine JL.nil ?_ | refine JE.next ?_ | refine JL.aN rfl rfl ?_)
  refine JC.cond_false rfl rfl ?_
  have hgt : decide ((F.length : Int)>0)=true:=decide_eq_true (by omega)
  repeat (first | refine JL.q (by first|(apply OQ.load;exact ez;rfl;exact .here;exact (Row.cell (v:=.slice (some ⟨b,0,none⟩) F.length cap) rfl))|(apply OQ.len (k:=F.length) (ad:=some ⟨b,0,none⟩) (cap:=cap);exact Tryd.underlying31;rfl)|(apply OQ.eo (b:=0);rfl;rfl;exact hgt)|(apply OQ.aP;rfl;rfl)|(apply OQ.move;rfl)|(apply OQ.assign;rfl)|(apply OQ.b8;rfl;rfl;rfl;exact (by decide);rfl)) rfl ?_ | refine JC.seq ?_ | refine JC.region ?_ | refine JL.nil ?_ | refine JE.next ?_ | refine JL.aN rfl rfl ?_)
  refine JC.cond_true rfl rfl ?_
  repeat (first | refine JL.q (by (apply OQ.cP (cs:=bB 8 xn xm tx);exact l5;exact uP;rfl;exact (.there (.there .here));rfl;exact Row.all)) rfl ?_ | refine JC.seq ?_ | refine JC.region ?_)
  obtain ⟨fs,hfs⟩ : ∃ fs,F.map (aO (bA h k))=fs:=⟨_,rfl⟩
  have hfl : fs.length=F.length:=by rw [← hfs,List.length_map]
  have hhd : ∀ {w' : World},h.ok w'→(bA h k).ok w':=fun h=>h.fst _
  rw [hfs]
  show JL _ _ _ _ _ _ _ _ (⟨b5,Row 33 [.slice (some ⟨b,0,none⟩) F.length cap,(ay h k).v,(h.snd (au h.l (k+1))).v],true⟩::⟨b,Sl.Own 22 1 fs.length cap fs,true⟩::[⟨b3,Row 26 (bB 8 xn xm tx),true⟩])
  rw [← hfl]
  show JL _ _ _ _ _ _ _ _ (cq b5 b cap (ay h k).v (h.snd (au h.l (k+1))).v fs++[⟨b3,Row 26 (bB 8 xn xm tx),true⟩])
  have hlt76 : cg xm 76<76:=dL (by decide)
  obtain ⟨rs,hrs⟩ : ∃ rs,F.map (bu (bA h k))=rs:=⟨_,rfl⟩
  have hrv : rs.map aq.v=fs:=by
    rw [← hrs,List.map_map,← hfs]
    exact List.map_congr_left fun p hp=>eN (hFb p hp)
  have hrL : rs.map aq.l=F.map (aY (bA h k).l):=by
    rw [← hrs,List.map_map]
    rfl
  have hrn2 : rs.length=F.length:=by rw [← hrs,List.length_map]
  obtain ⟨BT,hBT⟩ : ∃ BT,eT (cg xm 76+1) (F.map (aY (bA h k).l)) (h.l.drop (au h.l (k+1)))=BT:=⟨_,rfl⟩
  have hdr : (h.snd (au h.l (k+1))).l.length≤h.l.length:=by show (h.l.drop _).length≤_;rw [List.length_drop];omega
  have hBTl : BT.length≤300000000:=by
    have:=lG (wd:=cg xm 76+1) (by omega) (F.map (aY (bA h k).l)) (h.snd (au h.l (k+1)))
    rw [show (h.snd (au h.l (k+1))).l=h.l.drop (au h.l (k+1)) from rfl,hBT] at this
    have h9 : (h.l.drop (au h.l (k+1))).length≤h.l.length:=hdr
    omega
  rw [hBT]
  refine JL.eB (ι:={q : Acc // q=none→BT=[]}) (X:=cq b5 b cap (ay h k).v (h.snd (au h.l (k+1))).v fs) (M0:=[⟨b3,Row 26 (bB 8 xn xm tx),true⟩]) (vs:=[Pt b5 0,.agg (bB 8 xn xm tx).toArray]) (fun _=>.tuple #[]) (fun q=>cq b5 b cap (ay h k).v (ak q.1 BT.length) fs++an 5 q.1 (BT.map U8)) cL rfl rfl bQ (fun _=>jr)
    (fun w' hw' hx'=>oc b5 b cap _ _ fs BT xn xm tx w' _ hx' (by omega) (by omega) (fun M0 w2 hw2 hx2=>by
      have hok2 : h.ok w2:=cC (hs.holds hw' rfl) hw2 (dN hw' bQ hs)
      have haw : ∀ s : aq,s.ok w→dW s (keys (cq b5 b cap (ay h k).v (h.snd (au h.l (k+1))).v fs)):=fun s hs9=>dN hw' bQ hs9
      have hB2 : (h.snd (au h.l (k+1))).ok w2:=hok2.snd _ (bF _ _)
      rw [← hrv] at hx2 haw ⊢
      have:=ua b5 b cap (ay h k).v (h.snd (au h.l (k+1))) rs (cg xm 76+1) w2 _ hx2 hB2 (haw _ (hs.snd _ (bF _ _))) (fun r hr=>by
        rw [← hrs] at hr
        obtain ⟨p',hp',rfl⟩:=List.mem_map.1 hr
        exact ⟨bN (hhd hok2) (hFb p' hp'),haw _ (bN (hhd hs) (hFb p' hp')),by
          show (((h.l.take _).drop _).take _).length≤_
          rw [List.length_take,List.length_drop,List.length_take]
          omega⟩) (by omega) (by omega) (by omega) (by omega)
      rw [hrL,show (h.snd (au h.l (k+1))).l=h.l.drop (au h.l (k+1)) from rfl,hBT] at this
      exact this)) ?_
  rintro ⟨q,hq2⟩
  dsimp only
  repeat (first | refine JC.seq ?_ | refine JC.region ?_ | refine JL.nil ?_ | refine JE.next ?_)
  have hrl : (rs.map aq.l).flatten=T:=by rw [hrL,hT]
  have hcA : jk ⟨some ⟨b,0,none⟩,cap,rs⟩=T:=by
    show ((rs.take rs.length).map aq.l).flatten=T
    rw [List.take_length,hrl]
  obtain ⟨C,hC⟩ : ∃ C,eH q BT=C:=⟨_,rfl⟩
  have hCl : C.l=BT:=by rw [← hC];exact eI hq2
  have hCv : C.v=ak q BT.length:=by rw [← hC,e9]
  rw [← dn,← hCl]
  have hrn : fs.length=rs.length:=by omega
  have hel : (ay h k).l.length≤h.l.length:=by rw [dn];exact eO _ _
  refine JL.bC (ι:=Nat × Nat) (vs:=[Pt b5 0]) (fun x=>.slice (some ⟨x.1,0,none⟩) (T++((ay h k).l++C.l)).length x.2) (fun x=>[⟨x.1,Sl.Own 5 1 (T++((ay h k).l++C.l)).length x.2 ((T++((ay h k).l++C.l)).map U8),true⟩]) cy rfl rfl (fun x e he=>by rw [List.mem_singleton.1 he]) (fun w' hw'=>?_) fun x=>?_
  · have ok:=hs.holds hw' rfl
    have hw2 : aa w [] (⟨b5,Row 33 [.slice (some ⟨b,0,none⟩) fs.length cap,(ay h k).v,ak q BT.length],true⟩::⟨b,Sl.Own 22 1 fs.length cap fs,true⟩::(an 5 q (BT.map U8)++[⟨b3,Row 26 (bB 8 xn xm tx),true⟩])) w':=by rw [hCl] at hw';exact hw'
    rw [← hrv,List.length_map,← hCv] at hw2
    obtain ⟨o,ho,hA⟩:=hw2.get (b:=b5) .here
    obtain ⟨o2,ho2,hA2⟩:=hw2.get (b:=b) (.there .here)
    have hh:=Sl.Own.cells _ hA2
    have iL : gr.ok w' ⟨some ⟨b,0,none⟩,cap,rs⟩:=by
      refine ⟨?_,Reads.block ho2 hh,fun y hy=>?_⟩
      · obtain ⟨sp,_,_,_,h4⟩:=hA2
        exact h4
      · rw [← hrs] at hy
        obtain ⟨p',hp',rfl⟩:=List.mem_map.1 hy
        exact bN (hhd ok) (hFb p' hp')
    have hCok : C.ok w':=by rw [← hC];exact fc (hw2.weak (.drop _ _ _ (.drop _ _ _ (aA.refl _))))
    have:=cK ⟨some ⟨b,0,none⟩,cap,rs⟩ (ay h k) C b5 33 w' (by rw [ho];exact congrArg some hA) iL (dB ok k) hCok (by rw [hcA];exact h0) (by show rs.length≤_;omega) (by rw [hcA,hCl];omega)
    rw [hcA] at this
    exact this
  · repeat (first | refine JL.q (by (apply OQ.assign;rfl)) rfl ?_ | refine JL.nil ?_ | refine JE.next ?_)
    refine JC.ret ?_
    repeat (first | refine JE.av ?_ | refine JE.aI ?_)
    exact JE.aJ rfl (RV.tmp rfl) fun w' hw=>⟨⟨some ⟨x.1,0,none⟩,x.2,_⟩,rfl,hw.aC,rfl,dy hw .here⟩
theorem od (xn xm : Int) (tx l : List Bt) (hl : l.length≤100000) : ∃ T,T.length≤10 * l.length+300∧oo 8 xn xm tx l T:=by
  by_cases hf : ∃ k,br l k∧cc l k≠[]
  · obtain ⟨k,hg,hne⟩:=hf
    have hp : ((cc l k).map (aY (l.take (au l k)))).flatten=l.take (au l k):=lq hne
    have h0 : 0<(l.take (au l k)).length:=by
      apply Nat.pos_of_ne_zero
      intro e
      apply hne
      unfold cc
      rw [List.length_eq_zero_iff.1 e]
      rfl
    have h1 : (l.take (au l k)).length≤l.length:=by rw [List.length_take];exact Nat.min_le_right _ _
    have h2:=eO l k
    have h3 : (eT (cg xm 76+1) ((cc l k).map (aY (l.take (au l k)))) (l.drop (au l (k+1)))).length≤3 * (l.drop (au l (k+1))).length:=lG (by omega) _ ⟨none,0,l.drop (au l (k+1))⟩
    rw [List.length_drop] at h3
    refine ⟨l.take (au l k)++(bO l k++eT (cg xm 76+1) ((cc l k).map (aY (l.take (au l k)))) (l.drop (au l (k+1)))),by simp only [List.length_append];omega,?_⟩
    rintro h w rfl hs _ _ _
    exact pL h xn xm tx w hs (by omega) hg rfl hne hp h0 (by omega)
  · exact ⟨l,by omega,dD (by omega) (by decide) (by decide) (by decide) hf⟩
end Rw
end
section
set_option maxRecDepth 10000
open Go.ChangeShapes Go.WideShapes Go.ChangeAt Go.RowKit
open Sl
set_option linter.unusedVariables false
theorem xY : ownKnob Tryd.prog.godebug=none:=by kernel_rfl
theorem oe : laidOutB Tryd.prog=true:=by kernel_rfl
theorem xg {z : Int} (h : (Lit.int .u8 z).wf=true) : U8 (BitVec.ofInt 8 z)=.int .u8 z:=by
  have h0 : 0≤z∧z≤255:=by
    have h1 : (decide (0≤z) && decide (z≤255))=true:=h
    simpa using h1
  have h2 : ((BitVec.ofInt 8 z).toNat : Int)=z:=by
    rw [BitVec.toNat_ofInt]
    omega
  unfold U8
  rw [h2]
def uc (P : Program) (t : TypeId) (i : Nat) (ty : TypeId) (off : Nat) : Bool:=match (P.fieldsOf t)[i]? with
  | some f=>f.type == ty && f.offset == off
  | none=>false
theorem rE {P : Program} {t : TypeId} {i : Nat} {ty : TypeId} {off : Nat} (h : uc P t i ty off=true) : ∃ f,(P.fieldsOf t)[i]?=some f∧f.type=ty∧f.offset=off:=by
  unfold uc at h
  split at h
  · next f e=>
    simp only [Bool.and_eq_true,beq_iff_eq] at h
    exact ⟨f,e,h.1,h.2⟩
  · cases h
def qh (zs : List Int) : List (BitVec 8):=zs.map (BitVec.ofInt 8)
theorem v7 {H : Type} {enc : TypeId × Value→H} {W : World} {fuel : Nat} {v : Value} {x : DataW H × List MemPlace} (h : DataW.trod enc Tryd.prog W 0 (fun _=>true) true fuel 22 [v]=some x) : ∃ k : aq,v=k.v∧k.ok W∧k.cap≤maxLen:=by
  rcases open_ints (show Tryd.prog.underlying 22=some (.slice 5) by kernel_rfl) (show Tryd.prog.underlying 5=some (.int .u8) by kernel_rfl) (by kernel_rfl) h with ⟨hcs,_⟩ | ⟨x,l,c,zs,hcs,_,hl,hm,hz,_,hcell,hwz⟩
  · cases hcs
    exact ⟨⟨none,0,[]⟩,rfl,⟨by simp,Reads.nil _ _⟩,by decide⟩
  · cases hcs
    simp only [if_true] at hz
    have hlen : (qh (zs.take l)).length=l:=by simp [qh];omega
    refine ⟨⟨some x,c,qh (zs.take l)⟩,by simp [aq.v,hlen],⟨by rw [hlen];exact hl,?_⟩,hm⟩
    intro i v hv
    have hi : i<l:=by
      have:=(List.getElem?_eq_some_iff.1 hv).1
      simpa [hlen] using this
    have hc:=hcell i (by omega)
    obtain ⟨b,o,sp⟩:=x
    cases sp with
    | some s=>
      have hc:=hcell 0 (by omega)
      simp only [World.cell?,Addr.add,if_true] at hc
      split at hc <;> simp at hc
    | none=>
      refine ⟨b,o,rfl,?_⟩
      have e1 : zs.getD i 0=zs[i]'(by omega):=by simp [List.getD,show i<zs.length by omega]
      have e2:=xg (hwz (zs[i]'(by omega)) (List.getElem_mem _))
      have e3 : v=.int .u8 (zs.getD i 0):=by
        simp only [qh,List.map_map,List.getElem?_map,List.getElem?_take] at hv
        rw [if_pos hi,List.getElem?_eq_getElem (by omega)] at hv
        simp only [Option.map_some,Function.comp,Option.some.injEq] at hv
        rw [← hv,e2,e1]
      rw [e3]
      have e4 : (⟨b,o,none⟩ : Addr).add i=⟨b,o+i,none⟩:=by
        unfold Addr.add
        split
        · subst i;rfl
        · rfl
      rw [e4] at hc
      exact hc
end
section
set_option maxRecDepth 10000
open Go.ChangeShapes Go.WideShapes Go.ChangeAt Go.RowKit
open Sl
set_option linter.unusedVariables false
theorem xZ (s : ByteArray) : ∃ l : List Bt,Value.string s=Z l∧l.length=s.size:=⟨bytesOf s,by show _=Value.string _;rw [lN],bytesOf_length s⟩
end
section
set_option maxRecDepth 10000
open Go.ChangeShapes Go.WideShapes Go.ChangeAt Go.RowKit
open Sl
set_option linter.unusedVariables false
structure v8 where
  k : Int
  n : Int
  m : Int
  tx : List Bt
def v8.v (x : v8) : Value:=.agg (Rw.bB x.k x.n x.m x.tx).toArray
def v8.ok (_ : World) (_ : v8) : Prop:=True
theorem pM {H : Type} {enc : TypeId × Value→H} {W : World} {base fuel : Nat} {v : Value} {x : DataW H × List MemPlace} (hok : Value.okWide Tryd.prog W .any base 26 v) (h : DataW.trod enc Tryd.prog W 0 (fun _=>true) true fuel 26 v.cells.toList=some x) :
    ∃ r : v8,v=r.v∧r.ok W:=by
  have ht : Tryd.prog.underlying 26=some (.struct (Tryd.prog.fieldsOf 26)):=by kernel_rfl
  have ct : Tryd.prog.cellsOf 26=4:=by kernel_rfl
  have c0 : Tryd.prog.cellsOf 3=1:=by kernel_rfl
  have c3 : Tryd.prog.cellsOf 9=1:=by kernel_rfl
  have hi : Tryd.prog.underlying 3=some (.int .i64):=by kernel_rfl
  have hs : Tryd.prog.underlying 9=some .string:=by kernel_rfl
  obtain ⟨xs,n,_,_,hl,hlen,hf⟩:=DataW.trod_struct ht h
  have hsz : (Tryd.prog.fieldsOf 26).size=4:=by kernel_rfl
  rw [hsz] at hlen
  have g : ∀ {i ty off},uc Tryd.prog 26 i ty off=true→i<4→∃ y,DataW.trod enc Tryd.prog W 0 (fun _=>true) true n ty ((v.cells.toList.drop off).take (Tryd.prog.cellsOf ty))=some y:=fun {i ty off} h1 h2=>by
    obtain ⟨f,e1,rfl,rfl⟩:=rE h1
    exact ⟨xs[i],by rw [hf i f e1,List.getElem?_eq_getElem (by omega)]⟩
  simp only [Value.okWide,ht] at hok
  obtain ⟨c,rfl,hcz,_⟩:=hok
  rw [ct] at hcz
  obtain ⟨y0,g0⟩:=g (i:=0) (ty:=3) (off:=0) (by kernel_rfl) (by decide)
  obtain ⟨y1,g1⟩:=g (i:=1) (ty:=3) (off:=1) (by kernel_rfl) (by decide)
  obtain ⟨y2,g2⟩:=g (i:=2) (ty:=3) (off:=2) (by kernel_rfl) (by decide)
  obtain ⟨y3,g3⟩:=g (i:=3) (ty:=9) (off:=3) (by kernel_rfl) (by decide)
  rw [c0] at g0 g1 g2
  rw [c3] at g3
  obtain ⟨l⟩:=c
  rw [show (Value.agg ⟨l⟩).cells.toList=l from rfl] at g0 g1 g2 g3
  match l,hcz with
  | [a0,a1,a2,a3],_=>
    obtain ⟨z0,q0,_,_⟩:=DataW.trod_int hi g0
    obtain ⟨z1,q1,_,_⟩:=DataW.trod_int hi g1
    obtain ⟨z2,q2,_,_⟩:=DataW.trod_int hi g2
    obtain ⟨s3,q3,_,_⟩:=DataW.trod_string hs g3
    obtain ⟨l3,e3,_⟩:=xZ s3
    simp at q0 q1 q2 q3
    refine ⟨⟨z0,z1,z2,l3⟩,?_,trivial⟩
    rw [q0,q1,q2,q3,e3]
    rfl
end
section
set_option maxRecDepth 10000
open Sl mO
namespace Rw
theorem pN (kd xn xm : Int) (tx l : List Bt) (hl : l.length≤2000) : ∃ T T2,oo kd xn xm tx l T∧oo kd xn xm tx T T2∧T.length≤100000∧(kd=2∨kd=3∨kd=4→T=T2)∧(kd=7→T2=l)∧((∀ j ∈ [1,2,3,4,5,6,7,8],kd≠j)→T=l):=by
  by_cases k1 : kd=1
  · subst k1
    obtain ⟨T,h1,h2⟩:=nU xn xm tx l (by omega)
    obtain ⟨T2,h3,h4⟩:=nU xn xm tx T (by omega)
    exact ⟨T,T2,h2,h4,by omega,fun h=>by omega,fun h=>by omega,fun h=>absurd rfl (h 1 (by simp))⟩
  by_cases k2 : kd=2
  · subst k2
    obtain ⟨T,h1,h2,h3⟩:=pG xn xm tx l (by omega)
    exact ⟨T,T,h2,h3,by omega,fun _=>rfl,fun h=>by omega,fun h=>absurd rfl (h 2 (by simp))⟩
  by_cases k3 : kd=3
  · subst k3
    obtain ⟨T,h1,h2,h3⟩:=q9 xn xm tx l (by omega)
    exact ⟨T,T,h2,h3,by omega,fun _=>rfl,fun h=>by omega,fun h=>absurd rfl (h 3 (by simp))⟩
  by_cases k4 : kd=4
  · subst k4
    obtain ⟨T,h1,h2,h3⟩:=ri xn xm tx l (by omega)
    exact ⟨T,T,h2,h3,by omega,fun _=>rfl,fun h=>by omega,fun h=>absurd rfl (h 4 (by simp))⟩
  by_cases k5 : kd=5
  · subst k5
    obtain ⟨T,h1,h2⟩:=drop_one xn xm tx l (by omega)
    obtain ⟨T2,h3,h4⟩:=drop_one xn xm tx T (by omega)
    exact ⟨T,T2,h2,h4,by omega,fun h=>by omega,fun h=>by omega,fun h=>absurd rfl (h 5 (by simp))⟩
  by_cases k6 : kd=6
  · subst k6
    obtain ⟨T,h1,h2⟩:=add_one xn xm tx l (by omega)
    obtain ⟨T2,h3,h4⟩:=add_one xn xm tx T (by omega)
    exact ⟨T,T2,h2,h4,by omega,fun h=>by omega,fun h=>by omega,fun h=>absurd rfl (h 6 (by simp))⟩
  by_cases k7 : kd=7
  · subst k7
    obtain ⟨T,h1,h2,h3⟩:=pF xn xm tx l (by omega)
    exact ⟨T,l,h2,h3,by omega,fun h=>by omega,fun _=>rfl,fun h=>absurd rfl (h 7 (by simp))⟩
  by_cases k8 : kd=8
  · subst k8
    obtain ⟨T,h1,h2⟩:=od xn xm tx l (by omega)
    obtain ⟨T2,h3,h4⟩:=od xn xm tx T (by omega)
    exact ⟨T,T2,h2,h4,by omega,fun h=>by omega,fun h=>by omega,fun h=>absurd rfl (h 8 (by simp))⟩
  have hk : ∀ j ∈ [1,2,3,4,5,6,7,8],kd≠j:=by
    intro j hj
    simp only [List.mem_cons,List.not_mem_nil,or_false] at hj
    rcases hj with rfl | rfl | rfl | rfl | rfl | rfl | rfl | rfl <;> assumption
  exact ⟨l,l,lC kd xn xm tx l (by omega) hk,lC kd xn xm tx l (by omega) hk,by omega,fun h=>by omega,fun h=>by omega,fun _=>rfl⟩
theorem ud {w0 w : World} {S : List Nat} {b : Nat} {A : Obj→Prop} (h : aa w0 S [⟨b,A,true⟩] w) : aa w0 S [⟨b,A,false⟩] w:=⟨h.aC,h.nodup,fun e he=>by obtain rfl:=List.mem_singleton.1 he;exact ⟨(h.all _ (List.mem_singleton.2 rfl)).1,nofun⟩⟩
set_option maxHeartbeats 16000000 in
theorem iH (b : aq) (x : v8) (w : World) (hb : b.ok w) (_ : x.ok w) (hT : ia w) (hP : eS w) (hm : dm w) :
    Calls Tryd.prog 4 [b.v,x.v].toArray w fun e w'=>e=.returned (.bool true)∧Ext w w':=by
  obtain ⟨kd,xn,xm,tx⟩:=x
  refine enter (n:=46) Tryd.func4 rfl rfl rfl (aa.start w []) ?_
  refine JC.seq (JC.region ?_)
  refine JL.box (r:=bB kd xn xm tx) rfl rfl rfl fun b3 _=>?_
  repeat (first | refine JL.q (by first|(apply OQ.aB (vs:=[]);exact kH;rfl;exact (fun w' _=>mA w'))|(apply OQ.not;rfl)|(apply OQ.assign;rfl)) rfl ?_ | refine JC.seq ?_ | refine JC.region ?_ | refine JL.nil ?_ | refine JE.next ?_)
  refine JC.cond_false rfl rfl ?_
  by_cases hbig : 2000<b.l.length
  · have hg : decide ((b.l.length : Int)>2000)=true:=decide_eq_true (by omega)
    repeat (first | refine JL.q (by first|(apply OQ.len (k:=b.l.length) (ad:=b.ad) (cap:=b.cap);exact Tryd.underlying22;rfl)|(apply OQ.eo (b:=2000);rfl;rfl;exact hg)|(apply OQ.aP;rfl;rfl)|(apply OQ.move;rfl)) rfl ?_ | refine JC.seq ?_ | refine JC.region ?_ | refine JC.skip ?_ | refine JL.nil ?_ | refine JE.next ?_ | refine JL.cj rfl rfl rfl rfl ?_)
    refine JC.cond_true rfl rfl ?_
    repeat (first | refine JL.q (by (apply OQ.assign;rfl)) rfl ?_ | refine JC.seq ?_ | refine JC.region ?_ | refine JL.nil ?_ | refine JE.next ?_)
    refine JC.ret ?_
    repeat (refine JE.av ?_)
    exact JE.aJ rfl (RV.tmp rfl) fun w' hw=>⟨rfl,hw.aC⟩
  have hg : decide ((b.l.length : Int)>2000)=false:=decide_eq_false (by omega)
  by_cases htx : 300<tx.length
  · have hg2 : decide ((tx.length : Int)>300)=true:=decide_eq_true (by omega)
    repeat (first | refine JL.q (by first|(apply OQ.len (k:=b.l.length) (ad:=b.ad) (cap:=b.cap);exact Tryd.underlying22;rfl)|(apply OQ.eo (b:=2000);rfl;rfl;exact hg)|(apply OQ.load;exact mh;rfl;exact .here;exact (Row.cell (v:=Z tx) rfl))|(apply OQ.jf;exact Tryd.underlying9;rfl)|(apply OQ.eo (b:=300);rfl;rfl;exact hg2)|(apply OQ.bz;rfl;rfl)|(apply OQ.move;rfl)|(apply OQ.b8;rfl;rfl;rfl;exact (by decide);rfl)) rfl ?_ | refine JC.seq ?_ | refine JC.region ?_ | refine JC.skip ?_ | refine JL.nil ?_ | refine JE.next ?_ | refine JL.aN rfl rfl ?_)
    refine JC.cond_true rfl rfl ?_
    repeat (first | refine JL.q (by (apply OQ.assign;rfl)) rfl ?_ | refine JC.seq ?_ | refine JC.region ?_ | refine JL.nil ?_ | refine JE.next ?_)
    refine JC.ret ?_
    repeat (refine JE.av ?_)
    exact JE.aJ rfl (RV.tmp rfl) fun w' hw=>⟨rfl,hw.aC⟩
  have hg2 : decide ((tx.length : Int)>300)=false:=decide_eq_false (by omega)
  repeat (first | refine JL.q (by first|(apply OQ.len (k:=b.l.length) (ad:=b.ad) (cap:=b.cap);exact Tryd.underlying22;rfl)|(apply OQ.eo (b:=2000);rfl;rfl;exact hg)|(apply OQ.load;exact mh;rfl;exact .here;exact (Row.cell (v:=Z tx) rfl))|(apply OQ.jf;exact Tryd.underlying9;rfl)|(apply OQ.eo (b:=300);rfl;rfl;exact hg2)|(apply OQ.bz;rfl;rfl)|(apply OQ.move;rfl)|(apply OQ.b8;rfl;rfl;rfl;exact (by decide);rfl)) rfl ?_ | refine JC.seq ?_ | refine JC.region ?_ | refine JC.skip ?_ | refine JL.nil ?_ | refine JE.next ?_ | refine JL.aN rfl rfl ?_)
  refine JC.cond_false rfl rfl ?_
  obtain ⟨T,T2,hA1,hA2,hTl,hE1,hE7,hE0⟩:=pN kd xn xm tx b.l (by omega)
  repeat (first | refine JL.q (by first|(apply OQ.cP (cs:=bB kd xn xm tx);exact l5;exact uP;rfl;exact .here;rfl;exact Row.all)|(apply OQ.move;rfl)) rfl ?_ | refine JC.seq ?_ | refine JC.region ?_ | refine JC.skip ?_ | refine JE.next ?_)
  refine ⟨fun a9 w9 ha9 hw9=>JL.go ?_ a9 w9 ha9 (ud hw9)⟩
  refine JL.fR (vs:=[b.v,.agg (bB kd xn xm tx).toArray]) (S':=[]) [⟨b3,Row 26 (bB kd xn xm tx),false⟩] gi rfl rfl (fun w' hw'=>hA1 b w' rfl (hb.holds hw' rfl) (hm.ext hw'.aC) (hT.ext hw'.aC) (hP.ext hw'.aC)) (aA.refl _) (fun e he h=>by rw [List.mem_singleton.1 he] at h;cases h) ?_
  intro x hx w1 hw1 okx
  have hb1:=hb.holds hw1 rfl
  repeat (first | refine JL.q (by first|(apply OQ.cP (cs:=bB kd xn xm tx);exact l5;exact uP;rfl;exact .here;rfl;exact Row.all)|(apply OQ.move;rfl)|(apply OQ.assign;rfl)) rfl ?_ | refine JC.seq ?_ | refine JC.region ?_ | refine JL.nil ?_ | refine JE.next ?_)
  refine JL.fR (vs:=[x.v,.agg (bB kd xn xm tx).toArray]) (S':=[]) [⟨b3,Row 26 (bB kd xn xm tx),false⟩] gi rfl rfl (fun w' hw'=>hA2 x w' hx (okx.holds hw' rfl) ((hm.ext hw1.aC).ext hw'.aC) ((hT.ext hw1.aC).ext hw'.aC) ((hP.ext hw1.aC).ext hw'.aC)) (aA.refl _) (fun e he h=>by rw [List.mem_singleton.1 he] at h;cases h) ?_
  intro y hy w2 hw2 oky
  have hb2:=hb1.holds hw2 rfl
  have okx2:=okx.holds hw2 rfl
  have hov : ∀ {M : List az} {w' : World},aa w2 [] M w'→Ext w w':=fun h=>hw1.aC.trans (hw2.aC.trans h.aC)
  have hsame : ∀ (p q : aq) (_ : p.ok w2) (_ : q.ok w2) (_ : p.l=q.l) (_ : p.l.length≤100000) (M : List az) (w' : World),aa w2 [] M w'→Calls Tryd.prog 7 [p.v,q.v].toArray w' fun e w3=>e=.returned (.bool true)∧Ext w' w3:=fun p q hp hq he hl M w' hw'=>by
    have:=tU p q w' (hp.holds hw' rfl) (hq.holds hw' rfl) (by omega)
    rw [decide_eq_true he] at this
    exact this
  by_cases k1 : kd=1
  · skip
    have g1 : decide (kd=1)=true:=decide_eq_true k1
    repeat (first | refine JL.q (by first|(apply OQ.load;exact aF;rfl;exact .here;exact (Row.cell (v:=I kd) rfl))|(apply OQ.aU (a:=kd) (b:=1);rfl;rfl;exact g1)|(apply OQ.assign;rfl)|(apply OQ.b8;rfl;rfl;rfl;exact (by decide);rfl)) rfl ?_ | refine JC.seq ?_ | refine JC.region ?_ | refine JC.block ?_ | refine JL.nil ?_ | refine JE.next ?_)
    refine JC.cond_true rfl rfl ?_
    repeat (first | refine JC.skip ?_ | refine JE.next ?_)
    refine JC.cond_true rfl rfl ?_
    repeat (first | refine JL.q (by (apply OQ.assign;rfl)) rfl ?_ | refine JC.seq ?_ | refine JC.region ?_ | refine JL.nil ?_ | refine JE.next ?_)
    refine JC.ret ?_
    repeat (first | refine JE.av ?_ | refine JE.aI ?_)
    exact JE.aJ rfl (RV.tmp rfl) fun w' hw=>⟨rfl,hov hw⟩
  by_cases k6 : kd=6
  · skip
    have g1 : decide (kd=1)=false:=decide_eq_false k1
    have g6 : decide (kd=6)=true:=decide_eq_true k6
    repeat (first | refine JL.q (by first|(apply OQ.load;exact aF;rfl;exact .here;exact (Row.cell (v:=I kd) rfl))|(apply OQ.aU (a:=kd) (b:=1);rfl;rfl;exact g1)|(apply OQ.assign;rfl)|(apply OQ.b8;rfl;rfl;rfl;exact (by decide);rfl)) rfl ?_ | refine JC.seq ?_ | refine JC.region ?_ | refine JC.block ?_ | refine JL.nil ?_ | refine JE.next ?_)
    refine JC.cond_false rfl rfl ?_
    repeat (first | refine JL.q (by first|(apply OQ.aU (a:=kd) (b:=6);rfl;rfl;exact g6)|(apply OQ.assign;rfl)) rfl ?_ | refine JC.seq ?_ | refine JC.region ?_ | refine JL.nil ?_ | refine JE.next ?_)
    refine JC.cond_true rfl rfl ?_
    repeat (first | refine JC.skip ?_ | refine JE.next ?_)
    refine JC.cond_true rfl rfl ?_
    repeat (first | refine JL.q (by (apply OQ.assign;rfl)) rfl ?_ | refine JC.seq ?_ | refine JC.region ?_ | refine JL.nil ?_ | refine JE.next ?_)
    refine JC.ret ?_
    repeat (first | refine JE.av ?_ | refine JE.aI ?_)
    exact JE.aJ rfl (RV.tmp rfl) fun w' hw=>⟨rfl,hov hw⟩
  by_cases k5 : kd=5
  · skip
    have g1 : decide (kd=1)=false:=decide_eq_false k1
    have g6 : decide (kd=6)=false:=decide_eq_false k6
    have g5 : decide (kd=5)=true:=decide_eq_true k5
    repeat (first | refine JL.q (by first|(apply OQ.load;exact aF;rfl;exact .here;exact (Row.cell (v:=I kd) rfl))|(apply OQ.aU (a:=kd) (b:=1);rfl;rfl;exact g1)|(apply OQ.assign;rfl)|(apply OQ.b8;rfl;rfl;rfl;exact (by decide);rfl)) rfl ?_ | refine JC.seq ?_ | refine JC.region ?_ | refine JC.block ?_ | refine JL.nil ?_ | refine JE.next ?_)
    refine JC.cond_false rfl rfl ?_
    repeat (first | refine JL.q (by first|(apply OQ.aU (a:=kd) (b:=6);rfl;rfl;exact g6)|(apply OQ.assign;rfl)) rfl ?_ | refine JC.seq ?_ | refine JC.region ?_ | refine JL.nil ?_ | refine JE.next ?_)
    refine JC.cond_false rfl rfl ?_
    repeat (first | refine JL.q (by first|(apply OQ.aU (a:=kd) (b:=5);rfl;rfl;exact g5)|(apply OQ.assign;rfl)) rfl ?_ | refine JC.seq ?_ | refine JC.region ?_ | refine JL.nil ?_ | refine JE.next ?_)
    refine JC.cond_true rfl rfl ?_
    repeat (first | refine JC.skip ?_ | refine JE.next ?_)
    refine JC.cond_true rfl rfl ?_
    repeat (first | refine JL.q (by (apply OQ.assign;rfl)) rfl ?_ | refine JC.seq ?_ | refine JC.region ?_ | refine JL.nil ?_ | refine JE.next ?_)
    refine JC.ret ?_
    repeat (first | refine JE.av ?_ | refine JE.aI ?_)
    exact JE.aJ rfl (RV.tmp rfl) fun w' hw=>⟨rfl,hov hw⟩
  by_cases k8 : kd=8
  · skip
    have g1 : decide (kd=1)=false:=decide_eq_false k1
    have g6 : decide (kd=6)=false:=decide_eq_false k6
    have g5 : decide (kd=5)=false:=decide_eq_false k5
    have g8 : decide (kd=8)=true:=decide_eq_true k8
    repeat (first | refine JL.q (by first|(apply OQ.load;exact aF;rfl;exact .here;exact (Row.cell (v:=I kd) rfl))|(apply OQ.aU (a:=kd) (b:=1);rfl;rfl;exact g1)|(apply OQ.assign;rfl)|(apply OQ.b8;rfl;rfl;rfl;exact (by decide);rfl)) rfl ?_ | refine JC.seq ?_ | refine JC.region ?_ | refine JC.block ?_ | refine JL.nil ?_ | refine JE.next ?_)
    refine JC.cond_false rfl rfl ?_
    repeat (first | refine JL.q (by first|(apply OQ.aU (a:=kd) (b:=6);rfl;rfl;exact g6)|(apply OQ.assign;rfl)) rfl ?_ | refine JC.seq ?_ | refine JC.region ?_ | refine JL.nil ?_ | refine JE.next ?_)
    refine JC.cond_false rfl rfl ?_
    repeat (first | refine JL.q (by first|(apply OQ.aU (a:=kd) (b:=5);rfl;rfl;exact g5)|(apply OQ.assign;rfl)) rfl ?_ | refine JC.seq ?_ | refine JC.region ?_ | refine JL.nil ?_ | refine JE.next ?_)
    refine JC.cond_false rfl rfl ?_
    repeat (first | refine JL.q (by first|(apply OQ.aU (a:=kd) (b:=8);rfl;rfl;exact g8)|(apply OQ.assign;rfl)) rfl ?_ | refine JC.region ?_ | refine JL.nil ?_ | refine JE.next ?_)
    refine JC.cond_true rfl rfl ?_
    repeat (first | refine JL.q (by (apply OQ.assign;rfl)) rfl ?_ | refine JC.seq ?_ | refine JC.region ?_ | refine JL.nil ?_ | refine JE.next ?_)
    refine JC.ret ?_
    repeat (first | refine JE.av ?_ | refine JE.aI ?_)
    exact JE.aJ rfl (RV.tmp rfl) fun w' hw=>⟨rfl,hov hw⟩
  by_cases k2 : kd=2
  · skip
    have g1 : decide (kd=1)=false:=decide_eq_false k1
    have g6 : decide (kd=6)=false:=decide_eq_false k6
    have g5 : decide (kd=5)=false:=decide_eq_false k5
    have g8 : decide (kd=8)=false:=decide_eq_false k8
    repeat (first | refine JL.q (by first|(apply OQ.load;exact aF;rfl;exact .here;exact (Row.cell (v:=I kd) rfl))|(apply OQ.aU (a:=kd) (b:=1);rfl;rfl;exact g1)|(apply OQ.assign;rfl)|(apply OQ.b8;rfl;rfl;rfl;exact (by decide);rfl)) rfl ?_ | refine JC.seq ?_ | refine JC.region ?_ | refine JC.block ?_ | refine JL.nil ?_ | refine JE.next ?_)
    refine JC.cond_false rfl rfl ?_
    repeat (first | refine JL.q (by first|(apply OQ.aU (a:=kd) (b:=6);rfl;rfl;exact g6)|(apply OQ.assign;rfl)) rfl ?_ | refine JC.seq ?_ | refine JC.region ?_ | refine JL.nil ?_ | refine JE.next ?_)
    refine JC.cond_false rfl rfl ?_
    repeat (first | refine JL.q (by first|(apply OQ.aU (a:=kd) (b:=5);rfl;rfl;exact g5)|(apply OQ.assign;rfl)) rfl ?_ | refine JC.seq ?_ | refine JC.region ?_ | refine JL.nil ?_ | refine JE.next ?_)
    refine JC.cond_false rfl rfl ?_
    repeat (first | refine JL.q (by first|(apply OQ.aU (a:=kd) (b:=8);rfl;rfl;exact g8)|(apply OQ.assign;rfl)) rfl ?_ | refine JC.region ?_ | refine JL.nil ?_ | refine JE.next ?_)
    refine JC.cond_false rfl rfl ?_
    have g2 : decide (kd=2)=true:=decide_eq_true k2
    repeat (first | refine JL.q (by first|(apply OQ.aU (a:=kd) (b:=2);rfl;rfl;exact g2)|(apply OQ.assign;rfl)) rfl ?_ | refine JC.seq ?_ | refine JC.region ?_ | refine JL.nil ?_ | refine JE.next ?_)
    refine JC.cond_true rfl rfl ?_
    repeat (first | refine JC.skip ?_ | refine JE.next ?_)
    refine JC.cond_true rfl rfl ?_
    repeat (first | refine JL.q (by first|(apply OQ.aB (vs:=[x.v,y.v]);exact eC;rfl;exact (hsame x y okx2 oky (by rw [hx,hy];exact hE1 (by omega)) (by rw [hx];exact hTl) _))|(apply OQ.move;rfl)|(apply OQ.assign;rfl)) rfl ?_ | refine JC.seq ?_ | refine JC.region ?_ | refine JL.nil ?_ | refine JE.next ?_)
    refine JC.ret ?_
    repeat (first | refine JE.av ?_ | refine JE.aI ?_)
    exact JE.aJ rfl (RV.tmp rfl) fun w' hw=>⟨rfl,hov hw⟩
  by_cases k3 : kd=3
  · skip
    have g1 : decide (kd=1)=false:=decide_eq_false k1
    have g6 : decide (kd=6)=false:=decide_eq_false k6
    have g5 : decide (kd=5)=false:=decide_eq_false k5
    have g8 : decide (kd=8)=false:=decide_eq_false k8
    repeat (first | refine JL.q (by first|(apply OQ.load;exact aF;rfl;exact .here;exact (Row.cell (v:=I kd) rfl))|(apply OQ.aU (a:=kd) (b:=1);rfl;rfl;exact g1)|(apply OQ.assign;rfl)|(apply OQ.b8;rfl;rfl;rfl;exact (by decide);rfl)) rfl ?_ | refine JC.seq ?_ | refine JC.region ?_ | refine JC.block ?_ | refine JL.nil ?_ | refine JE.next ?_)
    refine JC.cond_false rfl rfl ?_
    repeat (first | refine JL.q (by first|(apply OQ.aU (a:=kd) (b:=6);rfl;rfl;exact g6)|(apply OQ.assign;rfl)) rfl ?_ | refine JC.seq ?_ | refine JC.region ?_ | refine JL.nil ?_ | refine JE.next ?_)
    refine JC.cond_false rfl rfl ?_
    repeat (first | refine JL.q (by first|(apply OQ.aU (a:=kd) (b:=5);rfl;rfl;exact g5)|(apply OQ.assign;rfl)) rfl ?_ | refine JC.seq ?_ | refine JC.region ?_ | refine JL.nil ?_ | refine JE.next ?_)
    refine JC.cond_false rfl rfl ?_
    repeat (first | refine JL.q (by first|(apply OQ.aU (a:=kd) (b:=8);rfl;rfl;exact g8)|(apply OQ.assign;rfl)) rfl ?_ | refine JC.region ?_ | refine JL.nil ?_ | refine JE.next ?_)
    refine JC.cond_false rfl rfl ?_
    have g2 : decide (kd=2)=false:=decide_eq_false k2
    have g3 : decide (kd=3)=true:=decide_eq_true k3
    repeat (first | refine JL.q (by first|(apply OQ.aU (a:=kd) (b:=2);rfl;rfl;exact g2)|(apply OQ.assign;rfl)) rfl ?_ | refine JC.seq ?_ | refine JC.region ?_ | refine JL.nil ?_ | refine JE.next ?_)
    refine JC.cond_false rfl rfl ?_
    repeat (first | refine JL.q (by first|(apply OQ.aU (a:=kd) (b:=3);rfl;rfl;exact g3)|(apply OQ.assign;rfl)) rfl ?_ | refine JC.seq ?_ | refine JC.region ?_ | refine JL.nil ?_ | refine JE.next ?_)
    refine JC.cond_true rfl rfl ?_
    repeat (first | refine JC.skip ?_ | refine JE.next ?_)
    refine JC.cond_true rfl rfl ?_
    repeat (first | refine JL.q (by first|(apply OQ.aB (vs:=[x.v,y.v]);exact eC;rfl;exact (hsame x y okx2 oky (by rw [hx,hy];exact hE1 (by omega)) (by rw [hx];exact hTl) _))|(apply OQ.move;rfl)|(apply OQ.assign;rfl)) rfl ?_ | refine JC.seq ?_ | refine JC.region ?_ | refine JL.nil ?_ | refine JE.next ?_)
    refine JC.ret ?_
    repeat (first | refine JE.av ?_ | refine JE.aI ?_)
    exact JE.aJ rfl (RV.tmp rfl) fun w' hw=>⟨rfl,hov hw⟩
  by_cases k4 : kd=4
  · skip
    have g1 : decide (kd=1)=false:=decide_eq_false k1
    have g6 : decide (kd=6)=false:=decide_eq_false k6
    have g5 : decide (kd=5)=false:=decide_eq_false k5
    have g8 : decide (kd=8)=false:=decide_eq_false k8
    repeat (first | refine JL.q (by first|(apply OQ.load;exact aF;rfl;exact .here;exact (Row.cell (v:=I kd) rfl))|(apply OQ.aU (a:=kd) (b:=1);rfl;rfl;exact g1)|(apply OQ.assign;rfl)|(apply OQ.b8;rfl;rfl;rfl;exact (by decide);rfl)) rfl ?_ | refine JC.seq ?_ | refine JC.region ?_ | refine JC.block ?_ | refine JL.nil ?_ | refine JE.next ?_)
    refine JC.cond_false rfl rfl ?_
    repeat (first | refine JL.q (by first|(apply OQ.aU (a:=kd) (b:=6);rfl;rfl;exact g6)|(apply OQ.assign;rfl)) rfl ?_ | refine JC.seq ?_ | refine JC.region ?_ | refine JL.nil ?_ | refine JE.next ?_)
    refine JC.cond_false rfl rfl ?_
    repeat (first | refine JL.q (by first|(apply OQ.aU (a:=kd) (b:=5);rfl;rfl;exact g5)|(apply OQ.assign;rfl)) rfl ?_ | refine JC.seq ?_ | refine JC.region ?_ | refine JL.nil ?_ | refine JE.next ?_)
    refine JC.cond_false rfl rfl ?_
    repeat (first | refine JL.q (by first|(apply OQ.aU (a:=kd) (b:=8);rfl;rfl;exact g8)|(apply OQ.assign;rfl)) rfl ?_ | refine JC.region ?_ | refine JL.nil ?_ | refine JE.next ?_)
    refine JC.cond_false rfl rfl ?_
    have g2 : decide (kd=2)=false:=decide_eq_false k2
    have g3 : decide (kd=3)=false:=decide_eq_false k3
    have g4 : decide (kd=4)=true:=decide_eq_true k4
    repeat (first | refine JL.q (by first|(apply OQ.aU (a:=kd) (b:=2);rfl;rfl;exact g2)|(apply OQ.assign;rfl)) rfl ?_ | refine JC.seq ?_ | refine JC.region ?_ | refine JL.nil ?_ | refine JE.next ?_)
    refine JC.cond_false rfl rfl ?_
    repeat (first | refine JL.q (by first|(apply OQ.aU (a:=kd) (b:=3);rfl;rfl;exact g3)|(apply OQ.assign;rfl)) rfl ?_ | refine JC.seq ?_ | refine JC.region ?_ | refine JL.nil ?_ | refine JE.next ?_)
    refine JC.cond_false rfl rfl ?_
    repeat (first | refine JL.q (by first|(apply OQ.aU (a:=kd) (b:=4);rfl;rfl;exact g4)|(apply OQ.assign;rfl)) rfl ?_ | refine JC.region ?_ | refine JL.nil ?_ | refine JE.next ?_)
    refine JC.cond_true rfl rfl ?_
    repeat (first | refine JL.q (by first|(apply OQ.aB (vs:=[x.v,y.v]);exact eC;rfl;exact (hsame x y okx2 oky (by rw [hx,hy];exact hE1 (by omega)) (by rw [hx];exact hTl) _))|(apply OQ.move;rfl)|(apply OQ.assign;rfl)) rfl ?_ | refine JC.seq ?_ | refine JC.region ?_ | refine JL.nil ?_ | refine JE.next ?_)
    refine JC.ret ?_
    repeat (first | refine JE.av ?_ | refine JE.aI ?_)
    exact JE.aJ rfl (RV.tmp rfl) fun w' hw=>⟨rfl,hov hw⟩
  by_cases k7 : kd=7
  · skip
    have g1 : decide (kd=1)=false:=decide_eq_false k1
    have g6 : decide (kd=6)=false:=decide_eq_false k6
    have g5 : decide (kd=5)=false:=decide_eq_false k5
    have g8 : decide (kd=8)=false:=decide_eq_false k8
    repeat (first | refine JL.q (by first|(apply OQ.load;exact aF;rfl;exact .here;exact (Row.cell (v:=I kd) rfl))|(apply OQ.aU (a:=kd) (b:=1);rfl;rfl;exact g1)|(apply OQ.assign;rfl)|(apply OQ.b8;rfl;rfl;rfl;exact (by decide);rfl)) rfl ?_ | refine JC.seq ?_ | refine JC.region ?_ | refine JC.block ?_ | refine JL.nil ?_ | refine JE.next ?_)
    refine JC.cond_false rfl rfl ?_
    repeat (first | refine JL.q (by first|(apply OQ.aU (a:=kd) (b:=6);rfl;rfl;exact g6)|(apply OQ.assign;rfl)) rfl ?_ | refine JC.seq ?_ | refine JC.region ?_ | refine JL.nil ?_ | refine JE.next ?_)
    refine JC.cond_false rfl rfl ?_
    repeat (first | refine JL.q (by first|(apply OQ.aU (a:=kd) (b:=5);rfl;rfl;exact g5)|(apply OQ.assign;rfl)) rfl ?_ | refine JC.seq ?_ | refine JC.region ?_ | refine JL.nil ?_ | refine JE.next ?_)
    refine JC.cond_false rfl rfl ?_
    repeat (first | refine JL.q (by first|(apply OQ.aU (a:=kd) (b:=8);rfl;rfl;exact g8)|(apply OQ.assign;rfl)) rfl ?_ | refine JC.region ?_ | refine JL.nil ?_ | refine JE.next ?_)
    refine JC.cond_false rfl rfl ?_
    have g2 : decide (kd=2)=false:=decide_eq_false k2
    have g3 : decide (kd=3)=false:=decide_eq_false k3
    have g4 : decide (kd=4)=false:=decide_eq_false k4
    repeat (first | refine JL.q (by first|(apply OQ.aU (a:=kd) (b:=2);rfl;rfl;exact g2)|(apply OQ.assign;rfl)) rfl ?_ | refine JC.seq ?_ | refine JC.region ?_ | refine JL.nil ?_ | refine JE.next ?_)
    refine JC.cond_false rfl rfl ?_
    repeat (first | refine JL.q (by first|(apply OQ.aU (a:=kd) (b:=3);rfl;rfl;exact g3)|(apply OQ.assign;rfl)) rfl ?_ | refine JC.seq ?_ | refine JC.region ?_ | refine JL.nil ?_ | refine JE.next ?_)
    refine JC.cond_false rfl rfl ?_
    repeat (first | refine JL.q (by first|(apply OQ.aU (a:=kd) (b:=4);rfl;rfl;exact g4)|(apply OQ.assign;rfl)) rfl ?_ | refine JC.region ?_ | refine JL.nil ?_ | refine JE.next ?_)
    refine JC.cond_false rfl rfl ?_
    have g7 : decide (kd=7)=true:=decide_eq_true k7
    repeat (first | refine JL.q (by first|(apply OQ.aU (a:=kd) (b:=7);rfl;rfl;exact g7)|(apply OQ.assign;rfl)) rfl ?_ | refine JC.seq ?_ | refine JC.region ?_ | refine JL.nil ?_ | refine JE.next ?_)
    refine JC.cond_true rfl rfl ?_
    repeat (first | refine JL.q (by first|(apply OQ.aB (vs:=[y.v,b.v]);exact eC;rfl;exact (hsame y b oky hb2 (by rw [hy];exact hE7 k7) (by rw [hy,hE7 k7];omega) _))|(apply OQ.move;rfl)|(apply OQ.assign;rfl)) rfl ?_ | refine JC.seq ?_ | refine JC.region ?_ | refine JL.nil ?_ | refine JE.next ?_)
    refine JC.ret ?_
    repeat (first | refine JE.av ?_ | refine JE.aI ?_)
    exact JE.aJ rfl (RV.tmp rfl) fun w' hw=>⟨rfl,hov hw⟩
  have g1 : decide (kd=1)=false:=decide_eq_false k1
  have g6 : decide (kd=6)=false:=decide_eq_false k6
  have g5 : decide (kd=5)=false:=decide_eq_false k5
  have g8 : decide (kd=8)=false:=decide_eq_false k8
  repeat (first | refine JL.q (by first|(apply OQ.load;exact aF;rfl;exact .here;exact (Row.cell (v:=I kd) rfl))|(apply OQ.aU (a:=kd) (b:=1);rfl;rfl;exact g1)|(apply OQ.assign;rfl)|(apply OQ.b8;rfl;rfl;rfl;exact (by decide);rfl)) rfl ?_ | refine JC.seq ?_ | refine JC.region ?_ | refine JC.block ?_ | refine JL.nil ?_ | refine JE.next ?_)
  refine JC.cond_false rfl rfl ?_
  repeat (first | refine JL.q (by first|(apply OQ.aU (a:=kd) (b:=6);rfl;rfl;exact g6)|(apply OQ.assign;rfl)) rfl ?_ | refine JC.seq ?_ | refine JC.region ?_ | refine JL.nil ?_ | refine JE.next ?_)
  refine JC.cond_false rfl rfl ?_
  repeat (first | refine JL.q (by first|(apply OQ.aU (a:=kd) (b:=5);rfl;rfl;exact g5)|(apply OQ.assign;rfl)) rfl ?_ | refine JC.seq ?_ | refine JC.region ?_ | refine JL.nil ?_ | refine JE.next ?_)
  refine JC.cond_false rfl rfl ?_
  repeat (first | refine JL.q (by first|(apply OQ.aU (a:=kd) (b:=8);rfl;rfl;exact g8)|(apply OQ.assign;rfl)) rfl ?_ | refine JC.region ?_ | refine JL.nil ?_ | refine JE.next ?_)
  refine JC.cond_false rfl rfl ?_
  have g2 : decide (kd=2)=false:=decide_eq_false k2
  have g3 : decide (kd=3)=false:=decide_eq_false k3
  have g4 : decide (kd=4)=false:=decide_eq_false k4
  repeat (first | refine JL.q (by first|(apply OQ.aU (a:=kd) (b:=2);rfl;rfl;exact g2)|(apply OQ.assign;rfl)) rfl ?_ | refine JC.seq ?_ | refine JC.region ?_ | refine JL.nil ?_ | refine JE.next ?_)
  refine JC.cond_false rfl rfl ?_
  repeat (first | refine JL.q (by first|(apply OQ.aU (a:=kd) (b:=3);rfl;rfl;exact g3)|(apply OQ.assign;rfl)) rfl ?_ | refine JC.seq ?_ | refine JC.region ?_ | refine JL.nil ?_ | refine JE.next ?_)
  refine JC.cond_false rfl rfl ?_
  repeat (first | refine JL.q (by first|(apply OQ.aU (a:=kd) (b:=4);rfl;rfl;exact g4)|(apply OQ.assign;rfl)) rfl ?_ | refine JC.region ?_ | refine JL.nil ?_ | refine JE.next ?_)
  refine JC.cond_false rfl rfl ?_
  have g7 : decide (kd=7)=false:=decide_eq_false k7
  repeat (first | refine JL.q (by first|(apply OQ.aU (a:=kd) (b:=7);rfl;rfl;exact g7)|(apply OQ.assign;rfl)) rfl ?_ | refine JC.seq ?_ | refine JC.region ?_ | refine JL.nil ?_ | refine JE.next ?_)
  refine JC.cond_false rfl rfl ?_
  have hk : ∀ j ∈ [1,2,3,4,5,6,7,8],kd≠j:=by
    intro j hj
    simp only [List.mem_cons,List.not_mem_nil,or_false] at hj
    rcases hj with rfl | rfl | rfl | rfl | rfl | rfl | rfl | rfl <;> assumption
  repeat (first | refine JL.q (by first|(apply OQ.aB (vs:=[x.v,b.v]);exact eC;rfl;exact (hsame x b okx2 hb2 (by rw [hx];exact hE0 hk) (by rw [hx];exact hTl) _))|(apply OQ.move;rfl)|(apply OQ.assign;rfl)) rfl ?_ | refine JC.seq ?_ | refine JC.region ?_ | refine JC.skip ?_ | refine JL.nil ?_ | refine JE.next ?_ | refine JE.aj ?_)
  refine JC.ret ?_
  skip
  exact JE.aJ rfl (RV.tmp rfl) fun w' hw=>⟨rfl,hov hw⟩
end Rw
end
section
set_option maxRecDepth 10000
open Go.ChangeShapes Go.WideShapes Go.ChangeAt Go.RowKit
open Sl
set_option linter.unusedVariables false
set_option maxRecDepth 100000
theorem ku : ((Rows.rewriteAgainRow.laid).all fun x=>x.2.handleName?.isNone)=true:=by kernel_rfl
theorem ve (os : Os) (args : Array Value) : laidMetH Tryd.prog Rows.rewriteAgainRow.laid ((World.laidAll Tryd.prog os Rows.rewriteAgainRow.laid).forCall (fun _ _=>0) ⟨#[],args,[]⟩).memory:=by
  rw [MakeChecks.laidMetH_plain _ _ _ ku]
  exact laidMet_laidAll _ (by kernel_rfl) (by kernel_rfl)
theorem rF (os : Os) : (World.laidAll Tryd.prog os Rows.rewriteAgainRow.laid).Shaped Tryd.prog:=World.shaped_of_ZipB (by kernel_rfl) (by kernel_rfl)
theorem qi {W : World} {fuel m : Nat} {t : TypeId} (hu : Tryd.prog.underlying t=some (.array m 9)) (hc : Tryd.prog.cellsOf t=m) {cs : List Value} {d : List (List UInt8)} {x : DataW Unit × List MemPlace} (h : DataW.trod (fun _=>()) Tryd.prog W 0 (fun _=>true) false fuel t cs=some x) (hx : x.1=.agg (d.map fun s=>.lit (.string s))) : cs=d.map fun s=>.string ⟨s.toArray⟩:=by
  obtain ⟨xs,m',_,ex,hcl,hxl,hel⟩:=DataW.trod_array hu h
  have c9 : Tryd.prog.cellsOf 9=1:=by kernel_rfl
  rw [hc] at hcl
  simp only [c9,Nat.mul_one] at hel
  have hx2 : xs.map (·.1)=d.map fun s=>.lit (.string s):=by
    rw [ex] at hx
    exact DataW.agg.inj hx
  have hdl : d.length=m:=by
    have:=congrArg List.length hx2
    rw [List.length_map,List.length_map] at this
    omega
  apply List.ext_getElem?
  intro i
  by_cases hi : i<m
  · have h1:=hel i hi
    rw [List.getElem?_eq_getElem (show i<xs.length by omega)] at h1
    obtain ⟨s',q0,e0,_⟩:=DataW.trod_string (show Tryd.prog.underlying 9=some .string by kernel_rfl) h1
    have h2:=congrArg (fun l : List (DataW Unit)=>l[i]?) hx2
    rw [List.getElem?_map,List.getElem?_map,List.getElem?_eq_getElem (show i<xs.length by omega),List.getElem?_eq_getElem (show i<d.length by omega)] at h2
    have h3:=Option.some.inj h2
    rw [e0] at h3
    simp only [DataW.lit.injEq,Lit.string.injEq] at h3
    have h4 : cs[i]?=some (.string s'):=by
      have : ((cs.drop i).take 1)[0]?=some (.string s'):=by rw [q0];rfl
      simpa using this
    rw [h4,List.getElem?_map,List.getElem?_eq_getElem (show i<d.length by omega)]
    show some (Value.string s')=some (Value.string ⟨(d[i]).toArray⟩)
    rw [← h3]
  · rw [List.getElem?_eq_none (by omega),List.getElem?_eq_none (by rw [List.length_map];omega)]
theorem ie {W : World} (h : laidMetH Tryd.prog Rows.rewriteAgainRow.laid W) : Rw.ia W∧Rw.eS W:=by
  rw [MakeChecks.laidMetH_plain _ _ _ ku] at h
  have h' : laidMet Tryd.prog (("unicode/utf8.acceptRanges",Rows.laid_unicode_utf8_acceptRanges)::("despatch/rewrite.protected",Rows.laid_despatch_rewrite_protected)::("despatch/rewrite.traces",Rows.laid_despatch_rewrite_traces)::[("unicode/utf8.first",Rows.laid_unicode_utf8_first)]) W:=h
  obtain ⟨ps,⟨g1,t1,cs1,f1,p1,q1,_,_,_,_,⟨g2,t2,cs2,f2,p2,q2,hg,ht,hvar,hd,⟨g3,t3,cs3,f3,p3,q3,hg3,ht3,hvar3,hd3,_,_⟩,_⟩,_⟩,_⟩:=h'
  constructor
  · have hg' : Tryd.prog.globalNamed "despatch/rewrite.traces" = some 0:=by kernel_rfl
    obtain rfl:=Option.some.inj (hg'.symm.trans hg3)
    have ht' : (Tryd.prog.globals[0]?).map (·.type)=some 44:=by kernel_rfl
    obtain rfl:=Option.some.inj (ht'.symm.trans ht3)
    have hcs:=qi (m:=3) (d:=Rw.o4.map fun z=>z.map UInt8.ofBitVec) (by kernel_rfl) (by kernel_rfl) hd3 rfl
    unfold World.var? at hvar3
    rw [hg'] at hvar3
    simp only [Option.bind_some] at hvar3
    split at hvar3
    · rename_i cs e fr hb
      refine ⟨e,fr,?_⟩
      rw [hb,Option.some.inj hvar3,← Array.toArray_toList (xs:=cs3),hcs]
      rfl
    · cases hvar3
  · have hg' : Tryd.prog.globalNamed "despatch/rewrite.protected" = some 1:=by kernel_rfl
    obtain rfl:=Option.some.inj (hg'.symm.trans hg)
    have ht' : (Tryd.prog.globals[1]?).map (·.type)=some 64:=by kernel_rfl
    obtain rfl:=Option.some.inj (ht'.symm.trans ht)
    have hcs:=qi (m:=7) (d:=Rw.o6.map fun z=>z.map UInt8.ofBitVec) (by kernel_rfl) (by kernel_rfl) hd rfl
    unfold World.var? at hvar
    rw [hg'] at hvar
    simp only [Option.bind_some] at hvar
    split at hvar
    · rename_i cs e fr hb
      refine ⟨e,fr,?_⟩
      rw [hb,Option.some.inj hvar,← Array.toArray_toList (xs:=cs2),hcs]
      rfl
    · cases hvar
theorem gp {H : Type} {enc : TypeId × Value→H} {a : Assume} {C : Checked} {os : Os} {f : FuncId} {fn : Func} {s : ChangeSpec} {conds : List PathCond} {apart fresh handsOn again : Bool} {X : World→Array Value→Prop}
    (hX : ∀ (w w' : World) (args : Array Value),w.heap=w'.heap→X w args→X w' args)
    (own : ownKnob C.prog.godebug=none) (started : os.Started) (noInit : C.prog.inits.idxOf? f=none) (hfn : C.prog.funcs[f]?=some fn)
    (witness : ∃ (w : World) (tape : Tape) (i : Input),w.os=os∧(w.forCall tape i).Shaped C.prog∧i.vars=[]∧Input.okWide C.prog (w.forCall tape i) .any w.heap.size f i∧
      ((s.pre enc C.prog fn conds apart (w.forCall tape i).memory i.args∧X (w.forCall tape i).memory i.args)∧sizedMet enc C.prog fn (OpenSpec.ofChange s) apart (w.forCall tape i).memory i.args)∧a.holds C.prog (lone (Frame.enter C.prog f i.args .normal) [] (w.forCall tape i)))
    (contract : ∀ (W : World) (base : Nat) (args : Array Value) (ds gs : List (DataW H)) (before : List MemPlace),
      (∀ (j : Nat) t v,fn.params[j]?=some t→args[j]?=some v→Value.okWide C.prog W .any base t v)→
      DataW.Whole enc C.prog fn.params.toList s.vars apart W args.toList ds gs before→
      conds.all (PathCond.test C.prog ⟨fn.params.toList,ds,s.plain.varTypes C.prog,gs⟩)=true→
      (DataW.weightsEach C.prog (fn.params.toList++s.plain.varTypes C.prog) (ds++gs)).all (·≤reachBytes)=true→X W args→W.ShapedOpen C.prog→
      Calls C.prog f args W fun e W'=>∃ v,e=.returned v∧s.post enc C.prog fn apart fresh handsOn again W args v W') :
    ReturnsInHanded a C os f .any (fun w args=>(s.pre enc C.prog fn conds apart w args∧X w args)∧sizedMet enc C.prog fn (OpenSpec.ofChange s) apart w args) (s.post enc C.prog fn apart fresh handsOn again):=
  returnsInHanded_of_calls own started noInit witness fun w tape i _ hsh _ hok hpre _=>by
    obtain ⟨_,_,_,fn',hfn',_,_,_,_,hval⟩:=hok
    obtain rfl : fn'=fn:=Option.some.inj (hfn'.symm.trans hfn)
    obtain ⟨⟨⟨ds,gs,before,hw,hc⟩,hx⟩,hz⟩:=hpre
    have hw':=DataW.Whole.of_heap (w':=w.forCall tape i) (by rfl) hw
    refine (contract (w.forCall tape i) w.heap.size i.args ds gs before hval hw' hc (hz.weights hw) (hX _ _ _ (by rfl) hx) hsh).mono fun e W' ⟨v,he,hp⟩=>?_
    subst he
    exact ChangeSpec.post_blind hp
end
end Go.Proofs.YtbmagnpmfpfckaaDoor
