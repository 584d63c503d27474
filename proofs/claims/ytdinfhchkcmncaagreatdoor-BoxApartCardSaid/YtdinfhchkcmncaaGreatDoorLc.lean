/-
  Of no statement by itself: the texts JrnH, JrnI, JrnJ, JrnK, JrnL, JrnQ, Same, JrnR, LinB, StoP, Slmp, StoA, StoB, StoC, StoS in one.
  Conditions: each theorem's own.
-/
import Derived.Test.YtdinfhchkcmncaaGreatDoorLb
import Derived.Laws.Cover3
import Derived.Laws.IdiomRangeMap
import Derived.Shelf.SlMaps.Clone
import Derived.Shelf.Sort.Plain
import Derived.Shelf.Slices.In.SortNone
import Derived.Sort.OwnSorted
set_option linter.unusedSimpArgs false
set_option linter.unusedVariables false
namespace Go.Proofs.YtdinfhchkcmncaaGreatDoor
section
set_option maxRecDepth 10000
open Sl dc dz
theorem az.ok.iP {w0 w : World} {S : List Nat} {M : List aj} {s : az} (h : s.ok w0) (hw : Holds w0 S M w) (ha : ia s S) : s.ok w:=
  ⟨h.len,hw.reads h.reads fun h0 a e=>ha (fun h1=>h0 (by rw [h1];rfl)) a e⟩
def putAt (bl : List Bk) (k : Nat) (l : List Bk) : List Bk:=bl.take k++l++bl.drop (k+l.length)
theorem gC (bl : List Bk) (k : Nat) : putAt bl k []=bl:=by simp [putAt]
theorem di {bl : List Bk} {k : Nat} {l : List Bk} (h : k+l.length≤bl.length) : (putAt bl k l).length=bl.length:=by
  simp only [putAt,List.length_append,List.length_take,List.length_drop]
  omega
theorem qP {bl : List Bk} {k : Nat} {l : List Bk} {b : Bk} (h : k+l.length<bl.length) : (putAt bl k l).set (k+l.length) b=putAt bl k (l++[b]):=by
  have h1 : (bl.take k++l).length=k+l.length:=by rw [List.length_append,List.length_take];omega
  unfold putAt
  rw [List.set_append_right _ _ (by rw [h1];exact Nat.le_refl _),h1,Nat.sub_self,List.drop_eq_getElem_cons h,List.set_cons_zero,List.length_append,List.length_singleton]
  simp [List.append_assoc]
  congr 1
theorem xY (x : Dp) : dO Tryz.prog 27 (Pt x.p 0) "Write" 153:=by unfold dO;kernel_rfl
theorem zY (x : Dp) : dO Tryz.prog 27 (Pt x.p 0) "Sync" 152:=by unfold dO;kernel_rfl
section
variable {n : Nat} {w0 : World} {S : List Nat} {ops : Array Oper} {Q : Exit→Act→World→Prop} {l : List Oper} {E : Env} {M : List aj}
variable {d : Nat} {ty : TypeId} {pos : String} {aft : Array Edge} {x1 x2 x3 : Operand} {ats : Array TypeId} {x : Dp} {bl : List Bk} {pd : List (Nat × Bk)}
theorem JL.zZ {k : Nat} {b : Bk} (h : br x bl pd) (hn : k<bl.length) (hb : b.length=64) (e1 : ev E x1=some (gB x)) (e2 : ev E x2=some (N k)) (e3 : ev E x3=some (.agg (bc b).toArray)) (hd : Nat.blt d n=true)
    (kk : ∀ y,JL Tryz.prog n w0 S ops Q l ((d,N 0)::E) (bT ⟨x.p,x.q,x.cap,some y⟩ (bl.set k b) (wrote bl pd k)++M)) : JL Tryz.prog n w0 S ops Q (⟨some d,.call ⟨.invoke x1 "Write",#[x2,x3],ats⟩,ty,pos,aft,none⟩::l) E (bT x bl pd++M):=
  JL.ze (ι:=Nat × Nat) (vs:=[Pt x.p 0,N k,.agg (bc b).toArray]) (fun _=>N 0) (fun y=>bT ⟨x.p,x.q,x.cap,some y⟩ (bl.set k b) (wrote bl pd k)) (fun a ha w=>kZ (xs:=[x2,x3]) (xY x) oU ha e1 (by simp [gS,e2,e3]) w) hd (bW _ _ _) (fun _=>bW _ _ _)
    (fun w _ hw=>tq x bl pd k b hn hb h w hw) kk
theorem JL.vL (e1 : ev E x1=some (gB x)) (hd : Nat.blt d n=true)
    (kk : JL Tryz.prog n w0 S ops Q l ((d,.tuple #[])::E) (bT ⟨x.p,x.q,x.cap,none⟩ bl []++M)) : JL Tryz.prog n w0 S ops Q (⟨some d,.call ⟨.invoke x1 "Sync",#[],ats⟩,ty,pos,aft,none⟩::l) E (bT x bl pd++M):=
  JL.ze (ι:=Unit) (vs:=[Pt x.p 0]) (fun _=>.tuple #[]) (fun _=>bT ⟨x.p,x.q,x.cap,none⟩ bl []) (fun a ha w=>kZ (xs:=[]) (zY x) qB ha e1 rfl w) hd (bW _ _ _) (fun _=>bW _ _ _)
    (fun w _ hw=>(tn x bl pd w hw).mono fun e w' ⟨g1,g2⟩=>⟨(),g1,g2⟩) fun _=>kk
theorem OQ.Be {C : World→Prop} {dst : Option Tmp} {g : Option (Nat × Bool)} {t : TypeId} {v : Value} (hx : ev E x1=some (.iface t v)) : OQ Tryz.prog n E C ⟨dst,.nilCheck x1,ty,pos,aft,g⟩ (.iface t v):=
  OQ.run fun a ha w _=>by
    have h1:=ha.eval hx
    simp [execOp,h1]
end
structure Dw (x : Dp) (bl : List Bk) (m : Nat) where
  a : Acc
  pd : List (Nat × Bk)
  ok : br ⟨x.p,x.q,x.cap,a⟩ bl pd
  n : pd.length≤m
def Dw.E {x : Dp} {bl : List Bk} {m : Nat} (z : Dw x bl m) : List aj:=bT ⟨x.p,x.q,x.cap,z.a⟩ bl z.pd
theorem Dw.wr {x : Dp} {bl : List Bk} {m : Nat} (z : Dw x bl m) : ∀ e ∈ z.E,e.wr=true:=bW _ _ _
theorem tO {l : Bk} {i : Nat} (h : i * 42≤l.length) : (l.take (min ((i+1) * 42) l.length)).drop (i * 42)=chunk l i:=by
  unfold chunk
  rw [List.drop_take]
  by_cases hh : (i+1) * 42≤l.length
  · rw [Nat.min_eq_left hh]
    congr 1
    omega
  · rw [Nat.min_eq_right (by omega),List.take_of_length_le (by rw [List.length_drop];exact Nat.le_refl _),List.take_of_length_le (by rw [List.length_drop];omega)]
theorem Bf {n i : Nat} (h : i<nb n) : i * 42≤n:=by unfold nb at h;omega
theorem tP {g : BitVec 32} {r : Nat} {rec : Bk} {i : Nat} (h : i<nb rec.length) : (cH g r rec).take (i+1)=(cH g r rec).take i++[blk g r rec i]:=by
  rw [List.take_add_one]
  congr 1
  simp [cH,h]
theorem jW : aI Tryz.prog 77:=⟨_,Tryz.func77,rfl,by kernel_rfl⟩
set_option maxHeartbeats 32000000 in
theorem mW (h : Hf) (bl : List Bk) (pd : List (Nat × Bk)) (at' num : Nat) (s : az) (hd : br h.x bl pd) (hs : h.first+h.size≤bl.length) (ha : at'+nb s.l.length≤h.size) (hm : pd.length+h.size≤1000000) (w : World) (hok : s.ok w) (hap : ia s (keys (bT h.x bl pd))) (h0 : Holds w (keys (bT h.x bl pd)) (bT h.x bl pd) w) :
    Calls Tryz.prog 77 [.agg (bf h).toArray,N at',N num,s.v].toArray w fun e w'=>∃ z : Dw h.x (putAt bl (h.first+at') (cH h.g num s.l)) (pd.length+nb s.l.length),e=.returned (.tuple #[])∧Holds w (keys (bT h.x bl pd)) z.E w':=by
  have hcl:=hok.len
  have hn1:=hd.n1
  have hnl : s.l.length≤nb s.l.length * 42:=mO _
  have hnp:=lp s.l.length
  generalize hS : keys (bT h.x bl pd)=S at hap h0 ⊢
  refine enter (n:=55) Tryz.func77 rfl rfl rfl h0 ?_
  repeat (first | refine JC.seq ?_ | refine JC.region ?_)
  refine JL.box (r:=bf h) rfl rfl rfl fun b4 _=>?_
  repeat (first | refine JL.q (by first|(apply OQ.len (k:=s.l.length) (ad:=s.ad) (cap:=s.cap);exact Tryz.underlying24;rfl)|(apply OQ.aB (vs:=[N s.l.length]);exact cS;rfl;exact (fun w' _=>dD s.l.length (by omega) w'))|(apply OQ.move;rfl)|(apply OQ.assign;rfl)) rfl ?_ | refine JC.seq ?_ | refine JC.region ?_ | refine JC.block ?_ | refine JL.nil ?_ | refine JE.next ?_)
  refine JC.loop (fun z : Nat × Acc × List (Nat × Bk)=>[(1,N at'),(2,N num),(3,s.v),(4,Pt b4 0),(8,N (nb s.l.length)),(15,N (nb s.l.length)),(16,N z.1)]) (fun z=>⟨b4,Row 119 (bf h),true⟩::bT ⟨h.x.p,h.x.q,h.x.cap,z.2.1⟩ (putAt bl (h.first+at') ((cH h.g num s.l).take z.1)) z.2.2) (fun z=>nb s.l.length - z.1) (fun z=>z.1≤nb s.l.length∧br ⟨h.x.p,h.x.q,h.x.cap,z.2.1⟩ (putAt bl (h.first+at') ((cH h.g num s.l).take z.1)) z.2.2∧z.2.2.length≤pd.length+z.1) (0,h.x.a,pd) ⟨Nat.zero_le _,by rw [List.take_zero,gC];exact hd,Nat.le_refl _⟩ (by repeat (first | exact ah.nil | refine ah.cons _ _ _ rfl ?_)) (by rw [List.take_zero,gC];exact ak.refl _) ?_
  rintro ⟨i,qa,ps⟩ ⟨hi,hdi,hpi⟩
  dsimp only at hi hdi hpi ⊢
  repeat (first | refine JL.q (by (apply OQ.fc;rfl;rfl)) rfl ?_ | refine JC.seq ?_ | refine JC.region ?_ | refine JL.nil ?_ | refine JE.next ?_)
  refine JC.cond rfl (fun hc=>?_) (fun hc=>?_)
  · have hi' : i<nb s.l.length:=by have:=of_decide_eq_true hc;omega
    clear hc
    have hlo:=Bf hi'
    have hch:=tO hlo
    have htk:=tP (g:=h.g) (r:=num) hi'
    have hkl : (cH h.g num s.l).length=nb s.l.length:=bX _ _ _
    have hps:=qP (bl:=bl) (k:=h.first+at') (l:=(cH h.g num s.l).take i) (b:=blk h.g num s.l i) (by rw [List.length_take,hkl];omega)
    rw [← htk,List.length_take,hkl,Nat.min_eq_left hi] at hps
    have hln : (putAt bl (h.first+at') ((cH h.g num s.l).take i)).length=bl.length:=di (by rw [List.length_take,hkl];omega)
    have hmk : tE h.g num (nb s.l.length) i=(h.g,BitVec.ofNat 32 num,BitVec.ofNat 16 i,decide (i=nb s.l.length - 1)):=by
      unfold tE
      congr 3
      exact decide_eq_decide.2 (by omega)
    have hbk : blk h.g num s.l i=aY (tE h.g num (nb s.l.length) i) (chunk s.l i):=rfl
    have hcl2 : (chunk s.l i).length≤42:=by rw [dz.bH];omega
    have hb64 : (blk h.g num s.l i).length=64:=by rw [hbk];exact jz hcl2
    rw [hmk] at hbk
    generalize putAt bl (h.first+at') ((cH h.g num s.l).take i)=bi at hdi hps hln ⊢
    have cB:=fun {M : List aj} w' (hw' : Holds w S M w')=>o6 (h.g,BitVec.ofNat 32 num,BitVec.ofNat 16 i,decide (i=nb s.l.length - 1)) (s.sub (i * 42) (min ((i+1) * 42) s.l.length)) w' ((hok.iP hw' hap).sub (by omega) (by omega)) (by show ((s.l.take _).drop _).length≤42;rw [hch];exact hcl2)
    rw [show (s.sub (i * 42) (min ((i+1) * 42) s.l.length)).l=chunk s.l i from hch,← hbk] at cB
    repeat (first | refine JL.q (by first|(apply OQ.mulN (a:=i) (b:=42);rfl;rfl;exact (by omega))|(apply OQ.mulN (a:=i+1) (b:=42);rfl;rfl;exact (by omega))|(apply OQ.len (k:=s.l.length) (ad:=s.ad) (cap:=s.cap);exact Tryz.underlying24;rfl)|(apply OQ.AY;rfl;rfl)|(apply OQ.zS (s:=s) (lo:=i * 42) (hi:=min ((i+1) * 42) s.l.length);exact Tryz.underlying24;exact gN;rfl;rfl;rfl;exact (by omega);exact (by omega);exact hcl)|(apply OQ.load;exact gO;rfl;exact .here;exact (Row.cell (v:=dF h.g) rfl))|(apply OQ.kS;exact Tryz.underlying3;exact Tryz.underlying117;rfl)|(apply OQ.lu;exact Tryz.underlying3;exact Tryz.underlying172;rfl)|(apply OQ.BQ;rfl;rfl)|(apply OQ.nQ (m:=(h.g,BitVec.ofNat 32 num,BitVec.ofNat 16 i,decide (i=nb s.l.length - 1)));rfl;rfl;rfl;rfl)|(apply OQ.move;rfl)|(apply OQ.assign;rfl)|(apply OQ.addN;rfl;rfl;exact (by (try simp only []);omega))|(apply OQ.qj;rfl;rfl;exact (by (try simp only []);omega);exact (by (try simp only []);omega))|(apply OQ.bA;rfl;rfl;rfl;exact (by decide);rfl)) rfl ?_ | refine JC.seq ?_ | refine JC.region ?_ | refine JC.block ?_ | refine JC.skip ?_ | refine JL.nil ?_ | refine JE.next ?_)
    refine JL.alloc AM rfl fun b11 _=>?_
    refine JL.ai (cs:=bN (h.g,BitVec.ofNat 32 num,BitVec.ofNat 16 i,decide (i=nb s.l.length - 1))) ji rfl rfl rfl rfl .here rfl ?_
    repeat (first | refine JL.nil ?_ | refine JE.next ?_)
    refine JC.tail 13 cC (by kernel_rfl) ?_
    simp only [List.take_succ_cons,List.take_zero,List.drop_succ_cons,List.drop_zero]
    repeat (first | refine JQ.q (by first|(apply OQ.load;exact zg;rfl;exact (.there .here);exact (Row.cell (v:=gB h.x) rfl))|(apply OQ.load;exact cr;rfl;exact (.there .here);exact (Row.cell (v:=N h.first) rfl))|(apply OQ.aq (cs:=bN (h.g,BitVec.ofNat 32 num,BitVec.ofNat 16 i,decide (i=nb s.l.length - 1)));exact fL;exact ji;rfl;exact .here;rfl;exact Row.all)|(apply OQ.aB (vs:=[.agg (bN (h.g,BitVec.ofNat 32 num,BitVec.ofNat 16 i,decide (i=nb s.l.length - 1))).toArray,(s.sub (i * 42) (min ((i+1) * 42) s.l.length)).v]);exact nS;rfl;exact (fun w' hw'=>cB w' hw'))|(apply OQ.Be;rfl)|(apply OQ.move;rfl)|(apply OQ.addN;rfl;rfl;exact (by (try simp only []);omega))|(apply OQ.bA;rfl;rfl;rfl;exact (by decide);rfl)) rfl ?_ | refine JQ.cq ?_)
    refine JL.perm (M':=bT ⟨h.x.p,h.x.q,h.x.cap,qa⟩ bi ps++[⟨b11,Row 174 (bN (h.g,BitVec.ofNat 32 num,BitVec.ofNat 16 i,decide (i=nb s.l.length - 1))),true⟩,⟨b4,Row 119 (bf h),true⟩]) ?_ (by exact List.perm_append_comm (l₁:=[_,_]))
    refine JL.zZ (k:=h.first+at'+i) (b:=blk h.g num s.l i) hdi (by omega) hb64 rfl rfl rfl rfl fun y=>?_
    rw [hps]
    repeat (first | refine JL.q (by first|(apply OQ.move;rfl)|(apply OQ.addN;rfl;rfl;exact (by (try simp only []);omega))) rfl ?_ | refine JC.region ?_ | refine JL.nil ?_ | refine JE.next ?_ | refine JE.au ?_)
    refine JE.perm (M':=⟨b4,Row 119 (bf h),true⟩::⟨b11,Row 174 (bN (h.g,BitVec.ofNat 32 num,BitVec.ofNat 16 i,decide (i=nb s.l.length - 1))),true⟩::bT ⟨h.x.p,h.x.q,h.x.cap,some y⟩ (putAt bl (h.first+at') ((cH h.g num s.l).take (i+1))) (wrote bi ps (h.first+at'+i))) (by exact (List.perm_append_comm (l₂:=[_,_])).trans (List.Perm.swap _ _ _)) ?_
    have hw:=hdi.write (n:=h.first+at'+i) (b:=blk h.g num s.l i) (by omega) hb64 (by omega) y
    rw [hps] at hw
    refine JE.again (i:=(i,qa,ps)) (i+1,some y,wrote bi ps (h.first+at'+i)) ⟨hi',hw,by dsimp only;rw [wrote,List.length_append,List.length_singleton];omega⟩ (by dsimp only;omega) (by repeat (first | exact ah.nil | refine ah.cons _ _ _ rfl ?_)) ?_
    exact .keep _ _ _ _ _ _ (fun _ h=>h) (.drop _ _ _ (ak.refl _))
  · have hi' : i=nb s.l.length:=by have:=of_decide_eq_false hc;omega
    subst hi'
    have ht : (cH h.g num s.l).take (nb s.l.length)=cH h.g num s.l:=List.take_of_length_le (by rw [bX];exact Nat.le_refl _)
    rw [ht] at hdi ⊢
    repeat (first | refine JC.exit ?_ | refine JE.aH ?_ | refine JE.aX ?_)
    exact JE.uS rfl fun w' hw=>⟨⟨qa,ps,hdi,hpi⟩,rfl,hw.weak (.drop _ _ _ (ak.refl _))⟩
end
section
set_option maxRecDepth 10000
open Sl dc dz
theorem gd {w0 w : World} {S : List Nat} {X M : List aj} {s : az} (hw : Holds w0 S (X++M) w) (hX : ∀ e ∈ X,e.wr=true) (hs : s.ok w0) (ha : ia s S) : ia s (keys X):=by
  intro h0 a e hm
  obtain ⟨y,he,hb⟩:=List.mem_map.1 hm
  have h1:=hs.lt h0 a e
  rcases (hw.all y (List.mem_append_left _ he)).2 (hX y he) with h | h
  · exact ha h0 a e (hb ▸ h)
  · omega
def bU (j : Nat) (h : Hf) (bl : List Bk) (pd : List (Nat × Bk)) : List aj:=⟨j,Row 121 (bf h),true⟩::bT h.x bl pd
theorem cl (j : Nat) (h : Hf) (bl : List Bk) (pd : List (Nat × Bk)) : ∀ e ∈ bU j h bl pd,e.wr=true:=by
  intro e he
  rcases List.mem_cons.1 he with rfl | he
  · rfl
  · exact bW _ _ _ e he
def nX (h : Hf) (n : Nat) : Hf:=⟨h.x,h.first,h.size,h.g,h.count+1,h.used+nb n⟩
def Dw.J {x : Dp} {bl : List Bk} {m : Nat} (z : Dw x bl m) (j : Nat) (h : Hf) : List aj:=⟨j,Row 121 (bf h),true⟩::z.E
theorem Dw.Cr {x : Dp} {bl : List Bk} {m : Nat} (z : Dw x bl m) (j : Nat) (h : Hf) : ∀ e ∈ z.J j h,e.wr=true:=by
  intro e he
  rcases List.mem_cons.1 he with rfl | he
  · rfl
  · exact z.wr e he
theorem xZ : dH Tryz.prog 3=some 1:=by kernel_rfl
theorem pn : aI Tryz.prog 56:=⟨_,Tryz.func56,rfl,by kernel_rfl⟩
set_option maxHeartbeats 32000000 in
theorem sD (j : Nat) (h : Hf) (bl : List Bk) (pd : List (Nat × Bk)) (s : az) (hd : br h.x bl pd) (hs : h.first+h.size≤bl.length) (ha : h.used+nb s.l.length≤h.size) (hc : h.count≤h.size) (hm : pd.length+h.size≤1000000) (w : World) (hok : s.ok w) (hap : ia s (keys (bU j h bl pd))) (h0 : Holds w (keys (bU j h bl pd)) (bU j h bl pd) w) :
    Calls Tryz.prog 56 [Pt j 0,s.v].toArray w fun e w'=>∃ z : Dw h.x (putAt bl (h.first+h.used) (cH h.g h.count s.l)) (pd.length+nb s.l.length),e=.returned (.tuple #[])∧Holds w (keys (bU j h bl pd)) (z.J j (nX h s.l.length)) w':=by
  have hcl:=hok.len
  have hn1:=hd.n1
  have hnl : s.l.length≤nb s.l.length * 42:=mO _
  generalize hS : keys (bU j h bl pd)=S at hap h0 ⊢
  refine enter (n:=34) Tryz.func56 rfl rfl rfl h0 ?_
  repeat (refine JC.seq ?_)
  refine JC.tail 12 cC (by kernel_rfl) ?_
  simp only [List.take_succ_cons,List.take_zero,List.drop_succ_cons,List.drop_zero]
  repeat (first | refine JQ.q (by first|(apply OQ.aq (cs:=bf h);exact dZ;exact fZ;rfl;exact .here;rfl;exact Row.all)|(apply OQ.load;exact cr;rfl;exact .here;exact (Row.cell (v:=N h.used) rfl))|(apply OQ.load;exact cr;rfl;exact .here;exact (Row.cell (v:=N h.count) rfl))|(apply OQ.move;rfl)|(apply OQ.bx;rfl)|(apply OQ.bA;rfl;rfl;rfl;exact (by decide);rfl)) rfl ?_ | refine JQ.cq ?_)
  refine JL.perm (M':=bT h.x bl pd++[⟨j,Row 121 (bf h),true⟩]) ?_ (by exact List.perm_append_comm (l₁:=[_]))
  refine JL.bI (ι:=Dw h.x (putAt bl (h.first+h.used) (cH h.g h.count s.l)) (pd.length+nb s.l.length)) (vs:=[.agg (bf h).toArray,N h.used,N h.count,s.v]) (fun _=>.tuple #[]) (fun z=>z.E) jW rfl rfl (bW _ _ _) (fun z=>z.wr) (fun w' hw' hx'=>mW h bl pd h.used h.count s hd hs ha hm w' (hok.iP hw' hap) (gd hw' (bW _ _ _) hok hap) hx') fun z=>?_
  refine JL.perm (M':=⟨j,Row 121 (bf h),true⟩::z.E) ?_ (by exact List.perm_append_comm (l₂:=[_]))
  repeat (first | refine JC.seq ?_ | refine JL.nil ?_ | refine JE.next ?_)
  refine JC.tail 10 cC (by kernel_rfl) ?_
  simp only [List.take_succ_cons,List.take_zero,List.drop_succ_cons,List.drop_zero]
  repeat (first | refine JQ.q (by first|(apply OQ.load;exact cr;rfl;exact .here;exact (Row.cell (v:=N h.used) rfl))|(apply OQ.len (k:=s.l.length) (ad:=s.ad) (cap:=s.cap);exact Tryz.underlying24;rfl)|(apply OQ.aB (vs:=[N s.l.length]);exact cS;rfl;exact (fun w' _=>dD s.l.length (by omega) w'))|(apply OQ.move;rfl)|(apply OQ.bx;rfl)|(apply OQ.addN;rfl;rfl;exact (by (try simp only []);omega))|(apply OQ.bA;rfl;rfl;rfl;exact (by decide);rfl)) rfl ?_ | refine JQ.cq ?_)
  refine JL.cY (b:=j) (r:=bf h) (r':=bf ⟨h.x,h.first,h.size,h.g,h.count,h.used+nb s.l.length⟩) xZ rfl rfl rfl rfl .here (show 5<6 by decide) rfl ?_
  repeat (first | refine JL.q (by first|(apply OQ.load;exact cr;rfl;exact .here;exact (Row.cell (v:=N h.count) rfl))|(apply OQ.move;rfl)|(apply OQ.bx;rfl)|(apply OQ.addN;rfl;rfl;exact (by (try simp only []);omega))|(apply OQ.bA;rfl;rfl;rfl;exact (by decide);rfl)) rfl ?_ | refine JC.region ?_ | refine JL.nil ?_ | refine JE.next ?_)
  refine JL.cY (b:=j) (r:=bf ⟨h.x,h.first,h.size,h.g,h.count,h.used+nb s.l.length⟩) (r':=bf (nX h s.l.length)) xZ rfl rfl rfl rfl .here (show 4<6 by decide) rfl ?_
  repeat (refine JL.nil ?_)
  exact JE.uS rfl fun w' hw=>⟨z,rfl,hw⟩
end
section
set_option maxRecDepth 10000
open Sl dc dz
theorem x5 {w : World} {s : r9} (h : s.ok w) (h0 : 0<s.rs.length) : ∃ b j,s.ad=some ⟨b,j,none⟩∧b<w.heap.size∧∀ i,i<s.rs.length→w.cell? ⟨b,j+i,none⟩=some (s.rs.getD i bB).v:=by
  obtain ⟨b,j,e1,c1⟩:=h.reads.at (by rw [List.length_map];exact h0)
  exact ⟨b,j,e1,block_lt_of_cell (c1 0 _ (e9 az.v bB h0)),fun i hi=>c1 i _ (e9 az.v bB hi)⟩
structure zi (s : r9) (S : List Nat) : Prop where
  a : s.rs≠[]→∀ a,s.ad=some a→a.block ∉ S
  all : ∀ y ∈ s.rs,ia y S
theorem gD {rs : List az} {i : Nat} (h : i<rs.length) : rs.getD i bB ∈ rs:=by
  rw [List.getD_eq_getElem?_getD,List.getElem?_eq_getElem h]
  exact List.getElem_mem h
theorem tQ {bl : List Bk} {k : Nat} {a b : List Bk} (h : k+a.length+b.length≤bl.length) : putAt (putAt bl k a) (k+a.length) b=putAt bl k (a++b):=by
  have h1 : (bl.take k++a).length=k+a.length:=by rw [List.length_append,List.length_take];omega
  have e1 : (bl.take k++a++bl.drop (k+a.length)).take (k+a.length)=bl.take k++a:=List.take_left' h1
  have e2 : (bl.take k++a++bl.drop (k+a.length)).drop (k+a.length+b.length)=bl.drop (k+(a++b).length):=by
    rw [← List.drop_drop,List.drop_left' h1,List.drop_drop,List.length_append,Nat.add_assoc]
  unfold putAt
  rw [e1,e2]
  simp [List.append_assoc]
theorem tT {bl : List Bk} {k : Nat} {a b : List Bk} (h : k+a.length+b.length≤bl.length) : putAt (putAt bl (k+a.length) b) k a=putAt bl k (a++b):=by
  have h1 : (bl.take (k+a.length)).length=k+a.length:=by rw [List.length_take];omega
  have e1 : (bl.take (k+a.length)++b++bl.drop (k+a.length+b.length)).take k=bl.take k:=by
    rw [List.append_assoc,List.take_append_of_le_length (by rw [h1];omega),List.take_take,Nat.min_eq_left (by omega)]
  have e2 : (bl.take (k+a.length)++b++bl.drop (k+a.length+b.length)).drop (k+a.length)=b++bl.drop (k+a.length+b.length):=by
    rw [List.append_assoc,List.drop_left' h1]
  unfold putAt
  rw [e1,e2]
  simp [List.append_assoc,Nat.add_assoc]
theorem pq : dY Tryz.prog 24=true:=by kernel_rfl
theorem vM : dH Tryz.prog 24=some 1:=by kernel_rfl
theorem lE : aI Tryz.prog 81:=⟨_,Tryz.func81,rfl,by kernel_rfl⟩
def ie (h : Hf) (g : BitVec 32) (aa : List Bk) : Hf:=⟨h.x,h.first,h.size,g,aa.length,room aa⟩
def mX (x : Dp) : Dp:=⟨x.p,x.q,x.cap,none⟩
theorem dK (r : Bk) (rs : List Bk) : room (r::rs)=nb r.length+room rs:=rfl
theorem fq (rs : List Bk) (i : Nat) : room (rs.take i)≤room rs:=by
  have:=dA (rs.take i) (rs.drop i)
  rw [List.take_append_drop] at this
  omega
def gP (h : Hf) (g : BitVec 32) (n0 : Nat) (rt : List Bk) (i : Nat) (qa : Acc) : Hf:=⟨⟨h.x.p,h.x.q,h.x.cap,qa⟩,h.first,h.size,g,1+i,n0+room (rt.take i)⟩
def gQ (h : Hf) (g : BitVec 32) (bl : List Bk) (n0 : Nat) (rt : List Bk) (i : Nat) : List Bk:=putAt bl (h.first+n0) (bt g 1 (rt.take i))
theorem jB {rt : List Bk} {i : Nat} (h : i<rt.length) : rt.take (i+1)=rt.take i++[rt.getD i []]:=by
  rw [List.take_add_one]
  simp [List.getD_eq_getElem?_getD,h]
theorem vN {h : Hf} {g : BitVec 32} {bl : List Bk} {n0 : Nat} {rt : List Bk} {i : Nat} (hi : i<rt.length) (hb : h.first+n0+room rt≤bl.length) :
    putAt (gQ h g bl n0 rt i) (h.first+(n0+room (rt.take i))) (cH g (1+i) (rt.getD i []))=gQ h g bl n0 rt (i+1):=by
  have e:=jB hi
  have hr:=fq rt (i+1)
  rw [e,dA] at hr
  have hr1 : room [rt.getD i []]=nb (rt.getD i []).length:=by simp [room]
  have ea : bt g 1 (rt.take (i+1))=bt g 1 (rt.take i)++cH g (1+i) (rt.getD i []):=by
    rw [e,fX,List.length_take,Nat.min_eq_left (by omega)]
    congr 1
    rw [bt,bt,List.append_nil]
  unfold gQ
  rw [ea,← tQ (by rw [bP,bX];omega),bP]
  congr 1
  omega
set_option maxHeartbeats 64000000 in
theorem mY (j : Nat) (h : Hf) (bl : List Bk) (pd : List (Nat × Bk)) (g : BitVec 32) (s : r9) (hd : br h.x bl pd) (hs : h.first+h.size≤bl.length) (hne : 0<s.rs.length) (ha : room (s.rs.map az.l)≤h.size) (hm : pd.length+(h.size+h.size)≤1000000) (w : World) (hok : s.ok w) (hap : zi s (keys (bU j h bl pd))) (h0 : Holds w (keys (bU j h bl pd)) (bU j h bl pd) w) :
    Calls Tryz.prog 81 [Pt j 0,dF g,s.v].toArray w fun e w'=>e=.returned (.tuple #[])∧Holds w (keys (bU j h bl pd)) (⟨j,Row 121 (bf (ie h g (s.rs.map az.l))),true⟩::bT (mX h.x) (putAt bl h.first (bt g 0 (s.rs.map az.l))) []) w':=by
  obtain ⟨b,jj,ead,lb,cb⟩:=x5 hok hne
  have hcap:=hok.len
  have hall:=hok.all
  have hbS:=hap.a (fun e=>by rw [e] at hne;cases hne) _ ead
  have haw:=hap.all
  have hn1:=hd.n1
  obtain ⟨ad,cap,rs⟩:=s
  dsimp only at ead hcap hall hbS haw hne ha cb ⊢
  subst ead
  obtain ⟨ls,hls⟩ : ∃ ls,rs.map az.l=ls:=⟨_,rfl⟩
  have hll : ls.length=rs.length:=by rw [← hls,List.length_map]
  have hat : ∀ i,i<rs.length→ls.getD i []=(rs.getD i bB).l:=fun i hi=>by rw [← hls];simp [List.getD_eq_getElem?_getD,hi]
  rw [hls] at ha ⊢
  obtain ⟨r0,rt,hrt⟩ : ∃ r0 rt,ls=r0::rt:=by
    cases ls with
    | nil=>rw [List.length_nil] at hll;omega
    | cons a l=>exact ⟨a,l,rfl⟩
  have hr0 : (rs.getD 0 bB).l=r0:=by rw [← hat 0 hne,hrt];rfl
  have hrl : rt.length+1=rs.length:=by rw [← hll,hrt];rfl
  have hrt' : ∀ i,i<rt.length→rt.getD i []=(rs.getD (i+1) bB).l:=fun i hi=>by rw [← hat (i+1) (by omega),hrt];rfl
  have hroom : nb r0.length+room rt≤h.size:=by rw [hrt,dK] at ha;exact ha
  have hge:=kC rt
  have hnl : r0.length≤nb r0.length * 42:=mO _
  obtain ⟨j1,hj1,hj2⟩ : ∃ j1,(if cap=1 then some (⟨b,jj,none⟩ : Addr) else (some (⟨b,jj,none⟩ : Addr)).map (·.add (1 * 1)))=some ⟨b,j1,none⟩∧(2≤rs.length→j1=jj+1):=by
    by_cases hc : cap=1
    · exact ⟨jj,by rw [if_pos hc],fun h2=>by omega⟩
    · exact ⟨jj+1,by rw [if_neg hc];rfl,fun _=>rfl⟩
  have hv1 : (Value.slice (if cap=1 then some (⟨b,jj,none⟩ : Addr) else (some (⟨b,jj,none⟩ : Addr)).map (·.add (1 * 1))) (rs.length - 1) (cap - 1))=.slice (some ⟨b,j1,none⟩) rt.length (cap - 1):=by rw [hj1,show rs.length - 1=rt.length by omega]
  have c0:=cb 0 hne
  have ok0:=hall _ (gD hne)
  have aw0:=haw _ (gD hne)
  generalize rs.getD 0 bB=s0 at c0 ok0 aw0 hr0
  subst hr0
  generalize hS : keys (bU j h bl pd)=S at hbS haw h0 aw0 ⊢
  refine enter (n:=54) Tryz.func81 rfl rfl rfl h0 ?_
  repeat (first | refine JL.q (by first|(apply OQ.dw (i:=0);exact Tryz.underlying134;exact vM;rfl;rfl;exact hne)|(apply OQ.bw;exact pq;rfl;exact lb;exact hbS;exact c0)|(apply OQ.len (k:=s0.l.length) (ad:=s0.ad) (cap:=s0.cap);exact Tryz.underlying24;rfl)|(apply OQ.aB (vs:=[N s0.l.length]);exact cS;rfl;exact (fun w' _=>dD s0.l.length (by omega) w'))|(apply OQ.move;rfl)|(apply OQ.bx;rfl)|(apply OQ.bA;rfl;rfl;rfl;exact (by decide);rfl)) rfl ?_ | refine JC.seq ?_ | refine JC.region ?_)
  refine JL.cY (b:=j) (r:=bf h) (r':=bf ⟨h.x,h.first,h.size,g,h.count,h.used⟩) A8 rfl rfl rfl rfl .here (show 3<6 by decide) rfl ?_
  repeat (refine JL.q (by first|(apply OQ.bx;rfl)|(apply OQ.bA;rfl;rfl;rfl;exact (by decide);rfl)) rfl ?_)
  refine JL.cY (b:=j) (r:=bf ⟨h.x,h.first,h.size,g,h.count,h.used⟩) (r':=bf ⟨h.x,h.first,h.size,g,1,h.used⟩) xZ rfl rfl rfl rfl .here (show 4<6 by decide) rfl ?_
  repeat (refine JL.q (by first|(apply OQ.bx;rfl)|(apply OQ.bA;rfl;rfl;rfl;exact (by decide);rfl)) rfl ?_)
  refine JL.cY (b:=j) (r:=bf ⟨h.x,h.first,h.size,g,1,h.used⟩) (r':=bf ⟨h.x,h.first,h.size,g,1,nb s0.l.length⟩) xZ rfl rfl rfl rfl .here (show 5<6 by decide) rfl ?_
  repeat (first | refine JL.q (by first|(apply OQ.to;exact (OQ.qm (lo:=1) (len:=rs.length) (cap:=cap) (ad:=some ⟨b,jj,none⟩) Tryz.underlying134 vM rfl rfl (by omega));exact hv1)|(apply OQ.len (k:=rt.length) (ad:=some ⟨b,j1,none⟩) (cap:=cap - 1);exact Tryz.underlying134;rfl)|(apply OQ.move;rfl)) rfl ?_ | refine JC.seq ?_ | refine JC.region ?_ | refine JC.block ?_ | refine JL.nil ?_ | refine JE.next ?_)
  refine JC.loop (fun z : Nat × Acc × List (Nat × Bk)=>[(0,Pt j 0),(1,dF g),(2,.slice (some ⟨b,jj,none⟩) rs.length cap),(24,.slice (some ⟨b,j1,none⟩) rt.length (cap - 1)),(25,N rt.length),(26,N z.1)]) (fun z=>bU j (gP h g (nb s0.l.length) rt z.1 z.2.1) (gQ h g bl (nb s0.l.length) rt z.1) z.2.2) (fun z=>rt.length - z.1) (fun z=>z.1≤rt.length∧br ⟨h.x.p,h.x.q,h.x.cap,z.2.1⟩ (gQ h g bl (nb s0.l.length) rt z.1) z.2.2∧z.2.2.length≤pd.length+room (rt.take z.1)) (0,h.x.a,pd) ⟨Nat.zero_le _,by unfold gQ;rw [List.take_zero,bt,gC];exact hd,Nat.le_refl _⟩ (by repeat (first | exact ah.nil | refine ah.cons _ _ _ rfl ?_)) (by unfold gQ;rw [List.take_zero,bt,gC];exact ak.refl _) ?_
  rintro ⟨i,qa,ps⟩ ⟨hi,hdi,hpi⟩
  dsimp only at hi hdi hpi ⊢
  have hmbl : (gQ h g bl (nb s0.l.length) rt i).length=bl.length:=di (by rw [bP];have:=fq rt i;omega)
  repeat (first | refine JL.q (by (apply OQ.fc;rfl;rfl)) rfl ?_ | refine JC.seq ?_ | refine JC.region ?_ | refine JL.nil ?_ | refine JE.next ?_)
  refine JC.cond rfl (fun hc=>?_) (fun hc=>?_)
  · have hi' : i<rt.length:=by have:=of_decide_eq_true hc;omega
    clear hc
    have hi2 : i+1<rs.length:=by omega
    have ci : w.cell? ⟨b,j1+i,none⟩=some (rs.getD (i+1) bB).v:=by
      rw [hj2 (by omega),show jj+1+i=jj+(i+1) by omega]
      exact cb (i+1) hi2
    have hri:=hrt' i hi'
    have oki:=hall _ (gD hi2)
    have awi:=haw _ (gD hi2)
    have hsn:=vN (h:=h) (g:=g) (bl:=bl) (n0:=nb s0.l.length) hi' (by omega)
    have hrr:=fq rt (i+1)
    rw [jB hi',dA] at hrr
    have hr1 : room [rt.getD i []]=nb (rt.getD i []).length:=by simp [room]
    have hts:=jB hi'
    rw [hr1] at hrr
    generalize rs.getD (i+1) bB=si at ci oki awi hri
    rw [hri] at hsn hrr hts
    have hrge:=kC (rt.take i)
    rw [List.length_take,Nat.min_eq_left hi] at hrge
    have cP:=fun w' (hw' : Holds w S (bU j (gP h g (nb s0.l.length) rt i qa) (gQ h g bl (nb s0.l.length) rt i) ps++[]) w') hx'=>sD j (gP h g (nb s0.l.length) rt i qa) (gQ h g bl (nb s0.l.length) rt i) ps si hdi (by rw [hmbl];exact hs) (by show nb s0.l.length+room (rt.take i)+nb si.l.length≤h.size;omega) (by show 1+i≤h.size;have:=lp s0.l.length;omega) (by show ps.length+h.size≤_;omega) w' (oki.iP hw' awi) (gd hw' (cl _ _ _ _) oki awi) hx'
    have hsn2 : putAt (gQ h g bl (nb s0.l.length) rt i) ((gP h g (nb s0.l.length) rt i qa).first+(gP h g (nb s0.l.length) rt i qa).used) (cH (gP h g (nb s0.l.length) rt i qa).g (gP h g (nb s0.l.length) rt i qa).count si.l)=gQ h g bl (nb s0.l.length) rt (i+1):=hsn
    rw [hsn2] at cP
    repeat (first | refine JL.q (by first|(apply OQ.dw (i:=i);exact Tryz.underlying134;exact vM;rfl;rfl;exact hi')|(apply OQ.bw;exact pq;rfl;exact lb;exact hbS;exact ci)|(apply OQ.move;rfl)|(apply OQ.assign;rfl)) rfl ?_ | refine JC.seq ?_ | refine JC.region ?_ | refine JC.block ?_ | refine JC.skip ?_ | refine JL.nil ?_ | refine JE.next ?_)
    refine JL.perm ?_ (List.Perm.of_eq (List.append_nil _).symm)
    refine JL.bI (ι:=Dw (gP h g (nb s0.l.length) rt i qa).x (gQ h g bl (nb s0.l.length) rt (i+1)) (ps.length+nb si.l.length)) (vs:=[Pt j 0,si.v]) (fun _=>.tuple #[]) (fun z=>z.J j (nX (gP h g (nb s0.l.length) rt i qa) si.l.length)) pn rfl rfl (cl _ _ _ _) (fun z=>z.Cr _ _) cP fun z=>?_
    repeat (first | refine JL.q (by first|(apply OQ.move;rfl)|(apply OQ.addN;rfl;rfl;exact (by (try simp only []);omega))) rfl ?_ | refine JC.region ?_ | refine JL.nil ?_ | refine JE.next ?_ | refine JE.au ?_)
    have hrs : room (rt.take (i+1))=room (rt.take i)+nb si.l.length:=by rw [hts,dA];simp [room]
    have eH : bf (nX (gP h g (nb s0.l.length) rt i qa) si.l.length)=bf (gP h g (nb s0.l.length) rt (i+1) z.a):=by
      unfold nX gP
      rw [hrs]
      simp only [bf,Nat.add_assoc]
      rfl
    obtain ⟨za,zp,zo,zn⟩:=z
    dsimp only at eH
    refine JE.again (i:=(i,qa,ps)) (i+1,za,zp) ⟨hi',zo,by dsimp only;omega⟩ (by dsimp only;omega) (by repeat (first | exact ah.nil | refine ah.cons _ _ _ rfl ?_)) ?_
    rw [List.append_nil]
    show ak (⟨j,Row 121 (bf (gP h g (nb s0.l.length) rt (i+1) za)),true⟩::bT ⟨h.x.p,h.x.q,h.x.cap,za⟩ (gQ h g bl (nb s0.l.length) rt (i+1)) zp) (⟨j,Row 121 (bf (nX (gP h g (nb s0.l.length) rt i qa) si.l.length)),true⟩::_)
    rw [eH]
    exact ak.refl _
  · have hi' : i=rt.length:=by have:=of_decide_eq_false hc;omega
    subst hi'
    have eT : gQ h g bl (nb s0.l.length) rt rt.length=putAt bl (h.first+nb s0.l.length) (bt g 1 rt):=by unfold gQ;rw [List.take_length]
    have eH : bf (gP h g (nb s0.l.length) rt rt.length qa)=bf (ie h g ls):=by
      unfold gP ie
      rw [List.take_length,hll,hrt,dK,← hrl,Nat.add_comm 1]
      rfl
    rw [List.take_length] at hpi
    rw [eT] at hdi hmbl ⊢
    unfold bU
    rw [eH]
    have hgl : ((rs.length : Nat) : Int)=rt.length+1:=by omega
    repeat (first | refine JL.q (by first|(apply OQ.len (k:=rs.length) (ad:=some ⟨b,jj,none⟩) (cap:=cap);exact Tryz.underlying134;rfl)|(apply OQ.move;rfl)|(apply OQ.BP;rfl;rfl)) rfl ?_ | refine JC.seq ?_ | refine JC.region ?_ | refine JC.exit ?_ | refine JL.nil ?_ | refine JE.next ?_ | refine JE.aH ?_ | refine JE.aX ?_)
    refine JC.join (ι:=Acc × List (Nat × Bk)) (fun _=>[(0,Pt j 0),(2,.slice (some ⟨b,jj,none⟩) rs.length cap)]) (fun z=>⟨j,Row 121 (bf (ie h g ls)),true⟩::bT ⟨h.x.p,h.x.q,h.x.cap,z.1⟩ (putAt bl (h.first+nb s0.l.length) (bt g 1 rt)) z.2) (fun z=>br ⟨h.x.p,h.x.q,h.x.cap,z.1⟩ (putAt bl (h.first+nb s0.l.length) (bt g 1 rt)) z.2∧z.2.length≤pd.length+room rt) ?_ ?_
    · refine JC.cond rfl (fun hg=>?_) (fun hg=>?_)
      · repeat (first | refine JL.q (by first|(apply OQ.load;exact zg;rfl;exact .here;exact (Row.cell (v:=gB h.x) rfl))|(apply OQ.move;rfl)|(apply OQ.bx;rfl)|(apply OQ.bA;rfl;rfl;rfl;exact (by decide);rfl)) rfl ?_ | refine JC.region ?_)
        refine JL.perm (M':=bT ⟨h.x.p,h.x.q,h.x.cap,qa⟩ (putAt bl (h.first+nb s0.l.length) (bt g 1 rt)) ps++[⟨j,Row 121 (bf (ie h g ls)),true⟩]) ?_ (by exact List.perm_append_comm (l₁:=[_]))
        refine JL.vL rfl rfl ?_
        repeat (refine JL.nil ?_)
        refine JE.perm (M':=⟨j,Row 121 (bf (ie h g ls)),true⟩::bT ⟨h.x.p,h.x.q,h.x.cap,none⟩ (putAt bl (h.first+nb s0.l.length) (bt g 1 rt)) []) (by exact List.perm_append_comm (l₂:=[_])) ?_
        exact JE.mid (none,[]) ⟨hdi.sync,Nat.zero_le _⟩ (by repeat (first | exact ah.nil | refine ah.cons _ _ _ rfl ?_)) (ak.refl _)
      · repeat (refine JC.skip ?_)
        exact JE.mid (qa,ps) ⟨hdi,hpi⟩ (by repeat (first | exact ah.nil | refine ah.cons _ _ _ rfl ?_)) (ak.refl _)
    clear hdi hpi
    rintro ⟨qa,ps⟩ ⟨hdi,hpi⟩
    dsimp only at hdi hpi ⊢
    have hfin : putAt (putAt bl (h.first+nb s0.l.length) (bt g 1 rt)) (h.first+0) (cH g 0 s0.l)=putAt bl h.first (bt g 0 ls):=by
      have:=tT (bl:=bl) (k:=h.first) (a:=cH g 0 s0.l) (b:=bt g 1 rt) (by rw [bX,bP];omega)
      rw [bX] at this
      rw [Nat.add_zero,this,hrt]
      rfl
    have cW:=fun w' (hw' : Holds w S (bT ⟨h.x.p,h.x.q,h.x.cap,qa⟩ (putAt bl (h.first+nb s0.l.length) (bt g 1 rt)) ps++[⟨j,Row 121 (bf (ie h g ls)),true⟩]) w') hx'=>mW ⟨⟨h.x.p,h.x.q,h.x.cap,qa⟩,h.first,h.size,g,ls.length,room ls⟩ (putAt bl (h.first+nb s0.l.length) (bt g 1 rt)) ps 0 0 s0 hdi (by rw [hmbl];exact hs) (by show 0+nb s0.l.length≤h.size;omega) (by show ps.length+h.size≤_;omega) w' (ok0.iP hw' aw0) (gd hw' (bW _ _ _) ok0 aw0) hx'
    dsimp only at cW
    rw [hfin] at cW
    repeat (refine JC.seq ?_)
    refine JC.tail 6 cC (by kernel_rfl) ?_
    simp only [List.take_succ_cons,List.take_zero,List.drop_succ_cons,List.drop_zero]
    repeat (first | refine JQ.q (by first|(apply OQ.aq (cs:=bf (ie h g ls));exact dZ;exact fZ;rfl;exact .here;rfl;exact Row.all)|(apply OQ.dw (i:=0);exact Tryz.underlying134;exact vM;rfl;rfl;exact hne)|(apply OQ.bw;exact pq;rfl;exact lb;exact hbS;exact c0)|(apply OQ.move;rfl)|(apply OQ.bx;rfl)) rfl ?_ | refine JQ.cq ?_)
    refine JL.perm (M':=bT ⟨h.x.p,h.x.q,h.x.cap,qa⟩ (putAt bl (h.first+nb s0.l.length) (bt g 1 rt)) ps++[⟨j,Row 121 (bf (ie h g ls)),true⟩]) ?_ (by exact List.perm_append_comm (l₁:=[_]))
    refine JL.bI (ι:=Dw ⟨h.x.p,h.x.q,h.x.cap,qa⟩ (putAt bl h.first (bt g 0 ls)) (ps.length+nb s0.l.length)) (vs:=[.agg (bf (ie h g ls)).toArray,N 0,N 0,s0.v]) (fun _=>.tuple #[]) (fun z=>z.E) jW rfl rfl (bW _ _ _) (fun z=>z.wr) cW fun z=>?_
    refine JL.perm (M':=⟨j,Row 121 (bf (ie h g ls)),true⟩::z.E) ?_ (by exact List.perm_append_comm (l₂:=[_]))
    repeat (first | refine JL.q (by first|(apply OQ.load;exact zg;rfl;exact .here;exact (Row.cell (v:=gB h.x) rfl))|(apply OQ.move;rfl)|(apply OQ.bx;rfl)|(apply OQ.bA;rfl;rfl;rfl;exact (by decide);rfl)) rfl ?_ | refine JC.region ?_ | refine JL.nil ?_ | refine JE.next ?_)
    refine JL.perm (M':=bT ⟨h.x.p,h.x.q,h.x.cap,z.a⟩ (putAt bl h.first (bt g 0 ls)) z.pd++[⟨j,Row 121 (bf (ie h g ls)),true⟩]) ?_ (by exact List.perm_append_comm (l₁:=[_]))
    refine JL.vL rfl rfl ?_
    repeat (refine JL.nil ?_)
    refine JE.perm (M':=⟨j,Row 121 (bf (ie h g ls)),true⟩::bT (mX h.x) (putAt bl h.first (bt g 0 ls)) []) (by exact List.perm_append_comm (l₂:=[_])) ?_
    exact JE.uS rfl fun w' hw=>⟨rfl,hw⟩
end
section
set_option maxRecDepth 10000
open Sl dc dz
theorem sE {g : BitVec 32} {r : Nat} : ∀ {bs : List Bk} {p : Nat} {acc rec : Bk} {k : Nat},rd g r bs p acc=some (rec,k)→(∀ b ∈ bs,b.length=64)→acc.length≤p * 42→rec.length≤k * 42
  | [],_,_,_,_,h,_,_=>by simp [rd] at h
  | b::bs,p,acc,rec,k,h,hb,ha=>by
    unfold rd at h
    split at h
    case isTrue hw=>
      have ⟨h1,h2⟩:=iL (hb b (by simp)) hw.1
      split at h
      · simp only [Option.some.injEq,Prod.mk.injEq] at h
        rw [← h.1,← h.2,List.length_append,h1]
        omega
      · exact sE h (fun x hx=>hb x (by simp [hx])) (by rw [List.length_append,h1];omega)
    · cases h
theorem lF {g : BitVec 32} : ∀ (f : Nat) (bs : List Bk) (n : Nat),(∀ b ∈ bs,b.length=64)→room (gW g f bs n)≤bs.length
  | 0,bs,n,_=>Nat.zero_le _
  | f+1,bs,n,hb=>by
    rw [gW]
    cases h : rd g n bs 0 [] with
    | none=>exact Nat.zero_le _
    | some rk=>
      obtain ⟨rec,k⟩:=rk
      have h1:=sE h hb (Nat.zero_le _)
      have h2:=vi h
      have ih:=lF (g:=g) f (bs.drop k) (n+1) (fun b hx=>hb b (List.mem_of_mem_drop hx))
      rw [List.length_drop] at ih
      rw [dK]
      have : nb rec.length≤k:=by unfold nb;omega
      omega
theorem mZ {bl : List Bk} {first : Nat} (hb : ∀ b ∈ bl,b.length=64) (h : first+bl.length / 2≤bl.length) : room (fM bl first)≤bl.length / 2:=by
  unfold fM fJ told
  refine Nat.le_trans (lF _ _ _ ?_) (by rw [ga h];omega)
  intro b hx
  unfold dR at hx
  exact hb b (List.mem_of_mem_drop (List.mem_of_mem_take (List.mem_of_mem_drop hx)))
theorem jC {bl : List Bk} (hb : ∀ b ∈ bl,b.length=64) (h4 : 4≤bl.length) : room (bu bl).2.2≤bl.length / 2∧0<(bu bl).2.2.length∧(bu bl).1≤bl.length / 2:=by
  have h0 : ∀ f,(0 : Int)<((ew bl f).toNat : Int)→0<(fM bl f).length:=fun f h=>by
    unfold ew at h
    split at h
    · simp at h
    · omega
  unfold bu
  split
  case isTrue h=>exact ⟨mZ hb (by omega),h0 _ h.1,Nat.zero_le _⟩
  · split
    case isTrue h=>exact ⟨mZ hb (by omega),h0 _ h,Nat.le_refl _⟩
    · exact ⟨by show 1+0≤_;omega,Nat.zero_lt_one,Nat.le_refl _⟩
theorem x6 {w0 w : World} {S : List Nat} {X M : List aj} {z : Gr} (hw : Holds w0 S (X++(z.E++M)) w) : zi z.s (keys X):=by
  have key : ∀ b,b ∈ z.E.map aj.b→b ∉ keys X:=fun b hb hm=>by
    have hn:=hw.nodup
    rw [List.map_append,List.nodup_append] at hn
    exact hn.2.2 b hm b (by rw [List.map_append];exact List.mem_append_left _ hb) rfl
  obtain ⟨q,rs,hq,hr⟩:=z
  refine ⟨fun _ a ha=>?_,fun y hy h0 a ha=>?_⟩
  · cases q with
    | none=>cases ha
    | some p=>
      have : a=⟨p.1,0,none⟩:=by cases ha;rfl
      rw [this]
      exact key p.1 (by unfold Gr.E;rw [List.map_append];exact List.mem_append_left _ (by simp [af]))
  · have hy' : y ∈ rs:=by
      have:=sC hq
      unfold Gr.s at hy
      rwa [this] at hy
    refine key a.block ?_
    unfold Gr.E
    rw [List.map_append]
    refine List.mem_append_right _ ?_
    unfold aC
    rw [List.map_flatMap,List.mem_flatMap]
    exact ⟨y,hy',by unfold az.fk;rw [ha];simp⟩
theorem qQ : aI Tryz.prog 69:=⟨_,Tryz.func69,rfl,by kernel_rfl⟩
theorem qR : aI Tryz.prog 47:=⟨_,Tryz.func47,rfl,by kernel_rfl⟩
def bR (bl : List Bk) : Nat:=if bl.length<4 then 2 else if gm bl=4294967295#32 then 6 else 0
def qS (x : Dp) (bl : List Bk) : Hf:=⟨x,bl.length / 2 - (bu bl).1,bl.length / 2,0,0,0⟩
def iQ (bl : List Bk) : List Bk:=putAt bl (bl.length / 2 - (bu bl).1) (bt (gm bl+1#32) 0 (bu bl).2.2)
def B3 (h : Hf) : Hf:=⟨mX h.x,h.first,h.size,h.g,h.count,h.used⟩
def iR (x : Dp) (bl : List Bk) : Hf:=B3 (ie (qS x bl) (gm bl+1#32) (bu bl).2.2)
set_option maxHeartbeats 32000000 in
theorem vO (x : Dp) (bl : List Bk) (pd : List (Nat × Bk)) (hd : br x bl pd) (hp : pd.length≤900000) (hno : bR bl=0) (w : World) (h0 : Holds w (keys (bT x bl pd)) (bT x bl pd) w) :
    Calls Tryz.prog 69 [gB x].toArray w fun e w'=>∃ j : Nat,e=.returned (.tuple #[Pt j 0,N 0])∧Holds w (keys (bT x bl pd)) (bU j (iR x bl) (iQ bl) []) w':=by
  have hn:=hd.n1
  have h4 : ¬ bl.length<4:=fun h=>by unfold bR at hno;rw [if_pos h] at hno;cases hno
  have hg : ¬ gm bl=4294967295#32:=fun h=>by unfold bR at hno;rw [if_neg h4,if_pos h] at hno;cases hno
  have cN:=fun {u w' : World} {S : List Nat} {M : List aj} (hw' : Holds u S (bT x bl pd++M) w')=>ic x bl pd hd.ok hn w' (qI hw')
  have eG : pe bl=.tuple #[dF (gm bl+1#32),N 0]:=by unfold pe;rw [if_neg hg]
  rw [eG] at cN
  have ⟨hr1,hr2,hr3⟩:=jC (bl:=bl) hd.ok.b (by omega)
  generalize hS : keys (bT x bl pd)=S at h0 ⊢
  refine enter (n:=36) Tryz.func69 rfl rfl rfl h0 ?_
  repeat (first | refine JL.q (by first|(apply OQ.inv (xs:=[]);exact (nT x);rfl;exact (OQ.aB (vs:=[Pt x.p 0]) ep rfl (fun w' hw'=>nW x bl pd w' (qI (M:=[]) (by rw [List.append_nil];exact hw')))))|(apply OQ.move;rfl)|(apply OQ.assign;rfl)|(apply OQ.fc;rfl;rfl)) rfl ?_ | refine JC.seq ?_ | refine JC.region ?_ | refine JL.nil ?_ | refine JE.next ?_)
  refine JC.cond rfl (fun hc=>absurd (of_decide_eq_true hc) (by omega)) (fun _=>?_)
  repeat (first | refine JL.q (by first|(apply OQ.aB (vs:=[gB x]);exact gb;rfl;exact (fun w' hw'=>cN (M:=[]) (by rw [List.append_nil];exact hw')))|(apply OQ.extract;rfl;rfl)|(apply OQ.jw (a:=0) (b:=0) (c:=true);rfl;rfl;rfl)|(apply OQ.move;rfl)|(apply OQ.assign;rfl)) rfl ?_ | refine JC.seq ?_ | refine JC.region ?_ | refine JC.skip ?_ | refine JL.nil ?_ | refine JE.next ?_)
  refine JC.cond_false rfl rfl ?_
  repeat (first | refine JL.q (by (apply OQ.move;rfl)) rfl ?_ | refine JC.seq ?_ | refine JC.region ?_ | refine JC.skip ?_ | refine JE.next ?_)
  refine JL.bq (ι:=pg (bu bl).2.2 (bl.length / 2)) (vs:=[gB x]) (fun z=>.tuple #[.agg (bf ⟨x,(bu bl).1,bl.length / 2,(bu bl).2.1,0,0⟩).toArray,z.1.v]) (fun z=>z.1.E) vH rfl rfl (fun z=>z.1.wr) (fun w' hw'=>xX x bl pd hd.ok hn (by omega) w' (qI (M:=[]) (by rw [List.append_nil];exact hw'))) fun z=>?_
  repeat (refine JL.q (by first|(apply OQ.extract;rfl;rfl)|(apply OQ.move;rfl)) rfl ?_)
  refine JL.alloc (r:=jA) zV rfl fun b6 _=>?_
  refine JL.ai (cs:=bf ⟨x,(bu bl).1,bl.length / 2,(bu bl).2.1,0,0⟩) fZ rfl rfl rfl rfl .here rfl ?_
  have cO:=fun w'=>mU ⟨x,(bu bl).1,bl.length / 2,(bu bl).2.1,0,0⟩ hr3 (by show bl.length / 2<_;omega) w'
  repeat (first | refine JL.q (by first|(apply OQ.aq (cs:=bf ⟨x,(bu bl).1,bl.length / 2,(bu bl).2.1,0,0⟩);exact dZ;exact fZ;rfl;exact .here;rfl;exact Row.all)|(apply OQ.aB (vs:=[.agg (bf ⟨x,(bu bl).1,bl.length / 2,(bu bl).2.1,0,0⟩).toArray]);exact lD;rfl;exact (fun w' _=>cO w'))|(apply OQ.zX (h:=qS x bl);rfl)|(apply OQ.assign;rfl)) rfl ?_ | refine JC.seq ?_ | refine JC.region ?_ | refine JL.nil ?_ | refine JE.next ?_)
  refine JL.box (r:=bf (qS x bl)) rfl rfl rfl fun j _=>?_
  obtain ⟨z,hz1,hz2⟩:=z
  have hzl : z.s.rs.map az.l=(bu bl).2.2:=by rw [z.Bb];exact hz1
  have hzn : 0<z.s.rs.length:=by rw [← hzl,List.length_map] at hr2;exact hr2
  refine JL.perm (M':=bU j (qS x bl) bl pd++(z.E++[⟨b6,Row 119 (bf ⟨x,(bu bl).1,bl.length / 2,(bu bl).2.1,0,0⟩),true⟩])) ?_ (by
    refine List.Perm.cons _ ?_
    refine (List.perm_append_singleton _ _).symm.trans ?_
    rw [List.append_assoc]
    exact List.perm_append_comm_assoc _ _ _)
  have cB:=fun w' (hw' : Holds w S (bU j (qS x bl) bl pd++(z.E++[⟨b6,Row 119 (bf ⟨x,(bu bl).1,bl.length / 2,(bu bl).2.1,0,0⟩),true⟩])) w') hx'=>mY j (qS x bl) bl pd (gm bl+1#32) z.s hd (by show bl.length / 2 - (bu bl).1+bl.length / 2≤bl.length;omega) hzn (by rw [hzl];exact hr1) (by show pd.length+(bl.length / 2+bl.length / 2)≤_;omega) w' (z.ok (hw'.weak (ay (bU j (qS x bl) bl pd) (an _ _)))) (x6 hw') hx'
  rw [hzl,z.qN] at cB
  repeat (first | refine JL.q (by first|(apply OQ.move;rfl)|(apply OQ.assign;rfl)|(apply OQ.bx;rfl)|(apply OQ.bA;rfl;rfl;rfl;exact (by decide);rfl)) rfl ?_ | refine JC.seq ?_ | refine JC.region ?_ | refine JL.nil ?_ | refine JE.next ?_)
  refine JL.bI (ι:=Unit) (vs:=[Pt j 0,dF (gm bl+1#32),z.v]) (fun _=>.tuple #[]) (fun _=>bU j (iR x bl) (iQ bl) []) lE rfl rfl (cl _ _ _ _) (fun _=>cl _ _ _ _) (fun w' hw' hx'=>(cB w' hw' hx').mono fun e w2 ⟨h1,h2⟩=>⟨(),h1,h2⟩) fun _=>?_
  repeat (first | refine JL.q (by first|(apply OQ.move;rfl)|(apply OQ.assign;rfl)) rfl ?_ | refine JC.seq ?_ | refine JC.region ?_ | refine JL.nil ?_ | refine JE.next ?_)
  refine JC.ret ?_
  skip
  exact JE.cg rfl (RV.tmp rfl) (RV.tmp rfl) fun w' hw=>⟨j,rfl,hw.weak (an _ _)⟩
theorem vP (x : Dp) (bl : List Bk) (pd : List (Nat × Bk)) (hd : br x bl pd) (hp : pd.length≤900000) (hno : bR bl=0) (w : World) (h0 : Holds w (keys (bT x bl pd)) (bT x bl pd) w) :
    Calls Tryz.prog 47 [Pt x.p 0].toArray w fun e w'=>∃ j : Nat,e=.returned (.tuple #[Pt j 0,N 0])∧Holds w (keys (bT x bl pd)) (bU j (iR x bl) (iQ bl) []) w':=by
  refine enter (n:=9) Tryz.func47 rfl rfl rfl h0 ?_
  repeat (first | refine JL.q (by first|(apply OQ.zW (x:=x);rfl)|(apply OQ.move;rfl)|(apply OQ.assign;rfl)) rfl ?_ | refine JC.seq ?_ | refine JC.region ?_ | refine JL.nil ?_ | refine JE.next ?_)
  refine JL.perm ?_ (List.Perm.of_eq (List.append_nil _).symm)
  refine JL.bI (ι:=Nat) (vs:=[gB x]) (fun j=>.tuple #[Pt j 0,N 0]) (fun j=>bU j (iR x bl) (iQ bl) []) qQ rfl rfl (bW _ _ _) (fun j=>cl _ _ _ _) (fun w' hw' hx'=>vO x bl pd hd hp hno w' hx') fun j=>?_
  rw [List.append_nil]
  repeat (first | refine JL.q (by first|(apply OQ.extract;rfl;rfl)|(apply OQ.assign;rfl)) rfl ?_ | refine JL.nil ?_ | refine JE.next ?_)
  exact JC.ret (JE.cg rfl (RV.tmp rfl) (RV.tmp rfl) fun w' hw=>⟨j,rfl,hw⟩)
end
section
set_option maxRecDepth 10000
open Sl dc dz
theorem qT {j : Nat} {h : Hf} {bl : List Bk} {pd : List (Nat × Bk)} {u w : World} {S : List Nat} {M : List aj} (hw : Holds u S (bU j h bl pd++M) w) : Holds w [] (Bd j h bl pd) w:=
  (fU hw).weak (.keep _ _ _ _ _ _ (fun _ h=>h) (.keep _ _ _ _ _ _ (fun _ h=>h) (.keep _ _ _ _ _ _ (fun _ h=>h) (.nil _))))
theorem z6 {j : Nat} {h : Hf} {bl : List Bk} {pd : List (Nat × Bk)} {u w : World} {S : List Nat} {M : List aj} (hw : Holds u S (bU j h bl pd++M) w) : Holds w [] (gX h.x bl pd) w:=
  (qT hw).weak (.drop _ _ _ (ak.refl _))
theorem z7 {j : Nat} {h : Hf} {bl : List Bk} {pd : List (Nat × Bk)} {u w : World} {S : List Nat} {M : List aj} (hw : Holds u S (Bd j h bl pd++M) w) : Holds w [] (gX h.x bl pd) w:=
  bJ (A:=[⟨j,Row 121 (bf h),false⟩]) (M:=M) hw
theorem pz (j : Nat) (h : Hf) (n : Nat) (hu : h.used≤h.size) (hb : h.size<4611686018427387904) (hn : n<4611686018427387904) (w : World) (h0 : Holds w [] [⟨j,Row 121 (bf h),false⟩] w) :
    Calls Tryz.prog 38 [Pt j 0,N n].toArray w fun e w'=>e=.returned (.bool (decide (nb n≤h.size - h.used)))∧Ext w w':=by
  have:=vK j h (n : Int) hu hb (by omega) w h0
  rwa [show decide ((0 : Int)≤(n : Int)∧nb (n : Int).toNat≤h.size - h.used)=decide (nb n≤h.size - h.used) from decide_eq_decide.2 (by simp)] at this
theorem vQ {j : Nat} {h : Hf} {u w : World} {S : List Nat} {M : List aj} {wr : Bool} (hw : Holds u S (⟨j,Row 121 (bf h),wr⟩::M) w) : Holds w [] [⟨j,Row 121 (bf h),false⟩] w:=
  (fU hw).weak (.keep _ _ _ _ _ _ (fun _ h=>h) (.nil _))
theorem vR : aI Tryz.prog 39:=⟨_,Tryz.func39,rfl,by kernel_rfl⟩
theorem pE : aI Tryz.prog 59:=⟨_,Tryz.func59,rfl,by kernel_rfl⟩
def pF (h : Hf) (l : Bk) : Hf:=B3 (nX h l.length)
def gR (h : Hf) (bl : List Bk) (l : Bk) : List Bk:=putAt bl (h.first+h.used) (cH h.g h.count l)
set_option maxHeartbeats 16000000 in
theorem x7 (j : Nat) (h : Hf) (bl : List Bk) (pd : List (Nat × Bk)) (s : az) (hd : br h.x bl pd) (hs : h.first+h.size≤bl.length) (hc : h.count≤h.size) (hp : pd.length≤900000) (hu : h.used≤h.size) (hyes : nb s.l.length≤h.size - h.used) (w : World) (hok : s.ok w) (hap : ia s (keys (bU j h bl pd))) (h0 : Holds w (keys (bU j h bl pd)) (bU j h bl pd) w) :
    Calls Tryz.prog 39 [Pt j 0,s.v].toArray w fun e w'=>e=.returned (N 0)∧Holds w (keys (bU j h bl pd)) (bU j (pF h s.l) (gR h bl s.l) []) w':=by
  have hn1:=hd.n1
  have hl : s.l.length<4611686018427387904:=by have:=mO s.l.length;omega
  have cF:=fun {u w' : World} {S : List Nat} {M : List aj} (hw' : Holds u S (bU j h bl pd++M) w')=>pz j h s.l.length hu (by omega) hl w' (vQ hw')
  rw [decide_eq_true hyes] at cF
  generalize hS : keys (bU j h bl pd)=S at hap h0 ⊢
  refine enter (n:=21) Tryz.func39 rfl rfl rfl h0 ?_
  repeat (first | refine JL.q (by first|(apply OQ.len (k:=s.l.length) (ad:=s.ad) (cap:=s.cap);exact Tryz.underlying24;rfl)|(apply OQ.aB (vs:=[Pt j 0,N s.l.length]);exact mV;rfl;exact (fun w' hw'=>cF (M:=[]) (by rw [List.append_nil];exact hw')))|(apply OQ.not;rfl)|(apply OQ.move;rfl)|(apply OQ.assign;rfl)) rfl ?_ | refine JC.seq ?_ | refine JC.region ?_ | refine JL.nil ?_ | refine JE.next ?_)
  refine JC.cond_false rfl rfl ?_
  repeat (first | refine JL.q (by first|(apply OQ.move;rfl)|(apply OQ.bx;rfl)|(apply OQ.bA;rfl;rfl;rfl;exact (by decide);rfl)) rfl ?_ | refine JC.seq ?_ | refine JC.region ?_ | refine JC.skip ?_ | refine JE.next ?_)
  refine JL.perm ?_ (List.Perm.of_eq (List.append_nil _).symm)
  refine JL.bI (ι:=Dw h.x (gR h bl s.l) (pd.length+nb s.l.length)) (vs:=[Pt j 0,s.v]) (fun _=>.tuple #[]) (fun z=>z.J j (nX h s.l.length)) pn rfl rfl (cl _ _ _ _) (fun z=>z.Cr _ _) (fun w' hw' hx'=>sD j h bl pd s hd hs (by omega) hc (by omega) w' (hok.iP hw' hap) (gd hw' (cl _ _ _ _) hok hap) hx') fun z=>?_
  rw [List.append_nil]
  repeat (first | refine JL.q (by first|(apply OQ.load;exact zg;rfl;exact .here;exact (Row.cell (v:=gB h.x) rfl))|(apply OQ.move;rfl)|(apply OQ.bx;rfl)|(apply OQ.bA;rfl;rfl;rfl;exact (by decide);rfl)) rfl ?_ | refine JC.seq ?_ | refine JC.region ?_ | refine JL.nil ?_ | refine JE.next ?_)
  refine JL.perm (M':=bT ⟨h.x.p,h.x.q,h.x.cap,z.a⟩ (gR h bl s.l) z.pd++[⟨j,Row 121 (bf (nX h s.l.length)),true⟩]) ?_ (by exact List.perm_append_comm (l₁:=[_]))
  refine JL.vL rfl rfl ?_
  repeat (first | refine JL.q (by (apply OQ.assign;rfl)) rfl ?_ | refine JC.seq ?_ | refine JC.region ?_ | refine JL.nil ?_ | refine JE.next ?_)
  refine JC.ret ?_
  skip
  exact JE.aP rfl (RV.tmp rfl) fun w' hw=>⟨rfl,hw.perm' (by exact List.perm_append_comm (l₂:=[_]))⟩
def lG (h : Hf) (bl : List Bk) (n : Nat) : Prop:=h.size<nb n∨gm bl=4294967295#32
def tU (h : Hf) : Hf:=⟨h.x,h.size - h.first,h.size,0,0,0⟩
def lH (h : Hf) (bl : List Bk) (l : Bk) : Hf:=B3 (ie (tU h) (gm bl+1#32) [l])
def lI (h : Hf) (bl : List Bk) (l : Bk) : List Bk:=putAt bl (h.size - h.first) (bt (gm bl+1#32) 0 [l])
set_option maxHeartbeats 16000000 in
theorem z8 (j : Nat) (h : Hf) (bl : List Bk) (pd : List (Nat × Bk)) (s : az) (ok : Ok bl pd) (hn : bl.length≤65536) (hb : h.size≤65536) (hl : s.l.length<4611686018427387904) (hno : lG h bl s.l.length) (w : World) (h0 : Holds w [] (Bd j h bl pd) w) :
    Calls Tryz.prog 59 [Pt j 0,s.v].toArray w fun e w'=>e=.returned (N 6)∧Ext w w':=by
  refine enter (n:=43) Tryz.func59 rfl rfl rfl h0 ?_
  repeat (first | refine JL.q (by (apply OQ.assign;rfl)) rfl ?_ | refine JC.seq ?_ | refine JC.region ?_ | refine JL.nil ?_ | refine JE.next ?_)
  refine JC.quiet cC (by kernel_rfl) ?_
  cases c1 : decide ((h.size : Int)<(nb s.l.length : Nat))
  case true=>
    repeat (first | refine JQ.q (by first|(apply OQ.len (k:=s.l.length) (ad:=s.ad) (cap:=s.cap);exact Tryz.underlying24;rfl)|(apply OQ.aB (vs:=[N s.l.length]);exact cS;rfl;exact (fun w' _=>dD s.l.length hl w'))|(apply OQ.load;exact cr;rfl;exact .here;exact (Row.cell (v:=N h.size) rfl))|(apply OQ.cz;rfl;rfl;exact c1)|(apply OQ.move;rfl)|(apply OQ.bx;rfl)|(apply OQ.bA;rfl;rfl;rfl;exact (by decide);rfl)) rfl ?_ | refine JQ.nil ?_ | refine JE.next ?_)
    refine JC.cond_true rfl rfl ?_
    repeat (first | refine JL.q (by (apply OQ.assign;rfl)) rfl ?_ | refine JC.seq ?_ | refine JC.region ?_ | refine JL.nil ?_ | refine JE.next ?_)
    refine JC.ret ?_
    repeat (refine JE.ax ?_)
    exact JE.aP rfl (RV.tmp rfl) fun w' hw=>⟨rfl,hw.aS⟩
  case false=>
    have hg : gm bl=4294967295#32:=by
      rcases hno with h | h
      · exact absurd (by exact_mod_cast h) (of_decide_eq_false c1)
      · exact h
    have eG : pe bl=.tuple #[dF 0,N 6]:=by unfold pe;rw [if_pos hg]
    have cN:=fun {u w' : World} {S : List Nat} {M : List aj} (hw' : Holds u S (Bd j h bl pd++M) w')=>ic h.x bl pd ok hn w' (z7 hw')
    rw [eG] at cN
    repeat (first | refine JQ.q (by first|(apply OQ.len (k:=s.l.length) (ad:=s.ad) (cap:=s.cap);exact Tryz.underlying24;rfl)|(apply OQ.aB (vs:=[N s.l.length]);exact cS;rfl;exact (fun w' _=>dD s.l.length hl w'))|(apply OQ.load;exact cr;rfl;exact .here;exact (Row.cell (v:=N h.size) rfl))|(apply OQ.cz;rfl;rfl;exact c1)|(apply OQ.move;rfl)|(apply OQ.bx;rfl)|(apply OQ.bA;rfl;rfl;rfl;exact (by decide);rfl)) rfl ?_ | refine JQ.nil ?_ | refine JE.next ?_)
    refine JC.cond_false rfl rfl ?_
    repeat (first | refine JL.q (by first|(apply OQ.load;exact zg;rfl;exact .here;exact (Row.cell (v:=gB h.x) rfl))|(apply OQ.aB (vs:=[gB h.x]);exact gb;rfl;exact (fun w' hw'=>cN (M:=[]) (by rw [List.append_nil];exact hw')))|(apply OQ.extract;rfl;rfl)|(apply OQ.jw (a:=6) (b:=0) (c:=false);rfl;rfl;rfl)|(apply OQ.move;rfl)|(apply OQ.assign;rfl)|(apply OQ.bx;rfl)|(apply OQ.bA;rfl;rfl;rfl;exact (by decide);rfl)) rfl ?_ | refine JC.seq ?_ | refine JC.region ?_ | refine JC.skip ?_ | refine JL.nil ?_ | refine JE.next ?_)
    refine JC.cond_true rfl rfl ?_
    repeat (first | refine JL.q (by first|(apply OQ.move;rfl)|(apply OQ.assign;rfl)) rfl ?_ | refine JC.seq ?_ | refine JC.region ?_ | refine JL.nil ?_ | refine JE.next ?_)
    refine JC.ret ?_
    repeat (refine JE.ax ?_)
    exact JE.aP rfl (RV.tmp rfl) fun w' hw=>⟨rfl,hw.aS⟩
set_option maxHeartbeats 32000000 in
theorem x8 (j : Nat) (h : Hf) (bl : List Bk) (pd : List (Nat × Bk)) (s : az) (hd : br h.x bl pd) (hs : h.size+h.size≤bl.length) (hf : h.first≤h.size) (hp : pd.length≤900000) (hyes : ¬ lG h bl s.l.length) (w : World) (hok : s.ok w) (hap : ia s (keys (bU j h bl pd))) (h0 : Holds w (keys (bU j h bl pd)) (bU j h bl pd) w) :
    Calls Tryz.prog 59 [Pt j 0,s.v].toArray w fun e w'=>e=.returned (N 0)∧Holds w (keys (bU j h bl pd)) (bU j (lH h bl s.l) (lI h bl s.l) []) w':=by
  have hn1:=hd.n1
  have hfit : nb s.l.length≤h.size:=Nat.le_of_not_lt fun e=>hyes (.inl e)
  have hg : ¬ gm bl=4294967295#32:=fun e=>hyes (.inr e)
  have hl : s.l.length<4611686018427387904:=by have:=mO s.l.length;omega
  have eG : pe bl=.tuple #[dF (gm bl+1#32),N 0]:=by unfold pe;rw [if_neg hg]
  have cN:=fun {u w' : World} {S : List Nat} {M : List aj} (hw' : Holds u S (bU j h bl pd++M) w')=>ic h.x bl pd hd.ok hn1 w' (z6 hw')
  rw [eG] at cN
  have cO:=fun w'=>mU h hf (by omega) w'
  have c1 : decide ((h.size : Int)<(nb s.l.length : Nat))=false:=decide_eq_false (by omega)
  generalize hS : keys (bU j h bl pd)=S at hap h0 ⊢
  refine enter (n:=43) Tryz.func59 rfl rfl rfl h0 ?_
  repeat (first | refine JL.q (by (apply OQ.assign;rfl)) rfl ?_ | refine JC.seq ?_ | refine JC.region ?_ | refine JL.nil ?_ | refine JE.next ?_)
  refine JC.quiet cC (by kernel_rfl) ?_
  repeat (first | refine JQ.q (by first|(apply OQ.len (k:=s.l.length) (ad:=s.ad) (cap:=s.cap);exact Tryz.underlying24;rfl)|(apply OQ.aB (vs:=[N s.l.length]);exact cS;rfl;exact (fun w' _=>dD s.l.length hl w'))|(apply OQ.load;exact cr;rfl;exact .here;exact (Row.cell (v:=N h.size) rfl))|(apply OQ.cz;rfl;rfl;exact c1)|(apply OQ.move;rfl)|(apply OQ.bx;rfl)|(apply OQ.bA;rfl;rfl;rfl;exact (by decide);rfl)) rfl ?_ | refine JQ.nil ?_ | refine JE.next ?_)
  refine JC.cond_false rfl rfl ?_
  repeat (first | refine JL.q (by first|(apply OQ.load;exact zg;rfl;exact .here;exact (Row.cell (v:=gB h.x) rfl))|(apply OQ.aB (vs:=[gB h.x]);exact gb;rfl;exact (fun w' hw'=>cN (M:=[]) (by rw [List.append_nil];exact hw')))|(apply OQ.extract;rfl;rfl)|(apply OQ.jw (a:=0) (b:=0) (c:=true);rfl;rfl;rfl)|(apply OQ.move;rfl)|(apply OQ.assign;rfl)|(apply OQ.bx;rfl)|(apply OQ.bA;rfl;rfl;rfl;exact (by decide);rfl)) rfl ?_ | refine JC.seq ?_ | refine JC.region ?_ | refine JC.skip ?_ | refine JL.nil ?_ | refine JE.next ?_)
  refine JC.cond_false rfl rfl ?_
  repeat (first | refine JL.q (by first|(apply OQ.aq (cs:=bf h);exact dZ;exact fZ;rfl;exact .here;rfl;exact Row.all)|(apply OQ.aB (vs:=[.agg (bf h).toArray]);exact lD;rfl;exact (fun w' _=>cO w'))|(apply OQ.move;rfl)|(apply OQ.bx;rfl)|(apply OQ.bA;rfl;rfl;rfl;exact (by decide);rfl)) rfl ?_ | refine JC.seq ?_ | refine JC.region ?_ | refine JC.skip ?_ | refine JE.next ?_)
  refine JL.ai (cs:=bf (tU h)) fZ rfl rfl rfl rfl .here rfl ?_
  repeat (first | refine JL.q (by first|(apply OQ.move;rfl)|(apply OQ.bx;rfl)|(apply OQ.bA;rfl;rfl;rfl;exact (by decide);rfl)) rfl ?_ | refine JC.seq ?_ | refine JC.region ?_ | refine JL.nil ?_ | refine JE.next ?_)
  refine JL.j7 (v:=s.v) Tryz.underlying134 vF rfl rfl rfl rfl fun bl2 _=>?_
  refine JL.perm (M':=bU j (tU h) bl pd++[⟨bl2,Row 24 [s.v],true⟩]) ?_ (by exact List.perm_append_comm (l₁:=[_]))
  have cB:=fun w' (hw' : Holds w S (bU j (tU h) bl pd++[⟨bl2,Row 24 [s.v],true⟩]) w') hx'=>mY j (tU h) bl pd (gm bl+1#32) ⟨some ⟨bl2,0,none⟩,1,[s]⟩ hd (by show h.size - h.first+h.size≤bl.length;omega) (by show 0<1;decide) (by show nb s.l.length+0≤h.size;omega) (by show pd.length+(h.size+h.size)≤_;omega) w' ⟨Nat.le_refl _,(by
      obtain ⟨o,ho,hA⟩:=hw'.get (b:=bl2) (A:=Row 24 [s.v]) (wr:=true) (aZ (N:=bU j (tU h) bl pd) .here)
      exact Reads.block ho (Row.all _ hA)),fun y hy=>by rw [List.mem_singleton.1 hy];exact hok.iP hw' hap⟩ ⟨fun _ a ha=>by cases ha;exact ct (b:=bl2) hw' .here,fun y hy=>by rw [List.mem_singleton.1 hy];exact gd hw' (cl _ _ _ _) hok hap⟩ hx'
  skip
  refine JL.bI (ι:=Unit) (vs:=[Pt j 0,dF (gm bl+1#32),.slice (some ⟨bl2,0,none⟩) 1 1]) (fun _=>.tuple #[]) (fun _=>bU j (lH h bl s.l) (lI h bl s.l) []) lE rfl rfl (cl _ _ _ _) (fun _=>cl _ _ _ _) (fun w' hw' hx'=>(cB w' hw' hx').mono fun e w2 ⟨h1,h2⟩=>⟨(),h1,h2⟩) fun _=>?_
  repeat (first | refine JL.q (by (apply OQ.assign;rfl)) rfl ?_ | refine JC.seq ?_ | refine JC.region ?_ | refine JL.nil ?_ | refine JE.next ?_)
  refine JC.ret ?_
  skip
  exact JE.aP rfl (RV.tmp rfl) fun w' hw=>⟨rfl,hw.weak (an _ _)⟩
end
section
open Sl dc dz
theorem iS (a b : BitVec 32) : (mx a b).toNat=max a.toNat b.toNat:=by
  unfold mx
  split <;> omega
def Below (m : Nat) (b : Bk) : Prop:=(ag b).1.toNat<m∧(ag (b.drop 54)).1.toNat<m
theorem sF (m : Nat) : ∀ (bl : List Bk) (a : BitVec 32),a.toNat<m→(∀ b ∈ bl,Below m b)→(bl.foldl (fun m b=>mx (mx m (ag b).1) (ag (b.drop 54)).1) a).toNat<m
  | [],a,h,_=>h
  | b::bl,a,h,hb=>by
    have h1:=hb b (by simp)
    refine sF m bl _ ?_ fun x hx=>hb x (by simp [hx])
    rw [iS,iS]
    have:=h1.1
    have:=h1.2
    omega
theorem zj {m : Nat} {bl : List Bk} (h0 : 0<m) (h : ∀ b ∈ bl,Below m b) : (gm bl).toNat<m:=sF m bl 0 h0 h
theorem zk : ∀ (bl : List Bk) (a : BitVec 32),a.toNat≤(bl.foldl (fun m b=>mx (mx m (ag b).1) (ag (b.drop 54)).1) a).toNat∧∀ b ∈ bl,Below ((bl.foldl (fun m b=>mx (mx m (ag b).1) (ag (b.drop 54)).1) a).toNat+1) b
  | [],a=>⟨Nat.le_refl _,nofun⟩
  | b::bl,a=>by
    have ⟨h1,h2⟩:=zk bl (mx (mx a (ag b).1) (ag (b.drop 54)).1)
    have hm:=iS (mx a (ag b).1) (ag (b.drop 54)).1
    rw [iS a] at hm
    refine ⟨?_,fun x hx=>?_⟩
    · simp only [List.foldl_cons]
      omega
    · simp only [List.foldl_cons]
      rcases List.mem_cons.1 hx with rfl | hx
      · exact ⟨by omega,by omega⟩
      · exact h2 x hx
theorem vS {bl : List Bk} : ∀ b ∈ bl,Below ((gm bl).toNat+1) b:=(zk bl 0).2
theorem Aa {g : BitVec 32} {r n i : Nat} (h : i<n) (hn : n≤32768) : zQ (tE g r n i):=by
  show (BitVec.ofNat 16 i).toNat<32768
  rw [BitVec.toNat_ofNat]
  omega
theorem vT {g : BitVec 32} {r : Nat} {rec : Bk} {i : Nat} (h : i<nb rec.length) (hn : nb rec.length≤32768) : (ag (blk g r rec i)).1=g∧(ag ((blk g r rec i).drop 54)).1=g∧(blk g r rec i).length=64:=by
  have hc : (chunk rec i).length≤42:=by rw [dz.bH];omega
  have hk:=Aa (g:=g) (r:=r) h hn
  refine ⟨?_,?_,jz hc⟩
  · rw [show blk g r rec i=aY (tE g r (nb rec.length) i) (chunk rec i) from rfl,fo hk];rfl
  · rw [show blk g r rec i=aY (tE g r (nb rec.length) i) (chunk rec i) from rfl,ld hk hc];rfl
theorem ng {g : BitVec 32} {r : Nat} {rec : Bk} (hn : nb rec.length≤32768) : ∀ b ∈ cH g r rec,(ag b).1=g∧(ag (b.drop 54)).1=g∧b.length=64:=by
  intro b hb
  unfold cH at hb
  obtain ⟨i,hi,rfl⟩:=List.mem_map.1 hb
  exact vT (List.mem_range.1 hi) hn
theorem eL {g : BitVec 32} : ∀ (aa : List Bk) (n : Nat),room aa≤32768→∀ b ∈ bt g n aa,(ag b).1=g∧(ag (b.drop 54)).1=g∧b.length=64
  | [],_,_,b,hb=>by simp [bt] at hb
  | r::rs,n,h,b,hb=>by
    rw [dK] at h
    rw [bt] at hb
    rcases List.mem_append.1 hb with hb | hb
    · exact ng (by omega) b hb
    · exact eL rs (n+1) (by omega) b hb
theorem iT {bl : List Bk} {i : Nat} (h : i<bl.length) : old bl i=bl[i]:=by simp [old,List.getD_eq_getElem?_getD,h]
theorem nh {bl : List Bk} {k : Nat} {l : List Bk} {i : Nat} (hk : k+l.length≤bl.length) (hi : i<bl.length) (ho : ¬ (k≤i∧i<k+l.length)) : old (putAt bl k l) i=old bl i:=by
  have hl:=di hk
  have h1 : (bl.take k++l).length=k+l.length:=by rw [List.length_append,List.length_take];omega
  rw [iT (by omega),iT hi]
  simp only [putAt]
  by_cases h : i<k
  · rw [List.getElem_append_left (by rw [h1];omega),List.getElem_append_left (by rw [List.length_take];omega),List.getElem_take]
  · rw [List.getElem_append_right (by rw [h1];omega),List.getElem_drop]
    congr 1
    omega
theorem vU {bl : List Bk} {k : Nat} {l : List Bk} (hk : k+l.length≤bl.length) : ((putAt bl k l).drop k).take l.length=l:=by
  have h1 : (bl.take k).length=k:=by rw [List.length_take];omega
  unfold putAt
  rw [List.append_assoc,List.drop_left' h1,List.take_left' rfl]
theorem tV {bl : List Bk} {k : Nat} {l : List Bk} {P : Bk→Prop} (h : ∀ b ∈ bl,P b) (hl : ∀ b ∈ l,P b) : ∀ b ∈ putAt bl k l,P b:=by
  intro b hb
  unfold putAt at hb
  rcases List.mem_append.1 hb with hb | hb
  · rcases List.mem_append.1 hb with hb | hb
    · exact h b (List.mem_of_mem_take hb)
    · exact hl b hb
  · exact h b (List.mem_of_mem_drop hb)
theorem br.put {x : Dp} {bl : List Bk} {pd : List (Nat × Bk)} (h : br x bl pd) {k : Nat} {l : List Bk} (hk : k+l.length≤bl.length) (hl : ∀ b ∈ l,b.length=64) : br (mX x) (putAt bl k l) [] where
  ok:=⟨tV h.ok.b hl,by simp⟩
  n0:=by rw [di hk];exact h.n0
  n1:=by rw [di hk];exact h.n1
  m:=by simp
  a:=fun _=>rfl
structure Jv (h : Hf) (bl : List Bk) (aa : List Bk) : Prop where
  n4 : 4≤bl.length
  n5 : bl.length≤65536
  n : h.size=bl.length / 2
  f : h.first=0∨h.first=h.size
  c : h.count=aa.length
  u : h.used=room aa
  r : room aa≤h.size
  ne : aa≠[]
  at' : (bl.drop h.first).take (room aa)=bt h.g 0 aa
  o : ∀ i,i<bl.length→¬ (h.first≤i∧i<h.first+room aa)→Below h.g.toNat (old bl i)
theorem vV {aa : List Bk} (h : aa≠[]) : 0<room aa:=by
  cases aa with
  | nil=>exact absurd rfl h
  | cons r rs=>rw [dK];have:=lp r.length;omega
namespace Jv
variable {h : Hf} {bl aa : List Bk}
theorem fs (v : Jv h bl aa) : h.first+h.size≤bl.length∧h.first≤h.size∧h.size+h.size≤bl.length∧h.size≤32768:=by
  have:=v.n;have:=v.n5
  rcases v.f with e | e <;> omega
theorem Cs (v : Jv h bl aa) {k : Nat} (hk : k<room aa) : old bl (h.first+k) ∈ bt h.g 0 aa:=by
  have h1:=v.fs;have h2:=v.r
  rw [← v.at',iT (by omega)]
  have : ((bl.drop h.first).take (room aa))[k]'(by rw [List.length_take,List.length_drop];omega)=bl[h.first+k]'(by omega):=by simp
  rw [← this]
  exact List.getElem_mem _
theorem all (v : Jv h bl aa) : ∀ b ∈ bl,Below (h.g.toNat+1) b:=by
  intro b hb
  have h1:=v.fs;have h2:=v.r
  obtain ⟨i,hi,rfl⟩:=List.mem_iff_getElem.1 hb
  rw [← iT hi]
  by_cases ho : h.first≤i∧i<h.first+room aa
  · have:=eL aa 0 (by omega) _ (v.Cs (k:=i - h.first) (by omega))
    rw [show h.first+(i - h.first)=i by omega] at this
    exact ⟨by rw [this.1];omega,by rw [this.2.1];omega⟩
  · have:=v.o i hi ho
    exact ⟨Nat.lt_succ_of_lt this.1,Nat.lt_succ_of_lt this.2⟩
theorem vW (v : Jv h bl aa) : (gm bl).toNat≤h.g.toNat:=Nat.le_of_lt_succ (zj (Nat.succ_pos _) v.all)
theorem g0 (v : Jv h bl aa) : 0<h.g.toNat:=by
  have h1:=v.fs;have h2:=v.r;have h3:=v.n4;have h4:=v.n
  have:=v.o (h.size - h.first) (by omega) (by rcases v.f with e | e <;> omega)
  have:=this.1
  omega
theorem told (v : Jv h bl aa) : fJ bl h.first h.size h.g=aa:=by
  have h1:=v.fs;have h2:=v.r
  have e : dR bl h.first h.size 0=bt h.g 0 aa++((bl.drop h.first).take h.size).drop (room aa):=by
    rw [← v.at']
    conv=>lhs;rw [dR,List.drop_zero,← List.take_append_drop (room aa) ((bl.drop h.first).take h.size),List.take_take,Nat.min_eq_left h2]
  unfold fJ
  rw [e]
  refine vl (fun b hb=>?_) (by omega)
  obtain ⟨k,hk,rfl⟩:=List.mem_iff_getElem.1 hb
  have hk':=hk
  rw [List.length_drop,List.length_take,List.length_drop] at hk'
  have : (((bl.drop h.first).take h.size).drop (room aa))[k]=old bl (h.first+(room aa+k)):=by
    rw [iT (by omega)]
    simp
  rw [this]
  intro hg
  have:=(v.o (h.first+(room aa+k)) (by omega) (by omega)).1
  rw [hg] at this
  omega
theorem fM (v : Jv h bl aa) : fM bl h.first=aa∧ew bl h.first=h.g:=by
  have h0:=v.Cs (k:=0) (vV v.ne)
  have h1:=v.fs;have h2:=v.r
  rw [Nat.add_zero] at h0
  have hm:=(eL aa 0 (by omega) _ h0).1
  have e : Go.Proofs.YtdinfhchkcmncaaGreatDoor.fM bl h.first=aa:=by
    unfold Go.Proofs.YtdinfhchkcmncaaGreatDoor.fM
    rw [hm,← v.n]
    exact v.told
  refine ⟨e,?_⟩
  unfold ew
  rw [e,hm,if_neg]
  intro h
  exact v.ne (List.length_eq_zero_iff.1 h)
theorem other (v : Jv h bl aa) : (ew bl (h.size - h.first)).toNat<h.g.toNat:=by
  have h1:=v.fs;have h2:=v.r;have h3:=v.n4;have h4:=v.n
  have:=(v.o (h.size - h.first) (by omega) (by rcases v.f with e | e <;> omega)).1
  have h5:=v.g0
  unfold ew
  split
  · exact h5
  · exact this
theorem cur (v : Jv h bl aa) : bu bl=(h.first,h.g,aa):=by
  have h5:=v.g0
  have ⟨e1,e2⟩:=v.fM
  have e3:=v.other
  have hn:=v.n
  unfold bu
  rcases v.f with e | e
  · rw [e] at e1 e2 e3
    rw [e,← hn]
    rw [Nat.sub_zero] at e3
    rw [e1,e2,if_pos ⟨by omega,by omega⟩]
  · rw [e] at e1 e2 e3
    rw [Nat.sub_self] at e3
    rw [e,← hn,e1,e2,if_neg (fun hh=>by have:=hh.2;omega),if_pos (by omega)]
end Jv
theorem Jv.Ct {x : Dp} {bl aa : List Bk} {first size : Nat} (n4 : 4≤bl.length) (n5 : bl.length≤65536) (n : size=bl.length / 2) (f : first=0∨first=size) (r : room aa≤size) (ne : aa≠[]) (hg : gm bl≠4294967295#32) :
    Jv ⟨x,first,size,gm bl+1#32,aa.length,room aa⟩ (putAt bl first (bt (gm bl+1#32) 0 aa)) aa:=by
  have hs : first+size≤bl.length:=by rcases f with e | e <;> omega
  have hk : first+(bt (gm bl+1#32) 0 aa).length≤bl.length:=by rw [bP];omega
  have hl:=di hk
  have hgl : (gm bl).toNat≠4294967295:=fun e=>hg (BitVec.eq_of_toNat_eq e)
  have hg1 : (gm bl+1#32).toNat=(gm bl).toNat+1:=by
    rw [BitVec.toNat_add,show (1#32).toNat=1 from rfl]
    have:=(gm bl).isLt
    omega
  refine ⟨by rw [hl];exact n4,by rw [hl];exact n5,by rw [hl];exact n,f,rfl,rfl,r,ne,?_,fun i hi ho=>?_⟩
  · have:=vU hk
    rw [bP] at this
    exact this
  · dsimp only at ho ⊢
    rw [hl] at hi
    rw [nh hk hi (by rw [bP];exact ho),hg1]
    exact vS _ (sj hi)
theorem Jv.app {h : Hf} {bl aa : List Bk} (v : Jv h bl aa) {l : Bk} (hf : nb l.length≤h.size - h.used) : Jv (pF h l) (gR h bl l) (aa++[l]):=by
  have h1:=v.fs;have h2:=v.r;have h3:=v.u;have h4:=v.c;have hn:=v.n
  have hr : room (aa++[l])=room aa+nb l.length:=by rw [dA];simp [room]
  have hk : h.first+h.used+(cH h.g h.count l).length≤bl.length:=by rw [bX];omega
  have hl:=di hk
  refine ⟨by unfold gR;rw [hl];exact v.n4,by unfold gR;rw [hl];exact v.n5,by unfold gR;rw [hl];exact hn,v.f,by show h.count+1=_;rw [h4,List.length_append];rfl,by show h.used+nb l.length=_;rw [hr,h3],by rw [hr];show _≤h.size;omega,by simp,?_,fun i hi ho=>?_⟩
  · show ((gR h bl l).drop h.first).take _=bt h.g 0 _
    have e1 : bl.take (h.first+h.used)=bl.take h.first++bt h.g 0 aa:=by rw [← v.at',h3,List.take_add]
    have e2 : (bl.take h.first).length=h.first:=by rw [List.length_take];omega
    unfold gR putAt
    rw [e1,List.append_assoc,List.append_assoc,List.drop_left' e2,← List.append_assoc,fX,Nat.zero_add,← h4,List.take_left' (by rw [List.length_append,bP,bX,hr])]
    congr 1
    rw [bt,bt,List.append_nil]
  · unfold gR at hi ⊢
    rw [hl] at hi
    rw [hr] at ho
    have ho' : ¬ (h.first≤i∧i<h.first+(room aa+nb l.length)):=ho
    rw [nh hk hi (by rw [bX];omega)]
    exact v.o i hi (by omega)
end
section
set_option maxRecDepth 10000
open Sl
section
variable {P : Program} {n : Nat} {E : Env} {C : World→Prop} {dst : Option Tmp} {t t' ty : TypeId} {pos : String} {aft : Array Edge} {g : Option (Nat × Bool)} {x y : Operand}
end
theorem tW : aI Tryz.prog 21:=⟨_,Tryz.func21,rfl,by kernel_rfl⟩
set_option maxHeartbeats 8000000 in
theorem vX (a b : az) (w : World) (ha : a.ok w) (hb : b.ok w) (hal : a.l.length<4611686018427387904) : Calls Tryz.prog 21 [a.v,b.v].toArray w fun e w'=>e=.returned (.bool (decide (a.l=b.l)))∧Ext w w':=by
  refine enter (n:=26) Tryz.func21 rfl rfl rfl (Holds.start w []) ?_
  repeat (first | refine JL.q (by first|(apply OQ.move;rfl)|(apply OQ.assign;rfl)|(apply OQ.len;rfl;rfl)|(apply OQ.CB;rfl;rfl)) rfl ?_ | refine JC.seq ?_ | refine JC.region ?_ | refine JL.nil ?_ | refine JE.next ?_)
  refine JC.cond rfl (fun h=>?_) (fun h=>?_)
  · have h : ¬ a.l.length=b.l.length:=by simpa using h
    repeat (first | refine JL.q (by (apply OQ.assign;rfl)) rfl ?_ | refine JC.seq ?_ | refine JC.region ?_ | refine JL.nil ?_ | refine JE.next ?_)
    refine JC.ret ?_
    repeat (refine JE.ax ?_)
    refine JE.aP rfl (RV.tmp rfl) fun w' hw=>⟨?_,hw.aS⟩
    rw [decide_eq_false (fun e=>h (by rw [e]))]
  · have h : a.l.length=b.l.length:=by simpa using h
    repeat (first | refine JL.q (by (apply OQ.assign;rfl)) rfl ?_ | refine JC.seq ?_ | refine JC.region ?_ | refine JC.block ?_ | refine JC.skip ?_ | refine JL.nil ?_ | refine JE.next ?_)
    refine JC.loop (fun i : Nat=>[(0,a.v),(1,b.v),(5,N i)]) (fun _=>[]) (fun i=>a.l.length - i) (fun i=>i≤a.l.length∧a.l.take i=b.l.take i) 0 ⟨by omega,by simp⟩ (by repeat (first | exact ah.nil | refine ah.cons _ _ _ rfl ?_)) (ak.refl _) ?_
    rintro i ⟨hi,hI⟩
    repeat (first | refine JL.q (by first|(apply OQ.move;rfl)|(apply OQ.len;rfl;rfl)|(apply OQ.fc;rfl;rfl)) rfl ?_ | refine JC.seq ?_ | refine JC.region ?_ | refine JL.nil ?_ | refine JE.next ?_)
    refine JC.cond rfl (fun h2=>?_) (fun h2=>?_)
    · have hi' : i<a.l.length:=of_decide_eq_true h2
      clear h2
      obtain ⟨ba,ja,hae,hca⟩:=ha.reads.at (by simp;omega)
      obtain ⟨bb,jb,hbe,hcb⟩:=hb.reads.at (by simp;omega)
      have hca:=hca i _ (e9 U8 0 hi')
      have hcb:=hcb i _ (e9 U8 0 (show i<b.l.length by omega))
      have hav : a.v=.slice (some ⟨ba,ja,none⟩) a.l.length a.cap:=by rw [← hae];rfl
      have hbv : b.v=.slice (some ⟨bb,jb,none⟩) b.l.length b.cap:=by rw [← hbe];rfl
      rw [hav,hbv]
      repeat (first | refine JC.seq ?_ | refine JC.block ?_ | refine JC.skip ?_ | refine JE.next ?_)
      refine JC.quiet cC (by kernel_rfl) ?_
      repeat (first | refine JQ.q (by first|(apply OQ.dw;exact Tryz.underlying24;exact gN;rfl;rfl;exact hi')|(apply OQ.dw;exact Tryz.underlying24;exact gN;rfl;rfl;exact (show i<b.l.length by omega))|(apply OQ.bw;exact zJ;rfl;exact (block_lt_of_cell hca);exact (by simp);exact hca)|(apply OQ.bw;exact zJ;rfl;exact (block_lt_of_cell hcb);exact (by simp);exact hcb)|(apply OQ.CF;rfl;rfl)|(apply OQ.move;rfl)) rfl ?_ | refine JQ.nil ?_ | refine JE.next ?_)
      refine JC.cond rfl (fun h3=>?_) (fun h3=>?_)
      · have h3 : ¬ a.l.getD i 0=b.l.getD i 0:=by simpa using h3
        repeat (first | refine JL.q (by (apply OQ.assign;rfl)) rfl ?_ | refine JC.seq ?_ | refine JC.region ?_ | refine JL.nil ?_ | refine JE.next ?_)
        refine JC.ret ?_
        repeat (first | refine JE.ax ?_ | refine JE.cy ?_)
        refine JE.aP rfl (RV.tmp rfl) fun w' hw=>⟨?_,hw.aS⟩
        rw [decide_eq_false (fun e=>h3 (by rw [e]))]
      · have h3 : a.l.getD i 0=b.l.getD i 0:=by simpa using h3
        rw [← hav,← hbv]
        repeat (first | refine JL.q (by first|(apply OQ.move;rfl)|(apply OQ.assign;rfl)|(apply OQ.addN;rfl;rfl;exact (by (try simp only []);omega))) rfl ?_ | refine JC.region ?_ | refine JC.skip ?_ | refine JL.nil ?_ | refine JE.next ?_ | refine JE.au ?_)
        refine JE.again (i:=i) (i+1) ⟨by omega,?_⟩ (by omega) (by repeat (first | exact ah.nil | refine ah.cons _ _ _ rfl ?_)) (ak.refl _)
        have e1 : a.l[i]'hi'=b.l[i]'(by omega):=by
          simpa [List.getD,hi',show i<b.l.length by omega] using h3
        rw [List.take_succ_eq_append_getElem hi',List.take_succ_eq_append_getElem (show i<b.l.length by omega),hI,e1]
    · have hi' : ¬ i<a.l.length:=of_decide_eq_false h2
      obtain rfl : i=a.l.length:=by omega
      rw [List.take_length,h,List.take_length] at hI
      repeat (first | refine JL.q (by (apply OQ.assign;rfl)) rfl ?_ | refine JC.seq ?_ | refine JC.region ?_ | refine JC.exit ?_ | refine JL.nil ?_ | refine JE.next ?_ | refine JE.aH ?_ | refine JE.aX ?_)
      refine JC.ret ?_
      skip
      refine JE.aP rfl (RV.tmp rfl) fun w' hw=>⟨?_,hw.aS⟩
      rw [decide_eq_true hI]
end
section
set_option maxRecDepth 10000
open Sl dc dz
section
variable {n : Nat} {w0 : World} {S : List Nat} {ops : Array Oper} {Q : Exit→Act→World→Prop} {l : List Oper} {E : Env} {M : List aj}
variable {d : Nat} {ty : TypeId} {pos : String} {aft : Array Edge} {x1 x2 x3 : Operand} {ats : Array TypeId} {x : Dp} {bl aa : List Bk} {pd : List (Nat × Bk)} {j : Nat} {h : Hf} {s : az}
theorem JL.zl (hd : br x bl pd) (hp : pd.length≤900000) (hno : bR bl=0) (e1 : ev E x1=some (Pt x.p 0)) (hn : Nat.blt d n=true)
    (kk : ∀ j,JL Tryz.prog n w0 S ops Q l ((d,.tuple #[Pt j 0,N 0])::E) (bU j (iR x bl) (iQ bl) []++M)) : JL Tryz.prog n w0 S ops Q (⟨some d,.call ⟨.value (.func 47),#[x1],ats⟩,ty,pos,aft,none⟩::l) E (bT x bl pd++M):=
  JL.bI (ι:=Nat) (xs:=[x1]) (vs:=[Pt x.p 0]) (fun j=>.tuple #[Pt j 0,N 0]) (fun j=>bU j (iR x bl) (iQ bl) []) qR (by simp [gS,e1]) hn (bW _ _ _) (fun _=>cl _ _ _ _)
    (fun w _ hw=>vP x bl pd hd hp hno w hw) kk
theorem JL.B4 (v : Jv h bl aa) (hd : br h.x bl pd) (hp : pd.length≤900000) (hyes : nb s.l.length≤h.size - h.used) (hs : ∀ w,Holds w0 S (bU j h bl pd++M) w→s.ok w∧ia s (keys (bU j h bl pd))) (e1 : ev E x1=some (Pt j 0)) (e2 : ev E x2=some s.v) (hn : Nat.blt d n=true)
    (kk : JL Tryz.prog n w0 S ops Q l ((d,N 0)::E) (bU j (pF h s.l) (gR h bl s.l) []++M)) : JL Tryz.prog n w0 S ops Q (⟨some d,.call ⟨.value (.func 39),#[x1,x2],ats⟩,ty,pos,aft,none⟩::l) E (bU j h bl pd++M):=
  have h1:=v.fs;have h2:=v.u;have h3:=v.r;have h4:=v.c;have h5:=kC aa
  JL.bI (ι:=Unit) (xs:=[x1,x2]) (vs:=[Pt j 0,s.v]) (fun _=>N 0) (fun _=>bU j (pF h s.l) (gR h bl s.l) []) vR (by simp [gS,e1,e2]) hn (cl _ _ _ _) (fun _=>cl _ _ _ _)
    (fun w h0 hw=>(x7 j h bl pd s hd h1.1 (by omega) hp (by omega) hyes w (hs w h0).1 (hs w h0).2 hw).mono fun e w' ⟨g1,g2⟩=>⟨(),g1,g2⟩) fun _=>kk
theorem JL.B5 (v : Jv h bl aa) (hd : br h.x bl pd) (hp : pd.length≤900000) (hyes : ¬ lG h bl s.l.length) (hs : ∀ w,Holds w0 S (bU j h bl pd++M) w→s.ok w∧ia s (keys (bU j h bl pd))) (e1 : ev E x1=some (Pt j 0)) (e2 : ev E x2=some s.v) (hn : Nat.blt d n=true)
    (kk : JL Tryz.prog n w0 S ops Q l ((d,N 0)::E) (bU j (lH h bl s.l) (lI h bl s.l) []++M)) : JL Tryz.prog n w0 S ops Q (⟨some d,.call ⟨.value (.func 59),#[x1,x2],ats⟩,ty,pos,aft,none⟩::l) E (bU j h bl pd++M):=
  have h1:=v.fs
  JL.bI (ι:=Unit) (xs:=[x1,x2]) (vs:=[Pt j 0,s.v]) (fun _=>N 0) (fun _=>bU j (lH h bl s.l) (lI h bl s.l) []) pE (by simp [gS,e1,e2]) hn (cl _ _ _ _) (fun _=>cl _ _ _ _)
    (fun w h0 hw=>(x8 j h bl pd s hd h1.2.2.1 h1.2.1 hp hyes w (hs w h0).1 (hs w h0).2 hw).mono fun e w' ⟨g1,g2⟩=>⟨(),g1,g2⟩) fun _=>kk
theorem JL.Bg (v : Jv h bl aa) (hd : br h.x bl pd) (e1 : ev E x1=some (Pt j 0)) (hn : Nat.blt d n=true)
    (kk : ∀ z : pg aa h.size,JL Tryz.prog n w0 S ops Q l ((d,z.1.v)::E) (z.1.E++(bU j h bl pd++M))) : JL Tryz.prog n w0 S ops Q (⟨some d,.call ⟨.value (.func 67),#[x1],ats⟩,ty,pos,aft,none⟩::l) E (bU j h bl pd++M):=
  JL.bq (xs:=[x1]) (ι:=pg aa h.size) (vs:=[Pt j 0]) (fun z=>z.1.v) (fun z=>z.1.E) tN (by simp [gS,e1]) hn (fun z=>z.1.wr)
    (fun w hw=>by have:=vJ j h bl pd hd.ok hd.n1 v.fs.1 w (qT hw);rwa [v.told] at this) kk
end
theorem Jv.Bh {x : Dp} {bl : List Bk} (hb : ∀ b ∈ bl,b.length=64) (n5 : bl.length≤65536) (hno : bR bl=0) : Jv (iR x bl) (iQ bl) (bu bl).2.2:=by
  have h4 : ¬ bl.length<4:=fun h=>by unfold bR at hno;rw [if_pos h] at hno;cases hno
  have hg : ¬ gm bl=4294967295#32:=fun h=>by unfold bR at hno;rw [if_neg h4,if_pos h] at hno;cases hno
  have ⟨h1,h2,h3⟩:=jC (bl:=bl) hb (by omega)
  have hf : bl.length / 2 - (bu bl).1=0∨bl.length / 2 - (bu bl).1=bl.length / 2:=by
    unfold bu
    split
    · right;rfl
    · split
      · left;exact Nat.sub_self _
      · left;exact Nat.sub_self _
  exact Jv.Ct (x:=mX x) (by omega) n5 rfl hf h1 (fun e=>by rw [e] at h2;cases h2) hg
theorem Jv.no (h : Hf) (bl aa : List Bk) (v : Jv h bl aa) (hg : h.g.toNat<4294967295) : bR bl=0:=by
  have:=v.vW
  have h4:=v.n4
  unfold bR
  rw [if_neg (by omega),if_neg (fun e=>by rw [e] at this;rw [show (4294967295#32).toNat=4294967295 from rfl] at this;omega)]
theorem x9 {bl : List Bk} {m : Nat} (h : (gm bl).toNat≤m) (hm : m<4294967295) : (gm bl+1#32).toNat≤m+1:=by
  rw [BitVec.toNat_add,show (1#32).toNat=1 from rfl]
  omega
theorem told_none {g : BitVec 32} {bs : List Bk} (h : ∀ b ∈ bs,bC b=false) : told g bs=[]:=by
  unfold told gW
  have : rd g 0 bs 0 []=none:=by
    cases bs with
    | nil=>rfl
    | cons b bs=>rw [rd,if_neg (fun hh=>by rw [h b (by simp)] at hh;cases hh.1)]
  rw [this]
theorem qU : bC zero=false:=by kernel_rfl
theorem qV : Below 1 zero:=⟨by decide,by decide⟩
theorem pG {n : Nat} : ∀ b ∈ c6 n,b=zero:=fun b hb=>List.eq_of_mem_replicate hb
theorem lJ (n : Nat) : (bu (c6 n)).2.2=[[]]∧(gm (c6 n)).toNat=0:=by
  have h0 : ∀ f,ew (c6 n) f=0:=fun f=>by
    unfold ew
    rw [if_pos]
    unfold fM fJ
    rw [told_none]
    · rfl
    · intro b hb
      unfold dR at hb
      rw [pG b (List.mem_of_mem_drop (List.mem_of_mem_take (List.mem_of_mem_drop hb)))]
      exact qU
  refine ⟨?_,?_⟩
  · unfold bu
    rw [h0,h0,if_neg (by decide),if_neg (by decide)]
  · have:=zj (m:=1) (bl:=c6 n) (by decide) fun b hb=>by rw [pG b hb];exact qV
    omega
theorem ya {n : Nat} (h : 4≤n) : bR (c6 n)=0:=by
  have:=(lJ n).2
  unfold bR
  rw [if_neg (by rw [vv];omega),if_neg (fun e=>by rw [e] at this;cases this)]
theorem br.Bh {x : Dp} {bl : List Bk} {pd : List (Nat × Bk)} (hd : br x bl pd) (hno : bR bl=0) : br (iR x bl).x (iQ bl) []:=by
  have h4 : ¬ bl.length<4:=fun h=>by unfold bR at hno;rw [if_pos h] at hno;cases hno
  have ⟨h1,h2,h3⟩:=jC (bl:=bl) hd.ok.b (by omega)
  have:=hd.n1
  exact hd.put (by rw [bP];omega) fun b hb=>(eL _ _ (by omega) b hb).2.2
theorem br.app {h : Hf} {bl aa : List Bk} {pd : List (Nat × Bk)} (hd : br h.x bl pd) (v : Jv h bl aa) {l : Bk} (hf : nb l.length≤h.size - h.used) : br (pF h l).x (gR h bl l) []:=by
  have h1:=v.fs;have h2:=v.r;have h3:=v.u
  exact hd.put (by rw [bX];omega) fun b hb=>(ng (by omega) b hb).2.2
theorem br.B6 {h : Hf} {bl aa : List Bk} {pd : List (Nat × Bk)} (hd : br h.x bl pd) (v : Jv h bl aa) {l : Bk} (hf : ¬ lG h bl l.length) : br (lH h bl l).x (lI h bl l) []:=by
  have h1:=v.fs
  have hfit : nb l.length≤h.size:=Nat.le_of_not_lt fun e=>hf (.inl e)
  have hr : room [l]=nb l.length:=by simp [room]
  exact hd.put (by rw [bP,hr];omega) fun b hb=>(eL _ _ (by omega) b hb).2.2
theorem Jv.B6 {h : Hf} {bl aa : List Bk} (v : Jv h bl aa) {l : Bk} (hf : ¬ lG h bl l.length) : Jv (lH h bl l) (lI h bl l) [l]:=by
  have h1:=v.fs
  have hfit : nb l.length≤h.size:=Nat.le_of_not_lt fun e=>hf (.inl e)
  have hr : room [l]=nb l.length:=by simp [room]
  exact Jv.Ct (x:=mX h.x) v.n4 v.n5 v.n (by show h.size - h.first=0∨h.size - h.first=h.size;rcases v.f with e | e <;> omega) (by rw [hr];exact hfit) (by simp) (fun e=>hf (.inr e))
end
section
set_option maxRecDepth 10000
open Sl
theorem OQ.isNil {P : Program} {n : Nat} {E : Env} {C : World→Prop} {dst : Option Tmp} {t t' ty e : TypeId} {pos : String} {aft : Array Edge} {g : Option (Nat × Bool)} {x y : Operand} {ad : Option Addr} {k cap : Nat} (hu : P.underlying t=some (.slice e)) (hx : ev E x=some (.slice ad k cap)) (hy : ev E y=some (.slice none 0 0)) :
    OQ P n E C ⟨dst,.binOp .eql t x y t',ty,pos,aft,g⟩ (.bool ad.isNone):=
  OQ.run fun c ha w _=>by
    have h1:=ha.eval hx
    have h2:=ha.eval hy
    have h4 : (binOp .eql t (.slice ad k cap) (.slice none 0 0)).run P w=.ok (.bool ad.isNone) w:=by
      show (do pure (.bool (← Op.equal t (.slice ad k cap) (.slice none 0 0))) : Sem Value).run P w=_
      simp [Sem.run_bind,run_equal_slice_nil w t e ad k cap hu]
    simp [execOp,h1,h2,eqGuard,h4]
theorem lK : aI Tryz.prog 48:=⟨_,Tryz.func48,rfl,by kernel_rfl⟩
set_option maxHeartbeats 4000000 in
theorem ni (s : az) (w : World) (hs : s.ok w) (hl : s.l.length≤4294967296) : Calls Tryz.prog 48 [s.v].toArray w fun e w'=>∃ q : Acc,e=.returned (av q s.l.length)∧(q=none→s.l=[])∧Holds w [] (af 5 q (s.l.map U8)) w':=by
  refine enter (n:=8) Tryz.func48 rfl rfl rfl (Holds.start w []) ?_
  obtain ⟨ad,cap,l⟩:=s
  cases ad with
  | none=>
    have h0 : l=[]:=by
      cases l with
      | nil=>rfl
      | cons c l=>
        obtain ⟨b,j,h1,_⟩:=hs.reads.at (by simp)
        cases h1
    repeat (first | refine JL.q (by first|(apply OQ.isNil;exact Tryz.underlying24;rfl;rfl)|(apply OQ.move;rfl)|(apply OQ.assign;rfl)) rfl ?_ | refine JC.seq ?_ | refine JC.region ?_ | refine JL.nil ?_ | refine JE.next ?_)
    refine JC.cond_true rfl rfl ?_
    repeat (first | refine JL.q (by (apply OQ.assign;rfl)) rfl ?_ | refine JC.seq ?_ | refine JC.region ?_ | refine JL.nil ?_ | refine JE.next ?_)
    refine JC.ret ?_
    repeat (refine JE.ax ?_)
    exact JE.aP rfl (RV.tmp rfl) fun w' hw=>⟨none,rfl,fun _=>h0,hw⟩
  | some ad=>
    repeat (first | refine JL.q (by first|(apply OQ.isNil;exact Tryz.underlying24;rfl;rfl)|(apply OQ.move;rfl)|(apply OQ.assign;rfl)) rfl ?_ | refine JC.seq ?_ | refine JC.region ?_ | refine JL.nil ?_ | refine JE.next ?_)
    refine JC.cond_false rfl rfl ?_
    repeat (first | refine JC.seq ?_ | refine JC.region ?_ | refine JC.skip ?_ | refine JE.next ?_)
    refine JL.AW Tryz.underlying24 qw rfl fun b0 _=>?_
    repeat (refine JL.q (by (apply OQ.move;rfl)) rfl ?_)
    refine JL.append (cs:=l.map U8) (m:=l.length) (ad:=some ad) (sc:=cap) (xs:=[]) (fun b' cap'=>[⟨b',Sl.Own 5 1 (0+l.length) cap' ([]++l.map U8),true⟩]) Tryz.underlying24 qw rfl rfl (by intro _ _;repeat (first | exact dy.here | apply dy.there)) (by simp) (fun w' hw'=>(hs.holds hw' rfl).reads) (oO _) rfl (by decide) (by simp only [] at hl;omega) (by simp only [] at hl;omega) rfl fun b1 cap1=>?_
    rw [Nat.zero_add,List.nil_append]
    repeat (first | refine JL.q (by (apply OQ.assign;rfl)) rfl ?_ | refine JL.nil ?_ | refine JE.next ?_)
    refine JC.ret (JE.aP rfl (RV.tmp rfl) fun w' hw=>⟨some (b1,cap1),rfl,(fun h=>by cases h),?_⟩)
    show Holds w [] [⟨b1,Sl.Own 5 1 (l.map U8).length cap1 (l.map U8),true⟩] w'
    rw [List.length_map]
    exact hw
end
section
namespace gh
open dc dz
structure Pq where
  key : Bk
  val : Bk
  gone : Bool
def jk (p : Pq) : Bool:=decide (1≤p.key.length) && (decide (p.key.length≤1000) && !(p.gone && decide (0<p.val.length)))
def fu (l : List Pq) : Bool:=l.all jk
def gi (p : Pq) : Bk:=(if p.gone then 1#8 else 0#8)::(be (BitVec.ofNat 32 p.key.length) 2++p.key++be (BitVec.ofNat 32 p.val.length) 4++p.val)
def aQ (l : List Pq) : Bk:=l.flatMap gi
def iU (b : Bk) (size : Nat) : Option (Bk × Bk):=
  if b.length<size then none else if (b.drop size).length<eE (b.take size) then none else some ((b.drop size).take (eE (b.take size)),(b.drop size).drop (eE (b.take size)))
def kg : Bk→Option (Pq × Bk)
  | []=>none
  | s::b=>match iU b 2 with
    | none=>none
    | some (k,r)=>match iU r 4 with
      | none=>none
      | some (v,r')=>if s.toNat≤1∧jk ⟨k,v,decide (s.toNat=1)⟩=true then some (⟨k,v,decide (s.toNat=1)⟩,r') else none
def pH : Nat→Bk→Option (List Pq)
  | _,[]=>some []
  | 0,_::_=>none
  | f+1,b::bs=>match kg (b::bs) with
    | none=>none
    | some (p,r)=>(pH f r).map (p::·)
def dec (b : Bk) : Option (List Pq):=pH b.length b
theorem lM {b k r : Bk} {s : Nat} (h : iU b s=some (k,r)) : b.length=s+k.length+r.length∧b=b.take s++k++r:=by
  unfold iU at h
  split at h
  · cases h
  · split at h
    · cases h
    · cases h
      refine ⟨?_,?_⟩
      · simp only [List.length_take,List.length_drop] at *
        omega
      · rw [List.append_assoc,List.take_append_drop,List.take_append_drop]
theorem gE {b r : Bk} {p : Pq} (h : kg b=some (p,r)) : jk p=true∧p.key.length+p.val.length+7+r.length=b.length:=by
  cases b with
  | nil=>cases h
  | cons s b=>
    rw [kg] at h
    split at h
    · cases h
    · next k r1 h1=>
      split at h
      · cases h
      · next v r2 h2=>
        split at h
        · next h3=>
          cases h
          have:=(lM h1).1
          have:=(lM h2).1
          refine ⟨h3.2,?_⟩
          simp only [List.length_cons]
          omega
        · cases h
theorem nj : ∀ (f g : Nat) (b : Bk),b.length≤f→b.length≤g→pH f b=pH g b
  | _,_,[],_,_=>by simp [pH]
  | 0,_,_::_,h,_=>by simp at h
  | _,0,_::_,_,h=>by simp at h
  | f+1,g+1,b::bs,h1,h2=>by
    rw [pH,pH]
    cases h : kg (b::bs) with
    | none=>rfl
    | some pr=>
      obtain ⟨p,r⟩:=pr
      have:=(gE h).2
      simp only [List.length_cons] at this h1 h2
      dsimp only
      rw [nj f g r (by omega) (by omega)]
theorem sG : dec []=some []:=rfl
theorem lN {b : Bk} (h : b≠[]) : dec b=match kg b with | none=>none | some (p,r)=>(dec r).map (p::·):=by
  cases b with
  | nil=>exact absurd rfl h
  | cons c bs=>
    unfold dec
    rw [List.length_cons,pH]
    cases h : kg (c::bs) with
    | none=>rfl
    | some pr=>
      obtain ⟨p,r⟩:=pr
      have:=(gE h).2
      simp only [List.length_cons] at this
      dsimp only
      rw [nj bs.length r.length r (by omega) (Nat.le_refl _)]
theorem vY {k r : Bk} (h : k.length<65536) : iU (be (BitVec.ofNat 32 k.length) 2++k++r) 2=some (k,r):=by
  have e1 : (be (BitVec.ofNat 32 k.length) 2++k++r).take 2=be (BitVec.ofNat 32 k.length) 2:=by rw [List.append_assoc,List.take_left' (bn _ _)]
  have e2 : (be (BitVec.ofNat 32 k.length) 2++k++r).drop 2=k++r:=by rw [List.append_assoc,List.drop_left' (bn _ _)]
  unfold iU
  rw [if_neg (by simp only [List.length_append,bn];omega),e1,e2,vq h,if_neg (by simp),List.take_left' rfl,List.drop_left' rfl]
theorem vZ {k r : Bk} (h : k.length<4294967296) : iU (be (BitVec.ofNat 32 k.length) 4++k++r) 4=some (k,r):=by
  have e1 : (be (BitVec.ofNat 32 k.length) 4++k++r).take 4=be (BitVec.ofNat 32 k.length) 4:=by rw [List.append_assoc,List.take_left' (bn _ _)]
  have e2 : (be (BitVec.ofNat 32 k.length) 4++k++r).drop 4=k++r:=by rw [List.append_assoc,List.drop_left' (bn _ _)]
  unfold iU
  rw [if_neg (by simp only [List.length_append,bn];omega),e1,e2,vr h,if_neg (by simp),List.take_left' rfl,List.drop_left' rfl]
theorem gF {p : Pq} (h : jk p=true) : 1≤p.key.length∧p.key.length≤1000∧(p.gone=true→p.val=[]):=by
  unfold jk at h
  simp only [Bool.and_eq_true,decide_eq_true_eq,Bool.not_eq_true',Bool.and_eq_false_iff,decide_eq_false_iff_not] at h
  refine ⟨h.1,h.2.1,fun hg=>?_⟩
  rcases h.2.2 with h2 | h2
  · rw [hg] at h2;cases h2
  · exact List.length_eq_zero_iff.1 (by omega)
theorem v7 {p : Pq} {r : Bk} (h : jk p=true) (hv : p.val.length<4294967296) : kg (gi p++r)=some (p,r):=by
  obtain ⟨key,val,gone⟩:=p
  have h1:=gF h
  unfold gi
  dsimp only at *
  rw [List.cons_append,kg]
  rw [show be (BitVec.ofNat 32 key.length) 2++key++be (BitVec.ofNat 32 val.length) 4++val++r=be (BitVec.ofNat 32 key.length) 2++key++(be (BitVec.ofNat 32 val.length) 4++val++r) by simp [List.append_assoc],vY (by omega)]
  dsimp only
  rw [vZ hv]
  dsimp only
  cases gone
  · simp only [Bool.false_eq_true,if_false]
    rw [show decide ((0#8).toNat=1)=false from rfl,if_pos ⟨by decide,h⟩]
  · simp only [if_true]
    rw [show decide ((1#8).toNat=1)=true from rfl,if_pos ⟨by decide,h⟩]
theorem yb (p : Pq) (r : Bk) : gi p++r≠[]:=by unfold gi;simp
theorem nY : ∀ {l : List Pq},fu l=true→(∀ p ∈ l,p.val.length<4294967296)→dec (aQ l)=some l
  | [],_,_=>rfl
  | p::l,h,hv=>by
    unfold fu at h
    rw [List.all_cons,Bool.and_eq_true] at h
    have ih:=nY (l:=l) h.2 fun q hq=>hv q (by simp [hq])
    have e : aQ (p::l)=gi p++aQ l:=rfl
    rw [e,lN (yb p _),v7 h.1 (hv p (by simp))]
    dsimp only
    rw [ih]
    rfl
theorem pI (p : Pq) : (gi p).length=7+p.key.length+p.val.length:=by
  unfold gi
  simp only [List.length_cons,List.length_append,bn]
  omega
theorem qW : ∀ {l : List Pq} {b : Bk},dec b=some l→fu l=true∧(l.map fun p=>7+p.key.length+p.val.length).sum=b.length
  | l,[],h=>by
    rw [sG,Option.some.injEq] at h
    subst h
    exact ⟨rfl,rfl⟩
  | l,c::bs,h=>by
    rw [lN (by simp)] at h
    cases hf : kg (c::bs) with
    | none=>rw [hf] at h;cases h
    | some pr=>
      obtain ⟨p,r⟩:=pr
      rw [hf] at h
      dsimp only at h
      have h1:=gE hf
      have hlt : r.length<(c::bs).length:=by omega
      cases hd : dec r with
      | none=>rw [hd] at h;cases h
      | some l'=>
        rw [hd] at h
        cases h
        have ih:=qW (b:=r) hd
        refine ⟨?_,?_⟩
        · unfold fu
          rw [List.all_cons,h1.1,Bool.true_and]
          exact ih.1
        · simp only [List.map_cons,List.sum_cons]
          omega
termination_by _ b=>b.length
abbrev VL:=List (Bk × Bk)
def ec : Bk→Bk→Bool
  | [],[]=>false
  | [],_::_=>true
  | _::_,[]=>false
  | a::l,b::r=>if a.toNat<b.toNat then true else if b.toNat<a.toNat then false else ec l r
theorem ig : ∀ (a : Bk),ec a a=false
  | []=>rfl
  | a::l=>by rw [ec,if_neg (Nat.lt_irrefl _),if_neg (Nat.lt_irrefl _),ig l]
theorem jD : ∀ {a b c : Bk},ec a b=true→ec b c=true→ec a c=true
  | [],[],_,h,_=>by cases h
  | [],_::_,[],_,h=>by cases h
  | [],_::_,_::_,_,_=>rfl
  | _::_,[],_,h,_=>by cases h
  | _::_,_::_,[],_,h=>by cases h
  | a::l,b::r,c::t,h1,h2=>by
    rw [ec] at h1 h2 ⊢
    split at h1
    · split at h2
      · rw [if_pos (by omega)]
      · split at h2
        · cases h2
        · rw [if_pos (by omega)]
    · split at h1
      · cases h1
      · split at h2
        · rw [if_pos (by omega)]
        · split at h2
          · cases h2
          · rw [if_neg (by omega),if_neg (by omega)]
            exact jD h1 h2
theorem gG : ∀ (a b : Bk),a≠b→ec a b=false→ec b a=true
  | [],[],h,_=>absurd rfl h
  | [],_::_,_,h=>by cases h
  | _::_,[],_,_=>rfl
  | a::l,b::r,h,h1=>by
    rw [ec] at h1 ⊢
    split at h1
    · cases h1
    · split at h1
      · rw [if_pos (by omega)]
      · have e : a=b:=BitVec.eq_of_toNat_eq (by omega)
        rw [if_neg (by omega),if_neg (by omega)]
        exact gG l r (fun hh=>h (by rw [e,hh])) h1
theorem nk {a b : Bk} (h : ec a b=true) : ec b a=false:=by
  cases h2 : ec b a with
  | false=>rfl
  | true=>have:=jD h h2;rw [ig] at this;cases this
theorem lP {a b : Bk} (h : ec a b=true) : a≠b:=fun e=>by rw [e,ig] at h;cases h
def eO (k v : Bk) : VL→VL
  | []=>[(k,v)]
  | p::vs=>if ec p.1 k then p::eO k v vs else if p.1=k then (k,v)::vs else (k,v)::p::vs
def jE (k : Bk) : VL→VL
  | []=>[]
  | p::vs=>if ec p.1 k then p::jE k vs else if p.1=k then vs else p::vs
def tX (vs : VL) (p : Pq) : VL:=if p.gone then jE p.key vs else eO p.key p.val vs
def cu (vs : VL) (l : List Pq) : VL:=l.foldl tX vs
def iy (vs : VL) : Prop:=vs.Pairwise fun p q=>ec p.1 q.1=true
theorem iy.keys {vs : VL} (h : iy vs) : (vs.map Prod.fst).Nodup:=by
  unfold List.Nodup
  rw [List.pairwise_map]
  exact h.imp fun h=>lP h
theorem iV {k v : Bk} {q : Bk × Bk} : ∀ {vs : VL},q ∈ eO k v vs→q=(k,v)∨q ∈ vs
  | [],h=>by simpa [eO] using h
  | p::vs,h=>by
    rw [eO] at h
    split at h
    · rcases List.mem_cons.1 h with rfl | h
      · simp
      · rcases iV h with h | h <;> simp [h]
    · split at h
      · rcases List.mem_cons.1 h with h | h <;> simp [h]
      · rcases List.mem_cons.1 h with h | h
        · simp [h]
        · exact .inr h
theorem eP {k v : Bk} : ∀ {vs : VL},iy vs→iy (eO k v vs)
  | [],_=>by simp [eO,iy]
  | p::vs,h=>by
    obtain ⟨h1,h2⟩:=List.pairwise_cons.1 h
    rw [eO]
    split
    · next hk=>
      refine List.pairwise_cons.2 ⟨fun q hq=>?_,eP h2⟩
      rcases iV hq with rfl | hq
      · exact hk
      · exact h1 q hq
    · next hk=>
      split
      · next he=>
        refine List.pairwise_cons.2 ⟨fun q hq=>?_,h2⟩
        have:=h1 q hq
        rw [he] at this
        exact this
      · next he=>
        have hlt:=gG _ _ he (by simpa using hk)
        refine List.pairwise_cons.2 ⟨fun q hq=>?_,h⟩
        rcases List.mem_cons.1 hq with rfl | hq
        · exact hlt
        · exact jD hlt (h1 q hq)
theorem iW (k : Bk) : ∀ (vs : VL),(jE k vs).Sublist vs
  | []=>.slnil
  | p::vs=>by
    rw [jE]
    split
    · exact (iW k vs).cons_cons _
    · split
      · exact List.sublist_cons_self _ _
      · exact List.Sublist.refl _
theorem lQ {k : Bk} {vs : VL} (h : iy vs) : iy (jE k vs):=h.sublist (iW k vs)
theorem sH {vs : VL} {p : Pq} (h : iy vs) : iy (tX vs p):=by
  unfold tX
  split
  · exact lQ h
  · exact eP h
theorem gH : ∀ {l : List Pq} {vs : VL},iy vs→iy (cu vs l)
  | [],_,h=>h
  | p::l,vs,h=>gH (l:=l) (sH (p:=p) h)
theorem fy {k : Bk} {vs : VL} (h : ∀ q ∈ vs,q.1≠k) : vs.filter (fun q=>decide (q.1≠k))=vs:=List.filter_eq_self.2 fun q hq=>decide_eq_true (h q hq)
theorem kD {k : Bk} {p : Bk × Bk} {vs : VL} (h : iy (p::vs)) (hk : ec p.1 k=false) : ∀ q ∈ vs,q.1≠k:=fun q hq e=>by
  have h1:=(List.pairwise_cons.1 h).1 q hq
  rw [e,hk] at h1
  cases h1
theorem jF {k v : Bk} : ∀ {vs : VL},iy vs→(eO k v vs).Perm ((k,v)::vs.filter fun q=>decide (q.1≠k))
  | [],_=>.refl _
  | p::vs,h=>by
    obtain ⟨h1,h2⟩:=List.pairwise_cons.1 h
    rw [eO]
    split
    · next hk=>
      rw [List.filter_cons_of_pos (by simpa using lP hk)]
      exact (List.Perm.cons _ (jF h2)).trans (List.Perm.swap _ _ _)
    · next hk=>
      split
      · next he=>
        rw [List.filter_cons_of_neg (by simp [he]),fy (kD h (by simpa using hk))]
      · next he=>
        rw [List.filter_cons_of_pos (by simpa using he),fy (kD h (by simpa using hk))]
theorem gj {k : Bk} : ∀ {vs : VL},iy vs→jE k vs=vs.filter fun q=>decide (q.1≠k)
  | [],_=>rfl
  | p::vs,h=>by
    obtain ⟨h1,h2⟩:=List.pairwise_cons.1 h
    rw [jE]
    split
    · next hk=>rw [List.filter_cons_of_pos (by simpa using lP hk),gj h2]
    · next hk=>
      split
      · next he=>rw [List.filter_cons_of_neg (by simp [he]),fy (kD h (by simpa using hk))]
      · next he=>rw [List.filter_cons_of_pos (by simpa using he),fy (kD h (by simpa using hk))]
def ey (vs : VL) (k : Bk) : Option Bk:=(vs.find? fun q=>decide (q.1=k)).map Prod.snd
theorem c7 {vs : VL} (h : (vs.map Prod.fst).Nodup) {k v : Bk} : ey vs k=some v↔(k,v) ∈ vs:=by
  induction vs with
  | nil=>simp [ey]
  | cons p vs ih=>
    obtain ⟨h1,h2⟩:=List.nodup_cons.1 (by simpa using h : (p.1::vs.map Prod.fst).Nodup)
    unfold ey at ih ⊢
    rw [List.find?_cons]
    by_cases hp : p.1=k
    · rw [decide_eq_true hp]
      simp only [Option.map_some,Option.some.injEq,List.mem_cons]
      constructor
      · intro e;left;rw [← hp,← e]
      · rintro (e | e)
        · rw [← e]
        · exact absurd (hp ▸ List.mem_map_of_mem (f:=Prod.fst) e) h1
    · rw [decide_eq_false hp]
      simp only
      rw [ih h2,List.mem_cons]
      constructor
      · exact .inr
      · rintro (e | e)
        · exact absurd (by rw [← e]) hp
        · exact e
def cm (vs : VL) : List Pq:=vs.map fun p=>⟨p.1,p.2,false⟩
theorem nq {k v : Bk} : ∀ {vs : VL},(∀ q ∈ vs,ec q.1 k=true)→eO k v vs=vs++[(k,v)]
  | [],_=>rfl
  | p::vs,h=>by rw [eO,if_pos (h p (by simp)),nq fun q hq=>h q (by simp [hq])];rfl
theorem nr : ∀ (vs ws : VL),iy (ws++vs)→cu ws (cm vs)=ws++vs
  | [],ws,_=>by simp [cu,cm]
  | p::vs,ws,h=>by
    have e : cu ws (cm (p::vs))=cu (tX ws ⟨p.1,p.2,false⟩) (cm vs):=rfl
    have h' : iy (ws++[p]++vs):=by simpa using h
    have hl : ∀ q ∈ ws,ec q.1 p.1=true:=fun q hq=>(List.pairwise_append.1 h).2.2 q hq p (by simp)
    rw [e,show tX ws ⟨p.1,p.2,false⟩=ws++[p] from nq hl,nr vs (ws++[p]) h']
    simp
theorem yc {vs : VL} (h : iy vs) : cu [] (cm vs)=vs:=by simpa using nr vs [] (by simpa using h)
theorem lR (vs : VL) (a b : List Pq) : cu vs (a++b)=cu (cu vs a) b:=by simp [cu]
def aN : List Bk→Option (List Pq)
  | []=>some []
  | r::rs=>match dec r,aN rs with
    | some l,some ls=>some (l++ls)
    | _,_=>none
def ez (aa : List Bk) : Option VL:=(aN aa).map (cu [])
theorem dn : ∀ (a b : List Bk),aN (a++b)=match aN a,aN b with | some l,some m=>some (l++m) | _,_=>none
  | [],b=>by
    rw [List.nil_append,aN]
    cases aN b <;> rfl
  | r::a,b=>by
    rw [List.cons_append,aN,aN,dn a b]
    cases dec r <;> cases aN a <;> cases aN b <;> simp
theorem ij (r : Bk) : aN [r]=dec r:=by
  rw [aN,aN]
  cases dec r <;> simp
end gh
end
section
set_option maxRecDepth 10000
open Sl
structure ME (α : Type) where
  key : List Bt
  val : α
  born : Nat
def ME.en {α : Type} (f : α→Value) (e : ME α) : MapEntry:=⟨Z e.key,f e.val,e.born⟩
def MB {α : Type} (f : α→Value) (es : List (ME α)) (c : Nat) : Obj→Prop:=fun o=>o=.map (es.map (ME.en f)).toArray c
def IB (b : Nat) (since : Nat) (seen : List Nat) (last : Nat) : Obj→Prop:=fun o=>o=.mapIter (some b) since seen.toArray last
variable {α : Type}
def bK (k : List Bt) : List (ME α)→Nat→Option (Nat × α)
  | [],_=>none
  | e::es,i=>if k=e.key then some (i,e.val) else bK k es (i+1)
def look (es : List (ME α)) (k : List Bt) : Option α:=(bK k es 0).map Prod.snd
def fA (k : List Bt) (v : α) (c : Nat) : List (ME α)→List (ME α)
  | []=>[⟨k,v,c⟩]
  | e::es=>if k=e.key then ⟨k,v,e.born⟩::es else e::fA k v c es
def qX (k : List Bt) (es : List (ME α)) (c : Nat) : Nat:=if (look es k).isSome then c else c+1
def gp (k : List Bt) : List (ME α)→List (ME α)
  | []=>[]
  | e::es=>if k=e.key then es else e::gp k es
structure WF {α : Type} (es : List (ME α)) (c : Nat) : Prop where
  keys : (es.map ME.key).Nodup
  pJ : (es.map ME.born).Nodup
  lt : ∀ e ∈ es,e.born<c
theorem v8 {l r : List Bt} (h : bL l=bL r) : l=r:=by rw [← fm l,h,fm]
theorem pK (l r : List Bt) : (bL l == bL r)=decide (l=r):=by
  show ((l.map UInt8.ofBitVec).toArray == (r.map UInt8.ofBitVec).toArray)=_
  by_cases h : l=r
  · subst h;simp
  · rw [decide_eq_false h]
    refine beq_eq_false_iff_ne.2 fun e=>h (v8 ?_)
    show (⟨(l.map UInt8.ofBitVec).toArray⟩ : ByteArray)=⟨(r.map UInt8.ofBitVec).toArray⟩
    rw [e]
theorem jX (f : α→Value) (k : List Bt) : ∀ (es : List (ME α)) (i : Nat),Instr.findNow .string (Z k) (es.map (ME.en f)) i=some ((bK k es i).map fun p=>(p.1,f p.2))
  | [],i=>rfl
  | e::es,i=>by
    rw [List.map_cons,Instr.findNow]
    have h : Instr.sameNow .string (Z k) (e.en f).key=some (decide (k=e.key)):=by
      show some (bL k == bL e.key)=_
      rw [pK]
    rw [h,bK]
    by_cases hk : k=e.key
    · rw [decide_eq_true hk,if_pos hk]
      rfl
    · rw [decide_eq_false hk,if_neg hk]
      exact jX f k es (i+1)
theorem gr (k : List Bt) : ∀ (es : List (ME α)) (i : Nat),bK k es i=(bK k es 0).map fun p=>(p.1+i,p.2)
  | [],i=>rfl
  | e::es,i=>by
    rw [bK,bK]
    split
    · simp
    · rw [gr k es (i+1),gr k es (0+1),Option.map_map]
      congr 1
      funext p
      simp only [Function.comp_apply,Prod.mk.injEq,and_true]
      omega
theorem lS {k : List Bt} : ∀ {es : List (ME α)} {i : Nat},bK k es i=none↔k ∉ es.map ME.key
  | [],i=>by simp [bK]
  | e::es,i=>by
    rw [bK]
    by_cases h : k=e.key
    · rw [if_pos h];simp [h]
    · rw [if_neg h,lS];simp [h]
theorem jG {es : List (ME α)} {k : List Bt} : look es k=none↔k ∉ es.map ME.key:=by
  unfold look
  rw [Option.map_eq_none_iff]
  exact lS
theorem tY (e : ME α) (es : List (ME α)) (k : List Bt) : look (e::es) k=if k=e.key then some e.val else look es k:=by
  unfold look
  rw [bK]
  split
  · rfl
  · rw [gr,Option.map_map];rfl
theorem pL {k : List Bt} {v : α} {c : Nat} : ∀ {es : List (ME α)} {i : Nat},bK k es i=none→fA k v c es=es++[⟨k,v,c⟩]
  | [],_,_=>rfl
  | e::es,i,h=>by
    rw [bK] at h
    by_cases hk : k=e.key
    · rw [if_pos hk] at h;cases h
    · rw [if_neg hk] at h
      rw [fA,if_neg hk,pL h];rfl
theorem lT (f : α→Value) {k : List Bt} {v u : α} {c : Nat} : ∀ {es : List (ME α)} {i j : Nat},bK k es i=some (j,u)→i≤j∧j - i<es.length∧(es.map (ME.en f)).modify (j - i) (fun e=>{ e with key:=Z k,val:=f v })=(fA k v c es).map (ME.en f)
  | e::es,i,j,h=>by
    rw [bK] at h
    by_cases hk : k=e.key
    · rw [if_pos hk,Option.some.injEq,Prod.mk.injEq] at h
      obtain ⟨rfl,rfl⟩:=h
      rw [fA,if_pos hk]
      simp [ME.en]
    · rw [if_neg hk] at h
      obtain ⟨h1,h2,h3⟩:=lT f (v:=v) (c:=c) h
      rw [fA,if_neg hk]
      refine ⟨by omega,by rw [List.length_cons];omega,?_⟩
      rw [show j - i=(j - (i+1))+1 by omega,List.map_cons,List.modify_succ_cons,h3,List.map_cons]
theorem pM {k : List Bt} : ∀ {es : List (ME α)} {i : Nat},bK k es i=none→gp k es=es
  | [],_,_=>rfl
  | e::es,i,h=>by
    rw [bK] at h
    by_cases hk : k=e.key
    · rw [if_pos hk] at h;cases h
    · rw [if_neg hk] at h
      rw [gp,if_neg hk,pM h]
theorem pN (f : α→Value) {k : List Bt} {u : α} : ∀ {es : List (ME α)} {i j : Nat},bK k es i=some (j,u)→i≤j∧j - i<es.length∧(es.map (ME.en f)).eraseIdx (j - i)=(gp k es).map (ME.en f)
  | e::es,i,j,h=>by
    rw [bK] at h
    by_cases hk : k=e.key
    · rw [if_pos hk,Option.some.injEq,Prod.mk.injEq] at h
      obtain ⟨rfl,rfl⟩:=h
      rw [gp,if_pos hk]
      simp
    · rw [if_neg hk] at h
      obtain ⟨h1,h2,h3⟩:=pN f h
      rw [gp,if_neg hk]
      refine ⟨by omega,by rw [List.length_cons];omega,?_⟩
      rw [show j - i=(j - (i+1))+1 by omega,List.map_cons,List.eraseIdx_cons_succ,h3,List.map_cons]
theorem jH (k : List Bt) (v : α) (c : Nat) : ∀ (es : List (ME α)),(fA k v c es).map ME.key=if k ∈ es.map ME.key then es.map ME.key else es.map ME.key++[k]
  | []=>by simp [fA]
  | e::es=>by
    rw [fA]
    by_cases h : k=e.key
    · rw [if_pos h,if_pos (by simp [h])];simp [h]
    · rw [if_neg h,List.map_cons,jH k v c es]
      by_cases h2 : k ∈ es.map ME.key
      · rw [if_pos h2,if_pos (by simp only [List.map_cons,List.mem_cons];exact .inr h2)];rfl
      · rw [if_neg h2,if_neg (by simp only [List.map_cons,List.mem_cons,not_or];exact ⟨h,h2⟩)];rfl
theorem dS (k : List Bt) (v : α) (c : Nat) : ∀ (es : List (ME α)),(fA k v c es).map ME.born=if k ∈ es.map ME.key then es.map ME.born else es.map ME.born++[c]
  | []=>by simp [fA]
  | e::es=>by
    rw [fA]
    by_cases h : k=e.key
    · rw [if_pos h,if_pos (by simp [h])];simp
    · rw [if_neg h,List.map_cons,dS k v c es]
      by_cases h2 : k ∈ es.map ME.key
      · rw [if_pos h2,if_pos (by simp only [List.map_cons,List.mem_cons];exact .inr h2)];rfl
      · rw [if_neg h2,if_neg (by simp only [List.map_cons,List.mem_cons,not_or];exact ⟨h,h2⟩)];rfl
theorem gu (k : List Bt) : ∀ (es : List (ME α)),(gp k es).Sublist es
  | []=>.slnil
  | e::es=>by
    rw [gp]
    split
    · exact List.sublist_cons_self _ _
    · exact (gu k es).cons_cons _
theorem WF.nil : WF ([] : List (ME α)) 0:=⟨.nil,.nil,nofun⟩
theorem WF.put {es : List (ME α)} {c : Nat} (h : WF es c) (k : List Bt) (v : α) : WF (fA k v c es) (qX k es c):=by
  have hl : (look es k).isSome=decide (k ∈ es.map ME.key):=by
    by_cases hk : k ∈ es.map ME.key
    · rw [decide_eq_true hk]
      cases he : look es k with
      | none=>exact absurd hk (jG.1 he)
      | some v=>rfl
    · rw [decide_eq_false hk,jG.2 hk];rfl
  unfold qX
  rw [hl]
  by_cases hk : k ∈ es.map ME.key
  · rw [decide_eq_true hk,if_pos rfl]
    refine ⟨by rw [jH,if_pos hk];exact h.keys,by rw [dS,if_pos hk];exact h.pJ,fun e he=>?_⟩
    have:=List.mem_map_of_mem (f:=ME.born) he
    rw [dS,if_pos hk] at this
    obtain ⟨e',h1,h2⟩:=List.mem_map.1 this
    rw [← h2]
    exact h.lt e' h1
  · rw [decide_eq_false hk,if_neg (by simp)]
    refine ⟨?_,?_,fun e he=>?_⟩
    · rw [jH,if_neg hk]
      exact List.nodup_append.2 ⟨h.keys,by simp,fun a ha b hb e=>hk (by rw [List.mem_singleton.1 hb] at e;exact e ▸ ha)⟩
    · rw [dS,if_neg hk]
      refine List.nodup_append.2 ⟨h.pJ,by simp,fun a ha b hb e=>?_⟩
      obtain ⟨e',h1,h2⟩:=List.mem_map.1 ha
      have:=h.lt e' h1
      rw [List.mem_singleton.1 hb] at e
      omega
    · have:=List.mem_map_of_mem (f:=ME.born) he
      rw [dS,if_neg hk,List.mem_append] at this
      rcases this with h1 | h1
      · obtain ⟨e',h1,h2⟩:=List.mem_map.1 h1
        have:=h.lt e' h1
        omega
      · rw [List.mem_singleton.1 h1];omega
theorem WF.del {es : List (ME α)} {c : Nat} (h : WF es c) (k : List Bt) : WF (gp k es) c:=
  ⟨h.keys.sublist ((gu k es).map _),h.pJ.sublist ((gu k es).map _),fun e he=>h.lt e ((gu k es).subset he)⟩
theorem jI (k : List Bt) (v : α) (c : Nat) : ∀ (es : List (ME α)),(es.map ME.key).Nodup→((fA k v c es).map fun e=>(e.key,e.val)).Perm ((k,v)::(es.filter fun e=>decide (e.key≠k)).map fun e=>(e.key,e.val))
  | [],_=>.refl _
  | e::es,h=>by
    obtain ⟨h1,h2⟩:=List.nodup_cons.1 (by simpa using h : (e.key::es.map ME.key).Nodup)
    rw [fA]
    by_cases hk : k=e.key
    · rw [if_pos hk,List.filter_cons_of_neg (by simp [hk]),List.map_cons,List.filter_eq_self.2 fun x hx=>by
        simp only [ne_eq,decide_eq_true_eq]
        intro h3
        exact h1 (by rw [← hk,← h3];exact List.mem_map_of_mem hx)]
    · rw [if_neg hk,List.filter_cons_of_pos (by simp [Ne.symm hk]),List.map_cons,List.map_cons]
      exact (List.Perm.cons _ (jI k v c es h2)).trans (List.Perm.swap _ _ _)
theorem jY (k : List Bt) : ∀ (es : List (ME α)),(es.map ME.key).Nodup→gp k es=es.filter fun e=>decide (e.key≠k)
  | [],_=>rfl
  | e::es,h=>by
    obtain ⟨h1,h2⟩:=List.nodup_cons.1 (by simpa using h : (e.key::es.map ME.key).Nodup)
    rw [gp]
    by_cases hk : k=e.key
    · rw [if_pos hk,List.filter_cons_of_neg (by simp [hk]),List.filter_eq_self.2 fun x hx=>by
        simp only [ne_eq,decide_eq_true_eq]
        intro h3
        exact h1 (by rw [← hk,← h3];exact List.mem_map_of_mem hx)]
    · rw [if_neg hk,List.filter_cons_of_pos (by simp [Ne.symm hk]),jY k es h2]
section
variable {P : Program} {n : Nat} {w0 : World} {S : List Nat} {ops : Array Oper} {Q : Exit→Act→World→Prop} {l : List Oper} {E : Env} {M M' : List aj}
variable {dst : Option Tmp} {d b r : Nat} {t t' k e ty : TypeId} {pos : String} {aft : Array Edge} {g : Option (Nat × Bool)} {x y z : Operand} {α : Type} {f : α→Value} {es : List (ME α)} {c : Nat} {key : List Bt} {v : α} {zv : Value} {wr : Bool}
theorem fB (em : Bool) (hk : P.underlying k=some .string) (w : World) : (Instr.checkKey em 10000 k (Z key)).run P w=.ok () w:=by
  have h1 : ∀ w,(underlying k).run P w=.ok .string w:=run_underlying hk
  rw [show (10000 : Nat)=9999+1 from rfl,Instr.checkKey]
  simp only [Sem.run_bind,h1,Result.andThen_ok,Sem.run_pure]
theorem gv (hk : P.underlying k=some .string) (w : World) : (Instr.findKey k (Z key) (es.map (ME.en f))).run P w=.ok ((bK key es 0).map fun p=>(p.1,f p.2)) w:=by
  simp [Instr.findKey,Sem.run_bind,run_underlying hk,jX]
theorem lU {w : World} (h : w.heap[b]?=some (.map (es.map (ME.en f)).toArray c)) : (getObj b).run P w=.ok (.map (es.map (ME.en f)).toArray c) w:=by
  simp [getObj,Sem.run,h]
theorem nZ {w : World} {o : Obj} (h : w.heap[b]?=some (.map (es.map (ME.en f)).toArray c)) : (setObj b o).run P w=.ok () { w with heap:=w.heap.setIfInBounds b o }:=by
  simp [setObj,Sem.run,h]
def pO (v : Option Value) (zv : Value) : Bool→Value
  | true=>.tuple #[v.getD zv,.bool v.isSome]
  | false=>v.getD zv
theorem qY {ok : Bool} (ht : P.underlying t=some (.map k e)) (hk : P.underlying k=some .string) (hz : ∀ w,(zeroValue e).run P w=.ok zv w) {w : World} (h : w.heap[b]?=some (.map (es.map (ME.en f)).toArray c)) :
    (Instr.lookup t (.map (some b)) (Z key) ok).run P w=.ok (pO ((look es key).map f) zv ok) w:=by
  have h1 : ∀ w,(underlying t).run P w=.ok (.map k e) w:=run_underlying ht
  simp only [Instr.lookup,Sem.run_bind,h1,Result.andThen_ok,lU h,Sem.run_pure,fB _ hk,gv hk,List.toList_toArray]
  unfold look
  cases bK key es 0 with
  | none=>
    simp only [Option.map_none,Sem.run_bind,hz,Result.andThen_ok,Sem.run_pure]
    cases ok <;> rfl
  | some p=>
    simp only [Option.map_some,Sem.run_bind,Result.andThen_ok,Sem.run_pure]
    cases ok <;> rfl
theorem yd (hz : (P.info? e).bind (·.zero)=some zv) (w : World) : (zeroValue e).run P w=.ok zv w:=by
  cases hq : P.info? e with
  | none=>simp [hq] at hz
  | some i=>
    cases hi : i.zero with
    | none=>simp [hq,hi] at hz
    | some z=>
      simp [hq,hi] at hz
      simp [zeroValue,typeInfo,Sem.run_bind,hq,hi,hz]
theorem OQ.look {ok : Bool} (ht : P.underlying t=some (.map k e)) (hk : P.underlying k=some .string) (hz : (P.info? e).bind (·.zero)=some zv) (hx : ev E x=some (.map (some b))) (hy : ev E y=some (Z key)) (hM : Has M b (MB f es c) wr) :
    OQ P n E (Holds w0 S M) ⟨dst,.lookup t x y ok,ty,pos,aft,g⟩ (pO ((look es key).map f) zv ok):=
  OQ.run fun a ha w hw=>by
    have h1:=ha.eval hx
    have h2:=ha.eval hy
    obtain ⟨o,ho,rfl⟩:=hw.get hM
    simp [execOp,h1,h2,Sem.run_bind,qY (ok:=ok) ht hk (yd hz) ho]
theorem JL.makeMap (f : α→Value) {rs : Option Operand} (hrs : rs=none) (hd : Nat.blt d n=true)
    (kk : ∀ b,w0.heap.size≤b→JL P n w0 S ops Q l ((d,.map (some b))::E) (⟨b,MB f [] 0,true⟩::M)) : JL P n w0 S ops Q (⟨some d,.makeMap t rs,ty,pos,aft,none⟩::l) E M:=
  ⟨fun a w ha hw=>wpList_plain rfl fun K hK=>by
    subst hrs
    unfold Oper.wp
    simp only [execOp,Instr.makeMap,newObj,Sem.run_bind,Sem.run,Option.map_none,Sem.run_pure,Result.andThen_ok]
    exact hK _ _ ((kk w.heap.size hw.aS.size).go _ _ (ha.put d _ hd) (hw.push (.map #[] 0) rfl rfl rfl rfl rfl))⟩
theorem mA (ht : P.underlying t=some (.map k e)) (hk : P.underlying k=some .string) {w : World} (h : w.heap[b]?=some (.map (es.map (ME.en f)).toArray c)) :
    (Instr.mapUpdate t (.map (some b)) (Z key) (f v)).run P w=.ok () { w with heap:=w.heap.setIfInBounds b (.map ((fA key v c es).map (ME.en f)).toArray (qX key es c)) }:=by
  have h1 : ∀ w,(underlying t).run P w=.ok (.map k e) w:=run_underlying ht
  simp only [Instr.mapUpdate,Sem.run_bind,h1,Result.andThen_ok,lU h,fB _ hk,gv hk,List.toList_toArray]
  unfold qX look
  cases hf : bK key es 0 with
  | none=>
    have e1:=pL (v:=v) (c:=c) hf
    simp only [nZ h,Option.map_none,Option.isSome_none,e1]
    simp [ME.en]
  | some p=>
    obtain ⟨j,u⟩:=p
    obtain ⟨_,h2,h3⟩:=lT f (v:=v) (c:=c) hf
    rw [Nat.sub_zero] at h2 h3
    have hn : bK key es 0≠none:=by rw [hf];simp
    have hkj : ((es.map (ME.en f)).toArray[j]?).map (·.key)=some (Z key):=by
      have : ∀ {es : List (ME α)} {i j : Nat},bK key es i=some (j,u)→((es.map (ME.en f))[j - i]?).map (·.key)=some (Z key):=by
        intro es
        induction es with
        | nil=>intro i j h;cases h
        | cons e es ih=>
          intro i j h
          rw [bK] at h
          by_cases hk : key=e.key
          · rw [if_pos hk,Option.some.injEq,Prod.mk.injEq] at h
            obtain ⟨rfl,_⟩:=h
            simp [ME.en,hk]
          · rw [if_neg hk] at h
            have h9:=(lT f (v:=v) (c:=c) h).1
            have:=ih h
            rw [show j - i=(j - (i+1))+1 by omega,List.map_cons,List.getElem?_cons_succ]
            exact this
      have:=this hf
      rw [Nat.sub_zero] at this
      simpa using this
    have hst : (Instr.keyThatStays (Z key) (Z key)).run P w=.ok (Z key) w:=by
      have : Instr.sameBits 10000 (Z key) (Z key)=true:=by show (bL key == bL key)=true;rw [pK,decide_eq_true rfl]
      simp only [Instr.keyThatStays,this,if_true,Sem.run_pure]
    simp only [Sem.run_bind,hkj,Option.getD_some,hst,Result.andThen_ok,nZ h,Option.map_some,Option.isSome_some,if_true]
    rw [← h3]
    simp
theorem JL.Ab (ht : P.underlying t=some (.map k e)) (hk : P.underlying k=some .string) (hx : ev E x=some (.map (some b))) (hy : ev E y=some (Z key)) (hz : ev E z=some (f v))
    (hu : mw M b (MB f es c) (MB f (fA key v c es) (qX key es c)) M')
    (kk : JL P n w0 S ops Q l E M') : JL P n w0 S ops Q (⟨none,.mapUpdate t x y z,ty,pos,aft,none⟩::l) E M:=
  ⟨fun a w ha hw=>wpList_plain rfl fun K hK=>by
    obtain ⟨o,ho,rfl⟩:=hw.get hu.has
    have hlt:=(Array.getElem?_eq_some_iff.1 ho).1
    unfold Oper.wp
    simp only [execOp,ha.eval hx,ha.eval hy,ha.eval hz,Sem.run_bind,mA ht hk ho,Result.andThen_ok]
    refine hK _ _ (kk.go _ _ (ha.iz _) (hw.write hu (o':=.map ((fA key v c es).map (ME.en f)).toArray (qX key es c)) rfl ?_ ?_ ?_ rfl rfl rfl))
    · simp [hlt]
    · simp
    · intro k hk
      simp [Array.getElem?_setIfInBounds,Ne.symm hk]⟩
theorem qZ (ht : P.underlying t=some (.map k e)) (hk : P.underlying k=some .string) {w : World} (h : w.heap[b]?=some (.map (es.map (ME.en f)).toArray c)) :
    (Builtin.delete_ #[t,k] ty #[.map (some b),Z key]).run P w=.ok (.tuple #[]) { w with heap:=w.heap.setIfInBounds b (.map ((gp key es).map (ME.en f)).toArray c) }:=by
  have h1 : ∀ w,(underlying t).run P w=.ok (.map k e) w:=run_underlying ht
  simp only [Builtin.delete_,List.getElem?_toArray,List.getElem?_cons_zero,List.getElem?_cons_succ,Sem.run_bind,h1,Result.andThen_ok,lU h,fB _ hk,gv hk,List.toList_toArray]
  cases hf : bK key es 0 with
  | none=>
    simp only [Option.map_none,Sem.run_bind,nZ h,Result.andThen_ok,Sem.run_pure,pM hf]
  | some p=>
    obtain ⟨j,u⟩:=p
    obtain ⟨_,h2,h3⟩:=pN f hf
    rw [Nat.sub_zero] at h2 h3
    have e3 : ((es.map (ME.en f)).toArray.eraseIdxIfInBounds j)=((gp key es).map (ME.en f)).toArray:=by
      rw [← h3]
      apply Array.toList_inj.1
      simp [Array.eraseIdxIfInBounds,h2]
    simp only [Option.map_some,Sem.run_bind,nZ h,Result.andThen_ok,Sem.run_pure,e3]
theorem JL.mapRange (ht : P.underlying t=some (.map k e)) (hx : ev E x=some (.map (some b))) (hM : Has M b (MB f es c) wr) (hd : Nat.blt d n=true)
    (kk : ∀ r,w0.heap.size≤r→JL P n w0 S ops Q l ((d,Pt r 0)::E) (⟨r,IB b c [] c,true⟩::M)) : JL P n w0 S ops Q (⟨some d,.range t x,ty,pos,aft,none⟩::l) E M:=
  ⟨fun a w ha hw=>wpList_plain rfl fun K hK=>by
    obtain ⟨o,ho,rfl⟩:=hw.get hM
    unfold Oper.wp
    simp only [execOp,ha.eval hx,Sem.run_bind,run_range_map w t k e b _ c ht ho,Result.andThen_ok]
    exact hK _ _ ((kk w.heap.size hw.aS.size).go _ _ (ha.put d _ hd) (hw.push (.mapIter (some b) c #[] c) rfl rfl rfl rfl rfl))⟩
theorem we {w : World} {seen : List Nat} (hf : WF es c) (hb : w.heap[b]?=some (.map (es.map (ME.en f)).toArray c)) (hr : w.heap[r]?=some (.mapIter (some b) c seen.toArray c)) :
    ((∀ e ∈ es,e.born ∈ seen)∧(Instr.next (Pt r 0) false ty).run P w=.ok (.tuple #[.bool false]) w)∨
    ∃ e ∈ es,e.born ∉ seen∧∃ dr,(Instr.next (Pt r 0) false ty).run P w=.ok (.tuple #[.bool true,Z e.key,f e.val]) { w with drawn:=dr,heap:=w.heap.setIfInBounds r (.mapIter (some b) c (seen++[e.born]).toArray c) }:=by
  have hold : ∀ x ∈ (es.map (ME.en f)).toArray.toList,x.born<c:=fun x hx=>by
    obtain ⟨e,he,rfl⟩:=List.mem_map.1 (by simpa using hx : x ∈ es.map (ME.en f))
    exact hf.lt e he
  have hg : ∀ w : World,w.heap[b]?=some (.map (es.map (ME.en f)).toArray c)→w.heap[r]?=some (.mapIter (some b) c seen.toArray c)→(getObj r).run P w=.ok (.mapIter (some b) c seen.toArray c) w:=fun w _ h=>by simp [getObj,Sem.run,h]
  simp only [Instr.next,Sem.run_bind,hg w hb hr,lU hb,Result.andThen_ok,next_test_false seen.toArray _ c c hold (Nat.le_refl _),Bool.false_eq_true,if_false]
  have hL : Array.filter (fun e=>!seen.toArray.contains e.born) (es.map (ME.en f)).toArray=((es.filter fun e=>!seen.contains e.born).map (ME.en f)).toArray:=by
    rw [List.filter_toArray,List.filter_map]
    congr 3
    funext e
    exact congrArg (fun x=>!x) (List.contains_toArray ..)
  rw [hL]
  have hmem : ∀ e ∈ es.filter (fun e=>!seen.contains e.born),e ∈ es∧e.born ∉ seen:=fun e he=>by simpa using he
  have hall : (es.filter fun e=>!seen.contains e.born)=[]→∀ e ∈ es,e.born ∈ seen:=fun h e he=>by
    have:=List.filter_eq_nil_iff.1 h e he
    simpa using this
  generalize (es.filter fun e=>!seen.contains e.born)=L at hmem hall ⊢
  have e1 : Array.filter (fun x=>decide (x.born<c)) (L.map (ME.en f)).toArray=(L.map (ME.en f)).toArray:=Array.filter_eq_self.2 fun x hx=>by
    obtain ⟨e,he,rfl⟩:=List.mem_map.1 (by simpa using hx : x ∈ L.map (ME.en f))
    exact decide_eq_true (hf.lt e (hmem e he).1)
  have e2 : Array.filter (fun x=>decide (x.born ≥ c)) (L.map (ME.en f)).toArray=#[]:=by
    rw [Array.filter_eq_empty_iff]
    intro x hx
    obtain ⟨e,he,rfl⟩:=List.mem_map.1 (by simpa using hx : x ∈ L.map (ME.en f))
    have:=hf.lt e (hmem e he).1
    simp only [decide_eq_true_eq]
    show ¬ e.born ≥ c
    omega
  simp only [e1,e2,Array.append_empty]
  cases L with
  | nil=>
    left
    refine ⟨hall rfl,?_⟩
    simp [choose,Sem.run,Question.forced]
  | cons e0 L=>
    right
    have hne : ((e0::L).map (ME.en f)).toArray.isEmpty=false:=by simp
    simp only [hne,Bool.false_eq_true,if_false,Array.empty_append,Array.size_map]
    have hsz : ((e0::L).map (ME.en f)).toArray.size=(e0::L).length:=by simp
    rw [hsz]
    have hch : ∃ (j : Nat) (dr : Nat),j<(e0::L).length∧(choose (Question.mapNext (e0::L).length)).run P w=.ok j { w with drawn:=dr }:=by
      by_cases hf : (e0::L).length≤1
      · exact ⟨0,w.drawn,by simp,by simp only [choose,Sem.run,Question.forced,hf,decide_true,if_true]⟩
      · exact ⟨_,w.drawn+1,Nat.mod_lt _ (by simp),by
          simp only [choose,Sem.run,Question.forced,decide_eq_true_eq,hf,if_false,Question.cut]
          rfl⟩
    obtain ⟨j,dr,hj,hrun⟩:=hch
    refine ⟨(e0::L)[j],(hmem _ (List.getElem_mem hj)).1,(hmem _ (List.getElem_mem hj)).2,dr,?_⟩
    have hset : ∀ o',(setObj r o').run P { w with drawn:=dr }=.ok () { w with drawn:=dr,heap:=w.heap.setIfInBounds r o' }:=fun o'=>by
      simp [setObj,Sem.run,hr]
    have hjj : ((e0::L).map (ME.en f)).toArray[j]?=some ((e0::L)[j].en f):=by
      rw [List.getElem?_toArray,List.getElem?_map,List.getElem?_eq_getElem hj];rfl
    simp only [hrun,Array.getElem?_map,hjj,Option.map_some,Result.andThen_ok,Sem.run_bind,hset,Sem.run_pure]
    congr 3
    simp [ME.en]
theorem JL.mapNext {seen : List Nat} (hf : WF es c) (hx : ev E x=some (Pt r 0)) (hb : Has M b (MB f es c) wr) {Mf : List Nat→List aj} (hu : ∀ s',mw M r (IB b c seen c) (IB b c s' c) (Mf s')) (hd : Nat.blt d n=true)
    (k1 : (∀ e ∈ es,e.born ∈ seen)→JL P n w0 S ops Q l ((d,.tuple #[.bool false])::E) M)
    (k2 : ∀ e ∈ es,e.born ∉ seen→JL P n w0 S ops Q l ((d,.tuple #[.bool true,Z e.key,f e.val])::E) (Mf (seen++[e.born]))) : JL P n w0 S ops Q (⟨some d,.next x false,ty,pos,aft,none⟩::l) E M:=by
  refine ⟨fun a w ha hw=>wpList_plain rfl fun K hK=>?_⟩
  obtain ⟨o,ho,rfl⟩:=hw.get hb
  obtain ⟨o2,ho2,rfl⟩:=hw.get (hu seen).has
  have hlt:=(Array.getElem?_eq_some_iff.1 ho2).1
  rcases we (P:=P) (ty:=ty) hf ho ho2 with ⟨h1,h2⟩ | ⟨e,he,hne,dr,h2⟩
  · unfold Oper.wp
    simp only [execOp,ha.eval hx,Sem.run_bind,h2,Result.andThen_ok]
    exact hK _ _ ((k1 h1).go _ _ (ha.put d _ hd) hw)
  · unfold Oper.wp
    simp only [execOp,ha.eval hx,Sem.run_bind,h2,Result.andThen_ok]
    refine hK _ _ ((k2 e he hne).go _ _ (ha.put d _ hd) (hw.write (hu _) (o':=.mapIter (some b) c (seen++[e.born]).toArray c) rfl ?_ ?_ ?_ rfl rfl rfl))
    · simp [hlt]
    · simp
    · intro k hk
      simp [Array.getElem?_setIfInBounds,Ne.symm hk]
theorem OQ.entry {seen : List Nat} {m : ME α} {wr' : Bool} (hf : WF es c) (hx : ev E x=some (Pt r 0)) (hb : Has M b (MB f es c) wr) (hi : Has M r (IB b c (seen++[m.born]) c) wr') (hm : m ∈ es) :
    OQ P n E (Holds w0 S M) ⟨dst,.entry x,ty,pos,aft,g⟩ (.tuple #[Z m.key,f m.val]):=
  OQ.run fun a ha w hw=>by
    have h1:=ha.eval hx
    obtain ⟨o,ho,rfl⟩:=hw.get hb
    obtain ⟨o2,ho2,rfl⟩:=hw.get hi
    have hg : (getObj r).run P w=.ok (.mapIter (some b) c (seen++[m.born]).toArray c) w:=by simp [getObj,Sem.run,ho2]
    have hfd : (es.map (ME.en f)).toArray.find? (·.born == (m.en f).born)=some (m.en f):=by
      rw [← Array.find?_toList]
      exact find_born (m.en f) (es.map (ME.en f)) (by rw [List.map_map];exact hf.pJ) (List.mem_map_of_mem hm)
    have hbk : (seen++[m.born]).toArray.back?=some (m.en f).born:=by simp [ME.en]
    simp only [execOp,h1,Instr.entry,Sem.run_bind,hg,Result.andThen_ok,hbk,lU ho,bne_self_eq_false,Bool.false_eq_true,if_false,hfd,Sem.run_pure]
    rfl
end
end
section
set_option maxRecDepth 10000
open Sl dc dz gh
structure aE where
  key : Bk
  s : az
  gone : Bool
def aE.cs (p : aE) : List Value:=[Z p.key,p.s.v,.bool p.gone]
def aE.p (p : aE) : Pq:=⟨p.key,p.s.l,p.gone⟩
theorem iX : dH Tryz.prog 67=some 3:=by kernel_rfl
theorem gw : jm Tryz.prog 67=true:=by kernel_rfl
theorem AN : zc Tryz.prog 67=some [Z [],.slice none 0 0,.bool false]:=by kernel_rfl
theorem zm : EI Tryz.prog 67 (.agg #[Z [],.slice none 0 0,.bool false]) 3 48:=by unfold EI;kernel_rfl
theorem aE.one (p : aE) : p.cs.all Value.oneCell'=true:=by simp [aE.cs,Value.oneCell',az.v]
section
variable {P : Program} {n : Nat} {E : Env} {C : World→Prop} {dst : Option Tmp} {t ty e : TypeId} {pos : String} {aft : Array Edge} {g : Option (Nat × Bool)} {x y x1 x2 x3 : Operand} {s : az} {m : Nat} {k : IntKind}
theorem OQ.Ac {key : Bk} {b : Bool} (h1 : ev E x1=some (Z key)) (h2 : ev E x2=some s.v) (h3 : ev E x3=some (.bool b)) :
    OQ Tryz.prog n E C ⟨dst,.build 67 #[(0,x1),(1,x2),(2,x3)],ty,pos,aft,g⟩ (.agg #[Z key,s.v,.bool b]):=
  OQ.run fun a ha w _=>by
    have e1:=ha.eval h1
    have e2:=ha.eval h2
    have e3:=ha.eval h3
    have r:=run_build (P:=Tryz.prog) w 67 #[(0,Z key),(1,s.v),(2,.bool b)] #[Z key,s.v,.bool b] (by kernel_rfl)
    simp [execOp,e1,e2,e3,r]
theorem OQ.Ad (hu : P.underlying t=some (.slice e)) (hz : dH P e=some 1) (hx : ev E x=some s.v) (hh : ev E y=some (.int k (m : Int))) (h : m≤s.l.length) (hc : s.l.length≤s.cap) :
    OQ P n E C ⟨dst,.slice t x none (some y) none,ty,pos,aft,g⟩ (s.fst m).v:=
  OQ.to (OQ.run fun a ha w _=>by
    have h1:=ha.eval hx
    have h2:=ha.eval hh
    have h3 : (underlying t).run P w=.ok (.slice e) w:=run_underlying hu w
    have h4 : m≤s.cap:=Nat.le_trans h hc
    simp [execOp,h1,h2,az.v,Instr.sliceAt,Sem.run_bind,h3,Instr.slice,Instr.sliceBounds,Instr.sliceBound,asIntOf,h4,aJ hz]) (az.yZ s m h)
theorem OQ.ye (hu : P.underlying t=some (.slice e)) (hz : dH P e=some 1) (hx : ev E x=some s.v) (hl : ev E y=some (.int k (m : Int))) (h : m≤s.l.length) :
    OQ P n E C ⟨dst,.slice t x (some y) none none,ty,pos,aft,g⟩ (s.snd m).v:=
  OQ.to (OQ.run fun a ha w _=>by
    have h1:=ha.eval hx
    have h2:=ha.eval hl
    have h3 : (underlying t).run P w=.ok (.slice e) w:=run_underlying hu w
    simp [execOp,h1,h2,az.v,Instr.sliceAt,Sem.run_bind,h3,Instr.slice,Instr.sliceBounds,Instr.sliceBound,asIntOf,h,aJ hz]) (az.y5 s m)
end
theorem iq : aI Tryz.prog 52:=⟨_,Tryz.func52,rfl,by kernel_rfl⟩
theorem yf (p : Pq) : jk p=(decide ((1 : Int)≤(p.key.length : Int)) && (decide ((p.key.length : Int)≤1000) && !(p.gone && decide ((0 : Int)<(p.val.length : Int))))):=by
  unfold jk
  have h1 : decide ((1 : Int)≤(p.key.length : Int))=decide (1≤p.key.length):=decide_eq_decide.2 (by omega)
  have h2 : decide ((p.key.length : Int)≤1000)=decide (p.key.length≤1000):=decide_eq_decide.2 (by omega)
  have h3 : decide ((0 : Int)<(p.val.length : Int))=decide (0<p.val.length):=decide_eq_decide.2 (by omega)
  rw [h1,h2,h3]
set_option maxHeartbeats 8000000 in
theorem nt (p : aE) (w : World) : Calls Tryz.prog 52 [.agg p.cs.toArray].toArray w fun e w'=>e=.returned (.bool (jk p.p))∧Ext w w':=by
  refine enter (n:=24) Tryz.func52 rfl rfl rfl (Holds.start w []) ?_
  obtain ⟨key,s,gone⟩:=p
  obtain ⟨c1,g1⟩ : ∃ c,decide ((1 : Int)≤(key.length : Int))=c:=⟨_,rfl⟩
  obtain ⟨c2,g2⟩ : ∃ c,decide ((key.length : Int)≤1000)=c:=⟨_,rfl⟩
  obtain ⟨c3,g3⟩ : ∃ c,decide ((0 : Int)<(s.l.length : Int))=c:=⟨_,rfl⟩
  have e : jk (aE.p ⟨key,s,gone⟩)=(c1 && (c2 && !(gone && c3))):=by rw [yf,← g1,← g2,← g3];rfl
  rw [e]
  repeat (first | refine JC.seq ?_ | refine JC.region ?_)
  refine JL.box (r:=[Z key,s.v,.bool gone]) rfl rfl rfl fun b1 _=>?_
  cases c1 <;> cases c2 <;> cases gone <;> cases c3
  all_goals (
    repeat (first | refine JL.q (by first|(apply OQ.load;exact qy;rfl;exact .here;exact (Row.cell (v:=Z key) rfl))|(apply OQ.nM;exact Tryz.underlying9;rfl)|(apply OQ.fT (b:=1);rfl;rfl;exact g1)|(apply OQ.qv (b:=1000);rfl;rfl;exact g2)|(apply OQ.load;exact fY;rfl;exact .here;exact (Row.cell (v:=.bool true) rfl))|(apply OQ.load;exact fY;rfl;exact .here;exact (Row.cell (v:=.bool false) rfl))|(apply OQ.load;exact pq;rfl;exact .here;exact (Row.cell (v:=s.v) rfl))|(apply OQ.len (k:=s.l.length) (ad:=s.ad) (cap:=s.cap);exact Tryz.underlying24;rfl)|(apply OQ.cz (b:=0);rfl;rfl;exact g3)|(apply OQ.bg;rfl;rfl)|(apply OQ.aW;rfl;rfl)|(apply OQ.not;rfl)|(apply OQ.move;rfl)|(apply OQ.assign;rfl)|(apply OQ.bA;rfl;rfl;rfl;exact (by decide);rfl)) rfl ?_ | refine JC.seq ?_ | refine JC.region ?_ | refine JL.nil ?_ | refine JE.next ?_ | refine JL.aD rfl rfl ?_ | refine JL.bO rfl rfl rfl rfl ?_ | refine JL.kT rfl rfl rfl rfl ?_)
    exact JC.ret (JE.aP rfl (RV.tmp rfl) fun w' hw=>⟨rfl,hw.aS⟩))
theorem tZ : aI Tryz.prog 53:=⟨_,Tryz.func53,rfl,by kernel_rfl⟩
section
variable {n : Nat} {w0 : World} {S : List Nat} {ops : Array Oper} {Q : Exit→Act→World→Prop} {l : List Oper} {E : Env} {M : List aj}
variable {d : Nat} {ty : TypeId} {pos : String} {aft : Array Edge} {x1 x2 x3 : Operand} {ats : Array TypeId}
theorem JL.sI {q : Acc} {xs : Bk} {m size : Nat} (h0 : 0<size) (h4 : size≤8) (hm : m<4294967296) (hq : q=none→xs=[]) (hl : xs.length≤70000000000000) (e1 : ev E x1=some (av q xs.length)) (e2 : ev E x2=some (fN (BitVec.ofNat 64 m))) (e3 : ev E x3=some (N size)) (hd : Nat.blt d n=true)
    (kk : ∀ r : Nat × Nat,JL Tryz.prog n w0 S ops Q l ((d,av (some r) (xs++be (BitVec.ofNat 32 m) size).length)::E) (af 5 (some r) ((xs++be (BitVec.ofNat 32 m) size).map U8)++M)) : JL Tryz.prog n w0 S ops Q (⟨some d,.call ⟨.value (.func 42),#[x1,x2,x3],ats⟩,ty,pos,aft,none⟩::l) E (af 5 q (xs.map U8)++M):=
  JL.qG h0 h4 hq hl e1 e2 e3 hd (vp hm size ▸ kk)
end
set_option maxHeartbeats 16000000 in
theorem wg (q : Acc) (xs : Bk) (p : aE) (hq : q=none→xs=[]) (hl : xs.length≤60000000000000) (hok : jk p.p=true) (hv : p.s.l.length<4294967296) (w : World) (hs : p.s.ok w) (hap : ia p.s (keys (af 5 q (xs.map U8)))) (hw : Holds w (keys (af 5 q (xs.map U8))) (af 5 q (xs.map U8)) w) :
    Calls Tryz.prog 53 [av q xs.length,.agg p.cs.toArray].toArray w fun e w'=>∃ r : Nat × Nat,e=.returned (av (some r) (xs++gi p.p).length)∧Holds w (keys (af 5 q (xs.map U8))) (af 5 (some r) ((xs++gi p.p).map U8)) w':=by
  generalize keys (af 5 q (xs.map U8))=S at hw hap ⊢
  obtain ⟨key,s,gone⟩:=p
  have hk:=gF hok
  dsimp only [aE.p] at hk hv hs hap hok ⊢
  refine enter (n:=32) Tryz.func53 rfl rfl rfl hw ?_
  repeat (first | refine JC.seq ?_ | refine JC.region ?_)
  refine JL.box (r:=[Z key,s.v,.bool gone]) rfl rfl rfl fun b3 _=>?_
  repeat (first | refine JL.q (by first|(apply OQ.load;exact fY;rfl;exact .here;exact (Row.cell (v:=.bool gone) rfl))|(apply OQ.assign;rfl)|(apply OQ.bA;rfl;rfl;rfl;exact (by decide);rfl)) rfl ?_ | refine JC.seq ?_ | refine JC.region ?_ | refine JL.nil ?_ | refine JE.next ?_)
  refine JC.join (ι:=Unit) (fun _=>[(0,av q xs.length),(3,Pt b3 0),(5,U8 (if gone then 1#8 else 0#8))]) (fun _=>af 5 q (xs.map U8)++[⟨b3,Row 67 [Z key,s.v,.bool gone],true⟩]) (fun _=>True) ?_ fun _ _=>?_
  · refine JC.cond rfl (fun hc=>?_) (fun hc=>?_)
    · subst hc
      repeat (first | refine JL.q (by (apply OQ.assign;rfl)) rfl ?_ | refine JC.region ?_ | refine JL.nil ?_)
      exact JE.perm (List.perm_append_comm (l₁:=[_])) (JE.mid () trivial (by repeat (first | exact ah.nil | refine ah.cons _ _ _ rfl ?_)) (ak.refl _))
    · subst hc
      repeat (refine JC.skip ?_)
      exact JE.perm (List.perm_append_comm (l₁:=[_])) (JE.mid () trivial (by repeat (first | exact ah.nil | refine ah.cons _ _ _ rfl ?_)) (ak.refl _))
  have he : xs++gi ⟨key,s.l,gone⟩=xs++[if gone then 1#8 else 0#8]++be (BitVec.ofNat 32 key.length) 2++key++be (BitVec.ofNat 32 s.l.length) 4++s.l:=by
    unfold gi
    simp [List.append_assoc]
  rw [he]
  generalize (if gone=true then 1#8 else 0#8)=sg
  repeat (first | refine JL.q (by (apply OQ.move;rfl)) rfl ?_ | refine JC.seq ?_ | refine JC.region ?_)
  refine JL.j7 (v:=U8 sg) Tryz.underlying24 qw rfl rfl rfl rfl fun b10 _=>?_
  refine JL.perm (M':=af 5 q (xs.map U8)++[⟨b10,Row 5 [U8 sg],true⟩,⟨b3,Row 67 [Z key,s.v,.bool gone],true⟩]) ?_ (by exact List.perm_middle.symm)
  refine JL.cZ (xs:=xs.map U8) (cs:=[U8 sg]) (m:=1) (ad:=some ⟨b10,0,none⟩) (sc:=1) q Tryz.underlying24 qw (fun e=>by rw [hq e];rfl) (by rw [List.length_map];rfl) rfl rfl (fun w' hw'=>?_) (by simp [Value.oneCell']) rfl (by rw [List.length_map];omega) (by rw [List.length_map];omega) rfl fun q1 hq1=>?_
  · obtain ⟨o,ho,hA⟩:=hw'.get (b:=b10) (A:=Row 5 [U8 sg]) (wr:=true) (aZ .here)
    exact Reads.block ho (Row.all o hA)
  cases q1 with
  | none=>exact absurd (hq1 rfl) (by simp)
  | some r1=>
  clear hq1
  rw [show xs.map U8++[U8 sg]=(xs++[sg]).map U8 by simp,List.length_map]
  have l1 : (xs++[sg]).length=xs.length+1:=by simp
  generalize xs++[sg]=y1 at l1
  repeat (first | refine JL.q (by first|(apply OQ.load;exact qy;rfl;exact (aZ (N:=af 5 (some r1) (y1.map U8)) (.there .here));exact (Row.cell (v:=Z key) rfl))|(apply OQ.nM;exact Tryz.underlying9;rfl)|(apply OQ.eD;exact Tryz.underlying3;exact Tryz.underlying82;rfl)|(apply OQ.move;rfl)|(apply OQ.assign;rfl)|(apply OQ.bA;rfl;rfl;rfl;exact (by decide);rfl)) rfl ?_ | refine JC.seq ?_ | refine JC.region ?_ | refine JL.nil ?_ | refine JE.next ?_)
  refine JL.sI (q:=some r1) (xs:=y1) (m:=key.length) (size:=2) (by decide) (by decide) (by omega) nofun (by omega) rfl rfl rfl rfl fun r2=>?_
  have l2 : (y1++be (BitVec.ofNat 32 key.length) 2).length=xs.length+3:=by rw [List.length_append,bn,l1]
  generalize y1++be (BitVec.ofNat 32 key.length) 2=y2 at l2
  repeat (first | refine JL.q (by first|(apply OQ.load;exact qy;rfl;exact (aZ (N:=af 5 (some r2) (y2.map U8)) (.there .here));exact (Row.cell (v:=Z key) rfl))|(apply OQ.move;rfl)|(apply OQ.assign;rfl)|(apply OQ.bA;rfl;rfl;rfl;exact (by decide);rfl)) rfl ?_ | refine JC.seq ?_ | refine JC.region ?_ | refine JL.nil ?_ | refine JE.next ?_)
  refine JL.xG (r:=key) (xs:=y2.map U8) (some r2) Tryz.underlying24 Tryz.underlying9 qw nofun (by rw [List.length_map];rfl) rfl (fun e=>by rw [e] at hk;simp at hk) (by rw [List.length_map];omega) rfl fun r3=>?_
  rw [← List.map_append,List.length_map]
  have l3 : (y2++key).length=xs.length+3+key.length:=by rw [List.length_append,l2]
  generalize y2++key=y3 at l3
  repeat (first | refine JL.q (by first|(apply OQ.load;exact pq;rfl;exact (aZ (N:=af 5 (some r3) (y3.map U8)) (.there .here));exact (Row.cell (v:=s.v) rfl))|(apply OQ.len (k:=s.l.length) (ad:=s.ad) (cap:=s.cap);exact Tryz.underlying24;rfl)|(apply OQ.eD;exact Tryz.underlying3;exact Tryz.underlying82;rfl)|(apply OQ.move;rfl)|(apply OQ.assign;rfl)|(apply OQ.bA;rfl;rfl;rfl;exact (by decide);rfl)) rfl ?_ | refine JC.seq ?_ | refine JC.region ?_ | refine JL.nil ?_ | refine JE.next ?_)
  refine JL.sI (q:=some r3) (xs:=y3) (m:=s.l.length) (size:=4) (by decide) (by decide) hv nofun (by omega) rfl rfl rfl rfl fun r4=>?_
  have l4 : (y3++be (BitVec.ofNat 32 s.l.length) 4).length=xs.length+7+key.length:=by rw [List.length_append,bn,l3];omega
  generalize y3++be (BitVec.ofNat 32 s.l.length) 4=y4 at l4
  repeat (first | refine JL.q (by first|(apply OQ.load;exact pq;rfl;exact (aZ (N:=af 5 (some r4) (y4.map U8)) (.there .here));exact (Row.cell (v:=s.v) rfl))|(apply OQ.move;rfl)|(apply OQ.assign;rfl)|(apply OQ.bA;rfl;rfl;rfl;exact (by decide);rfl)) rfl ?_ | refine JC.seq ?_ | refine JC.region ?_ | refine JL.nil ?_ | refine JE.next ?_)
  refine JL.cZ (xs:=y4.map U8) (cs:=s.l.map U8) (m:=s.l.length) (ad:=s.ad) (sc:=s.cap) (some r4) Tryz.underlying24 qw nofun (by rw [List.length_map];rfl) rfl (by simp) (fun w' hw'=>(hs.iP hw' hap).reads) (oO _) rfl (by rw [List.length_map];omega) (by rw [List.length_map];omega) rfl fun q5 hq5=>?_
  cases q5 with
  | none=>
    have:=congrArg List.length (List.append_eq_nil_iff.1 (hq5 rfl)).1
    rw [List.length_map,List.length_nil] at this
    omega
  | some r5=>
  clear hq5
  rw [← List.map_append,List.length_map]
  repeat (first | refine JL.q (by (apply OQ.assign;rfl)) rfl ?_ | refine JL.nil ?_ | refine JE.next ?_)
  exact JC.ret (JE.aP rfl (RV.tmp rfl) fun w' hw=>⟨r5,rfl,hw.weak (an _ _)⟩)
theorem iY : aI Tryz.prog 76:=⟨_,Tryz.func76,rfl,by kernel_rfl⟩
def mB (s : az) (size : Nat) : Value:=match iU s.l size with
  | none=>.tuple #[.slice none 0 0,.slice none 0 0,.bool false]
  | some (k,_)=>.tuple #[((s.snd size).fst k.length).v,((s.snd size).snd k.length).v,.bool true]
set_option maxHeartbeats 8000000 in
theorem jZ (s : az) (size : Nat) (h4 : size≤4) (w : World) (hs : s.ok w) (hl : s.l.length<9223372036854775808) : Calls Tryz.prog 76 [s.v,N size].toArray w fun e w'=>e=.returned (mB s size)∧Ext w w':=by
  refine enter (n:=30) Tryz.func76 rfl rfl rfl (Holds.start w []) ?_
  cases g1 : decide ((s.l.length : Int)<(size : Int))
  case true=>
    have e : mB s size=.tuple #[.slice none 0 0,.slice none 0 0,.bool false]:=by unfold mB iU;rw [if_pos (by have:=of_decide_eq_true g1;omega)]
    rw [e]
    repeat (first | refine JL.q (by first|(apply OQ.len (k:=s.l.length) (ad:=s.ad) (cap:=s.cap);exact Tryz.underlying24;rfl)|(apply OQ.kU;rfl;rfl;exact g1)|(apply OQ.move;rfl)|(apply OQ.assign;rfl)) rfl ?_ | refine JC.seq ?_ | refine JC.region ?_ | refine JL.nil ?_ | refine JE.next ?_)
    refine JC.cond_true rfl rfl ?_
    repeat (first | refine JL.q (by (apply OQ.assign;rfl)) rfl ?_ | refine JC.seq ?_ | refine JC.region ?_ | refine JL.nil ?_ | refine JE.next ?_)
    refine JC.ret ?_
    repeat (refine JE.ax ?_)
    exact JE.j9 rfl (RV.tmp rfl) (RV.tmp rfl) (RV.tmp rfl) fun w' hw=>⟨rfl,hw.aS⟩
  have hsz : size≤s.l.length:=by have:=of_decide_eq_false g1;omega
  have hc:=hs.len
  have lf : (s.fst size).l.length=size:=by show (s.l.take size).length=_;rw [List.length_take];omega
  have ls : (s.snd size).l.length=s.l.length - size:=by show (s.l.drop size).length=_;rw [List.length_drop]
  have cN:=fun w' (ok : s.ok w')=>cQ (s.fst size) w' (ok.fst size) (by rw [lf];omega)
  have hn : (dG (s.fst size).l).toNat=eE (s.l.take size):=eo (by rw [lf];omega)
  have hlt : eE (s.l.take size)<4294967296:=by
    have h1:=su (l:=s.l.take size) (by rw [List.length_take];omega)
    have : 256 ^ (s.l.take size).length≤256 ^ 4:=Nat.pow_le_pow_right (by decide) (by rw [List.length_take];omega)
    omega
  have hcd : iU s.l size=if (s.l.drop size).length<eE (s.l.take size) then none else some ((s.l.drop size).take (eE (s.l.take size)),(s.l.drop size).drop (eE (s.l.take size))):=by unfold iU;rw [if_neg (by omega)]
  generalize eE (s.l.take size)=k at hn hlt hcd
  have hvv : fN (dG (s.fst size).l)=.int .u64 (k : Int):=by show Value.int .u64 _=_;rw [hn]
  rw [hvv] at cN
  repeat (first | refine JL.q (by first|(apply OQ.len (k:=s.l.length) (ad:=s.ad) (cap:=s.cap);exact Tryz.underlying24;rfl)|(apply OQ.kU;rfl;rfl;exact g1)|(apply OQ.move;rfl)|(apply OQ.assign;rfl)) rfl ?_ | refine JC.seq ?_ | refine JC.region ?_ | refine JL.nil ?_ | refine JE.next ?_)
  refine JC.cond_false rfl rfl ?_
  repeat (first | refine JC.seq ?_ | refine JC.skip ?_ | refine JE.next ?_)
  refine JC.quiet cC (by kernel_rfl) ?_
  repeat (first | refine JL.q (by first|(apply OQ.Ad (s:=s) (m:=size);exact Tryz.underlying24;exact gN;rfl;rfl;exact hsz;exact hc)|(apply OQ.aB (vs:=[(s.fst size).v]);exact bM;rfl;exact (fun w' hw'=>cN w' (hs.holds hw' rfl)))|(apply OQ.ye (s:=s) (m:=size);exact Tryz.underlying24;exact gN;rfl;rfl;exact hsz)|(apply OQ.len (k:=(s.snd size).l.length) (ad:=(s.snd size).ad) (cap:=(s.snd size).cap);exact Tryz.underlying24;rfl)|(apply OQ.eD;exact Tryz.underlying3;exact Tryz.underlying82;rfl)|(apply OQ.move;rfl)|(apply OQ.assign;rfl)) rfl ?_ | refine JQ.q (by first|(apply OQ.Ad (s:=s) (m:=size);exact Tryz.underlying24;exact gN;rfl;rfl;exact hsz;exact hc)|(apply OQ.aB (vs:=[(s.fst size).v]);exact bM;rfl;exact (fun w' hw'=>cN w' (hs.holds hw' rfl)))|(apply OQ.ye (s:=s) (m:=size);exact Tryz.underlying24;exact gN;rfl;rfl;exact hsz)|(apply OQ.len (k:=(s.snd size).l.length) (ad:=(s.snd size).ad) (cap:=(s.snd size).cap);exact Tryz.underlying24;rfl)|(apply OQ.eD;exact Tryz.underlying3;exact Tryz.underlying82;rfl)|(apply OQ.move;rfl)|(apply OQ.assign;rfl)) rfl ?_ | refine JC.seq ?_ | refine JC.region ?_ | refine JQ.nil ?_ | refine JE.next ?_)
  have hw64 : ((BitVec.ofNat 64 (s.snd size).l.length).toNat : Int)=((s.snd size).l.length : Int):=by rw [BitVec.toNat_ofNat,ls];omega
  cases g2 : decide (((BitVec.ofNat 64 (s.snd size).l.length).toNat : Int)<(k : Int))
  case true=>
    have e : mB s size=.tuple #[.slice none 0 0,.slice none 0 0,.bool false]:=by
      unfold mB
      rw [hcd,if_pos (by have:=of_decide_eq_true g2;rw [hw64,ls] at this;rw [List.length_drop];omega)]
    rw [e]
    repeat (first | refine JL.q (by (apply OQ.cz;rfl;rfl;exact g2)) rfl ?_ | refine JL.nil ?_ | refine JE.next ?_)
    refine JC.cond_true rfl rfl ?_
    repeat (first | refine JL.q (by (apply OQ.assign;rfl)) rfl ?_ | refine JC.seq ?_ | refine JC.region ?_ | refine JL.nil ?_ | refine JE.next ?_)
    refine JC.ret ?_
    repeat (refine JE.ax ?_)
    exact JE.j9 rfl (RV.tmp rfl) (RV.tmp rfl) (RV.tmp rfl) fun w' hw=>⟨rfl,hw.aS⟩
  have hk : k≤(s.snd size).l.length:=by have:=of_decide_eq_false g2;rw [hw64] at this;omega
  have e : mB s size=.tuple #[((s.snd size).fst k).v,((s.snd size).snd k).v,.bool true]:=by
    unfold mB
    rw [hcd,if_neg (by rw [ls] at hk;rw [List.length_drop];omega)]
    dsimp only
    rw [List.length_take,List.length_drop,Nat.min_eq_left (by rw [ls] at hk;exact hk)]
  rw [e]
  have hcs : (s.snd size).l.length≤(s.snd size).cap:=(hs.snd size hsz).len
  repeat (first | refine JL.q (by (apply OQ.cz;rfl;rfl;exact g2)) rfl ?_ | refine JL.nil ?_ | refine JE.next ?_)
  refine JC.cond_false rfl rfl ?_
  repeat (first | refine JC.seq ?_ | refine JC.skip ?_ | refine JE.next ?_)
  refine JC.quiet cC (by kernel_rfl) ?_
  repeat (first | refine JQ.q (by first|(apply OQ.Ad (s:=s.snd size) (m:=k);exact Tryz.underlying24;exact gN;rfl;rfl;exact hk;exact hcs)|(apply OQ.ye (s:=s.snd size) (m:=k);exact Tryz.underlying24;exact gN;rfl;rfl;exact hk)|(apply OQ.move;rfl)|(apply OQ.assign;rfl)) rfl ?_ | refine JQ.nil ?_ | refine JE.next ?_)
  refine JC.ret ?_
  skip
  exact JE.j9 rfl (RV.tmp rfl) (RV.tmp rfl) (RV.tmp rfl) fun w' hw=>⟨rfl,hw.aS⟩
theorem yg (s : az) (w : World) (hs : s.ok w) (hl : s.l.length≤4294967296) : Calls Tryz.prog 48 [s.v].toArray w fun e w'=>∃ q : {q : Acc // q=none→s.l=[]},e=.returned (aK q.1 s.l).v∧Holds w [] (af 5 q.1 (s.l.map U8)) w':=
  (ni s w hs hl).mono fun e w' ⟨q,h1,h2,h3⟩=>⟨⟨q,h2⟩,by rw [kW];exact h1,h3⟩
theorem ua : aI Tryz.prog 54:=⟨_,Tryz.func54,rfl,by kernel_rfl⟩
structure Fz where
  key : Bk
  q : Acc
  v : Bk
  g : Bool
  r : az
  there : Bool
def Fz.V (z : Fz) : Value:=.tuple #[.agg #[Z z.key,(aK z.q z.v).v,.bool z.g],z.r.v,.bool z.there]
structure Fz.ok (z : Fz) (s : az) : Prop where
  q : z.q=none→z.v=[]
  t : kg s.l=if z.there then some (⟨z.key,z.v,z.g⟩,z.r.l) else none
  r : z.there=true→∀ w : World,s.ok w→z.r.ok w
theorem nu (s : az) (m : Nat) : (s.snd m).l=s.l.drop m:=rfl
theorem Bi (s : az) (m : Nat) : (s.fst m).l=s.l.take m:=rfl
theorem sJ (s : az) (size : Nat) : ∃ (k r : az) (b : Bool),mB s size=.tuple #[k.v,r.v,.bool b]∧(iU s.l size=if b then some (k.l,r.l) else none)∧(∀ w : World,s.ok w→k.ok w∧r.ok w)∧k.l.length≤s.l.length∧r.l.length≤s.l.length:=by
  cases h : iU s.l size with
  | none=>exact ⟨bB,bB,false,by unfold mB;rw [h];rfl,rfl,fun w _=>⟨fh w,fh w⟩,Nat.zero_le _,Nat.zero_le _⟩
  | some kr=>
    obtain ⟨k,r⟩:=kr
    have h1:=lM h
    have e1 : s.l.drop size=k++r:=by
      have hs : size≤s.l.length:=by omega
      have h2:=h1.2
      have h3 : (s.l.take size).length=size:=by rw [List.length_take];omega
      rw [h2,List.append_assoc,List.drop_left' h3]
    have e2 : ((s.snd size).fst k.length).l=k:=by rw [Bi,nu,e1,List.take_left' rfl]
    have e3 : ((s.snd size).snd k.length).l=r:=by rw [nu,nu,e1,List.drop_left' rfl]
    refine ⟨(s.snd size).fst k.length,(s.snd size).snd k.length,true,by unfold mB;rw [h],by rw [e2,e3];rfl,fun w ok=>⟨(ok.snd size (by omega)).fst _,(ok.snd size (by omega)).snd _ (by rw [nu,e1,List.length_append];omega)⟩,by rw [e2];omega,by rw [e3];omega⟩
theorem Ae (c : Bt) : decide ((c.toNat : Int)≤1)=decide (c.toNat≤1):=decide_eq_decide.2 (by omega)
set_option maxHeartbeats 32000000 in
theorem wh (s : az) (w : World) (hs : s.ok w) (h0 : s.l≠[]) (hl : s.l.length≤4294967296) : Calls Tryz.prog 54 [s.v].toArray w fun e w'=>∃ z : {z : Fz // z.ok s},e=.returned z.1.V∧Holds w [] (af 5 z.1.q (z.1.v.map U8)) w':=by
  have hpos : 0<s.l.length:=List.length_pos_iff.2 h0
  obtain ⟨ba,ja,hae,hca⟩:=hs.reads.at (by rw [List.length_map];exact hpos)
  have hca:=hca 0 _ (e9 U8 0 hpos)
  have hsv : s.v=.slice (some ⟨ba,ja,none⟩) s.l.length s.cap:=by rw [← hae];rfl
  have hla : s.l=s.l.getD 0 0::s.l.drop 1:=by
    cases hll : s.l with
    | nil=>exact absurd hll h0
    | cons a t=>rfl
  generalize s.l.getD 0 0=c at hca hla
  refine enter (n:=47) Tryz.func54 rfl rfl rfl (Holds.start w []) ?_
  repeat (first | refine JC.seq ?_ | refine JC.region ?_)
  refine JL.alloc AN rfl fun b2 _=>?_
  rw [hsv]
  repeat (first | refine JL.q (by first|(apply OQ.dw (i:=0);exact Tryz.underlying24;exact gN;rfl;rfl;exact hpos)|(apply OQ.bw;exact zJ;rfl;exact (block_lt_of_cell hca);exact (by simp);exact hca)|(apply OQ.move;rfl)|(apply OQ.assign;rfl)) rfl ?_ | refine JC.seq ?_ | refine JC.region ?_ | refine JL.nil ?_ | refine JE.next ?_)
  rw [← hsv]
  have ok1:=hs.snd 1 hpos
  obtain ⟨ks,r1,hk,ek,ck,okk1,lk,lr1⟩:=sJ (s.snd 1) 2
  obtain ⟨vs8,r2,hv,ev,cv,okv1,lv,lr2⟩:=sJ r1 4
  have okk:=(okk1 w ok1).1
  have okr1:=(okk1 w ok1).2
  have okv:=(okv1 w okr1).1
  have ls1 : (s.snd 1).l.length≤s.l.length:=by rw [nu,List.length_drop];omega
  have c1:=fun {w' : World} (ok : (s.snd 1).ok w')=>jZ (s.snd 1) 2 (by decide) w' ok (by omega)
  have c2:=fun {w' : World} (ok : r1.ok w')=>jZ r1 4 (by decide) w' ok (by omega)
  rw [ek] at c1
  rw [ev] at c2
  have hvl : vs8.l.length≤4294967296:=by omega
  repeat (first | refine JL.q (by first|(apply OQ.ye (s:=s) (m:=1);exact Tryz.underlying24;exact gN;rfl;rfl;exact hpos)|(apply OQ.aB (vs:=[(s.snd 1).v,N 2]);exact iY;rfl;exact (fun w' hw'=>c1 (ok1.holds hw' rfl)))|(apply OQ.aB (vs:=[r1.v,N 4]);exact iY;rfl;exact (fun w' hw'=>c2 (okr1.holds hw' rfl)))|(apply OQ.extract;rfl;rfl)|(apply OQ.move;rfl)|(apply OQ.assign;rfl)) rfl ?_ | refine JC.seq ?_ | refine JC.region ?_ | refine JL.nil ?_ | refine JE.next ?_)
  obtain ⟨g,hg⟩ : ∃ g,decide ((c.toNat : Int)=1)=g:=⟨_,rfl⟩
  have hg2 : decide (c.toNat=1)=g:=by rw [← hg];exact decide_eq_decide.2 (by omega)
  have ⟨rv,hRV⟩ : ∃ rv,r2.v=rv:=⟨_,rfl⟩
  rw [hRV]
  haveI : Inhabited {q : Acc // q=none→vs8.l=[]}:=⟨⟨some (0,0),nofun⟩⟩
  let vs : Nat→{q : Acc // q=none→vs8.l=[]}→Value:=fun j y=>match j with
    | 0=>ks.v
    | 1=>Z ks.l
    | 2=>vs8.v
    | 3=>(aK y.1 vs8.l).v
    | 4=>U8 c
    | 5=>.bool g
    | 6=>.agg #[Z ks.l,(aK y.1 vs8.l).v,.bool g]
    | _=>N 0
  let Ms : Nat→{q : Acc // q=none→vs8.l=[]}→List aj:=fun j y=>match j with
    | 3=>af 5 y.1 (vs8.l.map U8)
    | 7=>[⟨b2,Row 67 [Z ks.l,(aK y.1 vs8.l).v,.bool g],true⟩]
    | 8=>[⟨b2,Row 67 [Z [],.slice none 0 0,.bool false],true⟩]
    | _=>[]
  refine JC.grow (g:=⟨[(0,s.v),(2,Pt b2 0),(3,rv),(5,U8 c),(6,ks.v),(7,.bool hk),(8,vs8.v),(9,.bool hv)],9,vs,Ms,(fun j=>match j with | 1=>[(0,26)] | 3=>[(2,28)] | 5=>[(4,30)] | 6=>[(1,27),(3,29),(5,31)] | 7=>[(6,32)] | _=>[]),(fun j=>match j with | 7=>[8] | _=>[]),(fun j=>match j with | 7=>[8] | _=>[]),(fun j=>match j with | 6=>some 3 | 7=>some 6 | _=>none)⟩) [] [7,3] cC (by repeat (first | exact ah.nil | refine ah.cons _ _ _ rfl ?_)) ?_ (by kernel_rfl) (by kernel_rfl) (by kernel_rfl) ?_ ?_
  · exact ak.refl _
  · refine ⟨?_,?_,?_,?_,?_,?_,?_,?_,trivial⟩
    · (intro xx EF MF Q kk;(try refine JL.aD rfl rfl ?_);exact JL.q (OQ.move rfl) rfl (JL.nil (kk default nofun)))
    · (intro xx EF MF Q kk;(try refine JL.aD rfl rfl ?_);exact JL.q (OQ.CI (s:=ks) Tryz.underlying24 Tryz.underlying5 Tryz.underlying9 rfl (fun w' hw'=>okk.holds hw' rfl)) rfl (JL.nil (kk default nofun)))
    · (intro xx EF MF Q kk;(try refine JL.aD rfl rfl ?_);exact JL.q (OQ.move rfl) rfl (JL.nil (kk default nofun)))
    · (intro xx EF MF Q kk;exact JL.bq (ι:={q : Acc // q=none→vs8.l=[]}) (vs:=[vs8.v]) (fun q=>(aK q.1 vs8.l).v) (fun q=>af 5 q.1 (vs8.l.map U8)) lK rfl rfl (fun _=>aM _ _ _) (fun w' hw'=>yg vs8 w' (okv.holds hw' rfl) hvl) fun q=>JL.nil (kk q nofun))
    · (intro xx EF MF Q kk;(try refine JL.aD rfl rfl ?_);exact JL.q (OQ.move rfl) rfl (JL.nil (kk default nofun)))
    · (intro xx EF MF Q kk;(try refine JL.aD rfl rfl ?_);exact JL.q (OQ.kV (a:=(c.toNat : Int)) (b:=1) rfl rfl hg) rfl (JL.nil (kk default nofun)))
    · (intro xx EF MF Q kk;exact JL.q (OQ.Ac rfl rfl rfl) rfl (JL.nil (kk (xx 3) (fun k h=>by cases h;rfl))))
    · (intro xx EF MF Q kk;exact JL.ai (cs:=[Z ks.l,(aK (xx 6).1 vs8.l).v,.bool g]) iX rfl rfl rfl (by simp [Value.oneCell',az.v]) .here rfl (JL.nil (kk (xx 6) (fun k h=>by cases h;rfl))))
  · intro xx hx
    have e1:=hx 7 6 (by decide) rfl
    have e2:=hx 6 3 (by decide) rfl
    show JE _ _ _ _ _ [(0,s.v),(2,Pt b2 0),(3,rv),(5,U8 c),(6,ks.v),(7,.bool hk),(8,vs8.v),(9,.bool hv)] ([⟨b2,Row 67 [Z ks.l,(aK (xx 7).1 vs8.l).v,.bool g],true⟩]++(af 5 (xx 3).1 (vs8.l.map U8)++[]))
    rw [e1,e2]
    generalize xx 3=q3
    clear hx e1 e2 xx vs Ms
    obtain ⟨q3,hq3⟩:=q3
    dsimp only
    refine JE.next ?_
    refine JC.seq ?_
    have hcp : (aK q3 vs8.l).l=vs8.l:=jx hq3
    obtain ⟨c5,g5⟩ : ∃ c5,decide ((c.toNat : Int)≤1)=c5:=⟨_,rfl⟩
    have g5' : decide (c.toNat≤1)=c5:=by rw [← Ae];exact g5
    have cM:=fun (w' : World)=>nt ⟨ks.l,aK q3 vs8.l,g⟩ w'
    have eM : (aE.mk ks.l (aK q3 vs8.l) g).p=⟨ks.l,vs8.l,g⟩:=by show Pq.mk _ _ _=_;rw [hcp]
    rw [eM] at cM
    have hfs : kg s.l=if (hk && (hv && (c5 && jk ⟨ks.l,vs8.l,g⟩)))=true then some (⟨ks.l,vs8.l,g⟩,r2.l) else none:=by
      rw [hla,kg]
      rw [nu] at ck
      rw [ck]
      cases hk
      · rfl
      · simp only [if_true]
        rw [cv]
        cases hv
        · rfl
        · simp only [if_true,hg2]
          cases c5
          · rw [if_neg (fun hh=>by rw [decide_eq_true hh.1] at g5';cases g5')];rfl
          · cases hok : jk ⟨ks.l,vs8.l,g⟩
            · rw [if_neg (fun hh=>by cases hh.2)];rfl
            · rw [if_pos ⟨of_decide_eq_true g5',rfl⟩];rfl
    have hfin : ∀ there,there=(hk && (hv && (c5 && jk ⟨ks.l,vs8.l,g⟩)))→(Fz.mk ks.l q3 vs8.l g r2 there).ok s:=fun there ht=>⟨hq3,by rw [ht];exact hfs,fun _ w' ok=>(okv1 w' (okk1 w' (ok.snd 1 hpos)).2).2⟩
    have hfin:=hfin _ rfl
    generalize jk ⟨ks.l,vs8.l,g⟩=A0 at cM hfin
    clear hfs ck cv ek ev c1 c2
    cases hk
    · skip
      let vs : Nat→Unit→Value:=fun j y=>match j with
        | 0=>.agg (aE.mk ks.l (aK q3 vs8.l) g).cs.toArray
        | 1=>rv
        | 2=>.bool false
        | 3=>.bool false
        | 4=>undef
        | 5=>.bool false
        | 6=>.bool false
        | 7=>undef
        | 8=>undef
        | 9=>.bool false
        | 10=>.bool false
        | 11=>undef
        | 12=>undef
        | 13=>.bool false
        | 15=>rv
        | 16=>.bool false
        | _=>N 0
      let Ms : Nat→Unit→List aj:=fun j y=>match j with
        | 14=>[⟨b2,Row 67 (aE.mk ks.l (aK q3 vs8.l) g).cs,true⟩]
        | 17=>[⟨b2,Row 67 (aE.mk ks.l (aK q3 vs8.l) g).cs,true⟩]
        | 18=>af 5 q3 (vs8.l.map U8)
        | _=>[]
      refine JC.oJ (g:=⟨[(2,Pt b2 0),(5,U8 c),(7,.bool false),(9,.bool hv)],19,vs,Ms,(fun j=>match j with | 3=>[(2,35)] | 4=>[(3,36)] | 5=>[(3,36),(4,37)] | 6=>[(5,38)] | 7=>[(6,39)] | 8=>[(7,40),(6,39)] | 9=>[(6,39),(8,41)] | 10=>[(9,42)] | 11=>[(10,43)] | 12=>[(11,44),(10,43)] | 13=>[(10,43),(12,45)] | 14=>[(0,33)] | 15=>[(1,34)] | 16=>[(13,46)] | _=>[]),(fun j=>match j with | 0=>[17] | 14=>[17] | _=>[]),(fun j=>match j with | 14=>[17] | _=>[]),(fun j=>match j with | _=>none),(fun j=>match j with | 1=>[(3,rv)] | _=>[])⟩) [(15,3),(16,4)] [14,18] cC (by repeat (first | exact ah.nil | refine ah.cons _ _ _ rfl ?_)) (fun i _=>by dsimp only;split <;> first | exact ah.nil | exact (by repeat (first | exact ah.nil | refine ah.cons _ _ _ rfl ?_))) ?_ (by kernel_rfl) (by kernel_rfl) (by kernel_rfl) ?_ ?_
      · exact ak.refl _
      · refine ⟨?_,?_,?_,?_,?_,?_,?_,?_,?_,?_,?_,?_,?_,?_,?_,?_,?_,trivial⟩
        · (intro xx EF MF Q kk;(try refine JL.aD rfl rfl ?_);exact JL.q (OQ.aq (cs:=(aE.mk ks.l (aK q3 vs8.l) g).cs) gw iX rfl .here rfl Row.all) rfl (JL.nil (kk default nofun)))
        · (intro xx EF MF Q kk;(try refine JL.aD rfl rfl ?_);exact JL.q (OQ.move rfl) rfl (JL.nil (kk default nofun)))
        · (intro xx EF MF Q kk;(try refine JL.aD rfl rfl ?_);exact JL.q (OQ.move rfl) rfl (JL.nil (kk default nofun)))
        · (intro xx EF MF Q kk;(try refine JL.aD rfl rfl ?_);exact JL.q (OQ.move rfl) rfl (JL.nil (kk default nofun)))
        · (intro xx EF MF Q kk;exact JL.bO rfl rfl rfl rfl (JL.nil (kk default nofun)))
        · (intro xx EF MF Q kk;(try refine JL.aD rfl rfl ?_);exact JL.q (OQ.aW rfl rfl) rfl (JL.nil (kk default nofun)))
        · (intro xx EF MF Q kk;(try refine JL.aD rfl rfl ?_);exact JL.q (OQ.move rfl) rfl (JL.nil (kk default nofun)))
        · (intro xx EF MF Q kk;exact JL.bO rfl rfl rfl rfl (JL.nil (kk default nofun)))
        · (intro xx EF MF Q kk;exact JL.bO rfl rfl rfl rfl (JL.nil (kk default nofun)))
        · (intro xx EF MF Q kk;(try refine JL.aD rfl rfl ?_);exact JL.q (OQ.aW rfl rfl) rfl (JL.nil (kk default nofun)))
        · (intro xx EF MF Q kk;(try refine JL.aD rfl rfl ?_);exact JL.q (OQ.move rfl) rfl (JL.nil (kk default nofun)))
        · (intro xx EF MF Q kk;exact JL.bO rfl rfl rfl rfl (JL.nil (kk default nofun)))
        · (intro xx EF MF Q kk;exact JL.bO rfl rfl rfl rfl (JL.nil (kk default nofun)))
        · (intro xx EF MF Q kk;(try refine JL.aD rfl rfl ?_);exact JL.q (OQ.aW rfl rfl) rfl (JL.nil (kk default nofun)))
        · (intro xx EF MF Q kk;exact JL.ai (cs:=(aE.mk ks.l (aK q3 vs8.l) g).cs) iX rfl rfl rfl (aE.one _) .here rfl (JL.nil (kk default nofun)))
        · (intro xx EF MF Q kk;(try refine JL.aD rfl rfl ?_);exact JL.q (OQ.assign rfl) rfl (JL.nil (kk default nofun)))
        · (intro xx EF MF Q kk;(try refine JL.aD rfl rfl ?_);exact JL.q (OQ.assign rfl) rfl (JL.nil (kk default nofun)))
      · intro xx hx
        show JE _ _ _ _ _ [(3,rv),(4,.bool false),(2,Pt b2 0),(5,U8 c),(7,.bool false),(9,.bool hv)] ([⟨b2,Row 67 (aE.mk ks.l (aK q3 vs8.l) g).cs,true⟩]++(af 5 q3 (vs8.l.map U8)++[]))
        clear hx xx vs Ms
        refine JE.next ?_
        exact JC.ret (JE.j9 rfl (RV.aL (cs:=(aE.mk ks.l (aK q3 vs8.l) g).cs) gw iX rfl .here rfl Row.all) (RV.tmp rfl) (RV.tmp rfl) fun w' hw=>⟨⟨_,hfin⟩,by rw [← hRV];rfl,(hw.weak (.drop _ _ _ (an _ _)))⟩)
    · cases hv
      · skip
        let vs : Nat→Unit→Value:=fun j y=>match j with
          | 0=>.agg (aE.mk ks.l (aK q3 vs8.l) g).cs.toArray
          | 1=>rv
          | 2=>.bool true
          | 3=>.bool true
          | 4=>.bool false
          | 5=>.bool false
          | 6=>.bool false
          | 7=>undef
          | 8=>undef
          | 9=>.bool false
          | 10=>.bool false
          | 11=>undef
          | 12=>undef
          | 13=>.bool false
          | 15=>rv
          | 16=>.bool false
          | _=>N 0
        let Ms : Nat→Unit→List aj:=fun j y=>match j with
          | 14=>[⟨b2,Row 67 (aE.mk ks.l (aK q3 vs8.l) g).cs,true⟩]
          | 17=>[⟨b2,Row 67 (aE.mk ks.l (aK q3 vs8.l) g).cs,true⟩]
          | 18=>af 5 q3 (vs8.l.map U8)
          | _=>[]
        refine JC.oJ (g:=⟨[(2,Pt b2 0),(5,U8 c),(7,.bool true),(9,.bool false)],19,vs,Ms,(fun j=>match j with | 3=>[(2,35)] | 4=>[(3,36)] | 5=>[(3,36),(4,37)] | 6=>[(5,38)] | 7=>[(6,39)] | 8=>[(7,40),(6,39)] | 9=>[(6,39),(8,41)] | 10=>[(9,42)] | 11=>[(10,43)] | 12=>[(11,44),(10,43)] | 13=>[(10,43),(12,45)] | 14=>[(0,33)] | 15=>[(1,34)] | 16=>[(13,46)] | _=>[]),(fun j=>match j with | 0=>[17] | 14=>[17] | _=>[]),(fun j=>match j with | 14=>[17] | _=>[]),(fun j=>match j with | _=>none),(fun j=>match j with | 1=>[(3,rv)] | _=>[])⟩) [(15,3),(16,4)] [14,18] cC (by repeat (first | exact ah.nil | refine ah.cons _ _ _ rfl ?_)) (fun i _=>by dsimp only;split <;> first | exact ah.nil | exact (by repeat (first | exact ah.nil | refine ah.cons _ _ _ rfl ?_))) ?_ (by kernel_rfl) (by kernel_rfl) (by kernel_rfl) ?_ ?_
        · exact ak.refl _
        · refine ⟨?_,?_,?_,?_,?_,?_,?_,?_,?_,?_,?_,?_,?_,?_,?_,?_,?_,trivial⟩
          · (intro xx EF MF Q kk;(try refine JL.aD rfl rfl ?_);exact JL.q (OQ.aq (cs:=(aE.mk ks.l (aK q3 vs8.l) g).cs) gw iX rfl .here rfl Row.all) rfl (JL.nil (kk default nofun)))
          · (intro xx EF MF Q kk;(try refine JL.aD rfl rfl ?_);exact JL.q (OQ.move rfl) rfl (JL.nil (kk default nofun)))
          · (intro xx EF MF Q kk;(try refine JL.aD rfl rfl ?_);exact JL.q (OQ.move rfl) rfl (JL.nil (kk default nofun)))
          · (intro xx EF MF Q kk;(try refine JL.aD rfl rfl ?_);exact JL.q (OQ.move rfl) rfl (JL.nil (kk default nofun)))
          · (intro xx EF MF Q kk;(try refine JL.aD rfl rfl ?_);exact JL.q (OQ.move rfl) rfl (JL.nil (kk default nofun)))
          · (intro xx EF MF Q kk;(try refine JL.aD rfl rfl ?_);exact JL.q (OQ.bg rfl rfl) rfl (JL.nil (kk default nofun)))
          · (intro xx EF MF Q kk;(try refine JL.aD rfl rfl ?_);exact JL.q (OQ.move rfl) rfl (JL.nil (kk default nofun)))
          · (intro xx EF MF Q kk;exact JL.bO rfl rfl rfl rfl (JL.nil (kk default nofun)))
          · (intro xx EF MF Q kk;exact JL.bO rfl rfl rfl rfl (JL.nil (kk default nofun)))
          · (intro xx EF MF Q kk;(try refine JL.aD rfl rfl ?_);exact JL.q (OQ.aW rfl rfl) rfl (JL.nil (kk default nofun)))
          · (intro xx EF MF Q kk;(try refine JL.aD rfl rfl ?_);exact JL.q (OQ.move rfl) rfl (JL.nil (kk default nofun)))
          · (intro xx EF MF Q kk;exact JL.bO rfl rfl rfl rfl (JL.nil (kk default nofun)))
          · (intro xx EF MF Q kk;exact JL.bO rfl rfl rfl rfl (JL.nil (kk default nofun)))
          · (intro xx EF MF Q kk;(try refine JL.aD rfl rfl ?_);exact JL.q (OQ.aW rfl rfl) rfl (JL.nil (kk default nofun)))
          · (intro xx EF MF Q kk;exact JL.ai (cs:=(aE.mk ks.l (aK q3 vs8.l) g).cs) iX rfl rfl rfl (aE.one _) .here rfl (JL.nil (kk default nofun)))
          · (intro xx EF MF Q kk;(try refine JL.aD rfl rfl ?_);exact JL.q (OQ.assign rfl) rfl (JL.nil (kk default nofun)))
          · (intro xx EF MF Q kk;(try refine JL.aD rfl rfl ?_);exact JL.q (OQ.assign rfl) rfl (JL.nil (kk default nofun)))
        · intro xx hx
          show JE _ _ _ _ _ [(3,rv),(4,.bool false),(2,Pt b2 0),(5,U8 c),(7,.bool true),(9,.bool false)] ([⟨b2,Row 67 (aE.mk ks.l (aK q3 vs8.l) g).cs,true⟩]++(af 5 q3 (vs8.l.map U8)++[]))
          clear hx xx vs Ms
          refine JE.next ?_
          exact JC.ret (JE.j9 rfl (RV.aL (cs:=(aE.mk ks.l (aK q3 vs8.l) g).cs) gw iX rfl .here rfl Row.all) (RV.tmp rfl) (RV.tmp rfl) fun w' hw=>⟨⟨_,hfin⟩,by rw [← hRV];rfl,(hw.weak (.drop _ _ _ (an _ _)))⟩)
      · cases c5
        · skip
          let vs : Nat→Unit→Value:=fun j y=>match j with
            | 0=>.agg (aE.mk ks.l (aK q3 vs8.l) g).cs.toArray
            | 1=>rv
            | 2=>.bool true
            | 3=>.bool true
            | 4=>.bool true
            | 5=>.bool true
            | 6=>.bool true
            | 7=>U8 c
            | 8=>.bool false
            | 9=>.bool false
            | 10=>.bool false
            | 11=>undef
            | 12=>undef
            | 13=>.bool false
            | 15=>rv
            | 16=>.bool false
            | _=>N 0
          let Ms : Nat→Unit→List aj:=fun j y=>match j with
            | 14=>[⟨b2,Row 67 (aE.mk ks.l (aK q3 vs8.l) g).cs,true⟩]
            | 17=>[⟨b2,Row 67 (aE.mk ks.l (aK q3 vs8.l) g).cs,true⟩]
            | 18=>af 5 q3 (vs8.l.map U8)
            | _=>[]
          refine JC.oJ (g:=⟨[(2,Pt b2 0),(5,U8 c),(7,.bool true),(9,.bool true)],19,vs,Ms,(fun j=>match j with | 3=>[(2,35)] | 4=>[(3,36)] | 5=>[(3,36),(4,37)] | 6=>[(5,38)] | 7=>[(6,39)] | 8=>[(7,40),(6,39)] | 9=>[(6,39),(8,41)] | 10=>[(9,42)] | 11=>[(10,43)] | 12=>[(11,44),(10,43)] | 13=>[(10,43),(12,45)] | 14=>[(0,33)] | 15=>[(1,34)] | 16=>[(13,46)] | _=>[]),(fun j=>match j with | 0=>[17] | 14=>[17] | _=>[]),(fun j=>match j with | 14=>[17] | _=>[]),(fun j=>match j with | _=>none),(fun j=>match j with | 1=>[(3,rv)] | _=>[])⟩) [(15,3),(16,4)] [14,18] cC (by repeat (first | exact ah.nil | refine ah.cons _ _ _ rfl ?_)) (fun i _=>by dsimp only;split <;> first | exact ah.nil | exact (by repeat (first | exact ah.nil | refine ah.cons _ _ _ rfl ?_))) ?_ (by kernel_rfl) (by kernel_rfl) (by kernel_rfl) ?_ ?_
          · exact ak.refl _
          · refine ⟨?_,?_,?_,?_,?_,?_,?_,?_,?_,?_,?_,?_,?_,?_,?_,?_,?_,trivial⟩
            · (intro xx EF MF Q kk;(try refine JL.aD rfl rfl ?_);exact JL.q (OQ.aq (cs:=(aE.mk ks.l (aK q3 vs8.l) g).cs) gw iX rfl .here rfl Row.all) rfl (JL.nil (kk default nofun)))
            · (intro xx EF MF Q kk;(try refine JL.aD rfl rfl ?_);exact JL.q (OQ.move rfl) rfl (JL.nil (kk default nofun)))
            · (intro xx EF MF Q kk;(try refine JL.aD rfl rfl ?_);exact JL.q (OQ.move rfl) rfl (JL.nil (kk default nofun)))
            · (intro xx EF MF Q kk;(try refine JL.aD rfl rfl ?_);exact JL.q (OQ.move rfl) rfl (JL.nil (kk default nofun)))
            · (intro xx EF MF Q kk;(try refine JL.aD rfl rfl ?_);exact JL.q (OQ.move rfl) rfl (JL.nil (kk default nofun)))
            · (intro xx EF MF Q kk;(try refine JL.aD rfl rfl ?_);exact JL.q (OQ.bg rfl rfl) rfl (JL.nil (kk default nofun)))
            · (intro xx EF MF Q kk;(try refine JL.aD rfl rfl ?_);exact JL.q (OQ.move rfl) rfl (JL.nil (kk default nofun)))
            · (intro xx EF MF Q kk;(try refine JL.aD rfl rfl ?_);exact JL.q (OQ.move rfl) rfl (JL.nil (kk default nofun)))
            · (intro xx EF MF Q kk;(try refine JL.aD rfl rfl ?_);exact JL.q (OQ.qv (a:=(c.toNat : Int)) (b:=1) rfl rfl g5) rfl (JL.nil (kk default nofun)))
            · (intro xx EF MF Q kk;(try refine JL.aD rfl rfl ?_);exact JL.q (OQ.bg rfl rfl) rfl (JL.nil (kk default nofun)))
            · (intro xx EF MF Q kk;(try refine JL.aD rfl rfl ?_);exact JL.q (OQ.move rfl) rfl (JL.nil (kk default nofun)))
            · (intro xx EF MF Q kk;exact JL.bO rfl rfl rfl rfl (JL.nil (kk default nofun)))
            · (intro xx EF MF Q kk;exact JL.bO rfl rfl rfl rfl (JL.nil (kk default nofun)))
            · (intro xx EF MF Q kk;(try refine JL.aD rfl rfl ?_);exact JL.q (OQ.aW rfl rfl) rfl (JL.nil (kk default nofun)))
            · (intro xx EF MF Q kk;exact JL.ai (cs:=(aE.mk ks.l (aK q3 vs8.l) g).cs) iX rfl rfl rfl (aE.one _) .here rfl (JL.nil (kk default nofun)))
            · (intro xx EF MF Q kk;(try refine JL.aD rfl rfl ?_);exact JL.q (OQ.assign rfl) rfl (JL.nil (kk default nofun)))
            · (intro xx EF MF Q kk;(try refine JL.aD rfl rfl ?_);exact JL.q (OQ.assign rfl) rfl (JL.nil (kk default nofun)))
          · intro xx hx
            show JE _ _ _ _ _ [(3,rv),(4,.bool false),(2,Pt b2 0),(5,U8 c),(7,.bool true),(9,.bool true)] ([⟨b2,Row 67 (aE.mk ks.l (aK q3 vs8.l) g).cs,true⟩]++(af 5 q3 (vs8.l.map U8)++[]))
            clear hx xx vs Ms
            refine JE.next ?_
            exact JC.ret (JE.j9 rfl (RV.aL (cs:=(aE.mk ks.l (aK q3 vs8.l) g).cs) gw iX rfl .here rfl Row.all) (RV.tmp rfl) (RV.tmp rfl) fun w' hw=>⟨⟨_,hfin⟩,by rw [← hRV];rfl,(hw.weak (.drop _ _ _ (an _ _)))⟩)
        · skip
          let vs : Nat→Unit→Value:=fun j y=>match j with
            | 0=>.agg (aE.mk ks.l (aK q3 vs8.l) g).cs.toArray
            | 1=>rv
            | 2=>.bool true
            | 3=>.bool true
            | 4=>.bool true
            | 5=>.bool true
            | 6=>.bool true
            | 7=>U8 c
            | 8=>.bool true
            | 9=>.bool true
            | 10=>.bool true
            | 11=>.agg (aE.mk ks.l (aK q3 vs8.l) g).cs.toArray
            | 12=>.bool A0
            | 13=>.bool A0
            | 15=>rv
            | 16=>.bool A0
            | _=>N 0
          let Ms : Nat→Unit→List aj:=fun j y=>match j with
            | 14=>[⟨b2,Row 67 (aE.mk ks.l (aK q3 vs8.l) g).cs,true⟩]
            | 17=>[⟨b2,Row 67 (aE.mk ks.l (aK q3 vs8.l) g).cs,true⟩]
            | 18=>af 5 q3 (vs8.l.map U8)
            | _=>[]
          refine JC.oJ (g:=⟨[(2,Pt b2 0),(5,U8 c),(7,.bool true),(9,.bool true)],19,vs,Ms,(fun j=>match j with | 3=>[(2,35)] | 4=>[(3,36)] | 5=>[(3,36),(4,37)] | 6=>[(5,38)] | 7=>[(6,39)] | 8=>[(7,40),(6,39)] | 9=>[(6,39),(8,41)] | 10=>[(9,42)] | 11=>[(10,43)] | 12=>[(11,44),(10,43)] | 13=>[(10,43),(12,45)] | 14=>[(0,33)] | 15=>[(1,34)] | 16=>[(13,46)] | _=>[]),(fun j=>match j with | 0=>[17] | 11=>[17] | 14=>[17] | _=>[]),(fun j=>match j with | 14=>[17] | _=>[]),(fun j=>match j with | _=>none),(fun j=>match j with | 1=>[(3,rv)] | _=>[])⟩) [(15,3),(16,4)] [14,18] cC (by repeat (first | exact ah.nil | refine ah.cons _ _ _ rfl ?_)) (fun i _=>by dsimp only;split <;> first | exact ah.nil | exact (by repeat (first | exact ah.nil | refine ah.cons _ _ _ rfl ?_))) ?_ (by kernel_rfl) (by kernel_rfl) (by kernel_rfl) ?_ ?_
          · exact ak.refl _
          · refine ⟨?_,?_,?_,?_,?_,?_,?_,?_,?_,?_,?_,?_,?_,?_,?_,?_,?_,trivial⟩
            · (intro xx EF MF Q kk;(try refine JL.aD rfl rfl ?_);exact JL.q (OQ.aq (cs:=(aE.mk ks.l (aK q3 vs8.l) g).cs) gw iX rfl .here rfl Row.all) rfl (JL.nil (kk default nofun)))
            · (intro xx EF MF Q kk;(try refine JL.aD rfl rfl ?_);exact JL.q (OQ.move rfl) rfl (JL.nil (kk default nofun)))
            · (intro xx EF MF Q kk;(try refine JL.aD rfl rfl ?_);exact JL.q (OQ.move rfl) rfl (JL.nil (kk default nofun)))
            · (intro xx EF MF Q kk;(try refine JL.aD rfl rfl ?_);exact JL.q (OQ.move rfl) rfl (JL.nil (kk default nofun)))
            · (intro xx EF MF Q kk;(try refine JL.aD rfl rfl ?_);exact JL.q (OQ.move rfl) rfl (JL.nil (kk default nofun)))
            · (intro xx EF MF Q kk;(try refine JL.aD rfl rfl ?_);exact JL.q (OQ.bg rfl rfl) rfl (JL.nil (kk default nofun)))
            · (intro xx EF MF Q kk;(try refine JL.aD rfl rfl ?_);exact JL.q (OQ.move rfl) rfl (JL.nil (kk default nofun)))
            · (intro xx EF MF Q kk;(try refine JL.aD rfl rfl ?_);exact JL.q (OQ.move rfl) rfl (JL.nil (kk default nofun)))
            · (intro xx EF MF Q kk;(try refine JL.aD rfl rfl ?_);exact JL.q (OQ.qv (a:=(c.toNat : Int)) (b:=1) rfl rfl g5) rfl (JL.nil (kk default nofun)))
            · (intro xx EF MF Q kk;(try refine JL.aD rfl rfl ?_);exact JL.q (OQ.bg rfl rfl) rfl (JL.nil (kk default nofun)))
            · (intro xx EF MF Q kk;(try refine JL.aD rfl rfl ?_);exact JL.q (OQ.move rfl) rfl (JL.nil (kk default nofun)))
            · (intro xx EF MF Q kk;(try refine JL.aD rfl rfl ?_);exact JL.q (OQ.aq (cs:=(aE.mk ks.l (aK q3 vs8.l) g).cs) gw iX rfl .here rfl Row.all) rfl (JL.nil (kk default nofun)))
            · (intro xx EF MF Q kk;(try refine JL.aD rfl rfl ?_);exact JL.q (OQ.aB (vs:=[.agg (aE.mk ks.l (aK q3 vs8.l) g).cs.toArray]) iq rfl (fun w' _=>cM w')) rfl (JL.nil (kk default nofun)))
            · (intro xx EF MF Q kk;(try refine JL.aD rfl rfl ?_);exact JL.q (OQ.bg rfl rfl) rfl (JL.nil (kk default nofun)))
            · (intro xx EF MF Q kk;exact JL.ai (cs:=(aE.mk ks.l (aK q3 vs8.l) g).cs) iX rfl rfl rfl (aE.one _) .here rfl (JL.nil (kk default nofun)))
            · (intro xx EF MF Q kk;(try refine JL.aD rfl rfl ?_);exact JL.q (OQ.assign rfl) rfl (JL.nil (kk default nofun)))
            · (intro xx EF MF Q kk;(try refine JL.aD rfl rfl ?_);exact JL.q (OQ.assign rfl) rfl (JL.nil (kk default nofun)))
          · intro xx hx
            show JE _ _ _ _ _ [(3,rv),(4,.bool A0),(2,Pt b2 0),(5,U8 c),(7,.bool true),(9,.bool true)] ([⟨b2,Row 67 (aE.mk ks.l (aK q3 vs8.l) g).cs,true⟩]++(af 5 q3 (vs8.l.map U8)++[]))
            clear hx xx vs Ms
            refine JE.next ?_
            exact JC.ret (JE.j9 rfl (RV.aL (cs:=(aE.mk ks.l (aK q3 vs8.l) g).cs) gw iX rfl .here rfl Row.all) (RV.tmp rfl) (RV.tmp rfl) fun w' hw=>⟨⟨_,hfin⟩,by rw [← hRV];rfl,(hw.weak (.drop _ _ _ (an _ _)))⟩)
end
section
set_option maxRecDepth 10000
open Sl dc dz gh
structure dU where
  ad : Option Addr
  cap : Nat
  l : List aE
def dU.v (s : dU) : Value:=.slice s.ad s.l.length s.cap
def dU.ps (s : dU) : List Pq:=s.l.map aE.p
structure dU.ok (w : World) (s : dU) : Prop where
  len : s.l.length≤s.cap
  reads : Reads w s.ad (s.l.map aE.cs).flatten
  all : ∀ p ∈ s.l,p.s.ok w
def Af : aE:=⟨[],bB,false⟩
theorem Cu (l : List aE) : ∀ c ∈ l.map aE.cs,c.length=3:=by
  intro c hc
  obtain ⟨d,_,rfl⟩:=List.mem_map.1 hc
  rfl
theorem dU.ok.at {w : World} {s : dU} (h : s.ok w) {i : Nat} (hi : i<s.l.length) : ∃ b j,s.ad=some ⟨b,j,none⟩∧b<w.heap.size∧∀ k u,((s.l.getD i Af).cs)[k]?=some u→w.cell? ⟨b,j+i * 3+k,none⟩=some u:=by
  have hl:=bH (Cu s.l)
  rw [List.length_map] at hl
  have h0 : 0<(s.l.map aE.cs).flatten.length:=by omega
  obtain ⟨b,j,e,hc⟩:=h.reads.at h0
  refine ⟨b,j,e,?_,fun k u hu=>?_⟩
  · obtain ⟨v,hv⟩ : ∃ v,(s.l.map aE.cs).flatten[0]?=some v:=⟨_,List.getElem?_eq_getElem h0⟩
    exact block_lt_of_cell (hc 0 v hv)
  · have hat:=iK (i:=i) (Cu s.l) (by rw [List.length_map];exact hi)
    have e2 : (s.l.map aE.cs).getD i []=(s.l.getD i Af).cs:=by simp [hi]
    rw [e2] at hat
    rw [← hat,List.getElem?_take] at hu
    split at hu
    · rw [List.getElem?_drop] at hu
      rw [Nat.add_assoc]
      exact hc _ u hu
    · cases hu
theorem dU.get_mem {s : dU} {i : Nat} (hi : i<s.l.length) : s.l.getD i Af ∈ s.l:=by
  rw [List.getD_eq_getElem?_getD,List.getElem?_eq_getElem hi]
  exact List.getElem_mem _
theorem dU.ok.holds {w0 w : World} {S : List Nat} {M : List aj} {s : dU} (h : s.ok w0) (hw : Holds w0 S M w) (hS : S=[]) : s.ok w:=⟨h.len,hw.reads h.reads (fun _ a _=>by rw [hS];simp),fun p hp=>(h.all p hp).holds hw hS⟩
structure iZ (s : dU) (S : List Nat) : Prop where
  a : s.l≠[]→∀ a,s.ad=some a→a.block ∉ S
  all : ∀ p ∈ s.l,ia p.s S
theorem dU.ok.iP {w0 w : World} {S : List Nat} {M : List aj} {s : dU} (h : s.ok w0) (hw : Holds w0 S M w) (ha : iZ s S) : s.ok w:=by
  refine ⟨h.len,hw.reads h.reads fun h0 a e=>ha.a (fun h1=>h0 (by rw [h1];rfl)) a e,fun p hp=>(h.all p hp).iP hw (ha.all p hp)⟩
theorem dU.Bj {s : dU} {i : Nat} (hi : i<s.l.length) : s.ps.take (i+1)=s.ps.take i++[(s.l.getD i Af).p]:=by
  unfold dU.ps
  rw [List.take_add_one]
  simp [List.getD_eq_getElem?_getD,hi]
theorem jJ : aI Tryz.prog 36:=⟨_,Tryz.func36,rfl,by kernel_rfl⟩
theorem uc (l : List Pq) (p : Pq) : aQ (l++[p])=aQ l++gi p:=by simp [aQ]
theorem yh {l : List Pq} (h : ∀ p ∈ l,p.key.length≤1000∧p.val.length≤4000000) : (aQ l).length≤l.length * 4001007:=by
  induction l with
  | nil=>simp [aQ]
  | cons p l ih=>
    have h1:=h p (by simp)
    have h2:=ih fun q hq=>h q (by simp [hq])
    have e : aQ (p::l)=gi p++aQ l:=rfl
    rw [e,List.length_append,pI,List.length_cons]
    omega
theorem wj {l : List Pq} {i : Nat} {p : Pq} (ht : l.take (i+1)=l.take i++[p]) (hp : jk p=false) : fu l=false:=by
  have hm : p ∈ l:=List.mem_of_mem_take (i:=i+1) (by rw [ht];simp)
  unfold fu
  rw [List.all_eq_false]
  exact ⟨p,hm,by rw [hp];simp⟩
set_option maxHeartbeats 16000000 in
theorem lV (s : dU) (w : World) (hs : s.ok w) (hn : s.l.length≤1000000) (hv : ∀ p ∈ s.l,p.s.l.length≤4000000) :
    Calls Tryz.prog 36 [s.v].toArray w fun e w'=>∃ q : {q : Acc // q=none→(if fu s.ps then aQ s.ps else [])=[]},e=.returned (.tuple #[av q.1 (if fu s.ps then aQ s.ps else []).length,N (if fu s.ps then 0 else 1)])∧Holds w [] (af 5 q.1 ((if fu s.ps then aQ s.ps else []).map U8)) w':=by
  refine enter (n:=21) Tryz.func36 rfl rfl rfl (Holds.start w []) ?_
  repeat (first | refine JL.q (by first|(apply OQ.len (k:=s.l.length) (ad:=s.ad) (cap:=s.cap);exact Tryz.underlying70;rfl)|(apply OQ.move;rfl)|(apply OQ.assign;rfl)) rfl ?_ | refine JC.seq ?_ | refine JC.region ?_ | refine JC.block ?_ | refine JL.nil ?_ | refine JE.next ?_)
  refine JC.loop (fun z : Nat × Acc=>[(4,av z.2 (aQ (s.ps.take z.1)).length),(7,s.v),(8,N s.l.length),(9,N z.1)]) (fun z=>af 5 z.2 ((aQ (s.ps.take z.1)).map U8)) (fun z=>s.l.length - z.1) (fun z=>z.1≤s.l.length∧fu (s.ps.take z.1)=true∧(z.2=none→aQ (s.ps.take z.1)=[])) (0,none) ⟨Nat.zero_le _,rfl,fun _=>rfl⟩ (by repeat (first | exact ah.nil | refine ah.cons _ _ _ rfl ?_)) (ak.refl _) ?_
  rintro ⟨i,q⟩ ⟨hi,hok,hq⟩
  dsimp only at hi hok hq ⊢
  repeat (first | refine JL.q (by (apply OQ.fc;rfl;rfl)) rfl ?_ | refine JC.seq ?_ | refine JC.region ?_ | refine JL.nil ?_ | refine JE.next ?_)
  refine JC.cond rfl (fun hc=>?_) (fun hc=>?_)
  · have hi' : i<s.l.length:=Nat.lt_of_not_le fun h=>by have:=of_decide_eq_true hc;omega
    clear hc
    obtain ⟨b,j,e,lb,c⟩:=hs.at hi'
    have hm:=dU.get_mem hi'
    have ht:=dU.Bj hi'
    generalize s.l.getD i Af=p at c hm ht
    have hsv : s.v=.slice (some ⟨b,j,none⟩) s.l.length s.cap:=by rw [← e];rfl
    rw [hsv]
    repeat (first | refine JL.q (by first|(apply OQ.mz (i:=i);exact Tryz.underlying70;exact iX;rfl;rfl;exact hi')|(apply OQ.e7 (cs:=p.cs);exact gw;rfl;exact iX;exact lb;exact (by simp);exact c)) rfl ?_ | refine JC.seq ?_ | refine JC.region ?_ | refine JC.block ?_ | refine JC.skip ?_ | refine JE.next ?_)
    rw [← hsv]
    refine JL.alloc AN rfl fun b6 _=>?_
    refine JL.ai (cs:=p.cs) iX rfl rfl rfl p.one .here rfl ?_
    have cM:=fun (w' : World)=>nt p w'
    cases g1 : jk p.p
    case false=>
      have ho : fu s.ps=false:=wj ht g1
      rw [ho]
      rw [g1] at cM
      repeat (first | refine JL.q (by first|(apply OQ.aq (cs:=p.cs);exact gw;exact iX;rfl;exact .here;rfl;exact Row.all)|(apply OQ.aB (vs:=[.agg p.cs.toArray]);exact iq;rfl;exact (fun w' _=>cM w'))|(apply OQ.not;rfl)) rfl ?_ | refine JC.seq ?_ | refine JC.region ?_ | refine JL.nil ?_ | refine JE.next ?_)
      refine JC.cond_true rfl rfl ?_
      repeat (first | refine JL.q (by (apply OQ.assign;rfl)) rfl ?_ | refine JC.seq ?_ | refine JC.region ?_ | refine JL.nil ?_ | refine JE.next ?_)
      refine JC.ret ?_
      repeat (first | refine JE.ax ?_ | refine JE.cy ?_)
      exact JE.cg rfl (RV.tmp rfl) (RV.tmp rfl) fun w' hw=>⟨⟨none,fun _=>rfl⟩,rfl,hw.weak (.nil _)⟩
    case true=>
      rw [g1] at cM
      have hkl:=gF g1
      have hvl:=hv p hm
      have hle:=yh (l:=s.ps.take i) (fun p hp=>by
        unfold fu at hok
        have h1:=gF (List.all_eq_true.1 hok p hp)
        obtain ⟨x,hx,rfl⟩:=List.mem_map.1 (List.mem_of_mem_take hp)
        exact ⟨h1.2.1,hv x hx⟩)
      have hll : (s.ps.take i).length≤1000000:=by rw [List.length_take];omega
      repeat (first | refine JL.q (by first|(apply OQ.aq (cs:=p.cs);exact gw;exact iX;rfl;exact .here;rfl;exact Row.all)|(apply OQ.aB (vs:=[.agg p.cs.toArray]);exact iq;rfl;exact (fun w' _=>cM w'))|(apply OQ.not;rfl)) rfl ?_ | refine JC.seq ?_ | refine JC.region ?_ | refine JL.nil ?_ | refine JE.next ?_)
      refine JC.cond_false rfl rfl ?_
      repeat (first | refine JL.q (by first|(apply OQ.aq (cs:=p.cs);exact gw;exact iX;rfl;exact .here;rfl;exact Row.all)|(apply OQ.move;rfl)) rfl ?_ | refine JC.region ?_ | refine JC.skip ?_ | refine JE.next ?_)
      refine JL.perm (M':=af 5 q ((aQ (s.ps.take i)).map U8)++[⟨b6,Row 67 p.cs,true⟩]) ?_ (by exact List.perm_append_comm (l₁:=[_]))
      refine JL.bI (ι:=Nat × Nat) (vs:=[av q (aQ (s.ps.take i)).length,.agg p.cs.toArray]) (fun r=>av (some r) (aQ (s.ps.take i)++gi p.p).length) (fun r=>af 5 (some r) ((aQ (s.ps.take i)++gi p.p).map U8)) tZ rfl rfl (aM _ _ _) (fun _=>aM _ _ _) (fun w' h0 hw'=>wg q _ p hq (by omega) g1 (by show p.s.l.length<_;omega) w' ((hs.all p hm).holds h0 rfl) (kY h0 (aM _ _ _) (hs.all p hm)) hw') fun r=>?_
      rw [← uc,← ht]
      repeat (first | refine JL.q (by first|(apply OQ.move;rfl)|(apply OQ.assign;rfl)|(apply OQ.addN;rfl;rfl;exact (by (try simp only []);omega))) rfl ?_ | refine JC.region ?_ | refine JL.nil ?_ | refine JE.next ?_ | refine JE.au ?_)
      refine JE.again (i:=(i,q)) (i+1,some r) ⟨hi',?_,nofun⟩ (by dsimp only;omega) (by repeat (first | exact ah.nil | refine ah.cons _ _ _ rfl ?_)) (an _ _)
      rw [ht]
      unfold fu at hok ⊢
      rw [List.all_append,hok]
      simp [g1]
  · have hi' : i=s.l.length:=by have:=of_decide_eq_false hc;omega
    have hf : s.ps.take i=s.ps:=List.take_of_length_le (by unfold dU.ps;rw [List.length_map];omega)
    rw [hf] at hok hq ⊢
    rw [hok]
    repeat (first | refine JL.q (by first|(apply OQ.move;rfl)|(apply OQ.assign;rfl)) rfl ?_ | refine JC.seq ?_ | refine JC.region ?_ | refine JC.exit ?_ | refine JL.nil ?_ | refine JE.next ?_ | refine JE.aH ?_ | refine JE.aX ?_)
    exact JC.ret (JE.cg rfl (RV.tmp rfl) (RV.tmp rfl) fun w' hw=>⟨⟨q,hq⟩,rfl,hw⟩)
structure Gp where
  q : Acc
  ps : List aE
  hq : q=none→ps=[]
  h0 : ∀ p ∈ ps,p.s.ad=none→p.s.l=[]
def Gp.v (z : Gp) : Value:=av z.q z.ps.length
def Gp.l (z : Gp) : List Pq:=z.ps.map aE.p
def Gp.E (z : Gp) : List aj:=cD 67 3 z.q (z.ps.map aE.cs)++aC (z.ps.map aE.s)
theorem Gp.wr (z : Gp) : ∀ e ∈ z.E,e.wr=true:=by
  intro e he
  rcases List.mem_append.1 he with h | h
  · exact kq _ _ _ _ e h
  · exact iO _ e h
def Gp.s (z : Gp) : dU:=match z.q with
  | none=>⟨none,0,[]⟩
  | some p=>⟨some ⟨p.1,0,none⟩,p.2,z.ps⟩
theorem Gp.qN (z : Gp) : z.s.v=z.v:=by
  obtain ⟨q,ps,hq,h0⟩:=z
  cases q with
  | none=>rfl
  | some p=>rfl
theorem Gp.zq (z : Gp) : z.s.l=z.ps:=by
  obtain ⟨q,ps,hq,h0⟩:=z
  cases q with
  | none=>exact (hq rfl).symm
  | some p=>rfl
theorem Gp.Ag (z : Gp) : z.s.ps=z.l:=by unfold dU.ps Gp.l;rw [z.zq]
theorem Gp.ok {z : Gp} {w0 w : World} {S : List Nat} {A M : List aj} (h : Holds w0 S (A++(z.E++M)) w) : z.s.ok w:=by
  obtain ⟨q,ps,hq,h0⟩:=z
  cases q with
  | none=>exact ⟨Nat.le_refl _,Reads.nil _ _,nofun⟩
  | some p=>
    obtain ⟨o,ho,hA⟩:=h.get (b:=p.1) (A:=Sl.Own 67 3 (ps.map aE.cs).length p.2 (ps.map aE.cs).flatten) (wr:=true) (aZ (N:=A) .here)
    have hc:=hA
    obtain ⟨sp,_,_,_,h4⟩:=hc
    rw [List.length_map] at h4
    refine ⟨h4,Reads.block ho (Sl.Own.cells o hA),fun y hy=>?_⟩
    have hf : Holds w0 S ((A++cD 67 3 (some p) (ps.map aE.cs))++aC (ps.map aE.s)) w:=by
      have:=h.weak (M':=A++(cD 67 3 (some p) (ps.map aE.cs)++aC (ps.map aE.s))) (dM (ak.refl _) (by
        show ak _ ((cD 67 3 (some p) (ps.map aE.cs)++aC (ps.map aE.s))++M)
        exact an _ _))
      rwa [← List.append_assoc] at this
    exact ko hf (fun x hx hn=>by
      obtain ⟨u,hu,rfl⟩:=List.mem_map.1 hx
      exact h0 u hu hn) y.s (List.mem_map_of_mem hy)
def Cv : Gp:=⟨none,[],fun _=>rfl,nofun⟩
theorem jK : aI Tryz.prog 37:=⟨_,Tryz.func37,rfl,by kernel_rfl⟩
abbrev yj (o : Option (List Pq)):={z : Gp // z.l=o.getD []}
def q4 (o : Option (List Pq)) (z : Gp) : Value:=.tuple #[z.v,N (if o.isSome then 0 else 3)]
theorem Ah (bl b5 : aj) (A C F : List aj) : (bl::(b5::(A++(C++F)))).Perm (bl::(C++((F++A)++[b5]))):=by
  refine List.Perm.cons _ ?_
  rw [show C++((F++A)++[b5])=(C++F++A)++[b5] by simp]
  refine List.Perm.trans ?_ (List.perm_append_singleton _ _).symm
  refine List.Perm.cons _ ?_
  rw [show C++F++A=(C++F)++A by simp]
  exact List.perm_append_comm
set_option maxHeartbeats 16000000 in
theorem lW (s : az) (w : World) (hs : s.ok w) (hl : s.l.length≤4294967296) :
    Calls Tryz.prog 37 [s.v].toArray w fun e w'=>∃ z : yj (dec s.l),e=.returned (q4 (dec s.l) z.1)∧Holds w [] z.1.E w':=by
  refine enter (n:=25) Tryz.func37 rfl rfl rfl (Holds.start w []) ?_
  repeat (first | refine JL.q (by (apply OQ.assign;rfl)) rfl ?_ | refine JC.seq ?_ | refine JC.region ?_ | refine JC.block ?_ | refine JL.nil ?_ | refine JE.next ?_)
  refine JC.loop (fun z : az × Gp=>[(0,z.1.v),(4,z.2.v)]) (fun z=>z.2.E) (fun z=>z.1.l.length) (fun z=>z.1.ok w∧dec s.l=(dec z.1.l).map (z.2.l++·)∧z.2.ps.length+z.1.l.length≤s.l.length) (s,Cv) ⟨hs,by show _=(dec s.l).map ([]++·);cases dec s.l <;> simp,by show 0+s.l.length≤s.l.length;omega⟩ (by repeat (first | exact ah.nil | refine ah.cons _ _ _ rfl ?_)) (.nil _) ?_
  rintro ⟨r,q,ps,hq,h0⟩ ⟨hr,hd,hn⟩
  dsimp only [Gp.v,Gp.l] at hr hd hn ⊢
  cases g1 : decide ((0 : Int)<(r.l.length : Int))
  case false=>
    have he : r.l=[]:=List.length_eq_zero_iff.1 (by have:=of_decide_eq_false g1;omega)
    rw [he,sG] at hd
    rw [hd]
    repeat (first | refine JL.q (by first|(apply OQ.len (k:=r.l.length) (ad:=r.ad) (cap:=r.cap);exact Tryz.underlying24;rfl)|(apply OQ.cz (b:=0);rfl;rfl;exact g1)|(apply OQ.move;rfl)) rfl ?_ | refine JC.seq ?_ | refine JC.region ?_ | refine JL.nil ?_ | refine JE.next ?_)
    refine JC.cond_false rfl rfl ?_
    repeat (first | refine JL.q (by first|(apply OQ.move;rfl)|(apply OQ.assign;rfl)) rfl ?_ | refine JC.seq ?_ | refine JC.region ?_ | refine JC.exit ?_ | refine JL.nil ?_ | refine JE.next ?_ | refine JE.aH ?_ | refine JE.aX ?_)
    exact JC.ret (JE.cg rfl (RV.tmp rfl) (RV.tmp rfl) fun w' hw=>⟨⟨⟨q,ps,hq,h0⟩,by show ps.map aE.p=(some (ps.map aE.p++[])).getD [];simp⟩,rfl,hw⟩)
  have hne : r.l≠[]:=fun e=>by rw [e] at g1;simp at g1
  rw [lN hne] at hd
  repeat (first | refine JL.q (by first|(apply OQ.len (k:=r.l.length) (ad:=r.ad) (cap:=r.cap);exact Tryz.underlying24;rfl)|(apply OQ.cz (b:=0);rfl;rfl;exact g1)|(apply OQ.move;rfl)) rfl ?_ | refine JC.seq ?_ | refine JC.region ?_ | refine JL.nil ?_ | refine JE.next ?_)
  refine JC.cond_true rfl rfl ?_
  repeat (first | refine JL.q (by (apply OQ.move;rfl)) rfl ?_ | refine JC.seq ?_ | refine JC.region ?_ | refine JC.block ?_ | refine JC.skip ?_ | refine JE.next ?_)
  refine JL.bq (ι:={z : Fz // z.ok r}) (vs:=[r.v]) (fun z=>z.1.V) (fun z=>af 5 z.1.q (z.1.v.map U8)) ua rfl rfl (fun _=>aM _ _ _) (fun w' hw'=>wh r w' (hr.holds hw' rfl) hne (by omega)) fun z=>?_
  obtain ⟨⟨key,q1,v,g,r2,there⟩,hz⟩:=z
  have hz1:=hz.q;have hz2:=hz.t;have hz3:=hz.r
  dsimp only at hz1 hz2 hz3 ⊢
  dsimp only [Fz.V]
  repeat (refine JL.q (by first|(apply OQ.extract;rfl;rfl)|(apply OQ.move;rfl)) rfl ?_)
  refine JL.alloc AN rfl fun b5 _=>?_
  refine JL.ai (cs:=(aE.mk key (aK q1 v) g).cs) iX rfl rfl rfl (aE.one _) .here rfl ?_
  have hcp : (aK q1 v).l=v:=jx hz1
  cases there
  case false=>
    rw [if_neg (by simp)] at hz2
    rw [hz2] at hd
    rw [show dec s.l=none from hd]
    repeat (first | refine JL.q (by first|(apply OQ.not;rfl)|(apply OQ.move;rfl)|(apply OQ.assign;rfl)) rfl ?_ | refine JC.seq ?_ | refine JC.region ?_ | refine JL.nil ?_ | refine JE.next ?_)
    refine JC.cond_true rfl rfl ?_
    repeat (first | refine JL.q (by (apply OQ.assign;rfl)) rfl ?_ | refine JC.seq ?_ | refine JC.region ?_ | refine JL.nil ?_ | refine JE.next ?_)
    refine JC.ret ?_
    repeat (first | refine JE.ax ?_ | refine JE.cy ?_)
    exact JE.cg rfl (RV.tmp rfl) (RV.tmp rfl) fun w' hw=>⟨⟨Cv,rfl⟩,rfl,hw.weak (.nil _)⟩
  rw [if_pos rfl] at hz2
  rw [hz2] at hd
  dsimp only at hd
  have hsz:=(gE hz2).2
  dsimp only at hsz
  have hr2:=hz3 rfl w hr
  have hq0 : q=none→ps.map aE.cs=[]:=fun e=>by rw [hq e];rfl
  have hm : (ps.map aE.cs).length=ps.length:=List.length_map _
  repeat (first | refine JL.q (by first|(apply OQ.not;rfl)|(apply OQ.move;rfl)|(apply OQ.assign;rfl)) rfl ?_ | refine JC.seq ?_ | refine JC.region ?_ | refine JL.nil ?_ | refine JE.next ?_)
  refine JC.cond_false rfl rfl ?_
  repeat (first | refine JL.q (by first|(apply OQ.aq (cs:=(aE.mk key (aK q1 v) g).cs);exact gw;exact iX;rfl;exact .here;rfl;exact Row.all)|(apply OQ.move;rfl)) rfl ?_ | refine JC.seq ?_ | refine JC.region ?_ | refine JC.skip ?_ | refine JE.next ?_)
  refine JL.s8 (cs:=(aE.mk key (aK q1 v) g).cs) Tryz.underlying70 zm rfl (by decide) (by decide) rfl rfl rfl fun bl _=>?_
  refine JL.perm (M':=⟨bl,Row 67 (aE.mk key (aK q1 v) g).cs,true⟩::(cD 67 3 q (ps.map aE.cs)++((aC (ps.map aE.s)++af 5 q1 (v.map U8))++[⟨b5,Row 67 (aE.mk key (aK q1 v) g).cs,true⟩]))) ?_ (Ah _ _ _ _ _)
  refine JL.iJ (c:=(aE.mk key (aK q1 v) g).cs) (L:=ps.map aE.cs) q Tryz.underlying70 zm hq0 (by rw [hm];rfl) rfl rfl (fun u hu=>List.all_eq_true.1 (aE.one _) u hu) rfl (by decide) (by rw [hm];omega) (by rw [hm];omega) rfl fun b' cap'=>?_
  have eM : ps.map aE.cs++[(aE.mk key (aK q1 v) g).cs]=(ps++[aE.mk key (aK q1 v) g]).map aE.cs:=by rw [List.map_append,List.map_singleton]
  rw [eM,List.length_map]
  repeat (first | refine JL.q (by first|(apply OQ.move;rfl)|(apply OQ.assign;rfl)) rfl ?_ | refine JC.region ?_ | refine JL.nil ?_ | refine JE.next ?_ | refine JE.au ?_)
  refine JE.again (i:=(r,⟨q,ps,hq,h0⟩)) (r2,⟨some (b',cap'),ps++[aE.mk key (aK q1 v) g],nofun,fun p hp hn=>?_⟩) ⟨hr2,?_,?_⟩ (by dsimp only;omega) (by repeat (first | exact ah.nil | refine ah.cons _ _ _ rfl ?_)) ?_
  · rcases List.mem_append.1 hp with hp | hp
    · exact h0 p hp hn
    · rw [List.mem_singleton.1 hp] at hn ⊢
      exact s9 hn
  · dsimp only [Gp.l]
    rw [hd,List.map_append,List.map_singleton]
    have : (aE.mk key (aK q1 v) g).p=⟨key,v,g⟩:=by show Pq.mk _ _ _=_;rw [hcp]
    rw [this]
    cases dec r2.l with
    | none=>rfl
    | some l=>simp
  · dsimp only
    rw [List.length_append,List.length_singleton]
    omega
  · dsimp only [Gp.E]
    refine dM (ak.refl _) ?_
    rw [List.map_append,List.map_singleton]
    have:=dM (mS (e:=5) (ps.map aE.s) q1 v) (.nil [⟨b5,Row 67 (aE.mk key (aK q1 v) g).cs,true⟩])
    rwa [List.append_nil] at this
end
section
set_option maxRecDepth 10000
open Sl dc dz gh
abbrev MV:=List (ME az)
def wk (z : MV × Nat) (p : aE) : MV × Nat:=if p.gone then (gp p.key z.1,z.2) else (fA p.key p.s z.2 z.1,qX p.key z.1 z.2)
def cw (z : MV × Nat) (l : List aE) : MV × Nat:=l.foldl wk z
def yl (mm : MV) : VL:=mm.map fun e=>(e.key,e.val.l)
def gY (mm : MV) (vs : VL) : Prop:=(yl mm).Perm vs
theorem q6 {z : MV × Nat} (h : WF z.1 z.2) (p : aE) : WF (wk z p).1 (wk z p).2:=by
  unfold wk
  split
  · exact h.del _
  · exact h.put _ _
theorem kE : ∀ (l : List aE) {z : MV × Nat},WF z.1 z.2→WF (cw z l).1 (cw z l).2
  | [],_,h=>h
  | p::l,_,h=>kE l (q6 h p)
theorem lX (k : Bk) (mm : MV) : yl (mm.filter fun e=>decide (e.key≠k))=(yl mm).filter fun q=>decide (q.1≠k):=by
  unfold yl
  rw [List.filter_map]
  rfl
theorem Ai {z : MV × Nat} {vs : VL} (h : WF z.1 z.2) (hs : iy vs) (hm : gY z.1 vs) (p : aE) : gY (wk z p).1 (tX vs p.p):=by
  unfold wk tX gY
  by_cases hg : p.gone=true
  · rw [if_pos hg,if_pos (show p.p.gone=true from hg),gj hs]
    show (yl (gp p.key z.1)).Perm _
    rw [jY _ _ h.keys,lX]
    exact hm.filter _
  · rw [if_neg hg,if_neg (show ¬ p.p.gone=true from hg)]
    have h1:=(jI p.key p.s z.2 z.1 h.keys).map fun q : Bk × az=>(q.1,q.2.l)
    rw [List.map_map,List.map_cons,List.map_map] at h1
    refine List.Perm.trans h1 (List.Perm.trans (List.Perm.cons _ ?_) (jF hs).symm)
    show (yl (z.1.filter fun e=>decide (e.key≠p.key))).Perm _
    rw [lX]
    exact hm.filter _
theorem kF : ∀ (l : List aE) {z : MV × Nat} {vs : VL},WF z.1 z.2→iy vs→gY z.1 vs→gY (cw z l).1 (cu vs (l.map aE.p))
  | [],_,_,_,_,h=>h
  | p::l,_,_,h,hs,hm=>kF l (q6 h p) (sH hs) (Ai h hs hm p)
theorem ym {z : MV × Nat} (h : WF z.1 z.2) (p : aE) : ∃ r,((wk z p).1.map ME.val++r).Perm (z.1.map ME.val++[p.s]):=by
  unfold wk
  split
  · obtain ⟨r,hr⟩:=((gu p.key z.1).map ME.val).exists_perm_append
    exact ⟨r++[p.s],by rw [← List.append_assoc];exact hr.symm.append_right _⟩
  · have h1:=(jI p.key p.s z.2 z.1 h.keys).map fun q : Bk × az=>q.2
    rw [List.map_map,List.map_cons,List.map_map] at h1
    obtain ⟨r,hr⟩:=((List.filter_sublist (p:=fun e : ME az=>decide (e.key≠p.key)) (l:=z.1)).map ME.val).exists_perm_append
    refine ⟨r,(h1.append_right r).trans ?_⟩
    show (p.s::((z.1.filter fun e=>decide (e.key≠p.key)).map ME.val++r)).Perm _
    exact (List.Perm.cons _ hr.symm).trans (List.perm_append_singleton _ _).symm
theorem gx : ∀ (l : List aE) {z : MV × Nat},WF z.1 z.2→∃ r,((cw z l).1.map ME.val++r).Perm (z.1.map ME.val++l.map aE.s)
  | [],_,_=>⟨[],by simp [cw]⟩
  | p::l,z,h=>by
    obtain ⟨r1,h1⟩:=ym h p
    obtain ⟨r2,h2⟩:=gx l (q6 h p)
    refine ⟨r2++r1,?_⟩
    rw [← List.append_assoc]
    refine (h2.append_right r1).trans ?_
    have e : (z.1.map ME.val++(p::l).map aE.s)=(z.1.map ME.val++[p.s])++l.map aE.s:=by simp
    rw [e,List.append_assoc]
    refine ((List.perm_append_comm (l₁:=l.map aE.s)).append_left _).trans ?_
    rw [← List.append_assoc]
    exact h1.append_right _
theorem ud (z : MV × Nat) (l : List aE) (p : aE) : cw z (l++[p])=wk (cw z l) p:=by simp [cw]
abbrev dJ (z : MV × Nat) : Obj→Prop:=MB az.v z.1 z.2
section
variable {P : Program} {n : Nat} {w0 : World} {S : List Nat} {ops : Array Oper} {Q : Exit→Act→World→Prop} {l : List Oper} {E : Env} {M M' : List aj}
variable {b : Nat} {t k e ty : TypeId} {pos : String} {aft : Array Edge} {x y : Operand} {α : Type} {f : α→Value} {es : List (ME α)} {c : Nat} {key : List Bt}
theorem JL.yo (ht : P.underlying t=some (.map k e)) (hk : P.underlying k=some .string) (hx : ev E x=some (.map (some b))) (hy : ev E y=some (Z key))
    (hu : mw M b (MB f es c) (MB f (gp key es) c) M')
    (kk : JL P n w0 S ops Q l E M') : JL P n w0 S ops Q (⟨none,.call ⟨.builtin .delete,#[x,y],#[t,k]⟩,ty,pos,aft,none⟩::l) E M:=
  ⟨fun a w ha hw=>wpList_plain rfl fun K hK=>by
    obtain ⟨o,ho,rfl⟩:=hw.get hu.has
    have hlt:=(Array.getElem?_eq_some_iff.1 ho).1
    unfold Oper.wp
    simp only [execOp,resolve,invoke,builtin,Sem.run_bind,Sem.run_pure,Result.andThen_ok,List.map_toArray,List.map_cons,List.map_nil,ha.eval hx,ha.eval hy,qZ (ty:=ty) ht hk ho]
    refine hK _ _ (kk.go _ _ (ha.iz _) (hw.write hu (o':=.map ((gp key es).map (ME.en f)).toArray c) rfl ?_ ?_ ?_ rfl rfl rfl))
    · simp [hlt]
    · simp
    · intro k hk
      simp [Array.getElem?_setIfInBounds,Ne.symm hk]⟩
end
theorem kG : aI Tryz.prog 41:=⟨_,Tryz.func41,rfl,by kernel_rfl⟩
set_option maxHeartbeats 16000000 in
theorem n6 (s : dU) (b : Nat) (mm : MV) (c : Nat) (w : World) (hs : s.ok w) (hn : s.l.length≤4294967296) (ha : iZ s [b]) (hw : Holds w [b] [⟨b,dJ (mm,c),true⟩] w) :
    Calls Tryz.prog 41 [.map (some b),s.v].toArray w fun e w'=>e=.returned (.tuple #[])∧Holds w [b] [⟨b,dJ (cw (mm,c) s.l),true⟩] w':=by
  refine enter (n:=23) Tryz.func41 rfl rfl rfl hw ?_
  repeat (first | refine JL.q (by first|(apply OQ.len (k:=s.l.length) (ad:=s.ad) (cap:=s.cap);exact Tryz.underlying70;rfl)|(apply OQ.move;rfl)) rfl ?_ | refine JC.seq ?_ | refine JC.region ?_ | refine JC.block ?_ | refine JL.nil ?_ | refine JE.next ?_)
  refine JC.loop (fun i : Nat=>[(0,.map (some b)),(6,s.v),(7,N s.l.length),(8,N i)]) (fun i=>[⟨b,dJ (cw (mm,c) (s.l.take i)),true⟩]) (fun i=>s.l.length - i) (fun i=>i≤s.l.length) 0 (Nat.zero_le _) (by repeat (first | exact ah.nil | refine ah.cons _ _ _ rfl ?_)) (ak.refl _) ?_
  intro i hi
  repeat (first | refine JL.q (by (apply OQ.fc;rfl;rfl)) rfl ?_ | refine JC.seq ?_ | refine JC.region ?_ | refine JL.nil ?_ | refine JE.next ?_)
  refine JC.cond rfl (fun hc=>?_) (fun hc=>?_)
  · have hi' : i<s.l.length:=Nat.lt_of_not_le fun h=>by have:=of_decide_eq_true hc;omega
    clear hc
    obtain ⟨bb,j,e,lb,cc⟩:=hs.at hi'
    have hm:=dU.get_mem hi'
    have ht : s.l.take (i+1)=s.l.take i++[s.l.getD i Af]:=by
      rw [List.take_add_one]
      simp [List.getD_eq_getElem?_getD,hi']
    generalize s.l.getD i Af=p at cc hm ht
    have hne : s.l≠[]:=fun h=>by rw [h] at hi';exact absurd hi' (Nat.not_lt_zero _)
    have hbb : bb ∉ [b]:=ha.a hne _ e
    have hsv : s.v=.slice (some ⟨bb,j,none⟩) s.l.length s.cap:=by rw [← e];rfl
    rw [hsv]
    repeat (first | refine JL.q (by first|(apply OQ.mz (i:=i);exact Tryz.underlying70;exact iX;rfl;rfl;exact hi')|(apply OQ.e7 (cs:=p.cs);exact gw;rfl;exact iX;exact lb;exact hbb;exact cc)) rfl ?_ | refine JC.seq ?_ | refine JC.region ?_ | refine JC.block ?_ | refine JC.skip ?_ | refine JE.next ?_)
    rw [← hsv]
    refine JL.alloc AN rfl fun b6 _=>?_
    refine JL.ai (cs:=p.cs) iX rfl rfl rfl p.one .here rfl ?_
    repeat (first | refine JL.q (by first|(apply OQ.load;exact fY;rfl;exact .here;exact (Row.cell (v:=.bool p.gone) rfl))|(apply OQ.bA;rfl;rfl;rfl;exact (by decide);rfl)) rfl ?_ | refine JC.seq ?_ | refine JC.region ?_ | refine JL.nil ?_ | refine JE.next ?_)
    have e2 : cw (mm,c) (s.l.take (i+1))=wk (cw (mm,c) (s.l.take i)) p:=by rw [ht,ud]
    unfold wk at e2
    refine JC.cond rfl (fun hc=>?_) (fun hc=>?_)
    · rw [if_pos hc] at e2
      repeat (first | refine JL.q (by first|(apply OQ.load;exact qy;rfl;exact .here;exact (Row.cell (v:=Z p.key) rfl))|(apply OQ.move;rfl)|(apply OQ.bA;rfl;rfl;rfl;exact (by decide);rfl)) rfl ?_ | refine JC.region ?_)
      refine JL.yo Tryz.underlying94 Tryz.underlying9 rfl rfl (.there .here) ?_
      repeat (first | refine JL.q (by first|(apply OQ.move;rfl)|(apply OQ.addN;rfl;rfl;exact (by (try simp only []);omega))) rfl ?_ | refine JC.region ?_ | refine JL.nil ?_ | refine JE.next ?_ | refine JE.au ?_)
      refine JE.again (i:=i) (i+1) hi' (by omega) (by repeat (first | exact ah.nil | refine ah.cons _ _ _ rfl ?_)) ?_
      show ak [⟨b,dJ (cw (mm,c) (s.l.take (i+1))),true⟩] _
      rw [e2]
      exact .drop _ _ _ (ak.refl _)
    · rw [if_neg (by rw [hc];simp)] at e2
      repeat (first | refine JL.q (by first|(apply OQ.load;exact qy;rfl;exact .here;exact (Row.cell (v:=Z p.key) rfl))|(apply OQ.load;exact pq;rfl;exact .here;exact (Row.cell (v:=p.s.v) rfl))|(apply OQ.move;rfl)|(apply OQ.bA;rfl;rfl;rfl;exact (by decide);rfl)) rfl ?_ | refine JC.region ?_)
      refine JL.Ab (f:=az.v) (v:=p.s) Tryz.underlying94 Tryz.underlying9 rfl rfl rfl (.there .here) ?_
      repeat (first | refine JL.q (by first|(apply OQ.move;rfl)|(apply OQ.addN;rfl;rfl;exact (by (try simp only []);omega))) rfl ?_ | refine JC.region ?_ | refine JL.nil ?_ | refine JE.next ?_ | refine JE.au ?_)
      refine JE.again (i:=i) (i+1) hi' (by omega) (by repeat (first | exact ah.nil | refine ah.cons _ _ _ rfl ?_)) ?_
      show ak [⟨b,dJ (cw (mm,c) (s.l.take (i+1))),true⟩] _
      rw [e2]
      exact .drop _ _ _ (ak.refl _)
  · have hi' : i=s.l.length:=by have:=of_decide_eq_false hc;omega
    rw [hi',List.take_length]
    repeat (first | refine JC.exit ?_ | refine JE.aH ?_ | refine JE.aX ?_)
    exact JE.uS rfl fun w' hw=>⟨rfl,hw⟩
section
variable {P : Program} {n : Nat} {w0 : World} {S : List Nat} {ops : Array Oper} {Q : Exit→Act→World→Prop} {l : List Oper} {E : Env} {M : List aj} {C : World→Prop}
variable {d b : Nat} {t t' k e ty : TypeId} {dst : Option Tmp} {pos : String} {aft : Array Edge} {g : Option (Nat × Bool)} {x y : Operand} {α : Type} {f : α→Value} {es : List (ME α)} {c : Nat}
theorem OQ.Aj {p : Option Nat} (hu : P.underlying t=some (.map k e)) (hx : ev E x=some (.map p)) (hy : ev E y=some (.map none)) :
    OQ P n E C ⟨dst,.binOp .eql t x y t',ty,pos,aft,g⟩ (.bool p.isNone):=
  OQ.run fun a ha w _=>by
    have h1:=ha.eval hx
    have h2:=ha.eval hy
    simp [execOp,h1,h2,eqGuard,run_eql_map_nil_sl w t k e p hu]
theorem OQ.wm (hu : P.underlying t=some (.map k e)) {v : Value} (hx : ev E x=some v) : OQ P n E C ⟨dst,.makeInterface t x,ty,pos,aft,g⟩ (.iface t v):=
  OQ.run fun a ha w _=>by
    have h1:=ha.eval hx
    have h2 : (Instr.makeInterface t v).run P w=.ok (.iface t v) w:=by simp [Instr.makeInterface,run_underlying hu,Sem.run_bind]
    simp [execOp,h1,h2]
theorem OQ.ue (hu : P.underlying t=some (.map k e)) {v : Value} {xT : TypeId} (hx : ev E x=some (.iface t v)) : OQ P n E C ⟨dst,.typeAssert x xT t false,ty,pos,aft,g⟩ v:=
  OQ.run fun a ha w _=>by
    have h1:=ha.eval hx
    simp [execOp,h1,run_typeAssert_map_sl w t xT k e v hu]
structure sK (P : Program) (f : FuncId) : Prop where
  go : ∃ fn,P.funcs[f]?=some fn∧(fn.name == "runtime.NumGoroutine")=false∧fn.body.isNone=true∧Extern.findNext fn=none∧Extern.find fn=some Extern.MapsClone.clone
theorem JL.wo {fi : FuncId} {ats : Array TypeId} {wr : Bool} (hf : sK P fi) (hx : ev E x=some (.iface t (.map (some b)))) (hM : Has M b (MB f es c) wr) (hd : Nat.blt d n=true)
    (kk : ∀ b',w0.heap.size≤b'→JL P n w0 S ops Q l ((d,.iface t (.map (some b')))::E) (⟨b',MB f es c,true⟩::M)) : JL P n w0 S ops Q (⟨some d,.call ⟨.value (.func fi),#[x],ats⟩,ty,pos,aft,none⟩::l) E M:=
  ⟨fun a w ha hw=>wpList_plain rfl fun K hK=>by
    obtain ⟨o,ho,rfl⟩:=hw.get hM
    obtain ⟨fn,h1,h2,h3,h4,h5⟩:=hf.go
    have r:=run_callFunc_extern h1 h2 h3 h4 h5 #[.iface t (.map (some b))] w
    rw [run_maps_clone_sl (P:=P) w t ho] at r
    simp only [Result.andThen] at r
    have r' : (execOp a.eval ⟨some d,.call ⟨.value (.func fi),#[x],ats⟩,ty,pos,aft,none⟩).run P w=.ok (.value (.iface t (.map (some w.heap.size)))) (w.alloc (.map (es.map (ME.en f)).toArray c)):=by
      have k1:=ha.eval hx
      rw [← r]
      simp [execOp,resolve,Sem.run_bind,Act.eval,Deferred.ofValue,invoke,k1]
      simp [Act.eval] at k1
      simp [k1]
    unfold Oper.wp
    rw [r']
    exact hK _ _ ((kk w.heap.size hw.aS.size).go _ _ (ha.put d _ hd) (hw.push (.map (es.map (ME.en f)).toArray c) rfl rfl rfl rfl rfl))⟩
end
theorem yp : sK Tryz.prog 96:=⟨_,Tryz.func96,by kernel_rfl,rfl,by kernel_rfl,by kernel_rfl⟩
theorem pP : aI Tryz.prog 78:=⟨_,Tryz.func78,rfl,by kernel_rfl⟩
set_option maxHeartbeats 16000000 in
theorem q8 (b : Nat) (z : MV × Nat) (w : World) (hb : ∃ o,w.heap[b]?=some o∧dJ z o) :
    Calls Tryz.prog 78 [.map (some b)].toArray w fun e w'=>∃ b',e=.returned (.map (some b'))∧Holds w [] [⟨b',dJ z,true⟩] w':=by
  obtain ⟨o,ho,hA⟩:=hb
  refine enter (n:=9) Tryz.func78 rfl rfl rfl (Holds.seen (S:=[]) ho hA) ?_
  repeat (first | refine JL.q (by first|(apply OQ.Aj;exact Tryz.underlying94;rfl;rfl)|(apply OQ.move;rfl)|(apply OQ.assign;rfl)) rfl ?_ | refine JC.seq ?_ | refine JC.region ?_ | refine JL.nil ?_ | refine JE.next ?_)
  refine JC.cond_false rfl rfl ?_
  repeat (first | refine JL.q (by first|(apply OQ.wm;exact Tryz.underlying94;rfl)|(apply OQ.move;rfl)) rfl ?_ | refine JC.seq ?_ | refine JC.region ?_ | refine JC.skip ?_ | refine JE.next ?_)
  refine JL.wo yp rfl .here rfl fun b' _=>?_
  repeat (first | refine JL.q (by first|(apply OQ.ue;exact Tryz.underlying94;rfl)|(apply OQ.assign;rfl)) rfl ?_ | refine JL.nil ?_ | refine JE.next ?_)
  exact JC.ret (JE.aP rfl (RV.tmp rfl) fun w' hw=>⟨b',rfl,hw.weak (an _ _)⟩)
theorem dU.ok.lt {w : World} {s : dU} (h : s.ok w) (h0 : s.l≠[]) (a : Addr) (e : s.ad=some a) : a.block<w.heap.size:=by
  have : 0<s.l.length:=List.length_pos_iff.2 h0
  obtain ⟨b,j,e',lb,_⟩:=h.at this
  rw [e,Option.some.injEq] at e'
  rw [e']
  exact lb
theorem uf {w0 w : World} {X M : List aj} {s : dU} (hw : Holds w0 [] (X++M) w) (hX : ∀ e ∈ X,e.wr=true) (hs : s.ok w0) : iZ s (keys X):=by
  refine ⟨fun h0 a ha hm=>?_,fun p hp=>kY hw hX (hs.all p hp)⟩
  obtain ⟨e,he,hb⟩:=List.mem_map.1 hm
  have h1:=hs.lt h0 a ha
  rcases (hw.all e (List.mem_append_left _ he)).2 (hX e he) with h | h
  · cases h
  · omega
theorem pQ : aI Tryz.prog 57:=⟨_,Tryz.func57,rfl,by kernel_rfl⟩
set_option maxHeartbeats 16000000 in
theorem q9 (b : Nat) (z : MV × Nat) (s : dU) (w : World) (hb : ∃ o,w.heap[b]?=some o∧dJ z o) (hs : s.ok w) (hn : s.l.length≤4294967296) :
    Calls Tryz.prog 57 [.map (some b),s.v].toArray w fun e w'=>∃ b',e=.returned (.map (some b'))∧Holds w [] [⟨b',dJ (cw z s.l),true⟩] w':=by
  obtain ⟨o,ho,hA⟩:=hb
  refine enter (n:=12) Tryz.func57 rfl rfl rfl (Holds.seen (S:=[]) ho hA) ?_
  repeat (first | refine JL.q (by first|(apply OQ.move;rfl)|(apply OQ.assign;rfl)) rfl ?_ | refine JC.seq ?_ | refine JC.region ?_ | refine JL.nil ?_ | refine JE.next ?_)
  refine JL.bq (ι:=Nat) (vs:=[.map (some b)]) (fun b'=>.map (some b')) (fun b'=>[⟨b',dJ z,true⟩]) pP rfl rfl (by simp) (fun w' hw'=>q8 b z w' (hw'.get .here)) fun b'=>?_
  repeat (first | refine JL.q (by first|(apply OQ.move;rfl)|(apply OQ.assign;rfl)) rfl ?_ | refine JC.seq ?_ | refine JC.region ?_ | refine JL.nil ?_ | refine JE.next ?_)
  refine JL.bI (ι:=Unit) (X:=[⟨b',dJ z,true⟩]) (vs:=[.map (some b'),s.v]) (fun _=>.tuple #[]) (fun _=>[⟨b',dJ (cw z s.l),true⟩]) kG rfl rfl (by simp) (by simp) (fun w' h0 hw'=>(n6 s b' z.1 z.2 w' (hs.holds h0 rfl) hn (uf h0 (by simp) hs) hw').mono fun _ _ ⟨h1,h2⟩=>⟨(),h1,h2⟩) fun _=>?_
  repeat (first | refine JL.q (by first|(apply OQ.move;rfl)|(apply OQ.assign;rfl)) rfl ?_ | refine JC.seq ?_ | refine JC.region ?_ | refine JL.nil ?_ | refine JE.next ?_)
  exact JC.ret (JE.aP rfl (RV.tmp rfl) fun w' hw=>⟨b',rfl,hw.weak (an _ _)⟩)
end
section
set_option maxRecDepth 10000
namespace gh
open dc dz
def jc (k : Bk) : List UInt8:=k.map UInt8.ofBitVec
def zu (x : List UInt8) : Bk:=x.map UInt8.toBitVec
theorem yq (k : Bk) : zu (jc k)=k:=by simp [zu,jc,Function.comp_def]
theorem yt (x : List UInt8) : jc (zu x)=x:=by simp [zu,jc,Function.comp_def]
theorem sL : ∀ (a b : Bk),ec a b=decide (jc a<jc b)
  | [],[]=>by simp [ec,jc]
  | [],_::_=>by simp [ec,jc]
  | _::_,[]=>by simp [ec,jc]
  | a::l,b::r=>by
    have ih:=sL l r
    have e1 : jc (a::l)=UInt8.ofBitVec a::jc l:=rfl
    have e2 : jc (b::r)=UInt8.ofBitVec b::jc r:=rfl
    have h1 : (UInt8.ofBitVec a<UInt8.ofBitVec b)↔a.toNat<b.toNat:=Iff.rfl
    have h2 : (UInt8.ofBitVec a=UInt8.ofBitVec b)↔a.toNat=b.toNat:=⟨fun h=>by have:=congrArg UInt8.toBitVec h;simpa using congrArg BitVec.toNat this,fun h=>by rw [BitVec.eq_of_toNat_eq h]⟩
    rw [ec,e1,e2,ih]
    by_cases c1 : a.toNat<b.toNat
    · rw [if_pos c1]
      exact (decide_eq_true (List.cons_lt_cons_iff.2 (.inl (h1.2 c1)))).symm
    · rw [if_neg c1]
      by_cases c2 : b.toNat<a.toNat
      · rw [if_pos c2]
        refine (decide_eq_false fun h=>?_).symm
        rcases List.cons_lt_cons_iff.1 h with h | h
        · exact c1 (h1.1 h)
        · have:=h2.1 h.1;omega
      · rw [if_neg c2]
        refine decide_eq_decide.2 ⟨fun h=>List.cons_lt_cons_iff.2 (.inr ⟨h2.2 (by omega),h⟩),fun h=>?_⟩
        rcases List.cons_lt_cons_iff.1 h with h | h
        · exact absurd (h1.1 h) c1
        · exact h.2
theorem Ak (a b : Bk) : decide (jc a≤jc b)=!ec b a:=by
  rw [sL,← decide_not]
  exact decide_eq_decide.2 List.not_lt.symm
def bY (ks : List Bk) : List Bk:=((ks.map jc).mergeSort fun x y=>decide (x≤y)).map zu
theorem nv (ks : List Bk) : (bY ks).map jc=(ks.map jc).mergeSort fun x y=>decide (x≤y):=by
  unfold bY
  rw [List.map_map,show jc ∘ zu=id from funext yt,List.map_id]
theorem fC (ks : List Bk) : (bY ks).Perm ks:=by
  unfold bY
  have h:=(List.mergeSort_perm (ks.map jc) fun x y=>decide (x≤y)).map zu
  rwa [List.map_map,show zu ∘ jc=id from funext yq,List.map_id] at h
theorem eR (ks : List Bk) : (bY ks).length=ks.length:=(fC ks).length_eq
theorem ir (ks : List Bk) : (bY ks).Pairwise fun a b=>ec b a=false:=by
  have tr : ∀ a b c : List UInt8,decide (a≤b)=true→decide (b≤c)=true→decide (a≤c)=true:=fun a b c h1 h2=>by simp only [decide_eq_true_eq] at *;exact List.le_trans h1 h2
  have to : ∀ a b : List UInt8,(decide (a≤b) || decide (b≤a))=true:=fun a b=>by simp only [Bool.or_eq_true,decide_eq_true_eq];exact List.le_total a b
  have h:=List.pairwise_mergeSort tr to (ks.map jc)
  rw [← nv,List.pairwise_map] at h
  exact h.imp fun {a b} h=>by rw [Ak] at h;simpa using h
theorem wq {ks ts : List Bk} (hp : ks.Perm ts) (ht : ts.Pairwise fun a b=>ec a b=true) : bY ks=ts:=by
  refine List.Perm.eq_of_pairwise (le:=fun a b=>ec b a=false) (fun a b _ _ h1 h2=>?_) (ir ks) (ht.imp fun h=>nk h) ((fC ks).trans hp)
  by_cases e : a=b
  · exact e
  · have:=gG a b e h2;rw [h1] at this;cases this
end gh
open Sl dc dz gh Go.Shelf Go.Sort
def ug : Ren:=⟨fun | 190=>70 | 125=>91 | 258=>90 | 128=>115 | 129=>116 | 302=>106 | 303=>107 | 304=>108 | 305=>109 | 306=>110 | 307=>111 | 308=>112 | 309=>113 | 310=>114 | 333=>125 | 329=>126 | 330=>127 | 334=>128 | 335=>129 | 336=>130 | 344=>133 | n=>n,
  fun | 31=>33 | 9=>9 | 3=>3 | 46=>109 | 0=>0 | 51=>117 | 53=>82 | 4=>4 | 183=>194 | 182=>193 | 131=>198 | 5=>5 | 218=>211 | 222=>215 | 228=>217 | 229=>218 | n=>n,
  fun n=>n⟩
theorem wu : Lays.n190 Tryz.prog ug:={
  mixed:=by kernel_rfl
  f125:=Tryz.func91.trans (congrArg some (by kernel_rfl))
  f128:=Tryz.func115.trans (congrArg some (by kernel_rfl))
  f129:=Tryz.func116.trans (congrArg some (by kernel_rfl))
  f190:=Tryz.func70.trans (congrArg some (by kernel_rfl))
  f258:=Tryz.func90.trans (congrArg some (by kernel_rfl))
  f302:=Tryz.func106.trans (congrArg some (by kernel_rfl))
  f303:=Tryz.func107.trans (congrArg some (by kernel_rfl))
  f304:=Tryz.func108.trans (congrArg some (by kernel_rfl))
  f305:=Tryz.func109.trans (congrArg some (by kernel_rfl))
  f306:=Tryz.func110.trans (congrArg some (by kernel_rfl))
  f307:=Tryz.func111.trans (congrArg some (by kernel_rfl))
  f308:=Tryz.func112.trans (congrArg some (by kernel_rfl))
  f309:=Tryz.func113.trans (congrArg some (by kernel_rfl))
  f310:=Tryz.func114.trans (congrArg some (by kernel_rfl))
  f329:=Tryz.func126.trans (congrArg some (by kernel_rfl))
  f330:=Tryz.func127.trans (congrArg some (by kernel_rfl))
  f333:=Tryz.func125.trans (congrArg some (by kernel_rfl))
  f334:=Tryz.func128.trans (congrArg some (by kernel_rfl))
  f335:=Tryz.func129.trans (congrArg some (by kernel_rfl))
  f336:=Tryz.func130.trans (congrArg some (by kernel_rfl))
  f344:=Tryz.func133.trans (congrArg some (by kernel_rfl))
  t0:=Tryz.underlying0
  a0:=Tryz.isAgg0
  z0:=Tryz.sizeOf0
  v0:=Tryz.zeroValue0
  t3:=Tryz.underlying3
  a3:=Tryz.isAgg3
  z3:=Tryz.sizeOf3
  v3:=Tryz.zeroValue3
  t4:=Tryz.underlying4
  a4:=Tryz.isAgg4
  z4:=Tryz.sizeOf4
  v4:=Tryz.zeroValue4
  t5:=Tryz.underlying5
  a5:=Tryz.isAgg5
  z5:=Tryz.sizeOf5
  v5:=Tryz.zeroValue5
  t9:=Tryz.underlying9
  a9:=Tryz.isAgg9
  z9:=Tryz.sizeOf9
  v9:=Tryz.zeroValue9
  t31:=Tryz.underlying33
  a31:=Tryz.isAgg33
  z31:=Tryz.sizeOf33
  v31:=Tryz.zeroValue33
  t46:=Tryz.underlying109
  a46:=Tryz.isAgg109
  z46:=Tryz.sizeOf109
  v46:=Tryz.zeroValue109
  t51:=Tryz.underlying117
  a51:=Tryz.isAgg117
  z51:=Tryz.sizeOf117
  v51:=Tryz.zeroValue117
  t53:=Tryz.underlying82
  a53:=Tryz.isAgg82
  z53:=Tryz.sizeOf82
  v53:=Tryz.zeroValue82
  t131:=Tryz.underlying198
  a131:=Tryz.isAgg198
  z131:=Tryz.sizeOf198
  v131:=Tryz.zeroValue198
  t182:=Tryz.underlying193
  a182:=Tryz.isAgg193
  z182:=Tryz.sizeOf193
  v182:=Tryz.zeroValue193
  t183:=Tryz.underlying194
  a183:=Tryz.isAgg194
  z183:=Tryz.sizeOf194
  v183:=Tryz.zeroValue194
  t218:=Tryz.underlying211
  a218:=Tryz.isAgg211
  z218:=Tryz.sizeOf211
  v218:=Tryz.zeroValue211
  t222:=Tryz.underlying215
  a222:=Tryz.isAgg215
  z222:=Tryz.sizeOf215
  v222:=Tryz.zeroValue215
  t228:=Tryz.underlying217
  a228:=Tryz.isAgg217
  z228:=Tryz.sizeOf217
  v228:=Tryz.zeroValue217
  t229:=Tryz.underlying218
  a229:=Tryz.isAgg218
  z229:=Tryz.sizeOf218
  v229:=Tryz.zeroValue218 }
theorem ri : aI Tryz.prog 70:=⟨_,Tryz.func70,rfl,by kernel_rfl⟩
theorem uh (q : Acc) (ks : List Bk) (hq : q=none→ks=[]) (hl : ks.length≤4294967296) (w : World) (hw : Sl.Holds w (keys (af 9 q (ks.map Z))) (af 9 q (ks.map Z)) w) :
    Calls Tryz.prog 70 [av q ks.length].toArray w fun e w'=>e=.returned (.tuple #[])∧Sl.Holds w (keys (af 9 q (ks.map Z))) (af 9 q ((bY ks).map Z)) w':=by
  cases q with
  | none=>
    rw [hq rfl]
    exact (Any.slices_Sort_string_none wu none 0 w).mono fun e w' ⟨h1,h2⟩=>⟨h1,by rw [h2];exact Sl.Holds.start _ _⟩
  | some p=>
    obtain ⟨g,cap⟩:=p
    obtain ⟨o,ho,sp,rfl,h1,h2,h3⟩:=hw.get (b:=g) (A:=Sl.Own 9 1 (ks.map Z).length cap (ks.map Z)) (wr:=true) .here
    have e1 : (ks.map jc).map encStr=ks.map Z:=by rw [List.map_map];rfl
    have hH : Go.Sort.Holds encStr w g 0 (ks.map jc).toArray:=holds_of_block ho (by
      rw [e1,List.length_map,List.toList_toArray]
      exact List.take_left' (List.length_map _))
    have hlt : g<w.heap.size:=(Array.getElem?_eq_some_iff.1 ho).1
    have h:=Any.slices_Sort_string wu g 0 cap (ks.map jc) w hH hlt (by rw [List.length_map];omega)
    rw [List.length_map] at h
    refine h.mono fun e w' ⟨he,n,os,hw'⟩=>⟨he,?_⟩
    rw [← nv] at hw'
    subst hw'
    have e2 : ((bY ks).map jc).map encStr=(bY ks).map Z:=by rw [List.map_map];rfl
    have hsz : ((bY ks).map Z).length=(ks.map Z).length:=by rw [List.length_map,List.length_map,eR]
    refine ⟨⟨rfl,rfl,rfl,by simp [grow,putRow,mapBlock,Sort.ahead],fun k hk hS=>?_⟩,by simp [af],fun x hx=>?_⟩
    · rw [heap_grow_old _ _ (by simpa using hk)]
      have : g≠k:=fun e=>hS (by simp [keys,af,e])
      simp [putRow,mapBlock,Sort.ahead,Array.getElem?_modify,this]
    · have hx' : x=⟨g,Sl.Own 9 1 ((bY ks).map Z).length cap ((bY ks).map Z),true⟩:=List.mem_singleton.1 hx
      subst hx'
      refine ⟨⟨_,heap_sorted _ ho,?_⟩,fun _=>.inl (by simp [keys,af])⟩
      have hk:=take_putCells (ks.map Z++sp).toArray ((bY ks).map jc) (by simp [eR])
      rw [e2,List.length_map,← List.length_map (f:=Z)] at hk
      have hcat:=List.take_append_drop ((bY ks).map Z).length (putCells encStr 0 ((bY ks).map jc).toArray (ks.map Z++sp).toArray).toList
      rw [hk] at hcat
      refine ⟨(putCells encStr 0 ((bY ks).map jc).toArray (ks.map Z++sp).toArray).toList.drop ((bY ks).map Z).length,?_,?_,by simp,by rw [hsz];exact h3⟩
      · rw [hcat,Array.toArray_toList]
      · rw [hcat]
        simp only [putCells,Array.length_toList,Array.size_mapIdx]
        simpa using h1
end
end Go.Proofs.YtdinfhchkcmncaaGreatDoor
