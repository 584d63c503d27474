/-
  Of no statement by itself: the texts RatD, RatE, RatF, RatG, LinB, RatH, SealC, SealO, RatI, RatJ, RatR, RatT, RatY, RatU in one.
  Conditions: each theorem's own.
-/
import Derived.Test.YtgkninhgcpbfnaaGreatDoorKe
import Derived.Laws.Cover3
import Derived.Laws.StructEq
set_option linter.unusedSimpArgs false
set_option linter.unusedVariables false
namespace Go.Proofs.YtgkninhgcpbfnaaGreatDoor
section
set_option maxRecDepth 10000
open Sl g5 lz dO mP
open pT (Bk)
theorem Sl.Reads.KO {w : World} {ad : Option Addr} {xs : List Value} {cap j sz : Nat} (h : Reads w ad xs) (h0 : cap=j→xs.drop (j * sz)=[]) : Reads w (if cap=j then ad else ad.map (·.add (j * sz))) (xs.drop (j * sz)):=by
  intro i v hv
  by_cases e : cap=j
  · rw [h0 e] at hv
    cases hv
  · rw [List.getElem?_drop] at hv
    obtain ⟨b,o,h1,h2⟩:=h _ v hv
    rw [if_neg e,h1]
    exact ⟨b,o+j * sz,by rw [Option.map_some,c9],by rw [Nat.add_assoc];exact h2⟩
theorem uq : aK Tryz.prog 64:=⟨_,Tryz.func64,rfl,by kernel_rfl⟩
theorem B7 {L : List (List Value)} (h : ∀ c ∈ L,c.length=65) {i j : Nat} (hij : i≤j) (hj : j≤L.length) :
    (L.flatten.take (i * 65)++L.flatten.drop (j * 65)++L.flatten.drop (i * 65+(L.length - j) * 65)).take ((i+(L.length - j)) * 65)=(L.take i++L.drop j).flatten:=by
  have h1 : (L.take i).flatten.length=i * 65:=by rw [dQ fun c hc=>h c (List.mem_of_mem_take hc),List.length_take,Nat.min_eq_left (by omega)]
  have h2 : (L.drop j).flatten.length=(L.length - j) * 65:=by rw [dQ fun c hc=>h c (List.mem_of_mem_drop hc),List.length_drop]
  rw [qV h,fM h,List.take_left' (by rw [List.length_append,h1,h2,← Nat.add_mul]),List.flatten_append]
set_option maxHeartbeats 8000000 in
theorem xJ (b cap : Nat) (l : List Kp) (i j : Nat) (hij : i<j) (hj : j≤l.length) (hl : ∀ k ∈ l,k.ok) (hs : l.length<1000000) (w : World) (h0 : ah w [b] (fU (some (b,cap)) l) w) :
    Calls Tryz.prog 64 [.slice (some ⟨b,0,none⟩) l.length cap,N i,N j].toArray w fun e w'=>e=.returned (.slice (some ⟨b,0,none⟩) (l.take i++l.drop j).length cap)∧ah w [b] (fU (some (b,cap)) (l.take i++l.drop j)) w':=by
  have hL:=fE hl
  have hLl:=dV l
  have hdc:=B7 hL (i:=i) (j:=j) (by omega) (by rw [hLl];exact hj)
  have hR : aX (l.take i++l.drop j)=(aX l).take i++(aX l).drop j:=by simp [aX,List.map_take,List.map_drop]
  have hRl : (l.take i++l.drop j).length=i+(l.length - j):=by simp only [List.length_append,List.length_take,List.length_drop];omega
  have hfl:=dQ hL
  have hone:=iA l
  have hGl : fU (some (b,cap)) (l.take i++l.drop j)=[⟨b,Sl.aE 57 65 (i+(l.length - j)) cap ((aX l).take i++(aX l).drop j).flatten,true⟩]:=by
    show [_]=_
    rw [hR,← hRl,← hR,dV]
  rw [hGl,hRl]
  have hdr:=fM hL j
  have hS : fU (some (b,cap)) l=[⟨b,Sl.aE 57 65 l.length cap (aX l).flatten,true⟩]:=by
    show [_]=_
    rw [hLl]
  rw [hS] at h0
  rw [hLl] at hfl hdc
  have hcap : l.length≤cap:=by
    obtain ⟨o,_,sp,_,_,_,h3⟩:=h0.get .here
    exact h3
  generalize (aX l).flatten=xs at *
  generalize ((aX l).take i++(aX l).drop j).flatten=ys at *
  generalize hmm : l.length=n at *
  have hne : decide ((i : Int)=(j : Int))=false:=decide_eq_false (by omega)
  refine enter (n:=33) Tryz.func64 rfl rfl rfl h0 ?_
  repeat (first | refine JL.q (by first|(apply OQ.len (k:=n) (cap:=cap) (ad:=some ⟨b,0,none⟩);exact Tryz.underlying24;rfl)|(apply OQ.Ez (lo:=i) (hi:=j) (mx:=n) (len:=n) (cap:=cap) (ad:=some ⟨b,0,none⟩);exact Tryz.underlying24;exact ta;rfl;rfl;rfl;rfl;exact (by omega);exact (by omega);exact (by omega))|(apply OQ.K1 (a:=(i : Int)) (b:=(j : Int));rfl;rfl;exact hne)|(apply OQ.move;rfl)|(apply OQ.assign;rfl)) rfl ?_ | refine JC.seq ?_ | refine JC.region ?_ | refine JL.nil ?_ | refine JE.next ?_)
  refine JC.cond_false rfl rfl ?_
  repeat (first | refine JL.q (by first|(apply OQ.len (k:=n) (cap:=cap) (ad:=some ⟨b,0,none⟩);exact Tryz.underlying24;rfl)|(apply OQ.move;rfl)|(apply OQ.assign;rfl)) rfl ?_ | refine JC.seq ?_ | refine JC.region ?_ | refine JC.skip ?_ | refine JL.nil ?_ | refine JE.next ?_)
  refine JC.tail 6 gr (by kernel_rfl) ?_
  simp only [List.take_succ_cons,List.take_zero,List.drop_succ_cons,List.drop_zero]
  repeat (first | refine JQ.q (by first|(apply OQ.to;exact (OQ.nw (ad:=some ⟨b,0,none⟩) (len:=n) (cap:=cap) (hi:=i) Tryz.underlying24 ta rfl rfl (by omega));exact wk)|(apply OQ.nv (ad:=some ⟨b,0,none⟩) (len:=n) (cap:=cap) (lo:=j);exact Tryz.underlying24;exact ta;rfl;rfl;exact hj)|(apply OQ.move;rfl)) rfl ?_ | refine JQ.bC ?_)
  refine JL.EA (k:=n) (cs:=xs.drop (j * 65)) (m:=n - j) (i:=i) (xs:=xs) (xs':=xs.take (i * 65)++xs.drop (j * 65)++xs.drop (i * 65+(n - j) * 65)) Tryz.underlying24 B3 rfl rfl .here (by rw [List.length_drop,hfl,← Nat.sub_mul]) (fun w' hw'=>?_) (fun v hv=>hone v (List.mem_of_mem_drop hv)) (by decide) (by omega) rfl rfl ?_
  · obtain ⟨o,ho,hA⟩:=hw'.get .here
    exact (Reads.block ho (Sl.aE.cells _ hA)).KO fun e=>List.drop_of_length_le (by rw [hfl];exact Nat.mul_le_mul_right _ (by omega))
  repeat (first | refine JL.q (by first|(apply OQ.len (k:=i+(n - j)) (cap:=cap) (ad:=some ⟨b,0,none⟩);exact Tryz.underlying24;rfl)|(apply OQ.oh (lo:=i+(n - j)) (hi:=n) (len:=i+(n - j)) (cap:=cap) (ad:=some ⟨b,0,none⟩);exact Tryz.underlying24;exact ta;rfl;rfl;rfl;exact (by omega);exact hcap)|(apply OQ.move;rfl)|(apply OQ.assign;rfl)) rfl ?_ | refine JC.seq ?_ | refine JC.region ?_ | refine JL.nil ?_ | refine JE.next ?_)
  refine JL.HL (k:=n) (lo:=i+(n - j)) (xs:=xs.take (i * 65)++xs.drop (j * 65)++xs.drop (i * 65+(n - j) * 65)) (M':=[⟨b,Sl.aE 57 65 (i+(n - j)) cap ys,true⟩]) Tryz.underlying24 B3 rfl (fun v hv=>List.all_eq_true.1 (qA mQ) v hv) (by decide) rfl (by omega) (by rw [hdc];exact .here) ?_
  repeat (first | refine JL.q (by first|(apply OQ.move;rfl)|(apply OQ.assign;rfl)) rfl ?_ | refine JC.seq ?_ | refine JC.region ?_ | refine JL.nil ?_ | refine JE.next ?_)
  refine JC.ret ?_
  skip
  exact JE.aQ rfl (RV.tmp rfl) fun w' hw=>⟨rfl,hw⟩
theorem xK : aK Tryz.prog 62:=⟨_,Tryz.func62,rfl,by kernel_rfl⟩
theorem ur : aK Tryz.prog 63:=⟨_,Tryz.func63,rfl,by kernel_rfl⟩
theorem pP {k : Kp} (h : k.ok) : ((dU k).drop 0).take (k.chain.map U8).length=k.chain.map U8:=by simp [dU]
theorem AO {k : Kp} (h : k.ok) : (dU k)[32]?=some (N k.num):=by simp [dU,h.c]
theorem AP {k : Kp} (h : k.ok) : ((dU k).drop 33).take (k.key.map U8).length=k.key.map U8:=by
  rw [dU,show (33 : Nat)=(k.chain.map U8).length+1 by simp [h.c],← List.drop_drop,List.drop_left,List.drop_one,List.tail_cons,List.take_of_length_le (Nat.le_refl _)]
set_option maxHeartbeats 8000000 in
theorem EC (k : Kp) (hk : k.ok) (bh : Nat) (h : Hd) (hh : h.chain.length=32) (w : World) (hw : ∃ o,w.heap[bh]?=some o∧Row 32 (hdc h) o) :
    Calls Tryz.prog 63 [.agg (dU k).toArray,Pt bh 0].toArray w fun e w'=>e=.returned (.bool (sv h k))∧Ext w w':=by
  obtain ⟨o,ho,hA⟩:=hw
  have l1 : (k.chain.map U8).length=32:=by rw [List.length_map];exact hk.c
  have l2 : (h.chain.map U8).length=32:=by rw [List.length_map];exact hh
  refine enter (n:=16) Tryz.func63 rfl rfl rfl (ah.seen (S:=[]) ho hA) ?_
  unfold sv
  obtain ⟨c2,h2⟩ : ∃ c,decide ((k.num : Int)=(h.num : Int))=c:=⟨_,rfl⟩
  have h2' : decide (k.num=h.num)=c2:=by rw [← h2];exact decide_eq_decide.2 ⟨fun e=>by rw [e],fun e=>by omega⟩
  rw [h2']
  refine JC.seq (JC.region (JL.box (r:=dU k) rfl rfl rfl fun b1 _=>?_))
  by_cases h1 : k.chain=h.chain
  · rw [decide_eq_true h1]
    repeat (first | refine JL.q (by first|(apply OQ.af (cs:=k.chain.map U8);exact aP;exact aB;rfl;exact .here;exact l1;exact (Row.cells (pP hk)))|(apply OQ.af (cs:=h.chain.map U8);exact aP;exact aB;rfl;exact (.there .here);exact l2;exact (Row.cells (eG hh)))|(apply OQ.JK (r:=k.chain) (q:=h.chain);exact Tryz.underlying23;exact Tryz.underlying5;exact kM;exact lW;rfl;rfl;exact hk.c;exact hh;exact h1)|(apply OQ.load;exact bB;rfl;exact .here;exact (Row.cell (AO hk)))|(apply OQ.load;exact bB;rfl;exact (.there .here);exact (Row.cell (j4 hh)))|(apply OQ.K1;rfl;rfl;exact h2)|(apply OQ.eP;rfl;rfl)|(apply OQ.move;rfl)|(apply OQ.assign;rfl)|(apply OQ.bM;rfl;rfl;rfl;exact (by decide);rfl)) rfl ?_ | refine JC.seq ?_ | refine JC.region ?_ | refine JL.nil ?_ | refine JE.next ?_ | refine JL.aU rfl rfl ?_)
    exact JC.ret (JE.aQ rfl (RV.tmp rfl) fun w' hw=>⟨rfl,hw.aL⟩)
  · rw [decide_eq_false h1]
    repeat (first | refine JL.q (by first|(apply OQ.af (cs:=k.chain.map U8);exact aP;exact aB;rfl;exact .here;exact l1;exact (Row.cells (pP hk)))|(apply OQ.af (cs:=h.chain.map U8);exact aP;exact aB;rfl;exact (.there .here);exact l2;exact (Row.cells (eG hh)))|(apply OQ.I6 (r:=k.chain) (q:=h.chain);exact Tryz.underlying23;exact Tryz.underlying5;exact kM;exact lW;rfl;rfl;exact hk.c;exact hh;exact h1)|(apply OQ.dK;rfl;rfl)|(apply OQ.move;rfl)|(apply OQ.assign;rfl)|(apply OQ.bM;rfl;rfl;rfl;exact (by decide);rfl)) rfl ?_ | refine JC.seq ?_ | refine JC.region ?_ | refine JL.nil ?_ | refine JE.next ?_ | refine JL.iX rfl rfl rfl rfl ?_)
    exact JC.ret (JE.aQ rfl (RV.tmp rfl) fun w' hw=>⟨rfl,hw.aL⟩)
end
section
set_option maxRecDepth 10000
open Sl g5 lz dO mP
open pT (Bk)
theorem mV.ok.at {w : World} {s : mV} (h : s.ok w) {i : Nat} (hi : i<s.l.length) : ∃ b j,s.ad=some ⟨b,j,none⟩∧b<w.heap.size∧∀ k u,(dU (s.l.getD i mQ))[k]?=some u→w.cell? ⟨b,j+i * 65+k,none⟩=some u:=by
  have hl:=um h.all
  have h0 : 0<(aX s.l).flatten.length:=by omega
  obtain ⟨b,j,e,hc⟩:=h.reads.at h0
  refine ⟨b,j,e,?_,fun k u hu=>?_⟩
  · obtain ⟨v,hv⟩ : ∃ v,(aX s.l).flatten[0]?=some v:=⟨_,List.getElem?_eq_getElem h0⟩
    exact block_lt_of_cell (hc 0 v hv)
  · have hat:=om (i:=i) (fE h.all) (by rw [dV];exact hi)
    rw [zU _ hi] at hat
    rw [← hat,List.getElem?_take] at hu
    split at hu
    · rw [List.getElem?_drop] at hu
      rw [Nat.add_assoc]
      exact hc _ u hu
    · cases hu
theorem mV.mem {s : mV} {i : Nat} (hi : i<s.l.length) : s.l.getD i mQ ∈ s.l:=by
  rw [List.getD_eq_getElem?_getD,List.getElem?_eq_getElem hi]
  exact List.getElem_mem hi
def Me : Option Nat→Int
  | none=>-1
  | some i=>(i : Int)
theorem Ge (h : Hd) : sw h []=none:=rfl
theorem ED (h : Hd) (k : Kp) (l : List Kp) : sw h (k::l)=if sv h k=true then some 0 else (sw h l).map (·+1):=by
  rw [sw,List.findIdx?_cons]
  rfl
theorem Gf {l : List Kp} {i : Nat} (h : i<l.length) : l.drop i=l.getD i mQ::l.drop (i+1):=by
  rw [List.drop_eq_getElem_cons h,List.getD_eq_getElem?_getD,List.getElem?_eq_getElem h]
  rfl
set_option maxHeartbeats 8000000 in
theorem Gg (s : mV) (bh : Nat) (h : Hd) (hh : h.chain.length=32) (w : World) (hs : s.ok w) (hw : ∃ o,w.heap[bh]?=some o∧Row 32 (hdc h) o) (hl : s.l.length<9223372036854775807) :
    Calls Tryz.prog 62 [s.v,.func (.func 63) #[] [Pt bh 0].toArray].toArray w fun e w'=>e=.returned (.int .i64 (Me (sw h s.l)))∧Ext w w':=by
  obtain ⟨o,ho,hA⟩:=hw
  have hbh:=(Array.getElem?_eq_some_iff.1 ho).1
  refine enter (n:=19) Tryz.func62 rfl rfl rfl (ah.seen (S:=[]) ho hA) ?_
  repeat (first | refine JL.q (by first|(apply OQ.len (k:=s.l.length) (ad:=s.ad) (cap:=s.cap);exact Tryz.underlying24;rfl)|(apply OQ.move;rfl)|(apply OQ.assign;rfl)) rfl ?_ | refine JC.seq ?_ | refine JC.region ?_ | refine JC.block ?_ | refine JL.nil ?_ | refine JE.next ?_)
  refine JC.loop (fun i : Nat=>[(0,s.v),(1,.func (.func 63) #[] [Pt bh 0].toArray),(7,N s.l.length),(8,N i)]) (fun _=>[⟨bh,Row 32 (hdc h),false⟩]) (fun i=>s.l.length - i) (fun i=>i≤s.l.length∧sw h s.l=(sw h (s.l.drop i)).map (·+i)) 0 ⟨Nat.zero_le _,by rw [List.drop_zero];cases sw h s.l <;> rfl⟩ (by repeat (first | exact ai.nil | refine ai.cons _ _ _ rfl ?_)) (aq.refl _) ?_
  rintro i ⟨hi,hp⟩
  repeat (first | refine JL.q (by (apply OQ.bJ;rfl;rfl)) rfl ?_ | refine JC.seq ?_ | refine JC.region ?_ | refine JL.nil ?_ | refine JE.next ?_)
  refine JC.cond rfl (fun hc=>?_) (fun hc=>?_)
  · have hi' : i<s.l.length:=of_decide_eq_true (by assumption)
    obtain ⟨ba,ja,eA,la,cA⟩:=hs.at hi'
    have hok:=hs.all _ (mV.mem hi')
    have vA : s.v=.slice (some ⟨ba,ja,none⟩) s.l.length s.cap:=by rw [← eA];rfl
    rw [Gf hi',ED] at hp
    generalize s.l.getD i mQ=c at hp cA hok
    rw [vA]
    have hl65:=ij hok
    have hcl:=fun (w' : World) (M : List aG) (hw' : ah w [] (⟨bh,Row 32 (hdc h),false⟩::M) w')=>EC c hok bh h hh w' (hw'.get .here)
    cases h1 : sv h c
    · rw [h1] at hp hcl
      repeat (first | refine JL.q (by first|(apply OQ.jS;exact Tryz.underlying24;exact ta;rfl;rfl;exact hi')|(apply OQ.cO (cs:=dU c);exact KJ;rfl;exact (hl65 ▸ ta);exact la;exact (by simp);exact cA)|(apply OQ.EB (caps:=[Pt bh 0]) (vs:=[.agg (dU c).toArray]);exact ur;rfl;rfl;exact (fun w' hw'=>hcl w' _ hw'))|(apply OQ.move;rfl)|(apply OQ.assign;rfl)) rfl ?_ | refine JC.seq ?_ | refine JC.region ?_ | refine JC.block ?_ | refine JC.skip ?_ | refine JL.nil ?_ | refine JE.next ?_)
      refine JC.cond_false rfl rfl ?_
      repeat (first | refine JL.q (by first|(apply OQ.move;rfl)|(apply OQ.aY;rfl;rfl;exact (by (try simp only []);omega))) rfl ?_ | refine JC.region ?_ | refine JC.skip ?_ | refine JL.nil ?_ | refine JE.next ?_ | refine JE.an ?_)
      rw [← vA]
      refine JE.again (i:=i) (i+1) ⟨hi',?_⟩ (by omega) (by repeat (first | exact ai.nil | refine ai.cons _ _ _ rfl ?_)) (aq.refl _)
      rw [hp,if_neg (by decide),Option.map_map]
      congr 1
      funext z
      show z+1+i=z+(i+1)
      omega
    · rw [h1] at hp hcl
      rw [if_pos rfl] at hp
      rw [hp]
      repeat (first | refine JL.q (by first|(apply OQ.jS;exact Tryz.underlying24;exact ta;rfl;rfl;exact hi')|(apply OQ.cO (cs:=dU c);exact KJ;rfl;exact (hl65 ▸ ta);exact la;exact (by simp);exact cA)|(apply OQ.EB (caps:=[Pt bh 0]) (vs:=[.agg (dU c).toArray]);exact ur;rfl;rfl;exact (fun w' hw'=>hcl w' _ hw'))|(apply OQ.move;rfl)|(apply OQ.assign;rfl)) rfl ?_ | refine JC.seq ?_ | refine JC.region ?_ | refine JC.block ?_ | refine JC.skip ?_ | refine JL.nil ?_ | refine JE.next ?_)
      refine JC.cond_true rfl rfl ?_
      repeat (first | refine JL.q (by first|(apply OQ.move;rfl)|(apply OQ.assign;rfl)) rfl ?_ | refine JC.seq ?_ | refine JC.region ?_ | refine JL.nil ?_ | refine JE.next ?_)
      refine JC.ret ?_
      repeat (first | refine JE.aH ?_ | refine JE.qv ?_)
      exact JE.aQ rfl (RV.tmp rfl) fun w' hw=>⟨by rw [show Me (Option.map (·+i) (some 0))=((i : Nat) : Int) by show ((0+i : Nat) : Int)=_;rw [Nat.zero_add]],hw.aL⟩
  · have hi' : ¬ i<s.l.length:=of_decide_eq_false (by assumption)
    rw [List.drop_eq_nil_of_le (by omega),Ge] at hp
    rw [hp]
    repeat (first | refine JL.q (by (apply OQ.assign;rfl)) rfl ?_ | refine JC.seq ?_ | refine JC.region ?_ | refine JC.exit ?_ | refine JL.nil ?_ | refine JE.next ?_ | refine JE.ax ?_ | refine JE.aA ?_)
    refine JC.ret ?_
    skip
    exact JE.aQ rfl (RV.tmp rfl) fun w' hw=>⟨rfl,hw.aL⟩
structure Jv (o : Option bA) where
  q : Acc
  s : bA
  code : Nat
  ok : s.ok
  nil : q=none→s.kept=[]
  is : (o=none∧code=12)∨(o=some s∧code=0)
theorem EE (c : Bk) (m : Nat) (hc : c.length=32) : Tryz.prog.built 57 ([0,1].zip [.agg (c.map U8).toArray,N m])=some (dU ⟨c,m,dN⟩).toArray:=by
  have h : Tryz.prog.built 57 ([0,1].zip [.agg (c.map U8).toArray,N m])=Instr.fill (fun i=>#[(0,32),(32,1),(33,32)][i]?) (dU mQ).toArray [(0,.agg (c.map U8).toArray),(1,N m)]:=by kernel_rfl
  rw [h,dy (off:=0) (sz:=32) (cs:=c.map U8) rfl rfl (by simp [hc]) (by simp [dU,mQ]),dy (off:=32) (sz:=1) (cs:=[N m]) rfl rfl rfl (by simp [dU,mQ,hc])]
  have hp:=sO (a:=c.map U8) (b:=[N 0]) (c:=dN.map U8) (j:=32) (k:=1) [N m] (by simp [hc]) rfl
  exact congrArg (fun l : List Value=>some l.toArray) hp
theorem EG {c k : Bk} {m : Nat} (hc : c.length=32) (hk : k.length=32) : (dU ⟨c,m,dN⟩).take 33++k.map U8++(dU ⟨c,m,dN⟩).drop (33+(k.map U8).length)=dU ⟨c,m,k⟩:=by
  have:=sO (a:=c.map U8++[N m]) (b:=dN.map U8) (c:=[]) (j:=33) (k:=32) (k.map U8) (by simp [hc]) rfl
  rw [List.length_map,hk]
  simpa [dU,List.append_assoc] using this
theorem AQ (s : bA) (i : Nat) : mL s (i+1)={ ee (mL s i) with kept:=(mL s i).kept++[⟨(mL s i).other,(mL s i).taken,kD (mL s i).take⟩] }:=by
  show mL s (i+1)={ ee (mL s i) with kept:=(s.kept++BZ s.other i s.taken s.take)++[⟨s.other,s.taken+i,kD (Hv i s.take)⟩] }
  unfold mL ee
  rw [sr,xE,List.append_assoc]
  rfl
theorem KP (e : aG) (A M : List aG) : ([e]++(A++[]))++M=e::(A++M):=by simp
theorem EH : aK Tryz.prog 66:=⟨_,Tryz.func66,rfl,by kernel_rfl⟩
set_option maxHeartbeats 32000000 in
theorem Gh (b : Nat) (q0 : Acc) (s0 : bA) (hs0 : s0.ok) (hq0 : q0=none→s0.kept=[]) (hk0 : s0.kept.length≤2000) (to : Nat) (hto : to≤2147483647) (ht0 : s0.taken≤2147483648) (w : World) (hT : Tb (keys (e7 b q0 s0)) w) (h0 : ah w (keys (e7 b q0 s0)) (e7 b q0 s0) w) :
    Calls Tryz.prog 66 [Pt b 0,N to].toArray w fun e w'=>∃ r : Jv (leave s0 to),e=.returned (N r.code)∧ah w (keys (e7 b q0 s0)) (e7 b r.q r.s) w':=by
  generalize keys (e7 b q0 s0)=S at h0 hT ⊢
  have htk : ∀ o,Row 26 (sec s0 (aC q0 s0.kept.length)) o→cellAt o 163=some (N s0.taken):=Row.cell (dG hs0 _)
  refine enter (n:=67) Tryz.func66 rfl rfl rfl h0 ?_
  unfold e7
  by_cases h1 : to≤s0.taken
  · repeat (first | refine JL.q (by first|(apply OQ.load;exact bB;rfl;exact .here;exact htk)|(apply OQ.yg (a:=to) (b:=s0.taken);rfl;rfl;exact h1)|(apply OQ.move;rfl)|(apply OQ.assign;rfl)|(apply OQ.cQ;rfl)|(apply OQ.bM;rfl;rfl;rfl;exact (by decide);rfl)) rfl ?_ | refine JC.seq ?_ | refine JC.region ?_ | refine JL.nil ?_ | refine JE.next ?_)
    refine JC.cond_true rfl rfl ?_
    repeat (first | refine JL.q (by (apply OQ.assign;rfl)) rfl ?_ | refine JC.seq ?_ | refine JC.region ?_ | refine JL.nil ?_ | refine JE.next ?_)
    refine JC.ret ?_
    repeat (refine JE.aH ?_)
    exact JE.aQ rfl (RV.tmp rfl) fun w' hw=>⟨⟨q0,s0,0,hs0,hq0,.inr ⟨Es h1 hk0,rfl⟩⟩,rfl,hw⟩
  repeat (first | refine JL.q (by first|(apply OQ.load;exact bB;rfl;exact .here;exact htk)|(apply OQ.CQ (a:=to) (b:=s0.taken);rfl;rfl;exact h1)|(apply OQ.move;rfl)|(apply OQ.assign;rfl)|(apply OQ.cQ;rfl)|(apply OQ.bM;rfl;rfl;rfl;exact (by decide);rfl)) rfl ?_ | refine JC.seq ?_ | refine JC.region ?_ | refine JL.nil ?_ | refine JE.next ?_)
  refine JC.cond_false rfl rfl ?_
  have hsb : ((BitVec.ofNat 64 to) - (BitVec.ofNat 64 s0.taken) : BitVec 64).toNat=to - s0.taken:=by
    rw [BitVec.toNat_sub_of_le (by rw [BitVec.le_def,BitVec.toNat_ofNat,BitVec.toNat_ofNat];omega),BitVec.toNat_ofNat,BitVec.toNat_ofNat]
    omega
  by_cases h2 : 1000<to - s0.taken
  · have h3 : decide ((1000 : Int)<((((BitVec.ofNat 64 to) - (BitVec.ofNat 64 s0.taken) : BitVec 64).toNat : Nat) : Int))=true:=decide_eq_true (by rw [hsb];omega)
    repeat (first | refine JL.q (by first|(apply OQ.load;exact bB;rfl;exact .here;exact htk)|(apply OQ.gM;exact Tryz.underlying3;exact Tryz.underlying106;rfl)|(apply OQ.ym;rfl;rfl)|(apply OQ.jA (b:=1000);rfl;rfl;exact h3)|(apply OQ.move;rfl)|(apply OQ.cQ;rfl)|(apply OQ.bM;rfl;rfl;rfl;exact (by decide);rfl)) rfl ?_ | refine JC.seq ?_ | refine JC.region ?_ | refine JC.skip ?_ | refine JL.nil ?_ | refine JE.next ?_)
    refine JC.cond_true rfl rfl ?_
    repeat (first | refine JL.q (by (apply OQ.assign;rfl)) rfl ?_ | refine JC.seq ?_ | refine JC.region ?_ | refine JL.nil ?_ | refine JE.next ?_)
    refine JC.ret ?_
    repeat (refine JE.aH ?_)
    exact JE.aQ rfl (RV.tmp rfl) fun w' hw=>⟨⟨q0,s0,12,hs0,hq0,.inl ⟨su h2,rfl⟩⟩,rfl,hw⟩
  have h3 : decide ((1000 : Int)<((((BitVec.ofNat 64 to) - (BitVec.ofNat 64 s0.taken) : BitVec 64).toNat : Nat) : Int))=false:=decide_eq_false (by rw [hsb];omega)
  repeat (first | refine JL.q (by first|(apply OQ.load;exact bB;rfl;exact .here;exact htk)|(apply OQ.gM;exact Tryz.underlying3;exact Tryz.underlying106;rfl)|(apply OQ.ym;rfl;rfl)|(apply OQ.jA (b:=1000);rfl;rfl;exact h3)|(apply OQ.move;rfl)|(apply OQ.cQ;rfl)|(apply OQ.bM;rfl;rfl;rfl;exact (by decide);rfl)) rfl ?_ | refine JC.seq ?_ | refine JC.region ?_ | refine JC.skip ?_ | refine JL.nil ?_ | refine JE.next ?_)
  refine JC.cond_false rfl rfl ?_
  repeat (first | refine JC.seq ?_ | refine JC.block ?_ | refine JC.skip ?_ | refine JE.next ?_)
  obtain ⟨k0,hk0e⟩ : ∃ k,to - s0.taken=k:=⟨_,rfl⟩
  refine JC.loop (fun z : Nat × Acc=>[(0,Pt b 0),(1,N to)]) (fun z=>⟨b,Row 26 (sec (mL s0 z.1) (aC z.2 (mL s0 z.1).kept.length)),true⟩::fU z.2 (mL s0 z.1).kept) (fun z=>k0 - z.1) (fun z=>z.1≤k0∧(z.2=none→(mL s0 z.1).kept=[])) (0,q0) ⟨Nat.zero_le _,by rw [lQ];exact hq0⟩ (by repeat (first | exact ai.nil | refine ai.cons _ _ _ rfl ?_)) (by dsimp only;rw [lQ];exact aq.refl _) ?_
  rintro ⟨i,q⟩ ⟨hi,hq⟩
  dsimp only at hi hq ⊢
  have hs:=zq hs0 i
  have hst:=AQ s0 i
  have htn : (mL s0 i).taken=s0.taken+i:=rfl
  have hot : (mL s0 i).other=s0.other:=rfl
  have hkl : (mL s0 i).kept.length=s0.kept.length+i:=by show (s0.kept++BZ _ i _ _).length=_;rw [List.length_append,vF]
  obtain ⟨s,hse⟩ : ∃ s,mL s0 i=s:=⟨_,rfl⟩
  rw [hse] at hs hst htn hot hkl hq ⊢
  have htk : ∀ o,Row 26 (sec s (aC q s.kept.length)) o→cellAt o 163=some (N s.taken):=Row.cell (dG hs _)
  repeat (first | refine JL.q (by first|(apply OQ.load;exact bB;rfl;exact .here;exact htk)|(apply OQ.move;rfl)|(apply OQ.cQ;rfl)|(apply OQ.bJ;rfl;rfl)|(apply OQ.bM;rfl;rfl;rfl;exact (by decide);rfl)) rfl ?_ | refine JC.seq ?_ | refine JC.region ?_ | refine JL.nil ?_ | refine JE.next ?_)
  refine JC.cond rfl (fun hc=>?_) (fun hc=>?_)
  · have hi' : s.taken<to:=of_decide_eq_true hc
    clear hc
    have hlo : (s.other.map U8).length=32:=by rw [List.length_map];exact hs.other
    have hkb:=EE s.other s.taken hs.other
    have hko : (⟨s.other,s.taken,dN⟩ : Kp).ok:=⟨hs.other,rfl⟩
    have hkl65:=ij hko
    repeat (first | refine JC.seq ?_ | refine JC.block ?_ | refine JC.skip ?_ | refine JE.next ?_)
    let vs : Nat→Nat→Value:=fun j y=>match j with
      | 0=>Pt b 0
      | 1=>Pt b 0
      | 2=>Pt b 64
      | 3=>.agg (s.other.map U8).toArray
      | 4=>Pt b 0
      | 5=>Pt b 0
      | 6=>Pt b 163
      | 7=>N s.taken
      | 8=>.agg (dU ⟨s.other,s.taken,dN⟩).toArray
      | 9=>Pt y 0
      | _=>N 0
    let Ms : Nat→Nat→List aG:=fun j y=>match j with
      | 9=>[⟨y,Row 57 (dU mQ),true⟩]
      | 10=>[⟨y,Row 57 (dU ⟨s.other,s.taken,dN⟩),true⟩]
      | 11=>[⟨b,Row 26 (sec s (aC q s.kept.length)),true⟩]
      | 12=>fU q s.kept
      | _=>[]
    refine JC.grow (g:=⟨[(0,Pt b 0),(1,N to)],13,vs,Ms,(fun j=>match j with | 1=>[(0,28)] | 2=>[(1,29)] | 3=>[(2,30)] | 5=>[(4,32)] | 6=>[(5,33)] | 7=>[(6,34)] | 8=>[(3,31),(7,35)] | 10=>[(9,5),(8,36)] | _=>[]),(fun j=>match j with | 3=>[11] | 7=>[11] | 10=>[9] | _=>[]),(fun j=>match j with | 10=>[9] | _=>[]),(fun j=>match j with | 10=>some 9 | _=>none)⟩) [(9,5)] [11,12,10] gr (by repeat (first | exact ai.nil | refine ai.cons _ _ _ rfl ?_)) ?_ (by kernel_rfl) (by kernel_rfl) (by kernel_rfl) ?_ ?_
    · show aq ([_]++(fU q s.kept++[])) _;rw [List.append_nil];exact aq.refl _
    · refine ⟨?_,?_,?_,?_,?_,?_,?_,?_,?_,?_,?_,trivial⟩
      · (intro xx EF MF Q kk;(try refine JL.aU rfl rfl ?_);exact JL.q (OQ.move rfl) rfl (JL.nil (kk default nofun)))
      · (intro xx EF MF Q kk;(try refine JL.aU rfl rfl ?_);exact JL.q (OQ.cQ rfl) rfl (JL.nil (kk default nofun)))
      · (intro xx EF MF Q kk;(try refine JL.aU rfl rfl ?_);exact JL.q (OQ.bM rfl rfl rfl (by decide) rfl) rfl (JL.nil (kk default nofun)))
      · (intro xx EF MF Q kk;(try refine JL.aU rfl rfl ?_);exact JL.q (OQ.af (cs:=s.other.map U8) aP aB rfl .here hlo (Row.cells (dW hs _))) rfl (JL.nil (kk default nofun)))
      · (intro xx EF MF Q kk;(try refine JL.aU rfl rfl ?_);exact JL.q (OQ.move rfl) rfl (JL.nil (kk default nofun)))
      · (intro xx EF MF Q kk;(try refine JL.aU rfl rfl ?_);exact JL.q (OQ.cQ rfl) rfl (JL.nil (kk default nofun)))
      · (intro xx EF MF Q kk;(try refine JL.aU rfl rfl ?_);exact JL.q (OQ.bM rfl rfl rfl (by decide) rfl) rfl (JL.nil (kk default nofun)))
      · (intro xx EF MF Q kk;(try refine JL.aU rfl rfl ?_);exact JL.q (OQ.load bB rfl .here htk) rfl (JL.nil (kk default nofun)))
      · (intro xx EF MF Q kk;(try refine JL.aU rfl rfl ?_);exact JL.q (OQ.l9 [0,1] [.tmp 31,.tmp 35] rfl rfl hkb) rfl (JL.nil (kk default nofun)))
      · (intro xx EF MF Q kk;exact JL.alloc Nb rfl fun b9 _=>JL.nil (kk b9 nofun))
      · (intro xx EF MF Q kk;exact JL.ag (cs:=dU ⟨s.other,s.taken,dN⟩) ta rfl rfl hkl65 (qA _) .here (ij ⟨rfl,rfl⟩) (JL.nil (kk (xx 9) (fun k h=>by cases h;rfl))))
    · intro xx hx
      have e1:=hx 10 9 (by decide) rfl
      show JE _ _ _ _ _ [(5,Pt (xx 9) 0),(0,Pt b 0),(1,N to)] (e7 b q s++[⟨xx 10,Row 57 (dU ⟨s.other,s.taken,dN⟩),true⟩])
      rw [e1]
      generalize xx 9=b5
      clear hx e1 xx vs Ms
      repeat (first | refine JL.q (by (apply OQ.move;rfl)) rfl ?_ | refine JC.seq ?_ | refine JC.region ?_ | refine JE.next ?_)
      refine JL.lV (ι:=Unit) (vs:=[Pt b 0]) (fun _=>.agg ((kD s.take).map U8).toArray) (fun _=>e7 b q (ee s)) sD rfl rfl (dY _ _ _) (fun _=>dY _ _ _) (fun w' hw' hx'=>(uo b q s hs (by omega) w' (hT.own hw' (dY _ _ _)) hx').mono fun e w2 ⟨g1,g2⟩=>⟨(),g1,g2⟩) fun _=>?_
      have hsn:=oM hs
      have hlm : ((kD s.take).map U8).length=32:=rfl
      refine JL.dz (M':=⟨b5,Row 57 (dU ⟨s.other,s.taken,dN⟩),true⟩::⟨b,Row 26 (sec (ee s) (aC q s.kept.length)),true⟩::fU q s.kept) (by exact List.perm_append_comm (l₂:=[_])) ?_
      repeat (refine JL.q (by (apply OQ.bM;rfl;rfl;rfl;exact (by decide);rfl)) rfl ?_)
      refine JL.aW (r:=dU ⟨s.other,s.taken,dN⟩) (r':=dU ⟨s.other,s.taken,kD s.take⟩) aB rfl rfl hlm (aV _) .here (by rw [hkl65,hlm];decide) (EG hs.other rfl) ?_
      have hkl66:=ij (k:=⟨s.other,s.taken,kD s.take⟩) ⟨hs.other,rfl⟩
      have hk1:=qA ⟨s.other,s.taken,kD s.take⟩
      have hrr : mL s0 (i+1)={ ee s with kept:=s.kept++[⟨s.other,s.taken,kD s.take⟩] }:=hst
      generalize (⟨s.other,s.taken,kD s.take⟩ : Kp)=kp1 at *
      have hkp : ∀ o,Row 26 (sec (ee s) (aC q s.kept.length)) o→cellAt o 165=some (aC q (aX s.kept).length):=by rw [dV];exact Row.cell (gO hsn _)
      have hset : ∀ v',(sec (ee s) (aC q s.kept.length)).set 165 v'=sec { ee s with kept:=s.kept++[kp1] } v':=fun v'=>fo hsn _ _ v'
      have hl166:=ay hsn (aC q s.kept.length)
      have hqL : q=none→aX s.kept=[]:=fun e=>by rw [hq e];rfl
      have hLl : (aX s.kept).length<10000:=by rw [dV];omega
      repeat (first | refine JL.nil ?_ | refine JE.next ?_)
      let vs : Nat→Nat × Nat→Value:=fun j y=>match j with
        | 0=>Pt b 0
        | 1=>Pt b 0
        | 2=>Pt b 0
        | 3=>Pt b 165
        | 4=>aC q (aX s.kept).length
        | 5=>.agg (dU kp1).toArray
        | 6=>.slice (some ⟨y.1,0,none⟩) 1 1
        | 7=>aC (some y) (aX s.kept++[dU kp1]).length
        | 8=>Pt b 0
        | 9=>Pt b 165
        | _=>N 0
      let Ms : Nat→Nat × Nat→List aG:=fun j y=>match j with
        | 6=>[⟨y.1,Row 57 (dU kp1),true⟩]
        | 7=>uK 57 65 (some y) (aX s.kept++[dU kp1])
        | 10=>[⟨b,Row 26 (sec { ee s with kept:=s.kept++[kp1] } (aC (some y) (aX s.kept++[dU kp1]).length)),true⟩]
        | 11=>[⟨b5,Row 57 (dU kp1),true⟩]
        | 12=>[⟨b,Row 26 (sec (ee s) (aC q s.kept.length)),true⟩]
        | 13=>fU q s.kept
        | _=>[]
      refine JC.grow (g:=⟨[(0,Pt b 0),(1,N to),(5,Pt b5 0)],14,vs,Ms,(fun j=>match j with | 2=>[(1,41)] | 3=>[(2,42)] | 4=>[(3,43)] | 6=>[(5,45)] | 7=>[(4,44),(6,46)] | 8=>[(0,40)] | 9=>[(8,48)] | 10=>[(9,49),(7,47)] | _=>[]),(fun j=>match j with | 4=>[12] | 5=>[11] | 7=>[6,13] | 10=>[12] | _=>[]),(fun j=>match j with | 7=>[6,13] | 10=>[12] | _=>[]),(fun j=>match j with | 10=>some 7 | _=>none)⟩) [] [10,7] gr (by repeat (first | exact ai.nil | refine ai.cons _ _ _ rfl ?_)) ?_ (by kernel_rfl) (by kernel_rfl) (by kernel_rfl) ?_ ?_
      · show aq ([_]++([_]++(fU q s.kept++[]))) _;rw [List.append_nil];exact aq.refl _
      · refine ⟨?_,?_,?_,?_,?_,?_,?_,?_,?_,?_,?_,trivial⟩
        · (intro xx EF MF Q kk;(try refine JL.aU rfl rfl ?_);exact JL.q (OQ.move rfl) rfl (JL.nil (kk default nofun)))
        · (intro xx EF MF Q kk;(try refine JL.aU rfl rfl ?_);exact JL.q (OQ.move rfl) rfl (JL.nil (kk default nofun)))
        · (intro xx EF MF Q kk;(try refine JL.aU rfl rfl ?_);exact JL.q (OQ.cQ rfl) rfl (JL.nil (kk default nofun)))
        · (intro xx EF MF Q kk;(try refine JL.aU rfl rfl ?_);exact JL.q (OQ.bM rfl rfl rfl (by decide) rfl) rfl (JL.nil (kk default nofun)))
        · (intro xx EF MF Q kk;(try refine JL.aU rfl rfl ?_);exact JL.q (OQ.load iV rfl .here hkp) rfl (JL.nil (kk default nofun)))
        · (intro xx EF MF Q kk;(try refine JL.aU rfl rfl ?_);exact JL.q (OQ.af (cs:=dU kp1) KJ ta rfl .here hkl66 Row.all) rfl (JL.nil (kk default nofun)))
        · (intro xx EF MF Q kk;exact JL.HH Tryz.underlying24 B3 rfl (by decide) (by decide) rfl hkl66 rfl fun b9 _=>JL.nil (kk (b9,0) nofun))
        · (intro xx EF MF Q kk;refine JL.dz (M':=⟨(xx 6).1,Row 57 (dU kp1),true⟩::(uK 57 65 q (aX s.kept)++MF)) (List.Perm.of_eq (KP _ _ MF)) ?_;exact JL.Fb (z:=.agg (dU mQ).toArray) (c:=dU kp1) (L:=aX s.kept) q Tryz.underlying24 B3 hqL rfl rfl hkl66 (fun v hv=>List.all_eq_true.1 hk1 v hv) rfl (by decide) (by omega) (by omega) rfl fun b9 cap9=>JL.nil (kk (b9,cap9) nofun))
        · (intro xx EF MF Q kk;(try refine JL.aU rfl rfl ?_);exact JL.q (OQ.cQ rfl) rfl (JL.nil (kk default nofun)))
        · (intro xx EF MF Q kk;(try refine JL.aU rfl rfl ?_);exact JL.q (OQ.bM rfl rfl rfl (by decide) rfl) rfl (JL.nil (kk default nofun)))
        · (intro xx EF MF Q kk;exact JL.az (r:=sec (ee s) (aC q s.kept.length)) (r':=sec { ee s with kept:=s.kept++[kp1] } (aC (some (xx 7)) (aX s.kept++[dU kp1]).length)) (v:=aC (some (xx 7)) (aX s.kept++[dU kp1]).length) B4 rfl rfl (gk _ _) (kG _ _) .here (by rw [hl166];decide) (hset _) (JL.nil (kk (xx 7) (fun k h=>by cases h;rfl))))
      · intro xx hx
        have e1:=hx 10 7 (by decide) rfl
        show JE _ _ _ _ _ [(0,Pt b 0),(1,N to),(5,Pt b5 0)] ([⟨b,Row 26 (sec { ee s with kept:=s.kept++[kp1] } (aC (some (xx 10)) (aX s.kept++[dU kp1]).length)),true⟩]++(uK 57 65 (some (xx 7)) (aX s.kept++[dU kp1])++[]))
        rw [e1,List.append_nil]
        generalize xx 7=r
        clear hx e1 xx vs Ms
        rw [show aX s.kept++[dU kp1]=aX (s.kept++[kp1]) by simp [aX],dV]
        repeat (refine JE.an ?_)
        exact JE.again (ι:=Nat × Acc) (i:=(i,q)) (i+1,some r) ⟨by dsimp only;omega,nofun⟩ (by dsimp only;omega) (by repeat (first | exact ai.nil | refine ai.cons _ _ _ rfl ?_)) (by dsimp only;rw [hrr];exact aq.refl _)
  · have hi' : i=k0:=by have:=of_decide_eq_false hc;omega
    subst hi'
    clear hc
    have hl : leave s0 to=some (trim s):=by rw [nR h2,hk0e,hse]
    have hto:=AF hs
    have hkp : ∀ o,Row 26 (sec s (aC q s.kept.length)) o→cellAt o 165=some (aC q s.kept.length):=Row.cell (gO hs _)
    by_cases hm : 2000<s.kept.length
    · cases q with
      | none=>rw [hq rfl] at hm;exact absurd hm (by decide)
      | some r=>
      have hcu : fU (some r) s.kept=fU (some (r.1,r.2)) s.kept:=rfl
      have htr : trim s={ s with kept:=s.kept.take 0++s.kept.drop (s.kept.length - 2000) }:=by rw [trim,oL];rfl
      have hset : ∀ l v',(sec s (aC (some r) s.kept.length)).set 165 v'=sec { s with kept:=l } v':=fun l v'=>fo hs _ _ v'
      have hl166:=ay hs (aC (some r) s.kept.length)
      have hdl:=fun (w' : World) (hx' : ah w' [r.1] (fU (some (r.1,r.2)) s.kept) w')=>xJ r.1 r.2 s.kept 0 (s.kept.length - 2000) (by omega) (by omega) hs.kept (by omega) w' hx'
      repeat (first | refine JL.q (by first|(apply OQ.load;exact iV;rfl;exact .here;exact hkp)|(apply OQ.KN (q:=some r) (k:=s.kept.length);exact Tryz.underlying24;exact nofun;rfl)|(apply OQ.jk (a:=s.kept.length) (b:=2000);rfl;rfl;exact (by omega);exact (by omega))|(apply OQ.CL (a:=s.kept.length - 2000) (b:=0);rfl;rfl;exact (by omega))|(apply OQ.move;rfl)|(apply OQ.assign;rfl)|(apply OQ.cQ;rfl)|(apply OQ.bM;rfl;rfl;rfl;exact (by decide);rfl)) rfl ?_ | refine JC.seq ?_ | refine JC.region ?_ | refine JC.exit ?_ | refine JL.nil ?_ | refine JE.next ?_ | refine JE.ax ?_ | refine JE.aA ?_)
      refine JC.cond_true rfl rfl ?_
      repeat (first | refine JL.q (by first|(apply OQ.load;exact iV;rfl;exact .here;exact hkp)|(apply OQ.move;rfl)|(apply OQ.cQ;rfl)|(apply OQ.bM;rfl;rfl;rfl;exact (by decide);rfl)) rfl ?_ | refine JC.region ?_)
      refine JL.dz (M':=fU (some r) s.kept++[⟨b,Row 26 (sec s (aC (some r) s.kept.length)),true⟩]) (by exact List.perm_append_comm (l₁:=[_])) ?_
      refine JL.lV (ι:=Unit) (vs:=[.slice (some ⟨r.1,0,none⟩) s.kept.length r.2,N 0,N (s.kept.length - 2000)]) (fun _=>.slice (some ⟨r.1,0,none⟩) (s.kept.take 0++s.kept.drop (s.kept.length - 2000)).length r.2) (fun _=>fU (some (r.1,r.2)) (s.kept.take 0++s.kept.drop (s.kept.length - 2000))) uq rfl rfl (ju _ _) (fun _=>ju _ _) (fun w' hw' hx'=>(hdl w' hx').mono fun e w2 ⟨g1,g2⟩=>⟨(),g1,g2⟩) fun _=>?_
      generalize s.kept.take 0++s.kept.drop (s.kept.length - 2000)=lk at *
      refine JL.dz (M':=⟨b,Row 26 (sec s (aC (some r) s.kept.length)),true⟩::fU (some (r.1,r.2)) lk) (by exact List.perm_append_comm (l₂:=[_])) ?_
      repeat (refine JL.q (by first|(apply OQ.cQ;rfl)|(apply OQ.bM;rfl;rfl;rfl;exact (by decide);rfl)) rfl ?_)
      refine JL.az (r:=sec s (aC (some r) s.kept.length)) (r':=sec { s with kept:=lk } (aC (some r) lk.length)) (v:=aC (some (r.1,r.2)) lk.length) B4 rfl rfl (gk _ _) (kG _ _) .here (by rw [hl166];decide) (hset lk _) ?_
      repeat (first | refine JL.q (by (apply OQ.assign;rfl)) rfl ?_ | refine JC.seq ?_ | refine JC.region ?_ | refine JL.nil ?_ | refine JE.next ?_)
      refine JC.ret ?_
      skip
      exact JE.aQ rfl (RV.tmp rfl) fun w' hw=>⟨⟨some r,{ s with kept:=lk },0,htr ▸ hto,nofun,.inr ⟨by rw [hl,htr],rfl⟩⟩,rfl,hw⟩
    · have htr : trim s=s:=AG (by omega)
      have hgt : decide ((0 : Int)<((s.kept.length : Nat) : Int) - (2000 : Int))=false:=decide_eq_false (by omega)
      have hne : q=none→s.kept.length=0:=fun e=>by rw [hq e];rfl
      repeat (first | refine JL.q (by first|(apply OQ.load;exact iV;rfl;exact .here;exact hkp)|(apply OQ.KN (q:=q) (k:=s.kept.length);exact Tryz.underlying24;exact hne;rfl)|(apply OQ.od (a:=((s.kept.length : Nat) : Int)) (b:=2000);rfl;rfl;exact (by omega);exact (by omega))|(apply OQ.jA (a:=((s.kept.length : Nat) : Int) - (2000 : Int)) (b:=0);rfl;rfl;exact hgt)|(apply OQ.move;rfl)|(apply OQ.assign;rfl)|(apply OQ.cQ;rfl)|(apply OQ.bM;rfl;rfl;rfl;exact (by decide);rfl)) rfl ?_ | refine JC.seq ?_ | refine JC.region ?_ | refine JC.exit ?_ | refine JL.nil ?_ | refine JE.next ?_ | refine JE.ax ?_ | refine JE.aA ?_)
      refine JC.cond_false rfl rfl ?_
      repeat (first | refine JL.q (by (apply OQ.assign;rfl)) rfl ?_ | refine JC.seq ?_ | refine JC.region ?_ | refine JC.skip ?_ | refine JL.nil ?_ | refine JE.next ?_)
      refine JC.ret ?_
      skip
      exact JE.aQ rfl (RV.tmp rfl) fun w' hw=>⟨⟨q,s,0,hs,hq,.inr ⟨by rw [hl,htr],rfl⟩⟩,rfl,hw⟩
end
section
set_option maxRecDepth 10000
open Sl g5 lz dO mP
open pT (Bk)
structure Mg (o : Option bA) (ch fresh : Bk) where
  q : Acc
  s : bA
  ok : s.ok
  nil : q=none→s.kept=[]
  is : o=some (iP s ch fresh)
theorem JL.MQ {n : Nat} {w0 : World} {S : List Nat} {ops : Array Oper} {Q : Exit→Act→World→Prop} {l : List Oper} {E : Env} {M : List aG} {d : Nat} {ty : TypeId} {pos : String} {aft : Array Edge} {x1 x2 : Operand} {ats : Array TypeId} {b : Nat} {q : Acc} {s : bA} {to : Nat} (hs : s.ok) (hq : q=none→s.kept=[]) (hk : s.kept.length≤2000) (hto : to≤2147483647) (ht : s.taken≤2147483648) (hT : Tb S w0) (e1 : ev E x1=some (Pt b 0)) (e2 : ev E x2=some (N to)) (hd : Nat.blt d n=true)
    (kk : ∀ r : Jv (leave s to),JL Tryz.prog n w0 S ops Q l ((d,N r.code)::E) (e7 b r.q r.s++M)) : JL Tryz.prog n w0 S ops Q (⟨some d,.call ⟨.value (.func 66),#[x1,x2],ats⟩,ty,pos,aft,none⟩::l) E (e7 b q s++M):=
  JL.lV (ι:=Jv (leave s to)) (xs:=[x1,x2]) (vs:=[Pt b 0,N to]) (fun r=>N r.code) (fun r=>e7 b r.q r.s) EH (by simp [mO,e1,e2]) hd (dY _ _ _) (fun _=>dY _ _ _)
    (fun w' hw' hx'=>Gh b q s hs hq hk to hto ht w' (hT.own hw' (dY _ _ _)) hx') kk
theorem B8 : aK Tryz.prog 65:=⟨_,Tryz.func65,rfl,by kernel_rfl⟩
set_option maxHeartbeats 32000000 in
theorem EJ (b : Nat) (q0 : Acc) (s0 : bA) (hs0 : s0.ok) (hq0 : q0=none→s0.kept=[]) (hk0 : s0.kept.length≤2000) (h : Hd) (hh : h.chain.length=32) (hpv : h.prev≤2147483647) (fresh : Bk) (hf : fresh.length=32) (ht0 : s0.taken≤2147483648) (w : World) (hT : Tb (keys (e7 b q0 s0)) w) (h0 : ah w (keys (e7 b q0 s0)) (e7 b q0 s0) w) :
    Calls Tryz.prog 65 [Pt b 0,.agg (hdc h).toArray,.agg (fresh.map U8).toArray].toArray w fun e w'=>∃ r : Jv (nU s0 h fresh),e=.returned (N r.code)∧ah w (keys (e7 b q0 s0)) (e7 b r.q r.s) w':=by
  generalize keys (e7 b q0 s0)=S at h0 hT ⊢
  have hlc : (h.chain.map U8).length=32:=by rw [List.length_map];exact hh
  have hlf : (fresh.map U8).length=32:=by rw [List.length_map];exact hf
  have hl34:=j3 hh
  refine enter (n:=93) Tryz.func65 rfl rfl rfl h0 ?_
  repeat (first | refine JC.seq ?_ | refine JC.region ?_)
  refine JL.box (r:=hdc h) rfl rfl rfl fun b4 _=>?_
  refine JL.box (r:=fresh.map U8) rfl rfl rfl fun b5 _=>?_
  repeat (refine JL.q (by (apply OQ.assign;rfl)) rfl ?_)
  refine JL.nil (JE.next ?_)
  refine JC.mid (ι:=Mg (nU s0 h fresh) h.chain fresh) (fun _=>[(0,Pt b 0),(4,Pt b4 0),(5,Pt b5 0),(6,N 0)]) (fun z=>⟨b5,Row 23 (fresh.map U8),true⟩::⟨b4,Row 32 (hdc h),true⟩::e7 b z.q z.s) (fun _=>True) ?_ ?_
  · unfold e7
    cases htk : s0.takes
    · have hld : ∀ o,Row 26 (sec s0 (aC q0 s0.kept.length)) o→cellAt o 97=some (.bool false):=by rw [← htk];exact Row.cell (gv hs0 _)
      repeat (first | refine JL.q (by first|(apply OQ.load;exact gj;rfl;exact (.there (.there .here));exact hld)|(apply OQ.move;rfl)|(apply OQ.cQ;rfl)|(apply OQ.bM;rfl;rfl;rfl;exact (by decide);rfl)) rfl ?_ | refine JC.seq ?_ | refine JC.region ?_ | refine JL.nil ?_ | refine JE.next ?_)
      refine JC.cond_false rfl rfl ?_
      repeat (refine JC.skip ?_)
      exact JE.mid ⟨q0,s0,hs0,hq0,by rw [nU,if_neg (by rw [htk];decide)]⟩ trivial (by repeat (first | exact ai.nil | refine ai.cons _ _ _ rfl ?_)) (aq.refl _)
    · have hld : ∀ o,Row 26 (sec s0 (aC q0 s0.kept.length)) o→cellAt o 97=some (.bool true):=by rw [← htk];exact Row.cell (gv hs0 _)
      have hpr : ∀ o,Row 32 (hdc h) o→cellAt o 32=some (N h.prev):=Row.cell (lq hh)
      repeat (first | refine JL.q (by first|(apply OQ.load;exact gj;rfl;exact (.there (.there .here));exact hld)|(apply OQ.move;rfl)|(apply OQ.cQ;rfl)|(apply OQ.bM;rfl;rfl;rfl;exact (by decide);rfl)) rfl ?_ | refine JC.seq ?_ | refine JC.region ?_ | refine JL.nil ?_ | refine JE.next ?_)
      refine JC.cond_true rfl rfl ?_
      repeat (first | refine JL.q (by first|(apply OQ.load;exact bB;rfl;exact (.there .here);exact hpr)|(apply OQ.move;rfl)|(apply OQ.bM;rfl;rfl;rfl;exact (by decide);rfl)) rfl ?_ | refine JC.seq ?_ | refine JC.region ?_)
      refine JL.dz (M':=e7 b q0 s0++[⟨b5,Row 23 (fresh.map U8),true⟩,⟨b4,Row 32 (hdc h),true⟩]) (by exact List.perm_append_comm (l₁:=[_,_])) ?_
      refine JL.MQ hs0 hq0 hk0 hpv ht0 hT rfl rfl rfl fun r=>?_
      obtain ⟨q,s,cd,hs,hq,his⟩:=r
      dsimp only
      rcases his with ⟨hn,rfl⟩ | ⟨hn,rfl⟩
      · repeat (first | refine JL.q (by first|(apply OQ.qo (a:=12) (b:=0) (c:=false);rfl;rfl;rfl)|(apply OQ.move;rfl)|(apply OQ.assign;rfl)) rfl ?_ | refine JC.seq ?_ | refine JC.region ?_ | refine JL.nil ?_ | refine JE.next ?_)
        refine JC.cond_true rfl rfl ?_
        repeat (first | refine JL.q (by first|(apply OQ.move;rfl)|(apply OQ.assign;rfl)) rfl ?_ | refine JC.seq ?_ | refine JC.region ?_ | refine JL.nil ?_ | refine JE.next ?_)
        refine JC.ret ?_
        repeat (refine JE.aH ?_)
        exact JE.aQ rfl (RV.tmp rfl) fun w' hw=>⟨⟨q,s,12,hs,hq,.inl ⟨by rw [nU,if_pos htk,hn];rfl,rfl⟩⟩,rfl,hw.weak (dS _ _)⟩
      · repeat (first | refine JL.q (by first|(apply OQ.qo (a:=0) (b:=0) (c:=true);rfl;rfl;rfl)|(apply OQ.move;rfl)|(apply OQ.assign;rfl)) rfl ?_ | refine JC.seq ?_ | refine JC.region ?_ | refine JL.nil ?_ | refine JE.next ?_)
        refine JC.cond_false rfl rfl ?_
        repeat (refine JC.skip ?_)
        refine JE.perm (M':=⟨b5,Row 23 (fresh.map U8),true⟩::⟨b4,Row 32 (hdc h),true⟩::e7 b q s) (by exact List.perm_append_comm (l₂:=[_,_])) ?_
        exact JE.mid ⟨q,s,hs,hq,by rw [nU,if_pos htk,hn];rfl⟩ trivial (by repeat (first | exact ai.nil | refine ai.cons _ _ _ rfl ?_)) (aq.refl _)
  rintro ⟨q,s,hs,hq,his⟩ _
  dsimp only
  obtain ⟨ch,hce⟩ : ∃ ch,h.chain=ch:=⟨_,rfl⟩
  have hcc:=eG hh
  rw [hce] at hcc hh his hlc
  obtain ⟨kv,hkv⟩ : ∃ kv,aC q s.kept.length=kv:=⟨_,rfl⟩
  unfold e7
  rw [hkv]
  have hlm:=vC s.own ch
  have hla:=fy s.root (aN s.own ch)
  have hlt:=eH s.root (aN s.own ch)
  have hlm2:=vC fresh ch
  have hla2:=fy (cq s.root (aN s.own ch)) (aN fresh ch)
  have hlt2:=eH (cq s.root (aN s.own ch)) (aN fresh ch)
  have cM:=fun (w' : World)=>mJ s.own ch hs.own hh w'
  have cM2:=fun (w' : World)=>mJ fresh ch hf hh w'
  have cT:=fun (w' : World) (hG : g7 w')=>vK s.root (aN s.own ch) hs.root hlm w' hG
  have cT2:=fun (w' : World) (hG : g7 w')=>vK (cq s.root (aN s.own ch)) (aN fresh ch) hla hlm2 w' hG
  have hfin : iP s ch fresh=⟨cq (cq s.root (aN s.own ch)) (aN fresh ch),fresh,ch,true,true,dX (cq s.root (aN s.own ch)) (aN fresh ch),dX s.root (aN s.own ch),0,0,s.sent,s.kept⟩:=rfl
  rw [hfin] at his
  clear hfin
  generalize dX (cq s.root (aN s.own ch)) (aN fresh ch)=c2 at *
  generalize cq (cq s.root (aN s.own ch)) (aN fresh ch)=a2 at *
  generalize dX s.root (aN s.own ch)=c1 at *
  generalize cq s.root (aN s.own ch)=a1 at *
  generalize aN s.own ch=m1 at *
  generalize aN fresh ch=m2 at *
  have l1 : (a1.map U8).length=32:=by rw [List.length_map];exact hla
  have l2 : (c1.map U8).length=32:=by rw [List.length_map];exact hlt
  have l3 : (a2.map U8).length=32:=by rw [List.length_map];exact hla2
  have l4 : (c2.map U8).length=32:=by rw [List.length_map];exact hlt2
  have l5 : (s.root.map U8).length=32:=by rw [List.length_map];exact hs.root
  have l6 : (s.own.map U8).length=32:=by rw [List.length_map];exact hs.own
  have k1 : ({ s with other:=ch } : bA).ok:=⟨hs.root,hs.own,hh,hs.send,hs.take,hs.kept⟩
  have p1:=jl hs kv ch hh
  obtain ⟨s1,hs1⟩ : ∃ s1,({ s with other:=ch } : bA)=s1:=⟨_,rfl⟩
  have g1 : s1.root=s.root∧s1.own=s.own∧s1.other=ch:=by rw [← hs1];exact ⟨rfl,rfl,rfl⟩
  rw [hs1] at k1 p1
  have k2 : ({ s1 with root:=a1 } : bA).ok:=⟨hla,k1.own,k1.other,k1.send,k1.take,k1.kept⟩
  have p2:=fm k1 kv a1 hla
  obtain ⟨s2,hs2⟩ : ∃ s2,({ s1 with root:=a1 } : bA)=s2:=⟨_,rfl⟩
  rw [hs2] at k2 p2
  have k3 : ({ s2 with take:=c1 } : bA).ok:=⟨k2.root,k2.own,k2.other,k2.send,hlt,k2.kept⟩
  have p3:=fX k2 kv c1 hlt
  obtain ⟨s3,hs3⟩ : ∃ s3,({ s2 with take:=c1 } : bA)=s3:=⟨_,rfl⟩
  rw [hs3] at k3 p3
  have k4 : ({ s3 with own:=fresh } : bA).ok:=⟨k3.root,hf,k3.other,k3.send,k3.take,k3.kept⟩
  have p4:=iZ k3 kv fresh hf
  obtain ⟨s4,hs4⟩ : ∃ s4,({ s3 with own:=fresh } : bA)=s4:=⟨_,rfl⟩
  have g4 : s4.root=a1∧s4.own=fresh∧s4.other=ch:=by rw [← hs4,← hs3,← hs2];exact ⟨rfl,rfl,g1.2.2⟩
  rw [hs4] at k4 p4
  have k5 : ({ s4 with root:=a2 } : bA).ok:=⟨hla2,k4.own,k4.other,k4.send,k4.take,k4.kept⟩
  have p5:=fm k4 kv a2 hla2
  obtain ⟨s5,hs5⟩ : ∃ s5,({ s4 with root:=a2 } : bA)=s5:=⟨_,rfl⟩
  rw [hs5] at k5 p5
  have k6 : ({ s5 with send:=c2 } : bA).ok:=⟨k5.root,k5.own,k5.other,hlt2,k5.take,k5.kept⟩
  have p6:=iq k5 kv c2 hlt2
  obtain ⟨s6,hs6⟩ : ∃ s6,({ s5 with send:=c2 } : bA)=s6:=⟨_,rfl⟩
  have g6 : s6.sent=s.sent:=by rw [← hs6,← hs5,← hs4,← hs3,← hs2,← hs1]
  rw [hs6] at k6 p6
  have k7 : ({ s6 with takes:=true } : bA).ok:=⟨k6.root,k6.own,k6.other,k6.send,k6.take,k6.kept⟩
  have p7:=mZ k6 kv true
  obtain ⟨s7,hs7⟩ : ∃ s7,({ s6 with takes:=true } : bA)=s7:=⟨_,rfl⟩
  rw [hs7] at k7 p7
  have k8 : ({ s7 with bY:=true } : bA).ok:=⟨k7.root,k7.own,k7.other,k7.send,k7.take,k7.kept⟩
  have p8:=jm k7 kv true
  obtain ⟨s8,hs8⟩ : ∃ s8,({ s7 with bY:=true } : bA)=s8:=⟨_,rfl⟩
  have g8 : s8.sent=s.sent:=by rw [← hs8,← hs7];exact g6
  rw [hs8] at k8 p8
  have k9 : ({ s8 with prev:=s.sent } : bA).ok:=⟨k8.root,k8.own,k8.other,k8.send,k8.take,k8.kept⟩
  have p9:=oo k8 kv s.sent
  obtain ⟨s9,hs9⟩ : ∃ s9,({ s8 with prev:=s.sent } : bA)=s9:=⟨_,rfl⟩
  rw [hs9] at k9 p9
  have k10 : ({ s9 with sent:=0 } : bA).ok:=⟨k9.root,k9.own,k9.other,k9.send,k9.take,k9.kept⟩
  have p10:=jZ k9 kv 0
  obtain ⟨s10,hs10⟩ : ∃ s10,({ s9 with sent:=0 } : bA)=s10:=⟨_,rfl⟩
  rw [hs10] at k10 p10
  have k11 : ({ s10 with taken:=0 } : bA).ok:=⟨k10.root,k10.own,k10.other,k10.send,k10.take,k10.kept⟩
  have p11:=fF k10 kv 0
  have hend : (⟨a2,fresh,ch,true,true,c2,c1,0,0,s.sent,s.kept⟩ : bA)={ s10 with taken:=0 }:=by rw [← hs10,← hs9,← hs8,← hs7,← hs6,← hs5,← hs4,← hs3,← hs2,← hs1]
  have hkl : ({ s10 with taken:=0 } : bA).kept=s.kept:=by rw [← hend]
  have hn0:=ay hs kv
  have hn1:=ay k1 kv
  have hn2:=ay k2 kv
  have hn3:=ay k3 kv
  have hn4:=ay k4 kv
  have hn5:=ay k5 kv
  have hn6:=ay k6 kv
  have hn7:=ay k7 kv
  have hn8:=ay k8 kv
  have hn9:=ay k9 kv
  have hn10:=ay k10 kv
  have r1:=jB k1 kv
  have o1:=jY k1 kv
  have t1:=dW k1 kv
  rw [g1.1] at r1
  rw [g1.2.1] at o1
  rw [g1.2.2] at t1
  have r4:=jB k4 kv
  have o4:=jY k4 kv
  have t4:=dW k4 kv
  rw [g4.1] at r4
  rw [g4.2.1] at o4
  rw [g4.2.2] at t4
  have e8:=jC k8 kv
  rw [g8] at e8
  generalize hs11 : ({ s10 with taken:=0 } : bA)=s11 at *
  clear hs1 hs2 hs3 hs4 hs5 hs6 hs7 hs8 hs9 hs10 g1 g4 g6 g8
  repeat (first | refine JL.q (by first|(apply OQ.af (cs:=ch.map U8);exact aP;exact aB;rfl;exact (.there .here);exact hlc;exact (Row.cells hcc))|(apply OQ.move;rfl)|(apply OQ.cQ;rfl)|(apply OQ.bM;rfl;rfl;rfl;exact (by decide);rfl)) rfl ?_ | refine JC.seq ?_ | refine JC.region ?_)
  refine JL.aW (r:=sec s kv) (r':=sec s1 kv) aB rfl rfl hlc (aV _) (.there (.there .here)) (by rw [hn0,hlc];decide) p1 ?_
  repeat (first | refine JC.seq ?_ | refine JL.nil ?_ | refine JE.next ?_)
  let vs : Nat→Nat→Value:=fun j y=>match j with
    | 0=>Pt b 0
    | 1=>Pt b 0
    | 2=>Pt b 0
    | 3=>Pt b 0
    | 4=>Pt b 0
    | 5=>.agg (s.root.map U8).toArray
    | 6=>Pt b 0
    | 7=>Pt b 0
    | 8=>Pt b 32
    | 9=>.agg (s.own.map U8).toArray
    | 10=>Pt b 0
    | 11=>Pt b 0
    | 12=>Pt b 64
    | 13=>.agg (ch.map U8).toArray
    | 14=>.agg (m1.map U8).toArray
    | 15=>.tuple #[.agg (a1.map U8).toArray,.agg (c1.map U8).toArray]
    | 16=>.tuple #[.agg (a1.map U8).toArray,.agg (c1.map U8).toArray]
    | 17=>.agg (a1.map U8).toArray
    | 18=>.agg (c1.map U8).toArray
    | 19=>Pt b 0
    | 20=>Pt b 0
    | 22=>Pt b 0
    | 23=>Pt b 130
    | _=>N 0
  let Ms : Nat→Nat→List aG:=fun j y=>match j with
    | 21=>[⟨b,Row 26 (sec s2 kv),true⟩]
    | 24=>[⟨b,Row 26 (sec s3 kv),true⟩]
    | 25=>[⟨b5,Row 23 (fresh.map U8),true⟩]
    | 26=>[⟨b4,Row 32 (hdc h),true⟩]
    | 27=>[⟨b,Row 26 (sec s1 kv),true⟩]
    | 28=>fU q s.kept
    | _=>[]
  refine JC.grow (g:=⟨[(0,Pt b 0),(4,Pt b4 0),(5,Pt b5 0)],29,vs,Ms,(fun j=>match j with | 3=>[(2,27)] | 4=>[(3,28)] | 5=>[(4,29)] | 7=>[(6,31)] | 8=>[(7,32)] | 9=>[(8,33)] | 11=>[(10,35)] | 12=>[(11,36)] | 13=>[(12,37)] | 14=>[(9,34),(13,38)] | 15=>[(5,30),(14,39)] | 16=>[(15,40)] | 17=>[(16,24)] | 18=>[(16,24)] | 19=>[(0,25)] | 20=>[(19,43)] | 21=>[(20,44),(17,41)] | 22=>[(1,26)] | 23=>[(22,45)] | 24=>[(23,46),(18,42)] | _=>[]),(fun j=>match j with | 5=>[27] | 9=>[27] | 13=>[27] | 21=>[27] | 24=>[21] | _=>[]),(fun j=>match j with | 21=>[27] | 24=>[21] | _=>[]),(fun j=>match j with | _=>none)⟩) [] [25,26,24,28] gr (by repeat (first | exact ai.nil | refine ai.cons _ _ _ rfl ?_)) ?_ (by kernel_rfl) (by kernel_rfl) (by kernel_rfl) ?_ ?_
  · show aq ([_]++([_]++([_]++(fU q s.kept++[])))) _;rw [List.append_nil];exact aq.refl _
  · refine ⟨?_,?_,?_,?_,?_,?_,?_,?_,?_,?_,?_,?_,?_,?_,?_,?_,?_,?_,?_,?_,?_,?_,?_,?_,?_,trivial⟩
    · (intro xx EF MF Q kk;(try refine JL.aU rfl rfl ?_);exact JL.q (OQ.move rfl) rfl (JL.nil (kk default nofun)))
    · (intro xx EF MF Q kk;(try refine JL.aU rfl rfl ?_);exact JL.q (OQ.move rfl) rfl (JL.nil (kk default nofun)))
    · (intro xx EF MF Q kk;(try refine JL.aU rfl rfl ?_);exact JL.q (OQ.move rfl) rfl (JL.nil (kk default nofun)))
    · (intro xx EF MF Q kk;(try refine JL.aU rfl rfl ?_);exact JL.q (OQ.cQ rfl) rfl (JL.nil (kk default nofun)))
    · (intro xx EF MF Q kk;(try refine JL.aU rfl rfl ?_);exact JL.q (OQ.bM rfl rfl rfl (by decide) rfl) rfl (JL.nil (kk default nofun)))
    · (intro xx EF MF Q kk;(try refine JL.aU rfl rfl ?_);exact JL.q (OQ.af (cs:=s.root.map U8) aP aB rfl .here l5 (Row.cells r1)) rfl (JL.nil (kk default nofun)))
    · (intro xx EF MF Q kk;(try refine JL.aU rfl rfl ?_);exact JL.q (OQ.move rfl) rfl (JL.nil (kk default nofun)))
    · (intro xx EF MF Q kk;(try refine JL.aU rfl rfl ?_);exact JL.q (OQ.cQ rfl) rfl (JL.nil (kk default nofun)))
    · (intro xx EF MF Q kk;(try refine JL.aU rfl rfl ?_);exact JL.q (OQ.bM rfl rfl rfl (by decide) rfl) rfl (JL.nil (kk default nofun)))
    · (intro xx EF MF Q kk;(try refine JL.aU rfl rfl ?_);exact JL.q (OQ.af (cs:=s.own.map U8) aP aB rfl .here l6 (Row.cells o1)) rfl (JL.nil (kk default nofun)))
    · (intro xx EF MF Q kk;(try refine JL.aU rfl rfl ?_);exact JL.q (OQ.move rfl) rfl (JL.nil (kk default nofun)))
    · (intro xx EF MF Q kk;(try refine JL.aU rfl rfl ?_);exact JL.q (OQ.cQ rfl) rfl (JL.nil (kk default nofun)))
    · (intro xx EF MF Q kk;(try refine JL.aU rfl rfl ?_);exact JL.q (OQ.bM rfl rfl rfl (by decide) rfl) rfl (JL.nil (kk default nofun)))
    · (intro xx EF MF Q kk;(try refine JL.aU rfl rfl ?_);exact JL.q (OQ.af (cs:=ch.map U8) aP aB rfl .here hlc (Row.cells t1)) rfl (JL.nil (kk default nofun)))
    · (intro xx EF MF Q kk;(try refine JL.aU rfl rfl ?_);exact JL.q (OQ.au (vs:=[.agg (s.own.map U8).toArray,.agg (ch.map U8).toArray]) kC rfl fun w' _=>cM w') rfl (JL.nil (kk default nofun)))
    · (intro xx EF MF Q kk;(try refine JL.aU rfl rfl ?_);exact JL.q (OQ.au (vs:=[.agg (s.root.map U8).toArray,.agg (m1.map U8).toArray]) sC rfl fun w' hw'=>cT w' (hT.g hw')) rfl (JL.nil (kk default nofun)))
    · (intro xx EF MF Q kk;(try refine JL.aU rfl rfl ?_);exact JL.q (OQ.move rfl) rfl (JL.nil (kk default nofun)))
    · (intro xx EF MF Q kk;(try refine JL.aU rfl rfl ?_);exact JL.q (OQ.extract rfl rfl) rfl (JL.nil (kk default nofun)))
    · (intro xx EF MF Q kk;(try refine JL.aU rfl rfl ?_);exact JL.q (OQ.extract rfl rfl) rfl (JL.nil (kk default nofun)))
    · (intro xx EF MF Q kk;(try refine JL.aU rfl rfl ?_);exact JL.q (OQ.cQ rfl) rfl (JL.nil (kk default nofun)))
    · (intro xx EF MF Q kk;(try refine JL.aU rfl rfl ?_);exact JL.q (OQ.bM rfl rfl rfl (by decide) rfl) rfl (JL.nil (kk default nofun)))
    · (intro xx EF MF Q kk;exact JL.aW (r:=sec s1 kv) (r':=sec s2 kv) aB rfl rfl l1 (aV _) .here (by rw [hn1,l1];decide) p2 (JL.nil (kk default nofun)))
    · (intro xx EF MF Q kk;(try refine JL.aU rfl rfl ?_);exact JL.q (OQ.cQ rfl) rfl (JL.nil (kk default nofun)))
    · (intro xx EF MF Q kk;(try refine JL.aU rfl rfl ?_);exact JL.q (OQ.bM rfl rfl rfl (by decide) rfl) rfl (JL.nil (kk default nofun)))
    · (intro xx EF MF Q kk;exact JL.aW (r:=sec s2 kv) (r':=sec s3 kv) aB rfl rfl l2 (aV _) .here (by rw [hn2,l2];decide) p3 (JL.nil (kk default nofun)))
  · intro xx hx
    show JE _ _ _ _ _ [(0,Pt b 0),(4,Pt b4 0),(5,Pt b5 0)] ([⟨b5,Row 23 (fresh.map U8),true⟩]++([⟨b4,Row 32 (hdc h),true⟩]++([⟨b,Row 26 (sec s3 kv),true⟩]++(fU q s.kept++[]))))
    rw [List.append_nil]
    clear hx xx vs Ms
    repeat (first | refine JL.q (by first|(apply OQ.af (cs:=fresh.map U8);exact aP;exact aB;rfl;exact .here;exact hlf;exact Row.all)|(apply OQ.move;rfl)|(apply OQ.cQ;rfl)|(apply OQ.bM;rfl;rfl;rfl;exact (by decide);rfl)) rfl ?_ | refine JC.seq ?_ | refine JC.region ?_ | refine JE.next ?_)
    refine JL.aW (r:=sec s3 kv) (r':=sec s4 kv) aB rfl rfl hlf (aV _) (.there (.there .here)) (by rw [hn3,hlf];decide) p4 ?_
    repeat (first | refine JC.seq ?_ | refine JL.nil ?_ | refine JE.next ?_)
    let vs : Nat→Nat→Value:=fun j y=>match j with
      | 0=>Pt b 0
      | 1=>Pt b 0
      | 2=>Pt b 0
      | 3=>Pt b 0
      | 4=>Pt b 0
      | 5=>.agg (a1.map U8).toArray
      | 6=>Pt b 0
      | 7=>Pt b 0
      | 8=>Pt b 32
      | 9=>.agg (fresh.map U8).toArray
      | 10=>Pt b 0
      | 11=>Pt b 0
      | 12=>Pt b 64
      | 13=>.agg (ch.map U8).toArray
      | 14=>.agg (m2.map U8).toArray
      | 15=>.tuple #[.agg (a2.map U8).toArray,.agg (c2.map U8).toArray]
      | 16=>.tuple #[.agg (a2.map U8).toArray,.agg (c2.map U8).toArray]
      | 17=>.agg (a2.map U8).toArray
      | 18=>.agg (c2.map U8).toArray
      | 19=>Pt b 0
      | 20=>Pt b 0
      | 22=>Pt b 0
      | 23=>Pt b 98
      | _=>N 0
    let Ms : Nat→Nat→List aG:=fun j y=>match j with
      | 21=>[⟨b,Row 26 (sec s5 kv),true⟩]
      | 24=>[⟨b,Row 26 (sec s6 kv),true⟩]
      | 25=>[⟨b5,Row 23 (fresh.map U8),true⟩]
      | 26=>[⟨b4,Row 32 (hdc h),true⟩]
      | 27=>[⟨b,Row 26 (sec s4 kv),true⟩]
      | 28=>fU q s.kept
      | _=>[]
    refine JC.grow (g:=⟨[(0,Pt b 0),(4,Pt b4 0),(5,Pt b5 0)],29,vs,Ms,(fun j=>match j with | 3=>[(2,54)] | 4=>[(3,55)] | 5=>[(4,56)] | 7=>[(6,58)] | 8=>[(7,59)] | 9=>[(8,60)] | 11=>[(10,62)] | 12=>[(11,63)] | 13=>[(12,64)] | 14=>[(9,61),(13,65)] | 15=>[(5,57),(14,66)] | 16=>[(15,67)] | 17=>[(16,51)] | 18=>[(16,51)] | 19=>[(0,52)] | 20=>[(19,70)] | 21=>[(20,71),(17,68)] | 22=>[(1,53)] | 23=>[(22,72)] | 24=>[(23,73),(18,69)] | _=>[]),(fun j=>match j with | 5=>[27] | 9=>[27] | 13=>[27] | 21=>[27] | 24=>[21] | _=>[]),(fun j=>match j with | 21=>[27] | 24=>[21] | _=>[]),(fun j=>match j with | _=>none)⟩) [] [25,26,24,28] gr (by repeat (first | exact ai.nil | refine ai.cons _ _ _ rfl ?_)) ?_ (by kernel_rfl) (by kernel_rfl) (by kernel_rfl) ?_ ?_
    · show aq ([_]++([_]++([_]++(fU q s.kept++[])))) _;rw [List.append_nil];exact aq.refl _
    · refine ⟨?_,?_,?_,?_,?_,?_,?_,?_,?_,?_,?_,?_,?_,?_,?_,?_,?_,?_,?_,?_,?_,?_,?_,?_,?_,trivial⟩
      · (intro xx EF MF Q kk;(try refine JL.aU rfl rfl ?_);exact JL.q (OQ.move rfl) rfl (JL.nil (kk default nofun)))
      · (intro xx EF MF Q kk;(try refine JL.aU rfl rfl ?_);exact JL.q (OQ.move rfl) rfl (JL.nil (kk default nofun)))
      · (intro xx EF MF Q kk;(try refine JL.aU rfl rfl ?_);exact JL.q (OQ.move rfl) rfl (JL.nil (kk default nofun)))
      · (intro xx EF MF Q kk;(try refine JL.aU rfl rfl ?_);exact JL.q (OQ.cQ rfl) rfl (JL.nil (kk default nofun)))
      · (intro xx EF MF Q kk;(try refine JL.aU rfl rfl ?_);exact JL.q (OQ.bM rfl rfl rfl (by decide) rfl) rfl (JL.nil (kk default nofun)))
      · (intro xx EF MF Q kk;(try refine JL.aU rfl rfl ?_);exact JL.q (OQ.af (cs:=a1.map U8) aP aB rfl .here l1 (Row.cells r4)) rfl (JL.nil (kk default nofun)))
      · (intro xx EF MF Q kk;(try refine JL.aU rfl rfl ?_);exact JL.q (OQ.move rfl) rfl (JL.nil (kk default nofun)))
      · (intro xx EF MF Q kk;(try refine JL.aU rfl rfl ?_);exact JL.q (OQ.cQ rfl) rfl (JL.nil (kk default nofun)))
      · (intro xx EF MF Q kk;(try refine JL.aU rfl rfl ?_);exact JL.q (OQ.bM rfl rfl rfl (by decide) rfl) rfl (JL.nil (kk default nofun)))
      · (intro xx EF MF Q kk;(try refine JL.aU rfl rfl ?_);exact JL.q (OQ.af (cs:=fresh.map U8) aP aB rfl .here hlf (Row.cells o4)) rfl (JL.nil (kk default nofun)))
      · (intro xx EF MF Q kk;(try refine JL.aU rfl rfl ?_);exact JL.q (OQ.move rfl) rfl (JL.nil (kk default nofun)))
      · (intro xx EF MF Q kk;(try refine JL.aU rfl rfl ?_);exact JL.q (OQ.cQ rfl) rfl (JL.nil (kk default nofun)))
      · (intro xx EF MF Q kk;(try refine JL.aU rfl rfl ?_);exact JL.q (OQ.bM rfl rfl rfl (by decide) rfl) rfl (JL.nil (kk default nofun)))
      · (intro xx EF MF Q kk;(try refine JL.aU rfl rfl ?_);exact JL.q (OQ.af (cs:=ch.map U8) aP aB rfl .here hlc (Row.cells t4)) rfl (JL.nil (kk default nofun)))
      · (intro xx EF MF Q kk;(try refine JL.aU rfl rfl ?_);exact JL.q (OQ.au (vs:=[.agg (fresh.map U8).toArray,.agg (ch.map U8).toArray]) kC rfl fun w' _=>cM2 w') rfl (JL.nil (kk default nofun)))
      · (intro xx EF MF Q kk;(try refine JL.aU rfl rfl ?_);exact JL.q (OQ.au (vs:=[.agg (a1.map U8).toArray,.agg (m2.map U8).toArray]) sC rfl fun w' hw'=>cT2 w' (hT.g hw')) rfl (JL.nil (kk default nofun)))
      · (intro xx EF MF Q kk;(try refine JL.aU rfl rfl ?_);exact JL.q (OQ.move rfl) rfl (JL.nil (kk default nofun)))
      · (intro xx EF MF Q kk;(try refine JL.aU rfl rfl ?_);exact JL.q (OQ.extract rfl rfl) rfl (JL.nil (kk default nofun)))
      · (intro xx EF MF Q kk;(try refine JL.aU rfl rfl ?_);exact JL.q (OQ.extract rfl rfl) rfl (JL.nil (kk default nofun)))
      · (intro xx EF MF Q kk;(try refine JL.aU rfl rfl ?_);exact JL.q (OQ.cQ rfl) rfl (JL.nil (kk default nofun)))
      · (intro xx EF MF Q kk;(try refine JL.aU rfl rfl ?_);exact JL.q (OQ.bM rfl rfl rfl (by decide) rfl) rfl (JL.nil (kk default nofun)))
      · (intro xx EF MF Q kk;exact JL.aW (r:=sec s4 kv) (r':=sec s5 kv) aB rfl rfl l3 (aV _) .here (by rw [hn4,l3];decide) p5 (JL.nil (kk default nofun)))
      · (intro xx EF MF Q kk;(try refine JL.aU rfl rfl ?_);exact JL.q (OQ.cQ rfl) rfl (JL.nil (kk default nofun)))
      · (intro xx EF MF Q kk;(try refine JL.aU rfl rfl ?_);exact JL.q (OQ.bM rfl rfl rfl (by decide) rfl) rfl (JL.nil (kk default nofun)))
      · (intro xx EF MF Q kk;exact JL.aW (r:=sec s5 kv) (r':=sec s6 kv) aB rfl rfl l4 (aV _) .here (by rw [hn5,l4];decide) p6 (JL.nil (kk default nofun)))
    · intro xx hx
      show JE _ _ _ _ _ [(0,Pt b 0),(4,Pt b4 0),(5,Pt b5 0)] ([⟨b5,Row 23 (fresh.map U8),true⟩]++([⟨b4,Row 32 (hdc h),true⟩]++([⟨b,Row 26 (sec s6 kv),true⟩]++(fU q s.kept++[]))))
      rw [List.append_nil]
      clear hx xx vs Ms
      repeat (first | refine JL.q (by first|(apply OQ.move;rfl)|(apply OQ.cQ;rfl)|(apply OQ.bM;rfl;rfl;rfl;exact (by decide);rfl)) rfl ?_ | refine JC.seq ?_ | refine JC.region ?_ | refine JE.next ?_)
      refine JL.az (r:=sec s6 kv) (r':=sec s7 kv) vH rfl rfl rfl rfl (.there (.there .here)) (by rw [hn6];decide) p7 ?_
      repeat (refine JL.q (by first|(apply OQ.cQ;rfl)|(apply OQ.bM;rfl;rfl;rfl;exact (by decide);rfl)) rfl ?_)
      refine JL.az (r:=sec s7 kv) (r':=sec s8 kv) vH rfl rfl rfl rfl (.there (.there .here)) (by rw [hn7];decide) p8 ?_
      repeat (first | refine JL.q (by first|(apply OQ.load;exact bB;rfl;exact (.there (.there .here));exact (Row.cell e8))|(apply OQ.move;rfl)|(apply OQ.cQ;rfl)|(apply OQ.bM;rfl;rfl;rfl;exact (by decide);rfl)) rfl ?_ | refine JC.seq ?_ | refine JC.region ?_ | refine JL.nil ?_ | refine JE.next ?_)
      refine JL.az (r:=sec s8 kv) (r':=sec s9 kv) nt rfl rfl rfl rfl (.there (.there .here)) (by rw [hn8];decide) p9 ?_
      repeat (refine JL.q (by first|(apply OQ.cQ;rfl)|(apply OQ.bM;rfl;rfl;rfl;exact (by decide);rfl)) rfl ?_)
      refine JL.az (r:=sec s9 kv) (r':=sec s10 kv) nt rfl rfl rfl rfl (.there (.there .here)) (by rw [hn9];decide) p10 ?_
      repeat (refine JL.q (by first|(apply OQ.cQ;rfl)|(apply OQ.bM;rfl;rfl;rfl;exact (by decide);rfl)) rfl ?_)
      refine JL.az (r:=sec s10 kv) (r':=sec s11 kv) nt rfl rfl rfl rfl (.there (.there .here)) (by rw [hn10];decide) p11 ?_
      repeat (first | refine JL.q (by (apply OQ.assign;rfl)) rfl ?_ | refine JC.seq ?_ | refine JC.region ?_ | refine JL.nil ?_ | refine JE.next ?_)
      refine JC.ret ?_
      skip
      refine JE.aQ rfl (RV.tmp rfl) fun w' hw=>⟨⟨q,s11,0,k11,by rw [hkl];exact hq,.inr ⟨by rw [his,hend],rfl⟩⟩,rfl,?_⟩
      show ah w S (⟨b,Row 26 (sec s11 (aC q s11.kept.length)),true⟩::fU q s11.kept) w'
      rw [hkl,hkv]
      exact hw.weak (.drop _ _ _ (.drop _ _ _ (aq.refl _)))
end
section
set_option maxRecDepth 10000
open Sl g5 lz dO mP
open pT (Bk)
theorem Gi {q : Nat × Nat} {l : List Kp} {i : Nat} (hl : ∀ k ∈ l,k.ok) (hi : i<l.length) : ∀ o,Sl.aE 57 65 (aX l).length q.2 (aX l).flatten o→bD o (0+i * 65+33) ((l.getD i mQ).key.map U8):=by
  intro o ho
  have hk : l.getD i mQ ∈ l:=by
    rw [List.getD_eq_getElem?_getD,List.getElem?_eq_getElem hi]
    exact List.getElem_mem hi
  have hkk:=hl _ hk
  have h1:=Sl.aE.chunk (fE hl) (by rw [dV];exact hi) o ho
  rw [zU _ hi] at h1
  have h2:=qT (k:=33) (t:=32) h1 (by rw [ij hkk];decide)
  have h3:=AP hkk
  rw [List.length_map,hkk.k] at h3
  rw [h3] at h2
  rw [Nat.zero_add]
  exact h2
section
variable {n : Nat} {w0 : World} {S : List Nat} {ops : Array Oper} {Q : Exit→Act→World→Prop} {l : List Oper} {E : Env} {M : List aG} {d : Nat} {ty : TypeId} {pos : String} {aft : Array Edge} {x1 x2 x3 : Operand} {ats : Array TypeId} {b : Nat} {q : Acc} {s : bA}
theorem JL.KQ {h : Hd} {fresh : Bk} (hs : s.ok) (hq : q=none→s.kept=[]) (hk : s.kept.length≤2000) (hh : h.chain.length=32) (hpv : h.prev≤2147483647) (hf : fresh.length=32) (ht : s.taken≤2147483648) (hT : Tb S w0) (e1 : ev E x1=some (Pt b 0)) (e2 : ev E x2=some (.agg (hdc h).toArray)) (e3 : ev E x3=some (.agg (fresh.map U8).toArray)) (hd : Nat.blt d n=true)
    (kk : ∀ r : Jv (nU s h fresh),JL Tryz.prog n w0 S ops Q l ((d,N r.code)::E) (e7 b r.q r.s++M)) : JL Tryz.prog n w0 S ops Q (⟨some d,.call ⟨.value (.func 65),#[x1,x2,x3],ats⟩,ty,pos,aft,none⟩::l) E (e7 b q s++M):=
  JL.lV (ι:=Jv (nU s h fresh)) (xs:=[x1,x2,x3]) (vs:=[Pt b 0,.agg (hdc h).toArray,.agg (fresh.map U8).toArray]) (fun r=>N r.code) (fun r=>e7 b r.q r.s) B8 (by simp [mO,e1,e2,e3]) hd (dY _ _ _) (fun _=>dY _ _ _)
    (fun w' hw' hx'=>EJ b q s hs hq hk h hh hpv fresh hf ht w' (hT.own hw' (dY _ _ _)) hx') kk
theorem JL.KR (hs : s.ok) (ht : s.taken<9000000000000000000) (hT : Tb S w0) (e1 : ev E x1=some (Pt b 0)) (hd : Nat.blt d n=true)
    (kk : JL Tryz.prog n w0 S ops Q l ((d,.agg ((kD s.take).map U8).toArray)::E) (e7 b q (ee s)++M)) : JL Tryz.prog n w0 S ops Q (⟨some d,.call ⟨.value (.func 67),#[x1],ats⟩,ty,pos,aft,none⟩::l) E (e7 b q s++M):=
  JL.lV (ι:=Unit) (xs:=[x1]) (vs:=[Pt b 0]) (fun _=>.agg ((kD s.take).map U8).toArray) (fun _=>e7 b q (ee s)) sD (by simp [mO,e1]) hd (dY _ _ _) (fun _=>dY _ _ _)
    (fun w' hw' hx'=>(uo b q s hs ht w' (hT.own hw' (dY _ _ _)) hx').mono fun e w2 ⟨g1,g2⟩=>⟨(),g1,g2⟩) fun _=>kk
end
structure MR (o : Nat ⊕ (bA × Bk)) where
  q : Acc
  s : bA
  key : Bk
  code : Nat
  ok : s.ok
  nil : q=none→s.kept=[]
  kl : key.length=32
  is : (o=.inl code∧(code=11∨code=12))∨(o=.inr (s,key)∧code=0)
structure Nc (o : Option bA) where
  q : Acc
  s : bA
  ok : s.ok
  nil : q=none→s.kept=[]
  is : o=some s
  kl : s.kept.length≤2000
  tk : s.taken≤2147483648
theorem B9 : aK Tryz.prog 42:=⟨_,Tryz.func42,rfl,by kernel_rfl⟩
theorem Ca {q : Acc} {l : List Kp} (hq : q=none→l=[]) {i : Nat} (hi : i<l.length) : ∃ r,q=some r:=by
  cases q with
  | none=>rw [hq rfl] at hi;cases hi
  | some r=>exact ⟨r,rfl⟩
set_option maxHeartbeats 64000000 in
theorem EK (b : Nat) (q0 : Acc) (s0 : bA) (hs0 : s0.ok) (hq0 : q0=none→s0.kept=[]) (hk0 : s0.kept.length≤2000) (h : Hd) (hh : h.chain.length=32) (hpv : h.prev≤2147483647) (hnm : h.num≤2147483647) (fresh : Bk) (hf : fresh.length=32) (ht0 : s0.taken≤2147483648) (w : World) (hT : Tb (keys (e7 b q0 s0)) w) (h0 : ah w (keys (e7 b q0 s0)) (e7 b q0 s0) w) :
    Calls Tryz.prog 42 [Pt b 0,.agg (hdc h).toArray,.agg (fresh.map U8).toArray].toArray w fun e w'=>∃ r : MR (jO s0 h fresh),e=.returned (.tuple #[.agg (r.key.map U8).toArray,N r.code])∧ah w (keys (e7 b q0 s0)) (e7 b r.q r.s) w':=by
  generalize keys (e7 b q0 s0)=S at h0 hT ⊢
  have hlc : (h.chain.map U8).length=32:=by rw [List.length_map];exact hh
  have hlf : (fresh.map U8).length=32:=by rw [List.length_map];exact hf
  have hl34:=j3 hh
  have hlz : (dN.map U8).length=32:=rfl
  have hx0 : ∀ {h0b : Nat} (w' : World) (M : List aG),ah w S (M++fU q0 s0.kept) w'→(∃ o,w'.heap[h0b]?=some o∧Row 32 (hdc h) o)→Calls Tryz.prog 62 [aC q0 s0.kept.length,.func (.func 63) #[] [Pt h0b 0].toArray].toArray w' fun e w''=>e=.returned (.int .i64 (Me (sw h s0.kept)))∧Ext w' w'':=fun {h0b} w' M hw' hb=>by
    have:=Gg (sB q0 s0.kept) h0b h hh w' (AM hs0.kept (hw'.weak (M':=fU q0 s0.kept++[]) (by rw [List.append_nil];exact er M (aq.refl _)))) hb (by rw [vJ hq0];omega)
    rwa [vI,vJ hq0] at this
  refine enter (n:=80) Tryz.func42 rfl rfl rfl h0 ?_
  repeat (first | refine JC.seq ?_ | refine JC.region ?_)
  refine JL.box (r:=hdc h) rfl rfl rfl fun b4 _=>?_
  refine JL.box (r:=fresh.map U8) rfl rfl rfl fun b5 _=>?_
  refine JL.alloc gR rfl fun b6 _=>?_
  unfold e7
  have hkp : ∀ o,Row 26 (sec s0 (aC q0 s0.kept.length)) o→cellAt o 165=some (aC q0 s0.kept.length):=Row.cell (gO hs0 _)
  have hx:=fun (w' : World) (hw' : ah w S (⟨b6,Row 23 ((List.replicate 32 (0 : B)).map U8),true⟩::⟨b5,Row 23 (fresh.map U8),true⟩::⟨b4,Row 32 (hdc h),true⟩::⟨b,Row 26 (sec s0 (aC q0 s0.kept.length)),true⟩::fU q0 s0.kept) w')=>hx0 (h0b:=b4) w' [_,_,_,_] hw' (hw'.get (.there (.there .here)))
  clear hx0
  cases hix : sw h s0.kept with
  | some i=>
    rw [hix] at hx
    have hmk:=xF (fresh:=fresh) hix
    have hi : i<s0.kept.length:=by
      rw [sw,List.findIdx?_eq_some_iff_getElem] at hix
      exact hix.1
    obtain ⟨r,rfl⟩:=Ca hq0 hi
    have hge : decide ((0 : Int)≤((i : Nat) : Int))=true:=decide_eq_true (by omega)
    have hmem : s0.kept.getD i mQ ∈ s0.kept:=by
      rw [List.getD_eq_getElem?_getD,List.getElem?_eq_getElem hi]
      exact List.getElem_mem hi
    have hkey:=(hs0.kept _ hmem).k
    have hkc:=Gi (q:=r) hs0.kept hi
    generalize (s0.kept.getD i mQ).key=ky at hkey hkc hmk
    have hlk : (ky.map U8).length=32:=by rw [List.length_map];exact hkey
    have hav : aC (some r) s0.kept.length=.slice (some ⟨r.1,0,none⟩) s0.kept.length r.2:=rfl
    repeat (first | refine JL.q (by first|(apply OQ.load;exact iV;rfl;exact (.there (.there (.there .here)));exact hkp)|(apply OQ.MG (caps:=[Pt b4 0]);rfl)|(apply OQ.au (vs:=[aC (some r) s0.kept.length,.func (.func 63) #[] [Pt b4 0].toArray]);exact xK;rfl;exact hx)|(apply OQ.A4 (a:=((i : Nat) : Int)) (b:=0);rfl;rfl;exact hge)|(apply OQ.move;rfl)|(apply OQ.assign;rfl)|(apply OQ.cQ;rfl)|(apply OQ.bM;rfl;rfl;rfl;exact (by decide);rfl)) rfl ?_ | refine JC.seq ?_ | refine JC.region ?_ | refine JL.nil ?_ | refine JE.next ?_)
    refine JC.cond_true rfl rfl ?_
    repeat (first | refine JL.q (by first|(apply OQ.load;exact iV;rfl;exact (.there (.there (.there .here)));exact hkp)|(apply OQ.jS (i:=i) (len:=s0.kept.length) (cap:=r.2) (b:=r.1) (j:=0);exact Tryz.underlying24;exact ta;rfl;rfl;exact hi)|(apply OQ.af (cs:=ky.map U8);exact aP;exact aB;rfl;exact (.there (.there (.there (.there .here))));exact hlk;exact hkc)|(apply OQ.move;rfl)|(apply OQ.cQ;rfl)|(apply OQ.bM;rfl;rfl;rfl;exact (by decide);rfl)) rfl ?_ | refine JC.seq ?_ | refine JC.region ?_)
    refine JL.alloc gR rfl fun b9 _=>?_
    refine JL.ag (cs:=ky.map U8) aB rfl rfl hlk (aV _) .here (by simp) ?_
    have hdl:=fun (w' : World) (hx' : ah w' [r.1] (fU (some (r.1,r.2)) s0.kept) w')=>xJ r.1 r.2 s0.kept i (i+1) (by omega) (by omega) hs0.kept (by omega) w' hx'
    have her : s0.kept.take i++s0.kept.drop (i+1)=s0.kept.eraseIdx i:=(List.eraseIdx_eq_take_drop_succ ..).symm
    rw [her] at hdl
    have hok:=qk hs0 i
    have hset:=fun v'=>fo hs0 (aC (some r) s0.kept.length) (s0.kept.eraseIdx i) v'
    have hl166:=ay hs0 (aC (some r) s0.kept.length)
    generalize s0.kept.eraseIdx i=lk at *
    repeat (first | refine JL.q (by first|(apply OQ.load;exact iV;rfl;exact (.there (.there (.there (.there .here))));exact hkp)|(apply OQ.move;rfl)|(apply OQ.cQ;rfl)|(apply OQ.aY;rfl;rfl;exact (by (try simp only []);omega))|(apply OQ.bM;rfl;rfl;rfl;exact (by decide);rfl)) rfl ?_ | refine JC.seq ?_ | refine JC.region ?_ | refine JL.nil ?_ | refine JE.next ?_)
    refine JL.dz (M':=fU (some r) s0.kept++[⟨b9,Row 23 (ky.map U8),true⟩,⟨b6,Row 23 ((List.replicate 32 (0 : B)).map U8),true⟩,⟨b5,Row 23 (fresh.map U8),true⟩,⟨b4,Row 32 (hdc h),true⟩,⟨b,Row 26 (sec s0 (aC (some r) s0.kept.length)),true⟩]) (by exact List.perm_append_comm (l₁:=[_,_,_,_,_])) ?_
    refine JL.lV (ι:=Unit) (vs:=[.slice (some ⟨r.1,0,none⟩) s0.kept.length r.2,N i,N (i+1)]) (fun _=>.slice (some ⟨r.1,0,none⟩) lk.length r.2) (fun _=>fU (some (r.1,r.2)) lk) uq rfl rfl (ju _ _) (fun _=>ju _ _) (fun w' hw' hx'=>(hdl w' hx').mono fun e w2 ⟨g1,g2⟩=>⟨(),g1,g2⟩) fun _=>?_
    refine JL.dz (M':=⟨b9,Row 23 (ky.map U8),true⟩::⟨b6,Row 23 ((List.replicate 32 (0 : B)).map U8),true⟩::⟨b5,Row 23 (fresh.map U8),true⟩::⟨b4,Row 32 (hdc h),true⟩::⟨b,Row 26 (sec s0 (aC (some r) s0.kept.length)),true⟩::fU (some (r.1,r.2)) lk) (by exact List.perm_append_comm (l₂:=[_,_,_,_,_])) ?_
    repeat (refine JL.q (by first|(apply OQ.cQ;rfl)|(apply OQ.bM;rfl;rfl;rfl;exact (by decide);rfl)) rfl ?_)
    refine JL.az (r:=sec s0 (aC (some r) s0.kept.length)) (r':=sec { s0 with kept:=lk } (aC (some (r.1,r.2)) lk.length)) (v:=aC (some (r.1,r.2)) lk.length) B4 rfl rfl (gk _ _) (kG _ _) (.there (.there (.there (.there .here)))) (by rw [hl166];decide) (hset _) ?_
    repeat (first | refine JL.q (by (apply OQ.af (cs:=ky.map U8);exact aP;exact aB;rfl;exact .here;exact hlk;exact Row.all)) rfl ?_ | refine JC.seq ?_ | refine JC.region ?_ | refine JL.nil ?_ | refine JE.next ?_)
    refine JL.ag (cs:=ky.map U8) aB rfl rfl hlk (aV _) (.there .here) (by simp) ?_
    repeat (first | refine JL.q (by (apply OQ.assign;rfl)) rfl ?_ | refine JL.nil ?_ | refine JE.next ?_)
    refine JC.ret ?_
    repeat (refine JE.aH ?_)
    exact JE.gp rfl (RV.av aP aB rfl (.there .here) hlk Row.all) (RV.tmp rfl) fun w' hw=>⟨⟨some r,{ s0 with kept:=lk },ky,0,hok,nofun,hkey,.inr ⟨hmk,rfl⟩⟩,rfl,hw.weak (.drop _ _ _ (.drop _ _ _ (.drop _ _ _ (.drop _ _ _ (aq.refl _)))))⟩
  | none=>
    rw [hix] at hx
    have hge : decide ((0 : Int)≤(-1 : Int))=false:=rfl
    repeat (first | refine JL.q (by first|(apply OQ.load;exact iV;rfl;exact (.there (.there (.there .here)));exact hkp)|(apply OQ.MG (caps:=[Pt b4 0]);rfl)|(apply OQ.au (vs:=[aC q0 s0.kept.length,.func (.func 63) #[] [Pt b4 0].toArray]);exact xK;rfl;exact hx)|(apply OQ.A4 (a:=-1) (b:=0);rfl;rfl;exact hge)|(apply OQ.move;rfl)|(apply OQ.assign;rfl)|(apply OQ.cQ;rfl)|(apply OQ.bM;rfl;rfl;rfl;exact (by decide);rfl)) rfl ?_ | refine JC.seq ?_ | refine JC.region ?_ | refine JL.nil ?_ | refine JE.next ?_)
    refine JC.cond_false rfl rfl ?_
    refine JC.skip (JE.next ?_)
    clear hx hkp
    refine JC.mid (ι:=Nc (kE s0 h fresh)) (fun _=>[(0,Pt b 0),(4,Pt b4 0),(5,Pt b5 0),(6,Pt b6 0)]) (fun z=>⟨b6,Row 23 ((List.replicate 32 (0 : B)).map U8),true⟩::⟨b5,Row 23 (fresh.map U8),true⟩::⟨b4,Row 32 (hdc h),true⟩::e7 b z.q z.s) (fun _=>True) ?_ ?_
    · have hoc:=dW hs0 (aC q0 s0.kept.length)
      have hlo : (s0.other.map U8).length=32:=by rw [List.length_map];exact hs0.other
      have hcn:=eG hh
      by_cases he : h.chain=s0.other
      · cases htk : s0.takes
        case' false=>have hon : kE s0 h fresh=nU s0 h fresh:=by rw [kE,if_neg (by rw [htk];intro x;cases x.2)]
        case' true=>have hon : kE s0 h fresh=some s0:=by rw [kE,if_pos ⟨he,htk⟩]
        case' true=>have hld : ∀ o,Row 26 (sec s0 (aC q0 s0.kept.length)) o→cellAt o 97=some (.bool true):=by rw [← htk];exact Row.cell (gv hs0 _)
        case' false=>have hld : ∀ o,Row 26 (sec s0 (aC q0 s0.kept.length)) o→cellAt o 97=some (.bool false):=by rw [← htk];exact Row.cell (gv hs0 _)
        all_goals
          refine JC.seq ?_
          refine JC.quiet gr (by kernel_rfl) ?_
          repeat (first | refine JQ.q (by first|(apply OQ.af (cs:=h.chain.map U8);exact aP;exact aB;rfl;exact (.there (.there .here));exact hlc;exact (Row.cells hcn))|(apply OQ.af (cs:=s0.other.map U8);exact aP;exact aB;rfl;exact (.there (.there (.there .here)));exact hlo;exact (Row.cells hoc))|(apply OQ.tE (r:=h.chain) (q:=s0.other);exact Tryz.underlying23;exact Tryz.underlying5;exact kM;exact lW;rfl;rfl;exact hh;exact hs0.other;exact he)|(apply OQ.load;exact gj;rfl;exact (.there (.there (.there .here)));exact hld)|(apply OQ.not;rfl)|(apply OQ.dK;rfl;rfl)|(apply OQ.move;rfl)|(apply OQ.cQ;rfl)|(apply OQ.bM;rfl;rfl;rfl;exact (by decide);rfl)) rfl ?_ | refine JQ.nil ?_ | refine JE.next ?_ | refine JQ.aU rfl rfl ?_)
        · refine JC.cond_true rfl rfl ?_
          repeat (first | refine JL.q (by first|(apply OQ.af (cs:=hdc h);exact B2;exact ql;rfl;exact (.there (.there .here));exact hl34;exact Row.all)|(apply OQ.af (cs:=fresh.map U8);exact aP;exact aB;rfl;exact (.there .here);exact hlf;exact Row.all)|(apply OQ.move;rfl)) rfl ?_ | refine JC.seq ?_ | refine JC.region ?_)
          refine JL.dz (M':=e7 b q0 s0++[⟨b6,Row 23 ((List.replicate 32 (0 : B)).map U8),true⟩,⟨b5,Row 23 (fresh.map U8),true⟩,⟨b4,Row 32 (hdc h),true⟩]) (by exact List.perm_append_comm (l₁:=[_,_,_])) ?_
          refine JL.KQ hs0 hq0 hk0 hh hpv hf ht0 hT rfl rfl rfl rfl fun r=>?_
          obtain ⟨q2,s2,cd,hs2,hq2,his⟩:=r
          dsimp only
          refine JL.dz (M':=[⟨b6,Row 23 ((List.replicate 32 (0 : B)).map U8),true⟩,⟨b5,Row 23 (fresh.map U8),true⟩,⟨b4,Row 32 (hdc h),true⟩]++e7 b q2 s2) (by exact List.perm_append_comm) ?_
          rcases his with ⟨hn,rfl⟩ | ⟨hn,rfl⟩
          · repeat (first | refine JL.q (by first|(apply OQ.qo (a:=12) (b:=0) (c:=false);rfl;rfl;rfl)|(apply OQ.move;rfl)|(apply OQ.assign;rfl)) rfl ?_ | refine JC.seq ?_ | refine JC.region ?_ | refine JL.nil ?_ | refine JE.next ?_)
            refine JC.cond_true rfl rfl ?_
            repeat (first | refine JC.seq ?_ | refine JC.region ?_)
            refine JL.q (OQ.pure (v:=.agg (dN.map U8).toArray) rfl rfl (by kernel_rfl)) rfl ?_
            repeat (refine JL.q (by (apply OQ.move;rfl)) rfl ?_)
            refine JL.ag (cs:=dN.map U8) aB rfl rfl hlz (aV _) .here (by simp) ?_
            repeat (first | refine JL.q (by (apply OQ.assign;rfl)) rfl ?_ | refine JL.nil ?_ | refine JE.next ?_)
            refine JC.ret ?_
            repeat (refine JE.aH ?_)
            exact JE.gp rfl (RV.av aP aB rfl .here hlz Row.all) (RV.tmp rfl) fun w' hw=>⟨⟨q2,s2,dN,12,hs2,hq2,rfl,.inl ⟨sy hix (hon.trans hn),.inr rfl⟩⟩,rfl,hw.weak (.drop _ _ _ (.drop _ _ _ (.drop _ _ _ (aq.refl _))))⟩
          · have hnk:=vG hs0 hh hf hk0 hn
            repeat (first | refine JL.q (by first|(apply OQ.qo (a:=0) (b:=0) (c:=true);rfl;rfl;rfl)|(apply OQ.move;rfl)|(apply OQ.assign;rfl)) rfl ?_ | refine JC.seq ?_ | refine JC.region ?_ | refine JL.nil ?_ | refine JE.next ?_)
            refine JC.cond_false rfl rfl ?_
            repeat (refine JC.skip ?_)
            exact JE.mid ⟨q2,s2,hs2,hq2,hon.trans hn,hnk.2.1,by rw [hnk.2.2];exact Nat.zero_le _⟩ trivial (by repeat (first | exact ai.nil | refine ai.cons _ _ _ rfl ?_)) (aq.refl _)
        · refine JC.cond_false rfl rfl ?_
          repeat (refine JC.skip ?_)
          exact JE.mid ⟨q0,s0,hs0,hq0,hon,hk0,ht0⟩ trivial (by repeat (first | exact ai.nil | refine ai.cons _ _ _ rfl ?_)) (aq.refl _)
      · have hon : kE s0 h fresh=nU s0 h fresh:=by rw [kE,if_neg (fun x=>he x.1)]
        refine JC.seq ?_
        refine JC.quiet gr (by kernel_rfl) ?_
        repeat (first | refine JQ.q (by first|(apply OQ.af (cs:=h.chain.map U8);exact aP;exact aB;rfl;exact (.there (.there .here));exact hlc;exact (Row.cells hcn))|(apply OQ.af (cs:=s0.other.map U8);exact aP;exact aB;rfl;exact (.there (.there (.there .here)));exact hlo;exact (Row.cells hoc))|(apply OQ.JN (r:=h.chain) (q:=s0.other);exact Tryz.underlying23;exact Tryz.underlying5;exact kM;exact lW;rfl;rfl;exact hh;exact hs0.other;exact he)|(apply OQ.eP;rfl;rfl)|(apply OQ.move;rfl)|(apply OQ.cQ;rfl)|(apply OQ.bM;rfl;rfl;rfl;exact (by decide);rfl)) rfl ?_ | refine JQ.nil ?_ | refine JE.next ?_ | refine JQ.iX rfl rfl rfl rfl ?_)
        refine JC.cond_true rfl rfl ?_
        repeat (first | refine JL.q (by first|(apply OQ.af (cs:=hdc h);exact B2;exact ql;rfl;exact (.there (.there .here));exact hl34;exact Row.all)|(apply OQ.af (cs:=fresh.map U8);exact aP;exact aB;rfl;exact (.there .here);exact hlf;exact Row.all)|(apply OQ.move;rfl)) rfl ?_ | refine JC.seq ?_ | refine JC.region ?_)
        refine JL.dz (M':=e7 b q0 s0++[⟨b6,Row 23 ((List.replicate 32 (0 : B)).map U8),true⟩,⟨b5,Row 23 (fresh.map U8),true⟩,⟨b4,Row 32 (hdc h),true⟩]) (by exact List.perm_append_comm (l₁:=[_,_,_])) ?_
        refine JL.KQ hs0 hq0 hk0 hh hpv hf ht0 hT rfl rfl rfl rfl fun r=>?_
        obtain ⟨q2,s2,cd,hs2,hq2,his⟩:=r
        dsimp only
        refine JL.dz (M':=[⟨b6,Row 23 ((List.replicate 32 (0 : B)).map U8),true⟩,⟨b5,Row 23 (fresh.map U8),true⟩,⟨b4,Row 32 (hdc h),true⟩]++e7 b q2 s2) (by exact List.perm_append_comm) ?_
        rcases his with ⟨hn,rfl⟩ | ⟨hn,rfl⟩
        · repeat (first | refine JL.q (by first|(apply OQ.qo (a:=12) (b:=0) (c:=false);rfl;rfl;rfl)|(apply OQ.move;rfl)|(apply OQ.assign;rfl)) rfl ?_ | refine JC.seq ?_ | refine JC.region ?_ | refine JL.nil ?_ | refine JE.next ?_)
          refine JC.cond_true rfl rfl ?_
          repeat (first | refine JC.seq ?_ | refine JC.region ?_)
          refine JL.q (OQ.pure (v:=.agg (dN.map U8).toArray) rfl rfl (by kernel_rfl)) rfl ?_
          repeat (refine JL.q (by (apply OQ.move;rfl)) rfl ?_)
          refine JL.ag (cs:=dN.map U8) aB rfl rfl hlz (aV _) .here (by simp) ?_
          repeat (first | refine JL.q (by (apply OQ.assign;rfl)) rfl ?_ | refine JL.nil ?_ | refine JE.next ?_)
          refine JC.ret ?_
          repeat (refine JE.aH ?_)
          exact JE.gp rfl (RV.av aP aB rfl .here hlz Row.all) (RV.tmp rfl) fun w' hw=>⟨⟨q2,s2,dN,12,hs2,hq2,rfl,.inl ⟨sy hix (hon.trans hn),.inr rfl⟩⟩,rfl,hw.weak (.drop _ _ _ (.drop _ _ _ (.drop _ _ _ (aq.refl _))))⟩
        · have hnk:=vG hs0 hh hf hk0 hn
          repeat (first | refine JL.q (by first|(apply OQ.qo (a:=0) (b:=0) (c:=true);rfl;rfl;rfl)|(apply OQ.move;rfl)|(apply OQ.assign;rfl)) rfl ?_ | refine JC.seq ?_ | refine JC.region ?_ | refine JL.nil ?_ | refine JE.next ?_)
          refine JC.cond_false rfl rfl ?_
          repeat (refine JC.skip ?_)
          exact JE.mid ⟨q2,s2,hs2,hq2,hon.trans hn,hnk.2.1,by rw [hnk.2.2];exact Nat.zero_le _⟩ trivial (by repeat (first | exact ai.nil | refine ai.cons _ _ _ rfl ?_)) (aq.refl _)
    rintro ⟨q,s,hs,hq,hon,hk,htk⟩ _
    dsimp only
    have hnum : ∀ o,Row 32 (hdc h) o→cellAt o 33=some (N h.num):=Row.cell (j4 hh)
    have htkn : ∀ o,Row 26 (sec s (aC q s.kept.length)) o→cellAt o 163=some (N s.taken):=Row.cell (dG hs _)
    unfold e7
    refine JC.seq ?_
    try refine JC.seq ?_
    refine JC.quiet gr (by kernel_rfl) ?_
    by_cases hold : h.num<s.taken
    · repeat (first | refine JQ.q (by first|(apply OQ.load;exact bB;rfl;exact (.there (.there .here));exact hnum)|(apply OQ.load;exact bB;rfl;exact (.there (.there (.there .here)));exact htkn)|(apply OQ.g9 (a:=h.num) (b:=s.taken);rfl;rfl;exact hold)|(apply OQ.move;rfl)|(apply OQ.cQ;rfl)|(apply OQ.bM;rfl;rfl;rfl;exact (by decide);rfl)) rfl ?_ | refine JQ.nil ?_ | refine JE.next ?_)
      refine JC.cond_true rfl rfl ?_
      repeat (first | refine JC.seq ?_ | refine JC.region ?_)
      refine JL.q (OQ.pure (v:=.agg (dN.map U8).toArray) rfl rfl (by kernel_rfl)) rfl ?_
      refine JL.ag (cs:=dN.map U8) aB rfl rfl hlz (aV _) .here (by simp) ?_
      repeat (first | refine JL.q (by (apply OQ.assign;rfl)) rfl ?_ | refine JL.nil ?_ | refine JE.next ?_)
      refine JC.ret ?_
      repeat (refine JE.aH ?_)
      exact JE.gp rfl (RV.av aP aB rfl .here hlz Row.all) (RV.tmp rfl) fun w' hw=>⟨⟨q,s,dN,11,hs,hq,rfl,.inl ⟨AH hix hon hold,.inl rfl⟩⟩,rfl,hw.weak (.drop _ _ _ (.drop _ _ _ (.drop _ _ _ (aq.refl _))))⟩
    · repeat (first | refine JQ.q (by first|(apply OQ.load;exact bB;rfl;exact (.there (.there .here));exact hnum)|(apply OQ.load;exact bB;rfl;exact (.there (.there (.there .here)));exact htkn)|(apply OQ.gu (a:=h.num) (b:=s.taken);rfl;rfl;exact hold)|(apply OQ.move;rfl)|(apply OQ.cQ;rfl)|(apply OQ.bM;rfl;rfl;rfl;exact (by decide);rfl)) rfl ?_ | refine JQ.nil ?_ | refine JE.next ?_)
      refine JC.cond_false rfl rfl ?_
      repeat (first | refine JL.q (by first|(apply OQ.load;exact bB;rfl;exact (.there (.there .here));exact hnum)|(apply OQ.move;rfl)|(apply OQ.bM;rfl;rfl;rfl;exact (by decide);rfl)) rfl ?_ | refine JC.seq ?_ | refine JC.region ?_ | refine JC.skip ?_ | refine JE.next ?_)
      refine JL.dz (M':=e7 b q s++[⟨b6,Row 23 ((List.replicate 32 (0 : B)).map U8),true⟩,⟨b5,Row 23 (fresh.map U8),true⟩,⟨b4,Row 32 (hdc h),true⟩]) (by exact List.perm_append_comm (l₁:=[_,_,_])) ?_
      refine JL.MQ hs hq hk hnm htk hT rfl rfl rfl fun r=>?_
      obtain ⟨q2,s2,cd,hs2,hq2,his⟩:=r
      dsimp only
      refine JL.dz (M':=[⟨b6,Row 23 ((List.replicate 32 (0 : B)).map U8),true⟩,⟨b5,Row 23 (fresh.map U8),true⟩,⟨b4,Row 32 (hdc h),true⟩]++e7 b q2 s2) (by exact List.perm_append_comm) ?_
      rcases his with ⟨hn,rfl⟩ | ⟨hn,rfl⟩
      · repeat (first | refine JL.q (by first|(apply OQ.qo (a:=12) (b:=0) (c:=false);rfl;rfl;rfl)|(apply OQ.move;rfl)|(apply OQ.assign;rfl)) rfl ?_ | refine JC.seq ?_ | refine JC.region ?_ | refine JL.nil ?_ | refine JE.next ?_)
        refine JC.cond_true rfl rfl ?_
        repeat (first | refine JC.seq ?_ | refine JC.region ?_)
        refine JL.q (OQ.pure (v:=.agg (dN.map U8).toArray) rfl rfl (by kernel_rfl)) rfl ?_
        repeat (refine JL.q (by (apply OQ.move;rfl)) rfl ?_)
        refine JL.ag (cs:=dN.map U8) aB rfl rfl hlz (aV _) .here (by simp) ?_
        repeat (first | refine JL.q (by (apply OQ.assign;rfl)) rfl ?_ | refine JL.nil ?_ | refine JE.next ?_)
        refine JC.ret ?_
        repeat (refine JE.aH ?_)
        exact JE.gp rfl (RV.av aP aB rfl .here hlz Row.all) (RV.tmp rfl) fun w' hw=>⟨⟨q2,s2,dN,12,hs2,hq2,rfl,.inl ⟨AI hix hon hold hn,.inr rfl⟩⟩,rfl,hw.weak (.drop _ _ _ (.drop _ _ _ (.drop _ _ _ (aq.refl _))))⟩
      · have htk2 : s2.taken=max s.taken h.num:=(lR hs hn).2.2
        repeat (first | refine JL.q (by first|(apply OQ.qo (a:=0) (b:=0) (c:=true);rfl;rfl;rfl)|(apply OQ.move;rfl)|(apply OQ.assign;rfl)) rfl ?_ | refine JC.seq ?_ | refine JC.region ?_ | refine JL.nil ?_ | refine JE.next ?_)
        refine JC.cond_false rfl rfl ?_
        repeat (first | refine JL.q (by (apply OQ.move;rfl)) rfl ?_ | refine JC.seq ?_ | refine JC.region ?_ | refine JC.skip ?_ | refine JE.next ?_)
        refine JL.dz (M':=e7 b q2 s2++[⟨b6,Row 23 ((List.replicate 32 (0 : B)).map U8),true⟩,⟨b5,Row 23 (fresh.map U8),true⟩,⟨b4,Row 32 (hdc h),true⟩]) (by exact List.perm_append_comm (l₁:=[_,_,_])) ?_
        refine JL.KR hs2 (by omega) hT rfl rfl ?_
        refine JL.dz (M':=[⟨b6,Row 23 ((List.replicate 32 (0 : B)).map U8),true⟩,⟨b5,Row 23 (fresh.map U8),true⟩,⟨b4,Row 32 (hdc h),true⟩]++e7 b q2 (ee s2)) (by exact List.perm_append_comm) ?_
        have hlm : ((kD s2.take).map U8).length=32:=rfl
        refine JL.ag (cs:=(kD s2.take).map U8) aB rfl rfl hlm (aV _) .here (by simp) ?_
        repeat (first | refine JL.q (by (apply OQ.assign;rfl)) rfl ?_ | refine JL.nil ?_ | refine JE.next ?_)
        refine JC.ret ?_
        skip
        exact JE.gp rfl (RV.av aP aB rfl .here hlm Row.all) (RV.tmp rfl) fun w' hw=>⟨⟨q2,ee s2,kD s2.take,0,oM hs2,hq2,rfl,.inr ⟨AJ hix hon hold hn,rfl⟩⟩,rfl,hw.weak (.drop _ _ _ (.drop _ _ _ (.drop _ _ _ (aq.refl _))))⟩
end
section
set_option maxRecDepth 10000
open Sl
theorem OQ.isNil {P : Program} {n : Nat} {E : Env} {C : World→Prop} {dst : Option Tmp} {t t' ty e : TypeId} {pos : String} {aft : Array Edge} {g : Option (Nat × Bool)} {x y : Operand} {ad : Option Addr} {k cap : Nat} (hu : P.underlying t=some (.slice e)) (hx : ev E x=some (.slice ad k cap)) (hy : ev E y=some (.slice none 0 0)) :
    OQ P n E C ⟨dst,.binOp .eql t x y t',ty,pos,aft,g⟩ (.bool ad.isNone):=
  OQ.run fun c ha w _=>by
    have h1:=ha.eval hx
    have h2:=ha.eval hy
    have h4 : (binOp .eql t (.slice ad k cap) (.slice none 0 0)).run P w=.ok (.bool ad.isNone) w:=by
      show (do pure (.bool (← Op.equal t (.slice ad k cap) (.slice none 0 0))) : Sem Value).run P w=_
      simp [Sem.run_bind,run_equal_slice_nil w t e ad k cap hu]
    simp [execOp,h1,h2,eqGuard,h4]
theorem zy : aK Tryz.prog 23:=⟨_,Tryz.func23,rfl,by kernel_rfl⟩
set_option maxHeartbeats 4000000 in
theorem Cb (s : aM) (w : World) (hs : s.ok w) (hl : s.l.length≤4294967296) : Calls Tryz.prog 23 [s.v].toArray w fun e w'=>∃ q : Acc,e=.returned (aC q s.l.length)∧(q=none→s.l=[])∧ah w [] (bR 5 q (s.l.map U8)) w':=by
  refine enter (n:=8) Tryz.func23 rfl rfl rfl (ah.start w []) ?_
  obtain ⟨ad,cap,l⟩:=s
  cases ad with
  | none=>
    have h0 : l=[]:=by
      cases l with
      | nil=>rfl
      | cons c l=>
        obtain ⟨b,j,h1,_⟩:=hs.reads.at (by simp)
        cases h1
    repeat (first | refine JL.q (by first|(apply OQ.isNil;exact Tryz.underlying27;rfl;rfl)|(apply OQ.move;rfl)|(apply OQ.assign;rfl)) rfl ?_ | refine JC.seq ?_ | refine JC.region ?_ | refine JL.nil ?_ | refine JE.next ?_)
    refine JC.cond_true rfl rfl ?_
    repeat (first | refine JL.q (by (apply OQ.assign;rfl)) rfl ?_ | refine JC.seq ?_ | refine JC.region ?_ | refine JL.nil ?_ | refine JE.next ?_)
    refine JC.ret ?_
    repeat (refine JE.aH ?_)
    exact JE.aQ rfl (RV.tmp rfl) fun w' hw=>⟨none,rfl,fun _=>h0,hw⟩
  | some ad=>
    repeat (first | refine JL.q (by first|(apply OQ.isNil;exact Tryz.underlying27;rfl;rfl)|(apply OQ.move;rfl)|(apply OQ.assign;rfl)) rfl ?_ | refine JC.seq ?_ | refine JC.region ?_ | refine JL.nil ?_ | refine JE.next ?_)
    refine JC.cond_false rfl rfl ?_
    repeat (first | refine JC.seq ?_ | refine JC.region ?_ | refine JC.skip ?_ | refine JE.next ?_)
    refine JL.CR Tryz.underlying27 zS rfl fun b0 _=>?_
    repeat (refine JL.q (by (apply OQ.move;rfl)) rfl ?_)
    refine JL.append (cs:=l.map U8) (m:=l.length) (ad:=some ad) (sc:=cap) (xs:=[]) (fun b' cap'=>[⟨b',Sl.aE 5 1 (0+l.length) cap' ([]++l.map U8),true⟩]) Tryz.underlying27 zS rfl rfl (by intro _ _;repeat (first | exact aZ.here | apply aZ.there)) (by simp) (fun w' hw'=>(hs.holds hw' rfl).reads) (JU _) rfl (by decide) (by simp only [] at hl;omega) (by simp only [] at hl;omega) rfl fun b1 cap1=>?_
    rw [Nat.zero_add,List.nil_append]
    repeat (first | refine JL.q (by (apply OQ.assign;rfl)) rfl ?_ | refine JL.nil ?_ | refine JE.next ?_)
    refine JC.ret (JE.aQ rfl (RV.tmp rfl) fun w' hw=>⟨some (b1,cap1),rfl,(fun h=>by cases h),?_⟩)
    show ah w [] [⟨b1,Sl.aE 5 1 (l.map U8).length cap1 (l.map U8),true⟩] w'
    rw [List.length_map]
    exact hw
end
section
set_option maxRecDepth 10000
open Sl g5 lz dO mP
open pT (Bk)
def Cc (s : aM) (S : List Nat) : Prop:=s.l≠[]→∀ a,s.ad=some a→a.block ∉ S
theorem aM.ok.off {w0 w : World} {S : List Nat} {M : List aG} {s : aM} (h : s.ok w0) (hw : ah w0 S M w) (ha : Cc s S) : s.ok w:=
  ⟨h.len,hw.reads h.reads fun h0 a e=>ha (fun h1=>h0 (by rw [h1];rfl)) a e⟩
theorem AR {w0 w : World} {S : List Nat} {X M : List aG} {s : aM} (hw : ah w0 S (X++M) w) (hX : ∀ e ∈ X,e.wr=true) (hs : s.ok w0) (ho : Cc s S) : Cc s (keys X):=by
  intro h0 a ha hm
  obtain ⟨e,he,hb⟩:=List.mem_map.1 hm
  have h1:=hs.lt h0 a ha
  rcases (hw.all e (List.mem_append_left _ he)).2 (hX e he) with h | h
  · rw [hb] at h;exact ho h0 a ha h
  · omega
theorem AS (s : aM) : Cc s []:=fun _ _ _=>by simp
theorem Cc.snd {s : aM} {S : List Nat} (h : Cc s S) (m : Nat) : Cc (s.snd m) S:=by
  intro h0 a ha
  have h1 : s.l≠[]:=fun e=>h0 (by show s.l.drop m=[];rw [e,List.drop_nil])
  cases hs : s.ad with
  | none=>
    simp only [aM.snd,hs] at ha
    split at ha <;> cases ha
  | some p=>
    have h2:=h h1 p hs
    simp only [aM.snd,hs] at ha
    split at ha
    · cases ha;exact h2
    · cases ha
      obtain ⟨pb,po,ps⟩:=p
      by_cases hm : m=0 <;> cases ps <;> simpa [Addr.add,hm] using h2
theorem OQ.I7 {n : Nat} {w0 : World} {S : List Nat} {M : List aG} {E : Env} {dst : Option Tmp} {ty t : TypeId} {pos : String} {aft : Array Edge} {g : Option (Nat × Bool)} {x : Operand} {s : aM} {m : Nat} (hs : s.ok w0) (ho : Cc s S) (hl : m≤s.l.length) (h0 : 0<m) (hz : dJ Tryz.prog t=some m) (ha : gm Tryz.prog t=true) (hx : ev E x=some (.pointer s.ad)) :
    OQ Tryz.prog n E (ah w0 S M) ⟨dst,.load t x,ty,pos,aft,g⟩ (.agg ((s.l.take m).map U8).toArray):=by
  obtain ⟨b,j,hae,hca⟩:=hs.reads.at (by simp;omega)
  rw [hae] at hx
  have hlm : ((s.l.take m).map U8).length=m:=by rw [List.length_map,List.length_take,Nat.min_eq_left hl]
  refine OQ.cO ha hx (by rw [hlm];exact hz) (block_lt_of_cell (hca 0 _ (dj U8 0 (by omega)))) (ho (fun e=>by rw [e] at hl;simp at hl;omega) _ hae) fun i u hu=>?_
  rw [List.map_take,List.getElem?_take] at hu
  split at hu
  · exact hca i u hu
  · cases hu
theorem I8 (s : aM) (m : Nat) : (s.fst m).ad=s.ad:=by
  unfold aM.fst
  dsimp only
  split
  · rfl
  · cases s.ad with
    | none=>rfl
    | some a=>rw [Option.map_some,Addr.add_zero']
theorem Gj : ie Tryz.prog 27=true:=by kernel_rfl
theorem Mh : dJ Tryz.prog 59=some 1:=by kernel_rfl
theorem Mj : zc Tryz.prog 59=some [.slice none 0 0]:=by kernel_rfl
theorem Cd : aK Tryz.prog 20:=⟨_,Tryz.func20,rfl,by kernel_rfl⟩
theorem uu : aK Tryz.prog 21:=⟨_,Tryz.func21,rfl,by kernel_rfl⟩
set_option maxHeartbeats 8000000 in
theorem EL (bc : Nat) (s : aM) (hl : 32≤s.l.length) (w : World) (hs : s.ok w) (ho : Cc s [bc]) (h0 : ah w [bc] [⟨bc,Row 59 [s.v],true⟩] w) :
    Calls Tryz.prog 20 [Pt bc 0].toArray w fun e w'=>e=.returned (.agg ((s.l.take 32).map U8).toArray)∧ah w [bc] [⟨bc,Row 59 [(s.snd 32).v],true⟩] w':=by
  have hlm : ((s.l.take 32).map U8).length=32:=by rw [List.length_map,List.length_take,Nat.min_eq_left hl]
  have had:=I8 s 32
  refine enter (n:=20) Tryz.func20 rfl rfl rfl h0 ?_
  refine JC.seq (JC.region (JL.alloc gR rfl fun b2 _=>?_))
  repeat (first | refine JL.q (by first|(apply OQ.load (v:=s.v);exact Gj;rfl;exact (.there .here);exact (Row.cell rfl))|(apply OQ.fst (s:=s) (m:=32);exact Tryz.underlying27;exact kM;rfl;rfl;exact hl;exact hs.len)|(apply OQ.arr (k:=32) (ad:=(s.fst 32).ad) (len:=(s.fst 32).l.length) (cap:=(s.fst 32).cap);exact Tryz.underlying23;rfl;exact (by show 32≤(s.l.take 32).length;rw [List.length_take];omega))|(apply OQ.move;rfl)|(apply OQ.cQ;rfl)|(apply OQ.bM;rfl;rfl;rfl;exact (by decide);rfl)) rfl ?_ | refine JC.seq ?_ | refine JC.region ?_ | refine JL.nil ?_ | refine JE.next ?_)
  rw [had]
  repeat (refine JL.q (by (apply OQ.I7 (s:=s) (m:=32);exact hs;exact ho;exact hl;exact (by decide);exact aB;exact aP;rfl)) rfl ?_)
  refine JL.alloc gR rfl fun b3 _=>?_
  refine JL.ag (cs:=(s.l.take 32).map U8) aB rfl rfl hlm (aV _) .here (by simp) ?_
  repeat (first | refine JL.q (by first|(apply OQ.load (v:=s.v);exact Gj;rfl;exact (.there (.there .here));exact (Row.cell rfl))|(apply OQ.snd (s:=s) (m:=32);exact Tryz.underlying27;exact kM;rfl;rfl;exact hl)|(apply OQ.move;rfl)|(apply OQ.cQ;rfl)|(apply OQ.bM;rfl;rfl;rfl;exact (by decide);rfl)) rfl ?_ | refine JC.seq ?_ | refine JC.region ?_ | refine JL.nil ?_ | refine JE.next ?_)
  refine JL.az (r:=[s.v]) (r':=[(s.snd 32).v]) Gc rfl rfl rfl rfl (.there (.there .here)) (show 0<1 from Nat.zero_lt_one) rfl ?_
  repeat (first | refine JL.q (by (apply OQ.af (cs:=(s.l.take 32).map U8);exact aP;exact aB;rfl;exact .here;exact hlm;exact Row.all)) rfl ?_ | refine JC.seq ?_ | refine JC.region ?_ | refine JL.nil ?_ | refine JE.next ?_)
  refine JL.ag (cs:=(s.l.take 32).map U8) aB rfl rfl hlm (aV _) (.there .here) (by simp) ?_
  repeat (first | refine JL.nil ?_ | refine JE.next ?_)
  refine JC.ret (JE.aQ rfl (RV.av aP aB rfl (.there .here) hlm Row.all) ?_)
  exact fun w' hw=>⟨rfl,hw.weak (.drop _ _ _ (.drop _ _ _ (aq.refl _)))⟩
set_option maxHeartbeats 8000000 in
theorem xL (bc : Nat) (s : aM) (hl : 4≤s.l.length) (w : World) (hs : s.ok w) (ho : Cc s [bc]) (h0 : ah w [bc] [⟨bc,Row 59 [s.v],true⟩] w) :
    Calls Tryz.prog 21 [Pt bc 0].toArray w fun e w'=>e=.returned (N (ia.cU (s.l.take 4)))∧ah w [bc] [⟨bc,Row 59 [(s.snd 4).v],true⟩] w':=by
  have hlt : (s.l.take 4).length=4:=by rw [List.length_take,Nat.min_eq_left hl]
  have hn:=ia.vU (l:=s.l.take 4) (by omega)
  have hlt2:=ia.qJ (l:=s.l.take 4) (by omega)
  rw [hlt] at hlt2
  have cN:=fun (w' : World) (M : List aG) (hw' : ah w [bc] M w')=>wJ (s.fst 4) w' ((hs.off hw' ho).fst 4) (by show (s.l.take 4).length≤_;omega)
  rw [show (s.fst 4).l=s.l.take 4 from rfl] at cN
  refine enter (n:=20) Tryz.func21 rfl rfl rfl h0 ?_
  repeat (first | refine JL.q (by first|(apply OQ.load (v:=s.v);exact Gj;rfl;exact .here;exact (Row.cell rfl))|(apply OQ.fst (s:=s) (m:=4);exact Tryz.underlying27;exact kM;rfl;rfl;exact hl;exact hs.len)|(apply OQ.au (vs:=[(s.fst 4).v]);exact uT;rfl;exact (fun w' hw'=>cN w' _ hw'))|(apply OQ.snd (s:=s) (m:=4);exact Tryz.underlying27;exact kM;rfl;rfl;exact hl)|(apply OQ.move;rfl)|(apply OQ.assign;rfl)|(apply OQ.cQ;rfl)|(apply OQ.bM;rfl;rfl;rfl;exact (by decide);rfl)) rfl ?_ | refine JC.seq ?_ | refine JC.region ?_ | refine JL.nil ?_ | refine JE.next ?_)
  refine JL.az (r:=[s.v]) (r':=[(s.snd 4).v]) Gc rfl rfl rfl rfl .here (show 0<1 from Nat.zero_lt_one) rfl ?_
  repeat (first | refine JL.q (by first|(apply OQ.to;exact (OQ.qO Tryz.underlying84 Tryz.underlying3 rfl (by rw [hn];omega));exact (congrArg N hn))|(apply OQ.move;rfl)|(apply OQ.assign;rfl)) rfl ?_ | refine JC.seq ?_ | refine JC.region ?_ | refine JL.nil ?_ | refine JE.next ?_)
  refine JC.ret (JE.aQ rfl (RV.tmp rfl) ?_)
  exact fun w' hw=>⟨rfl,hw⟩
theorem xM (c : Bk) (p m : Nat) (hc : c.length=32) : Tryz.prog.built 32 ([0,1,2].zip [.agg (c.map U8).toArray,N p,N m])=some (hdc ⟨c,p,m⟩).toArray:=by
  have h : Tryz.prog.built 32 ([0,1,2].zip [.agg (c.map U8).toArray,N p,N m])=Instr.fill (fun i=>#[(0,32),(32,1),(33,1)][i]?) (hdc bN).toArray [(0,.agg (c.map U8).toArray),(1,N p),(2,N m)]:=by kernel_rfl
  rw [h,dy (off:=0) (sz:=32) (cs:=c.map U8) rfl rfl (by simp [hc]) (by simp [hdc,bN,dN]),dy (off:=32) (sz:=1) (cs:=[N p]) rfl rfl rfl (by simp [hdc,bN,dN,hc]),dy (off:=33) (sz:=1) (cs:=[N m]) rfl rfl rfl (by simp [hdc,bN,dN,hc])]
  have h1:=sO (a:=c.map U8) (b:=[N 0]) (c:=[N 0]) (j:=32) (k:=1) [N p] (by simp [hc]) rfl
  have h2:=sO (a:=c.map U8++[N p]) (b:=[N 0]) (c:=[]) (j:=33) (k:=1) [N m] (by simp [hc]) rfl
  have h3 : ((hdc bN).take 0++c.map U8++(hdc bN).drop (0+32))=c.map U8++([N 0]++[N 0]):=rfl
  rw [h3,h1,← List.append_assoc]
  show some _=some _
  rw [show (c.map U8++[N p]++[N 0] : List Value)=c.map U8++[N p]++([N 0]++[]) from rfl,h2]
  simp [hdc]
def ef (z : Bk) : Hd:=match dI z with | none=>bN | some (h,_)=>h
def di (z : Bk) : Bk:=match dI z with | none=>[] | some (_,r)=>r
def eg (z : Bk) : Nat:=match dI z with | none=>3 | some _=>0
theorem Ce : aK Tryz.prog 9:=⟨_,Tryz.func9,rfl,by kernel_rfl⟩
abbrev xN (l : Bk):={q : Acc // q=none→l=[]}
instance {l : Bk} : Inhabited (xN l):=⟨⟨some (0,0),nofun⟩⟩
set_option maxHeartbeats 16000000 in
theorem EM (z : aM) (w : World) (hz : z.ok w) (hl : z.l.length≤1000000) :
    Calls Tryz.prog 9 [z.v].toArray w fun e w'=>∃ q : xN (di z.l),e=.returned (.tuple #[.agg (hdc (ef z.l)).toArray,aC q.1 (di z.l).length,N (eg z.l)])∧ah w [] (bR 5 q.1 ((di z.l).map U8)) w':=by
  have hz34 : (hdc bN).length=34:=rfl
  refine enter (n:=31) Tryz.func9 rfl rfl rfl (ah.start w []) ?_
  repeat (first | refine JC.seq ?_ | refine JC.region ?_)
  refine JL.alloc I5 rfl fun b2 _=>?_
  by_cases h40 : z.l.length<40
  · have hv : dI z.l=none:=by rw [dI,if_pos h40]
    have e1 : ef z.l=bN:=by rw [ef,hv]
    have e2 : di z.l=[]:=by rw [di,hv]
    have e3 : eg z.l=3:=by rw [eg,hv]
    rw [e1,e2,e3]
    repeat (first | refine JL.q (by first|(apply OQ.len (k:=z.l.length) (ad:=z.ad) (cap:=z.cap);exact Tryz.underlying27;rfl)|(apply OQ.g9 (a:=z.l.length) (b:=40);rfl;rfl;exact h40)|(apply OQ.move;rfl)|(apply OQ.assign;rfl)) rfl ?_ | refine JC.seq ?_ | refine JC.region ?_ | refine JL.nil ?_ | refine JE.next ?_)
    refine JC.cond_true rfl rfl ?_
    repeat (first | refine JC.seq ?_ | refine JC.region ?_)
    refine JL.q (OQ.pure (v:=.agg (hdc bN).toArray) rfl rfl (by kernel_rfl)) rfl ?_
    refine JL.ag (cs:=hdc bN) ql rfl rfl hz34 (fq _) .here hz34 ?_
    repeat (first | refine JL.q (by (apply OQ.assign;rfl)) rfl ?_ | refine JL.nil ?_ | refine JE.next ?_)
    refine JC.ret ?_
    repeat (refine JE.aH ?_)
    exact JE.jy rfl (RV.av B2 ql rfl .here hz34 Row.all) (RV.tmp rfl) (RV.tmp rfl) fun w' hw=>⟨⟨none,fun _=>rfl⟩,rfl,hw.weak (.nil _)⟩
  repeat (first | refine JL.q (by first|(apply OQ.len (k:=z.l.length) (ad:=z.ad) (cap:=z.cap);exact Tryz.underlying27;rfl)|(apply OQ.gu (a:=z.l.length) (b:=40);rfl;rfl;exact h40)|(apply OQ.move;rfl)|(apply OQ.assign;rfl)) rfl ?_ | refine JC.seq ?_ | refine JC.region ?_ | refine JL.nil ?_ | refine JE.next ?_)
  refine JC.cond_false rfl rfl ?_
  repeat (first | refine JL.q (by (apply OQ.move;rfl)) rfl ?_ | refine JC.seq ?_ | refine JC.region ?_ | refine JC.skip ?_ | refine JE.next ?_)
  refine JL.q (OQ.l9 (cs:=[z.v]) [0] [.tmp 10] (vs:=[z.v]) rfl rfl (by unfold aM.v;kernel_rfl)) rfl ?_
  refine JL.alloc Mj rfl fun b5 hb5=>?_
  refine JL.ag (cs:=[z.v]) Mh rfl rfl rfl rfl .here rfl ?_
  have hoff : ∀ s : aM,s.ok w→Cc s [b5]:=fun s hs h0 a ha hm=>by
    have h1:=hs.lt h0 a ha
    rw [List.mem_singleton] at hm
    omega
  have z1:=hz.snd 32 (by omega)
  have z2:=z1.snd 4 (by show 4≤(z.l.drop 32).length;rw [List.length_drop];omega)
  have z3:=z2.snd 4 (by show 4≤((z.l.drop 32).drop 4).length;rw [List.length_drop,List.length_drop];omega)
  have l1 : (z.snd 32).l=z.l.drop 32:=rfl
  have l2 : ((z.snd 32).snd 4).l=z.l.drop 36:=by show (z.l.drop 32).drop 4=_;rw [List.drop_drop]
  have l3 : (((z.snd 32).snd 4).snd 4).l=z.l.drop 40:=by show ((z.l.drop 32).drop 4).drop 4=_;rw [List.drop_drop,List.drop_drop]
  have c0:=fun (w' : World) (M : List aG) (hw' : ah w [] (⟨b5,Row 59 [z.v],true⟩::M) w') (hx : ah w' [b5] [⟨b5,Row 59 [z.v],true⟩] w')=>EL b5 z (by omega) w' (hz.holds hw' rfl) (hoff z hz) hx
  have c1:=fun (w' : World) (M : List aG) (hw' : ah w [] (⟨b5,Row 59 [(z.snd 32).v],true⟩::M) w') (hx : ah w' [b5] [⟨b5,Row 59 [(z.snd 32).v],true⟩] w')=>xL b5 (z.snd 32) (by rw [l1,List.length_drop];omega) w' (z1.holds hw' rfl) (hoff _ z1) hx
  have c2:=fun (w' : World) (M : List aG) (hw' : ah w [] (⟨b5,Row 59 [((z.snd 32).snd 4).v],true⟩::M) w') (hx : ah w' [b5] [⟨b5,Row 59 [((z.snd 32).snd 4).v],true⟩] w')=>xL b5 ((z.snd 32).snd 4) (by rw [l2,List.length_drop];omega) w' (z2.holds hw' rfl) (hoff _ z2) hx
  rw [l1] at c1
  rw [l2] at c2
  have hlc : (z.l.take 32).length=32:=by rw [List.length_take,Nat.min_eq_left (by omega)]
  repeat (first | refine JC.seq ?_ | refine JC.region ?_ | refine JL.nil ?_ | refine JE.next ?_)
  refine JL.lV (ι:=Unit) (vs:=[Pt b5 0]) (X:=[⟨b5,Row 59 [z.v],true⟩]) (M0:=[⟨b2,Row 32 (hdc bN),true⟩]) (fun _=>.agg ((z.l.take 32).map U8).toArray) (fun _=>[⟨b5,Row 59 [(z.snd 32).v],true⟩]) Cd rfl rfl (by simp) (by simp) (fun w' hw' hx'=>(c0 w' _ hw' hx').mono fun e w2 ⟨g1,g2⟩=>⟨(),g1,g2⟩) fun _=>?_
  refine JL.lV (ι:=Unit) (vs:=[Pt b5 0]) (X:=[⟨b5,Row 59 [(z.snd 32).v],true⟩]) (M0:=[⟨b2,Row 32 (hdc bN),true⟩]) (fun _=>N (ia.cU ((z.l.drop 32).take 4))) (fun _=>[⟨b5,Row 59 [((z.snd 32).snd 4).v],true⟩]) uu rfl rfl (by simp) (by simp) (fun w' hw' hx'=>(c1 w' _ hw' hx').mono fun e w2 ⟨g1,g2⟩=>⟨(),g1,g2⟩) fun _=>?_
  refine JL.lV (ι:=Unit) (vs:=[Pt b5 0]) (X:=[⟨b5,Row 59 [((z.snd 32).snd 4).v],true⟩]) (M0:=[⟨b2,Row 32 (hdc bN),true⟩]) (fun _=>N (ia.cU ((z.l.drop 36).take 4))) (fun _=>[⟨b5,Row 59 [(((z.snd 32).snd 4).snd 4).v],true⟩]) uu rfl rfl (by simp) (by simp) (fun w' hw' hx'=>(c2 w' _ hw' hx').mono fun e w2 ⟨g1,g2⟩=>⟨(),g1,g2⟩) fun _=>?_
  clear c0 c1 c2 z1 z2
  have hn1:=ia.qJ (l:=(z.l.drop 32).take 4) (by simp;omega)
  have hn2:=ia.qJ (l:=(z.l.drop 36).take 4) (by simp;omega)
  have hv : dI z.l=if 2147483647<ia.cU ((z.l.drop 32).take 4)∨2147483647<ia.cU ((z.l.drop 36).take 4) then none else some (⟨z.l.take 32,ia.cU ((z.l.drop 32).take 4),ia.cU ((z.l.drop 36).take 4)⟩,z.l.drop 40):=by rw [dI,if_neg h40]
  have hhb:=xM (z.l.take 32) (ia.cU ((z.l.drop 32).take 4)) (ia.cU ((z.l.drop 36).take 4)) hlc
  have hr1 : ∀ o,Row 32 (hdc ⟨z.l.take 32,ia.cU ((z.l.drop 32).take 4),ia.cU ((z.l.drop 36).take 4)⟩) o→cellAt o 32=some (I (ia.cU ((z.l.drop 32).take 4))):=Row.cell (lq hlc)
  have hr2 : ∀ o,Row 32 (hdc ⟨z.l.take 32,ia.cU ((z.l.drop 32).take 4),ia.cU ((z.l.drop 36).take 4)⟩) o→cellAt o 33=some (I (ia.cU ((z.l.drop 36).take 4))):=Row.cell (j4 hlc)
  have hl34:=j3 (h:=⟨z.l.take 32,ia.cU ((z.l.drop 32).take 4),ia.cU ((z.l.drop 36).take 4)⟩) hlc
  generalize hp : ia.cU ((z.l.drop 32).take 4)=p at *
  generalize hm : ia.cU ((z.l.drop 36).take 4)=m at *
  generalize hcc : z.l.take 32=c at *
  have cp:=fun (w' : World)=>xG (p : Int) w'
  have cm:=fun (w' : World)=>xG (m : Int) w'
  have mp : B5 (p : Int)=decide (p≤2147483647):=by
    unfold B5
    rw [decide_eq_true (by omega),Bool.true_and]
    exact decide_eq_decide.2 (by omega)
  have mm : B5 (m : Int)=decide (m≤2147483647):=by
    unfold B5
    rw [decide_eq_true (by omega),Bool.true_and]
    exact decide_eq_decide.2 (by omega)
  rw [mp] at cp
  rw [mm] at cm
  refine JL.q (OQ.l9 (cs:=hdc ⟨c,p,m⟩) [0,1,2] [.tmp 12,.tmp 13,.tmp 14] (vs:=[.agg (c.map U8).toArray,N p,N m]) rfl rfl hhb) rfl ?_
  refine JL.ag (cs:=hdc ⟨c,p,m⟩) ql rfl rfl hl34 (fq _) (.there .here) hz34 ?_
  obtain ⟨g1,hg1⟩ : ∃ g,decide (p≤2147483647)=g:=⟨_,rfl⟩
  obtain ⟨g2,hg2⟩ : ∃ g,decide (m≤2147483647)=g:=⟨_,rfl⟩
  rw [hg1] at cp
  rw [hg2] at cm
  cases g1
  case false=>
    have hv2 : dI z.l=none:=by rw [hv,if_pos (.inl (by have:=of_decide_eq_false hg1;omega))]
    have e1 : ef z.l=bN:=by rw [ef,hv2]
    have e2 : di z.l=[]:=by rw [di,hv2]
    have e3 : eg z.l=3:=by rw [eg,hv2]
    rw [e1,e2,e3]
    repeat (first | refine JL.q (by first|(apply OQ.load;exact bB;rfl;exact (.there .here);exact hr1)|(apply OQ.au (vs:=[I (p : Int)]);exact jP;rfl;exact (fun w' _=>cp w'))|(apply OQ.HK;rfl;rfl)|(apply OQ.eP;rfl;rfl)|(apply OQ.move;rfl)|(apply OQ.bM;rfl;rfl;rfl;exact (by decide);rfl)) rfl ?_ | refine JC.seq ?_ | refine JC.region ?_ | refine JL.nil ?_ | refine JE.next ?_ | refine JL.iX rfl rfl rfl rfl ?_)
    refine JC.cond_true rfl rfl ?_
    repeat (first | refine JC.seq ?_ | refine JC.region ?_)
    refine JL.q (OQ.pure (v:=.agg (hdc bN).toArray) rfl rfl (by kernel_rfl)) rfl ?_
    refine JL.ag (cs:=hdc bN) ql rfl rfl hz34 (fq _) (.there .here) hl34 ?_
    repeat (first | refine JL.q (by (apply OQ.assign;rfl)) rfl ?_ | refine JL.nil ?_ | refine JE.next ?_)
    refine JC.ret ?_
    repeat (refine JE.aH ?_)
    exact JE.jy rfl (RV.av B2 ql rfl (.there .here) hz34 Row.all) (RV.tmp rfl) (RV.tmp rfl) fun w' hw=>⟨⟨none,fun _=>rfl⟩,rfl,hw.weak (.nil _)⟩
  cases g2
  case false=>
    have hv2 : dI z.l=none:=by rw [hv,if_pos (.inr (by have:=of_decide_eq_false hg2;omega))]
    have e1 : ef z.l=bN:=by rw [ef,hv2]
    have e2 : di z.l=[]:=by rw [di,hv2]
    have e3 : eg z.l=3:=by rw [eg,hv2]
    rw [e1,e2,e3]
    repeat (first | refine JL.q (by first|(apply OQ.load;exact bB;rfl;exact (.there .here);exact hr1)|(apply OQ.load;exact bB;rfl;exact (.there .here);exact hr2)|(apply OQ.au (vs:=[I (p : Int)]);exact jP;rfl;exact (fun w' _=>cp w'))|(apply OQ.au (vs:=[I (m : Int)]);exact jP;rfl;exact (fun w' _=>cm w'))|(apply OQ.HK;rfl;rfl)|(apply OQ.dK;rfl;rfl)|(apply OQ.move;rfl)|(apply OQ.bM;rfl;rfl;rfl;exact (by decide);rfl)) rfl ?_ | refine JC.seq ?_ | refine JC.region ?_ | refine JL.nil ?_ | refine JE.next ?_ | refine JL.aU rfl rfl ?_)
    refine JC.cond_true rfl rfl ?_
    repeat (first | refine JC.seq ?_ | refine JC.region ?_)
    refine JL.q (OQ.pure (v:=.agg (hdc bN).toArray) rfl rfl (by kernel_rfl)) rfl ?_
    refine JL.ag (cs:=hdc bN) ql rfl rfl hz34 (fq _) (.there .here) hl34 ?_
    repeat (first | refine JL.q (by (apply OQ.assign;rfl)) rfl ?_ | refine JL.nil ?_ | refine JE.next ?_)
    refine JC.ret ?_
    repeat (refine JE.aH ?_)
    exact JE.jy rfl (RV.av B2 ql rfl (.there .here) hz34 Row.all) (RV.tmp rfl) (RV.tmp rfl) fun w' hw=>⟨⟨none,fun _=>rfl⟩,rfl,hw.weak (.nil _)⟩
  have hv2 : dI z.l=some (⟨c,p,m⟩,z.l.drop 40):=by rw [hv,if_neg (by have:=of_decide_eq_true hg1;have:=of_decide_eq_true hg2;omega)]
  have e1 : ef z.l=⟨c,p,m⟩:=by rw [ef,hv2]
  have e2 : di z.l=z.l.drop 40:=by rw [di,hv2]
  have e3 : eg z.l=0:=by rw [eg,hv2]
  rw [e1,e2,e3,← l3]
  have hlz : (((z.snd 32).snd 4).snd 4).l.length≤4294967296:=by rw [l3,List.length_drop];omega
  generalize ((z.snd 32).snd 4).snd 4=zz at *
  repeat (first | refine JL.q (by first|(apply OQ.load;exact bB;rfl;exact (.there .here);exact hr1)|(apply OQ.load;exact bB;rfl;exact (.there .here);exact hr2)|(apply OQ.au (vs:=[I (p : Int)]);exact jP;rfl;exact (fun w' _=>cp w'))|(apply OQ.au (vs:=[I (m : Int)]);exact jP;rfl;exact (fun w' _=>cm w'))|(apply OQ.HK (c:=false);rfl;rfl)|(apply OQ.dK;rfl;rfl)|(apply OQ.move;rfl)|(apply OQ.bM;rfl;rfl;rfl;exact (by decide);rfl)) rfl ?_ | refine JC.seq ?_ | refine JC.region ?_ | refine JL.nil ?_ | refine JE.next ?_ | refine JL.aU rfl rfl ?_)
  refine JC.cond_false rfl rfl ?_
  repeat (first | refine JC.seq ?_ | refine JC.skip ?_ | refine JE.next ?_)
  let vs : Nat→xN zz.l→Value:=fun j y=>match j with
    | 0=>.agg (hdc ⟨c,p,m⟩).toArray
    | 1=>Pt b5 0
    | 2=>zz.v
    | 3=>aC y.1 zz.l.length
    | 5=>aC y.1 zz.l.length
    | 6=>N 0
    | _=>N 0
  let Ms : Nat→xN zz.l→List aG:=fun j y=>match j with
    | 3=>bR 5 y.1 (zz.l.map U8)
    | 4=>[⟨b2,Row 32 (hdc ⟨c,p,m⟩),true⟩]
    | 7=>[⟨b5,Row 59 [zz.v],true⟩]
    | 8=>[⟨b2,Row 32 (hdc ⟨c,p,m⟩),true⟩]
    | _=>[]
  refine JC.grow (g:=⟨[(2,Pt b2 0),(5,Pt b5 0)],9,vs,Ms,(fun j=>match j with | 2=>[(1,28)] | 3=>[(2,29)] | 4=>[(0,27)] | 5=>[(3,30)] | _=>[]),(fun j=>match j with | 0=>[8] | 2=>[7] | 4=>[8] | _=>[]),(fun j=>match j with | 4=>[8] | _=>[]),(fun j=>match j with | 5=>some 3 | _=>none)⟩) [(5,3),(6,4)] [4,3] gr (by repeat (first | exact ai.nil | refine ai.cons _ _ _ rfl ?_)) ?_ (by kernel_rfl) (by kernel_rfl) (by kernel_rfl) ?_ ?_
  · exact aq.refl _
  · refine ⟨?_,?_,?_,?_,?_,?_,?_,trivial⟩
    · (intro xx EF MF Q kk;(try refine JL.aU rfl rfl ?_);exact JL.q (OQ.af (cs:=hdc ⟨c,p,m⟩) B2 ql rfl .here hl34 Row.all) rfl (JL.nil (kk default nofun)))
    · (intro xx EF MF Q kk;(try refine JL.aU rfl rfl ?_);exact JL.q (OQ.bM rfl rfl rfl (by decide) rfl) rfl (JL.nil (kk default nofun)))
    · (intro xx EF MF Q kk;(try refine JL.aU rfl rfl ?_);exact JL.q (OQ.load (v:=zz.v) Gj rfl .here (Row.cell rfl)) rfl (JL.nil (kk default nofun)))
    · (intro xx EF MF Q kk;exact JL.bX (ι:=xN zz.l) (vs:=[zz.v]) (fun q=>aC q.1 zz.l.length) (fun q=>bR 5 q.1 (zz.l.map U8)) zy rfl rfl (fun q=>jX _ _ _) (fun w' hw'=>(Cb zz w' (z3.holds hw' rfl) hlz).mono fun e w2 ⟨q,g1,g2,g3⟩=>⟨⟨q,g2⟩,g1,g3⟩) fun q=>JL.nil (kk q nofun))
    · (intro xx EF MF Q kk;exact JL.ag (cs:=hdc ⟨c,p,m⟩) ql rfl rfl hl34 (fq _) .here hl34 (JL.nil (kk default nofun)))
    · (intro xx EF MF Q kk;(try refine JL.aU rfl rfl ?_);exact JL.q (OQ.assign rfl) rfl (JL.nil (kk (xx 3) (fun k h=>by cases h;rfl))))
    · (intro xx EF MF Q kk;(try refine JL.aU rfl rfl ?_);exact JL.q (OQ.assign rfl) rfl (JL.nil (kk default nofun)))
  · intro xx hx
    have e5:=hx 5 3 (by decide) rfl
    show JE _ _ _ _ _ [(3,aC (xx 5).1 zz.l.length),(4,N 0),(2,Pt b2 0),(5,Pt b5 0)] ([⟨b2,Row 32 (hdc ⟨c,p,m⟩),true⟩]++(bR 5 (xx 3).1 (zz.l.map U8)++[]))
    rw [e5,List.append_nil]
    generalize xx 3=q
    clear hx e5 xx vs Ms
    repeat (refine JE.next ?_)
    refine JC.ret ?_
    skip
    exact JE.jy rfl (RV.av B2 ql rfl .here hl34 Row.all) (RV.tmp rfl) (RV.tmp rfl) fun w' hw=>⟨q,rfl,hw.weak (.drop _ _ _ (aq.refl _))⟩
end
section
set_option maxRecDepth 10000
open Sl g5 lz
theorem sE : aK Tryz.prog 28:=⟨_,Tryz.func28,rfl,by kernel_rfl⟩
theorem oP {e : TypeId} {sz n cap k : Nat} {xs ys : List Value} (h : (xs.drop (0+k)).take ys.length=ys) (hk : k+ys.length≤xs.length) : ∀ o,Sl.aE e sz n cap xs o→bD o (0+k) ys:=fun o ho=>by
  have:=qT (t:=ys.length) (Sl.aE.cells o ho) hk
  rw [Nat.zero_add] at h
  rwa [h] at this
theorem zA (key : List B) (hk : key.length=32) (b12 b1 : Nat) (w : World) (hr : aM.ok w ⟨some ⟨b1,0,none⟩,32,key⟩) :
    Calls Tryz.prog 44 [.slice (some ⟨b12,0,none⟩) 0 0,.slice (some ⟨b1,0,none⟩) 32 32,.string jd,N 2].toArray w fun e w'=>∃ x : Nat × Nat,e=.returned (.slice (some ⟨x.1,0,none⟩) 2 x.2)∧ah w [] [⟨x.1,Sl.aE 23 32 2 x.2 ((qq key).map U8),true⟩] w':=by
  have:=tO ⟨some ⟨b12,0,none⟩,0,[]⟩ ⟨some ⟨b1,0,none⟩,32,key⟩ jd 2 (by decide) w ⟨Nat.le_refl _,Reads.nil _ _⟩ hr (by simp) (show key.length<35184372088000 by omega) (by decide)
  rw [show aM.v ⟨some ⟨b1,0,none⟩,32,key⟩=.slice (some ⟨b1,0,none⟩) 32 32 by simp [aM.v,hk]] at this
  rw [qq]
  exact this
theorem Gk {w0 w : World} {S : List Nat} {M : List aG} {a2 m : List B} {xs : List Value} (ha : (a2.map U8).length=32) (hml : m.length<1000000000) {bk ck bm cm : Nat} (hw : ah w0 S M w) (hx : xs.length=64) (c2 : (xs.drop (0+1 * 32)).take (a2.map U8).length=a2.map U8) (h1 : Has M bk (Sl.aE 23 32 2 ck xs) true) (h3 : Has M bm (Sl.aE 5 1 m.length cm (m.map U8)) true) :
    Calls Tryz.prog 45 [.slice (some ⟨bk,0+1 * 32,none⟩) 32 32,.slice (some ⟨bm,0,none⟩) m.length cm].toArray w fun e w''=>e=.returned (.agg ((bS a2 m).map U8).toArray)∧Ext w w'':=by
  obtain ⟨o1,ho1,hA1⟩:=hw.get h1
  have hl : a2.length=32:=by simpa using ha
  have:=jG ⟨some ⟨bk,0+1 * 32,none⟩,32,a2⟩ ⟨some ⟨bm,0,none⟩,cm,m⟩ w ⟨Nat.le_of_eq hl,Reads.block ho1 (oP c2 (by rw [ha,hx];decide) _ hA1)⟩ (fl hw h3) (show a2.length<35184372088000 by omega) (show m.length<35184372088000 by omega)
  simpa [aM.v,hl] using this
def Nd : Nat→List Nat
  | 2=>[7]
  | 3=>[9]
  | _=>[]
def KS : Nat→List (Nat × Nat)
  | 1=>[(0,22)]
  | 2=>[(1,23)]
  | 7=>[(5,27),(6,28)]
  | 8=>[(3,25),(4,26),(7,29)]
  | 9=>[(2,24),(8,30)]
  | 11=>[(10,12),(9,31)]
  | _=>[]
def Ml : Nat→List Nat
  | 3=>[14]
  | 9=>[12,8]
  | 11=>[10]
  | _=>[]
def Mm : Nat→List Nat
  | 11=>[10]
  | _=>[]
def Mn : Nat→Option Nat
  | 11=>some 10
  | _=>none
def KT : Nat→List (Nat × Nat)
  | 1=>[(0,38)]
  | 2=>[(1,39)]
  | 6=>[(4,42),(5,43)]
  | 7=>[(2,40),(3,41),(6,44)]
  | 8=>[(7,45)]
  | _=>[]
def Mo : Nat→List Nat
  | 2=>[11]
  | 3=>[12]
  | _=>[]
def Mp : Nat→Option Nat
  | 8=>some 7
  | _=>none
set_option maxHeartbeats 4000000 in
set_option maxRecDepth 4000 in
theorem Cf (key nonce : List B) (s z : aM) (hk : key.length=32) (hn : nonce.length=12) (w : World) (hs : s.ok w) (hz : z.ok w) (hsl : s.l.length<100000000) (hzl : z.l.length<100000000) :
    Calls Tryz.prog 28 [.agg (key.map U8).toArray,.agg (nonce.map U8).toArray,s.v,z.v].toArray w fun e w'=>∃ s' : aM,e=.returned (.tuple #[s'.v,N (gP (k1 key) (k2 key) nonce s.l z.l).2])∧uE s' (gP (k1 key) (k2 key) nonce s.l z.l).1 s'.cap∧ah w [] s'.ct w':=by
  have hKeys:=zA key hk
  have h1 : ((k1 key).map U8).length=32:=by rw [List.length_map,jH]
  have h2 : ((k2 key).map U8).length=32:=by rw [List.length_map,jI]
  have c1:=wM key
  have c2:=wN key
  have hek : ((qq key).map U8).length=64:=by rw [List.length_map,je]
  generalize qq key=ek at hKeys c1 c2 hek
  generalize k1 key=a1 at h1 c1 ⊢
  generalize k2 key=a2 at h2 c2 ⊢
  refine enter (n:=46) Tryz.func28 rfl rfl rfl (ah.start w []) ?_
  repeat (first | refine JC.seq ?_ | refine JC.region ?_)
  refine JL.box (r:=key.map U8) rfl rfl rfl fun b4 _=>?_
  refine JL.box (r:=nonce.map U8) rfl rfl rfl fun b5 _=>?_
  by_cases hlt : z.l.length<32
  · rw [gP,if_pos hlt]
    repeat (first | refine JL.q (by first|(apply OQ.g9;rfl;rfl;exact hlt)|(apply OQ.move;rfl)|(apply OQ.assign;rfl)|(apply OQ.len;rfl;rfl)) rfl ?_ | refine JC.seq ?_ | refine JC.region ?_ | refine JL.nil ?_ | refine JE.next ?_)
    refine JC.cond_true rfl rfl ?_
    repeat (first | refine JL.q (by (apply OQ.assign;rfl)) rfl ?_ | refine JC.seq ?_ | refine JC.region ?_ | refine JL.nil ?_ | refine JE.next ?_)
    refine JC.ret ?_
    repeat (refine JE.aH ?_)
    exact JE.gp rfl (RV.tmp rfl) (RV.tmp rfl) fun w' hw=>⟨iR,rfl,⟨rfl,rfl,fun _=>rfl⟩,hw.weak (aq.nil _)⟩
  repeat (first | refine JL.q (by first|(apply OQ.gu;rfl;rfl;exact hlt)|(apply OQ.move;rfl)|(apply OQ.assign;rfl)|(apply OQ.len;rfl;rfl)) rfl ?_ | refine JC.seq ?_ | refine JC.region ?_ | refine JL.nil ?_ | refine JE.next ?_)
  refine JC.cond_false rfl rfl ?_
  rw [gP,if_neg hlt]
  have hle : z.l.length - 32≤z.l.length:=Nat.sub_le _ _
  have hT0:=fun w' (h' : (z.fst (z.l.length - 32)).ok w')=>yR a1 1#32 nonce (z.fst (z.l.length - 32)) rfl (by simpa using h1) hn w' h' (show (z.l.take (z.l.length - 32)).length<35184372088832 by rw [List.length_take];omega)
  have hM0:=fun (w' : World) (hs' : s.ok w') (h : (z.fst (z.l.length - 32)).ok w')=>uU nonce s (z.fst (z.l.length - 32)) hn w' hs' h (show s.l.length<35184372088832 by omega) (show (z.l.take (z.l.length - 32)).length<35184372088832 by rw [List.length_take];omega)
  rw [show (z.fst (z.l.length - 32)).l=z.l.take (z.l.length - 32) from rfl] at hT0
  simp only [show (z.fst (z.l.length - 32)).l=z.l.take (z.l.length - 32) from rfl] at hM0
  have hml:=iF nonce s.l (z.l.take (z.l.length - 32))
  rw [hn,List.length_take] at hml
  generalize msg nonce s.l (z.l.take (z.l.length - 32))=m at hml hM0 ⊢
  have hTl:=dZ a1 1#32 nonce (z.l.take (z.l.length - 32))
  generalize fK a1 1#32 nonce (z.l.take (z.l.length - 32))=T at hTl hT0 ⊢
  repeat (first | refine JL.q (by first|(apply OQ.move;rfl)|(apply OQ.assign;rfl)|(apply OQ.len;rfl;rfl)|(apply OQ.jk;rfl;rfl;exact (by (try simp only []);omega);exact (by (try simp only []);omega))) rfl ?_ | refine JC.seq ?_ | refine JC.region ?_ | refine JC.skip ?_ | refine JL.nil ?_ | refine JE.next ?_)
  refine JL.uF Tryz.underlying27 e5 rfl fun b19 _=>?_
  repeat (refine JL.q (by (apply OQ.jT;exact Tryz.underlying23;exact s5;rfl)) rfl ?_)
  refine JL.bX (ι:=Nat × Nat) (vs:=[.slice (some ⟨b19,0,none⟩) 0 0,.slice (some ⟨b4,0,none⟩) 32 32,.string jd,N 2]) (fun x=>.slice (some ⟨x.1,0,none⟩) 2 x.2) (fun x=>[⟨x.1,Sl.aE 23 32 2 x.2 (ek.map U8),true⟩]) rC rfl rfl (fun i=>by simp) (fun w' hw'=>hKeys b19 b4 w' (fL hw' (.there (.there .here)) rfl (Nat.le_of_eq hk))) ?_
  rintro ⟨bk,ck⟩
  try dsimp only
  repeat (first | refine JL.q (by (apply OQ.assign;rfl)) rfl ?_ | refine JC.seq ?_ | refine JL.nil ?_ | refine JE.next ?_)
  let vs : Nat→X→Value:=fun j x=>match j with
    | 0=>.slice (some ⟨bk,0,none⟩) 2 ck
    | 1=>Pt bk (0+1 * 32)
    | 2=>.slice (some ⟨bk,0+1 * 32,none⟩) 32 32
    | 3=>.agg (nonce.map U8).toArray
    | 4=>s.v
    | 5=>z.v
    | 6=>N (z.l.length - 32)
    | 7=>(z.fst (z.l.length - 32)).v
    | 8=>.slice (some ⟨x.1,0,none⟩) m.length x.2
    | 9=>.agg ((bS a2 m).map U8).toArray
    | _=>Pt x.1 0
  let Ms : Nat→X→List aG:=fun j x=>match j with
    | 8=>[⟨x.1,Sl.aE 5 1 m.length x.2 (m.map U8),true⟩]
    | 10=>[⟨x.1,Row 23 ((List.replicate 32 (0 : B)).map U8),true⟩]
    | 11=>[⟨x.1,Row 23 ((bS a2 m).map U8),true⟩]
    | 12=>[⟨bk,Sl.aE 23 32 2 ck (ek.map U8),true⟩]
    | 13=>[⟨b19,Sl.aE 5 1 0 0 [],true⟩]
    | 14=>[⟨b5,Row 72 (nonce.map U8),true⟩]
    | 15=>[⟨b4,Row 23 (key.map U8),true⟩]
    | _=>[]
  refine JC.grow (g:=⟨[(2,s.v),(3,z.v),(5,Pt b5 0),(10,N (z.l.length - 32)),(11,.slice (some ⟨bk,0,none⟩) 2 ck)],16,vs,Ms,KS,Ml,Mm,Mn⟩) [(10,12)] [11,12,14] mixed (by repeat (first | exact ai.nil | refine ai.cons _ _ _ rfl ?_)) (aq.refl _) (by kernel_rfl) (by kernel_rfl) (by kernel_rfl) ?_ ?_
  · refine ⟨?_,?_,?_,?_,?_,?_,?_,?_,?_,?_,?_,?_,trivial⟩
    iterate 8 (focus (intro x EF MF Q kk;(try refine JL.aU rfl rfl ?_);exact JL.q (by first|(apply OQ.jS;exact Tryz.underlying90;exact eV;rfl;rfl;exact (by decide))|(apply OQ.jT;exact Tryz.underlying23;exact s5;rfl)|(apply OQ.af (cs:=nonce.map U8);exact GX;exact GW;rfl;exact .here;exact (by simpa using hn);exact Row.all)|(apply OQ.fst (s:=z);exact Tryz.underlying27;exact s5;rfl;rfl;exact hle;exact hz.len)|(apply OQ.move;rfl)) rfl (JL.nil (kk default nofun))))
    · intro x EF MF Q kk
      exact JL.bX (ι:=Nat × Nat) (fun x=>.slice (some ⟨x.1,0,none⟩) m.length x.2) (fun x=>[⟨x.1,Sl.aE 5 1 m.length x.2 (m.map U8),true⟩]) sR rfl rfl (fun i=>by simp) (fun w' hw'=>hM0 w' (hs.holds hw' rfl) ((hz.holds hw' rfl).fst _)) fun i=>JL.nil (kk i nofun)
    · intro x EF MF Q kk
      exact JL.q (OQ.au (vs:=[.slice (some ⟨bk,0+1 * 32,none⟩) 32 32,.slice (some ⟨(x 8).1,0,none⟩) m.length (x 8).2]) gw rfl fun w' hw'=>Gk h2 (by omega) hw' hek c2 .here (.there .here)) rfl (JL.nil (kk default nofun))
    · intro x EF MF Q kk
      exact JL.alloc fN rfl fun b _=>JL.nil (kk (b,0) nofun)
    · intro x EF MF Q kk
      exact JL.ag eV rfl rfl (dF _) (dL _) .here (by simp) (JL.nil (kk (x 10) (fun k h=>by cases h;rfl)))
  · intro x hx
    have h11:=hx 11 10 (by decide) rfl
    show JE _ _ _ _ _ [(12,Pt (x 10).1 0),(2,s.v),(3,z.v),(5,Pt b5 0),(10,N (z.l.length - 32)),(11,.slice (some ⟨bk,0,none⟩) 2 ck)] [⟨(x 11).1,Row 23 ((bS a2 m).map U8),true⟩,⟨bk,Sl.aE 23 32 2 ck (ek.map U8),true⟩,⟨b5,Row 72 (nonce.map U8),true⟩]
    rw [h11]
    generalize (x 10).1=b12
    clear hx h11 x vs Ms
    have hgl:=z7 a2 m
    generalize bS a2 m=g at hgl ⊢
    by_cases hg : g=z.l.drop (z.l.length - 32)
    · rw [if_pos hg]
      repeat (first | refine JC.seq ?_ | refine JE.next ?_)
      refine JC.quiet mixed (by kernel_rfl) ?_
      repeat (first | refine JQ.q (by first|(apply OQ.jT;exact Tryz.underlying23;exact s5;rfl)|(apply OQ.snd (s:=z);exact Tryz.underlying27;exact s5;rfl;rfl;exact hle)|(apply OQ.au;exact mz;rfl;exact (fun w' hw'=>Dm (a:=⟨some ⟨b12,0,none⟩,32,g⟩) (b:=z.snd (z.l.length - 32)) (c:=true) (by simp [aM.v,hgl]) rfl (fL hw' .here rfl (Nat.le_of_eq hgl)) ((hz.holds hw' rfl).snd _ hle) (show g.length<4611686018427387904 by omega) (decide_eq_true hg)))|(apply OQ.not;rfl)|(apply OQ.move;rfl)) rfl ?_ | refine JQ.nil ?_ | refine JE.next ?_)
      refine JC.cond_false rfl rfl ?_
      repeat (first | refine JC.seq ?_ | refine JC.skip ?_ | refine JE.next ?_)
      let vs : Nat→X→Value:=fun j x=>match j with
        | 0=>.slice (some ⟨bk,0,none⟩) 2 ck
        | 1=>Pt bk (0+0 * 32)
        | 2=>.agg (a1.map U8).toArray
        | 3=>.agg (nonce.map U8).toArray
        | 4=>z.v
        | 5=>N (z.l.length - 32)
        | 6=>(z.fst (z.l.length - 32)).v
        | 9=>N 0
        | _=>.slice (some ⟨x.1,0,none⟩) (z.l.take (z.l.length - 32)).length x.2
      let Ms : Nat→X→List aG:=fun j x=>match j with
        | 7=>[⟨x.1,Sl.aE 5 1 (z.l.take (z.l.length - 32)).length x.2 (T.map U8),true⟩]
        | 10=>[⟨b12,Row 23 (g.map U8),true⟩]
        | 11=>[⟨bk,Sl.aE 23 32 2 ck (ek.map U8),true⟩]
        | 12=>[⟨b5,Row 72 (nonce.map U8),true⟩]
        | _=>[]
      refine JC.grow (g:=⟨[(3,z.v),(5,Pt b5 0),(10,N (z.l.length - 32)),(11,.slice (some ⟨bk,0,none⟩) 2 ck)],13,vs,Ms,KT,Mo,fun _=>[],Mp⟩) [(8,8),(9,9)] [7] mixed (by repeat (first | exact ai.nil | refine ai.cons _ _ _ rfl ?_)) (aq.refl _) (by kernel_rfl) (by kernel_rfl) (by kernel_rfl) ?_ ?_
      · refine ⟨?_,?_,?_,?_,?_,?_,?_,?_,?_,?_,trivial⟩
        iterate 7 (focus (intro x EF MF Q kk;(try refine JL.aU rfl rfl ?_);exact JL.q (by first|(apply OQ.jS;exact Tryz.underlying90;exact eV;rfl;rfl;exact (by decide))|(apply OQ.af (cs:=a1.map U8);exact mS;exact eV;rfl;exact .here;exact h1;exact (oP c1 (by rw [h1,hek];decide)))|(apply OQ.af (cs:=nonce.map U8);exact GX;exact GW;rfl;exact .here;exact (by simpa using hn);exact Row.all)|(apply OQ.fst (s:=z);exact Tryz.underlying27;exact s5;rfl;rfl;exact hle;exact hz.len)|(apply OQ.move;rfl)) rfl (JL.nil (kk default nofun))))
        · intro x EF MF Q kk
          exact JL.bX (ι:=Nat × Nat) (fun x=>.slice (some ⟨x.1,0,none⟩) (z.l.take (z.l.length - 32)).length x.2) (fun x=>[⟨x.1,Sl.aE 5 1 (z.l.take (z.l.length - 32)).length x.2 (T.map U8),true⟩]) yQ rfl rfl (fun i=>by simp) (fun w' hw'=>hT0 w' ((hz.holds hw' rfl).fst _)) fun i=>JL.nil (kk i nofun)
        · intro x EF MF Q kk
          exact JL.q (OQ.assign rfl) rfl (JL.nil (kk (x 7) (fun k h=>by cases h;rfl)))
        · intro x EF MF Q kk
          exact JL.q (OQ.assign rfl) rfl (JL.nil (kk default nofun))
      · intro x hx
        have h8:=hx 8 7 (by decide) rfl
        show JE _ _ _ _ _ [(8,.slice (some ⟨(x 8).1,0,none⟩) (z.l.take (z.l.length - 32)).length (x 8).2),(9,N 0),(3,z.v),(5,Pt b5 0),(10,N (z.l.length - 32)),(11,.slice (some ⟨bk,0,none⟩) 2 ck)] [⟨(x 7).1,Sl.aE 5 1 (z.l.take (z.l.length - 32)).length (x 7).2 (T.map U8),true⟩]
        rw [h8]
        obtain ⟨b45,c45⟩:=x 7
        clear hx h8 x vs Ms
        dsimp only
        repeat (refine JE.next ?_)
        refine JC.ret ?_
        skip
        refine JE.gp rfl (RV.tmp rfl) (RV.tmp rfl) fun w' hw=>⟨⟨some ⟨b45,0,none⟩,c45,T⟩,by simp only [aM.v,hTl],⟨rfl,rfl,fun h=>by cases h⟩,hw.weak (.keep _ _ _ _ _ _ (fun o ho=>?_) (aq.nil _))⟩
        refine ⟨Sl.aE.cells _ ho,?_,rfl⟩
        obtain ⟨sp,rfl,q2,q3,q4⟩:=ho
        show T.length≤c45
        omega
    · rw [if_neg hg]
      repeat (first | refine JC.seq ?_ | refine JE.next ?_)
      refine JC.quiet mixed (by kernel_rfl) ?_
      repeat (first | refine JQ.q (by first|(apply OQ.jT;exact Tryz.underlying23;exact s5;rfl)|(apply OQ.snd (s:=z);exact Tryz.underlying27;exact s5;rfl;rfl;exact hle)|(apply OQ.au;exact mz;rfl;exact (fun w' hw'=>Dm (a:=⟨some ⟨b12,0,none⟩,32,g⟩) (b:=z.snd (z.l.length - 32)) (c:=false) (by simp [aM.v,hgl]) rfl (fL hw' .here rfl (Nat.le_of_eq hgl)) ((hz.holds hw' rfl).snd _ hle) (show g.length<4611686018427387904 by omega) (decide_eq_false hg)))|(apply OQ.not;rfl)|(apply OQ.move;rfl)) rfl ?_ | refine JQ.nil ?_ | refine JE.next ?_)
      refine JC.cond_true rfl rfl ?_
      repeat (first | refine JL.q (by (apply OQ.assign;rfl)) rfl ?_ | refine JC.seq ?_ | refine JC.region ?_ | refine JL.nil ?_ | refine JE.next ?_)
      refine JC.ret ?_
      repeat (refine JE.aH ?_)
      exact JE.gp rfl (RV.tmp rfl) (RV.tmp rfl) fun w' hw=>⟨iR,rfl,⟨rfl,rfl,fun _=>rfl⟩,hw.weak (aq.nil _)⟩
end
section
set_option maxRecDepth 10000
open Sl g5 lz
theorem Cg {key nonce : List B} {s z : aM} {vs vz : Value} {o : List B × Nat} (hvs : s.v=vs) (hvz : z.v=vz) (ho : gP (k1 key) (k2 key) nonce s.l z.l=o) (hk : key.length=32) (hn : nonce.length=12) {w : World} (hG : g7 w) (hQ : GQ w) (hs : s.ok w) (hz : z.ok w) (hsl : s.l.length<100000000) (hzl : z.l.length<100000000) :
    Calls Tryz.prog 43 [.agg (key.map U8).toArray,.agg (nonce.map U8).toArray,vs,vz].toArray w fun e w'=>∃ i : { s' : aM // uE s' o.1 s'.cap },e=.returned (.tuple #[i.1.v,N o.2])∧ah w [] i.1.ct w':=by
  subst hvs hvz ho
  exact (Dw key nonce s z hk hn w hG hQ hs hz hsl hzl).mono fun e w' ⟨s',h1,h2,h3⟩=>⟨⟨s',h2⟩,h1,h3⟩
theorem sF {key nonce : List B} {s z : aM} {vs vz : Value} {o : List B × Nat} (hvs : s.v=vs) (hvz : z.v=vz) (ho : gP (k1 key) (k2 key) nonce s.l z.l=o) (hk : key.length=32) (hn : nonce.length=12) {w : World} (hs : s.ok w) (hz : z.ok w) (hsl : s.l.length<100000000) (hzl : z.l.length<100000000) :
    Calls Tryz.prog 28 [.agg (key.map U8).toArray,.agg (nonce.map U8).toArray,vs,vz].toArray w fun e w'=>∃ i : { s' : aM // uE s' o.1 s'.cap },e=.returned (.tuple #[i.1.v,N o.2])∧ah w [] i.1.ct w':=by
  subst hvs hvz ho
  exact (Cf key nonce s z hk hn w hs hz hsl hzl).mono fun e w' ⟨s',h1,h2,h3⟩=>⟨⟨s',h2⟩,h1,h3⟩
theorem Ch {key nonce : List B} {s p : aM} {vs vp : Value} {m : Nat} {o : List B} (hvs : s.v=vs) (hvp : p.v=vp) (ho : qf (k1 key) (k2 key) nonce s.l p.l=o) (hm : p.l.length=m) (hk : key.length=32) (hn : nonce.length=12) {w : World} (hG : g7 w) (hQ : GQ w) (hs : s.ok w) (hp : p.ok w) (hsl : s.l.length<100000000) (hpl : p.l.length<100000000) :
    Calls Tryz.prog 38 [.agg (key.map U8).toArray,.agg (nonce.map U8).toArray,vs,vp].toArray w fun e w'=>∃ x : Nat × Nat,e=.returned (.slice (some ⟨x.1,0,none⟩) (m+32) x.2)∧ah w [] [⟨x.1,Sl.aE 5 1 (m+32) x.2 (o.map U8),true⟩] w':=by
  subst hvs hvp ho hm
  exact Dv key nonce s p hk hn w hG hQ hs hp hsl hpl
end
section
set_option maxRecDepth 10000
open Sl g5 lz dO mP
open pT (Bk)
theorem kH {z r : Bk} {h : Hd} (e : dI z=some (h,r)) : h.chain.length=32∧h.prev≤2147483647∧h.num≤2147483647∧r=z.drop 40∧40≤z.length∧h.chain=z.take 32:=by
  rw [dI] at e
  split at e
  · cases e
  · split at e
    · cases e
    · cases e
      refine ⟨by rw [List.length_take];omega,by dsimp only;omega,by dsimp only;omega,rfl,by omega,rfl⟩
theorem sG {B : List aG} {b : Nat} {P : Obj→Prop} {wr : Bool} (A : List aG) (h : Has B b P wr) : Has (A++B) b P wr:=by
  induction A with
  | nil=>exact h
  | cons e A ih=>exact .there ih
theorem KU (e f : aG) (A X : List aG) : (e::(A++(f::X))).Perm (X++(e::(A++[f]))):=
  (List.perm_middle.trans (((List.perm_append_comm_assoc X A [f]).trans (List.Perm.append_left A List.perm_append_comm)).cons e)).symm
theorem I9 (e f : aG) (A X : List aG) : (X++(e::(A++[f]))).Perm (e::(A++(X++[f]))):=
  List.perm_middle.trans ((List.perm_append_comm_assoc X A [f]).cons e)
theorem Ja (e : aG) (A M : List aG) : aq (A++M) (([e]++(A++[]))++M):=by
  rw [List.append_nil]
  exact .drop _ _ _ (aq.refl _)
abbrev Gl (l : Bk):={s : aM // uE s l s.cap}
instance {l : Bk} : Inhabited (Gl l):=⟨⟨⟨some ⟨0,0,none⟩,l.length,l⟩,⟨rfl,rfl,fun e=>by cases e⟩⟩⟩
structure MS (o : bA × Bk × Nat) where
  q : Acc
  s : bA
  x : Gl o.2.1
  ok : s.ok
  nil : q=none→s.kept=[]
  is : o.2.2=0→s=o.1
theorem Gm {v : Value} {c c' : Nat} (h : c'=c) : Ending.returned (Value.tuple #[v,N c])=.returned (.tuple #[v,N c']):=by rw [h]
def Jb {l : Bk} (h : l=[]) : Gl l:=⟨iR,⟨h.symm,rfl,fun _=>rfl⟩⟩
theorem Ci : aK Tryz.prog 26:=⟨_,Tryz.func26,rfl,by kernel_rfl⟩
set_option maxHeartbeats 64000000 in
theorem EN (b : Nat) (q0 : Acc) (s0 : bA) (hs0 : s0.ok) (hq0 : q0=none→s0.kept=[]) (hk0 : s0.kept.length≤2000) (ht0 : s0.taken≤2147483648) (side z : aM) (hsl : side.l.length≤1000000) (hzl : z.l.length≤1000000) (fresh : Bk) (hf : fresh.length=32) (w : World) (hT : Tb (keys (e7 b q0 s0)) w) (hside : side.ok w) (hos : Cc side (keys (e7 b q0 s0))) (hz : z.ok w) (hoz : Cc z (keys (e7 b q0 s0))) (h0 : ah w (keys (e7 b q0 s0)) (e7 b q0 s0) w) :
    Calls Tryz.prog 26 [Pt b 0,side.v,z.v,.agg (fresh.map U8).toArray].toArray w fun e w'=>∃ r : MS (fG s0 side.l z.l fresh),e=.returned (.tuple #[r.x.1.v,N (fG s0 side.l z.l fresh).2.2])∧ah w (keys (e7 b q0 s0)) (r.x.1.ct++e7 b r.q r.s) w':=by
  generalize keys (e7 b q0 s0)=S at h0 hT hos hoz ⊢
  have hlf : (fresh.map U8).length=32:=by rw [List.length_map];exact hf
  have hhd:=fun (w' : World) (M : List aG) (hw' : ah w S M w')=>EM z w' (hz.off hw' hoz) hzl
  refine enter (n:=44) Tryz.func26 rfl rfl rfl h0 ?_
  repeat (first | refine JC.seq ?_ | refine JC.region ?_)
  refine JL.box (r:=fresh.map U8) rfl rfl rfl fun b7 _=>?_
  repeat (first | refine JL.q (by first|(apply OQ.move;rfl)|(apply OQ.assign;rfl)) rfl ?_ | refine JC.seq ?_ | refine JC.region ?_ | refine JL.nil ?_ | refine JE.next ?_)
  refine JL.bX (ι:=xN (di z.l)) (vs:=[z.v]) (fun q=>.tuple #[.agg (hdc (ef z.l)).toArray,aC q.1 (di z.l).length,N (eg z.l)]) (fun q=>bR 5 q.1 ((di z.l).map U8)) Ce rfl rfl (fun q=>jX _ _ _) (fun w' hw'=>hhd w' _ hw') ?_
  rintro ⟨qh,hqh⟩
  try dsimp only
  clear hhd
  cases hv : dI z.l with
  | none=>
    have e1 : ef z.l=bN:=by rw [ef,hv]
    have e2 : di z.l=[]:=by rw [di,hv]
    have e3 : eg z.l=3:=by rw [eg,hv]
    have hl34 : (hdc bN).length=34:=rfl
    have hd:=oN (s:=s0) (side:=side.l) (fresh:=fresh) hv
    rw [e1,e2,e3]
    repeat (refine JL.q (by first|(apply OQ.extract;rfl;rfl)|(apply OQ.move;rfl)) rfl ?_)
    refine JL.alloc I5 rfl fun b10 _=>?_
    refine JL.ag (cs:=hdc bN) ql rfl rfl hl34 (fq _) .here hl34 ?_
    repeat (first | refine JL.q (by first|(apply OQ.qo (a:=3) (b:=0) (c:=false);rfl;rfl;rfl)|(apply OQ.move;rfl)|(apply OQ.assign;rfl)) rfl ?_ | refine JC.seq ?_ | refine JC.region ?_ | refine JL.nil ?_ | refine JE.next ?_)
    refine JC.cond_true rfl rfl ?_
    repeat (first | refine JL.q (by first|(apply OQ.move;rfl)|(apply OQ.assign;rfl)) rfl ?_ | refine JC.seq ?_ | refine JC.region ?_ | refine JL.nil ?_ | refine JE.next ?_)
    refine JC.ret ?_
    repeat (refine JE.aH ?_)
    exact JE.gp rfl (RV.tmp rfl) (RV.tmp rfl) fun w' hw=>⟨⟨q0,s0,Jb (by rw [hd]),hs0,hq0,fun e=>by rw [hd] at e;cases e⟩,Gm (by rw [hd]),hw.weak (.drop _ _ _ (er _ (.drop _ _ _ (aq.refl _))))⟩
  | some hr=>
  obtain ⟨h,rest⟩:=hr
  have e1 : ef z.l=h:=by rw [ef,hv]
  have e2 : di z.l=rest:=by rw [di,hv]
  have e3 : eg z.l=0:=by rw [eg,hv]
  obtain ⟨hc,hp,hm,hre,hz40,_⟩:=kH hv
  have hrl : rest.length≤1000000:=by rw [hre,List.length_drop];omega
  have hl34:=j3 hc
  have hz34 : (hdc bN).length=34:=rfl
  have hBl:=mu hc
  rw [e1,e2,e3]
  rw [e2] at hqh
  clear e1 e2 e3
  repeat (refine JL.q (by first|(apply OQ.extract;rfl;rfl)|(apply OQ.move;rfl)) rfl ?_)
  refine JL.alloc I5 rfl fun b10 _=>?_
  refine JL.ag (cs:=hdc h) ql rfl rfl hl34 (fq _) .here hz34 ?_
  repeat (first | refine JL.q (by first|(apply OQ.qo (a:=0) (b:=0) (c:=true);rfl;rfl;rfl)|(apply OQ.move;rfl)|(apply OQ.assign;rfl)) rfl ?_ | refine JC.seq ?_ | refine JC.region ?_ | refine JL.nil ?_ | refine JE.next ?_)
  refine JC.cond_false rfl rfl ?_
  have hH7 : ∀ (e : aG) (A : List aG),Has (e::(A++((⟨b7,Row 23 (fresh.map U8),true⟩ : aG)::e7 b q0 s0))) b7 (Row 23 (fresh.map U8)) true:=fun e A=>.there (sG A .here)
  repeat (first | refine JL.q (by first|(apply OQ.af (cs:=hdc h);exact B2;exact ql;rfl;exact .here;exact hl34;exact Row.all)|(apply OQ.af (cs:=fresh.map U8);exact aP;exact aB;rfl;exact (hH7 _ _);exact hlf;exact Row.all)|(apply OQ.move;rfl)) rfl ?_ | refine JC.seq ?_ | refine JC.region ?_ | refine JC.skip ?_ | refine JE.next ?_)
  refine JL.dz (M':=e7 b q0 s0++(⟨b10,Row 32 (hdc h),true⟩::(bR 5 qh (rest.map U8)++[⟨b7,Row 23 (fresh.map U8),true⟩]))) (KU _ _ _ _) ?_
  refine JL.lV (ι:=MR (jO s0 h fresh)) (vs:=[Pt b 0,.agg (hdc h).toArray,.agg (fresh.map U8).toArray]) (fun r=>.tuple #[.agg (r.key.map U8).toArray,N r.code]) (fun r=>e7 b r.q r.s) B9 rfl rfl (dY _ _ _) (fun _=>dY _ _ _) (fun w' hw' hx'=>EK b q0 s0 hs0 hq0 hk0 h hc hp hm fresh hf ht0 w' (hT.own hw' (dY _ _ _)) hx') fun r=>?_
  obtain ⟨q,s,key,cd,hs,hq,hkl,his⟩:=r
  dsimp only
  have hlk : (key.map U8).length=32:=by rw [List.length_map];exact hkl
  refine JL.dz (M':=⟨b10,Row 32 (hdc h),true⟩::(bR 5 qh (rest.map U8)++(e7 b q s++[⟨b7,Row 23 (fresh.map U8),true⟩]))) (I9 _ _ _ _) ?_
  repeat (refine JL.q (by first|(apply OQ.extract;rfl;rfl)|(apply OQ.move;rfl)) rfl ?_)
  refine JL.alloc gR rfl fun b13 _=>?_
  refine JL.ag (cs:=key.map U8) aB rfl rfl hlk (aV _) .here (by simp) ?_
  rcases his with ⟨hmk,hcd⟩ | ⟨hmk,rfl⟩
  · have hd:=mM (side:=side.l) hv hmk
    have hne : decide ((cd : Int)=0)=false:=decide_eq_false (by omega)
    repeat (first | refine JL.q (by first|(apply OQ.qo (a:=(cd : Int)) (b:=0);rfl;rfl;exact hne)|(apply OQ.move;rfl)|(apply OQ.assign;rfl)) rfl ?_ | refine JC.seq ?_ | refine JC.region ?_ | refine JL.nil ?_ | refine JE.next ?_)
    refine JC.cond_true rfl rfl ?_
    repeat (first | refine JL.q (by first|(apply OQ.move;rfl)|(apply OQ.assign;rfl)) rfl ?_ | refine JC.seq ?_ | refine JC.region ?_ | refine JL.nil ?_ | refine JE.next ?_)
    refine JC.ret ?_
    repeat (refine JE.aH ?_)
    exact JE.gp rfl (RV.tmp rfl) (RV.tmp rfl) fun w' hw=>⟨⟨q,s,Jb (by rw [hd]),hs,hq,fun e=>by rw [hd] at e;dsimp only at e;omega⟩,Gm (by rw [hd]),hw.weak (.drop _ _ _ (.drop _ _ _ (er _ (dS _ _))))⟩
  repeat (first | refine JL.q (by first|(apply OQ.qo (a:=0) (b:=0) (c:=true);rfl;rfl;rfl)|(apply OQ.move;rfl)|(apply OQ.assign;rfl)) rfl ?_ | refine JC.seq ?_ | refine JC.region ?_ | refine JL.nil ?_ | refine JE.next ?_)
  refine JC.cond_false rfl rfl ?_
  repeat (first | refine JC.seq ?_ | refine JC.skip ?_ | refine JE.next ?_)
  have hdy:=oO (side:=side.l) (fresh:=fresh) hv hmk
  have hdn:=sx (side:=side.l) (fresh:=fresh) hv hmk
  have hbad:=fun hh=>B0 (key:=key) (side:=side.l++dP h) (z:=rest) hh
  obtain ⟨o,hoe⟩ : ∃ o,gZ key (side.l++dP h) rest=o:=⟨_,rfl⟩
  rw [hoe] at hdy hdn hbad
  have hoK : gP (k1 key) (k2 key) xC (side.l++dP h) rest=o:=hoe
  have hWl : (side.l++dP h).length=side.l.length+40:=by rw [List.length_append,hBl]
  have hzS:=uH qh rest
  have hzl2:=uI hqh
  have cB:=fun (w' : World)=>AN h hc (by omega) (by omega) w'
  have cC:=fun (bs bh ch : Nat) (w' : World) (M : List aG) (hw' : ah w S M w') (hb : aM.ok w' ⟨some ⟨bh,0,none⟩,ch,dP h⟩) (hrow : ∃ ob,w'.heap[bs]?=some ob∧Row 27 [side.v,aM.v ⟨some ⟨bh,0,none⟩,ch,dP h⟩] ob)=>lU side ⟨some ⟨bh,0,none⟩,ch,dP h⟩ bs w' (hside.off hw' hos) hb hrow (by show 0<side.l.length+(dP h).length;omega) (by show side.l.length+(dP h).length≤_;omega)
  let vs : Nat→((Nat × Nat × Nat) × Gl o.1)→Value:=fun j y=>match j with
    | 0=>.agg (key.map U8).toArray
    | 1=>.agg (xC.map U8).toArray
    | 2=>side.v
    | 3=>.agg (hdc h).toArray
    | 4=>.slice (some ⟨y.1.1,0,none⟩) 40 y.1.2.1
    | 5=>.slice (some ⟨y.1.1,0,none⟩) 2 2
    | 6=>.slice (some ⟨y.1.1,0,none⟩) (side.l++dP h).length y.1.2.1
    | 7=>aC qh rest.length
    | 8=>.tuple #[y.2.1.v,N o.2]
    | 9=>y.2.1.v
    | 10=>N o.2
    | 11=>y.2.1.v
    | 12=>N o.2
    | _=>N 0
  let Ms : Nat→((Nat × Nat × Nat) × Gl o.1)→List aG:=fun j y=>match j with
    | 4=>[⟨y.1.1,Sl.aE 5 1 40 y.1.2.1 ((dP h).map U8),true⟩]
    | 5=>[⟨y.1.1,Row 27 [side.v,.slice (some ⟨y.1.2.1,0,none⟩) 40 y.1.2.2],true⟩,⟨y.1.2.1,Sl.aE 5 1 40 y.1.2.2 ((dP h).map U8),true⟩]
    | 6=>[⟨y.1.1,Sl.aE 5 1 (side.l++dP h).length y.1.2.1 ((side.l++dP h).map U8),true⟩]
    | 8=>y.2.1.ct
    | 13=>[⟨b13,Row 23 (key.map U8),true⟩]
    | 14=>[⟨b10,Row 32 (hdc h),true⟩]
    | 15=>bR 5 qh (rest.map U8)
    | 16=>e7 b q s
    | _=>[]
  refine JC.grow (g:=⟨[(0,Pt b 0),(1,side.v),(10,Pt b10 0),(11,aC qh rest.length),(13,Pt b13 0)],17,vs,Ms,(fun j=>match j with | 4=>[(3,36)] | 5=>[(2,35),(4,37)] | 6=>[(5,38)] | 8=>[(0,33),(1,34),(6,39),(7,40)] | 9=>[(8,41)] | 10=>[(8,41)] | 11=>[(9,42)] | 12=>[(10,43)] | _=>[]),(fun j=>match j with | 0=>[13] | 3=>[14] | 5=>[4] | 6=>[5] | 8=>[6,15] | _=>[]),(fun j=>match j with | 5=>[4] | _=>[]),(fun j=>match j with | 9=>some 8 | 11=>some 9 | _=>none)⟩) [(11,8),(12,9)] [8,16] gr (by repeat (first | exact ai.nil | refine ai.cons _ _ _ rfl ?_)) ?_ (by kernel_rfl) (by kernel_rfl) (by kernel_rfl) ?_ ?_
  · show aq (_::_::(bR 5 qh (rest.map U8)++(e7 b q s++[]))) _;exact .keep _ _ _ _ _ _ (fun _ h=>h) (.keep _ _ _ _ _ _ (fun _ h=>h) (mo (mo (.nil _) _) _))
  · refine ⟨?_,?_,?_,?_,?_,?_,?_,?_,?_,?_,?_,?_,?_,trivial⟩
    · (intro xx EF MF Q kk;(try refine JL.aU rfl rfl ?_);exact JL.q (OQ.af (cs:=key.map U8) aP aB rfl .here hlk Row.all) rfl (JL.nil (kk default nofun)))
    · (intro xx EF MF Q kk;exact JL.q (OQ.pure (v:=.agg (xC.map U8).toArray) rfl rfl (by kernel_rfl)) rfl (JL.nil (kk default nofun)))
    · (intro xx EF MF Q kk;(try refine JL.aU rfl rfl ?_);exact JL.q (OQ.move rfl) rfl (JL.nil (kk default nofun)))
    · (intro xx EF MF Q kk;(try refine JL.aU rfl rfl ?_);exact JL.q (OQ.af (cs:=hdc h) B2 ql rfl .here hl34 Row.all) rfl (JL.nil (kk default nofun)))
    · (intro xx EF MF Q kk;exact JL.bX (ι:=Nat × Nat) (vs:=[.agg (hdc h).toArray]) (fun x=>.slice (some ⟨x.1,0,none⟩) 40 x.2) (fun x=>[⟨x.1,Sl.aE 5 1 40 x.2 ((dP h).map U8),true⟩]) xH rfl rfl (fun i=>by simp) (fun w' hw'=>cB w') fun x=>JL.nil (kk ((x.1,x.2,0),default) nofun))
    · (intro xx EF MF Q kk;exact JL.nC (xs:=[.tmp 35,.tmp 37]) (vs:=[side.v,.slice (some ⟨(xx 4).1.1,0,none⟩) 40 (xx 4).1.2.1]) Tryz.underlying53 wC rfl rfl rfl rfl (by intro v hv;simp only [List.mem_cons,List.mem_nil_iff,or_false] at hv;rcases hv with rfl | rfl <;> rfl) rfl (by decide) (by decide) rfl fun b9 _=>JL.nil (kk ((b9,(xx 4).1.1,(xx 4).1.2.1),default) nofun))
    · (intro xx EF MF Q kk;exact JL.bX (ι:=Nat × Nat) (vs:=[.slice (some ⟨(xx 5).1.1,0,none⟩) 2 2]) (fun x=>.slice (some ⟨x.1,0,none⟩) (side.l++dP h).length x.2) (fun x=>[⟨x.1,Sl.aE 5 1 (side.l++dP h).length x.2 ((side.l++dP h).map U8),true⟩]) kF rfl rfl (fun i=>by simp) (fun w' hw'=>cC (xx 5).1.1 (xx 5).1.2.1 (xx 5).1.2.2 w' _ hw' (fl hw' (.there .here)) (by rw [show aM.v ⟨some ⟨(xx 5).1.2.1,0,none⟩,(xx 5).1.2.2,dP h⟩=.slice (some ⟨(xx 5).1.2.1,0,none⟩) 40 (xx 5).1.2.2 by simp [aM.v,hBl]];exact hw'.get .here)) fun x=>JL.nil (kk ((x.1,x.2,0),default) nofun))
    · (intro xx EF MF Q kk;(try refine JL.aU rfl rfl ?_);exact JL.q (OQ.move rfl) rfl (JL.nil (kk default nofun)))
    · (intro xx EF MF Q kk;exact JL.bX (ι:=Gl o.1) (vs:=[.agg (key.map U8).toArray,.agg (xC.map U8).toArray,.slice (some ⟨(xx 6).1.1,0,none⟩) (side.l++dP h).length (xx 6).1.2.1,aC qh rest.length]) (fun i=>.tuple #[i.1.v,N o.2]) (fun i=>i.1.ct) BE rfl rfl (fun i=>aM.ig _) (fun w' hw'=>Cg (s:=⟨some ⟨(xx 6).1.1,0,none⟩,(xx 6).1.2.1,side.l++dP h⟩) (z:=uG qh rest) rfl hzS (by rw [hzl2];exact hoK) hkl rfl (hT.g hw') (hT.q hw') (fl hw' .here) (uJ (e:=5) (M:=MF) (hw'.weak (Ja _ _ MF))) (by show (side.l++dP h).length<_;omega) (by rw [hzl2];omega)) fun i=>JL.nil (kk ((0,0,0),i) nofun))
    · (intro xx EF MF Q kk;(try refine JL.aU rfl rfl ?_);exact JL.q (OQ.extract rfl rfl) rfl (JL.nil (kk (xx 8) (fun k h=>by cases h;rfl))))
    · (intro xx EF MF Q kk;(try refine JL.aU rfl rfl ?_);exact JL.q (OQ.extract rfl rfl) rfl (JL.nil (kk default nofun)))
    · (intro xx EF MF Q kk;(try refine JL.aU rfl rfl ?_);exact JL.q (OQ.assign rfl) rfl (JL.nil (kk (xx 9) (fun k h=>by cases h;rfl))))
    · (intro xx EF MF Q kk;(try refine JL.aU rfl rfl ?_);exact JL.q (OQ.assign rfl) rfl (JL.nil (kk default nofun)))
  · intro xx hx
    have e1:=hx 11 9 (by decide) rfl
    have e2:=hx 9 8 (by decide) rfl
    show JE _ _ _ _ _ [(8,(xx 11).2.1.v),(9,N o.2),(0,Pt b 0),(1,side.v),(10,Pt b10 0),(11,aC qh rest.length),(13,Pt b13 0)] ((xx 8).2.1.ct++(e7 b q s++[]))
    rw [e1,e2,List.append_nil]
    generalize (xx 8).2=x
    clear hx e1 e2 xx vs Ms
    repeat (refine JE.next ?_)
    refine JC.ret ?_
    skip
    by_cases ho : o.2=0
    · have hd:=hdy ho
      refine JE.gp rfl (RV.tmp rfl) (RV.tmp rfl) fun w' hw=>⟨⟨q,s,⟨x.1,by rw [hd];exact x.2⟩,hs,hq,fun _=>by rw [hd]⟩,Gm (by rw [hd,ho]),hw⟩
    · have hd:=hdn ho
      refine JE.gp rfl (RV.tmp rfl) (RV.tmp rfl) fun w' hw=>⟨⟨q,s,⟨x.1,by rw [hd,← hbad ho];exact x.2⟩,hs,hq,fun e=>absurd (by rw [hd] at e;exact e) ho⟩,Gm (by rw [hd]),hw⟩
structure MT (o : bA × Bk × Nat) where
  q : Acc
  x : Gl o.2.1
  nil : q=none→o.1.kept=[]
theorem Cj : aK Tryz.prog 12:=⟨_,Tryz.func12,rfl,by kernel_rfl⟩
theorem AT {s : bA} {side z fresh : Bk} (h : ¬ (fG s side z fresh).2.2=0) : (fG s side z fresh).1=s∧(fG s side z fresh).2.1=[]:=by
  cases hv : dI z with
  | none=>rw [oN hv];exact ⟨rfl,rfl⟩
  | some hr=>
    obtain ⟨hd,r⟩:=hr
    cases hm : jO s hd fresh with
    | inl c=>rw [mM hv hm];exact ⟨rfl,rfl⟩
    | inr nk=>
      obtain ⟨n,key⟩:=nk
      by_cases ho : (gZ key (side++dP hd) r).2=0
      · rw [oO hv hm ho] at h
        exact absurd rfl h
      · rw [sx hv hm ho]
        exact ⟨rfl,rfl⟩
set_option maxHeartbeats 32000000 in
theorem EO (s : bA) (k : mV) (hs : s.ok) (he : k.l=s.kept) (hk0 : s.kept.length≤2000) (ht0 : s.taken≤2147483648) (side z : aM) (hsl : side.l.length≤1000000) (hzl : z.l.length≤1000000) (fresh : Bk) (hf : fresh.length=32) (w : World) (hG : g7 w) (hQ : GQ w) (hk : k.ok w) (hside : side.ok w) (hz : z.ok w) :
    Calls Tryz.prog 12 [.agg (sec s k.v).toArray,side.v,z.v,.agg (fresh.map U8).toArray].toArray w fun e w'=>∃ r : MT (fG s side.l z.l fresh),e=.returned (.tuple #[.agg (sec (fG s side.l z.l fresh).1 (aC r.q (fG s side.l z.l fresh).1.kept.length)).toArray,r.x.1.v,N (fG s side.l z.l fresh).2.2])∧ah w [] (r.x.1.ct++fU r.q (fG s side.l z.l fresh).1.kept) w':=by
  have hlf : (fresh.map U8).length=32:=by rw [List.length_map];exact hf
  have hT:=Tb.nil hG hQ
  have hn:=ay hs k.v
  have hderr:=AT (s:=s) (side:=side.l) (z:=z.l) (fresh:=fresh)
  refine enter (n:=27) Tryz.func12 rfl rfl rfl (ah.start w []) ?_
  repeat (first | refine JC.seq ?_ | refine JC.region ?_)
  refine JL.box (r:=sec s k.v) rfl rfl rfl fun b4 _=>?_
  refine JL.box (r:=fresh.map U8) rfl rfl rfl fun b7 _=>?_
  refine JL.alloc uk rfl fun b8 _=>?_
  repeat (first | refine JL.q (by first|(apply OQ.af (cs:=sec s k.v);exact gK;exact dB;rfl;exact (.there (.there .here));exact hn;exact Row.all)|(apply OQ.assign;rfl)) rfl ?_ | refine JC.seq ?_ | refine JC.region ?_ | refine JL.nil ?_ | refine JE.next ?_)
  refine JL.bX (ι:=pO s.kept) (vs:=[.agg (sec s k.v).toArray]) (fun q=>.agg (sec s (aC q.1 s.kept.length)).toArray) (fun q=>fU q.1 s.kept) l7 rfl rfl (fun q=>ju _ _) (fun w' hw'=>nV s k hs w' (hk.holds hw' rfl) he (by omega)) ?_
  rintro ⟨q,hq⟩
  try dsimp only
  have hn2:=ay hs (aC q s.kept.length)
  refine JL.dz (M':=⟨b8,Row 26 (sec dh (.slice none 0 0)),true⟩::(fU q s.kept++[⟨b7,Row 23 (fresh.map U8),true⟩,⟨b4,Row 26 (sec s k.v),true⟩])) (by exact List.perm_middle) ?_
  refine JL.ag (cs:=sec s (aC q s.kept.length)) dB rfl rfl hn2 (bw (gk _ _)) .here (ay br _) ?_
  have hH7 : ∀ (e : aG) (A : List aG),Has (e::(A++[(⟨b7,Row 23 (fresh.map U8),true⟩ : aG),⟨b4,Row 26 (sec s k.v),true⟩])) b7 (Row 23 (fresh.map U8)) true:=fun e A=>.there (sG A .here)
  repeat (first | refine JL.q (by first|(apply OQ.af (cs:=fresh.map U8);exact aP;exact aB;rfl;exact (hH7 _ _);exact hlf;exact Row.all)|(apply OQ.move;rfl)) rfl ?_ | refine JC.seq ?_ | refine JC.region ?_ | refine JL.nil ?_ | refine JE.next ?_)
  refine JL.wL (M':=e7 b8 q s++[⟨b7,Row 23 (fresh.map U8),true⟩,⟨b4,Row 26 (sec s k.v),true⟩]) (aq.refl _) ?_
  refine JL.lV (ι:=MS (fG s side.l z.l fresh)) (vs:=[Pt b8 0,side.v,z.v,.agg (fresh.map U8).toArray]) (fun r=>.tuple #[r.x.1.v,N (fG s side.l z.l fresh).2.2]) (fun r=>r.x.1.ct++e7 b8 r.q r.s) Ci rfl rfl (dY _ _ _) (fun r e he=>?_) (fun w' hw' hx'=>EN b8 q s hs hq hk0 ht0 side z hsl hzl fresh hf w' (hT.own hw' (dY _ _ _)) (hside.holds hw' rfl) (AR hw' (dY _ _ _) hside (AS _)) (hz.holds hw' rfl) (AR hw' (dY _ _ _) hz (AS _)) hx') fun r=>?_
  · rcases List.mem_append.1 he with he | he
    · exact aM.ig _ e he
    · exact dY _ _ _ e he
  obtain ⟨q2,s2,x,hs2,hq2,his⟩:=r
  dsimp only
  revert x
  revert his
  revert hderr
  generalize fG s side.l z.l fresh=o
  intro hderr his x
  repeat (first | refine JL.q (by first|(apply OQ.extract;rfl;rfl)|(apply OQ.move;rfl)|(apply OQ.assign;rfl)) rfl ?_ | refine JC.seq ?_ | refine JC.region ?_ | refine JL.nil ?_ | refine JE.next ?_)
  by_cases hc : o.2.2=0
  · have h1:=his hc
    subst h1
    have hn3:=ay hs2 (aC q2 o.1.kept.length)
    have hne : decide ((o.2.2 : Int)=0)=true:=decide_eq_true (by omega)
    have hH8 : Has ((x.1.ct++e7 b8 q2 o.1)++[(⟨b7,Row 23 (fresh.map U8),true⟩ : aG),⟨b4,Row 26 (sec s k.v),true⟩]) b8 (Row 26 (sec o.1 (aC q2 o.1.kept.length))) true:=by
      rw [List.append_assoc]
      exact sG _ .here
    repeat (first | refine JL.q (by (apply OQ.qo (a:=(o.2.2 : Int)) (b:=0);rfl;rfl;exact hne)) rfl ?_ | refine JL.nil ?_ | refine JE.next ?_)
    refine JC.cond_false rfl rfl ?_
    repeat (first | refine JL.q (by first|(apply OQ.af (cs:=sec o.1 (aC q2 o.1.kept.length));exact gK;exact dB;rfl;exact hH8;exact hn3;exact Row.all)|(apply OQ.move;rfl)) rfl ?_ | refine JC.seq ?_ | refine JC.region ?_ | refine JC.skip ?_ | refine JE.next ?_)
    refine JL.dz (M':=⟨b8,Row 26 (sec o.1 (aC q2 o.1.kept.length)),true⟩::(x.1.ct++(fU q2 o.1.kept++[⟨b7,Row 23 (fresh.map U8),true⟩,⟨b4,Row 26 (sec s k.v),true⟩]))) (by rw [List.append_assoc];exact List.perm_middle) ?_
    refine JL.ag (cs:=sec o.1 (aC q2 o.1.kept.length)) dB rfl rfl hn3 (bw (gk _ _)) .here hn3 ?_
    repeat (first | refine JL.q (by (apply OQ.assign;rfl)) rfl ?_ | refine JL.nil ?_ | refine JE.next ?_)
    refine JC.ret ?_
    skip
    refine JE.jy rfl (RV.av gK dB rfl .here hn3 Row.all) (RV.tmp rfl) (RV.tmp rfl) fun w' hw=>⟨⟨q2,x,hq2⟩,by rw [hc];rfl,hw.weak (.drop _ _ _ (mo (dS _ _) _))⟩
  · obtain ⟨h1,h2⟩:=hderr hc
    obtain ⟨o1,o2,o3⟩:=o
    dsimp only at h1 h2 hc his x ⊢
    have h1':=h1.symm
    subst h1' h2
    clear hderr his
    have hne : decide ((o3 : Int)=0)=false:=decide_eq_false (by omega)
    have hH4 : Has ((x.1.ct++e7 b8 q2 s2)++[(⟨b7,Row 23 (fresh.map U8),true⟩ : aG),⟨b4,Row 26 (sec s k.v),true⟩]) b4 (Row 26 (sec s k.v)) true:=sG _ (.there .here)
    have hn3:=ay hs2 (aC q2 s2.kept.length)
    repeat (first | refine JL.q (by (apply OQ.qo (a:=(o3 : Int)) (b:=0);rfl;rfl;exact hne)) rfl ?_ | refine JL.nil ?_ | refine JE.next ?_)
    refine JC.cond_true rfl rfl ?_
    repeat (first | refine JL.q (by (apply OQ.af (cs:=sec s k.v);exact gK;exact dB;rfl;exact hH4;exact hn;exact Row.all)) rfl ?_ | refine JC.seq ?_ | refine JC.region ?_)
    refine JL.bX (ι:=pO s.kept) (vs:=[.agg (sec s k.v).toArray]) (fun q=>.agg (sec s (aC q.1 s.kept.length)).toArray) (fun q=>fU q.1 s.kept) l7 rfl rfl (fun q=>ju _ _) (fun w' hw'=>nV s k hs w' (hk.holds hw' rfl) he (by omega)) ?_
    rintro ⟨q3,hq3⟩
    try dsimp only
    have hn4:=ay hs (aC q3 s.kept.length)
    refine JL.dz (M':=⟨b8,Row 26 (sec s2 (aC q2 s2.kept.length)),true⟩::(fU q3 s.kept++(x.1.ct++(fU q2 s2.kept++[⟨b7,Row 23 (fresh.map U8),true⟩,⟨b4,Row 26 (sec s k.v),true⟩])))) (by rw [List.append_assoc,← List.append_assoc];refine List.perm_middle.trans ?_;rw [List.append_assoc];exact List.Perm.refl _) ?_
    repeat (refine JL.q (by (apply OQ.move;rfl)) rfl ?_)
    refine JL.ag (cs:=sec s (aC q3 s.kept.length)) dB rfl rfl hn4 (bw (gk _ _)) .here hn3 ?_
    repeat (first | refine JL.q (by (apply OQ.assign;rfl)) rfl ?_ | refine JL.nil ?_ | refine JE.next ?_)
    refine JC.ret ?_
    repeat (refine JE.aH ?_)
    refine JE.jy rfl (RV.av gK dB rfl .here hn4 Row.all) (RV.tmp rfl) (RV.tmp rfl) fun w' hw=>⟨⟨q3,Jb rfl,hq3⟩,rfl,hw.weak (.drop _ _ _ (dS _ _))⟩
end
section
set_option maxRecDepth 10000
open Sl g5 lz dO mP
open pT (Bk)
abbrev aR : Value:=.slice none 0 0
theorem Gn {l : List Value} {i : Nat} {v : Value} (h : i<l.length) : l.take i++[v]++l.drop (i+1)=l.set i v:=by
  rw [List.set_eq_take_append_cons_drop,if_pos h,List.append_assoc]
  rfl
theorem Ck (own other : Bk) (h1 : own.length=32) (h2 : other.length=32) : Tryz.prog.built 26 ([1,2,3].zip [.agg (own.map U8).toArray,.agg (other.map U8).toArray,.bool true])=some (sec ⟨dN,own,other,true,false,dN,dN,0,0,0,[]⟩ aR).toArray:=by
  have h : Tryz.prog.built 26 ([1,2,3].zip [.agg (own.map U8).toArray,.agg (other.map U8).toArray,.bool true])=Instr.fill (fun i=>#[(0,32),(32,32),(64,32),(96,1),(97,1),(98,32),(130,32),(162,1),(163,1),(164,1),(165,1)][i]?) (sec dh aR).toArray [(1,.agg (own.map U8).toArray),(2,.agg (other.map U8).toArray),(3,.bool true)]:=by kernel_rfl
  have k1 : ({ dh with own:=own } : bA).ok:=⟨rfl,h1,rfl,rfl,rfl,nofun⟩
  have k2 : ({ dh with own:=own,other:=other } : bA).ok:=⟨rfl,h1,h2,rfl,rfl,nofun⟩
  have p1:=iZ br aR own h1
  have p2:=jl k1 aR other h2
  have p3:=jm k2 aR true
  rw [List.length_map,h1] at p1
  rw [List.length_map,h2] at p2
  rw [h,dy (off:=32) (sz:=32) (cs:=own.map U8) rfl rfl (by simp [h1]) (by rw [ay br];decide),p1,dy (off:=64) (sz:=32) (cs:=other.map U8) rfl rfl (by simp [h2]) (by rw [ay k1];decide),p2,dy (off:=96) (sz:=1) (cs:=[.bool true]) rfl rfl rfl (by rw [ay k2];decide),Gn (by rw [ay k2];decide),p3]
  rfl
theorem zB (root own : Bk) (h1 : root.length=32) (h2 : own.length=32) : Tryz.prog.built 26 ([0,1].zip [.agg (root.map U8).toArray,.agg (own.map U8).toArray])=some (sec (fJ root own) aR).toArray:=by
  have h : Tryz.prog.built 26 ([0,1].zip [.agg (root.map U8).toArray,.agg (own.map U8).toArray])=Instr.fill (fun i=>#[(0,32),(32,32),(64,32),(96,1),(97,1),(98,32),(130,32),(162,1),(163,1),(164,1),(165,1)][i]?) (sec dh aR).toArray [(0,.agg (root.map U8).toArray),(1,.agg (own.map U8).toArray)]:=by kernel_rfl
  have k1 : ({ dh with root:=root } : bA).ok:=⟨h1,rfl,rfl,rfl,rfl,nofun⟩
  have p1:=fm br aR root h1
  have p2:=iZ k1 aR own h2
  rw [List.length_map,h1] at p1
  rw [List.length_map,h2] at p2
  rw [h,dy (off:=0) (sz:=32) (cs:=root.map U8) rfl rfl (by simp [h1]) (by rw [ay br];decide),p1,dy (off:=32) (sz:=32) (cs:=own.map U8) rfl rfl (by simp [h2]) (by rw [ay k1];decide),p2]
  rfl
theorem sH : aK Tryz.prog 16:=⟨_,Tryz.func16,rfl,by kernel_rfl⟩
theorem qm : aK Tryz.prog 17:=⟨_,Tryz.func17,rfl,by kernel_rfl⟩
set_option maxHeartbeats 8000000 in
theorem sI (root own Y : Bk) (h1 : root.length=32) (h2 : own.length=32) (h3 : Y.length=32) (w : World) : Calls Tryz.prog 17 [.agg (root.map U8).toArray,.agg ((own++Y).map U8).toArray].toArray w fun e w'=>e=.returned (.agg (sec (fJ root own) aR).toArray)∧Ext w w':=by
  have l1 : (root.map U8).length=32:=by rw [List.length_map];exact h1
  have l2 : (own.map U8).length=32:=by rw [List.length_map];exact h2
  have i0:=En (b:=Y) h2
  have hb:=zB root own h1 h2
  have hn:=ay (nQ root own h1 h2) aR
  refine enter (n:=9) Tryz.func17 rfl rfl rfl (ah.start w []) ?_
  repeat (first | refine JC.seq ?_ | refine JC.region ?_)
  refine JL.box (r:=root.map U8) rfl rfl rfl fun b2 _=>?_
  refine JL.box (r:=(own++Y).map U8) rfl rfl rfl fun b3 _=>?_
  refine JL.alloc uk rfl fun b4 _=>?_
  repeat (first | refine JL.q (by first|(apply OQ.af (cs:=root.map U8);exact aP;exact aB;rfl;exact (.there (.there .here));exact l1;exact Row.all)|(apply OQ.af (cs:=own.map U8);exact aP;exact aB;rfl;exact (.there .here);exact l2;exact (Row.cells i0))|(apply OQ.bM;rfl;rfl;rfl;exact (by decide);rfl)) rfl ?_ | refine JC.seq ?_ | refine JC.region ?_ | refine JL.nil ?_ | refine JE.next ?_)
  refine JL.q (OQ.l9 (cs:=sec (fJ root own) aR) [0,1] [.tmp 5,.tmp 7] (vs:=[.agg (root.map U8).toArray,.agg (own.map U8).toArray]) rfl rfl hb) rfl ?_
  refine JL.ag (cs:=sec (fJ root own) aR) dB rfl rfl hn (bw rfl) .here (ay br _) ?_
  repeat (first | refine JL.nil ?_ | refine JE.next ?_)
  refine JC.ret (JE.aQ rfl (RV.av gK dB rfl .here hn Row.all) ?_)
  exact fun w' hw=>⟨rfl,hw.aL⟩
set_option maxHeartbeats 16000000 in
theorem uv (root own Y other : Bk) (h1 : root.length=32) (h2 : own.length=32) (h3 : Y.length=32) (h4 : other.length=32) (w : World) (hG : g7 w) : Calls Tryz.prog 16 [.agg (root.map U8).toArray,.agg ((own++Y).map U8).toArray,.agg (other.map U8).toArray].toArray w fun e w'=>e=.returned (.agg (sec (ep root own other) aR).toArray)∧Ext w w':=by
  have l1 : (root.map U8).length=32:=by rw [List.length_map];exact h1
  have l2 : (own.map U8).length=32:=by rw [List.length_map];exact h2
  have l4 : (other.map U8).length=32:=by rw [List.length_map];exact h4
  have lp : ((own++Y).map U8).length=64:=by rw [List.length_map,List.length_append,h2,h3]
  have i0:=En (b:=Y) h2
  have hb:=Ck own other h2 h4
  have hok:=pK root own other h2 h4
  have hn:=ay hok aR
  have hm:=vC own other
  have cS:=fun (w' : World)=>xB own Y other h2 h3 h4 w'
  have cT:=fun (w' : World) (hG : g7 w')=>vK root (aN own other) h1 hm w' hG
  have hfd : ep root own other=⟨cq root (aN own other),own,other,true,false,dX root (aN own other),dN,0,0,0,[]⟩:=rfl
  have la:=fy root (aN own other)
  have lc:=eH root (aN own other)
  rw [hfd] at hn hok ⊢
  clear hfd
  generalize cq root (aN own other)=tA at *
  generalize dX root (aN own other)=tC at *
  generalize aN own other=m at *
  have lA : (tA.map U8).length=32:=by rw [List.length_map];exact la
  have lC : (tC.map U8).length=32:=by rw [List.length_map];exact lc
  have k0 : (⟨dN,own,other,true,false,dN,dN,0,0,0,[]⟩ : bA).ok:=⟨rfl,h2,h4,rfl,rfl,nofun⟩
  have k1 : (⟨tA,own,other,true,false,dN,dN,0,0,0,[]⟩ : bA).ok:=⟨la,h2,h4,rfl,rfl,nofun⟩
  have p0:=fm k0 aR tA la
  have p1:=iq k1 aR tC lc
  have n0:=ay k0 aR
  have n1:=ay k1 aR
  refine enter (n:=23) Tryz.func16 rfl rfl rfl (ah.start w []) ?_
  repeat (first | refine JC.seq ?_ | refine JC.region ?_)
  refine JL.box (r:=root.map U8) rfl rfl rfl fun b3 _=>?_
  refine JL.box (r:=(own++Y).map U8) rfl rfl rfl fun b4 _=>?_
  refine JL.box (r:=other.map U8) rfl rfl rfl fun b5 _=>?_
  refine JL.alloc uk rfl fun b6 _=>?_
  repeat (first | refine JL.q (by first|(apply OQ.af (cs:=own.map U8);exact aP;exact aB;rfl;exact (.there (.there .here));exact l2;exact (Row.cells i0))|(apply OQ.af (cs:=other.map U8);exact aP;exact aB;rfl;exact (.there .here);exact l4;exact Row.all)|(apply OQ.bM;rfl;rfl;rfl;exact (by decide);rfl)) rfl ?_ | refine JC.seq ?_ | refine JC.region ?_ | refine JL.nil ?_ | refine JE.next ?_)
  refine JL.q (OQ.l9 (cs:=sec ⟨dN,own,other,true,false,dN,dN,0,0,0,[]⟩ aR) [1,2,3] [.tmp 9,.tmp 10,.const (.bool true)] (vs:=[.agg (own.map U8).toArray,.agg (other.map U8).toArray,.bool true]) rfl rfl hb) rfl ?_
  refine JL.alloc uk rfl fun b7 _=>?_
  refine JL.ag (cs:=sec ⟨dN,own,other,true,false,dN,dN,0,0,0,[]⟩ aR) dB rfl rfl n0 (bw rfl) .here (ay br _) ?_
  repeat (first | refine JC.seq ?_ | refine JL.nil ?_ | refine JE.next ?_)
  let vs : Nat→Nat→Value:=fun j y=>match j with
    | 0=>.agg (root.map U8).toArray
    | 1=>.agg ((own++Y).map U8).toArray
    | 2=>.agg (other.map U8).toArray
    | 3=>.agg (m.map U8).toArray
    | 4=>.tuple #[.agg (tA.map U8).toArray,.agg (tC.map U8).toArray]
    | 5=>.tuple #[.agg (tA.map U8).toArray,.agg (tC.map U8).toArray]
    | 6=>.agg (tA.map U8).toArray
    | 7=>.agg (tC.map U8).toArray
    | 8=>Pt b7 0
    | 10=>Pt b7 98
    | _=>N 0
  let Ms : Nat→Nat→List aG:=fun j y=>match j with
    | 9=>[⟨b7,Row 26 (sec ⟨tA,own,other,true,false,dN,dN,0,0,0,[]⟩ aR),true⟩]
    | 11=>[⟨b7,Row 26 (sec ⟨tA,own,other,true,false,tC,dN,0,0,0,[]⟩ aR),true⟩]
    | 12=>[⟨b7,Row 26 (sec ⟨dN,own,other,true,false,dN,dN,0,0,0,[]⟩ aR),true⟩]
    | 13=>[⟨b6,Row 26 (sec dh aR),true⟩]
    | 14=>[⟨b5,Row 23 (other.map U8),true⟩]
    | 15=>[⟨b4,Row 46 ((own++Y).map U8),true⟩]
    | 16=>[⟨b3,Row 23 (root.map U8),true⟩]
    | _=>[]
  refine JC.grow (g:=⟨[(3,Pt b3 0),(4,Pt b4 0),(5,Pt b5 0),(6,Pt b6 0),(7,Pt b7 0)],17,vs,Ms,(fun j=>match j with | 3=>[(1,14),(2,15)] | 4=>[(0,13),(3,16)] | 5=>[(4,17)] | 6=>[(5,12)] | 7=>[(5,12)] | 9=>[(8,20),(6,18)] | 11=>[(10,21),(7,19)] | _=>[]),(fun j=>match j with | 0=>[16] | 1=>[15] | 2=>[14] | 9=>[12] | 11=>[9] | _=>[]),(fun j=>match j with | 9=>[12] | 11=>[9] | _=>[]),(fun j=>match j with | _=>none)⟩) [] [11,13] gr (by repeat (first | exact ai.nil | refine ai.cons _ _ _ rfl ?_)) ?_ (by kernel_rfl) (by kernel_rfl) (by kernel_rfl) ?_ ?_
  · exact aq.refl _
  · refine ⟨?_,?_,?_,?_,?_,?_,?_,?_,?_,?_,?_,?_,trivial⟩
    · (intro xx EF MF Q kk;(try refine JL.aU rfl rfl ?_);exact JL.q (OQ.af (cs:=root.map U8) aP aB rfl .here l1 Row.all) rfl (JL.nil (kk default nofun)))
    · (intro xx EF MF Q kk;(try refine JL.aU rfl rfl ?_);exact JL.q (OQ.af (cs:=(own++Y).map U8) Em xA rfl .here lp Row.all) rfl (JL.nil (kk default nofun)))
    · (intro xx EF MF Q kk;(try refine JL.aU rfl rfl ?_);exact JL.q (OQ.af (cs:=other.map U8) aP aB rfl .here l4 Row.all) rfl (JL.nil (kk default nofun)))
    · (intro xx EF MF Q kk;(try refine JL.aU rfl rfl ?_);exact JL.q (OQ.au (vs:=[.agg ((own++Y).map U8).toArray,.agg (other.map U8).toArray]) vw rfl fun w' _=>cS w') rfl (JL.nil (kk default nofun)))
    · (intro xx EF MF Q kk;(try refine JL.aU rfl rfl ?_);exact JL.q (OQ.au (vs:=[.agg (root.map U8).toArray,.agg (m.map U8).toArray]) sC rfl fun w' hw'=>cT w' (hG.aL hw'.aL (by simp))) rfl (JL.nil (kk default nofun)))
    · (intro xx EF MF Q kk;(try refine JL.aU rfl rfl ?_);exact JL.q (OQ.move rfl) rfl (JL.nil (kk default nofun)))
    · (intro xx EF MF Q kk;(try refine JL.aU rfl rfl ?_);exact JL.q (OQ.extract rfl rfl) rfl (JL.nil (kk default nofun)))
    · (intro xx EF MF Q kk;(try refine JL.aU rfl rfl ?_);exact JL.q (OQ.extract rfl rfl) rfl (JL.nil (kk default nofun)))
    · (intro xx EF MF Q kk;(try refine JL.aU rfl rfl ?_);exact JL.q (OQ.bM rfl rfl rfl (by decide) rfl) rfl (JL.nil (kk default nofun)))
    · (intro xx EF MF Q kk;exact JL.aW (r:=sec ⟨dN,own,other,true,false,dN,dN,0,0,0,[]⟩ aR) (r':=sec ⟨tA,own,other,true,false,dN,dN,0,0,0,[]⟩ aR) aB rfl rfl lA (aV _) .here (by rw [n0,lA];decide) p0 (JL.nil (kk default nofun)))
    · (intro xx EF MF Q kk;(try refine JL.aU rfl rfl ?_);exact JL.q (OQ.bM rfl rfl rfl (by decide) rfl) rfl (JL.nil (kk default nofun)))
    · (intro xx EF MF Q kk;exact JL.aW (r:=sec ⟨tA,own,other,true,false,dN,dN,0,0,0,[]⟩ aR) (r':=sec ⟨tA,own,other,true,false,tC,dN,0,0,0,[]⟩ aR) aB rfl rfl lC (aV _) .here (by rw [n1,lC];decide) p1 (JL.nil (kk default nofun)))
  · intro xx hx
    show JE _ _ _ _ _ [(3,Pt b3 0),(4,Pt b4 0),(5,Pt b5 0),(6,Pt b6 0),(7,Pt b7 0)] [⟨b7,Row 26 (sec ⟨tA,own,other,true,false,tC,dN,0,0,0,[]⟩ aR),true⟩,⟨b6,Row 26 (sec dh aR),true⟩]
    clear hx xx vs Ms
    repeat (first | refine JL.q (by (apply OQ.af (cs:=sec ⟨tA,own,other,true,false,tC,dN,0,0,0,[]⟩ aR);exact gK;exact dB;rfl;exact .here;exact hn;exact Row.all)) rfl ?_ | refine JC.seq ?_ | refine JC.region ?_ | refine JE.next ?_)
    refine JL.ag (cs:=sec ⟨tA,own,other,true,false,tC,dN,0,0,0,[]⟩ aR) dB rfl rfl hn (bw rfl) (.there .here) (ay br _) ?_
    repeat (first | refine JL.nil ?_ | refine JE.next ?_)
    refine JC.ret (JE.aQ rfl (RV.av gK dB rfl (.there .here) hn Row.all) ?_)
    exact fun w' hw=>⟨rfl,hw.aL⟩
structure KV (o : bA × Bk × Nat) where
  q : Acc
  x : Acc
  nil : q=none→o.1.kept=[]
  xn : x=none→o.2.1=[]
theorem pQ : aK Tryz.prog 18:=⟨_,Tryz.func18,rfl,by kernel_rfl⟩
theorem EP {s : bA} (h : s.bY=false) (side p : Bk) : jt s side p=(s,[],13):=by rw [jt,if_pos h]
theorem Gp {s : bA} (h : s.bY=true) (h2 : 2147483647≤s.sent) (side p : Bk) : jt s side p=(s,[],12):=by rw [jt,if_neg (by rw [h];decide),if_pos h2]
theorem vL {s : bA} (h : s.bY=true) (h2 : ¬ 2147483647≤s.sent) (side p : Bk) : jt s side p=(xD s,vD s side p,0):=by rw [jt,if_neg (by rw [h];decide),if_neg h2]
set_option maxHeartbeats 32000000 in
theorem xO (s : bA) (k : mV) (hs : s.ok) (he : k.l=s.kept) (hk0 : s.kept.length≤1000000) (hst : s.sent≤2147483648) (hpv : s.prev≤2147483648) (side p : aM) (hsl : side.l.length≤1000000) (hpl : p.l.length≤1000000) (w : World) (hG : g7 w) (hQ : GQ w) (hk : k.ok w) (hside : side.ok w) (hp : p.ok w) :
    Calls Tryz.prog 18 [.agg (sec s k.v).toArray,side.v,p.v].toArray w fun e w'=>∃ r : KV (jt s side.l p.l),e=.returned (.tuple #[.agg (sec (jt s side.l p.l).1 (aC r.q (jt s side.l p.l).1.kept.length)).toArray,aC r.x (jt s side.l p.l).2.1.length,N (jt s side.l p.l).2.2])∧ah w [] (bR 5 r.x ((jt s side.l p.l).2.1.map U8)++fU r.q (jt s side.l p.l).1.kept) w':=by
  have hn:=ay hs k.v
  refine enter (n:=55) Tryz.func18 rfl rfl rfl (ah.start w []) ?_
  repeat (first | refine JC.seq ?_ | refine JC.region ?_)
  refine JL.box (r:=sec s k.v) rfl rfl rfl fun b3 _=>?_
  refine JL.alloc uk rfl fun b6 _=>?_
  repeat (first | refine JL.q (by first|(apply OQ.af (cs:=sec s k.v);exact gK;exact dB;rfl;exact (.there .here);exact hn;exact Row.all)|(apply OQ.assign;rfl)) rfl ?_ | refine JC.seq ?_ | refine JC.region ?_ | refine JL.nil ?_ | refine JE.next ?_)
  refine JL.bX (ι:=pO s.kept) (vs:=[.agg (sec s k.v).toArray]) (fun q=>.agg (sec s (aC q.1 s.kept.length)).toArray) (fun q=>fU q.1 s.kept) l7 rfl rfl (fun q=>ju _ _) (fun w' hw'=>nV s k hs w' (hk.holds hw' rfl) he hk0) ?_
  rintro ⟨q,hq⟩
  try dsimp only
  obtain ⟨kv,hkv⟩ : ∃ kv,aC q s.kept.length=kv:=⟨_,rfl⟩
  have hkv1 : kv.oneCell'=true:=by rw [← hkv];exact gk _ _
  rw [hkv]
  have hn2:=ay hs kv
  refine JL.dz (M':=⟨b6,Row 26 (sec dh (.slice none 0 0)),true⟩::⟨b3,Row 26 (sec s k.v),true⟩::fU q s.kept) (by exact List.perm_append_comm (l₂:=[_,_])) ?_
  refine JL.ag (cs:=sec s kv) dB rfl rfl hn2 (bw hkv1) .here (ay br _) ?_
  cases hse : s.bY
  · have hd:=EP hse side.l p.l
    have hld : ∀ o,Row 26 (sec s k.v) o→cellAt o 96=some (.bool false):=by rw [← hse];exact Row.cell (mq hs _)
    rw [hd]
    repeat (first | refine JL.q (by first|(apply OQ.load;exact gj;rfl;exact (.there .here);exact hld)|(apply OQ.not;rfl)|(apply OQ.bM;rfl;rfl;rfl;exact (by decide);rfl)) rfl ?_ | refine JC.seq ?_ | refine JC.region ?_ | refine JL.nil ?_ | refine JE.next ?_)
    refine JC.cond_true rfl rfl ?_
    repeat (first | refine JL.q (by (apply OQ.af (cs:=sec s kv);exact gK;exact dB;rfl;exact .here;exact hn2;exact Row.all)) rfl ?_ | refine JC.seq ?_ | refine JC.region ?_)
    refine JL.ag (cs:=sec s kv) dB rfl rfl hn2 (bw hkv1) .here hn2 ?_
    repeat (first | refine JL.q (by (apply OQ.assign;rfl)) rfl ?_ | refine JL.nil ?_ | refine JE.next ?_)
    refine JC.ret ?_
    repeat (refine JE.aH ?_)
    exact JE.jy rfl (RV.av gK dB rfl .here hn2 Row.all) (RV.tmp rfl) (RV.tmp rfl) fun w' hw=>⟨⟨q,none,hq,fun _=>rfl⟩,by rw [← hkv];rfl,hw.weak (.drop _ _ _ (.drop _ _ _ (aq.refl _)))⟩
  have hld : ∀ o,Row 26 (sec s k.v) o→cellAt o 96=some (.bool true):=by rw [← hse];exact Row.cell (mq hs _)
  have hsn : ∀ o,Row 26 (sec s k.v) o→cellAt o 162=some (N s.sent):=Row.cell (jC hs _)
  by_cases hmx : 2147483647≤s.sent
  · have hd:=Gp hse hmx side.l p.l
    have hge : decide ((2147483647 : Int)≤((s.sent : Nat) : Int))=true:=decide_eq_true (by omega)
    rw [hd]
    repeat (first | refine JL.q (by first|(apply OQ.load;exact gj;rfl;exact (.there .here);exact hld)|(apply OQ.not;rfl)|(apply OQ.bM;rfl;rfl;rfl;exact (by decide);rfl)) rfl ?_ | refine JC.seq ?_ | refine JC.region ?_ | refine JL.nil ?_ | refine JE.next ?_)
    refine JC.cond_false rfl rfl ?_
    repeat (first | refine JL.q (by first|(apply OQ.load;exact bB;rfl;exact (.there .here);exact hsn)|(apply OQ.A4 (a:=((s.sent : Nat) : Int)) (b:=2147483647);rfl;rfl;exact hge)|(apply OQ.bM;rfl;rfl;rfl;exact (by decide);rfl)) rfl ?_ | refine JC.seq ?_ | refine JC.region ?_ | refine JC.skip ?_ | refine JL.nil ?_ | refine JE.next ?_)
    refine JC.cond_true rfl rfl ?_
    repeat (first | refine JL.q (by (apply OQ.af (cs:=sec s kv);exact gK;exact dB;rfl;exact .here;exact hn2;exact Row.all)) rfl ?_ | refine JC.seq ?_ | refine JC.region ?_)
    refine JL.ag (cs:=sec s kv) dB rfl rfl hn2 (bw hkv1) .here hn2 ?_
    repeat (first | refine JL.q (by (apply OQ.assign;rfl)) rfl ?_ | refine JL.nil ?_ | refine JE.next ?_)
    refine JC.ret ?_
    repeat (refine JE.aH ?_)
    exact JE.jy rfl (RV.av gK dB rfl .here hn2 Row.all) (RV.tmp rfl) (RV.tmp rfl) fun w' hw=>⟨⟨q,none,hq,fun _=>rfl⟩,by rw [← hkv];rfl,hw.weak (.drop _ _ _ (.drop _ _ _ (aq.refl _)))⟩
  have hd:=vL hse hmx side.l p.l
  have hge : decide ((2147483647 : Int)≤((s.sent : Nat) : Int))=false:=decide_eq_false (by omega)
  rw [hd]
  repeat (first | refine JL.q (by first|(apply OQ.load;exact gj;rfl;exact (.there .here);exact hld)|(apply OQ.not;rfl)|(apply OQ.bM;rfl;rfl;rfl;exact (by decide);rfl)) rfl ?_ | refine JC.seq ?_ | refine JC.region ?_ | refine JL.nil ?_ | refine JE.next ?_)
  refine JC.cond_false rfl rfl ?_
  repeat (first | refine JL.q (by first|(apply OQ.load;exact bB;rfl;exact (.there .here);exact hsn)|(apply OQ.A4 (a:=((s.sent : Nat) : Int)) (b:=2147483647);rfl;rfl;exact hge)|(apply OQ.bM;rfl;rfl;rfl;exact (by decide);rfl)) rfl ?_ | refine JC.seq ?_ | refine JC.region ?_ | refine JC.skip ?_ | refine JL.nil ?_ | refine JE.next ?_)
  refine JC.cond_false rfl rfl ?_
  have hlo : (s.own.map U8).length=32:=by rw [List.length_map];exact hs.own
  have hls : (s.send.map U8).length=32:=by rw [List.length_map];exact hs.send
  have hpl1:=so s
  have hH:=so s
  have hBl:=mu hH
  have hhb:=xM (gU s.own) s.prev s.sent (iO _)
  have cP:=fun (w' : World)=>qj s.own hs.own w'
  have cB:=fun (w' : World)=>AN (sn s) hH (show s.prev<_ by omega) (show s.sent<_ by omega) w'
  have hpr : ∀ o,Row 26 (sec s k.v) o→cellAt o 164=some (N s.prev):=Row.cell (qX hs _)
  have cP2 : ∀ w',Calls Tryz.prog 33 [.agg (s.own.map U8).toArray].toArray w' fun e w''=>e=.returned (.agg ((gU s.own).map U8).toArray)∧Ext w' w'':=cP
  clear cP
  have hEe : vD s side.l p.l=dP (sn s)++mP.jd (kD s.send) (side.l++dP (sn s)) p.l:=rfl
  rw [hEe]
  have hEq : sn s=⟨gU s.own,s.prev,s.sent⟩:=rfl
  rw [← hEq] at hhb
  generalize gU s.own=pk at *
  generalize hHe : sn s=h at *
  repeat (first | refine JC.seq ?_ | refine JC.skip ?_ | refine JE.next ?_)
  refine JC.tail 8 gr (by kernel_rfl) ?_
  simp only [List.take_succ_cons,List.take_zero,List.drop_succ_cons,List.drop_zero]
  repeat (refine JQ.q (by first|(apply OQ.af (cs:=s.own.map U8);exact aP;exact aB;rfl;exact (.there .here);exact hlo;exact (Row.cells (jY hs _)))|(apply OQ.au (vs:=[.agg (s.own.map U8).toArray]);exact oK;rfl;exact (fun w' _=>cP2 w'))|(apply OQ.load;exact bB;rfl;exact (.there .here);exact hpr)|(apply OQ.load;exact bB;rfl;exact (.there .here);exact hsn)|(apply OQ.bM;rfl;rfl;rfl;exact (by decide);rfl)) rfl ?_)
  refine JQ.q (OQ.l9 (cs:=hdc h) [0,1,2] [.tmp 24,.tmp 26,.tmp 28] (vs:=[.agg (pk.map U8).toArray,N s.prev,N s.sent]) rfl rfl hhb) rfl ?_
  repeat (refine JQ.bC ?_)
  refine JL.bX (ι:=Nat × Nat) (vs:=[.agg (hdc h).toArray]) (fun x=>.slice (some ⟨x.1,0,none⟩) 40 x.2) (fun x=>[⟨x.1,Sl.aE 5 1 40 x.2 ((dP h).map U8),true⟩]) xH rfl rfl (fun i=>by simp) (fun w' hw'=>cB w') ?_
  rintro ⟨bh,ch⟩
  try dsimp only
  repeat (first | refine JL.q (by (apply OQ.assign;rfl)) rfl ?_ | refine JC.seq ?_ | refine JC.region ?_ | refine JL.nil ?_ | refine JE.next ?_)
  refine JL.alloc gR rfl fun b10 _=>?_
  have hst2 : ∀ (w' : World) (M : List aG) (hw : ah w [] M w'),Calls Tryz.prog 37 [.agg (s.send.map U8).toArray].toArray w' fun e w''=>e=.returned (.tuple #[.agg ((mU s.send).map U8).toArray,.agg ((kD s.send).map U8).toArray])∧Ext w' w'':=fun w' M hw=>uj s.send hs.send w' (hG.aL hw.aL (by simp))
  have k1 : ({ s with send:=mU s.send } : bA).ok:=⟨hs.root,hs.own,hs.other,rfl,hs.take,hs.kept⟩
  have p1:=iq hs kv (mU s.send) rfl
  have k2:=vE hs
  have p2:=jZ k1 kv (s.sent+1)
  have hn3:=ay k1 kv
  have hn4:=ay k2 kv
  have hR : xD s={ s with send:=mU s.send,sent:=s.sent+1 }:=rfl
  rw [hR] at hn4 ⊢
  have hl5 : ((mU s.send).map U8).length=32:=rfl
  have hl6 : ((kD s.send).map U8).length=32:=rfl
  have hkm : (kD s.send).length=32:=rfl
  clear hR k2
  generalize mU s.send=nx at *
  generalize kD s.send=ms at *
  have hse2 : ∀ o,Row 26 (sec { s with send:=nx } kv) o→cellAt o 162=some (N s.sent):=Row.cell (jC k1 _)
  repeat (first | refine JL.q (by first|(apply OQ.af (cs:=s.send.map U8);exact aP;exact aB;rfl;exact (.there (.there (.there .here)));exact hls;exact (Row.cells (qW hs _)))|(apply OQ.au (vs:=[.agg (s.send.map U8).toArray]);exact rB;rfl;exact (fun w' hw'=>hst2 w' _ hw'))|(apply OQ.extract;rfl;rfl)|(apply OQ.move;rfl)|(apply OQ.bM;rfl;rfl;rfl;exact (by decide);rfl)) rfl ?_ | refine JC.seq ?_ | refine JC.region ?_ | refine JL.nil ?_ | refine JE.next ?_)
  refine JL.aW (r:=sec s kv) (r':=sec { s with send:=nx } kv) aB rfl rfl hl5 (aV _) (.there (.there .here)) (by rw [hn2,hl5];decide) p1 ?_
  refine JL.ag (cs:=ms.map U8) aB rfl rfl hl6 (aV _) .here (by simp) ?_
  repeat (first | refine JL.q (by first|(apply OQ.load;exact bB;rfl;exact (.there (.there .here));exact hse2)|(apply OQ.aY (a:=s.sent) (b:=1);rfl;rfl;exact (by omega))|(apply OQ.bM;rfl;rfl;rfl;exact (by decide);rfl)) rfl ?_ | refine JC.seq ?_ | refine JC.region ?_ | refine JL.nil ?_ | refine JE.next ?_)
  refine JL.az (r:=sec { s with send:=nx } kv) (r':=sec { s with send:=nx,sent:=s.sent+1 } kv) nt rfl rfl rfl rfl (.there (.there .here)) (by rw [hn3];decide) p2 ?_
  repeat (first | refine JC.seq ?_ | refine JL.nil ?_ | refine JE.next ?_)
  have hsK : qf (Go.Proofs.YtgkninhgcpbfnaaGreatDoor.k1 ms) (Go.Proofs.YtgkninhgcpbfnaaGreatDoor.k2 ms) xC (side.l++dP h) p.l=mP.jd ms (side.l++dP h) p.l:=rfl
  have hsKl : (mP.jd ms (side.l++dP h) p.l).length=p.l.length+32:=j8 _ _ _ _ _
  have hWl : (side.l++dP h).length=side.l.length+40:=by rw [List.length_append,hBl]
  have cC:=fun (bs : Nat) (w' : World) (M : List aG) (hw' : ah w [] M w') (hb : aM.ok w' ⟨some ⟨bh,0,none⟩,ch,dP h⟩) (hrow : ∃ ob,w'.heap[bs]?=some ob∧Row 27 [side.v,aM.v ⟨some ⟨bh,0,none⟩,ch,dP h⟩] ob)=>lU side ⟨some ⟨bh,0,none⟩,ch,dP h⟩ bs w' (hside.holds hw' rfl) hb hrow (by show 0<side.l.length+(dP h).length;omega) (by show side.l.length+(dP h).length≤_;omega)
  have hbv : aM.v ⟨some ⟨bh,0,none⟩,ch,dP h⟩=.slice (some ⟨bh,0,none⟩) 40 ch:=by simp [aM.v,hBl]
  rw [hbv] at cC
  generalize mP.jd ms (side.l++dP h) p.l=Z at *
  let vs : Nat→(Nat × Nat)→Value:=fun j y=>match j with
    | 0=>.agg (ms.map U8).toArray
    | 1=>.agg (xC.map U8).toArray
    | 2=>side.v
    | 3=>.slice (some ⟨bh,0,none⟩) 40 ch
    | 4=>.slice (some ⟨y.1,0,none⟩) 2 2
    | 5=>.slice (some ⟨y.1,0,none⟩) (side.l++dP h).length y.2
    | 6=>p.v
    | 7=>.slice (some ⟨y.1,0,none⟩) (p.l.length+32) y.2
    | 8=>.slice (some ⟨y.1,0,none⟩) (p.l.length+32) y.2
    | _=>N 0
  let Ms : Nat→(Nat × Nat)→List aG:=fun j y=>match j with
    | 4=>[⟨y.1,Row 27 [side.v,.slice (some ⟨bh,0,none⟩) 40 ch],true⟩]
    | 5=>[⟨y.1,Sl.aE 5 1 (side.l++dP h).length y.2 ((side.l++dP h).map U8),true⟩]
    | 7=>[⟨y.1,Sl.aE 5 1 (p.l.length+32) y.2 (Z.map U8),true⟩]
    | 9=>[⟨b10,Row 23 (ms.map U8),true⟩]
    | 10=>[⟨bh,Sl.aE 5 1 40 ch ((dP h).map U8),true⟩]
    | 11=>[⟨b6,Row 26 (sec { s with send:=nx,sent:=s.sent+1 } kv),true⟩]
    | 12=>[⟨b3,Row 26 (sec s k.v),true⟩]
    | 13=>fU q s.kept
    | _=>[]
  refine JC.grow (g:=⟨[(1,side.v),(2,p.v),(6,Pt b6 0),(9,.slice (some ⟨bh,0,none⟩) 40 ch),(10,Pt b10 0)],14,vs,Ms,(fun j=>match j with | 4=>[(2,44),(3,45)] | 5=>[(4,46)] | 7=>[(0,42),(1,43),(5,47),(6,48)] | 8=>[(7,49)] | _=>[]),(fun j=>match j with | 0=>[9] | 5=>[4,10] | 7=>[5] | _=>[]),(fun j=>match j with | _=>[]),(fun j=>match j with | 8=>some 7 | _=>none)⟩) [(8,11)] [7,10,11,13] gr (by repeat (first | exact ai.nil | refine ai.cons _ _ _ rfl ?_)) ?_ (by kernel_rfl) (by kernel_rfl) (by kernel_rfl) ?_ ?_
  · show aq (_::_::_::_::(fU q s.kept++[])) _;rw [List.append_nil];exact aq.refl _
  · refine ⟨?_,?_,?_,?_,?_,?_,?_,?_,?_,trivial⟩
    · (intro xx EF MF Q kk;(try refine JL.aU rfl rfl ?_);exact JL.q (OQ.af (cs:=ms.map U8) aP aB rfl .here hl6 Row.all) rfl (JL.nil (kk default nofun)))
    · (intro xx EF MF Q kk;exact JL.q (OQ.pure (v:=.agg (xC.map U8).toArray) rfl rfl (by kernel_rfl)) rfl (JL.nil (kk default nofun)))
    · (intro xx EF MF Q kk;(try refine JL.aU rfl rfl ?_);exact JL.q (OQ.move rfl) rfl (JL.nil (kk default nofun)))
    · (intro xx EF MF Q kk;(try refine JL.aU rfl rfl ?_);exact JL.q (OQ.move rfl) rfl (JL.nil (kk default nofun)))
    · (intro xx EF MF Q kk;exact JL.nC (xs:=[.tmp 44,.tmp 45]) (vs:=[side.v,.slice (some ⟨bh,0,none⟩) 40 ch]) Tryz.underlying53 wC rfl rfl rfl rfl (by intro v hv;simp only [List.mem_cons,List.mem_nil_iff,or_false] at hv;rcases hv with rfl | rfl <;> rfl) rfl (by decide) (by decide) rfl fun b9 _=>JL.nil (kk (b9,0) nofun))
    · (intro xx EF MF Q kk;exact JL.bX (ι:=Nat × Nat) (vs:=[.slice (some ⟨(xx 4).1,0,none⟩) 2 2]) (fun x=>.slice (some ⟨x.1,0,none⟩) (side.l++dP h).length x.2) (fun x=>[⟨x.1,Sl.aE 5 1 (side.l++dP h).length x.2 ((side.l++dP h).map U8),true⟩]) kF rfl rfl (fun i=>by simp) (fun w' hw'=>cC (xx 4).1 w' _ hw' (fl hw' (.there .here)) (hw'.get .here)) fun x=>JL.nil (kk (x.1,x.2) nofun))
    · (intro xx EF MF Q kk;(try refine JL.aU rfl rfl ?_);exact JL.q (OQ.move rfl) rfl (JL.nil (kk default nofun)))
    · (intro xx EF MF Q kk;exact JL.bX (ι:=Nat × Nat) (vs:=[.agg (ms.map U8).toArray,.agg (xC.map U8).toArray,.slice (some ⟨(xx 5).1,0,none⟩) (side.l++dP h).length (xx 5).2,p.v]) (fun x=>.slice (some ⟨x.1,0,none⟩) (p.l.length+32) x.2) (fun x=>[⟨x.1,Sl.aE 5 1 (p.l.length+32) x.2 (Z.map U8),true⟩]) BD rfl rfl (fun i=>by simp) (fun w' hw'=>Ch (s:=⟨some ⟨(xx 5).1,0,none⟩,(xx 5).2,side.l++dP h⟩) (p:=p) rfl rfl hsK rfl hkm rfl (hG.aL hw'.aL (by simp)) (hQ.aL hw'.aL (by simp)) (fl hw' .here) (hp.holds hw' rfl) (by show (side.l++dP h).length<_;omega) (by omega)) fun x=>JL.nil (kk (x.1,x.2) nofun))
    · (intro xx EF MF Q kk;(try refine JL.aU rfl rfl ?_);exact JL.q (OQ.assign rfl) rfl (JL.nil (kk (xx 7) (fun k h=>by cases h;rfl))))
  · intro xx hx
    have e1:=hx 8 7 (by decide) rfl
    show JE _ _ _ _ _ [(11,.slice (some ⟨(xx 8).1,0,none⟩) (p.l.length+32) (xx 8).2),(1,side.v),(2,p.v),(6,Pt b6 0),(9,.slice (some ⟨bh,0,none⟩) 40 ch),(10,Pt b10 0)] (⟨(xx 7).1,Sl.aE 5 1 (p.l.length+32) (xx 7).2 (Z.map U8),true⟩::⟨bh,Sl.aE 5 1 40 ch ((dP h).map U8),true⟩::⟨b6,Row 26 (sec { s with send:=nx,sent:=s.sent+1 } kv),true⟩::(fU q s.kept++[]))
    rw [e1,List.append_nil]
    generalize xx 7=xz
    obtain ⟨bz,cz⟩:=xz
    clear hx e1 xx vs Ms
    try dsimp only
    repeat (first | refine JC.seq ?_ | refine JE.next ?_)
    have cD:=fun (bs : Nat) (w' : World) (hb : aM.ok w' ⟨some ⟨bh,0,none⟩,ch,dP h⟩) (hb2 : aM.ok w' ⟨some ⟨bz,0,none⟩,cz,Z⟩) (hrow : ∃ ob,w'.heap[bs]?=some ob∧Row 27 [aM.v ⟨some ⟨bh,0,none⟩,ch,dP h⟩,aM.v ⟨some ⟨bz,0,none⟩,cz,Z⟩] ob)=>lU ⟨some ⟨bh,0,none⟩,ch,dP h⟩ ⟨some ⟨bz,0,none⟩,cz,Z⟩ bs w' hb hb2 hrow (by show 0<(dP h).length+Z.length;omega) (by show (dP h).length+Z.length≤_;omega)
    have hzv : aM.v ⟨some ⟨bz,0,none⟩,cz,Z⟩=.slice (some ⟨bz,0,none⟩) (p.l.length+32) cz:=by simp [aM.v,hsKl]
    rw [hbv,hzv] at cD
    let vs : Nat→(Nat × Nat)→Value:=fun j y=>match j with
      | 0=>.agg (sec { s with send:=nx,sent:=s.sent+1 } kv).toArray
      | 1=>.slice (some ⟨bh,0,none⟩) 40 ch
      | 2=>.slice (some ⟨bz,0,none⟩) (p.l.length+32) cz
      | 3=>.slice (some ⟨y.1,0,none⟩) 2 2
      | 4=>.slice (some ⟨y.1,0,none⟩) (dP h++Z).length y.2
      | 6=>.slice (some ⟨y.1,0,none⟩) (dP h++Z).length y.2
      | 7=>N 0
      | _=>N 0
    let Ms : Nat→(Nat × Nat)→List aG:=fun j y=>match j with
      | 3=>[⟨y.1,Row 27 [.slice (some ⟨bh,0,none⟩) 40 ch,.slice (some ⟨bz,0,none⟩) (p.l.length+32) cz],true⟩]
      | 4=>[⟨y.1,Sl.aE 5 1 (dP h++Z).length y.2 ((dP h++Z).map U8),true⟩]
      | 5=>[⟨b6,Row 26 (sec { s with send:=nx,sent:=s.sent+1 } kv),true⟩]
      | 8=>[⟨bz,Sl.aE 5 1 (p.l.length+32) cz (Z.map U8),true⟩]
      | 9=>[⟨bh,Sl.aE 5 1 40 ch ((dP h).map U8),true⟩]
      | 10=>[⟨b6,Row 26 (sec { s with send:=nx,sent:=s.sent+1 } kv),true⟩]
      | 11=>fU q s.kept
      | _=>[]
    refine JC.grow (g:=⟨[(6,Pt b6 0),(9,.slice (some ⟨bh,0,none⟩) 40 ch),(11,.slice (some ⟨bz,0,none⟩) (p.l.length+32) cz)],12,vs,Ms,(fun j=>match j with | 3=>[(1,51),(2,52)] | 4=>[(3,53)] | 5=>[(0,50)] | 6=>[(4,54)] | _=>[]),(fun j=>match j with | 0=>[10] | 4=>[3,9,8] | 5=>[10] | _=>[]),(fun j=>match j with | 5=>[10] | _=>[]),(fun j=>match j with | 6=>some 4 | _=>none)⟩) [(6,7),(7,8)] [5,4,11] gr (by repeat (first | exact ai.nil | refine ai.cons _ _ _ rfl ?_)) ?_ (by kernel_rfl) (by kernel_rfl) (by kernel_rfl) ?_ ?_
    · show aq (_::_::_::(fU q s.kept++[])) _;rw [List.append_nil];exact aq.refl _
    · refine ⟨?_,?_,?_,?_,?_,?_,?_,?_,trivial⟩
      · (intro xx EF MF Q kk;(try refine JL.aU rfl rfl ?_);exact JL.q (OQ.af (cs:=sec { s with send:=nx,sent:=s.sent+1 } kv) gK dB rfl .here hn4 Row.all) rfl (JL.nil (kk default nofun)))
      · (intro xx EF MF Q kk;(try refine JL.aU rfl rfl ?_);exact JL.q (OQ.move rfl) rfl (JL.nil (kk default nofun)))
      · (intro xx EF MF Q kk;(try refine JL.aU rfl rfl ?_);exact JL.q (OQ.move rfl) rfl (JL.nil (kk default nofun)))
      · (intro xx EF MF Q kk;exact JL.nC (xs:=[.tmp 51,.tmp 52]) (vs:=[.slice (some ⟨bh,0,none⟩) 40 ch,.slice (some ⟨bz,0,none⟩) (p.l.length+32) cz]) Tryz.underlying53 wC rfl rfl rfl rfl (by intro v hv;simp only [List.mem_cons,List.mem_nil_iff,or_false] at hv;rcases hv with rfl | rfl <;> rfl) rfl (by decide) (by decide) rfl fun b9 _=>JL.nil (kk (b9,0) nofun))
      · (intro xx EF MF Q kk;exact JL.bX (ι:=Nat × Nat) (vs:=[.slice (some ⟨(xx 3).1,0,none⟩) 2 2]) (fun x=>.slice (some ⟨x.1,0,none⟩) (dP h++Z).length x.2) (fun x=>[⟨x.1,Sl.aE 5 1 (dP h++Z).length x.2 ((dP h++Z).map U8),true⟩]) kF rfl rfl (fun i=>by simp) (fun w' hw'=>cD (xx 3).1 w' (fl hw' (.there .here)) (fl hw' (.there (.there .here))) (hw'.get .here)) fun x=>JL.nil (kk (x.1,x.2) nofun))
      · (intro xx EF MF Q kk;exact JL.ag (cs:=sec { s with send:=nx,sent:=s.sent+1 } kv) dB rfl rfl hn4 (bw hkv1) .here hn4 (JL.nil (kk default nofun)))
      · (intro xx EF MF Q kk;(try refine JL.aU rfl rfl ?_);exact JL.q (OQ.assign rfl) rfl (JL.nil (kk (xx 4) (fun k h=>by cases h;rfl))))
      · (intro xx EF MF Q kk;(try refine JL.aU rfl rfl ?_);exact JL.q (OQ.assign rfl) rfl (JL.nil (kk default nofun)))
    · intro xx hx
      have e1:=hx 6 4 (by decide) rfl
      show JE _ _ _ _ _ [(7,.slice (some ⟨(xx 6).1,0,none⟩) (dP h++Z).length (xx 6).2),(8,N 0),(6,Pt b6 0),(9,.slice (some ⟨bh,0,none⟩) 40 ch),(11,.slice (some ⟨bz,0,none⟩) (p.l.length+32) cz)] (⟨b6,Row 26 (sec { s with send:=nx,sent:=s.sent+1 } kv),true⟩::⟨(xx 4).1,Sl.aE 5 1 (dP h++Z).length (xx 4).2 ((dP h++Z).map U8),true⟩::(fU q s.kept++[]))
      rw [e1,List.append_nil]
      generalize xx 4=xz
      obtain ⟨bx,cx⟩:=xz
      clear hx e1 xx vs Ms
      try dsimp only
      repeat (refine JE.next ?_)
      refine JC.ret ?_
      skip
      refine JE.jy rfl (RV.av gK dB rfl .here hn4 Row.all) (RV.tmp rfl) (RV.tmp rfl) fun w' hw=>⟨⟨q,some (bx,cx),hq,nofun⟩,by rw [← hkv];rfl,?_⟩
      show ah w [] (⟨bx,Sl.aE 5 1 ((dP h++Z).map U8).length cx ((dP h++Z).map U8),true⟩::fU q s.kept) w'
      rw [List.length_map]
      exact hw.weak (.drop _ _ _ (aq.refl _))
end
section
set_option maxRecDepth 10000
open Sl g5 lz dO mP
open pT (Bk)
theorem Nf : Tryz.prog.underlying 57=some (.struct (Tryz.prog.fieldsOf 57)):=by kernel_rfl
theorem Jc : Tryz.prog.stoodInHeld 57=false:=by kernel_rfl
theorem Mq : Tryz.prog.eqGuardType Tryz.prog.depth 57=false:=by kernel_rfl
def zC (P : Program) (t a b c : TypeId) (o : Nat) : Bool:=match (P.fieldsOf t).toList with
  | [f0,f1,f2]=>f0.type == a && f1.type == b && f2.type == c && f0.offset == 0 && f1.offset == 32 && f2.offset == o && f0.name != "_" && f1.name != "_" && f2.name != "_"
  | _=>false
theorem Cl {P : Program} {t a b c : TypeId} {o : Nat} (h : zC P t a b c o=true) : ∃ f0 f1 f2,(P.fieldsOf t).toList=[f0,f1,f2]∧f0.type=a∧f1.type=b∧f2.type=c∧f0.offset=0∧f1.offset=32∧f2.offset=o∧¬ f0.name = "_" ∧ ¬ f1.name = "_" ∧ ¬ f2.name = "_" := by
  unfold zC at h
  split at h
  · next f0 f1 f2 e=>
    simp only [Bool.and_eq_true,beq_iff_eq,bne_iff_ne,ne_eq] at h
    obtain ⟨⟨⟨⟨⟨⟨⟨⟨h1,h2⟩,h3⟩,h4⟩,h5⟩,h6⟩,h7⟩,h8⟩,h9⟩:=h
    exact ⟨f0,f1,f2,e,h1,h2,h3,h4,h5,h6,h7,h8,h9⟩
  · cases h
theorem xP (a : Bk) (w : World) (d : Nat) (ha : a.length=32) : (Op.equalIn (d+2) 23 (.agg (a.map U8).toArray) (.agg (a.map U8).toArray)).run Tryz.prog w=.ok true w:=by
  rw [uB,run_equalIn_bytes w d 23 5 32 Tryz.underlying23 Tryz.underlying5 (fun w=>aJ kM w) _ _ (by simpa using ha) (by simpa using ha)]
  simp
theorem Gq (k : Kp) (hk : k.ok) (w : World) : (Op.equalIn 10000 57 (.agg (dU k).toArray) (.agg (dU k).toArray)).run Tryz.prog w=.ok true w:=by
  obtain ⟨f0,f1,f2,hf,t0,t1,t2,o0,o1,o2,b0,b1,b2⟩:=Cl (show zC Tryz.prog 57 23 3 23 33=true by kernel_rfl)
  have p0 : ∀ w,(Go.part 23 (dU k).toArray 0).run Tryz.prog w=.ok (.agg (k.chain.map U8).toArray) w:=fun w=>by
    have:=pP hk
    rw [List.length_map,hk.c] at this
    simp [Go.part,mh aP,aJ aB]
    simpa using this
  have p1 : ∀ w,(Go.part 3 (dU k).toArray 32).run Tryz.prog w=.ok (N k.num) w:=fun w=>by
    have:=AO hk
    simp [Go.part,isAgg,run_underlying Tryz.underlying3,this]
  have p2 : ∀ w,(Go.part 23 (dU k).toArray 33).run Tryz.prog w=.ok (.agg (k.key.map U8).toArray) w:=fun w=>by
    have:=AP hk
    rw [List.length_map,hk.k] at this
    simp [Go.part,mh aP,aJ aB]
    simpa using this
  have q0:=fun w=>xP k.chain w 9997 hk.c
  have q2:=fun w=>xP k.key w 9997 hk.k
  have q1:=fun w=>run_equalIn_int (P:=Tryz.prog) w 9998 3 .i64 .i64 (k.num : Int) (k.num : Int) Tryz.underlying3
  rw [show (10000 : Nat)=9999+1 from rfl,run_equalIn_struct w 9999 57 _ _ Nf Jc,hf]
  simp [Op.eqFields,t0,t1,t2,o0,o1,o2,b0,b1,b2,p0,p1,p2,q0,q1,q2]
section
variable {n : Nat} {E : Env} {C : World→Prop} {dst : Option Tmp} {t t' ty : TypeId} {pos : String} {aft : Array Edge} {g : Option (Nat × Bool)} {x y : Operand}
theorem OQ.Mr {k : Kp} (hk : k.ok) (hx : ev E x=some (.agg (dU k).toArray)) (hy : ev E y=some (.agg (dU k).toArray)) : OQ Tryz.prog n E C ⟨dst,.binOp .neq 57 x y t',ty,pos,aft,g⟩ (.bool false):=
  OQ.run fun a ha w _=>by
    have h1:=ha.eval hx
    have h2:=ha.eval hy
    have h4:=fun w=>run_eqGuard_agg (P:=Tryz.prog) (w:=w) .neq 57 x y (dU k).toArray (dU k).toArray Mq
    have h5:=fun w=>run_neq_struct (P:=Tryz.prog) (w:=w) 57 (dU k).toArray (dU k).toArray
    simp only [execOp,h1,h2,Sem.run_bind,h4,Result.andThen_ok,h5,Gq k hk]
    rfl
end
theorem me : aK Tryz.prog 14:=⟨_,Tryz.func14,rfl,by kernel_rfl⟩
set_option maxHeartbeats 32000000 in
theorem qn (s : bA) (ka kb : mV) (hs : s.ok) (w : World) (hka : ka.ok w) (hkb : kb.ok w) (ea : ka.l=s.kept) (eb : kb.l=s.kept) (hl : s.kept.length<9223372036854775807) : Calls Tryz.prog 14 [.agg (sec s ka.v).toArray,.agg (sec s kb.v).toArray].toArray w fun e w'=>e=.returned (.bool true)∧Ext w w':=by
  have l1 : (s.root.map U8).length=32:=by rw [List.length_map];exact hs.root
  have l2 : (s.own.map U8).length=32:=by rw [List.length_map];exact hs.own
  have l3 : (s.other.map U8).length=32:=by rw [List.length_map];exact hs.other
  have l4 : (s.send.map U8).length=32:=by rw [List.length_map];exact hs.send
  have l5 : (s.take.map U8).length=32:=by rw [List.length_map];exact hs.take
  have ha : ∀ o,Row 26 (sec s ka.v) o→cellAt o 165=some ka.v:=Row.cell (gO hs _)
  have hb : ∀ o,Row 26 (sec s kb.v) o→cellAt o 165=some kb.v:=Row.cell (gO hs _)
  refine enter (n:=101) Tryz.func14 rfl rfl rfl (ah.start w []) ?_
  repeat (first | refine JC.seq ?_ | refine JC.region ?_)
  refine JL.box (r:=sec s ka.v) rfl rfl rfl fun b2 _=>?_
  refine JL.box (r:=sec s kb.v) rfl rfl rfl fun b3 _=>?_
  repeat (first | refine JL.q (by first|(apply OQ.assign;rfl)|(apply OQ.bM;rfl;rfl;rfl;exact (by decide);rfl)) rfl ?_ | refine JC.seq ?_ | refine JC.region ?_ | refine JL.nil ?_ | refine JE.next ?_)
  simp only [List.append]
  repeat (first | refine JL.q (by first|(apply OQ.af (cs:=s.root.map U8);exact aP;exact aB;rfl;exact (.there .here);exact l1;exact (Row.cells (jB hs _)))|(apply OQ.af (cs:=s.root.map U8);exact aP;exact aB;rfl;exact .here;exact l1;exact (Row.cells (jB hs _)))|(apply OQ.tE (r:=s.root) (q:=s.root);exact Tryz.underlying23;exact Tryz.underlying5;exact kM;exact lW;rfl;rfl;exact hs.root;exact hs.root;rfl)|(apply OQ.af (cs:=s.own.map U8);exact aP;exact aB;rfl;exact (.there .here);exact l2;exact (Row.cells (jY hs _)))|(apply OQ.af (cs:=s.own.map U8);exact aP;exact aB;rfl;exact .here;exact l2;exact (Row.cells (jY hs _)))|(apply OQ.tE (r:=s.own) (q:=s.own);exact Tryz.underlying23;exact Tryz.underlying5;exact kM;exact lW;rfl;rfl;exact hs.own;exact hs.own;rfl)|(apply OQ.af (cs:=s.other.map U8);exact aP;exact aB;rfl;exact (.there .here);exact l3;exact (Row.cells (dW hs _)))|(apply OQ.af (cs:=s.other.map U8);exact aP;exact aB;rfl;exact .here;exact l3;exact (Row.cells (dW hs _)))|(apply OQ.tE (r:=s.other) (q:=s.other);exact Tryz.underlying23;exact Tryz.underlying5;exact kM;exact lW;rfl;rfl;exact hs.other;exact hs.other;rfl)|(apply OQ.af (cs:=s.send.map U8);exact aP;exact aB;rfl;exact (.there .here);exact l4;exact (Row.cells (qW hs _)))|(apply OQ.af (cs:=s.send.map U8);exact aP;exact aB;rfl;exact .here;exact l4;exact (Row.cells (qW hs _)))|(apply OQ.tE (r:=s.send) (q:=s.send);exact Tryz.underlying23;exact Tryz.underlying5;exact kM;exact lW;rfl;rfl;exact hs.send;exact hs.send;rfl)|(apply OQ.af (cs:=s.take.map U8);exact aP;exact aB;rfl;exact (.there .here);exact l5;exact (Row.cells (lg hs _)))|(apply OQ.af (cs:=s.take.map U8);exact aP;exact aB;rfl;exact .here;exact l5;exact (Row.cells (lg hs _)))|(apply OQ.tE (r:=s.take) (q:=s.take);exact Tryz.underlying23;exact Tryz.underlying5;exact kM;exact lW;rfl;rfl;exact hs.take;exact hs.take;rfl)|(apply OQ.load;exact gj;rfl;exact (.there .here);exact (Row.cell (mq hs _)))|(apply OQ.load;exact gj;rfl;exact .here;exact (Row.cell (mq hs _)))|(apply OQ.load;exact gj;rfl;exact (.there .here);exact (Row.cell (gv hs _)))|(apply OQ.load;exact gj;rfl;exact .here;exact (Row.cell (gv hs _)))|(apply OQ.JR;exact Tryz.underlying4;rfl;rfl)|(apply OQ.load;exact bB;rfl;exact (.there .here);exact (Row.cell (jC hs _)))|(apply OQ.load;exact bB;rfl;exact .here;exact (Row.cell (jC hs _)))|(apply OQ.load;exact bB;rfl;exact (.there .here);exact (Row.cell (dG hs _)))|(apply OQ.load;exact bB;rfl;exact .here;exact (Row.cell (dG hs _)))|(apply OQ.load;exact bB;rfl;exact (.there .here);exact (Row.cell (qX hs _)))|(apply OQ.load;exact bB;rfl;exact .here;exact (Row.cell (qX hs _)))|(apply OQ.v7;rfl;rfl;rfl)|(apply OQ.load;exact iV;rfl;exact (.there .here);exact ha)|(apply OQ.load;exact iV;rfl;exact .here;exact hb)|(apply OQ.len (k:=ka.l.length) (ad:=ka.ad) (cap:=ka.cap);exact Tryz.underlying24;rfl)|(apply OQ.len (k:=kb.l.length) (ad:=kb.ad) (cap:=kb.cap);exact Tryz.underlying24;rfl)|(apply OQ.v7 (a:=((ka.l.length : Nat) : Int)) (b:=((kb.l.length : Nat) : Int));rfl;rfl;exact (by rw [ea,eb]))|(apply OQ.dK;rfl;rfl)|(apply OQ.move;rfl)|(apply OQ.bM;rfl;rfl;rfl;exact (by decide);rfl)) rfl ?_ | refine JL.nil ?_ | refine JE.next ?_ | refine JL.aU rfl rfl ?_)
  refine JC.cond_false rfl rfl ?_
  repeat (first | refine JL.q (by (apply OQ.assign;rfl)) rfl ?_ | refine JC.seq ?_ | refine JC.region ?_ | refine JC.block ?_ | refine JC.skip ?_ | refine JL.nil ?_ | refine JE.next ?_)
  refine JC.loop (fun i : Nat=>[(2,Pt b2 0),(3,Pt b3 0),(5,N i)]) (fun _=>[⟨b3,Row 26 (sec s kb.v),true⟩,⟨b2,Row 26 (sec s ka.v),true⟩]) (fun i=>s.kept.length - i) (fun i=>i≤s.kept.length) 0 (Nat.zero_le _) (by repeat (first | exact ai.nil | refine ai.cons _ _ _ rfl ?_)) (aq.refl _) ?_
  intro i hi
  rw [← ea] at hi
  repeat (first | refine JL.q (by first|(apply OQ.load;exact iV;rfl;exact (.there .here);exact ha)|(apply OQ.len (k:=ka.l.length) (ad:=ka.ad) (cap:=ka.cap);exact Tryz.underlying24;rfl)|(apply OQ.bJ (a:=i) (b:=ka.l.length);rfl;rfl)|(apply OQ.move;rfl)|(apply OQ.bM;rfl;rfl;rfl;exact (by decide);rfl)) rfl ?_ | refine JC.seq ?_ | refine JC.region ?_ | refine JL.nil ?_ | refine JE.next ?_)
  refine JC.cond rfl (fun hc=>?_) (fun hc=>?_)
  · have hi' : i<ka.l.length:=of_decide_eq_true hc
    clear hc
    have hi2 : i<kb.l.length:=by rw [eb,← ea];exact hi'
    obtain ⟨ba,ja,eA,la,cA⟩:=hka.at hi'
    obtain ⟨bb,jb,eB,lb,cB⟩:=hkb.at hi2
    have hok:=hka.all _ (mV.mem hi')
    have hkk : kb.l.getD i mQ=ka.l.getD i mQ:=by rw [ea,eb]
    rw [hkk] at cB
    have vA : ka.v=.slice (some ⟨ba,ja,none⟩) ka.l.length ka.cap:=by rw [← eA];rfl
    have vB : kb.v=.slice (some ⟨bb,jb,none⟩) kb.l.length kb.cap:=by rw [← eB];rfl
    generalize ka.l.getD i mQ=c at cA cB hok
    have hl65:=ij hok
    have ha2:=ha
    have hb2:=hb
    rw [vA] at ha2
    rw [vB] at hb2
    have ha3 : ∀ o,Row 26 (sec s ka.v) o→cellAt o 165=some (.slice (some ⟨ba,ja,none⟩) ka.l.length ka.cap):=by rw [vA];exact ha2
    have hb3 : ∀ o,Row 26 (sec s kb.v) o→cellAt o 165=some (.slice (some ⟨bb,jb,none⟩) kb.l.length kb.cap):=by rw [vB];exact hb2
    repeat (first | refine JC.seq ?_ | refine JC.block ?_ | refine JC.skip ?_ | refine JE.next ?_)
    refine JC.quiet gr (by kernel_rfl) ?_
    repeat (first | refine JQ.q (by first|(apply OQ.load;exact iV;rfl;exact (.there .here);exact ha3)|(apply OQ.load;exact iV;rfl;exact .here;exact hb3)|(apply OQ.jS (i:=i) (len:=ka.l.length) (cap:=ka.cap) (b:=ba) (j:=ja);exact Tryz.underlying24;exact ta;rfl;rfl;exact hi')|(apply OQ.jS (i:=i) (len:=kb.l.length) (cap:=kb.cap) (b:=bb) (j:=jb);exact Tryz.underlying24;exact ta;rfl;rfl;exact hi2)|(apply OQ.cO (cs:=dU c);exact KJ;rfl;exact (hl65 ▸ ta);exact la;exact (by simp);exact cA)|(apply OQ.cO (cs:=dU c);exact KJ;rfl;exact (hl65 ▸ ta);exact lb;exact (by simp);exact cB)|(apply OQ.Mr;exact hok;rfl;rfl)|(apply OQ.move;rfl)|(apply OQ.bM;rfl;rfl;rfl;exact (by decide);rfl)) rfl ?_ | refine JQ.nil ?_ | refine JE.next ?_)
    refine JC.cond_false rfl rfl ?_
    repeat (first | refine JL.q (by first|(apply OQ.aY (a:=i) (b:=1);rfl;rfl;exact (by rw [ea] at hi';omega))|(apply OQ.move;rfl)|(apply OQ.assign;rfl)) rfl ?_ | refine JC.region ?_ | refine JC.skip ?_ | refine JL.nil ?_ | refine JE.next ?_ | refine JE.an ?_)
    exact JE.again (i:=i) (i+1) (by rw [ea] at hi';exact hi') (by rw [ea] at hi';omega) (by repeat (first | exact ai.nil | refine ai.cons _ _ _ rfl ?_)) (aq.refl _)
  · repeat (first | refine JL.q (by (apply OQ.assign;rfl)) rfl ?_ | refine JC.seq ?_ | refine JC.region ?_ | refine JC.exit ?_ | refine JL.nil ?_ | refine JE.next ?_ | refine JE.ax ?_ | refine JE.aA ?_)
    refine JC.ret ?_
    skip
    exact JE.aQ rfl (RV.tmp rfl) fun w' hw=>⟨rfl,hw.aL⟩
end
section
set_option maxRecDepth 10000
open Sl g5 lz dO mP
open pT (Bk)
theorem Cm : aK Tryz.prog 27:=⟨_,Tryz.func27,rfl,by kernel_rfl⟩
set_option maxHeartbeats 4000000 in
theorem ER (a b : aM) (w : World) (ha : a.ok w) (hb : b.ok w) (hl : a.l.length+b.l.length≤1000000000) :
    Calls Tryz.prog 27 [a.v,b.v].toArray w fun e w'=>∃ x : Nat × Nat,e=.returned (.slice (some ⟨x.1,0,none⟩) (a.l++b.l).length x.2)∧ah w [] [⟨x.1,Sl.aE 5 1 (a.l++b.l).length x.2 ((a.l++b.l).map U8),true⟩] w':=by
  refine enter (n:=12) Tryz.func27 rfl rfl rfl (ah.start w []) ?_
  repeat (first | refine JL.q (by (apply OQ.assign;rfl)) rfl ?_ | refine JC.seq ?_ | refine JC.region ?_ | refine JL.nil ?_ | refine JE.next ?_)
  refine JL.CR Tryz.underlying27 zS rfl fun b6 _=>?_
  repeat (refine JL.q (by (apply OQ.move;rfl)) rfl ?_)
  refine JL.append (cs:=a.l.map U8) (m:=a.l.length) (ad:=a.ad) (sc:=a.cap) (fun b' cap'=>[⟨b',Sl.aE 5 1 (0+a.l.length) cap' ([]++a.l.map U8),true⟩]) Tryz.underlying27 zS rfl rfl (by intro _ _;repeat (first | exact aZ.here | apply aZ.there)) (by rw [List.length_map,Nat.mul_one]) (fun w' hw'=>(ha.holds hw' rfl).reads) (fun v hv=>by obtain ⟨q,_,rfl⟩:=List.mem_map.1 hv;rfl) rfl (by decide) (by omega) (by omega) rfl fun b7 c7=>?_
  rw [Nat.zero_add,List.nil_append]
  repeat (first | refine JL.q (by first|(apply OQ.move;rfl)|(apply OQ.assign;rfl)) rfl ?_ | refine JC.seq ?_ | refine JC.region ?_ | refine JL.nil ?_ | refine JE.next ?_)
  refine JL.append (cs:=b.l.map U8) (m:=b.l.length) (ad:=b.ad) (sc:=b.cap) (fun b' cap'=>[⟨b',Sl.aE 5 1 (a.l.length+b.l.length) cap' (a.l.map U8++b.l.map U8),true⟩]) Tryz.underlying27 zS rfl rfl (by intro _ _;repeat (first | exact aZ.here | apply aZ.there)) (by rw [List.length_map,Nat.mul_one]) (fun w' hw'=>(hb.holds hw' rfl).reads) (fun v hv=>by obtain ⟨q,_,rfl⟩:=List.mem_map.1 hv;rfl) rfl (by decide) (by omega) (by omega) rfl fun b8 c8=>?_
  rw [← List.map_append,← List.length_append]
  repeat (first | refine JL.q (by (apply OQ.assign;rfl)) rfl ?_ | refine JL.nil ?_ | refine JE.next ?_)
  exact JC.ret (JE.aQ rfl (RV.tmp rfl) fun w' hw=>⟨(b8,c8),rfl,hw⟩)
theorem ES (n : Nat) (h : n<18446744073709551616) : b4 n=[BitVec.ofNat 8 (n / 16777216),BitVec.ofNat 8 (n / 65536),BitVec.ofNat 8 (n / 256),BitVec.ofNat 8 n]:=by
  have e : ∀ k m,m=2 ^ k→((BitVec.ofNat 64 n) >>> k).setWidth 8=BitVec.ofNat 8 (n / m):=fun k m hm=>by
    apply BitVec.eq_of_toNat_eq
    rw [BitVec.toNat_setWidth,BitVec.toNat_ushiftRight,BitVec.toNat_ofNat,BitVec.toNat_ofNat,Nat.mod_eq_of_lt h,Nat.shiftRight_eq_div_pow,hm]
  have h0:=e 24 16777216 rfl
  have h1:=e 16 65536 rfl
  have h2:=e 8 256 rfl
  have h3:=e 0 1 rfl
  rw [Nat.div_one] at h3
  show [((BitVec.ofNat 64 n) >>> 24).setWidth 8,((BitVec.ofNat 64 n) >>> 16).setWidth 8,((BitVec.ofNat 64 n) >>> 8).setWidth 8,((BitVec.ofNat 64 n) >>> 0).setWidth 8]=_
  rw [h0,h1,h2,h3]
theorem uw : aK Tryz.prog 30:=⟨_,Tryz.func30,rfl,by kernel_rfl⟩
set_option maxHeartbeats 8000000 in
theorem xS (root sh : Bk) (h1 : root.length=32) (h2 : sh.length=32) (w : World) :
    Calls Tryz.prog 30 [.agg (root.map U8).toArray,.agg (sh.map U8).toArray].toArray w fun e w'=>e=.returned (.tuple #[.agg ((cq root sh).map U8).toArray,.agg ((dX root sh).map U8).toArray])∧Ext w w':=by
  have hk : ∀ (b1 b2 : Nat) (w : World),aM.ok w ⟨some ⟨b1,0,none⟩,32,root⟩→aM.ok w ⟨some ⟨b2,0,none⟩,32,sh⟩→Calls Tryz.prog 44 [.slice (some ⟨b1,0,none⟩) 32 32,.slice (some ⟨b2,0,none⟩) 32 32,.string zp,N 2].toArray w fun e w'=>∃ x : Nat × Nat,e=.returned (.slice (some ⟨x.1,0,none⟩) 2 x.2)∧ah w [] [⟨x.1,Sl.aE 23 32 2 x.2 ((lO root sh).map U8),true⟩] w':=fun b1 b2 w ho1 ho2=>by
    have:=tO ⟨some ⟨b1,0,none⟩,32,root⟩ ⟨some ⟨b2,0,none⟩,32,sh⟩ zp 2 (by decide) w ho1 ho2 (by rw [h1];decide) (by rw [h2];decide) (by decide)
    rwa [show aM.v ⟨some ⟨b1,0,none⟩,32,root⟩=.slice (some ⟨b1,0,none⟩) 32 32 by simp [aM.v,h1],show aM.v ⟨some ⟨b2,0,none⟩,32,sh⟩=.slice (some ⟨b2,0,none⟩) 32 32 by simp [aM.v,h2]] at this
  have hlT:=mK root sh
  have hlA : ((cq root sh).map U8).length=32:=by rw [List.length_map];exact fy _ _
  have hlC : ((dX root sh).map U8).length=32:=by rw [List.length_map];exact eH _ _
  have r0 : (((lO root sh).map U8).drop (0+0 * 32)).take ((cq root sh).map U8).length=(cq root sh).map U8:=KM hlT
  have r1 : (((lO root sh).map U8).drop (0+1 * 32)).take ((dX root sh).map U8).length=(dX root sh).map U8:=Hw hlT
  generalize cq root sh=tA at *
  generalize dX root sh=tC at *
  generalize lO root sh=tB at *
  have hlB : (tB.map U8).length=64:=by rw [List.length_map];exact hlT
  refine enter (n:=16) Tryz.func30 rfl rfl rfl (ah.start w []) ?_
  repeat (first | refine JC.seq ?_ | refine JC.region ?_)
  refine JL.box (r:=root.map U8) rfl rfl rfl fun b2 _=>?_
  refine JL.box (r:=sh.map U8) rfl rfl rfl fun b3 _=>?_
  refine JL.alloc gR rfl fun b4 _=>?_
  refine JL.alloc gR rfl fun b5 _=>?_
  repeat (first | refine JC.seq ?_ | refine JL.nil ?_ | refine JE.next ?_)
  let vs : Nat→(Nat × Nat)→Value:=fun j y=>match j with
    | 0=>.slice (some ⟨b2,0,none⟩) 32 32
    | 1=>.slice (some ⟨b3,0,none⟩) 32 32
    | 2=>.slice (some ⟨y.1,0,none⟩) 2 y.2
    | 3=>.slice (some ⟨y.1,0,none⟩) 2 y.2
    | _=>N 0
  let Ms : Nat→(Nat × Nat)→List aG:=fun j y=>match j with
    | 2=>[⟨y.1,Sl.aE 23 32 2 y.2 (tB.map U8),true⟩]
    | 4=>[⟨b5,Row 23 ((List.replicate 32 (0 : B)).map U8),true⟩]
    | 5=>[⟨b4,Row 23 ((List.replicate 32 (0 : B)).map U8),true⟩]
    | 6=>[⟨b3,Row 23 (sh.map U8),true⟩]
    | 7=>[⟨b2,Row 23 (root.map U8),true⟩]
    | _=>[]
  refine JC.grow (g:=⟨[(2,Pt b2 0),(3,Pt b3 0),(4,Pt b4 0),(5,Pt b5 0)],8,vs,Ms,(fun j=>match j with | 2=>[(0,7),(1,8)] | 3=>[(2,9)] | _=>[]),(fun j=>match j with | 2=>[7,6] | _=>[]),(fun j=>match j with | _=>[]),(fun j=>match j with | 3=>some 2 | _=>none)⟩) [(3,6)] [2,5,4] gr (by repeat (first | exact ai.nil | refine ai.cons _ _ _ rfl ?_)) ?_ (by kernel_rfl) (by kernel_rfl) (by kernel_rfl) ?_ ?_
  · exact aq.refl _
  · refine ⟨?_,?_,?_,?_,trivial⟩
    · (intro xx EF MF Q kk;(try refine JL.aU rfl rfl ?_);exact JL.q (OQ.jT Tryz.underlying23 kM rfl) rfl (JL.nil (kk default nofun)))
    · (intro xx EF MF Q kk;(try refine JL.aU rfl rfl ?_);exact JL.q (OQ.jT Tryz.underlying23 kM rfl) rfl (JL.nil (kk default nofun)))
    · (intro xx EF MF Q kk;exact JL.bX (ι:=Nat × Nat) (vs:=[.slice (some ⟨b2,0,none⟩) 32 32,.slice (some ⟨b3,0,none⟩) 32 32,.string zp,N 2]) (fun x=>.slice (some ⟨x.1,0,none⟩) 2 x.2) (fun x=>[⟨x.1,Sl.aE 23 32 2 x.2 (tB.map U8),true⟩]) rC rfl rfl (fun i=>by simp) (fun w' hw'=>hk b2 b3 w' (fL hw' .here rfl (Nat.le_of_eq h1)) (fL hw' (.there .here) rfl (Nat.le_of_eq h2))) fun b=>JL.nil (kk b nofun))
    · (intro xx EF MF Q kk;(try refine JL.aU rfl rfl ?_);exact JL.q (OQ.assign rfl) rfl (JL.nil (kk (xx 2) (fun k h=>by cases h;rfl))))
  · intro xx hx
    have e1:=hx 3 2 (by decide) rfl
    show JE _ _ _ _ _ [(6,.slice (some ⟨(xx 3).1,0,none⟩) 2 (xx 3).2),(2,Pt b2 0),(3,Pt b3 0),(4,Pt b4 0),(5,Pt b5 0)] [⟨(xx 2).1,Sl.aE 23 32 2 (xx 2).2 (tB.map U8),true⟩,⟨b4,Row 23 ((List.replicate 32 (0 : B)).map U8),true⟩,⟨b5,Row 23 ((List.replicate 32 (0 : B)).map U8),true⟩]
    rw [e1]
    generalize xx 2=xk
    obtain ⟨bk,ck⟩:=xk
    try dsimp only
    clear hx e1 xx vs Ms
    repeat (first | refine JC.seq ?_ | refine JE.next ?_)
    let vs : Nat→Nat→Value:=fun j y=>match j with
      | 0=>.slice (some ⟨bk,0,none⟩) 2 ck
      | 1=>Pt bk 0
      | 2=>.agg (tA.map U8).toArray
      | 3=>.slice (some ⟨bk,0,none⟩) 2 ck
      | 4=>Pt bk (0+1 * 32)
      | 5=>.agg (tC.map U8).toArray
      | _=>N 0
    let Ms : Nat→Nat→List aG:=fun j y=>match j with
      | 6=>[⟨b4,Row 23 (tA.map U8),true⟩]
      | 7=>[⟨b5,Row 23 (tC.map U8),true⟩]
      | 8=>[⟨bk,Sl.aE 23 32 2 ck (tB.map U8),true⟩]
      | 9=>[⟨b4,Row 23 ((List.replicate 32 (0 : B)).map U8),true⟩]
      | 10=>[⟨b5,Row 23 ((List.replicate 32 (0 : B)).map U8),true⟩]
      | _=>[]
    refine JC.grow (g:=⟨[(4,Pt b4 0),(5,Pt b5 0),(6,.slice (some ⟨bk,0,none⟩) 2 ck)],11,vs,Ms,(fun j=>match j with | 1=>[(0,10)] | 2=>[(1,11)] | 4=>[(3,13)] | 5=>[(4,14)] | 6=>[(2,12)] | 7=>[(5,15)] | _=>[]),(fun j=>match j with | 2=>[8] | 5=>[8] | 6=>[9] | 7=>[10] | _=>[]),(fun j=>match j with | 6=>[9] | 7=>[10] | _=>[]),(fun j=>match j with | _=>none)⟩) [] [6,7] gr (by repeat (first | exact ai.nil | refine ai.cons _ _ _ rfl ?_)) ?_ (by kernel_rfl) (by kernel_rfl) (by kernel_rfl) ?_ ?_
    · exact aq.refl _
    · refine ⟨?_,?_,?_,?_,?_,?_,?_,?_,trivial⟩
      · (intro xx EF MF Q kk;(try refine JL.aU rfl rfl ?_);exact JL.q (OQ.move rfl) rfl (JL.nil (kk default nofun)))
      · (intro xx EF MF Q kk;(try refine JL.aU rfl rfl ?_);exact JL.q (OQ.jS (sz:=32) (i:=0) Tryz.underlying90 aB rfl rfl (by decide)) rfl (JL.nil (kk default nofun)))
      · (intro xx EF MF Q kk;(try refine JL.aU rfl rfl ?_);exact JL.q (OQ.af (cs:=tA.map U8) aP aB rfl .here hlA (oP r0 (by rw [hlA,hlB];decide))) rfl (JL.nil (kk default nofun)))
      · (intro xx EF MF Q kk;(try refine JL.aU rfl rfl ?_);exact JL.q (OQ.move rfl) rfl (JL.nil (kk default nofun)))
      · (intro xx EF MF Q kk;(try refine JL.aU rfl rfl ?_);exact JL.q (OQ.jS (sz:=32) (i:=1) Tryz.underlying90 aB rfl rfl (by decide)) rfl (JL.nil (kk default nofun)))
      · (intro xx EF MF Q kk;(try refine JL.aU rfl rfl ?_);exact JL.q (OQ.af (cs:=tC.map U8) aP aB rfl .here hlC (oP r1 (by rw [hlC,hlB];decide))) rfl (JL.nil (kk default nofun)))
      · (intro xx EF MF Q kk;exact JL.ag (cs:=tA.map U8) aB rfl rfl hlA (aV _) .here (by simp) (JL.nil (kk default nofun)))
      · (intro xx EF MF Q kk;exact JL.ag (cs:=tC.map U8) aB rfl rfl hlC (aV _) .here (by simp) (JL.nil (kk default nofun)))
    · intro xx hx
      show JE _ _ _ _ _ [(4,Pt b4 0),(5,Pt b5 0),(6,.slice (some ⟨bk,0,none⟩) 2 ck)] [⟨b4,Row 23 (tA.map U8),true⟩,⟨b5,Row 23 (tC.map U8),true⟩]
      clear hx xx vs Ms
      repeat (refine JE.next ?_)
      refine JC.ret (JE.gp rfl (RV.av aP aB rfl .here hlA Row.all) (RV.av aP aB rfl (.there .here) hlC Row.all) ?_)
      exact fun w' hw=>⟨rfl,hw.aL⟩
end
section
open Sl
namespace mP
open pT ia
structure vT where
  chain : Bk
  num : Int
  key : Bk
def Jd (k : vT) : List Value:=k.chain.map U8++(I k.num::k.key.map U8)
structure vT.ok (k : vT) : Prop where
  c : k.chain.length=32
  k : k.key.length=32
theorem Gr {k : vT} (h : k.ok) : (Jd k).length=65:=by simp [Jd,h.c,h.k]
def tc (l : List vT) : List (List Value):=l.map Jd
theorem xT (l : List vT) : (tc l).length=l.length:=List.length_map ..
theorem xU {l : List vT} (h : ∀ k ∈ l,k.ok) : ∀ c ∈ tc l,c.length=65:=by
  intro c hc
  obtain ⟨k,hk,rfl⟩:=List.mem_map.1 hc
  exact Gr (h k hk)
def xV : vT:=⟨List.replicate 32 0,0,List.replicate 32 0⟩
theorem Gs (l : List vT) {i : Nat} (hi : i<l.length) : (tc l).getD i []=Jd (l.getD i xV):=by
  simp [tc,List.getD_eq_getElem?_getD,hi]
structure ET where
  root : Bk
  own : Bk
  other : Bk
  bY : Bool
  takes : Bool
  send : Bk
  take : Bk
  sent : Int
  taken : Int
  prev : Int
  kept : List vT
structure ET.ok (s : ET) : Prop where
  root : s.root.length=32
  own : s.own.length=32
  other : s.other.length=32
  send : s.send.length=32
  take : s.take.length=32
  kept : ∀ k ∈ s.kept,k.ok
def Mt (s : ET) (kv : Value) : List Value:=s.root.map U8++(s.own.map U8++(s.other.map U8++([.bool s.bY]++([.bool s.takes]++(s.send.map U8++(s.take.map U8++([I s.sent]++([I s.taken]++([I s.prev]++[kv])))))))))
def Cn (a : Int) : Prop:=0≤a∧a≤2147483647
structure vM (s : ET) : Prop where
  sent : Cn s.sent
  taken : Cn s.taken
  prev : Cn s.prev
  len : s.kept.length≤2000
  send : s.bY=false→s.send=dN
  take : s.takes=false→s.take=dN
  other : s.bY=false→s.takes=false→s.other=dN
  num : ∀ i,i<s.kept.length→Cn (s.kept.getD i xV).num
  one : ∀ i,i<s.kept.length→∀ k,k<i→¬ ((s.kept.getD k xV).num=(s.kept.getD i xV).num∧(s.kept.getD k xV).chain=(s.kept.getD i xV).chain)
def vT.nat (k : vT) : Kp:=⟨k.chain,k.num.toNat,k.key⟩
def ET.nat (s : ET) : bA:=⟨s.root,s.own,s.other,s.bY,s.takes,s.send,s.take,s.sent.toNat,s.taken.toNat,s.prev.toNat,s.kept.map vT.nat⟩
theorem AU {a : Int} (h : Cn a) : I a=N a.toNat:=by
  unfold I N
  rw [Int.toNat_of_nonneg h.1]
theorem vT.KW {k : vT} (h : Cn k.num) : Jd k=dU k.nat:=by
  unfold Jd dU vT.nat
  rw [AU h]
theorem vM.cells {s : ET} (h : vM s) (v : Value) : Mt s v=sec s.nat v:=by
  unfold Mt sec ET.nat
  dsimp only
  rw [AU h.sent,AU h.taken,AU h.prev]
theorem vM.kept {s : ET} (h : vM s) : tc s.kept=aX s.nat.kept:=by
  unfold tc aX ET.nat
  dsimp only
  rw [List.map_map]
  apply List.map_congr_left
  intro k hk
  obtain ⟨i,hi,rfl⟩:=List.mem_iff_getElem.1 hk
  have:=h.num i hi
  rw [List.getD_eq_getElem?_getD,List.getElem?_eq_getElem hi] at this
  exact vT.KW this
end mP
open mP
structure vN where
  ad : Option Addr
  cap : Nat
  l : List vT
def vN.v (s : vN) : Value:=.slice s.ad s.l.length s.cap
structure vN.ok (w : World) (s : vN) : Prop where
  len : s.l.length≤s.cap
  reads : Reads w s.ad (tc s.l).flatten
  all : ∀ k ∈ s.l,k.ok
structure K5 where
  s : ET
  k : vN
def K5.v (a : K5) : Value:=.agg (Mt a.s a.k.v).toArray
structure K5.ok (w : World) (a : K5) : Prop where
  s : a.s.ok
  e : a.k.l=a.s.kept
  k : a.k.ok w
end
section
set_option maxRecDepth 10000
open Sl g5 lz dO mP
open pT (Bk)
theorem vN.ok.at {w : World} {s : vN} (h : s.ok w) {i : Nat} (hi : i<s.l.length) : ∃ b j,s.ad=some ⟨b,j,none⟩∧b<w.heap.size∧∀ k u,(Jd (s.l.getD i xV))[k]?=some u→w.cell? ⟨b,j+i * 65+k,none⟩=some u:=by
  have hl : (tc s.l).flatten.length=s.l.length * 65:=by rw [dQ (xU h.all),xT]
  have h0 : 0<(tc s.l).flatten.length:=by omega
  obtain ⟨b,j,e,hc⟩:=h.reads.at h0
  refine ⟨b,j,e,?_,fun k u hu=>?_⟩
  · obtain ⟨v,hv⟩ : ∃ v,(tc s.l).flatten[0]?=some v:=⟨_,List.getElem?_eq_getElem h0⟩
    exact block_lt_of_cell (hc 0 v hv)
  · have hat:=om (i:=i) (xU h.all) (by rw [xT];exact hi)
    rw [Gs _ hi] at hat
    rw [← hat,List.getElem?_take] at hu
    split at hu
    · rw [List.getElem?_drop] at hu
      rw [Nat.add_assoc]
      exact hc _ u hu
    · cases hu
theorem vN.mem {s : vN} {i : Nat} (hi : i<s.l.length) : s.l.getD i xV ∈ s.l:=by
  rw [List.getD_eq_getElem?_getD,List.getElem?_eq_getElem hi]
  exact List.getElem_mem hi
section
variable {n : Nat} {E : Env} {C : World→Prop} {dst : Option Tmp} {t t' ty : TypeId} {pos : String} {aft : Array Edge} {g : Option (Nat × Bool)} {x y : Operand}
theorem OQ.KX {r q : Bk} {c : Bool} (hr : r.length=32) (hq : q.length=32) (hx : ev E x=some (.agg (r.map U8).toArray)) (hy : ev E y=some (.agg (q.map U8).toArray)) (h : decide (r=q)=c) : OQ Tryz.prog n E C ⟨dst,.binOp .neq 23 x y t',ty,pos,aft,g⟩ (.bool (!c)):=
  h ▸ OQ.Lg Tryz.underlying23 Tryz.underlying5 kM lW hx hy hr hq
theorem OQ.KY {r q : Bk} {c : Bool} (hr : r.length=32) (hq : q.length=32) (hx : ev E x=some (.agg (r.map U8).toArray)) (hy : ev E y=some (.agg (q.map U8).toArray)) (h : decide (r=q)=c) : OQ Tryz.prog n E C ⟨dst,.binOp .eql 23 x y t',ty,pos,aft,g⟩ (.bool c):=
  h ▸ OQ.Lf Tryz.underlying23 Tryz.underlying5 kM lW hx hy hr hq
end
end
end Go.Proofs.YtgkninhgcpbfnaaGreatDoor
