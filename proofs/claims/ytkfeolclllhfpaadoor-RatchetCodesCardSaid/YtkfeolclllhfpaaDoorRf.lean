/-
  Of no statement by itself: the texts RatEj, RatEk, RatEl, Plain, Elm, RatX, FraR in one.
  Conditions: each theorem's own.
-/
import Derived.Test.YtkfeolclllhfpaaDoorRe
import Derived.Test.YtkfeolclllhfpaaDoorProg
import Derived.Test.YtkfeolclllhfpaaDoorRows
import Derived.ProofKit
import Derived.OpenShut
import Derived.Below
import Derived.Stop.Joined
import Derived.ChangeMaps5
import Derived.Deep.Slices
import Derived.Deep.SlicePairs
import Derived.Test.YtkfeolclllhfpaaDoorTie
import Derived.SevenTiedAt
import Derived.LaidMore
import Derived.Lay
import Derived.Lib.LaidTab
set_option linter.unusedSimpArgs false
set_option linter.unusedVariables false
namespace Go.Proofs.YtkfeolclllhfpaaDoor
section
set_option maxRecDepth 10000
open Sl ec gE cV gB
open iZ (Bk)
def uW (b : Bk) (a1 a2 : Bool) (i : Nat) : bC:=⟨if 0<i then mid b 1 32 else bO,if 1<i then mid b 33 32 else bO,if 2<i then mid b 65 32 else bO,a1,a2,if 3<i then mid b 97 32 else bO,if 4<i then mid b 129 32 else bO,0,0,0,[]⟩
def BM (b : Bk) (a1 a2 : Bool) (i : Nat) : bC:={ uW b a1 a2 5 with sent:=if 0<i then fF.bP (mid b 161 4) else 0,taken:=if 1<i then fF.bP (mid b 165 4) else 0,prev:=if 2<i then fF.bP (mid b 169 4) else 0 }
theorem qL {b : Bk} (a1 a2 : Bool) (i : Nat) (h : 177≤b.length) : (uW b a1 a2 i).ok:=by
  have g : ∀ k lo,lo+32≤b.length→(if k<i then mid b lo 32 else bO).length=32:=fun k lo hl=>by
    split
    · exact bU hl
    · rfl
  exact ⟨g 0 1 (by omega),g 1 33 (by omega),g 2 65 (by omega),g 3 97 (by omega),g 4 129 (by omega),nofun⟩
theorem uX {b : Bk} (a1 a2 : Bool) (i : Nat) (h : 177≤b.length) : (BM b a1 a2 i).ok:=by
  have:=qL (b:=b) a1 a2 5 h
  exact ⟨this.root,this.own,this.other,this.send,this.take,nofun⟩
def Ad (i : Nat) : Nat:=[0,32,64,98,130].getD i 0
theorem BN {b : Bk} (a1 a2 : Bool) (i : Nat) (h : 177≤b.length) (hi : i<5) : (sec (uW b a1 a2 i) aq).take (Ad i)++(mid b (1+i * 32) 32).map U8++(sec (uW b a1 a2 i) aq).drop (Ad i+((mid b (1+i * 32) 32).map U8).length)=sec (uW b a1 a2 (i+1)) aq:=by
  have hk:=qL (b:=b) a1 a2 i h
  have h5 : i=0∨i=1∨i=2∨i=3∨i=4:=by omega
  rcases h5 with rfl | rfl | rfl | rfl | rfl
  · exact eU hk aq (mid b 1 32) (bU (by omega))
  · exact fH hk aq (mid b 33 32) (bU (by omega))
  · exact fR hk aq (mid b 65 32) (bU (by omega))
  · exact eV hk aq (mid b 97 32) (bU (by omega))
  · exact j6 hk aq (mid b 129 32) (bU (by omega))
theorem BO {b : Bk} (a1 a2 : Bool) (i : Nat) (h : 177≤b.length) (hi : i<3) : (sec (BM b a1 a2 i) aq).set (162+i) (N (fF.bP (mid b (161+i * 4) 4)))=sec (BM b a1 a2 (i+1)) aq:=by
  have hk:=uX (b:=b) a1 a2 i h
  have h5 : i=0∨i=1∨i=2:=by omega
  rcases h5 with rfl | rfl | rfl
  · exact gC hk aq _
  · exact jf hk aq _
  · exact j7 hk aq _
theorem Ae : ∀ c : BitVec 8,c.toNat≤3→(!decide (c &&& 1=0))=decide (c.toNat % 2=1):=fun c h=>by
  have h5 : c.toNat=0∨c.toNat=1∨c.toNat=2∨c.toNat=3:=by omega
  have g : ∀ k : BitVec 8,c.toNat=k.toNat→c=k:=fun k hk=>BitVec.eq_of_toNat_eq hk
  rcases h5 with h | h | h | h
  · obtain rfl:=g 0 h;rfl
  · obtain rfl:=g 1 h;rfl
  · obtain rfl:=g 2 h;rfl
  · obtain rfl:=g 3 h;rfl
theorem Ag : ∀ c : BitVec 8,c.toNat≤3→(!decide (c &&& 2=0))=decide (c.toNat / 2=1):=fun c h=>by
  have h5 : c.toNat=0∨c.toNat=1∨c.toNat=2∨c.toNat=3:=by omega
  have g : ∀ k : BitVec 8,c.toNat=k.toNat→c=k:=fun k hk=>BitVec.eq_of_toNat_eq hk
  rcases h5 with h | h | h | h
  · obtain rfl:=g 0 h;rfl
  · obtain rfl:=g 1 h;rfl
  · obtain rfl:=g 2 h;rfl
  · obtain rfl:=g 3 h;rfl
structure Cu where
  i : Nat
  s : aT
theorem xu : aR Tryd.prog 42:=⟨_,Tryd.func42,rfl,by kernel_rfl⟩
set_option maxHeartbeats 64000000 in
theorem Ah (z : aT) (n : Nat) (w : World) (hz : z.ok w) (hL : z.l.length=177+n * 68) (hn : n≤1000) (h3 : (z.l.getD 0 0).toNat≤3) :
    Calls Tryd.prog 42 [z.v,N n].toArray w fun e w'=>∃ q : Acc,(q=none→n=0)∧e=.returned (.agg (sec (di z.l n) (aA q n)).toArray)∧ah w [] (fD q (di z.l n).kept) w':=by
  have h177 : 177≤z.l.length:=by omega
  have hzl:=au aC aq
  obtain ⟨b,jz,eA,cA⟩:=hz.reads.at (by rw [List.length_map];omega)
  have g0:=cA 0 (U8 (z.l.getD 0 0)) (by rw [List.getElem?_map,List.getElem?_eq_getElem (by omega),List.getD_eq_getElem?_getD,List.getElem?_eq_getElem (by omega)];rfl)
  clear cA
  have hb : b<w.heap.size:=block_lt_of_cell g0
  have hs1 : (di z.l n).ay=decide ((z.l.getD 0 0).toNat % 2=1):=rfl
  have hs2 : (di z.l n).takes=decide ((z.l.getD 0 0).toNat / 2=1):=rfl
  obtain ⟨c0,hc0⟩ : ∃ c,z.l.getD 0 0=c:=⟨_,rfl⟩
  rw [hc0] at g0 h3 hs1 hs2
  rw [← Ae c0 h3] at hs1
  rw [← Ag c0 h3] at hs2
  obtain ⟨a1,ha1⟩ : ∃ a,(di z.l n).ay=a:=⟨_,rfl⟩
  obtain ⟨a2,ha2⟩ : ∃ a,(di z.l n).takes=a:=⟨_,rfl⟩
  rw [ha1] at hs1
  rw [ha2] at hs2
  have hsb : Tryd.prog.built 26 ([3,4].zip [.bool a1,.bool a2])=some (sec (uW z.l a1 a2 0) aq).toArray:=sZ { aD with ay:=a1,takes:=a2 } ⟨rfl,rfl,rfl,rfl,rfl,nofun⟩
  have hl0:=au (qL (b:=z.l) a1 a2 0 h177) aq
  refine enter (n:=64) Tryd.func42 rfl rfl rfl (ah.start w []) ?_
  repeat (first | refine JC.seq ?_ | refine JC.region ?_)
  refine JL.alloc qQ rfl fun b4 _=>?_
  repeat (first | refine JC.seq ?_ | refine JL.nil ?_ | refine JE.next ?_)
  let vs : Nat→Nat→Value:=fun j y=>match j with
    | 0=>z.v
    | 1=>.pointer (some ⟨b,jz+0,none⟩)
    | 2=>U8 c0
    | 3=>U8 (c0 &&& 1)
    | 4=>.bool a1
    | 5=>z.v
    | 6=>.pointer (some ⟨b,jz+0,none⟩)
    | 7=>U8 c0
    | 8=>U8 (c0 &&& 2)
    | 9=>.bool a2
    | 10=>.agg (sec (uW z.l a1 a2 0) aq).toArray
    | 11=>Pt y 0
    | _=>N 0
  let Ms : Nat→Nat→List aJ:=fun j y=>match j with
    | 11=>[⟨y,Row 26 (sec aD aq),true⟩]
    | 12=>[⟨y,Row 26 (sec (uW z.l a1 a2 0) aq),true⟩]
    | 13=>[⟨b4,Row 26 (sec aD aq),true⟩]
    | _=>[]
  refine JC.grow (g:=⟨[(0,z.v),(1,N n),(4,Pt b4 0)],14,vs,Ms,(fun j=>match j with | 1=>[(0,11)] | 2=>[(1,12)] | 3=>[(2,13)] | 4=>[(3,14)] | 6=>[(5,16)] | 7=>[(6,17)] | 8=>[(7,18)] | 9=>[(8,19)] | 10=>[(4,15),(9,20)] | 12=>[(11,5),(10,21)] | _=>[]),(fun j=>match j with | 12=>[11] | _=>[]),(fun j=>match j with | 12=>[11] | _=>[]),(fun j=>match j with | 12=>some 11 | _=>none)⟩) [(11,5)] [12,13] iV (by repeat (first | exact aj.nil | refine aj.cons _ _ _ rfl ?_)) ?_ (by kernel_rfl) (by kernel_rfl) (by kernel_rfl) ?_ ?_
  · exact ax.refl _
  · refine ⟨?_,?_,?_,?_,?_,?_,?_,?_,?_,?_,?_,?_,?_,trivial⟩
    · (intro xx EF MF Q kk;(try refine JL.bn rfl rfl ?_);exact JL.q (OQ.move rfl) rfl (JL.nil (kk default nofun)))
    · (intro xx EF MF Q kk;(try refine JL.bn rfl rfl ?_);exact JL.q (OQ.jr (s:=z) (b:=b) (j:=jz) (i:=0) eA Tryd.underlying27 dH rfl rfl (by omega)) rfl (JL.nil (kk default nofun)))
    · (intro xx EF MF Q kk;(try refine JL.bn rfl rfl ?_);exact JL.q (OQ.aL om rfl hb (by simp) g0) rfl (JL.nil (kk default nofun)))
    · (intro xx EF MF Q kk;(try refine JL.bn rfl rfl ?_);exact JL.q (OQ.xR (a:=c0) (b:=1) rfl rfl) rfl (JL.nil (kk default nofun)))
    · (intro xx EF MF Q kk;(try refine JL.bn rfl rfl ?_);exact JL.q (OQ.to (OQ.FJ (a:=c0 &&& 1) (b:=0) rfl rfl) (congrArg Value.bool hs1.symm)) rfl (JL.nil (kk default nofun)))
    · (intro xx EF MF Q kk;(try refine JL.bn rfl rfl ?_);exact JL.q (OQ.move rfl) rfl (JL.nil (kk default nofun)))
    · (intro xx EF MF Q kk;(try refine JL.bn rfl rfl ?_);exact JL.q (OQ.jr (s:=z) (b:=b) (j:=jz) (i:=0) eA Tryd.underlying27 dH rfl rfl (by omega)) rfl (JL.nil (kk default nofun)))
    · (intro xx EF MF Q kk;(try refine JL.bn rfl rfl ?_);exact JL.q (OQ.aL om rfl hb (by simp) g0) rfl (JL.nil (kk default nofun)))
    · (intro xx EF MF Q kk;(try refine JL.bn rfl rfl ?_);exact JL.q (OQ.xR (a:=c0) (b:=2) rfl rfl) rfl (JL.nil (kk default nofun)))
    · (intro xx EF MF Q kk;(try refine JL.bn rfl rfl ?_);exact JL.q (OQ.to (OQ.FJ (a:=c0 &&& 2) (b:=0) rfl rfl) (congrArg Value.bool hs2.symm)) rfl (JL.nil (kk default nofun)))
    · (intro xx EF MF Q kk;(try refine JL.bn rfl rfl ?_);exact JL.q (OQ.dZ (cs:=sec (uW z.l a1 a2 0) aq) [3,4] [.tmp 15,.tmp 20] (vs:=[.bool a1,.bool a2]) rfl rfl hsb) rfl (JL.nil (kk default nofun)))
    · (intro xx EF MF Q kk;exact JL.alloc qQ rfl fun b0 _=>JL.nil (kk b0 nofun))
    · (intro xx EF MF Q kk;exact JL.ag (cs:=sec (uW z.l a1 a2 0) aq) dn rfl rfl hl0 (bA rfl) .here (au aC _) (JL.nil (kk (xx 11) (fun k h=>by cases h;rfl))))
  · intro xx hx
    have e1:=hx 12 11 (by decide) rfl
    show JE _ _ _ _ _ [(5,Pt (xx 11) 0),(0,z.v),(1,N n),(4,Pt b4 0)] [⟨xx 12,Row 26 (sec (uW z.l a1 a2 0) aq),true⟩,⟨b4,Row 26 (sec aD aq),true⟩]
    rw [e1]
    generalize xx 11=b5
    clear hx e1 xx vs Ms
    have z1:=hz.snd 1 (by omega)
    have hl1 : (z.snd 1).l=z.l.drop 1:=rfl
    obtain ⟨s1,hs⟩ : ∃ s,z.snd 1=s:=⟨_,rfl⟩
    repeat (first | refine JL.q (by first|(apply OQ.snd (s:=z) (m:=1);exact Tryd.underlying27;exact dH;rfl;rfl;exact (by omega))|(apply OQ.move;rfl)) rfl ?_ | refine JC.seq ?_ | refine JC.region ?_ | refine JE.next ?_)
    rw [hs] at z1 hl1 ⊢
    refine JL.q (OQ.dZ (cs:=[s1.v]) [0] [.tmp 23] (vs:=[s1.v]) rfl rfl (by unfold aT.v;kernel_rfl)) rfl ?_
    refine JL.alloc Gp rfl fun b6 hb6=>?_
    refine JL.ag (cs:=[s1.v]) Gn rfl rfl rfl rfl .here rfl ?_
    have hoff : ∀ s : aT,s.ok w→Cl s [b6]:=fun s hs h0 a ha hm=>by
      have h1:=hs.lt h0 a ha
      rw [List.mem_singleton] at hm
      omega
    repeat (first | refine JL.q (by (apply OQ.cw;rfl;rfl;rfl;exact (by decide);rfl)) rfl ?_ | refine JC.seq ?_ | refine JC.region ?_ | refine JL.nil ?_ | refine JE.next ?_)
    refine JL.q (OQ.dZ (cs:=[Pt b5 0,Pt b5 32,Pt b5 64,Pt b5 98,Pt b5 130]) [0,1,2,3,4] [.tmp 25,.tmp 26,.tmp 27,.tmp 28,.tmp 29] (vs:=[Pt b5 0,Pt b5 32,Pt b5 64,Pt b5 98,Pt b5 130]) rfl rfl (by kernel_rfl)) rfl ?_
    obtain ⟨ps,hps⟩ : ∃ ps,[Pt b5 0,Pt b5 32,Pt b5 64,Pt b5 98,Pt b5 130]=ps:=⟨_,rfl⟩
    have hpa : ∀ i,i<5→ps[i]?=some (Pt b5 (Ad i)):=fun i hi=>by
      rw [← hps]
      have h5 : i=0∨i=1∨i=2∨i=3∨i=4:=by omega
      rcases h5 with rfl | rfl | rfl | rfl | rfl <;> rfl
    rw [hps]
    clear hps
    repeat (first | refine JL.q (by (apply OQ.move;rfl)) rfl ?_ | refine JC.block ?_ | refine JL.nil ?_ | refine JE.next ?_)
    refine JC.loop (fun x : Cu=>[(0,z.v),(1,N n),(4,Pt b4 0),(5,Pt b5 0),(6,Pt b6 0),(30,.agg ps.toArray),(31,N x.i)]) (fun x=>[⟨b6,Row 104 [x.s.v],true⟩,⟨b5,Row 26 (sec (uW z.l a1 a2 x.i) aq),true⟩,⟨b4,Row 26 (sec aD aq),true⟩]) (fun x=>5 - x.i) (fun x=>x.i≤5∧x.s.ok w∧x.s.l=z.l.drop (1+x.i * 32)) ⟨0,s1⟩ ⟨Nat.zero_le _,z1,hl1⟩ (by repeat (first | exact aj.nil | refine aj.cons _ _ _ rfl ?_)) (ax.refl _) ?_
    rintro ⟨i,s⟩ ⟨hi,hso,hsl⟩
    dsimp only at hi hso hsl ⊢
    repeat (first | refine JL.q (by (apply OQ.cF (a:=i) (b:=5);rfl;rfl)) rfl ?_ | refine JC.seq ?_ | refine JC.region ?_ | refine JL.nil ?_ | refine JE.next ?_)
    refine JC.cond rfl (fun hc=>?_) (fun hc=>?_)
    · have hi' : i<5:=of_decide_eq_true hc
      clear hc
      have hm : s.l.take 32=mid z.l (1+i * 32) 32:=by rw [hsl];rfl
      have hml : ((mid z.l (1+i * 32) 32).map U8).length=32:=by rw [List.length_map];exact bU (by omega)
      have hsl32 : 32≤s.l.length:=by rw [hsl,List.length_drop];omega
      have hnx : (s.snd 32).l=z.l.drop (1+(i+1) * 32):=by show s.l.drop 32=_;rw [hsl,List.drop_drop];congr 1;omega
      have c0:=fun (w' : World) (M : List aJ) (hw' : ah w [] (⟨b6,Row 104 [s.v],true⟩::M) w') (hx : ah w' [b6] [⟨b6,Row 104 [s.v],true⟩] w')=>n7 b6 s hsl32 w' (hso.holds hw' rfl) (hoff s hso) hx
      rw [hm] at c0
      have hpt:=BN (b:=z.l) a1 a2 i h177 hi'
      have hlr:=au (qL (b:=z.l) a1 a2 i h177) aq
      have hof : Ad i+32≤166:=by
        have h5 : i=0∨i=1∨i=2∨i=3∨i=4:=by omega
        rcases h5 with rfl | rfl | rfl | rfl | rfl <;> decide
      generalize mid z.l (1+i * 32) 32=kb at hml c0 hpt
      repeat (first | refine JL.q (by first|(apply OQ.index (len:=5) (i:=i) (cs:=ps) (v:=Pt b5 (Ad i));exact Tryd.underlying106;exact (by kernel_rfl);exact (by kernel_rfl);rfl;rfl;exact hi';exact (hpa i hi'))|(apply OQ.move;rfl)|(apply OQ.assign;rfl)) rfl ?_ | refine JC.seq ?_ | refine JC.region ?_ | refine JC.block ?_ | refine JC.skip ?_ | refine JL.nil ?_ | refine JE.next ?_)
      refine JL.pA (ι:=Unit) (vs:=[Pt b6 0]) (X:=[⟨b6,Row 104 [s.v],true⟩]) (M0:=[⟨b5,Row 26 (sec (uW z.l a1 a2 i) aq),true⟩,⟨b4,Row 26 (sec aD aq),true⟩]) (fun _=>.agg (kb.map U8).toArray) (fun _=>[⟨b6,Row 104 [(s.snd 32).v],true⟩]) lQ rfl rfl (by simp) (by simp) (fun w' hw' hx'=>(c0 w' _ hw' hx').mono fun e w2 ⟨g1,g2⟩=>⟨(),g1,g2⟩) fun _=>?_
      repeat (refine JL.q (by (apply OQ.kR;rfl)) rfl ?_)
      refine JL.cK (r:=sec (uW z.l a1 a2 i) aq) (r':=sec (uW z.l a1 a2 (i+1)) aq) aO rfl rfl hml (cQ _) (.there .here) (by rw [hlr,hml];exact hof) hpt ?_
      repeat (first | refine JL.q (by first|(apply OQ.bH (a:=i) (b:=1);rfl;rfl;exact (by omega))|(apply OQ.move;rfl)) rfl ?_ | refine JC.region ?_ | refine JL.nil ?_ | refine JE.next ?_ | refine JE.az ?_)
      exact JE.again (i:=Cu.mk i s) ⟨i+1,s.snd 32⟩ ⟨hi',hso.snd 32 hsl32,hnx⟩ (by dsimp only;omega) (by repeat (first | exact aj.nil | refine aj.cons _ _ _ rfl ?_)) (ax.refl _)
    have hi' : i=5:=by have h9 : ¬ i<5:=of_decide_eq_false hc;omega
    subst hi'
    clear hc hi hpa z1 hl1
    repeat (first | refine JL.q (by (apply OQ.cw;rfl;rfl;rfl;exact (by decide);rfl)) rfl ?_ | refine JC.seq ?_ | refine JC.region ?_ | refine JC.exit ?_ | refine JE.next ?_ | refine JE.aB ?_ | refine JE.aG ?_)
    refine JL.q (OQ.dZ (cs:=[Pt b5 162,Pt b5 163,Pt b5 164]) [0,1,2] [.tmp 38,.tmp 39,.tmp 40] (vs:=[Pt b5 162,Pt b5 163,Pt b5 164]) rfl rfl (by kernel_rfl)) rfl ?_
    obtain ⟨ps,hps⟩ : ∃ ps,[Pt b5 162,Pt b5 163,Pt b5 164]=ps:=⟨_,rfl⟩
    have hpa : ∀ i,i<3→ps[i]?=some (Pt b5 (162+i)):=fun i hi=>by
      rw [← hps]
      have h5 : i=0∨i=1∨i=2:=by omega
      rcases h5 with rfl | rfl | rfl <;> rfl
    rw [hps]
    clear hps
    repeat (first | refine JL.q (by (apply OQ.move;rfl)) rfl ?_ | refine JC.block ?_ | refine JL.nil ?_ | refine JE.next ?_)
    refine JC.loop (fun x : Cu=>[(0,z.v),(1,N n),(4,Pt b4 0),(5,Pt b5 0),(6,Pt b6 0),(41,.agg ps.toArray),(42,N x.i)]) (fun x=>[⟨b6,Row 104 [x.s.v],true⟩,⟨b5,Row 26 (sec (BM z.l a1 a2 x.i) aq),true⟩,⟨b4,Row 26 (sec aD aq),true⟩]) (fun x=>3 - x.i) (fun x=>x.i≤3∧x.s.ok w∧x.s.l=z.l.drop (161+x.i * 4)) ⟨0,s⟩ ⟨Nat.zero_le _,hso,hsl⟩ (by repeat (first | exact aj.nil | refine aj.cons _ _ _ rfl ?_)) (ax.refl _) ?_
    clear hso hsl s
    rintro ⟨i,s⟩ ⟨hi,hso,hsl⟩
    dsimp only at hi hso hsl ⊢
    repeat (first | refine JL.q (by (apply OQ.cF (a:=i) (b:=3);rfl;rfl)) rfl ?_ | refine JC.seq ?_ | refine JC.region ?_ | refine JL.nil ?_ | refine JE.next ?_)
    refine JC.cond rfl (fun hc=>?_) (fun hc=>?_)
    · have hi' : i<3:=of_decide_eq_true hc
      clear hc
      have hm : s.l.take 4=mid z.l (161+i * 4) 4:=by rw [hsl];rfl
      have hsl4 : 4≤s.l.length:=by rw [hsl,List.length_drop];omega
      have hnx : (s.snd 4).l=z.l.drop (161+(i+1) * 4):=by show s.l.drop 4=_;rw [hsl,List.drop_drop];congr 1;omega
      have c0:=fun (w' : World) (M : List aJ) (hw' : ah w [] (⟨b6,Row 104 [s.v],true⟩::M) w') (hx : ah w' [b6] [⟨b6,Row 104 [s.v],true⟩] w')=>n8 b6 s hsl4 w' (hso.holds hw' rfl) (hoff s hso) hx
      rw [hm] at c0
      have hpt:=BO (b:=z.l) a1 a2 i h177 hi'
      have hlr:=au (uX (b:=z.l) a1 a2 i h177) aq
      generalize fF.bP (mid z.l (161+i * 4) 4)=kn at c0 hpt
      repeat (first | refine JL.q (by first|(apply OQ.index (len:=3) (i:=i) (cs:=ps) (v:=Pt b5 (162+i));exact Tryd.underlying109;exact (by kernel_rfl);exact (by kernel_rfl);rfl;rfl;exact hi';exact (hpa i hi'))|(apply OQ.move;rfl)|(apply OQ.assign;rfl)) rfl ?_ | refine JC.seq ?_ | refine JC.region ?_ | refine JC.block ?_ | refine JC.skip ?_ | refine JL.nil ?_ | refine JE.next ?_)
      refine JL.pA (ι:=Unit) (vs:=[Pt b6 0]) (X:=[⟨b6,Row 104 [s.v],true⟩]) (M0:=[⟨b5,Row 26 (sec (BM z.l a1 a2 i) aq),true⟩,⟨b4,Row 26 (sec aD aq),true⟩]) (fun _=>N kn) (fun _=>[⟨b6,Row 104 [(s.snd 4).v],true⟩]) lR rfl rfl (by simp) (by simp) (fun w' hw' hx'=>(c0 w' _ hw' hx').mono fun e w2 ⟨g1,g2⟩=>⟨(),g1,g2⟩) fun _=>?_
      repeat (refine JL.q (by (apply OQ.kR;rfl)) rfl ?_)
      refine JL.aU (r:=sec (BM z.l a1 a2 i) aq) (r':=sec (BM z.l a1 a2 (i+1)) aq) (v:=N kn) zx rfl rfl rfl rfl (.there .here) (by rw [hlr];omega) hpt ?_
      repeat (first | refine JL.q (by first|(apply OQ.bH (a:=i) (b:=1);rfl;rfl;exact (by omega))|(apply OQ.move;rfl)) rfl ?_ | refine JC.region ?_ | refine JL.nil ?_ | refine JE.next ?_ | refine JE.az ?_)
      exact JE.again (i:=Cu.mk i s) ⟨i+1,s.snd 4⟩ ⟨hi',hso.snd 4 hsl4,hnx⟩ (by dsimp only;omega) (by repeat (first | exact aj.nil | refine aj.cons _ _ _ rfl ?_)) (ax.refl _)
    have hi' : i=3:=by have h9 : ¬ i<3:=of_decide_eq_false hc;omega
    subst hi'
    clear hc hi hpa
    have hse : di z.l n={ BM z.l a1 a2 3 with kept:=fE n (z.l.drop 177) }:=by rw [← ha1,← ha2];rfl
    obtain ⟨D,hD⟩ : ∃ D,BM z.l a1 a2 3=D:=⟨_,rfl⟩
    have hDo:=uX (b:=z.l) a1 a2 3 h177
    have hDk : D.kept=[]:=by rw [← hD];rfl
    rw [hD] at hse hDo ⊢
    have hsl4 : 4≤s.l.length:=by rw [hsl,List.length_drop];omega
    have hnx : (s.snd 4).l=z.l.drop (177+0 * 68):=by show s.l.drop 4=_;rw [hsl,List.drop_drop]
    have hso4:=hso.snd 4 hsl4
    have c0:=fun (w' : World) (M : List aJ) (hw' : ah w [] (⟨b6,Row 104 [s.v],true⟩::M) w') (hx : ah w' [b6] [⟨b6,Row 104 [s.v],true⟩] w')=>n8 b6 s hsl4 w' (hso.holds hw' rfl) (hoff s hso) hx
    repeat (first | refine JC.seq ?_ | refine JC.region ?_ | refine JC.exit ?_ | refine JE.next ?_ | refine JE.aB ?_ | refine JE.aG ?_)
    refine JL.pA (ι:=Unit) (vs:=[Pt b6 0]) (X:=[⟨b6,Row 104 [s.v],true⟩]) (M0:=[⟨b5,Row 26 (sec D aq),true⟩,⟨b4,Row 26 (sec aD aq),true⟩]) (fun _=>N (fF.bP (s.l.take 4))) (fun _=>[⟨b6,Row 104 [(s.snd 4).v],true⟩]) lR rfl rfl (by simp) (by simp) (fun w' hw' hx'=>(c0 w' _ hw' hx').mono fun e w2 ⟨g1,g2⟩=>⟨(),g1,g2⟩) fun _=>?_
    clear c0 hsl4 hsl hso
    generalize s.snd 4=s at hnx hso4
    repeat (first | refine JL.q (by (apply OQ.move;rfl)) rfl ?_ | refine JC.seq ?_ | refine JC.region ?_ | refine JC.block ?_ | refine JL.nil ?_ | refine JE.next ?_)
    refine JC.loop (fun x : Cu × Acc=>[(0,z.v),(1,N n),(4,Pt b4 0),(5,Pt b5 0),(6,Pt b6 0),(50,N n),(51,N x.1.i)]) (fun x=>⟨b6,Row 104 [x.1.s.v],true⟩::⟨b5,Row 26 (sec { D with kept:=fE x.1.i (z.l.drop 177) } (aA x.2 x.1.i)),true⟩::(fD x.2 (fE x.1.i (z.l.drop 177))++[⟨b4,Row 26 (sec aD aq),true⟩])) (fun x=>n - x.1.i) (fun x=>x.1.i≤n∧(x.2=none→x.1.i=0)∧x.1.s.ok w∧x.1.s.l=z.l.drop (177+x.1.i * 68)) (⟨0,s⟩,none) ⟨Nat.zero_le _,fun _=>rfl,hso4,hnx⟩ (by repeat (first | exact aj.nil | refine aj.cons _ _ _ rfl ?_)) (ax.refl _) ?_
    clear hso4 hnx s
    rintro ⟨⟨i,s⟩,q⟩ ⟨hi,hq,hso,hsl⟩
    dsimp only at hi hq hso hsl ⊢
    have hnx:=lV i (z.l.drop 177)
    have hRl:=iC i (z.l.drop 177)
    have hRo:=mY i (z.l.drop 177) (by rw [List.length_drop];omega)
    repeat (first | refine JL.q (by (apply OQ.cF (a:=i) (b:=n);rfl;rfl)) rfl ?_ | refine JC.seq ?_ | refine JC.region ?_ | refine JL.nil ?_ | refine JE.next ?_)
    refine JC.cond rfl (fun hc=>?_) (fun hc=>?_)
    · have hi' : i<n:=of_decide_eq_true hc
      clear hc
      obtain ⟨R,hR⟩ : ∃ R,fE i (z.l.drop 177)=R:=⟨_,rfl⟩
      have hsL : 68≤s.l.length:=by rw [hsl,List.length_drop];omega
      have hso1:=hso.snd 32 (by omega)
      have hl1 : (s.snd 32).l=s.l.drop 32:=rfl
      have hso2:=hso1.snd 4 (by rw [hl1,List.length_drop];omega)
      have hl2 : ((s.snd 32).snd 4).l=s.l.drop 36:=by show (s.l.drop 32).drop 4=_;rw [List.drop_drop]
      have hso3:=hso2.snd 32 (by rw [hl2,List.length_drop];omega)
      have hl3 : (((s.snd 32).snd 4).snd 32).l=z.l.drop (177+(i+1) * 68):=by show ((s.l.drop 32).drop 4).drop 32=_;rw [List.drop_drop,List.drop_drop,hsl,List.drop_drop];congr 1;omega
      have hkD : Ee ((z.l.drop 177).drop (i * 68))=⟨s.l.take 32,fF.bP ((s.l.drop 32).take 4),(s.l.drop 36).take 32⟩:=by
        rw [List.drop_drop,← hsl]
        rfl
      have ck1:=fun (w' : World) (M : List aJ) (hw' : ah w [] (⟨b6,Row 104 [s.v],true⟩::M) w') (hx : ah w' [b6] [⟨b6,Row 104 [s.v],true⟩] w')=>n7 b6 s (by omega) w' (hso.holds hw' rfl) (hoff s hso) hx
      have cn1:=fun (w' : World) (M : List aJ) (hw' : ah w [] (⟨b6,Row 104 [(s.snd 32).v],true⟩::M) w') (hx : ah w' [b6] [⟨b6,Row 104 [(s.snd 32).v],true⟩] w')=>n8 b6 (s.snd 32) (by rw [hl1,List.length_drop];omega) w' (hso1.holds hw' rfl) (hoff _ hso1) hx
      have ck2:=fun (w' : World) (M : List aJ) (hw' : ah w [] (⟨b6,Row 104 [((s.snd 32).snd 4).v],true⟩::M) w') (hx : ah w' [b6] [⟨b6,Row 104 [((s.snd 32).snd 4).v],true⟩] w')=>n7 b6 ((s.snd 32).snd 4) (by rw [hl2,List.length_drop];omega) w' (hso2.holds hw' rfl) (hoff _ hso2) hx
      rw [hl1] at cn1
      rw [hl2] at ck2
      have hm1 : (s.l.take 32).length=32:=by rw [List.length_take];omega
      have hm2 : ((s.l.drop 36).take 32).length=32:=by rw [List.length_take,List.length_drop];omega
      rw [hkD,hR] at hnx
      rw [hR] at hRl hRo ⊢
      clear hkD hl1 hl2
      generalize s.l.take 32=kc at ck1 hm1 hnx
      generalize (s.l.drop 36).take 32=kq at ck2 hm2 hnx
      generalize fF.bP ((s.l.drop 32).take 4)=kn at cn1 hnx
      have hkb:=pP kc kq kn hm1 hm2
      have hkl:=j0 (k:=⟨kc,kn,kq⟩) ⟨hm1,hm2⟩
      have hk1:=mR ⟨kc,kn,kq⟩
      generalize (⟨kc,kn,kq⟩ : Kp)=kp1 at *
      have hokR : ({ D with kept:=R } : bC).ok:=⟨hDo.root,hDo.own,hDo.other,hDo.send,hDo.take,hRo⟩
      have hkp : ∀ o,Row 26 (sec { D with kept:=R } (aA q i)) o→cellAt o 165=some (aA q (bS R).length):=by rw [dM,hRl];exact Row.cell (fk hokR _)
      have hset : ∀ v',(sec { D with kept:=R } (aA q i)).set 165 v'=sec { D with kept:=R++[kp1] } v':=fun v'=>gD hokR _ _ v'
      have hl166:=au hokR (aA q i)
      have hqL : q=none→bS R=[]:=fun e=>by have:=hq e;rw [this] at hRl;rw [List.length_eq_zero_iff.1 hRl];rfl
      have hLl : (bS R).length<10000:=by rw [dM];omega
      repeat (first | refine JC.seq ?_ | refine JC.block ?_ | refine JC.skip ?_ | refine JE.next ?_)
      let vs : Nat→(Nat × Nat)→Value:=fun j y=>match j with
        | 0=>Pt b5 165
        | 1=>aA q (bS R).length
        | 2=>.agg (kc.map U8).toArray
        | 3=>N kn
        | 4=>.agg (kq.map U8).toArray
        | 5=>.agg (c6 kp1).toArray
        | 6=>.slice (some ⟨y.1,0,none⟩) 1 1
        | 7=>aA (some y) (bS R++[c6 kp1]).length
        | 8=>Pt b5 165
        | _=>N 0
      let Ms : Nat→(Nat × Nat)→List aJ:=fun j y=>match j with
        | 2=>[⟨b6,Row 104 [(s.snd 32).v],true⟩]
        | 3=>[⟨b6,Row 104 [((s.snd 32).snd 4).v],true⟩]
        | 4=>[⟨b6,Row 104 [(((s.snd 32).snd 4).snd 32).v],true⟩]
        | 6=>[⟨y.1,Row 57 (c6 kp1),true⟩]
        | 7=>mH 57 65 (some y) (bS R++[c6 kp1])
        | 9=>[⟨b5,Row 26 (sec { D with kept:=R++[kp1] } (aA (some y) (bS R++[c6 kp1]).length)),true⟩]
        | 10=>[⟨b6,Row 104 [s.v],true⟩]
        | 11=>[⟨b5,Row 26 (sec { D with kept:=R } (aA q i)),true⟩]
        | 12=>fD q R
        | 13=>[⟨b4,Row 26 (sec aD aq),true⟩]
        | _=>[]
      refine JC.grow (g:=⟨[(0,z.v),(1,N n),(4,Pt b4 0),(5,Pt b5 0),(6,Pt b6 0),(50,N n),(51,N i)],14,vs,Ms,(fun j=>match j with | 1=>[(0,53)] | 5=>[(2,55),(3,56),(4,57)] | 6=>[(5,58)] | 7=>[(1,54),(6,59)] | 9=>[(8,61),(7,60)] | _=>[]),(fun j=>match j with | 1=>[11] | 2=>[10] | 3=>[2] | 4=>[3] | 7=>[6,12] | 9=>[11] | _=>[]),(fun j=>match j with | 2=>[10] | 3=>[2] | 4=>[3] | 7=>[6,12] | 9=>[11] | _=>[]),(fun j=>match j with | 9=>some 7 | _=>none)⟩) [] [4,9,7,13] iV (by repeat (first | exact aj.nil | refine aj.cons _ _ _ rfl ?_)) ?_ (by kernel_rfl) (by kernel_rfl) (by kernel_rfl) ?_ ?_
      · exact ax.refl _
      · refine ⟨?_,?_,?_,?_,?_,?_,?_,?_,?_,?_,trivial⟩
        · (intro xx EF MF Q kk;(try refine JL.bn rfl rfl ?_);exact JL.q (OQ.cw rfl rfl rfl (by decide) rfl) rfl (JL.nil (kk default nofun)))
        · (intro xx EF MF Q kk;(try refine JL.bn rfl rfl ?_);exact JL.q (OQ.load ef rfl .here hkp) rfl (JL.nil (kk default nofun)))
        · (intro xx EF MF Q kk;exact JL.pA (ι:=Unit) (vs:=[Pt b6 0]) (X:=[⟨b6,Row 104 [s.v],true⟩]) (M0:=MF) (fun _=>.agg (kc.map U8).toArray) (fun _=>[⟨b6,Row 104 [(s.snd 32).v],true⟩]) lQ rfl rfl (by simp) (by simp) (fun w' hw' hx'=>(ck1 w' _ hw' hx').mono fun e w2 ⟨g1,g2⟩=>⟨(),g1,g2⟩) fun _=>JL.nil (kk default nofun))
        · (intro xx EF MF Q kk;exact JL.pA (ι:=Unit) (vs:=[Pt b6 0]) (X:=[⟨b6,Row 104 [(s.snd 32).v],true⟩]) (M0:=MF) (fun _=>N kn) (fun _=>[⟨b6,Row 104 [((s.snd 32).snd 4).v],true⟩]) lR rfl rfl (by simp) (by simp) (fun w' hw' hx'=>(cn1 w' _ hw' hx').mono fun e w2 ⟨g1,g2⟩=>⟨(),g1,g2⟩) fun _=>JL.nil (kk default nofun))
        · (intro xx EF MF Q kk;exact JL.pA (ι:=Unit) (vs:=[Pt b6 0]) (X:=[⟨b6,Row 104 [((s.snd 32).snd 4).v],true⟩]) (M0:=MF) (fun _=>.agg (kq.map U8).toArray) (fun _=>[⟨b6,Row 104 [(((s.snd 32).snd 4).snd 32).v],true⟩]) lQ rfl rfl (by simp) (by simp) (fun w' hw' hx'=>(ck2 w' _ hw' hx').mono fun e w2 ⟨g1,g2⟩=>⟨(),g1,g2⟩) fun _=>JL.nil (kk default nofun))
        · (intro xx EF MF Q kk;(try refine JL.bn rfl rfl ?_);exact JL.q (OQ.dZ (cs:=c6 kp1) [0,1,2] [.tmp 55,.tmp 56,.tmp 57] (vs:=[.agg (kc.map U8).toArray,N kn,.agg (kq.map U8).toArray]) rfl rfl hkb) rfl (JL.nil (kk default nofun)))
        · (intro xx EF MF Q kk;exact JL.Er Tryd.underlying24 Ed rfl (by decide) (by decide) rfl hkl rfl fun b9 _=>JL.nil (kk (b9,0) nofun))
        · (intro xx EF MF Q kk;refine JL.jk (M':=⟨(xx 6).1,Row 57 (c6 kp1),true⟩::(mH 57 65 q (bS R)++MF)) (List.Perm.of_eq (Ac _ _ MF)) ?_;exact JL.vm (z:=.agg (c6 oN).toArray) (c:=c6 kp1) (L:=bS R) q Tryd.underlying24 Ed hqL rfl rfl hkl (fun v hv=>List.all_eq_true.1 hk1 v hv) rfl (by decide) (by omega) (by omega) rfl fun b9 cap9=>JL.nil (kk (b9,cap9) nofun))
        · (intro xx EF MF Q kk;(try refine JL.bn rfl rfl ?_);exact JL.q (OQ.cw rfl rfl rfl (by decide) rfl) rfl (JL.nil (kk default nofun)))
        · (intro xx EF MF Q kk;exact JL.aU (r:=sec { D with kept:=R } (aA q i)) (r':=sec { D with kept:=R++[kp1] } (aA (some (xx 7)) (bS R++[c6 kp1]).length)) (v:=aA (some (xx 7)) (bS R++[c6 kp1]).length) DI rfl rfl (dj _ _) (jE _ _) .here (by rw [hl166];decide) (hset _) (JL.nil (kk (xx 7) (fun k h=>by cases h;rfl))))
      · intro xx hx
        have e1:=hx 9 7 (by decide) rfl
        show JE _ _ _ _ _ [(0,z.v),(1,N n),(4,Pt b4 0),(5,Pt b5 0),(6,Pt b6 0),(50,N n),(51,N i)] (⟨b6,Row 104 [(((s.snd 32).snd 4).snd 32).v],true⟩::⟨b5,Row 26 (sec { D with kept:=R++[kp1] } (aA (some (xx 9)) (bS R++[c6 kp1]).length)),true⟩::(mH 57 65 (some (xx 7)) (bS R++[c6 kp1])++[⟨b4,Row 26 (sec aD aq),true⟩]))
        rw [e1]
        generalize xx 7=r
        clear hx e1 xx vs Ms
        rw [show bS R++[c6 kp1]=bS (R++[kp1]) by simp [bS],dM,show (R++[kp1]).length=i+1 by rw [List.length_append,hRl];rfl]
        repeat (first | refine JL.q (by first|(apply OQ.bH (a:=i) (b:=1);rfl;rfl;exact (by omega))|(apply OQ.move;rfl)) rfl ?_ | refine JC.region ?_ | refine JL.nil ?_ | refine JE.next ?_ | refine JE.az ?_)
        exact JE.again (ι:=Cu × Acc) (i:=(⟨i,s⟩,q)) (⟨i+1,((s.snd 32).snd 4).snd 32⟩,some r) ⟨hi',nofun,hso3,hl3⟩ (by dsimp only;omega) (by repeat (first | exact aj.nil | refine aj.cons _ _ _ rfl ?_)) (by dsimp only;rw [hnx];exact ax.refl _)
    have hi' : i=n:=by have h9 : ¬ i<n:=of_decide_eq_false hc;omega
    subst hi'
    clear hc hi
    have hke : fE i (z.l.drop 177)=(di z.l i).kept:=rfl
    have hokE:=qH (b:=z.l) (n:=i) hL
    rw [← hse]
    rw [hke]
    generalize di z.l i=sD at hokE
    have hlS:=au hokE (aA q i)
    repeat (first | refine JL.q (by (apply OQ.af (cs:=sec sD (aA q i));exact fL;exact dn;rfl;exact (.there .here);exact hlS;exact Row.all)) rfl ?_ | refine JC.seq ?_ | refine JC.region ?_ | refine JC.exit ?_ | refine JE.next ?_ | refine JE.aB ?_ | refine JE.aG ?_)
    refine JL.gj (M':=fD q sD.kept++[⟨b4,Row 26 (sec aD aq),true⟩]) (.drop _ _ _ (.drop _ _ _ (ax.refl _))) ?_
    refine JL.jk (M':=⟨b4,Row 26 (sec aD aq),true⟩::fD q sD.kept) (by exact List.perm_append_comm (l₂:=[_])) ?_
    refine JL.ag (cs:=sec sD (aA q i)) dn rfl rfl hlS (bA (dj _ _)) .here (au aC _) ?_
    repeat (first | refine JL.nil ?_ | refine JE.next ?_)
    refine JC.ret ?_
    skip
    exact JE.aM rfl (RV.av fL dn rfl .here hlS Row.all) fun w' hw=>⟨q,hq,rfl,hw.weak (.drop _ _ _ (ax.refl _))⟩
end
section
set_option maxRecDepth 10000
open Sl ec gE cV gB
open iZ (Bk)
theorem pR : aR Tryd.prog 18:=⟨_,Tryd.func18,rfl,by kernel_rfl⟩
theorem Gv {m : BitVec 64} {n : Nat} (hm : m.toNat=n) (hn : n<4294967296) : (177+m * 68 : BitVec 64).toNat=177+n * 68:=by
  rw [BitVec.toNat_add,BitVec.toNat_mul,hm]
  show (177+n * 68 % 18446744073709551616) % 18446744073709551616=_
  omega
set_option maxHeartbeats 64000000 in
theorem s7 (z : aT) (w : World) (hz : z.ok w) (hl : z.l.length≤7000) :
    Calls Tryd.prog 18 [z.v].toArray w fun e w'=>∃ r : Ao z.l,e=.returned (.tuple #[.agg (sec r.s (aA r.q r.s.kept.length)).toArray,N r.code])∧ah w [] (fD r.q r.s.kept) w':=by
  have hzl:=au aC aq
  have hlen : kH z.l=true→177≤z.l.length∧(z.l.getD 0 0).toNat≤3∧z.l.length=177+xq z.l * 68:=fun h=>by
    unfold kH at h
    simp only [Bool.and_eq_true,decide_eq_true_eq] at h
    exact ⟨h.1.1,h.1.2,h.2⟩
  refine enter (n:=35) Tryd.func18 rfl rfl rfl (ah.start w []) ?_
  repeat (first | refine JC.seq ?_ | refine JC.region ?_)
  refine JL.alloc qQ rfl fun b2 _=>?_
  by_cases h1 : z.l.length<177
  · repeat (first | refine JL.q (by first|(apply OQ.len (k:=z.l.length) (ad:=z.ad) (cap:=z.cap);exact Tryd.underlying27;rfl)|(apply OQ.xK (a:=z.l.length) (b:=177);rfl;rfl;exact h1)|(apply OQ.bV;rfl;rfl)|(apply OQ.move;rfl)|(apply OQ.assign;rfl)) rfl ?_ | refine JC.seq ?_ | refine JC.region ?_ | refine JL.nil ?_ | refine JE.next ?_ | refine JL.dJ rfl rfl rfl rfl ?_)
    refine JC.cond_true rfl rfl ?_
    repeat (first | refine JC.seq ?_ | refine JC.region ?_)
    refine JL.q (OQ.pure (v:=.agg (sec aD aq).toArray) rfl rfl (by kernel_rfl)) rfl ?_
    refine JL.ag (cs:=sec aD aq) dn rfl rfl hzl (bA rfl) .here (au aC _) ?_
    repeat (first | refine JL.q (by (apply OQ.assign;rfl)) rfl ?_ | refine JL.nil ?_ | refine JE.next ?_)
    refine JC.ret ?_
    repeat (refine JE.aN ?_)
    exact JE.fQ rfl (RV.av fL dn rfl .here hzl Row.all) (RV.tmp rfl) fun w' hw=>⟨⟨none,aD,3,aC,fun _=>rfl,.inr ⟨fun h=>by have:=hlen h.1;omega,rfl,rfl⟩⟩,rfl,hw.weak (.nil _)⟩
  obtain ⟨b,jz,eA,cA⟩:=hz.reads.at (by rw [List.length_map];omega)
  have g0:=cA 0 (U8 (z.l.getD 0 0)) (by rw [List.getElem?_map,List.getElem?_eq_getElem (by omega),List.getD_eq_getElem?_getD,List.getElem?_eq_getElem (by omega)];rfl)
  clear cA
  have hb : b<w.heap.size:=block_lt_of_cell g0
  obtain ⟨c0,hc0⟩ : ∃ c,z.l.getD 0 0=c:=⟨_,rfl⟩
  rw [hc0] at g0 hlen
  by_cases h2 : 3<c0.toNat
  · have h2d : decide ((3 : Int)<(c0.toNat : Int))=true:=decide_eq_true (by omega)
    repeat (first | refine JL.q (by first|(apply OQ.len (k:=z.l.length) (ad:=z.ad) (cap:=z.cap);exact Tryd.underlying27;rfl)|(apply OQ.gW (a:=z.l.length) (b:=177);rfl;rfl;exact h1)|(apply OQ.jr (s:=z) (b:=b) (j:=jz) (i:=0);exact eA;exact Tryd.underlying27;exact dH;rfl;rfl;exact (by omega))|(apply OQ.aL;exact om;rfl;exact hb;exact (by simp);exact g0)|(apply OQ.kU (a:=(c0.toNat : Int)) (b:=3);rfl;rfl;exact h2d)|(apply OQ.bG;rfl;rfl)|(apply OQ.move;rfl)|(apply OQ.assign;rfl)) rfl ?_ | refine JC.seq ?_ | refine JC.region ?_ | refine JL.nil ?_ | refine JE.next ?_ | refine JL.bn rfl rfl ?_)
    refine JC.cond_true rfl rfl ?_
    repeat (first | refine JC.seq ?_ | refine JC.region ?_)
    refine JL.q (OQ.pure (v:=.agg (sec aD aq).toArray) rfl rfl (by kernel_rfl)) rfl ?_
    refine JL.ag (cs:=sec aD aq) dn rfl rfl hzl (bA rfl) .here (au aC _) ?_
    repeat (first | refine JL.q (by (apply OQ.assign;rfl)) rfl ?_ | refine JL.nil ?_ | refine JE.next ?_)
    refine JC.ret ?_
    repeat (refine JE.aN ?_)
    exact JE.fQ rfl (RV.av fL dn rfl .here hzl Row.all) (RV.tmp rfl) fun w' hw=>⟨⟨none,aD,3,aC,fun _=>rfl,.inr ⟨fun h=>by have:=hlen h.1;omega,rfl,rfl⟩⟩,rfl,hw.weak (.nil _)⟩
  have h2d : decide ((3 : Int)<(c0.toNat : Int))=false:=decide_eq_false (by omega)
  repeat (first | refine JL.q (by first|(apply OQ.len (k:=z.l.length) (ad:=z.ad) (cap:=z.cap);exact Tryd.underlying27;rfl)|(apply OQ.gW (a:=z.l.length) (b:=177);rfl;rfl;exact h1)|(apply OQ.jr (s:=z) (b:=b) (j:=jz) (i:=0);exact eA;exact Tryd.underlying27;exact dH;rfl;rfl;exact (by omega))|(apply OQ.aL;exact om;rfl;exact hb;exact (by simp);exact g0)|(apply OQ.kU (a:=(c0.toNat : Int)) (b:=3);rfl;rfl;exact h2d)|(apply OQ.bG;rfl;rfl)|(apply OQ.move;rfl)|(apply OQ.assign;rfl)) rfl ?_ | refine JC.seq ?_ | refine JC.region ?_ | refine JL.nil ?_ | refine JE.next ?_ | refine JL.bn rfl rfl ?_)
  refine JC.cond_false rfl rfl ?_
  have v1:=Cq (s:=z) (lo:=173) (k:=4) (hi:=177) (by omega) rfl
  have o1:=fun (w' : World) (h : z.ok w')=>zX h (lo:=173) (k:=4) (by omega)
  have hl4 : ((z.l.drop 173).take 4).length=4:=by rw [List.length_take,List.length_drop];omega
  have c1:=fun (w' : World) (h : z.ok w')=>mw _ w' (o1 w' h) (by show ((z.l.drop 173).take 4).length≤_;omega)
  rw [v1] at c1
  dsimp only at c1
  have hcap:=hz.len
  have hn:=fF.l9 (l:=(z.l.drop 173).take 4) (by omega)
  have hlt:=fF.qR (l:=(z.l.drop 173).take 4) (by omega)
  rw [hl4] at hlt
  have hdn : xq z.l=fF.bP ((z.l.drop 173).take 4):=rfl
  rw [hdn] at hlen
  obtain ⟨n,hnn⟩ : ∃ n,fF.bP ((z.l.drop 173).take 4)=n:=⟨_,rfl⟩
  rw [hnn] at hn hlt hlen hdn
  generalize fF.mZ ((z.l.drop 173).take 4)=m at c1 hn
  have hn32 : n<4294967296:=hlt
  have hw1:=Gv hn hn32
  have hw2 : (BitVec.ofNat 64 z.l.length).toNat=z.l.length:=by rw [BitVec.toNat_ofNat];omega
  by_cases h4 : z.l.length=177+n * 68
  rotate_left
  · have h4d : decide (((BitVec.ofNat 64 z.l.length).toNat : Int)=((177+m * 68 : BitVec 64).toNat : Int))=false:=decide_eq_false (by rw [hw1,hw2];omega)
    repeat (first | refine JL.q (by first|(apply OQ.len (k:=z.l.length) (ad:=z.ad) (cap:=z.cap);exact Tryd.underlying27;rfl)|(apply OQ.gZ (sz:=1) (lo:=173) (hi:=177) (len:=z.l.length) (cap:=z.cap) (ad:=z.ad);exact Tryd.underlying27;exact dH;rfl;rfl;rfl;exact (by decide);exact (by omega))|(apply OQ.an (vs:=[.slice (if z.cap=173 then z.ad else z.ad.map (·.add (173 * 1))) (177 - 173) (z.cap - 173)]);exact gF;rfl;exact (fun w' hw'=>c1 w' (hz.holds hw' rfl)))|(apply OQ.gf (a:=z.l.length);exact Tryd.underlying3;exact Tryd.underlying76;rfl)|(apply OQ.jR (a:=m) (b:=68);rfl;rfl)|(apply OQ.gU (a:=177) (b:=m * 68);rfl;rfl)|(apply OQ.Aj (a:=((BitVec.ofNat 64 z.l.length).toNat : Int)) (b:=((177+m * 68 : BitVec 64).toNat : Int));rfl;rfl;exact h4d)|(apply OQ.move;rfl)|(apply OQ.assign;rfl)) rfl ?_ | refine JC.seq ?_ | refine JC.region ?_ | refine JC.skip ?_ | refine JL.nil ?_ | refine JE.next ?_)
    refine JC.cond_true rfl rfl ?_
    repeat (first | refine JC.seq ?_ | refine JC.region ?_)
    refine JL.q (OQ.pure (v:=.agg (sec aD aq).toArray) rfl rfl (by kernel_rfl)) rfl ?_
    refine JL.ag (cs:=sec aD aq) dn rfl rfl hzl (bA rfl) .here (au aC _) ?_
    repeat (first | refine JL.q (by (apply OQ.assign;rfl)) rfl ?_ | refine JL.nil ?_ | refine JE.next ?_)
    refine JC.ret ?_
    repeat (refine JE.aN ?_)
    exact JE.fQ rfl (RV.av fL dn rfl .here hzl Row.all) (RV.tmp rfl) fun w' hw=>⟨⟨none,aD,3,aC,fun _=>rfl,.inr ⟨fun h=>by have:=hlen h.1;omega,rfl,rfl⟩⟩,rfl,hw.weak (.nil _)⟩
  have h4d : decide (((BitVec.ofNat 64 z.l.length).toNat : Int)=((177+m * 68 : BitVec 64).toNat : Int))=true:=decide_eq_true (by rw [hw1,hw2];omega)
  repeat (first | refine JL.q (by first|(apply OQ.len (k:=z.l.length) (ad:=z.ad) (cap:=z.cap);exact Tryd.underlying27;rfl)|(apply OQ.gZ (sz:=1) (lo:=173) (hi:=177) (len:=z.l.length) (cap:=z.cap) (ad:=z.ad);exact Tryd.underlying27;exact dH;rfl;rfl;rfl;exact (by decide);exact (by omega))|(apply OQ.an (vs:=[.slice (if z.cap=173 then z.ad else z.ad.map (·.add (173 * 1))) (177 - 173) (z.cap - 173)]);exact gF;rfl;exact (fun w' hw'=>c1 w' (hz.holds hw' rfl)))|(apply OQ.gf (a:=z.l.length);exact Tryd.underlying3;exact Tryd.underlying76;rfl)|(apply OQ.jR (a:=m) (b:=68);rfl;rfl)|(apply OQ.gU (a:=177) (b:=m * 68);rfl;rfl)|(apply OQ.Aj (a:=((BitVec.ofNat 64 z.l.length).toNat : Int)) (b:=((177+m * 68 : BitVec 64).toNat : Int));rfl;rfl;exact h4d)|(apply OQ.move;rfl)|(apply OQ.assign;rfl)) rfl ?_ | refine JC.seq ?_ | refine JC.region ?_ | refine JC.skip ?_ | refine JL.nil ?_ | refine JE.next ?_)
  refine JC.cond_false rfl rfl ?_
  have hL : z.l.length=177+n * 68:=h4
  have hlok : kH z.l=true:=by
    unfold kH
    have h9 : fF.bP (mid z.l 173 4)=n:=hnn
    rw [h9,hc0,decide_eq_true (show 177≤z.l.length by omega),decide_eq_true (show c0.toNat≤3 by omega),decide_eq_true hL]
    rfl
  clear h4d h2d hlen c1 o1 v1 hw1 hw2
  have hok:=qH (b:=z.l) (n:=n) hL
  have hke : (di z.l n).kept.length=n:=iC n _
  have cD : ∀ (w' : World) (M : List aJ),ah w [] M w'→Calls Tryd.prog 42 [z.v,N n].toArray w' fun e w''=>∃ q : {q : Acc // q=none→n=0},e=.returned (.agg (sec (di z.l n) (aA q.1 n)).toArray)∧ah w' [] (fD q.1 (di z.l n).kept) w'':=fun w' M hw'=>(Ah z n w' (hz.holds hw' rfl) hL (by omega) (by rw [hc0];omega)).mono fun e w'' ⟨q,h1,h2,h3⟩=>⟨⟨q,h1⟩,h2,h3⟩
  obtain ⟨sD,hsD⟩ : ∃ sD,di z.l n=sD:=⟨_,rfl⟩
  rw [hsD] at hok hke cD
  repeat (first | refine JL.q (by first|(apply OQ.to;exact (OQ.jS (a:=m) Tryd.underlying76 Tryd.underlying3 rfl (by omega));exact (congrArg N hn))|(apply OQ.move;rfl)) rfl ?_ | refine JC.seq ?_ | refine JC.region ?_ | refine JC.skip ?_ | refine JE.next ?_)
  refine JL.dK (ι:={q : Acc // q=none→n=0}) (vs:=[z.v,N n]) (fun q=>.agg (sec sD (aA q.1 n)).toArray) (fun q=>fD q.1 sD.kept) xu rfl rfl (fun q=>jD _ _) (fun w' hw'=>cD w' _ hw') ?_
  rintro ⟨q,hq⟩
  dsimp only
  have hlS:=au hok (aA q n)
  have hoo : (sec sD (aA q n)).all Value.oneCell'=true:=bA (dj _ _)
  skip
  refine JL.alloc qQ rfl fun b5 _=>?_
  refine JL.ag (cs:=sec sD (aA q n)) dn rfl rfl hlS hoo .here (au aC _) ?_
  have hkn : q=none→sD.kept=[]:=fun e=>List.length_eq_zero_iff.1 (by rw [hke];exact hq e)
  obtain ⟨K,hK⟩ : ∃ K : fX,lJ q sD.kept=K:=⟨_,rfl⟩
  have hKl : K.l=sD.kept:=by rw [← hK];exact lN hkn
  have hKv : K.v=aA q n:=by rw [← hK,lK,hke]
  have hvi : aA q n=aA q sD.kept.length:=by rw [hke]
  have hKo : ∀ (w' : World) (A : List aJ),ah w [] (A++(fD q sD.kept++[⟨b2,Row 26 (sec aD aq),true⟩])) w'→K.ok w':=fun w' A hw'=>hK ▸ iR hok.kept (hw'.weak (iG _ _))
  obtain ⟨r,hr⟩ : ∃ r : Bool,r=true↔bw (bC.z sD):=by classical exact ⟨decide (bw (bC.z sD)),by simp⟩
  have cR : ∀ w' : World,ah w [] ([⟨b5,Row 26 (sec sD (aA q n)),true⟩]++(fD q sD.kept++[⟨b2,Row 26 (sec aD aq),true⟩])) w'→Calls Tryd.prog 37 [.agg (sec sD (aA q n)).toArray].toArray w' fun e w''=>e=.returned (.bool r)∧Ext w' w'':=fun w' hw'=>by
    have:=(Aa sD K hok hKl w' (hKo w' _ hw')).mono fun e w'' ⟨⟨b,hb⟩,e1,h⟩=>(⟨by rw [e1];congr 2;exact Bool.eq_iff_iff.2 (hb.trans hr.symm),h⟩ : e=Ending.returned (.bool r)∧Ext w' w'')
    rwa [hKv] at this
  cases r
  · have hno : ¬ BL z.l:=fun h=>absurd (hr.2 (by have h2:=h.2;rw [hdn,hsD] at h2;exact h2)) (by decide)
    repeat (first | refine JL.q (by first|(apply OQ.af (cs:=sec sD (aA q n));exact fL;exact dn;rfl;exact .here;exact hlS;exact Row.all)|(apply OQ.an (vs:=[.agg (sec sD (aA q n)).toArray]);exact iS;rfl;exact cR)) rfl ?_ | refine JC.seq ?_ | refine JC.region ?_ | refine JL.nil ?_ | refine JE.next ?_)
    refine JC.cond_false rfl rfl ?_
    repeat (first | refine JC.seq ?_ | refine JC.region ?_ | refine JC.skip ?_ | refine JE.next ?_)
    refine JL.gj (M':=[⟨b2,Row 26 (sec aD aq),true⟩]) (.drop _ _ _ (iG _ _)) ?_
    refine JL.q (OQ.pure (v:=.agg (sec aD aq).toArray) rfl rfl (by kernel_rfl)) rfl ?_
    refine JL.ag (cs:=sec aD aq) dn rfl rfl hzl (bA rfl) .here (au aC _) ?_
    repeat (first | refine JL.q (by (apply OQ.assign;rfl)) rfl ?_ | refine JL.nil ?_ | refine JE.next ?_)
    refine JC.ret ?_
    skip
    exact JE.fQ rfl (RV.av fL dn rfl .here hzl Row.all) (RV.tmp rfl) fun w' hw=>⟨⟨none,aD,3,aC,fun _=>rfl,.inr ⟨hno,rfl,rfl⟩⟩,rfl,hw.weak (.nil _)⟩
  have hrz:=hr.1 rfl
  repeat (first | refine JL.q (by first|(apply OQ.af (cs:=sec sD (aA q n));exact fL;exact dn;rfl;exact .here;exact hlS;exact Row.all)|(apply OQ.an (vs:=[.agg (sec sD (aA q n)).toArray]);exact iS;rfl;exact cR)) rfl ?_ | refine JC.seq ?_ | refine JC.region ?_ | refine JL.nil ?_ | refine JE.next ?_)
  refine JC.cond_true rfl rfl ?_
  repeat (first | refine JL.q (by (apply OQ.af (cs:=sec sD (aA q n));exact fL;exact dn;rfl;exact .here;exact hlS;exact Row.all)) rfl ?_ | refine JC.seq ?_ | refine JC.region ?_)
  refine JL.gj (M':=fD q sD.kept++[⟨b2,Row 26 (sec aD aq),true⟩]) (.drop _ _ _ (ax.refl _)) ?_
  refine JL.jk (M':=⟨b2,Row 26 (sec aD aq),true⟩::fD q sD.kept) (by exact List.perm_append_comm (l₂:=[_])) ?_
  refine JL.ag (cs:=sec sD (aA q n)) dn rfl rfl hlS hoo .here (au aC _) ?_
  repeat (first | refine JL.q (by (apply OQ.assign;rfl)) rfl ?_ | refine JL.nil ?_ | refine JE.next ?_)
  refine JC.ret ?_
  repeat (refine JE.aN ?_)
  exact JE.fQ rfl (RV.av fL dn rfl .here hlS Row.all) (RV.tmp rfl) fun w' hw=>⟨⟨q,sD,0,hok,hkn,.inl ⟨⟨hlok,by rw [hdn,hsD];exact hrz⟩,by rw [hdn,hsD],rfl⟩⟩,by dsimp only;rw [hvi];rfl,hw.weak (.drop _ _ _ (ax.refl _))⟩
end
section
set_option maxRecDepth 10000
open Sl ec gE cV gB
open iZ (Bk)
theorem Ao.same {b : Bk} (r1 r2 : Ao b) : r1.s=r2.s∧r1.code=r2.code:=by
  rcases r1.is with ⟨h1,e1,c1⟩ | ⟨h1,e1,c1⟩ <;> rcases r2.is with ⟨h2,e2,c2⟩ | ⟨h2,e2,c2⟩
  · exact ⟨e1.trans e2.symm,c1.trans c2.symm⟩
  · exact absurd h1 h2
  · exact absurd h2 h1
  · exact ⟨e1.trans e2.symm,c1.trans c2.symm⟩
set_option maxHeartbeats 64000000 in
theorem lZ (a : DO) (y : aT) (w : World) (ha : a.ok w) (hy : y.ok w) (hG : fI w) (hQ : GQ w) :
    Calls Tryd.prog 4 [a.v,y.v].toArray w fun e w'=>e=.returned (.bool true)∧Ext w w':=by
  obtain ⟨s,k⟩:=a
  obtain ⟨hs,he,hk⟩:=ha
  dsimp only at hs he hk
  have hn:=vV hs k.v
  have hkp2 : ∀ o,Row 26 (dr s k.v) o→cellAt o 165=some k.v:=Row.cell (od hs _)
  have csp:=fun (w' : World) (hG' : fI w') (hQ' : GQ w')=>qK w' hG' hQ'
  refine enter (n:=66) Tryd.func4 rfl rfl rfl (ah.start w []) ?_
  repeat (first | refine JC.seq ?_ | refine JC.region ?_)
  refine JL.box (r:=dr s k.v) rfl rfl rfl fun b2 _=>?_
  repeat (first | refine JL.q (by first|(apply OQ.an (vs:=[]);exact oC;rfl;exact (fun w' hw'=>csp w' (hG.aH hw'.aH (by simp)) (hQ.aH hw'.aH (by simp))))|(apply OQ.not;rfl)|(apply OQ.assign;rfl)) rfl ?_ | refine JC.seq ?_ | refine JC.region ?_ | refine JL.nil ?_ | refine JE.next ?_)
  refine JC.cond_false rfl rfl ?_
  by_cases g1 : 100<k.l.length
  · have g1d : decide ((100 : Int)<(k.l.length : Int))=true:=decide_eq_true (by omega)
    repeat (first | refine JL.q (by first|(apply OQ.load;exact ef;rfl;exact .here;exact hkp2)|(apply OQ.len (k:=k.l.length) (ad:=k.ad) (cap:=k.cap);exact Tryd.underlying24;rfl)|(apply OQ.kU (a:=(k.l.length : Int)) (b:=100);rfl;rfl;exact g1d)|(apply OQ.bV;rfl;rfl)|(apply OQ.move;rfl)|(apply OQ.cw;rfl;rfl;rfl;exact (by decide);rfl)) rfl ?_ | refine JC.seq ?_ | refine JC.region ?_ | refine JC.skip ?_ | refine JL.nil ?_ | refine JE.next ?_ | refine JL.dJ rfl rfl rfl rfl ?_)
    refine JC.cond_true rfl rfl ?_
    repeat (first | refine JL.q (by (apply OQ.assign;rfl)) rfl ?_ | refine JC.seq ?_ | refine JC.region ?_ | refine JL.nil ?_ | refine JE.next ?_)
    refine JC.ret ?_
    repeat (refine JE.aN ?_)
    exact JE.aM rfl (RV.tmp rfl) fun w' hw=>⟨rfl,hw.aH⟩
  have g1d : decide ((100 : Int)<(k.l.length : Int))=false:=decide_eq_false (by omega)
  by_cases g2 : 7000<y.l.length
  · have g2d : decide ((7000 : Int)<(y.l.length : Int))=true:=decide_eq_true (by omega)
    repeat (first | refine JL.q (by first|(apply OQ.load;exact ef;rfl;exact .here;exact hkp2)|(apply OQ.len (k:=k.l.length) (ad:=k.ad) (cap:=k.cap);exact Tryd.underlying24;rfl)|(apply OQ.len (k:=y.l.length) (ad:=y.ad) (cap:=y.cap);exact Tryd.underlying27;rfl)|(apply OQ.kU (a:=(k.l.length : Int)) (b:=100);rfl;rfl;exact g1d)|(apply OQ.kU (a:=(y.l.length : Int)) (b:=7000);rfl;rfl;exact g2d)|(apply OQ.bG;rfl;rfl)|(apply OQ.move;rfl)|(apply OQ.cw;rfl;rfl;rfl;exact (by decide);rfl)) rfl ?_ | refine JC.seq ?_ | refine JC.region ?_ | refine JC.skip ?_ | refine JL.nil ?_ | refine JE.next ?_ | refine JL.bn rfl rfl ?_)
    refine JC.cond_true rfl rfl ?_
    repeat (first | refine JL.q (by (apply OQ.assign;rfl)) rfl ?_ | refine JC.seq ?_ | refine JC.region ?_ | refine JL.nil ?_ | refine JE.next ?_)
    refine JC.ret ?_
    repeat (refine JE.aN ?_)
    exact JE.aM rfl (RV.tmp rfl) fun w' hw=>⟨rfl,hw.aH⟩
  have g2d : decide ((7000 : Int)<(y.l.length : Int))=false:=decide_eq_false (by omega)
  repeat (first | refine JL.q (by first|(apply OQ.load;exact ef;rfl;exact .here;exact hkp2)|(apply OQ.len (k:=k.l.length) (ad:=k.ad) (cap:=k.cap);exact Tryd.underlying24;rfl)|(apply OQ.len (k:=y.l.length) (ad:=y.ad) (cap:=y.cap);exact Tryd.underlying27;rfl)|(apply OQ.kU (a:=(k.l.length : Int)) (b:=100);rfl;rfl;exact g1d)|(apply OQ.kU (a:=(y.l.length : Int)) (b:=7000);rfl;rfl;exact g2d)|(apply OQ.bG;rfl;rfl)|(apply OQ.move;rfl)|(apply OQ.cw;rfl;rfl;rfl;exact (by decide);rfl)) rfl ?_ | refine JC.seq ?_ | refine JC.region ?_ | refine JC.skip ?_ | refine JL.nil ?_ | refine JE.next ?_ | refine JL.bn rfl rfl ?_)
  refine JC.cond_false rfl rfl ?_
  have hyl : y.l.length≤7000:=by omega
  by_cases hR : bw s
  · have cr : ∀ w' : World,k.ok w'→Calls Tryd.prog 8 [.agg (dr s k.v).toArray].toArray w' fun e w''=>e=.returned (.bool true)∧Ext w' w'':=fun w' hk'=>(jH s k hs he w' hk').mono fun e w'' ⟨⟨b,hb⟩,e1,h⟩=>⟨e1.trans (congrArg (fun b=>Ending.returned (.bool b)) (hb.2 hR)),h⟩
    have hcl : (bI s.nat).length<4611686018427387904:=by
      rw [pJ (fY.jG hs),fY.qF]
      have:=hR.len
      omega
    repeat (first | refine JL.q (by (apply OQ.af (cs:=dr s k.v);exact fL;exact dn;rfl;exact .here;exact hn;exact Row.all)) rfl ?_ | refine JC.seq ?_ | refine JC.region ?_ | refine JC.skip ?_ | refine JE.next ?_)
    refine JL.dK (ι:=Nat × Nat) (vs:=[.agg (dr s k.v).toArray]) (fun q=>.tuple #[aA (some q) (bI s.nat).length,N 0]) (fun q=>aZ 5 (some q) ((bI s.nat).map U8)) pM rfl rfl (fun q=>eT _ _ _) (fun w' hw'=>zV s k hs he hR w' (hk.gK hw' rfl)) ?_
    intro q
    repeat (refine JL.q (by first|(apply OQ.extract;rfl;rfl)|(apply OQ.move;rfl)|(apply OQ.assign;rfl)) rfl ?_)
    refine JL.nil (JE.next ?_)
    refine JC.mid (ι:=Unit) (fun _=>[(1,y.v)]) (fun _=>[]) (fun _=>True) ?_ ?_
    · repeat (first | refine JL.q (by first|(apply OQ.af (cs:=dr s k.v);exact fL;exact dn;rfl;exact (.there .here);exact hn;exact Row.all)|(apply OQ.an (vs:=[.agg (dr s k.v).toArray]);exact fN;rfl;exact (fun w' hw'=>cr w' (hk.gK hw' rfl)))|(apply OQ.not;rfl)) rfl ?_ | refine JC.seq ?_ | refine JC.region ?_ | refine JL.nil ?_ | refine JE.next ?_)
      refine JC.cond_false rfl rfl ?_
      repeat (first | refine JL.q (by first|(apply OQ.af (cs:=dr s k.v);exact fL;exact dn;rfl;exact (.there .here);exact hn;exact Row.all)|(apply OQ.Aj (a:=0) (b:=0);rfl;rfl;rfl)|(apply OQ.move;rfl)) rfl ?_ | refine JC.seq ?_ | refine JC.region ?_ | refine JL.bn rfl rfl ?_)
      refine JL.dK (ι:=Nat × Nat) (vs:=[.agg (dr s k.v).toArray]) (fun q=>aA (some q) (bI s.nat).length) (fun q=>aZ 5 (some q) ((bI s.nat).map U8)) pO rfl rfl (fun q=>eT _ _ _) (fun w' hw'=>DZ s k hs he hR w' (hk.gK hw' rfl)) ?_
      intro q2
      have cS : ∀ w' : World,ah w [] (aZ 5 (some q2) ((bI s.nat).map U8)++(aZ 5 (some q) ((bI s.nat).map U8)++[⟨b2,Row 26 (dr s k.v),true⟩])) w'→Calls Tryd.prog 12 [aA (some q) (bI s.nat).length,aA (some q2) (bI s.nat).length].toArray w' fun e w''=>e=.returned (.bool true)∧Ext w' w'':=fun w' hw'=>x8 (a:=⟨some ⟨q.1,0,none⟩,q.2,bI s.nat⟩) (b:=⟨some ⟨q2.1,0,none⟩,q2.2,bI s.nat⟩) rfl rfl (dN hw' (.there .here)) (dN hw' .here) hcl rfl
      repeat (first | refine JL.q (by first|(apply OQ.an (vs:=[aA (some q) (bI s.nat).length,aA (some q2) (bI s.nat).length]);exact oP;rfl;exact cS)|(apply OQ.not;rfl)|(apply OQ.bG;rfl;rfl)) rfl ?_ | refine JL.nil ?_ | refine JE.next ?_ | refine JL.bn rfl rfl ?_)
      refine JC.cond_false rfl rfl ?_
      repeat (refine JC.skip ?_)
      exact JE.mid () trivial (by repeat (first | exact aj.nil | refine aj.cons _ _ _ rfl ?_)) (.nil _)
    intro _ _
    repeat (first | refine JC.seq ?_ | refine JC.region ?_)
    refine JL.BZ Tryd.underlying27 qN rfl fun b6 _=>?_
    repeat (refine JL.q (by (apply OQ.move;rfl)) rfl ?_)
    refine JL.append (cs:=y.l.map U8) (m:=y.l.length) (ad:=y.ad) (sc:=y.cap) (fun b' cap'=>[⟨b',Sl.cJ 5 1 (0+y.l.length) cap' ([]++y.l.map U8),true⟩]) Tryd.underlying27 qN rfl rfl (by intro _ _;repeat (first | exact c9.here | apply c9.there)) (by rw [List.length_map,Nat.mul_one]) (fun w' hw'=>(hy.holds hw' rfl).reads) (fun v hv=>by obtain ⟨q,_,rfl⟩:=List.mem_map.1 hv;rfl) rfl (by decide) (by omega) (by omega) rfl fun b7 c7=>?_
    rw [Nat.zero_add,List.nil_append]
    skip
    refine JL.dK (ι:=Ao y.l) (vs:=[.slice (some ⟨b7,0,none⟩) y.l.length c7]) (fun r=>.tuple #[.agg (sec r.s (aA r.q r.s.kept.length)).toArray,N r.code]) (fun r=>fD r.q r.s.kept) pR rfl rfl (fun r=>jD _ _) (fun w' hw'=>s7 ⟨some ⟨b7,0,none⟩,c7,y.l⟩ w' (dN hw' .here) hyl) ?_
    intro r1
    have hl1:=au r1.ok (aA r1.q r1.s.kept.length)
    repeat (refine JL.q (by first|(apply OQ.extract;rfl;rfl)|(apply OQ.move;rfl)) rfl ?_)
    refine JL.alloc qQ rfl fun b8 _=>?_
    refine JL.ag (cs:=sec r1.s (aA r1.q r1.s.kept.length)) dn rfl rfl hl1 (bA (dj _ _)) .here (au aC _) ?_
    repeat (first | refine JL.q (by first|(apply OQ.move;rfl)|(apply OQ.assign;rfl)) rfl ?_ | refine JC.seq ?_ | refine JC.region ?_ | refine JL.nil ?_ | refine JE.next ?_)
    refine JL.dK (ι:=Ao y.l) (vs:=[y.v]) (fun r=>.tuple #[.agg (sec r.s (aA r.q r.s.kept.length)).toArray,N r.code]) (fun r=>fD r.q r.s.kept) pQ rfl rfl (fun r=>jD _ _) (fun w' hw'=>s6 y w' (hy.holds hw' rfl) hyl) ?_
    intro r2
    have hl2:=au r2.ok (aA r2.q r2.s.kept.length)
    repeat (refine JL.q (by first|(apply OQ.extract;rfl;rfl)|(apply OQ.move;rfl)) rfl ?_)
    refine JL.alloc qQ rfl fun b9 _=>?_
    refine JL.ag (cs:=sec r2.s (aA r2.q r2.s.kept.length)) dn rfl rfl hl2 (bA (dj _ _)) .here (au aC _) ?_
    obtain ⟨hss,hcc⟩:=Ao.same r1 r2
    have hko : r1.s.kept.length<9223372036854775807:=by
      rcases r1.is with ⟨h,e,_⟩ | ⟨_,e,_⟩
      · rw [e]
        have:=h.2.len
        unfold bC.z at this
        dsimp only at this
        rw [List.length_map] at this
        omega
      · rw [e];decide
    have h8 : decide ((r1.code : Int)=(r2.code : Int))=true:=decide_eq_true (by rw [hcc])
    have cM : ∀ w' : World,ah w [] (⟨b9,Row 26 (sec r2.s (aA r2.q r2.s.kept.length)),true⟩::(fD r2.q r2.s.kept++(⟨b8,Row 26 (sec r1.s (aA r1.q r1.s.kept.length)),true⟩::(fD r1.q r1.s.kept++[⟨b7,Sl.cJ 5 1 y.l.length c7 (y.l.map U8),true⟩])))) w'→Calls Tryd.prog 11 [.agg (sec r1.s (aA r1.q r1.s.kept.length)).toArray,.agg (sec r2.s (aA r2.q r2.s.kept.length)).toArray].toArray w' fun e w''=>e=.returned (.bool true)∧Ext w' w'':=fun w' hw'=>by
      have k1 : (lJ r1.q r1.s.kept).ok w':=iR r1.ok.kept (hw'.weak (.drop _ _ _ (rA _ (.drop _ _ _ (ax.refl _)))))
      have k2 : (lJ r2.q r2.s.kept).ok w':=iR r2.ok.kept (hw'.weak (.drop _ _ _ (ax.refl _)))
      have:=mD r1.s (lJ r1.q r1.s.kept) (lJ r2.q r2.s.kept) r1.ok w' k1 k2 (lN r1.nil) ((lN r2.nil).trans (by rw [hss])) hko
      rw [lK,lK] at this
      have e2 : sec r2.s (aA r2.q r2.s.kept.length)=sec r1.s (aA r2.q r2.s.kept.length):=by rw [hss]
      rw [e2]
      exact this
    repeat (first | refine JL.q (by first|(apply OQ.D9 (a:=(r1.code : Int)) (b:=(r2.code : Int));rfl;rfl;exact h8)|(apply OQ.af (cs:=sec r1.s (aA r1.q r1.s.kept.length));exact fL;exact dn;rfl;exact (.there (Aw .here));exact hl1;exact Row.all)|(apply OQ.af (cs:=sec r2.s (aA r2.q r2.s.kept.length));exact fL;exact dn;rfl;exact .here;exact hl2;exact Row.all)|(apply OQ.an (vs:=[.agg (sec r1.s (aA r1.q r1.s.kept.length)).toArray,.agg (sec r2.s (aA r2.q r2.s.kept.length)).toArray]);exact mC;rfl;exact cM)|(apply OQ.bV;rfl;rfl)|(apply OQ.move;rfl)|(apply OQ.assign;rfl)) rfl ?_ | refine JC.seq ?_ | refine JC.region ?_ | refine JL.nil ?_ | refine JE.next ?_ | refine JL.bn rfl rfl ?_)
    refine JC.ret ?_
    skip
    exact JE.aM rfl (RV.tmp rfl) fun w' hw=>⟨rfl,hw.aH⟩
  have cr : ∀ w' : World,k.ok w'→Calls Tryd.prog 8 [.agg (dr s k.v).toArray].toArray w' fun e w''=>e=.returned (.bool false)∧Ext w' w'':=fun w' hk'=>(jH s k hs he w' hk').mono fun e w'' ⟨⟨b,hb⟩,e1,h⟩=>⟨by
    have : b=false:=by
      cases b
      · rfl
      · exact absurd (hb.1 rfl) hR
    exact e1.trans (congrArg (fun b=>Ending.returned (.bool b)) this),h⟩
  refine JC.skip (JE.next ?_)
  refine JC.seq (JC.region ?_)
  repeat (refine JL.q (by first|(apply OQ.af (cs:=dr s k.v);exact fL;exact dn;rfl;exact .here;exact hn;exact Row.all)|(apply OQ.an (v:=.tuple #[.slice none 0 0,N 1]) (vs:=[.agg (dr s k.v).toArray]);exact pM;rfl;exact (fun w' hw'=>BJ s k hs he hR w' (hk.gK hw' rfl)))|(apply OQ.extract;rfl;rfl)|(apply OQ.move;rfl)|(apply OQ.assign;rfl)) rfl ?_)
  refine JL.nil (JE.next ?_)
  refine JC.mid (ι:=Unit) (fun _=>[(1,y.v)]) (fun _=>[]) (fun _=>True) ?_ ?_
  · repeat (first | refine JL.q (by first|(apply OQ.af (cs:=dr s k.v);exact fL;exact dn;rfl;exact .here;exact hn;exact Row.all)|(apply OQ.an (vs:=[.agg (dr s k.v).toArray]);exact fN;rfl;exact (fun w' hw'=>cr w' (hk.gK hw' rfl)))|(apply OQ.not;rfl)) rfl ?_ | refine JC.seq ?_ | refine JC.region ?_ | refine JL.nil ?_ | refine JE.next ?_)
    refine JC.cond_true rfl rfl ?_
    repeat (first | refine JL.q (by first|(apply OQ.Aj (a:=1) (b:=1);rfl;rfl;rfl)|(apply OQ.Aj (a:=0) (b:=0);rfl;rfl;rfl)|(apply OQ.len (k:=0) (ad:=none) (cap:=0);exact Tryd.underlying27;rfl)|(apply OQ.bG;rfl;rfl)|(apply OQ.move;rfl)) rfl ?_ | refine JC.seq ?_ | refine JC.region ?_ | refine JL.nil ?_ | refine JE.next ?_ | refine JL.bn rfl rfl ?_)
    refine JC.cond_false rfl rfl ?_
    repeat (refine JC.skip ?_)
    exact JE.mid () trivial (by repeat (first | exact aj.nil | refine aj.cons _ _ _ rfl ?_)) (.nil _)
  intro _ _
  repeat (first | refine JC.seq ?_ | refine JC.region ?_)
  refine JL.BZ Tryd.underlying27 qN rfl fun b6 _=>?_
  repeat (refine JL.q (by (apply OQ.move;rfl)) rfl ?_)
  refine JL.append (cs:=y.l.map U8) (m:=y.l.length) (ad:=y.ad) (sc:=y.cap) (fun b' cap'=>[⟨b',Sl.cJ 5 1 (0+y.l.length) cap' ([]++y.l.map U8),true⟩]) Tryd.underlying27 qN rfl rfl (by intro _ _;repeat (first | exact c9.here | apply c9.there)) (by rw [List.length_map,Nat.mul_one]) (fun w' hw'=>(hy.holds hw' rfl).reads) (fun v hv=>by obtain ⟨q,_,rfl⟩:=List.mem_map.1 hv;rfl) rfl (by decide) (by omega) (by omega) rfl fun b7 c7=>?_
  rw [Nat.zero_add,List.nil_append]
  skip
  refine JL.dK (ι:=Ao y.l) (vs:=[.slice (some ⟨b7,0,none⟩) y.l.length c7]) (fun r=>.tuple #[.agg (sec r.s (aA r.q r.s.kept.length)).toArray,N r.code]) (fun r=>fD r.q r.s.kept) pR rfl rfl (fun r=>jD _ _) (fun w' hw'=>s7 ⟨some ⟨b7,0,none⟩,c7,y.l⟩ w' (dN hw' .here) hyl) ?_
  intro r1
  have hl1:=au r1.ok (aA r1.q r1.s.kept.length)
  repeat (refine JL.q (by first|(apply OQ.extract;rfl;rfl)|(apply OQ.move;rfl)) rfl ?_)
  refine JL.alloc qQ rfl fun b8 _=>?_
  refine JL.ag (cs:=sec r1.s (aA r1.q r1.s.kept.length)) dn rfl rfl hl1 (bA (dj _ _)) .here (au aC _) ?_
  repeat (first | refine JL.q (by first|(apply OQ.move;rfl)|(apply OQ.assign;rfl)) rfl ?_ | refine JC.seq ?_ | refine JC.region ?_ | refine JL.nil ?_ | refine JE.next ?_)
  refine JL.dK (ι:=Ao y.l) (vs:=[y.v]) (fun r=>.tuple #[.agg (sec r.s (aA r.q r.s.kept.length)).toArray,N r.code]) (fun r=>fD r.q r.s.kept) pQ rfl rfl (fun r=>jD _ _) (fun w' hw'=>s6 y w' (hy.holds hw' rfl) hyl) ?_
  intro r2
  have hl2:=au r2.ok (aA r2.q r2.s.kept.length)
  repeat (refine JL.q (by first|(apply OQ.extract;rfl;rfl)|(apply OQ.move;rfl)) rfl ?_)
  refine JL.alloc qQ rfl fun b9 _=>?_
  refine JL.ag (cs:=sec r2.s (aA r2.q r2.s.kept.length)) dn rfl rfl hl2 (bA (dj _ _)) .here (au aC _) ?_
  obtain ⟨hss,hcc⟩:=Ao.same r1 r2
  have hko : r1.s.kept.length<9223372036854775807:=by
    rcases r1.is with ⟨h,e,_⟩ | ⟨_,e,_⟩
    · rw [e]
      have:=h.2.len
      unfold bC.z at this
      dsimp only at this
      rw [List.length_map] at this
      omega
    · rw [e];decide
  have h8 : decide ((r1.code : Int)=(r2.code : Int))=true:=decide_eq_true (by rw [hcc])
  have cM : ∀ w' : World,ah w [] (⟨b9,Row 26 (sec r2.s (aA r2.q r2.s.kept.length)),true⟩::(fD r2.q r2.s.kept++(⟨b8,Row 26 (sec r1.s (aA r1.q r1.s.kept.length)),true⟩::(fD r1.q r1.s.kept++[⟨b7,Sl.cJ 5 1 y.l.length c7 (y.l.map U8),true⟩])))) w'→Calls Tryd.prog 11 [.agg (sec r1.s (aA r1.q r1.s.kept.length)).toArray,.agg (sec r2.s (aA r2.q r2.s.kept.length)).toArray].toArray w' fun e w''=>e=.returned (.bool true)∧Ext w' w'':=fun w' hw'=>by
    have k1 : (lJ r1.q r1.s.kept).ok w':=iR r1.ok.kept (hw'.weak (.drop _ _ _ (rA _ (.drop _ _ _ (ax.refl _)))))
    have k2 : (lJ r2.q r2.s.kept).ok w':=iR r2.ok.kept (hw'.weak (.drop _ _ _ (ax.refl _)))
    have:=mD r1.s (lJ r1.q r1.s.kept) (lJ r2.q r2.s.kept) r1.ok w' k1 k2 (lN r1.nil) ((lN r2.nil).trans (by rw [hss])) hko
    rw [lK,lK] at this
    have e2 : sec r2.s (aA r2.q r2.s.kept.length)=sec r1.s (aA r2.q r2.s.kept.length):=by rw [hss]
    rw [e2]
    exact this
  repeat (first | refine JL.q (by first|(apply OQ.D9 (a:=(r1.code : Int)) (b:=(r2.code : Int));rfl;rfl;exact h8)|(apply OQ.af (cs:=sec r1.s (aA r1.q r1.s.kept.length));exact fL;exact dn;rfl;exact (.there (Aw .here));exact hl1;exact Row.all)|(apply OQ.af (cs:=sec r2.s (aA r2.q r2.s.kept.length));exact fL;exact dn;rfl;exact .here;exact hl2;exact Row.all)|(apply OQ.an (vs:=[.agg (sec r1.s (aA r1.q r1.s.kept.length)).toArray,.agg (sec r2.s (aA r2.q r2.s.kept.length)).toArray]);exact mC;rfl;exact cM)|(apply OQ.bV;rfl;rfl)|(apply OQ.move;rfl)|(apply OQ.assign;rfl)) rfl ?_ | refine JC.seq ?_ | refine JC.region ?_ | refine JL.nil ?_ | refine JE.next ?_ | refine JL.bn rfl rfl ?_)
  refine JC.ret ?_
  skip
  exact JE.aM rfl (RV.tmp rfl) fun w' hw=>⟨rfl,hw.aH⟩
end
section
set_option maxRecDepth 10000
open Go.ChangeShapes Go.WideShapes Go.ChangeAt Go.RowKit
open Sl
set_option linter.unusedVariables false
theorem Gw : ownKnob Tryd.prog.godebug=none:=by kernel_rfl
theorem s8 : laidOutB Tryd.prog=true:=by kernel_rfl
theorem Cr {z : Int} (h : (Lit.int .u8 z).wf=true) : U8 (BitVec.ofInt 8 z)=.int .u8 z:=by
  have h0 : 0≤z∧z≤255:=by
    have h1 : (decide (0≤z) && decide (z≤255))=true:=h
    simpa using h1
  have h2 : ((BitVec.ofInt 8 z).toNat : Int)=z:=by
    rw [BitVec.toNat_ofInt]
    omega
  unfold U8
  rw [h2]
def Ai (P : Program) (t : TypeId) (i : Nat) (ty : TypeId) (off : Nat) : Bool:=match (P.fieldsOf t)[i]? with
  | some f=>f.type == ty && f.offset == off
  | none=>false
theorem xw {P : Program} {t : TypeId} {i : Nat} {ty : TypeId} {off : Nat} (h : Ai P t i ty off=true) : ∃ f,(P.fieldsOf t)[i]?=some f∧f.type=ty∧f.offset=off:=by
  unfold Ai at h
  split at h
  · next f e=>
    simp only [Bool.and_eq_true,beq_iff_eq] at h
    exact ⟨f,e,h.1,h.2⟩
  · cases h
def v7 (zs : List Int) : List (BitVec 8):=zs.map (BitVec.ofInt 8)
theorem D2 {H : Type} {enc : TypeId × Value→H} {W : World} {fuel : Nat} {v : Value} {x : DataW H × List MemPlace} (h : DataW.trod enc Tryd.prog W 0 (fun _=>true) true fuel 27 [v]=some x) : ∃ k : aT,v=k.v∧k.ok W∧k.cap≤maxLen:=by
  rcases open_ints (show Tryd.prog.underlying 27=some (.slice 5) by kernel_rfl) (show Tryd.prog.underlying 5=some (.int .u8) by kernel_rfl) (by kernel_rfl) h with ⟨hcs,_⟩ | ⟨x,l,c,zs,hcs,_,hl,hm,hz,_,hcell,hwz⟩
  · cases hcs
    exact ⟨⟨none,0,[]⟩,rfl,⟨by simp,Reads.nil _ _⟩,by decide⟩
  · cases hcs
    simp only [if_true] at hz
    have hlen : (v7 (zs.take l)).length=l:=by simp [v7];omega
    refine ⟨⟨some x,c,v7 (zs.take l)⟩,by simp [aT.v,hlen],⟨by rw [hlen];exact hl,?_⟩,hm⟩
    intro i v hv
    have hi : i<l:=by
      have:=(List.getElem?_eq_some_iff.1 hv).1
      simpa [hlen] using this
    have hc:=hcell i (by omega)
    obtain ⟨b,o,sp⟩:=x
    cases sp with
    | some s=>
      have hc:=hcell 0 (by omega)
      simp only [World.cell?,Addr.add,if_true] at hc
      split at hc <;> simp at hc
    | none=>
      refine ⟨b,o,rfl,?_⟩
      have e1 : zs.getD i 0=zs[i]'(by omega):=by simp [List.getD,show i<zs.length by omega]
      have e2:=Cr (hwz (zs[i]'(by omega)) (List.getElem_mem _))
      have e3 : v=.int .u8 (zs.getD i 0):=by
        simp only [v7,List.map_map,List.getElem?_map,List.getElem?_take] at hv
        rw [if_pos hi,List.getElem?_eq_getElem (by omega)] at hv
        simp only [Option.map_some,Function.comp,Option.some.injEq] at hv
        rw [← hv,e2,e1]
      rw [e3]
      have e4 : (⟨b,o,none⟩ : Addr).add i=⟨b,o+i,none⟩:=by
        unfold Addr.add
        split
        · subst i;rfl
        · rfl
      rw [e4] at hc
      exact hc
end
section
set_option maxRecDepth 10000
open Go.ChangeShapes Go.WideShapes Go.ChangeAt Go.RowKit
open Sl
set_option linter.unusedVariables false
theorem xy {α : Type} {H : Type} {enc : TypeId × Value→H} {W : World} {fuel k : Nat} {t e : TypeId} {v : Value} {x : DataW H × List MemPlace} (cs : α→List Value) (P : α→Prop) (c0 : α) (hk0 : 0<k)
    (hu : Tryd.prog.underlying t=some (.slice e)) (hc1 : Tryd.prog.cellsOf e=k) (hlen : ∀ c,P c→(cs c).length=k)
    (hel : ∀ (l : List Value) (fuel : Nat) (x : DataW H × List MemPlace),l.length=k→DataW.trod enc Tryd.prog W 0 (fun _=>true) true fuel e l=some x→∃ c,l=cs c∧P c)
    (h : DataW.trod enc Tryd.prog W 0 (fun _=>true) true fuel t [v]=some x) :
    ∃ (ad : Option Addr) (cap : Nat) (l : List α),v=.slice ad l.length cap∧l.length≤cap∧Reads W ad (l.map cs).flatten∧∀ c ∈ l,P c:=by
  rcases Go.Deep.open_slice hu h with ⟨hcs,_⟩ | ⟨a',l,cap,m,n,D,Pl,hcs,_,hl,hm,hmm,hxx,hel'⟩
  · cases hcs
    exact ⟨none,0,[],rfl,Nat.le_refl _,Reads.nil _ _,nofun⟩
  · cases hcs
    simp only [if_true] at hmm
    subst hmm
    simp only [hc1] at hel'
    have hk : ∀ i,∃ c : α,i<l→(∀ j u,(cs c)[j]?=some u→W.cell? ((a'.add (i * k)).add j)=some u)∧P c:=by
      intro i
      by_cases hi : i<l
      · obtain ⟨cs',h1,h2⟩:=hel' i (by omega)
        obtain ⟨_,hlen',hcell⟩:=World.cells?_some h1
        obtain ⟨c,rfl,hp⟩:=hel _ _ _ hlen' h2
        refine ⟨c,fun _=>⟨fun j u hu=>?_,hp⟩⟩
        have hj : j<(cs c).length:=(List.getElem?_eq_some_iff.1 hu).1
        rw [hcell j (by omega)]
        exact hu
      · exact ⟨c0,fun h=>absurd h hi⟩
    let f : Nat→α:=fun i=>Classical.choose (hk i)
    have hf : ∀ i,i<l→(∀ j u,(cs (f i))[j]?=some u→W.cell? ((a'.add (i * k)).add j)=some u)∧P (f i):=fun i=>Classical.choose_spec (hk i)
    refine ⟨some a',m,(List.range l).map f,by simp,by simpa using hl,?_,?_⟩
    · intro i u hu
      have hcss : ∀ q ∈ ((List.range l).map f).map cs,q.length=k:=by
        intro q hq
        obtain ⟨d,hd,rfl⟩:=List.mem_map.1 hq
        obtain ⟨j,hj,rfl⟩:=List.mem_map.1 hd
        exact hlen _ (hf j (List.mem_range.1 hj)).2
      have hlen2:=e6 hcss
      have hi : i<(((List.range l).map f).map cs).flatten.length:=(List.getElem?_eq_some_iff.1 hu).1
      rw [hlen2] at hi
      simp only [List.length_map,List.length_range] at hi
      have hq : i / k<l:=Nat.div_lt_of_lt_mul (by rw [Nat.mul_comm];exact hi)
      have hr : i % k<k:=Nat.mod_lt _ hk0
      have hat:=jZ (i:=i / k) hcss (by simpa using hq)
      have e2 : (((List.range l).map f).map cs).getD (i / k) []=cs (f (i / k)):=by simp [hq]
      rw [e2] at hat
      have hdm : i / k * k+i % k=i:=by rw [Nat.mul_comm];exact Nat.div_add_mod i k
      have hu2 : (cs (f (i / k)))[i % k]?=some u:=by
        rw [← hat,List.getElem?_take,if_pos hr,List.getElem?_drop,hdm]
        exact hu
      have hc:=(hf (i / k) hq).1 (i % k) u hu2
      obtain ⟨b,o,sp⟩:=a'
      cases sp with
      | some s=>
        exfalso
        have h0:=hf 0 (Nat.lt_of_le_of_lt (Nat.zero_le _) hq)
        have hl0:=hlen _ h0.2
        obtain ⟨u0,hu0⟩ : ∃ u0,(cs (f 0))[0]?=some u0:=⟨_,List.getElem?_eq_getElem (by omega)⟩
        have h00:=h0.1 0 u0 hu0
        simp only [World.cell?,Addr.add,Nat.zero_mul,if_true] at h00
        split at h00 <;> simp at h00
      | none=>
        refine ⟨b,o,rfl,?_⟩
        rw [cG,cG,Nat.add_assoc,hdm] at hc
        exact hc
    · intro d hd
      obtain ⟨j,hj,rfl⟩:=List.mem_map.1 hd
      exact (hf j (List.mem_range.1 hj)).2
theorem fu {H : Type} {enc : TypeId × Value→H} {W : World} {fuel m : Nat} {t : TypeId} (hu : Tryd.prog.underlying t=some (.array m 5)) {cs : List Value} (hl : cs.length=m) {x : DataW H × List MemPlace} (h : DataW.trod enc Tryd.prog W 0 (fun _=>true) true fuel t cs=some x) :
    ∃ r : List (BitVec 8),cs=r.map U8∧r.length=m:=by
  obtain ⟨xs,m',_,ex,_,_,hel⟩:=DataW.trod_array hu h
  have c5 : Tryd.prog.cellsOf 5=1:=by kernel_rfl
  have hk : ∀ i,∃ k : BitVec 8,i<m→cs[i]?=some (U8 k):=by
    intro i
    by_cases hi : i<m
    · have h1:=hel i hi
      rw [c5,Nat.mul_one,List.getElem?_eq_getElem (by omega)] at h1
      obtain ⟨z,e1,e2,hw⟩:=DataW.trod_int (show Tryd.prog.underlying 5=some (.int .u8) by kernel_rfl) h1
      refine ⟨BitVec.ofInt 8 z,fun _=>?_⟩
      have h0 : ((cs.drop i).take 1)[0]?=some (.int .u8 z):=by rw [e1];rfl
      rw [Cr hw]
      simpa using h0
    · exact ⟨0,fun h=>absurd h hi⟩
  let f : Nat→BitVec 8:=fun i=>Classical.choose (hk i)
  have hf : ∀ i,i<m→cs[i]?=some (U8 (f i)):=fun i=>Classical.choose_spec (hk i)
  refine ⟨(List.range m).map f,?_,by simp⟩
  apply List.ext_getElem?
  intro i
  by_cases hi : i<m
  · rw [hf i hi]
    simp [hi]
  · rw [List.getElem?_eq_none (by omega),List.getElem?_eq_none (by simp;omega)]
theorem v8 {H : Type} {enc : TypeId × Value→H} {W : World} {fuel nf : Nat} {t : TypeId} {cs : List Value} {x : DataW H × List MemPlace} (ht : Tryd.prog.underlying t=some (.struct (Tryd.prog.fieldsOf t))) (hsz : (Tryd.prog.fieldsOf t).size=nf)
    (h : DataW.trod enc Tryd.prog W 0 (fun _=>true) true fuel t cs=some x) : ∃ n,∀ {i ty off},Ai Tryd.prog t i ty off=true→i<nf→∃ y,DataW.trod enc Tryd.prog W 0 (fun _=>true) true n ty ((cs.drop off).take (Tryd.prog.cellsOf ty))=some y:=by
  obtain ⟨xs,n,_,_,_,hlen,hf⟩:=DataW.trod_struct ht h
  rw [hsz] at hlen
  refine ⟨n,fun {i ty off} h1 h2=>?_⟩
  obtain ⟨f,e1,rfl,rfl⟩:=xw h1
  exact ⟨xs[i],by rw [hf i f e1,List.getElem?_eq_getElem (by omega)]⟩
theorem D3 {cs : List Value} {off : Nat} (h : off<cs.length) : ∃ v,(cs.drop off).take 1=[v]∧cs[off]?=some v:=
  ⟨cs[off],by rw [List.drop_eq_getElem_cons h,List.take_succ_cons,List.take_zero],List.getElem?_eq_getElem h⟩
end
section
set_option maxRecDepth 10000
open Go.ChangeShapes Go.WideShapes Go.ChangeAt Go.RowKit
open Sl gB
set_option linter.unusedVariables false
theorem kK {l : List Value} {x : List Value} {a b : Nat} (c : Nat) (hc : a+b=c) (h : (l.drop a).take b=x) : l.drop a=x++l.drop c:=by
  subst hc
  rw [← h,← List.drop_drop,List.take_append_drop]
theorem BP {H : Type} {enc : TypeId × Value→H} {W : World} {fuel : Nat} {v : Value} {x : DataW H × List MemPlace} (h : DataW.trod enc Tryd.prog W 0 (fun _=>true) true fuel 24 [v]=some x) :
    ∃ k : cZ,v=k.v∧k.ok W:=by
  obtain ⟨ad,cap,l,e,h1,h2,h3⟩:=xy (k:=65) (e:=57) mX iB.ok bR (by decide) (by kernel_rfl) (by kernel_rfl) (fun c h=>qE h)
    (fun l fuel x hl hx=>by
      obtain ⟨n,g⟩:=v8 (nf:=3) (by kernel_rfl) (by kernel_rfl) hx
      have c0 : Tryd.prog.cellsOf 3=1:=by kernel_rfl
      have c1 : Tryd.prog.cellsOf 23=32:=by kernel_rfl
      have hi : Tryd.prog.underlying 3=some (.int .i64):=by kernel_rfl
      have hk : Tryd.prog.underlying 23=some (.array 32 5):=by kernel_rfl
      obtain ⟨y0,g0⟩:=g (i:=0) (ty:=23) (off:=0) (by kernel_rfl) (by decide)
      obtain ⟨y1,g1⟩:=g (i:=1) (ty:=3) (off:=32) (by kernel_rfl) (by decide)
      obtain ⟨y2,g2⟩:=g (i:=2) (ty:=23) (off:=33) (by kernel_rfl) (by decide)
      rw [c1] at g0 g2
      rw [c0] at g1
      obtain ⟨r0,q0,l0⟩:=fu hk (by rw [List.length_take,List.length_drop];omega) g0
      obtain ⟨z1,q1,_,_⟩:=DataW.trod_int hi g1
      obtain ⟨r2,q2,l2⟩:=fu hk (by rw [List.length_take,List.length_drop];omega) g2
      refine ⟨⟨r0,z1,r2⟩,?_,l0,l2⟩
      have e : l.drop 0=mX ⟨r0,z1,r2⟩:=by
        rw [kK 32 rfl q0,kK 33 rfl q1,kK 65 rfl q2,List.drop_of_length_le (by omega : l.length≤65),List.append_nil]
        rfl
      exact e) h
  exact ⟨⟨ad,cap,l⟩,e,⟨h1,h2,h3⟩⟩
theorem BQ {H : Type} {enc : TypeId × Value→H} {W : World} {base fuel : Nat} {v : Value} {x : DataW H × List MemPlace} (hok : Value.okWide Tryd.prog W .any base 26 v) (h : DataW.trod enc Tryd.prog W 0 (fun _=>true) true fuel 26 v.cells.toList=some x) :
    ∃ k : DO,v=k.v∧k.ok W:=by
  have ht : Tryd.prog.underlying 26=some (.struct (Tryd.prog.fieldsOf 26)):=by kernel_rfl
  have ct : Tryd.prog.cellsOf 26=166:=by kernel_rfl
  obtain ⟨n,g⟩:=v8 (nf:=11) ht (by kernel_rfl) h
  simp only [Value.okWide,ht] at hok
  obtain ⟨c,rfl,hcz,_⟩:=hok
  rw [ct] at hcz
  obtain ⟨l⟩:=c
  have hl : l.length=166:=by simpa using hcz
  clear hcz
  have c0 : Tryd.prog.cellsOf 3=1:=by kernel_rfl
  have c1 : Tryd.prog.cellsOf 23=32:=by kernel_rfl
  have c2 : Tryd.prog.cellsOf 4=1:=by kernel_rfl
  have c3 : Tryd.prog.cellsOf 24=1:=by kernel_rfl
  have hi : Tryd.prog.underlying 3=some (.int .i64):=by kernel_rfl
  have hb : Tryd.prog.underlying 4=some .bool:=by kernel_rfl
  have hk : Tryd.prog.underlying 23=some (.array 32 5):=by kernel_rfl
  obtain ⟨y0,g0⟩:=g (i:=0) (ty:=23) (off:=0) (by kernel_rfl) (by decide)
  obtain ⟨y1,g1⟩:=g (i:=1) (ty:=23) (off:=32) (by kernel_rfl) (by decide)
  obtain ⟨y2,g2⟩:=g (i:=2) (ty:=23) (off:=64) (by kernel_rfl) (by decide)
  obtain ⟨y3,g3⟩:=g (i:=3) (ty:=4) (off:=96) (by kernel_rfl) (by decide)
  obtain ⟨y4,g4⟩:=g (i:=4) (ty:=4) (off:=97) (by kernel_rfl) (by decide)
  obtain ⟨y5,g5⟩:=g (i:=5) (ty:=23) (off:=98) (by kernel_rfl) (by decide)
  obtain ⟨y6,g6⟩:=g (i:=6) (ty:=23) (off:=130) (by kernel_rfl) (by decide)
  obtain ⟨y7,g7⟩:=g (i:=7) (ty:=3) (off:=162) (by kernel_rfl) (by decide)
  obtain ⟨y8,g8⟩:=g (i:=8) (ty:=3) (off:=163) (by kernel_rfl) (by decide)
  obtain ⟨y9,g9⟩:=g (i:=9) (ty:=3) (off:=164) (by kernel_rfl) (by decide)
  obtain ⟨y10,g10⟩:=g (i:=10) (ty:=24) (off:=165) (by kernel_rfl) (by decide)
  rw [show (Value.agg ⟨l⟩).cells.toList=l from rfl] at g0 g1 g2 g3 g4 g5 g6 g7 g8 g9 g10
  rw [c1] at g0 g1 g2 g5 g6
  rw [c2] at g3 g4
  rw [c0] at g7 g8 g9
  rw [c3] at g10
  obtain ⟨r0,q0,l0⟩:=fu hk (by rw [List.length_take,List.length_drop];omega) g0
  obtain ⟨r1,q1,l1⟩:=fu hk (by rw [List.length_take,List.length_drop];omega) g1
  obtain ⟨r2,q2,l2⟩:=fu hk (by rw [List.length_take,List.length_drop];omega) g2
  obtain ⟨r5,q5,l5⟩:=fu hk (by rw [List.length_take,List.length_drop];omega) g5
  obtain ⟨r6,q6,l6⟩:=fu hk (by rw [List.length_take,List.length_drop];omega) g6
  obtain ⟨z3,q3,_⟩:=DataW.trod_bool hb g3
  obtain ⟨z4,q4,_⟩:=DataW.trod_bool hb g4
  obtain ⟨z7,q7,_,_⟩:=DataW.trod_int hi g7
  obtain ⟨z8,q8,_,_⟩:=DataW.trod_int hi g8
  obtain ⟨z9,q9,_,_⟩:=DataW.trod_int hi g9
  obtain ⟨v,q10,_⟩:=D3 (off:=165) (by omega : 165<l.length)
  rw [q10] at g10
  obtain ⟨k,rfl,ok⟩:=BP g10
  refine ⟨⟨⟨r0,r1,r2,z3,z4,r5,r6,z7,z8,z9,k.l⟩,k⟩,?_,⟨⟨l0,l1,l2,l5,l6,ok.all⟩,rfl,ok⟩⟩
  have e : l.drop 0=dr ⟨r0,r1,r2,z3,z4,r5,r6,z7,z8,z9,k.l⟩ k.v:=by
    rw [kK 32 rfl q0,kK 64 rfl q1,kK 96 rfl q2,kK 97 rfl q3,kK 98 rfl q4,kK 130 rfl q5,kK 162 rfl q6,kK 163 rfl q7,kK 164 rfl q8,kK 165 rfl q9,kK 166 rfl q10,List.drop_of_length_le (by omega : l.length≤166)]
    rfl
  show Value.agg ⟨l⟩=.agg ⟨_⟩
  rw [← e]
  rfl
end
section
open Go.ChangeShapes Go.WideShapes Go.ChangeAt Go.RowKit
open Sl ec gE
set_option linter.unusedVariables false
set_option maxRecDepth 100000
theorem gL {P : Program} {w : World} {n : String} {d : DataW Unit} : ∀ {L : List (String × DataW Unit)} {ps : List MemPlace},DataW.LaidVars P w L ps→(n,d) ∈ L→
    ∃ g t cs fuel p,P.globalNamed n=some g∧(P.globals[g]?).map (·.type)=some t∧w.var? P n=some cs∧DataW.trod (fun _=>()) P w 0 (fun _=>true) false fuel t cs.toList=some (d,p)
  | [],_,_,h=>by cases h
  | (n',d')::L,ps,⟨g,t,cs,fuel,p,q,h1,h2,h3,h4,h5,_⟩,h=>by
    rcases List.mem_cons.1 h with h | h
    · cases h
      exact ⟨g,t,cs,fuel,p,h1,h2,h3,h4⟩
    · exact gL h5 h
theorem qM {α : Type} {a b : List α} (n : Nat) (hl : a.length=n * 4) (hb : b.length=n * 4) (h : ∀ i<n,(a.drop (i * 4)).take 4=(b.drop (i * 4)).take 4) : a=b:=by
  apply List.ext_getElem?
  intro j
  by_cases hj : j<n * 4
  · have h1:=congrArg (·[j % 4]?) (h (j / 4) (by omega))
    simp only [List.getElem?_take,List.getElem?_drop,Nat.mod_lt j (by decide : 0<4),if_true] at h1
    rwa [show j / 4 * 4+j % 4=j by omega] at h1
  · rw [List.getElem?_eq_none (by omega),List.getElem?_eq_none (by omega)]
def iF (i : Nat) : DataW Unit:=Lib.tabData .i64 ((o4 i).map fun x : Nat=>(x : Int))
def D4 : DataW Unit:=.agg [iF 0,iF 1,iF 2,iF 3,iF 4,iF 5,iF 6,iF 7]
theorem Fp {W : World} {ps : List MemPlace} {L : List (String × DataW Unit)} (h : DataW.LaidVars Tryd.prog W L ps) (hm : ("despatch/stream.quarters",D4) ∈ L) : GQ W:=by
  obtain ⟨g,t,cs,fuel,p,h1,h2,h3,h4⟩:=gL h hm
  have hg : Tryd.prog.globalNamed "despatch/stream.quarters" = some 0:=by kernel_rfl
  obtain rfl:=Option.some.inj (hg.symm.trans h1)
  obtain rfl:=Option.some.inj ((show (Tryd.prog.globals[0]?).map (·.type)=some 163 by kernel_rfl).symm.trans h2)
  obtain ⟨xs,m,_,ex,hlen,hl,hel⟩:=DataW.trod_array (show Tryd.prog.underlying 163=some (.array 8 74) by kernel_rfl) h4
  have c4 : Tryd.prog.cellsOf 74=4:=by kernel_rfl
  have c32 : Tryd.prog.cellsOf 163=32:=by kernel_rfl
  rw [c32] at hlen
  have hxs : xs.map (·.1)=[iF 0,iF 1,iF 2,iF 3,iF 4,iF 5,iF 6,iF 7]:=by
    have:=congrArg Prod.fst ex
    simpa [D4] using this.symm
  have hcs : cs.toList=mI.map N:=by
    refine qM 8 hlen rfl fun i hi=>?_
    have h5:=hel i hi
    rw [c4] at h5
    have h6 : (xs.map (·.1))[i]?=some (iF i):=by
      rw [hxs]
      have : i=0∨i=1∨i=2∨i=3∨i=4∨i=5∨i=6∨i=7:=by omega
      rcases this with rfl | rfl | rfl | rfl | rfl | rfl | rfl | rfl <;> rfl
    rw [List.getElem?_map] at h6
    obtain ⟨y,hy,hy1⟩:=Option.map_eq_some_iff.1 h6
    rw [hy] at h5
    obtain ⟨y1,y2⟩:=y
    subst hy1
    have h7:=Lib.cells_of_tab (show Tryd.prog.underlying 74=some (.array 4 3) by kernel_rfl) (show Tryd.prog.underlying 3=some (.int .i64) by kernel_rfl) (by kernel_rfl) c4 h5
    rw [h7,B3 i hi,List.map_map]
    rfl
  unfold World.var? at h3
  rw [hg] at h3
  simp only [Option.bind_some] at h3
  split at h3
  · rename_i cs' e fr hb
    obtain rfl:=Option.some.inj h3
    refine ⟨e,fr,?_⟩
    rw [hb,← hcs]
  · cases h3
theorem D5 {W : World} {ps : List MemPlace} {L : List (String × DataW Unit)} (h : DataW.LaidVars Tryd.prog W L ps) (hm : ("despatch/hash.rounds",Lib.tabData .u32 (K.map fun x=>(x.toNat : Int))) ∈ L) : fI W:=by
  obtain ⟨g,t,cs,fuel,p,h1,h2,h3,h4⟩:=gL h hm
  have hg : Tryd.prog.globalNamed "despatch/hash.rounds" = some 1:=by kernel_rfl
  obtain rfl:=Option.some.inj (hg.symm.trans h1)
  obtain rfl:=Option.some.inj ((show (Tryd.prog.globals[1]?).map (·.type)=some 166 by kernel_rfl).symm.trans h2)
  have hcs:=Lib.cells_of_tab (show Tryd.prog.underlying 166=some (.array 64 86) by kernel_rfl) (show Tryd.prog.underlying 86=some (.int .u32) by kernel_rfl) (by kernel_rfl) (by kernel_rfl) h4
  unfold World.var? at h3
  rw [hg] at h3
  simp only [Option.bind_some] at h3
  split at h3
  · rename_i cs' e fr hb
    obtain rfl:=Option.some.inj h3
    refine ⟨e,fr,?_⟩
    rw [hb]
    have : cs'=(cs'.toList).toArray:=by simp
    rw [this,hcs,List.map_map]
    rfl
  · cases h3
theorem oh : ((Rows.ratchetEncryptsRow.laid).all fun x=>x.2.handleName?.isNone)=true:=by kernel_rfl
theorem BR : Rows.ratchetEncryptsRow.laid=[("despatch/hash.rounds",Lib.tabData .u32 (K.map fun x=>(x.toNat : Int))),("despatch/stream.quarters",D4)]:=by kernel_rfl
theorem kL {W : World} (h : laidMetH Tryd.prog Rows.ratchetEncryptsRow.laid W) : fI W∧GQ W:=by
  rw [MakeChecks.laidMetH_plain _ _ _ oh,BR] at h
  obtain ⟨ps,h,_⟩:=h
  exact ⟨D5 h (by simp),Fp h (by simp)⟩
theorem BS (os : Os) (args : Array Value) : laidMetH Tryd.prog Rows.ratchetEncryptsRow.laid ((World.laidAll Tryd.prog os Rows.ratchetEncryptsRow.laid).forCall (fun _ _=>0) ⟨#[],args,[]⟩).memory:=by
  rw [MakeChecks.laidMetH_plain _ _ _ oh]
  exact laidMet_laidAll _ (by kernel_rfl) (by kernel_rfl)
theorem xA (os : Os) : (World.laidAll Tryd.prog os Rows.ratchetEncryptsRow.laid).Shaped Tryd.prog:=World.shaped_of_ZipB (by kernel_rfl) (by kernel_rfl)
end
end Go.Proofs.YtkfeolclllhfpaaDoor
