/-
  Of no statement by itself: the texts TalZ, TalS, Sle, TalL, TalN, TalT, Plain, FraT in one.
  Conditions: each theorem's own.
-/
import Derived.Test.YtjeeilmkjjbonaaGreatDoorOd
import Derived.Test.YtjeeilmkjjbonaaGreatDoorProg
import Derived.Test.YtjeeilmkjjbonaaGreatDoorRows
import Derived.ProofKit
import Derived.OpenShut
import Derived.Below
import Derived.Stop.Joined
import Derived.ChangeMaps5
import Derived.Test.YtjeeilmkjjbonaaGreatDoorTie
import Derived.SevenTiedAt
import Derived.LaidMore
import Derived.Lay
import Derived.Handed
import Derived.HandedShaped
set_option linter.unusedSimpArgs false
set_option linter.unusedVariables false
namespace Go.Proofs.YtjeeilmkjjbonaaGreatDoor
section
set_option maxRecDepth 10000
open Sl bE
theorem under {w w1 w' : World} {M : List aF} (hE : Ext w w1) (h : aa w1 [] M w') : aa w [] M w':=by
  refine ⟨hE.trans h.aS,h.nodup,fun e he=>⟨(h.all e he).1,fun hw=>?_⟩⟩
  rcases (h.all e he).2 hw with k | k
  · exact .inl k
  · exact .inr (Nat.le_trans hE.size k)
set_option maxHeartbeats 64000000 in
theorem ur (s : aC) (w : World) (hs : s.ok w) (hl : s.l.length≤4000000) {mm rr : List Bt} (hu : eY s.l=some (mm,rr)) : Calls Tryz.prog 30 [s.v].toArray w
    fun e w'=>∃ q : (Nat × Nat) × (Nat × Nat),e=.returned (.tuple #[ag (some q.1) mm.length,ag (some q.2) rr.length,N 0])∧aa w [] (ay 5 (some q.2) (rr.map U8)++ay 5 (some q.1) (mm.map U8)) w':=by
  have hu' : kC s.l=(mm,rr,0):=by unfold kC;rw [hu]
  have hJl:=congrArg List.length (dr s.l)
  rw [List.length_append] at hJl
  refine enter (n:=91) Tryz.func30 rfl rfl rfl (aa.start w []) ?_
  repeat (first | refine JL.q (by first|(apply OQ.move;rfl)|(apply OQ.assign;rfl)) rfl ?_ | refine JC.seq ?_ | refine JC.region ?_ | refine JL.nil ?_ | refine JE.next ?_)
  refine JL.vu (vs:=[s.v]) (S':=[]) (ι:={ q : oZ × aC // q.1.ls=(bK s.l).1∧q.2.l=(bK s.l).2 }) (fun q=>.tuple #[q.1.1.v,q.1.2.v]) (fun q w2=>q.1.1.ok w2∧q.1.2.ok w2) [] iy rfl rfl
    (fun w' hw'=>(jE s w' (hs.holds hw' rfl) hl).mono fun e w2 ⟨q,h1,h2,h3,h4,h5⟩=>⟨⟨q,h2,h3⟩,h1,h4,h5⟩) (.nil _) (by simp) ?_
  rintro ⟨⟨L,x⟩,hL,hx⟩ w1 hw1 ⟨okL,okx⟩
  have hE:=hw1.aS
  dsimp only at hL hx
  have eUB : eY s.l=(fY L.ls).map fun p=>(aG p.1,aG p.2++x.l):=by rw [hL,hx];rfl
  rw [← hL,← hx] at hJl
  unfold oZ.ls at hJl eUB
  have hBl:=pO (L.rs.map aC.l)
  have hTl:=tE (L.rs.map aC.l)
  have hLl:=dJ (L.rs.map aC.l)
  rw [List.length_map] at hLl
  dsimp only
  repeat (first | refine JL.q (by first|(apply OQ.extract;rfl;rfl)|(apply OQ.move;rfl)|(apply OQ.assign;rfl)) rfl ?_ | refine JC.seq ?_ | refine JC.region ?_ | refine JL.nil ?_ | refine JE.next ?_)
  refine JL.lX Tryz.underlying22 cc rfl fun b0 _=>?_
  repeat (first | refine JL.q (by (apply OQ.assign;rfl)) rfl ?_ | refine JC.seq ?_ | refine JC.region ?_ | refine JC.block ?_ | refine JL.nil ?_ | refine JE.next ?_)
  refine JC.loop (fun q : Nat × Nat × Nat=>[(5,L.v),(6,x.v),(7,.slice (some ⟨q.2.1,0,none⟩) (fL (L.rs.map aC.l) q.1).length q.2.2),(8,N q.1)])
    (fun q=>[⟨q.2.1,Sl.aO 5 1 (fL (L.rs.map aC.l) q.1).length q.2.2 ((fL (L.rs.map aC.l) q.1).map U8),true⟩])
    (fun q=>L.rs.length - q.1) (fun q=>q.1≤L.rs.length∧∀ l ∈ (L.rs.map aC.l).take q.1,l≠[46]) (0,b0,0) ⟨Nat.zero_le _,by intro l hl;simp at hl⟩ (by repeat (first | exact af.nil | refine af.cons _ _ _ rfl ?_)) (.keep _ _ _ _ _ _ (c7 rfl) (.nil _)) ?_
  rintro ⟨i,b,cap⟩ ⟨hi,hnone⟩
  simp only at hi hnone
  repeat (first | refine JL.q (by first|(apply OQ.move;rfl)|(apply OQ.len;rfl;rfl)|(apply OQ.dV;rfl;rfl)) rfl ?_ | refine JC.seq ?_ | refine JC.region ?_ | refine JL.nil ?_ | refine JE.next ?_)
  refine JC.cond rfl (fun h=>?_) (fun h=>?_)
  · have hi' : i<L.rs.length:=of_decide_eq_true h
    clear h hi
    have hi2 : i<(L.rs.map aC.l).length:=by rw [List.length_map];exact hi'
    have eT : fL (L.rs.map aC.l) (i+1)=fL (L.rs.map aC.l) i++(dm (L.rs[i]).l++[13,10]):=by
      rw [nh hi2,List.getElem_map]
    have hBl':=hBl (i+1)
    have hBi:=hBl i
    have hnone' : (L.rs[i]).l≠[46]→∀ l ∈ (L.rs.map aC.l).take (i+1),l≠[46]:=by
      intro hne l hl
      rw [List.take_succ_eq_append_getElem hi2,List.mem_append,List.getElem_map] at hl
      rcases hl with hl | hl
      · exact hnone l hl
      · rw [List.mem_singleton.1 hl];exact hne
    have eU : (L.rs[i]).l=[46]→kC s.l=(fL (L.rs.map aC.l) i,aG ((L.rs.map aC.l).drop (i+1))++x.l,0):=by
      intro e
      unfold kC
      rw [eUB,oB hi2 (by rw [List.getElem_map];exact e) hnone]
      rfl
    obtain ⟨ba,ja,hae,hca⟩:=okL.reads.at (by simp;omega)
    have hci : w1.cell? ⟨ba,ja+i,none⟩=some (L.rs[i]).v:=hca i _ (by simp [hi'])
    have hav : L.v=.slice (some ⟨ba,ja,none⟩) L.rs.length L.cap:=by rw [← hae];rfl
    have oky:=okL.all _ (List.getElem_mem hi')
    generalize L.rs[i]=y at eT hnone' eU hci oky
    obtain ⟨ad,yc,yl⟩:=y
    dsimp only at eT hnone' eU
    generalize fL (L.rs.map aC.l) i=A at eT eU hBi ⊢
    rw [hav]
    by_cases h0 : 0<yl.length
    · obtain ⟨by',jy,rfl,hcy⟩:=oky.reads.at (by simpa using h0)
      have hc0:=hcy 0 _ (dU U8 0 h0)
      have hd0 : yl.head?=some (yl.getD 0 0):=by
        rw [List.head?_eq_getElem?,List.getD_eq_getElem?_getD,List.getElem?_eq_getElem h0];rfl
      by_cases c46 : yl.getD 0 0=46
      · have hc0:=c46 ▸ hc0
        have hd : yl.head?=some 46:=by rw [hd0,c46]
        by_cases h1 : yl.length=1
        · have ey : yl=[46]:=by
            match yl,h1 with
            | [c],_=>exact congrArg (fun c=>[c]) c46
          have eU:=eU ey
          clear hnone' eT
          repeat (first | refine JL.q (by first|(apply OQ.bf;exact Tryz.underlying127;exact gJ;rfl;rfl;exact hi')|(apply OQ.aq;exact slc;rfl;exact (block_lt_of_cell hci);exact (by simp);exact hci)|(apply OQ.fc;rfl;rfl;exact (show ((yl.length : Nat) : Int)=1 by omega))|(apply OQ.bf (i:=0);exact Tryz.underlying22;exact bN;rfl;rfl;exact h0)|(apply OQ.aq;exact kO;rfl;exact (block_lt_of_cell hc0);exact (by simp);exact hc0)|(apply OQ.fc;rfl;rfl;rfl)|(apply OQ.az;rfl;rfl)|(apply OQ.move;rfl)|(apply OQ.len;rfl;rfl)) rfl ?_ | refine JC.seq ?_ | refine JC.region ?_ | refine JC.block ?_ | refine JC.skip ?_ | refine JL.nil ?_ | refine JE.next ?_ | refine JL.aT rfl rfl ?_)
          refine JC.cond_true rfl rfl ?_
          repeat (first | refine JC.seq ?_ | refine JC.region ?_)
          refine JL.lX Tryz.underlying22 cc rfl fun b9 _=>?_
          repeat (first | refine JL.q (by first|(apply OQ.move;rfl)|(apply OQ.assign;rfl)|(apply OQ.bh;rfl;rfl;exact (by (try simp only []);omega))) rfl ?_ | refine JC.seq ?_ | refine JC.region ?_ | refine JC.block ?_ | refine JL.nil ?_ | refine JE.next ?_)
          rw [← hav]
          refine JC.loop (fun q : Nat × Nat × Nat=>[(5,L.v),(6,x.v),(7,.slice (some ⟨b,0,none⟩) A.length cap),(9,.slice (some ⟨q.2.1,0,none⟩) (tl (L.rs.map aC.l) i q.1).length q.2.2),(10,N q.1)])
            (fun q=>[⟨q.2.1,Sl.aO 5 1 (tl (L.rs.map aC.l) i q.1).length q.2.2 ((tl (L.rs.map aC.l) i q.1).map U8),true⟩,⟨b,Sl.aO 5 1 A.length cap (A.map U8),true⟩])
            (fun q=>L.rs.length - q.1) (fun q=>i+1≤q.1∧q.1≤L.rs.length) (i+1,b9,0) ⟨Nat.le_refl _,hi'⟩ (by rw [gD];exact (by repeat (first | exact af.nil | refine af.cons _ _ _ rfl ?_))) (by rw [gD];exact .keep _ _ _ _ _ _ (c7 rfl) (.keep _ _ _ _ _ _ (fun _ h=>h) (.nil _))) ?_
          clear hci hc0 hcy oky
          rintro ⟨j,b9,cap9⟩ ⟨hij,hj⟩
          simp only at hij hj
          repeat (first | refine JL.q (by first|(apply OQ.move;rfl)|(apply OQ.len;rfl;rfl)|(apply OQ.dV;rfl;rfl)) rfl ?_ | refine JC.seq ?_ | refine JC.region ?_ | refine JL.nil ?_ | refine JE.next ?_)
          refine JC.cond rfl (fun h=>?_) (fun h=>?_)
          · have hj' : j<L.rs.length:=of_decide_eq_true h
            clear h hj
            have eT : tl (L.rs.map aC.l) i (j+1)=tl (L.rs.map aC.l) i j++((L.rs[j]).l++[13,10]):=by
              rw [pN (by rw [List.length_map];exact hj') hij,List.getElem_map]
            have hTl':=hTl i (j+1)
            have hci : w1.cell? ⟨ba,ja+j,none⟩=some (L.rs[j]).v:=hca j _ (by simp [hj'])
            have oky:=okL.all _ (List.getElem_mem hj')
            generalize L.rs[j]=y at eT hci oky
            generalize tl (L.rs.map aC.l) i j=R at eT ⊢
            rw [eT] at hTl'
            simp only [List.length_append,List.length_cons,List.length_nil] at hTl'
            have hi':=hj'
            rw [hav]
            repeat (first | refine JL.q (by first|(apply OQ.bf;exact Tryz.underlying127;exact gJ;rfl;rfl;exact hi')|(apply OQ.aq;exact slc;rfl;exact (block_lt_of_cell hci);exact (by simp);exact hci)|(apply OQ.move;rfl)) rfl ?_ | refine JC.seq ?_ | refine JC.region ?_ | refine JC.block ?_ | refine JC.skip ?_ | refine JE.next ?_)
            refine JL.append (cs:=(y.l).map U8) (m:=(y.l).length) (ad:=y.ad) (sc:=y.cap) (xs:=R.map U8) (fun b' cap'=>[⟨b',Sl.aO 5 1 (R.length+(y.l).length) cap' (R.map U8++(y.l).map U8),true⟩,⟨b,Sl.aO 5 1 A.length cap (A.map U8),true⟩]) Tryz.underlying22 cc rfl rfl (by intro _ _;repeat (first | exact aL.here | apply aL.there)) (by simp) (fun w' hw'=>(oky.holds hw' rfl).reads) (b5 _) rfl (by decide) (by omega) (by omega) rfl fun b3 cap3=>?_
            repeat (first | refine JL.q (by first|(apply OQ.move;rfl)|(apply OQ.assign;rfl)) rfl ?_ | refine JC.region ?_ | refine JL.nil ?_ | refine JE.next ?_)
            refine JL.fP (v1:=U8 13) (v2:=U8 10) (xs:=(R.map U8++(y.l).map U8)) (fun b' cap'=>[⟨b',Sl.aO 5 1 (R.length+(y.l).length+2) cap' ((R.map U8++(y.l).map U8)++[U8 13,U8 10]),true⟩,⟨b,Sl.aO 5 1 A.length cap (A.map U8),true⟩]) Tryz.underlying22 cc rfl rfl rfl rfl rfl rfl rfl (fun _=>rfl) (by intro _ _;repeat (first | exact aL.here | apply aL.there)) (by omega) (by omega) rfl rfl fun bl2 b4 cap4=>?_
            rw [← hav]
            repeat (first | refine JL.q (by first|(apply OQ.move;rfl)|(apply OQ.assign;rfl)|(apply OQ.bh;rfl;rfl;exact (by (try simp only []);omega))) rfl ?_ | refine JC.region ?_ | refine JL.nil ?_ | refine JE.next ?_ | refine JE.ai ?_)
            refine JE.again (i:=(j,b9,cap9)) (j+1,b4,cap4) ⟨by show i+1≤j+1;omega,by show j+1≤_;omega⟩ (by show L.rs.length - (j+1)<L.rs.length - j;omega) ?_ (.keep _ _ _ _ _ _ (fun o h=>?_) (.keep _ _ _ _ _ _ (fun _ h=>h) (.nil _)))
            · dsimp only
              rw [show (tl (L.rs.map aC.l) i (j+1)).length=R.length+y.l.length+2 by rw [eT];simp;omega]
              exact (by repeat (first | exact af.nil | refine af.cons _ _ _ rfl ?_))
            · dsimp only
              rw [show (tl (L.rs.map aC.l) i (j+1)).length=R.length+y.l.length+2 by rw [eT];simp;omega,show (tl (L.rs.map aC.l) i (j+1)).map U8=R.map U8++y.l.map U8++[U8 13,U8 10] by rw [eT];simp]
              exact h
          · have hj' : ¬ j<L.rs.length:=of_decide_eq_false h
            obtain rfl : j=L.rs.length:=by omega
            clear h hj hj'
            have hTl':=hTl i L.rs.length
            have eR : tl (L.rs.map aC.l) i L.rs.length=aG ((L.rs.map aC.l).drop (i+1)):=by
              rw [← tD,List.length_map]
            rw [← eR] at eU
            generalize tl (L.rs.map aC.l) i L.rs.length=R at hTl' eU ⊢
            repeat (first | refine JL.q (by (apply OQ.move;rfl)) rfl ?_ | refine JC.seq ?_ | refine JC.region ?_ | refine JC.exit ?_ | refine JE.next ?_ | refine JE.ax ?_ | refine JE.aI ?_)
            refine JL.append (cs:=(x.l).map U8) (m:=(x.l).length) (ad:=x.ad) (sc:=x.cap) (xs:=R.map U8) (fun b' cap'=>[⟨b',Sl.aO 5 1 (R.length+(x.l).length) cap' (R.map U8++(x.l).map U8),true⟩,⟨b,Sl.aO 5 1 A.length cap (A.map U8),true⟩]) Tryz.underlying22 cc rfl rfl (by intro _ _;repeat (first | exact aL.here | apply aL.there)) (by simp) (fun w' hw'=>(okx.holds hw' rfl).reads) (b5 _) rfl (by decide) (by omega) (by omega) rfl fun b3 cap3=>?_
            repeat (first | refine JL.q (by (apply OQ.assign;rfl)) rfl ?_ | refine JL.nil ?_ | refine JE.next ?_)
            refine JC.ret ?_
            repeat (first | refine JE.ah ?_ | refine JE.aZ ?_)
            have e9:=hu'.symm.trans eU
            have e10 : mm=A:=(Prod.mk.inj e9).1
            have e11 : rr=R++x.l:=(Prod.mk.inj (Prod.mk.inj e9).2).1
            refine JE.l8 rfl (RV.tmp rfl) (RV.tmp rfl) (RV.tmp rfl) ?_
            rw [← List.map_append,e10,e11]
            refine fun w' hw=>⟨((b,cap),(b3,cap3)),by rw [List.length_append];rfl,under hE ?_⟩
            unfold ay
            rw [List.length_map,List.length_map,List.length_append]
            exact hw
        · have hnone':=hnone' (fun e=>by rw [e] at h1;exact h1 rfl)
          repeat (first | refine JL.q (by first|(apply OQ.bf;exact Tryz.underlying127;exact gJ;rfl;rfl;exact hi')|(apply OQ.aq;exact slc;rfl;exact (block_lt_of_cell hci);exact (by simp);exact hci)|(apply OQ.dL;rfl;rfl;exact (show ¬ ((yl.length : Nat) : Int)=1 by omega))|(apply OQ.aB;rfl;rfl)|(apply OQ.move;rfl)|(apply OQ.len;rfl;rfl)) rfl ?_ | refine JC.seq ?_ | refine JC.region ?_ | refine JC.block ?_ | refine JC.skip ?_ | refine JL.nil ?_ | refine JE.next ?_ | refine JL.aU rfl rfl rfl rfl ?_)
          refine JC.cond_false rfl rfl ?_
          repeat (first | refine JL.q (by first|(apply OQ.bf;exact Tryz.underlying127;exact gJ;rfl;rfl;exact hi')|(apply OQ.aq;exact slc;rfl;exact (block_lt_of_cell hci);exact (by simp);exact hci)|(apply OQ.fh;rfl;rfl;exact h0)|(apply OQ.bf (i:=0);exact Tryz.underlying22;exact bN;rfl;rfl;exact h0)|(apply OQ.aq;exact kO;rfl;exact (block_lt_of_cell hc0);exact (by simp);exact hc0)|(apply OQ.fc;rfl;rfl;rfl)|(apply OQ.az;rfl;rfl)|(apply OQ.move;rfl)|(apply OQ.len;rfl;rfl)) rfl ?_ | refine JC.seq ?_ | refine JC.region ?_ | refine JC.skip ?_ | refine JL.nil ?_ | refine JE.next ?_ | refine JL.aT rfl rfl ?_)
          refine JC.cond_true rfl rfl ?_
          repeat (first | refine JL.q (by first|(apply OQ.bf;exact Tryz.underlying127;exact gJ;rfl;rfl;exact hi')|(apply OQ.aq;exact slc;rfl;exact (block_lt_of_cell hci);exact (by simp);exact hci)|(apply OQ.snd (s:=⟨some ⟨by',jy,none⟩,yc,yl⟩) (m:=1);exact Tryz.underlying22;exact bN;rfl;rfl;exact h0)|(apply OQ.move;rfl)) rfl ?_ | refine JC.region ?_)
          have eN : (fL (L.rs.map aC.l) (i+1)).length=A.length+(yl.drop 1).length+2:=by rw [eT,dm,if_pos hd,← List.drop_one];simp;omega
          have eV : (fL (L.rs.map aC.l) (i+1)).map U8=A.map U8++(yl.drop 1).map U8++[U8 13,U8 10]:=by rw [eT,dm,if_pos hd,← List.drop_one];simp
          rw [eN] at hBl'
          refine JL.append (cs:=(yl.drop 1).map U8) (m:=(yl.drop 1).length) (ad:=(aC.snd ⟨some ⟨by',jy,none⟩,yc,yl⟩ 1).ad) (sc:=yc - 1) (xs:=A.map U8) (fun b' cap'=>[⟨b',Sl.aO 5 1 (A.length+(yl.drop 1).length) cap' (A.map U8++(yl.drop 1).map U8),true⟩]) Tryz.underlying22 cc rfl rfl (by intro _ _;repeat (first | exact aL.here | apply aL.there)) (by simp) (fun w' hw'=>((oky.holds hw' rfl).snd 1 h0).reads) (b5 _) rfl (by decide) (by omega) (by omega) rfl fun b3 cap3=>?_
          repeat (first | refine JL.q (by first|(apply OQ.move;rfl)|(apply OQ.assign;rfl)) rfl ?_ | refine JC.region ?_ | refine JL.nil ?_ | refine JE.next ?_)
          refine JL.fP (v1:=U8 13) (v2:=U8 10) (xs:=(A.map U8++(yl.drop 1).map U8)) (fun b' cap'=>[⟨b',Sl.aO 5 1 (A.length+(yl.drop 1).length+2) cap' ((A.map U8++(yl.drop 1).map U8)++[U8 13,U8 10]),true⟩]) Tryz.underlying22 cc rfl rfl rfl rfl rfl rfl rfl (fun _=>rfl) (by intro _ _;repeat (first | exact aL.here | apply aL.there)) (by omega) (by omega) rfl rfl fun bl2 b4 cap4=>?_
          rw [← hav]
          repeat (first | refine JL.q (by first|(apply OQ.move;rfl)|(apply OQ.assign;rfl)|(apply OQ.bh;rfl;rfl;exact (by (try simp only []);omega))) rfl ?_ | refine JC.region ?_ | refine JL.nil ?_ | refine JE.next ?_ | refine JE.ai ?_)
          refine JE.again (i:=(i,b,cap)) (i+1,b4,cap4) ⟨by show i+1≤_;omega,hnone'⟩ (by show L.rs.length - (i+1)<L.rs.length - i;omega) ?_ (.keep _ _ _ _ _ _ (fun o h=>?_) (.nil _))
          · dsimp only
            rw [eN]
            exact (by repeat (first | exact af.nil | refine af.cons _ _ _ rfl ?_))
          · dsimp only
            rw [eN,eV]
            exact h
      · have hd : ¬ yl.head?=some 46:=by rw [hd0];exact fun e=>c46 (Option.some.inj e)
        have hnone':=hnone' (fun e=>by rw [e] at c46;exact c46 rfl)
        by_cases h1 : yl.length=1
        · repeat (first | refine JL.q (by first|(apply OQ.bf;exact Tryz.underlying127;exact gJ;rfl;rfl;exact hi')|(apply OQ.aq;exact slc;rfl;exact (block_lt_of_cell hci);exact (by simp);exact hci)|(apply OQ.fc;rfl;rfl;exact (show ((yl.length : Nat) : Int)=1 by omega))|(apply OQ.bf (i:=0);exact Tryz.underlying22;exact bN;rfl;rfl;exact h0)|(apply OQ.aq;exact kO;rfl;exact (block_lt_of_cell hc0);exact (by simp);exact hc0)|(apply OQ.dL;rfl;rfl;exact (gr c46))|(apply OQ.az;rfl;rfl)|(apply OQ.move;rfl)|(apply OQ.len;rfl;rfl)) rfl ?_ | refine JC.seq ?_ | refine JC.region ?_ | refine JC.block ?_ | refine JC.skip ?_ | refine JL.nil ?_ | refine JE.next ?_ | refine JL.aT rfl rfl ?_)
          refine JC.cond_false rfl rfl ?_
          repeat (first | refine JL.q (by first|(apply OQ.bf;exact Tryz.underlying127;exact gJ;rfl;rfl;exact hi')|(apply OQ.aq;exact slc;rfl;exact (block_lt_of_cell hci);exact (by simp);exact hci)|(apply OQ.fh;rfl;rfl;exact h0)|(apply OQ.bf (i:=0);exact Tryz.underlying22;exact bN;rfl;rfl;exact h0)|(apply OQ.aq;exact kO;rfl;exact (block_lt_of_cell hc0);exact (by simp);exact hc0)|(apply OQ.dL;rfl;rfl;exact (gr c46))|(apply OQ.az;rfl;rfl)|(apply OQ.move;rfl)|(apply OQ.len;rfl;rfl)) rfl ?_ | refine JC.seq ?_ | refine JC.region ?_ | refine JC.skip ?_ | refine JL.nil ?_ | refine JE.next ?_ | refine JL.aT rfl rfl ?_)
          refine JC.cond_false rfl rfl ?_
          repeat (first | refine JL.q (by first|(apply OQ.bf;exact Tryz.underlying127;exact gJ;rfl;rfl;exact hi')|(apply OQ.aq;exact slc;rfl;exact (block_lt_of_cell hci);exact (by simp);exact hci)|(apply OQ.move;rfl)) rfl ?_ | refine JC.region ?_)
          have eN : (fL (L.rs.map aC.l) (i+1)).length=A.length+(yl).length+2:=by rw [eT,dm,if_neg hd];simp;omega
          have eV : (fL (L.rs.map aC.l) (i+1)).map U8=A.map U8++(yl).map U8++[U8 13,U8 10]:=by rw [eT,dm,if_neg hd];simp
          rw [eN] at hBl'
          refine JL.append (cs:=(yl).map U8) (m:=(yl).length) (ad:=some ⟨by',jy,none⟩) (sc:=yc) (xs:=A.map U8) (fun b' cap'=>[⟨b',Sl.aO 5 1 (A.length+(yl).length) cap' (A.map U8++(yl).map U8),true⟩]) Tryz.underlying22 cc rfl rfl (by intro _ _;repeat (first | exact aL.here | apply aL.there)) (by simp) (fun w' hw'=>(oky.holds hw' rfl).reads) (b5 _) rfl (by decide) (by omega) (by omega) rfl fun b3 cap3=>?_
          repeat (first | refine JL.q (by first|(apply OQ.move;rfl)|(apply OQ.assign;rfl)) rfl ?_ | refine JC.region ?_ | refine JL.nil ?_ | refine JE.next ?_)
          refine JL.fP (v1:=U8 13) (v2:=U8 10) (xs:=(A.map U8++(yl).map U8)) (fun b' cap'=>[⟨b',Sl.aO 5 1 (A.length+(yl).length+2) cap' ((A.map U8++(yl).map U8)++[U8 13,U8 10]),true⟩]) Tryz.underlying22 cc rfl rfl rfl rfl rfl rfl rfl (fun _=>rfl) (by intro _ _;repeat (first | exact aL.here | apply aL.there)) (by omega) (by omega) rfl rfl fun bl2 b4 cap4=>?_
          rw [← hav]
          repeat (first | refine JL.q (by first|(apply OQ.move;rfl)|(apply OQ.assign;rfl)|(apply OQ.bh;rfl;rfl;exact (by (try simp only []);omega))) rfl ?_ | refine JC.region ?_ | refine JL.nil ?_ | refine JE.next ?_ | refine JE.ai ?_)
          refine JE.again (i:=(i,b,cap)) (i+1,b4,cap4) ⟨by show i+1≤_;omega,hnone'⟩ (by show L.rs.length - (i+1)<L.rs.length - i;omega) ?_ (.keep _ _ _ _ _ _ (fun o h=>?_) (.nil _))
          · dsimp only
            rw [eN]
            exact (by repeat (first | exact af.nil | refine af.cons _ _ _ rfl ?_))
          · dsimp only
            rw [eN,eV]
            exact h
        · repeat (first | refine JL.q (by first|(apply OQ.bf;exact Tryz.underlying127;exact gJ;rfl;rfl;exact hi')|(apply OQ.aq;exact slc;rfl;exact (block_lt_of_cell hci);exact (by simp);exact hci)|(apply OQ.dL;rfl;rfl;exact (show ¬ ((yl.length : Nat) : Int)=1 by omega))|(apply OQ.aB;rfl;rfl)|(apply OQ.move;rfl)|(apply OQ.len;rfl;rfl)) rfl ?_ | refine JC.seq ?_ | refine JC.region ?_ | refine JC.block ?_ | refine JC.skip ?_ | refine JL.nil ?_ | refine JE.next ?_ | refine JL.aU rfl rfl rfl rfl ?_)
          refine JC.cond_false rfl rfl ?_
          repeat (first | refine JL.q (by first|(apply OQ.bf;exact Tryz.underlying127;exact gJ;rfl;rfl;exact hi')|(apply OQ.aq;exact slc;rfl;exact (block_lt_of_cell hci);exact (by simp);exact hci)|(apply OQ.fh;rfl;rfl;exact h0)|(apply OQ.bf (i:=0);exact Tryz.underlying22;exact bN;rfl;rfl;exact h0)|(apply OQ.aq;exact kO;rfl;exact (block_lt_of_cell hc0);exact (by simp);exact hc0)|(apply OQ.dL;rfl;rfl;exact (gr c46))|(apply OQ.az;rfl;rfl)|(apply OQ.move;rfl)|(apply OQ.len;rfl;rfl)) rfl ?_ | refine JC.seq ?_ | refine JC.region ?_ | refine JC.skip ?_ | refine JL.nil ?_ | refine JE.next ?_ | refine JL.aT rfl rfl ?_)
          refine JC.cond_false rfl rfl ?_
          repeat (first | refine JL.q (by first|(apply OQ.bf;exact Tryz.underlying127;exact gJ;rfl;rfl;exact hi')|(apply OQ.aq;exact slc;rfl;exact (block_lt_of_cell hci);exact (by simp);exact hci)|(apply OQ.move;rfl)) rfl ?_ | refine JC.region ?_)
          have eN : (fL (L.rs.map aC.l) (i+1)).length=A.length+(yl).length+2:=by rw [eT,dm,if_neg hd];simp;omega
          have eV : (fL (L.rs.map aC.l) (i+1)).map U8=A.map U8++(yl).map U8++[U8 13,U8 10]:=by rw [eT,dm,if_neg hd];simp
          rw [eN] at hBl'
          refine JL.append (cs:=(yl).map U8) (m:=(yl).length) (ad:=some ⟨by',jy,none⟩) (sc:=yc) (xs:=A.map U8) (fun b' cap'=>[⟨b',Sl.aO 5 1 (A.length+(yl).length) cap' (A.map U8++(yl).map U8),true⟩]) Tryz.underlying22 cc rfl rfl (by intro _ _;repeat (first | exact aL.here | apply aL.there)) (by simp) (fun w' hw'=>(oky.holds hw' rfl).reads) (b5 _) rfl (by decide) (by omega) (by omega) rfl fun b3 cap3=>?_
          repeat (first | refine JL.q (by first|(apply OQ.move;rfl)|(apply OQ.assign;rfl)) rfl ?_ | refine JC.region ?_ | refine JL.nil ?_ | refine JE.next ?_)
          refine JL.fP (v1:=U8 13) (v2:=U8 10) (xs:=(A.map U8++(yl).map U8)) (fun b' cap'=>[⟨b',Sl.aO 5 1 (A.length+(yl).length+2) cap' ((A.map U8++(yl).map U8)++[U8 13,U8 10]),true⟩]) Tryz.underlying22 cc rfl rfl rfl rfl rfl rfl rfl (fun _=>rfl) (by intro _ _;repeat (first | exact aL.here | apply aL.there)) (by omega) (by omega) rfl rfl fun bl2 b4 cap4=>?_
          rw [← hav]
          repeat (first | refine JL.q (by first|(apply OQ.move;rfl)|(apply OQ.assign;rfl)|(apply OQ.bh;rfl;rfl;exact (by (try simp only []);omega))) rfl ?_ | refine JC.region ?_ | refine JL.nil ?_ | refine JE.next ?_ | refine JE.ai ?_)
          refine JE.again (i:=(i,b,cap)) (i+1,b4,cap4) ⟨by show i+1≤_;omega,hnone'⟩ (by show L.rs.length - (i+1)<L.rs.length - i;omega) ?_ (.keep _ _ _ _ _ _ (fun o h=>?_) (.nil _))
          · dsimp only
            rw [eN]
            exact (by repeat (first | exact af.nil | refine af.cons _ _ _ rfl ?_))
          · dsimp only
            rw [eN,eV]
            exact h
    · obtain rfl : yl=[]:=List.eq_nil_of_length_eq_zero (by omega)
      have hd : ¬ ([] : List bE.By).head?=some 46:=fun e=>by cases e
      have hnone':=hnone' (fun e=>by cases e)
      repeat (first | refine JL.q (by first|(apply OQ.bf;exact Tryz.underlying127;exact gJ;rfl;rfl;exact hi')|(apply OQ.aq;exact slc;rfl;exact (block_lt_of_cell hci);exact (by simp);exact hci)|(apply OQ.dL;rfl;rfl;exact (show ¬ ((0 : Nat) : Int)=1 by decide))|(apply OQ.aB;rfl;rfl)|(apply OQ.move;rfl)|(apply OQ.len;rfl;rfl)) rfl ?_ | refine JC.seq ?_ | refine JC.region ?_ | refine JC.block ?_ | refine JC.skip ?_ | refine JL.nil ?_ | refine JE.next ?_ | refine JL.aU rfl rfl rfl rfl ?_)
      refine JC.cond_false rfl rfl ?_
      repeat (first | refine JL.q (by first|(apply OQ.bf;exact Tryz.underlying127;exact gJ;rfl;rfl;exact hi')|(apply OQ.aq;exact slc;rfl;exact (block_lt_of_cell hci);exact (by simp);exact hci)|(apply OQ.kM;rfl;rfl;exact h0)|(apply OQ.aB;rfl;rfl)|(apply OQ.move;rfl)|(apply OQ.len;rfl;rfl)) rfl ?_ | refine JC.seq ?_ | refine JC.region ?_ | refine JC.skip ?_ | refine JL.nil ?_ | refine JE.next ?_ | refine JL.aU rfl rfl rfl rfl ?_)
      refine JC.cond_false rfl rfl ?_
      repeat (first | refine JL.q (by first|(apply OQ.bf;exact Tryz.underlying127;exact gJ;rfl;rfl;exact hi')|(apply OQ.aq;exact slc;rfl;exact (block_lt_of_cell hci);exact (by simp);exact hci)|(apply OQ.move;rfl)) rfl ?_ | refine JC.region ?_)
      have eN : (fL (L.rs.map aC.l) (i+1)).length=A.length+(([] : List bE.By)).length+2:=by rw [eT,dm,if_neg hd];simp
      have eV : (fL (L.rs.map aC.l) (i+1)).map U8=A.map U8++(([] : List bE.By)).map U8++[U8 13,U8 10]:=by rw [eT,dm,if_neg hd];simp
      rw [eN] at hBl'
      refine JL.append (cs:=(([] : List bE.By)).map U8) (m:=(([] : List bE.By)).length) (ad:=ad) (sc:=yc) (xs:=A.map U8) (fun b' cap'=>[⟨b',Sl.aO 5 1 (A.length+(([] : List bE.By)).length) cap' (A.map U8++(([] : List bE.By)).map U8),true⟩]) Tryz.underlying22 cc rfl rfl (by intro _ _;repeat (first | exact aL.here | apply aL.there)) (by simp) (fun w' hw'=>(oky.holds hw' rfl).reads) (b5 _) rfl (by decide) (by omega) (by omega) rfl fun b3 cap3=>?_
      repeat (first | refine JL.q (by first|(apply OQ.move;rfl)|(apply OQ.assign;rfl)) rfl ?_ | refine JC.region ?_ | refine JL.nil ?_ | refine JE.next ?_)
      refine JL.fP (v1:=U8 13) (v2:=U8 10) (xs:=(A.map U8++(([] : List bE.By)).map U8)) (fun b' cap'=>[⟨b',Sl.aO 5 1 (A.length+(([] : List bE.By)).length+2) cap' ((A.map U8++(([] : List bE.By)).map U8)++[U8 13,U8 10]),true⟩]) Tryz.underlying22 cc rfl rfl rfl rfl rfl rfl rfl (fun _=>rfl) (by intro _ _;repeat (first | exact aL.here | apply aL.there)) (by omega) (by omega) rfl rfl fun bl2 b4 cap4=>?_
      rw [← hav]
      repeat (first | refine JL.q (by first|(apply OQ.move;rfl)|(apply OQ.assign;rfl)|(apply OQ.bh;rfl;rfl;exact (by (try simp only []);omega))) rfl ?_ | refine JC.region ?_ | refine JL.nil ?_ | refine JE.next ?_ | refine JE.ai ?_)
      refine JE.again (i:=(i,b,cap)) (i+1,b4,cap4) ⟨by show i+1≤_;omega,hnone'⟩ (by show L.rs.length - (i+1)<L.rs.length - i;omega) ?_ (.keep _ _ _ _ _ _ (fun o h=>?_) (.nil _))
      · dsimp only
        rw [eN]
        exact (by repeat (first | exact af.nil | refine af.cons _ _ _ rfl ?_))
      · dsimp only
        rw [eN,eV]
        exact h
  · have hi' : ¬ i<L.rs.length:=of_decide_eq_false h
    obtain rfl : i=L.rs.length:=by omega
    clear h hi hi'
    rw [List.take_of_length_le (by rw [List.length_map];exact Nat.le_refl _)] at hnone
    have eU : kC s.l=([],[],7):=by
      unfold kC
      rw [eUB,iX _ hnone]
      rfl
    rw [hu'] at eU
    cases eU
end
section
set_option maxRecDepth 10000
open Sl
namespace dx
theorem oO : aK Tryz.prog 8:=⟨_,Tryz.func8,rfl,by kernel_rfl⟩
theorem gG : aK Tryz.prog 30:=⟨_,Tryz.func30,rfl,by kernel_rfl⟩
def xQ : Tw:=⟨0,[],none,[],[],none,[],false⟩
theorem oP : Program.built Tryz.prog 33 []=some xQ.cs.toArray:=by kernel_rfl
theorem OQ.fN {P : Program} {n : Nat} {w0 : World} {S : List Nat} {E : Env} {M : List aF} {dst : Option Tmp} {t ty : TypeId} {pos : String} {aft : Array Edge} {g : Option (Nat × Bool)} {x : Operand} {b j : Nat} {v : Value} (hs : eu P t=true) (hx : ev E x=some (.pointer (some ⟨b,j,none⟩))) (hc : ∀ w,aa w0 S M w→w.cell? ⟨b,j,none⟩=some v) : OQ P n E (aa w0 S M) ⟨dst,.load t x,ty,pos,aft,g⟩ v:=
  OQ.iE (fun w hw=>di hs (by simpa [World.cell?] using hc w hw)) hx
theorem rH : eu Tryz.prog 5=true:=by kernel_rfl
theorem rI (S : Po) (l : List By) (h : S.st=0→S.fr=[]∧S.to=[]) : (aX S l).1.st=0→(aX S l).1.fr=[]∧(aX S l).1.to=[]:=by
  unfold aX
  split
  · exact h
  split
  · unfold cZ
    split
    · exact fun e=>by cases e
    · exact h
  split
  · unfold bM
    split
    · exact h
    · split
      · exact fun e=>by cases e
      · exact h
  split
  · unfold c9
    split
    · exact h
    · split
      · split
        · exact h
        · exact fun e=>by cases e
      · exact h
  split
  · unfold cx
    split
    · split
      · exact fun e=>by cases e
      · exact h
    · exact h
  split
  · unfold ct
    split
    · split
      · exact h
      · exact fun e=>by cases e
    · exact h
  split
  · unfold eK
    split
    · exact fun e=>by cases e
    · exact h
  · exact h
theorem pZ (S : Po) (l : List By) : (aX S l).1.ms=S.ms:=by
  unfold aX
  split
  · rfl
  split
  · unfold cZ
    split <;> rfl
  split
  · unfold bM
    repeat' split
    all_goals rfl
  split
  · unfold c9
    repeat' split
    all_goals rfl
  split
  · unfold cx
    repeat' split
    all_goals rfl
  split
  · unfold ct
    repeat' split
    all_goals rfl
  split
  · unfold eK
    split <;> rfl
  · rfl
theorem vn (S : Po) (l : List By) (h : S.st≤3) : (aX S l).1.st≤5:=by
  unfold aX
  split
  · show S.st≤5;omega
  split
  · unfold cZ
    split
    · show 1≤5;omega
    · show S.st≤5;omega
  split
  · unfold bM
    split
    · show S.st≤5;omega
    · split
      · show 2≤5;omega
      · show S.st≤5;omega
  split
  · unfold c9
    split
    · show S.st≤5;omega
    · split
      · split
        · show S.st≤5;omega
        · show 3≤5;omega
      · show S.st≤5;omega
  split
  · unfold cx
    split
    · split
      · show 4≤5;omega
      · show S.st≤5;omega
    · show S.st≤5;omega
  split
  · unfold ct
    split
    · split
      · show S.st≤5;omega
      · show 1≤5;omega
    · show S.st≤5;omega
  split
  · unfold eK
    split
    · show 5≤5;omega
    · show S.st≤5;omega
  · show S.st≤5;omega
structure Rn where
  z : Tw
  S : Po
  O : List Bt
  r : aC
  N : List aF
structure Rn.good (b : Nat) (w : World) (s : aC) (x : Rn) : Prop where
  ok : x.z.ok
  is : x.z.is x.S x.O
  ln : x.S.ln=[]
  st : x.S.st≠4
  yP : x.S.st≤5
  dt : x.S.dt=[]
  to : x.S.to.length≤10
  nW : x.S.st=0→x.S.fr=[]∧x.S.to=[]
  hr : ∀ (w' : World) (X : List aF),aa w [] (X++x.N) w'→x.r.ok w'
  rl : x.r.l.length≤5000
  ol : x.O.length+22 * x.r.l.length≤200000
  ml : x.S.ms.length+x.r.l.length≤5000
  fe : an new s.l=((an x.S x.r.l).1,x.O++(an x.S x.r.l).2)
def vV (s : aC) (w : World) : Ending→World→Prop:=fun e w'=>∃ y : Nat × Tw,(y.2.ok∧y.2.out=(an new s.l).2∧y.2.zs.map Mz.m=(an new s.l).1.ms∧y.2.cl=decide ((an new s.l).1.st=5))∧e=.returned (Pt y.1 0)∧aa w [] (y.2.E y.1) w'
set_option maxHeartbeats 64000000 in
theorem lf (s : aC) (w : World) (hs : s.ok w) (hl : s.l.length≤5000) : Calls Tryz.prog 8 [s.v].toArray w (vV s w):=by
  unfold vV
  refine enter (n:=103) Tryz.func8 rfl rfl rfl (aa.start w []) ?_
  repeat (first | refine JL.q (by first|(apply OQ.dY (cs:=xQ.cs) (vs:=[]) (is:=[]) (xs:=[]);rfl;rfl;exact oP)|(apply OQ.assign;rfl)) rfl ?_ | refine JC.seq ?_ | refine JC.region ?_ | refine JL.nil ?_ | refine JE.next ?_)
  refine JL.box (r:=xQ.cs) rfl rfl rfl fun b _=>?_
  repeat (first | refine JL.q (by first|(apply OQ.move;rfl)|(apply OQ.assign;rfl)) rfl ?_ | refine JC.seq ?_ | refine JC.region ?_ | refine JL.nil ?_ | refine JE.next ?_)
  refine JL.pX (z:=xQ) 0 rfl rfl rfl fun b2=>?_
  repeat (first | refine JC.seq ?_ | refine JC.block ?_ | refine JL.nil ?_ | refine JE.next ?_)
  refine JC.loop (ι:=Rn) (fun x=>[(0,x.r.v),(3,Pt b 0)]) (fun x=>x.z.E b++x.N) (fun x=>x.r.l.length) (fun x=>x.good b w s) ⟨xQ.bL 0 b2,new,[],s,[]⟩ ⟨⟨nofun,fun _=>rfl⟩,⟨rfl,rfl,rfl,fun _=>⟨rfl,rfl,rfl⟩⟩,rfl,by show 0≠4;decide,by show 0≤5;decide,rfl,Nat.zero_le _,fun _=>⟨rfl,rfl⟩,fun w' X hw'=>hs.ext hw'.aS,hl,by show 0+22 * s.l.length≤_;omega,by show 0+s.l.length≤_;omega,by show an new s.l=(_,[]++_);rw [List.nil_append]⟩ (by repeat (first | exact af.nil | refine af.cons _ _ _ rfl ?_)) (av.refl _) ?_
  rintro ⟨z,S,O,r,Ns⟩ g
  obtain ⟨ok,is,hln,hst4,hst5,hdt,hto,hcold,hr,hrl,hol,hml,hfe⟩:=g
  dsimp only at ok is hln hst4 hst5 hdt hto hcold hr hrl hol hml hfe ⊢
  cases h5 : decide (S.st=5) with
  | true=>
    have hcl : z.cl=true:=is.cl.trans h5
    have hfe2:=lH hfe (fZ (of_decide_eq_true h5) r.l)
    rw [hfe2]
    repeat (first | refine JL.q (by first|(apply OQ.load;exact oM;rfl;exact .here;exact (Row.cell (v:=.bool z.cl) rfl))|(apply OQ.move;rfl)|(apply OQ.aJ;rfl)|(apply OQ.bA;rfl;rfl;rfl;exact (by decide);rfl)) rfl ?_ | refine JC.seq ?_ | refine JC.region ?_)
    rw [hcl]
    repeat (first | refine JL.q (by (apply OQ.not;rfl)) rfl ?_ | refine JL.nil ?_ | refine JE.next ?_)
    refine JC.cond_false rfl rfl ?_
    repeat (first | refine JL.q (by first|(apply OQ.move;rfl)|(apply OQ.assign;rfl)) rfl ?_ | refine JC.seq ?_ | refine JC.region ?_ | refine JC.exit ?_ | refine JL.nil ?_ | refine JE.next ?_ | refine JE.ax ?_ | refine JE.aI ?_)
    refine JC.ret ?_
    skip
    exact JE.aE rfl (RV.tmp rfl) fun w' hw=>⟨(b,z),⟨ok,is.out,is.ms,is.cl⟩,rfl,hw.weak (c6 _ _)⟩
  | false=>
    have h5' : S.st≠5:=of_decide_eq_false h5
    have hcl : z.cl=false:=is.cl.trans h5
    repeat (first | refine JL.q (by first|(apply OQ.load;exact oM;rfl;exact .here;exact (Row.cell (v:=.bool z.cl) rfl))|(apply OQ.move;rfl)|(apply OQ.aJ;rfl)|(apply OQ.bA;rfl;rfl;rfl;exact (by decide);rfl)) rfl ?_ | refine JC.seq ?_ | refine JC.region ?_)
    rw [hcl]
    repeat (first | refine JL.q (by (apply OQ.not;rfl)) rfl ?_ | refine JL.nil ?_ | refine JE.next ?_)
    refine JC.cond_true rfl rfl ?_
    refine JC.skip (JE.next ?_)
    refine JC.block ?_
    refine JC.seq (JC.region ?_)
    repeat (refine JL.q (by (apply OQ.assign;rfl)) rfl ?_)
    refine JL.nil (JE.next ?_)
    have hget : ∀ {rb rj : Nat},r.ad=some ⟨rb,rj,none⟩→∀ i,i<r.l.length→∀ w',aa w [] (z.E b++Ns) w'→w'.cell? ⟨rb,rj+i,none⟩=some (U8 (r.l.getD i 0)):=fun {rb rj} had i hi w' hw'=>by
      obtain ⟨b',j',h1,h2⟩:=(hr w' _ hw').reads.at (by rw [List.length_map];omega)
      rw [had] at h1
      cases h1
      exact h2 i _ (dU U8 0 hi)
    refine JC.mid (ι:=Nat) (fun i=>[(0,r.v),(3,Pt b 0),(4,N i)]) (fun _=>z.E b++Ns) (fun i=>(i=r.l.length∧bE.cG r.l)∨(i+2≤r.l.length∧bE.bD r.l i∧∀ j,j<i→¬ bE.bD r.l j)) ?_ ?_
    · repeat (refine JC.block ?_)
      refine JC.loop (fun i : Nat=>[(0,r.v),(3,Pt b 0),(4,N i)]) (fun _=>z.E b++Ns) (fun i=>r.l.length - i) (fun i=>i≤r.l.length∧∀ j,j<i→¬ bE.bD r.l j) 0 ⟨Nat.zero_le _,fun j hj=>absurd hj (Nat.not_lt_zero _)⟩ (by repeat (first | exact af.nil | refine af.cons _ _ _ rfl ?_)) (av.refl _) ?_
      rintro i ⟨hi,hno⟩
      cases c0 : decide ((i : Int)<(r.l.length : Nat)) with
      | false=>
        have hi' : i=r.l.length:=by have:=of_decide_eq_false c0;omega
        repeat (first | refine JL.q (by first|(apply OQ.len (k:=r.l.length) (ad:=r.ad) (cap:=r.cap);exact Tryz.underlying22;rfl)|(apply OQ.cU (a:=(i : Int)) (b:=(r.l.length : Nat));rfl;rfl;exact c0)|(apply OQ.aB;rfl;rfl)|(apply OQ.move;rfl)) rfl ?_ | refine JC.seq ?_ | refine JC.region ?_ | refine JL.nil ?_ | refine JE.next ?_ | refine JL.aU rfl rfl rfl rfl ?_ | refine JL.iT rfl rfl rfl rfl ?_)
        refine JC.cond_false rfl rfl ?_
        repeat (first | refine JC.exit ?_ | refine JE.ax ?_ | refine JE.aI ?_)
        refine JE.mid i (.inl ⟨hi',fun j hj=>?_⟩) (by repeat (first | exact af.nil | refine af.cons _ _ _ rfl ?_)) (av.refl _)
        have hl2:=(List.getElem?_eq_some_iff.1 hj.2).1
        exact hno j (by omega) hj
      | true=>
        have hi' : i<r.l.length:=by have:=of_decide_eq_true c0;omega
        refine JC.lF (F:=∃ rb rj,r.ad=some ⟨rb,rj,none⟩) (fun w' hw'=>?_) fun hk=>?_
        · obtain ⟨b',j',h1,_⟩:=(hr w' _ hw').reads.at (by rw [List.length_map];omega)
          exact ⟨b',j',h1⟩
        obtain ⟨rb,rj,had⟩:=hk
        have hrv : r.v=.slice (some ⟨rb,rj,none⟩) r.l.length r.cap:=by unfold aC.v;rw [had]
        have hg0:=hget had i hi'
        have hp0 : Pt rb (rj+i * 1)=Pt rb (rj+i):=by rw [Nat.mul_one]
        have hp1 : Pt rb (rj+(i+1) * 1)=Pt rb (rj+(i+1)):=by rw [Nat.mul_one]
        rw [hrv]
        cases c13 : decide (r.l.getD i 0=13) with
        | false=>
          repeat (first | refine JL.q (by first|(apply OQ.len (k:=r.l.length) (ad:=some ⟨rb,rj,none⟩) (cap:=r.cap);exact Tryz.underlying22;rfl)|(apply OQ.cU (a:=(i : Int)) (b:=(r.l.length : Nat));rfl;rfl;exact c0)|(apply OQ.to;exact (OQ.cX (k:=.i64) (i:=i) (sz:=1) Tryz.underlying22 ec rfl rfl hi');exact hp0)|(apply OQ.fN;exact rH;rfl;exact hg0)|(apply OQ.ck (b:=13);rfl;rfl;exact c13)|(apply OQ.aB;rfl;rfl)|(apply OQ.az;rfl;rfl)|(apply OQ.not;rfl)|(apply OQ.move;rfl)) rfl ?_ | refine JC.seq ?_ | refine JC.region ?_ | refine JL.nil ?_ | refine JE.next ?_ | refine JL.aT rfl rfl ?_ | refine JL.aU rfl rfl rfl rfl ?_)
          refine JC.cond_true rfl rfl ?_
          repeat (first | refine JL.q (by first|(apply OQ.move;rfl)|(apply OQ.assign;rfl)|(apply OQ.bh;rfl;rfl;exact (by (try simp only []);omega))) rfl ?_ | refine JC.region ?_ | refine JC.block ?_ | refine JC.skip ?_ | refine JL.nil ?_ | refine JE.next ?_ | refine JE.ai ?_)
          refine JE.again (i:=i) (i+1) ⟨hi',fun j hj hh=>?_⟩ (by show r.l.length - (i+1)<r.l.length - i;omega) (by repeat (first | exact af.nil | refine af.cons _ _ _ rfl ?_)) (av.refl _)
          rcases Nat.lt_or_eq_of_le (Nat.le_of_lt_succ hj) with h | rfl
          · exact hno j h hh
          · refine of_decide_eq_false c13 ?_
            rw [List.getD_eq_getElem?_getD,hh.1]
            rfl
        | true=>
          cases c1 : decide ((((i+1 : Nat)) : Int)<(r.l.length : Nat)) with
          | false=>
            repeat (first | refine JL.q (by first|(apply OQ.len (k:=r.l.length) (ad:=some ⟨rb,rj,none⟩) (cap:=r.cap);exact Tryz.underlying22;rfl)|(apply OQ.cU (a:=(i : Int)) (b:=(r.l.length : Nat));rfl;rfl;exact c0)|(apply OQ.cU (a:=((i+1 : Nat) : Int)) (b:=(r.l.length : Nat));rfl;rfl;exact c1)|(apply OQ.to;exact (OQ.cX (k:=.i64) (i:=i) (sz:=1) Tryz.underlying22 ec rfl rfl hi');exact hp0)|(apply OQ.fN;exact rH;rfl;exact hg0)|(apply OQ.ck (b:=13);rfl;rfl;exact c13)|(apply OQ.aB;rfl;rfl)|(apply OQ.az;rfl;rfl)|(apply OQ.not;rfl)|(apply OQ.move;rfl)|(apply OQ.bh;rfl;rfl;exact (by (try simp only []);omega))) rfl ?_ | refine JC.seq ?_ | refine JC.region ?_ | refine JL.nil ?_ | refine JE.next ?_ | refine JL.aT rfl rfl ?_ | refine JL.aU rfl rfl rfl rfl ?_)
            refine JC.cond_true rfl rfl ?_
            repeat (first | refine JL.q (by first|(apply OQ.move;rfl)|(apply OQ.assign;rfl)|(apply OQ.bh;rfl;rfl;exact (by (try simp only []);omega))) rfl ?_ | refine JC.region ?_ | refine JC.block ?_ | refine JC.skip ?_ | refine JL.nil ?_ | refine JE.next ?_ | refine JE.ai ?_)
            refine JE.again (i:=i) (i+1) ⟨hi',fun j hj hh=>?_⟩ (by show r.l.length - (i+1)<r.l.length - i;omega) (by repeat (first | exact af.nil | refine af.cons _ _ _ rfl ?_)) (av.refl _)
            rcases Nat.lt_or_eq_of_le (Nat.le_of_lt_succ hj) with h | rfl
            · exact hno j h hh
            · have hl2:=(List.getElem?_eq_some_iff.1 hh.2).1
              have:=of_decide_eq_false c1
              omega
          | true=>
            have hi1 : i+1<r.l.length:=by have:=of_decide_eq_true c1;omega
            have hg1:=hget had (i+1) hi1
            cases c10 : decide (r.l.getD (i+1) 0=10) with
            | false=>
              repeat (first | refine JL.q (by first|(apply OQ.len (k:=r.l.length) (ad:=some ⟨rb,rj,none⟩) (cap:=r.cap);exact Tryz.underlying22;rfl)|(apply OQ.cU (a:=(i : Int)) (b:=(r.l.length : Nat));rfl;rfl;exact c0)|(apply OQ.cU (a:=((i+1 : Nat) : Int)) (b:=(r.l.length : Nat));rfl;rfl;exact c1)|(apply OQ.to;exact (OQ.cX (k:=.i64) (i:=i) (sz:=1) Tryz.underlying22 ec rfl rfl hi');exact hp0)|(apply OQ.to;exact (OQ.cX (k:=.i64) (i:=i+1) (sz:=1) Tryz.underlying22 ec rfl rfl hi1);exact hp1)|(apply OQ.fN;exact rH;rfl;exact hg0)|(apply OQ.fN;exact rH;rfl;exact hg1)|(apply OQ.ck (b:=13);rfl;rfl;exact c13)|(apply OQ.ck (b:=10);rfl;rfl;exact c10)|(apply OQ.az;rfl;rfl)|(apply OQ.not;rfl)|(apply OQ.move;rfl)|(apply OQ.bh;rfl;rfl;exact (by (try simp only []);omega))) rfl ?_ | refine JC.seq ?_ | refine JC.region ?_ | refine JL.nil ?_ | refine JE.next ?_ | refine JL.aT rfl rfl ?_)
              refine JC.cond_true rfl rfl ?_
              repeat (first | refine JL.q (by first|(apply OQ.move;rfl)|(apply OQ.assign;rfl)|(apply OQ.bh;rfl;rfl;exact (by (try simp only []);omega))) rfl ?_ | refine JC.region ?_ | refine JC.block ?_ | refine JC.skip ?_ | refine JL.nil ?_ | refine JE.next ?_ | refine JE.ai ?_)
              refine JE.again (i:=i) (i+1) ⟨hi',fun j hj hh=>?_⟩ (by show r.l.length - (i+1)<r.l.length - i;omega) (by repeat (first | exact af.nil | refine af.cons _ _ _ rfl ?_)) (av.refl _)
              rcases Nat.lt_or_eq_of_le (Nat.le_of_lt_succ hj) with h | rfl
              · exact hno j h hh
              · refine of_decide_eq_false c10 ?_
                rw [List.getD_eq_getElem?_getD,hh.2]
                rfl
            | true=>
              repeat (first | refine JL.q (by first|(apply OQ.len (k:=r.l.length) (ad:=some ⟨rb,rj,none⟩) (cap:=r.cap);exact Tryz.underlying22;rfl)|(apply OQ.cU (a:=(i : Int)) (b:=(r.l.length : Nat));rfl;rfl;exact c0)|(apply OQ.cU (a:=((i+1 : Nat) : Int)) (b:=(r.l.length : Nat));rfl;rfl;exact c1)|(apply OQ.to;exact (OQ.cX (k:=.i64) (i:=i) (sz:=1) Tryz.underlying22 ec rfl rfl hi');exact hp0)|(apply OQ.to;exact (OQ.cX (k:=.i64) (i:=i+1) (sz:=1) Tryz.underlying22 ec rfl rfl hi1);exact hp1)|(apply OQ.fN;exact rH;rfl;exact hg0)|(apply OQ.fN;exact rH;rfl;exact hg1)|(apply OQ.ck (b:=13);rfl;rfl;exact c13)|(apply OQ.ck (b:=10);rfl;rfl;exact c10)|(apply OQ.az;rfl;rfl)|(apply OQ.not;rfl)|(apply OQ.move;rfl)|(apply OQ.bh;rfl;rfl;exact (by (try simp only []);omega))) rfl ?_ | refine JC.seq ?_ | refine JC.region ?_ | refine JL.nil ?_ | refine JE.next ?_ | refine JL.aT rfl rfl ?_)
              refine JC.cond_false rfl rfl ?_
              repeat (first | refine JC.exit ?_ | refine JE.ax ?_ | refine JE.aI ?_)
              refine JE.mid i (.inr ⟨by omega,⟨?_,?_⟩,hno⟩) (by repeat (first | exact af.nil | refine af.cons _ _ _ rfl ?_)) (av.refl _)
              · have:=of_decide_eq_true c13
                rw [List.getD_eq_getElem?_getD,List.getElem?_eq_getElem hi'] at this
                rw [List.getElem?_eq_getElem hi']
                exact congrArg some this
              · have:=of_decide_eq_true c10
                rw [List.getD_eq_getElem?_getD,List.getElem?_eq_getElem hi1] at this
                rw [List.getElem?_eq_getElem hi1]
                exact congrArg some this
    · rintro i (⟨hie,hno⟩ | ⟨hi2,hend,hno⟩)
      · have hfe2 : an new s.l=(⟨S.st,S.fr,S.to,S.ln++r.l,S.dt,S.ms⟩,O):=by
          rw [hfe,eG r.l S h5' (by rw [hln];exact hno),List.append_nil]
        rw [hfe2]
        repeat (first | refine JL.q (by first|(apply OQ.len (k:=r.l.length) (ad:=r.ad) (cap:=r.cap);exact Tryz.underlying22;rfl)|(apply OQ.eX (a:=i) (b:=r.l.length);rfl;rfl;exact (decide_eq_true hie))|(apply OQ.move;rfl)) rfl ?_ | refine JC.seq ?_ | refine JC.region ?_ | refine JL.nil ?_ | refine JE.next ?_)
        refine JC.cond_true rfl rfl ?_
        repeat (first | refine JL.q (by first|(apply OQ.move;rfl)|(apply OQ.assign;rfl)) rfl ?_ | refine JC.seq ?_ | refine JC.region ?_ | refine JL.nil ?_ | refine JE.next ?_)
        refine JC.ret ?_
        repeat (first | refine JE.ah ?_ | refine JE.aZ ?_)
        exact JE.aE rfl (RV.tmp rfl) fun w' hw=>⟨(b,z),⟨ok,is.out,is.ms,is.cl⟩,rfl,hw.weak (c6 _ _)⟩
      · have hine : decide (i=r.l.length)=false:=decide_eq_false (by omega)
        have hrlen : ∀ w',aa w [] (z.E b++Ns) w'→r.ok w':=fun w' hw'=>hr w' _ hw'
        refine JC.lF (F:=r.l.length≤r.cap) (fun w' hw'=>(hr w' _ hw').len) fun hrcap=>?_
        repeat (first | refine JL.q (by first|(apply OQ.len (k:=r.l.length) (ad:=r.ad) (cap:=r.cap);exact Tryz.underlying22;rfl)|(apply OQ.eX (a:=i) (b:=r.l.length);rfl;rfl;exact hine)|(apply OQ.move;rfl)) rfl ?_ | refine JC.seq ?_ | refine JC.region ?_ | refine JL.nil ?_ | refine JE.next ?_)
        refine JC.cond_false rfl rfl ?_
        repeat (first | refine JL.q (by first|(apply OQ.fst (s:=r) (m:=i);exact Tryz.underlying22;exact ec;rfl;rfl;exact (by omega);exact hrcap)|(apply OQ.nF (s:=r.fst i);exact Tryz.underlying22;exact Tryz.underlying5;exact Tryz.underlying9;rfl;exact (fun w' hw'=>(hrlen w' hw').fst i))|(apply OQ.snd (s:=r) (m:=i+2);exact Tryz.underlying22;exact ec;rfl;rfl;exact (by omega))|(apply OQ.move;rfl)|(apply OQ.assign;rfl)|(apply OQ.bh;rfl;rfl;exact (by (try simp only []);omega))) rfl ?_ | refine JC.seq ?_ | refine JC.region ?_ | refine JC.skip ?_ | refine JL.nil ?_ | refine JE.next ?_)
        obtain ⟨line,hline⟩ : ∃ line,r.l.take i=line:=⟨_,rfl⟩
        have hlinel : line.length≤5000:=by rw [← hline,List.length_take];omega
        rw [show (r.fst i).l=line from hline]
        have hfa:=lD h5' hln hend hno
        rw [hline] at hfa
        have hans : aV S line=((aX S line).1,(aX S line).2++[13,10]):=if_neg hst4
        rw [hans] at hfa
        have hol9:=oE S line
        have hs3 : S.st≤3:=by omega
        have ofit:=jg S line hto
        have ocold:=rI S line hcold
        have ost:=vn S line hs3
        have oms:=pZ S line
        have odt : (aX S line).1.dt=[]:=by
          rcases pP S line with e | e
          · rw [e,hdt]
          · exact e
        obtain ⟨r2,hr2⟩ : ∃ r2,r.snd (i+2)=r2:=⟨_,rfl⟩
        have hr2l : r2.l=r.l.drop (i+2):=by rw [← hr2];rfl
        have hr2n : r2.l.length=r.l.length - (i+2):=by rw [hr2l,List.length_drop]
        have hr2ok : ∀ (w' : World) (X : List aF),aa w [] (X++Ns) w'→r2.ok w':=fun w' X hw'=>by rw [← hr2];exact (hr w' X hw').snd _ (by omega)
        rw [hr2]
        have hcm : ∀ w',aa w' (keys (z.E b)) (z.E b) w'→Calls Tryz.prog 29 [Pt b 0,Z line].toArray w' (vU (keys (z.E b)) b (aX S line) O w'):=fun w' hw'=>nB b z S O ok is hs3 hto hcold line (by omega) (by omega) w' hw'
        generalize aX S line=R at hfa hol9 ofit ocold ost oms odt hcm
        rw [← hr2l] at hfa
        have hfe2 : an new s.l=((an R.1 r2.l).1,O++(R.2++[13,10])++(an R.1 r2.l).2):=by rw [hfe,hfa];simp only [List.append_assoc]
        have hol2 : (O++(R.2++[13,10])).length+22 * r2.l.length+11≤200000:=by
          simp only [List.length_append,List.length_cons,List.length_nil]
          omega
        obtain ⟨O2,hO2⟩ : ∃ O2,O++(R.2++[13,10])=O2:=⟨_,rfl⟩
        rw [hO2] at hfe2 hol2
        refine JL.fQ (X:=z.E b) (M0:=Ns) (ι:={y : Tw // y.ok∧y.is R.1 O2}) (vs:=[Pt b 0,Z line]) (fun _=>.bool (decide (R.1.st=4))) (fun y=>y.1.E b) oN rfl rfl (z.wr b) (fun y=>Tw.wr b _) (fun w' _ hx=>(hcm w' hx).mono fun e w2 ⟨y,h1,h2,h3⟩=>⟨⟨y,hO2 ▸ h1⟩,h2,h3⟩) fun y=>?_
        obtain ⟨y,yok,yis⟩:=y
        dsimp only
        clear hcm hfa hans
        cases h4 : decide (R.1.st=4) with
        | false=>
          repeat (first | refine JL.q (by (apply OQ.not;rfl)) rfl ?_ | refine JL.nil ?_ | refine JE.next ?_)
          refine JC.cond_true rfl rfl ?_
          repeat (first | refine JC.exit ?_ | refine JE.ax ?_ | refine JE.aI ?_)
          exact JE.again (i:=(⟨z,S,O,r,Ns⟩ : Rn)) (⟨y,R.1,O2,r2,Ns⟩ : Rn) ⟨yok,yis,ofit.2.2.trans hln,of_decide_eq_false h4,ost,odt,ofit.1,ocold,hr2ok,by show r2.l.length≤5000;omega,by show O2.length+22 * r2.l.length≤_;omega,by show R.1.ms.length+r2.l.length≤_;rw [oms];omega,hfe2⟩ (by show r2.l.length<r.l.length;omega) (by repeat (first | exact af.nil | refine af.cons _ _ _ rfl ?_)) (av.refl _)
        | true=>
          have h4' : R.1.st=4:=of_decide_eq_true h4
          obtain ⟨yst,yfr,yto⟩:=yis.op (by omega)
          rw [if_pos h4'] at yst
          repeat (first | refine JL.q (by (apply OQ.not;rfl)) rfl ?_ | refine JL.nil ?_ | refine JE.next ?_)
          refine JC.cond_false rfl rfl ?_
          repeat (first | refine JL.q (by (apply OQ.move;rfl)) rfl ?_ | refine JC.seq ?_ | refine JC.region ?_ | refine JC.skip ?_ | refine JE.next ?_)
          cases hu : bE.eY r2.l with
          | none=>
            have hdn:=q8 _ r2.l R.1 (Nat.le_refl _) h4' (ofit.2.2.trans hln) hu
            have hua : kC r2.l=([],[],7):=by unfold kC;rw [hu]
            have hcu : ∀ w',aa w [] (y.E b++Ns) w'→Calls Tryz.prog 30 [r2.v].toArray w' fun e w2=>∃ q : aC × aC,e=.returned (.tuple #[q.1.v,q.2.v,N 7])∧aa w' [] [] w2:=fun w' hw'=>by
              have:=qW r2 w' (hr2ok w' _ hw') (by omega)
              rw [hua] at this
              exact this.mono fun e w2 ⟨q,h1,_,_,h2,_⟩=>⟨q,h1,⟨h2,by simp,by simp⟩⟩
            refine JL.dD (ι:=aC × aC) (vs:=[r2.v]) (fun q=>.tuple #[q.1.v,q.2.v,N 7]) (fun _=>[]) gG rfl rfl (fun _ _ h=>by cases h) hcu fun q=>?_
            repeat (first | refine JL.q (by first|(apply OQ.extract;rfl;rfl)|(apply OQ.dI (a:=7) (b:=0);rfl;rfl;rfl)|(apply OQ.move;rfl)|(apply OQ.assign;rfl)) rfl ?_ | refine JC.seq ?_ | refine JC.region ?_ | refine JL.nil ?_ | refine JE.next ?_)
            refine JC.cond_true rfl rfl ?_
            repeat (first | refine JL.q (by first|(apply OQ.move;rfl)|(apply OQ.assign;rfl)) rfl ?_ | refine JC.seq ?_ | refine JC.region ?_ | refine JL.nil ?_ | refine JE.next ?_)
            refine JC.ret ?_
            repeat (first | refine JE.ah ?_ | refine JE.aZ ?_)
            refine JE.aE rfl (RV.tmp rfl) fun w' hw=>⟨(b,y),⟨yok,?_,?_,?_⟩,rfl,hw.weak (c6 _ _)⟩
            · rw [hfe2,hdn.2.2];exact yis.out.trans (List.append_nil _).symm
            · rw [hfe2];exact yis.ms.trans hdn.2.1.symm
            · rw [hfe2];show y.cl=decide ((an R.1 r2.l).1.st=5);rw [hdn.1,yis.cl,h4']
          | some p=>
            obtain ⟨mm,rr⟩:=p
            have hds:=q9 _ r2.l R.1 (Nat.le_refl _) h4' (ofit.2.2.trans hln) (by rw [odt];exact Dl.nil) mm rr hu
            rw [odt,nj,List.nil_append] at hds
            have hmml : mm.length≤5000:=by have:=jH _ _ _ hu;omega
            have hrrl : rr.length≤r2.l.length:=tK _ _ _ hu
            have hcu : ∀ w',aa w [] (y.E b++Ns) w'→Calls Tryz.prog 30 [r2.v].toArray w' fun e w2=>∃ q : (Nat × Nat) × (Nat × Nat),e=.returned (.tuple #[ag (some q.1) mm.length,ag (some q.2) rr.length,N 0])∧aa w' [] (ay 5 (some q.2) (rr.map U8)++ay 5 (some q.1) (mm.map U8)) w2:=fun w' hw'=>ur r2 w' (hr2ok w' _ hw') (by omega) hu
            refine JL.dD (ι:=(Nat × Nat) × (Nat × Nat)) (vs:=[r2.v]) (fun q=>.tuple #[ag (some q.1) mm.length,ag (some q.2) rr.length,N 0]) (fun q=>ay 5 (some q.2) (rr.map U8)++ay 5 (some q.1) (mm.map U8)) gG rfl rfl ?_ ?_ ?_
            · intro q e he
              rcases List.mem_append.1 he with h | h
              · exact b8 _ _ _ e h
              · exact b8 _ _ _ e h
            · intro w1 hw1
              exact hcu w1 hw1
            rintro ⟨q1,q2⟩
            dsimp only
            repeat (first | refine JL.q (by first|(apply OQ.extract;rfl;rfl)|(apply OQ.dI (a:=0) (b:=0);rfl;rfl;rfl)|(apply OQ.move;rfl)|(apply OQ.assign;rfl)) rfl ?_ | refine JC.seq ?_ | refine JC.region ?_ | refine JL.nil ?_ | refine JE.next ?_)
            refine JC.cond_false rfl rfl ?_
            repeat (first | refine JL.q (by first|(apply OQ.gw (q:=some q1);exact Tryz.underlying22;exact nofun;rfl)|(apply OQ.kM (a:=mm.length) (b:=2097152);rfl;rfl;exact (by omega))|(apply OQ.move;rfl)|(apply OQ.assign;rfl)) rfl ?_ | refine JC.seq ?_ | refine JC.region ?_ | refine JC.skip ?_ | refine JL.nil ?_ | refine JE.next ?_)
            refine JC.cond_false rfl rfl ?_
            obtain ⟨mz,hmz⟩ : ∃ mz : Mz,mz=⟨y.qt,some q1,⟨y.fr,y.to,mm⟩,yok.t,nofun⟩:=⟨_,rfl⟩
            have hb : Program.built Tryz.prog 38 [(0,Z y.fr),(1,ag y.qt y.to.length),(2,ag (some q1) mm.length)]=some mz.cs.toArray:=by rw [hmz];exact nr _ _ _ _ _
            have hm3 : mz.cs.length=3:=by rw [hmz];rfl
            have hE : mz.E=y.T++ay 5 (some q1) (mm.map U8):=by rw [hmz];rfl
            have hq7 : ag y.qm y.zs.length=ag y.qm (y.zs.map Mz.cs).length:=by rw [List.length_map]
            have hzn : y.zs.length≤5000:=by
              have:=congrArg List.length yis.ms
              rw [List.length_map,oms] at this
              omega
            refine JC.pR (M':=⟨b,Row 33 y.cs,true⟩::(cg 38 3 y.qm (y.zs.map Mz.cs)++(ay 5 (some q1) (mm.map U8)++(ay 5 (some q2) (rr.map U8)++(y.T++(y.zs.flatMap Mz.E++Ns)))))) ?_ (aM fun _ _ v=>by simp only [Tw.E,Tw.M,List.count_append,List.count_cons];omega)
            refine JC.seq ?_
            let vs : Nat→Nat × Nat→Value:=fun j y1=>match j with
              | 0=>Pt b 0
              | 1=>Pt b 0
              | 2=>Pt b 0
              | 3=>Pt b 4
              | 4=>ag y.qm (y.zs.map Mz.cs).length
              | 5=>Pt b 0
              | 6=>Pt b 0
              | 7=>Pt b 1
              | 8=>Z y.fr
              | 9=>Pt b 0
              | 10=>Pt b 0
              | 11=>Pt b 2
              | 12=>ag y.qt y.to.length
              | 13=>ag (some q1) mm.length
              | 14=>.agg mz.cs.toArray
              | 15=>.slice (some ⟨y1.1,0,none⟩) 1 1
              | 16=>ag (some y1) (y.zs.map Mz.cs++[mz.cs]).length
              | 17=>Pt b 0
              | 18=>Pt b 4
              | _=>N 0
            let Ms : Nat→Nat × Nat→List aF:=fun j y1=>match j with
              | 15=>[⟨y1.1,Row 38 mz.cs,true⟩]
              | 16=>cg 38 3 (some y1) (y.zs.map Mz.cs++[mz.cs])
              | 19=>[⟨b,Row 33 [N y.st,Z y.fr,ag y.qt y.to.length,Z y.out,ag (some y1) (y.zs.map Mz.cs++[mz.cs]).length,.bool y.cl],true⟩]
              | 20=>[⟨b,Row 33 y.cs,true⟩]
              | 21=>cg 38 3 y.qm (y.zs.map Mz.cs)
              | 22=>ay 5 (some q1) (mm.map U8)++(ay 5 (some q2) (rr.map U8)++(y.T++(y.zs.flatMap Mz.E++Ns)))
              | _=>[]
            refine JC.grow (g:=⟨[(3,Pt b 0),(6,ag (some q1) mm.length),(0,ag (some q2) rr.length)],23,vs,Ms,(fun j=>match j with | 2=>[(1,80)] | 3=>[(2,81)] | 4=>[(3,82)] | 6=>[(5,84)] | 7=>[(6,85)] | 8=>[(7,86)] | 10=>[(9,88)] | 11=>[(10,89)] | 12=>[(11,90)] | 14=>[(8,87),(12,91),(13,92)] | 15=>[(14,93)] | 16=>[(4,83),(15,94)] | 17=>[(0,79)] | 18=>[(17,96)] | 19=>[(18,97),(16,95)] | _=>[]),(fun j=>match j with | 4=>[20] | 8=>[20] | 12=>[20] | 16=>[15,21] | 19=>[20] | _=>[]),(fun j=>match j with | 16=>[15,21] | 19=>[20] | _=>[]),(fun j=>match j with | 19=>some 16 | _=>none)⟩) [] [19,16,22] ei (by repeat (first | exact af.nil | refine af.cons _ _ _ rfl ?_)) ?_ (by kernel_rfl) (by kernel_rfl) (by kernel_rfl) ?_ ?_
            · show av (Ms 20 default++(Ms 21 default++(Ms 22 default++[]))) _;rw [List.append_nil];exact av.refl _
            · refine ⟨?_,?_,?_,?_,?_,?_,?_,?_,?_,?_,?_,?_,?_,?_,?_,?_,?_,?_,?_,?_,trivial⟩
              · (intro xx EF MF Q kk;(try refine JL.aT rfl rfl ?_);exact JL.q (OQ.move rfl) rfl (JL.nil (kk default nofun)))
              · (intro xx EF MF Q kk;(try refine JL.aT rfl rfl ?_);exact JL.q (OQ.move rfl) rfl (JL.nil (kk default nofun)))
              · (intro xx EF MF Q kk;(try refine JL.aT rfl rfl ?_);exact JL.q (OQ.aJ rfl) rfl (JL.nil (kk default nofun)))
              · (intro xx EF MF Q kk;(try refine JL.aT rfl rfl ?_);exact JL.q (OQ.bA rfl rfl rfl (by decide) rfl) rfl (JL.nil (kk default nofun)))
              · (intro xx EF MF Q kk;(try refine JL.aT rfl rfl ?_);exact JL.q (OQ.to (OQ.load o8 rfl .here (Row.cell (v:=ag y.qm y.zs.length) rfl)) hq7) rfl (JL.nil (kk default nofun)))
              · (intro xx EF MF Q kk;(try refine JL.aT rfl rfl ?_);exact JL.q (OQ.move rfl) rfl (JL.nil (kk default nofun)))
              · (intro xx EF MF Q kk;(try refine JL.aT rfl rfl ?_);exact JL.q (OQ.aJ rfl) rfl (JL.nil (kk default nofun)))
              · (intro xx EF MF Q kk;(try refine JL.aT rfl rfl ?_);exact JL.q (OQ.bA rfl rfl rfl (by decide) rfl) rfl (JL.nil (kk default nofun)))
              · (intro xx EF MF Q kk;(try refine JL.aT rfl rfl ?_);exact JL.q (OQ.load fy rfl .here (Row.cell (v:=Z y.fr) rfl)) rfl (JL.nil (kk default nofun)))
              · (intro xx EF MF Q kk;(try refine JL.aT rfl rfl ?_);exact JL.q (OQ.move rfl) rfl (JL.nil (kk default nofun)))
              · (intro xx EF MF Q kk;(try refine JL.aT rfl rfl ?_);exact JL.q (OQ.aJ rfl) rfl (JL.nil (kk default nofun)))
              · (intro xx EF MF Q kk;(try refine JL.aT rfl rfl ?_);exact JL.q (OQ.bA rfl rfl rfl (by decide) rfl) rfl (JL.nil (kk default nofun)))
              · (intro xx EF MF Q kk;(try refine JL.aT rfl rfl ?_);exact JL.q (OQ.load de rfl .here (Row.cell (v:=ag y.qt y.to.length) rfl)) rfl (JL.nil (kk default nofun)))
              · (intro xx EF MF Q kk;(try refine JL.aT rfl rfl ?_);exact JL.q (OQ.move rfl) rfl (JL.nil (kk default nofun)))
              · (intro xx EF MF Q kk;(try refine JL.aT rfl rfl ?_);exact JL.q (OQ.dY (cs:=mz.cs) (vs:=[Z y.fr,ag y.qt y.to.length,ag (some q1) mm.length]) [0,1,2] [.tmp 87,.tmp 91,.tmp 92] rfl rfl hb) rfl (JL.nil (kk default nofun)))
              · (intro xx EF MF Q kk;exact JL.w9 (cs:=mz.cs) Tryz.underlying31 wV rfl (by decide) (by decide) rfl hm3 rfl fun b1 _=>JL.nil (kk (b1,0) nofun))
              · (intro xx EF MF Q kk;refine JL.perm (M':=⟨(xx 15).1,Row 38 mz.cs,true⟩::(cg 38 3 y.qm (y.zs.map Mz.cs)++MF)) ?_ (List.Perm.of_eq (by show (Ms 15 (xx 15)++(Ms 21 (xx 21)++[]))++MF=_;simp [Ms]));exact JL.o5 (c:=mz.cs) y.qm Tryz.underlying31 wV (fun h=>by rw [yok.m h];rfl) rfl rfl hm3 (lE mz) rfl (by decide) (by rw [List.length_map];omega) (by rw [List.length_map];omega) rfl fun b' cap'=>JL.nil (kk (b',cap') nofun))
              · (intro xx EF MF Q kk;(try refine JL.aT rfl rfl ?_);exact JL.q (OQ.aJ rfl) rfl (JL.nil (kk default nofun)))
              · (intro xx EF MF Q kk;(try refine JL.aT rfl rfl ?_);exact JL.q (OQ.bA rfl rfl rfl (by decide) rfl) rfl (JL.nil (kk default nofun)))
              · (intro xx EF MF Q kk;exact JL.bJ (b:=b) (r:=y.cs) (r':=[N y.st,Z y.fr,ag y.qt y.to.length,Z y.out,ag (some (xx 16)) (y.zs.map Mz.cs++[mz.cs]).length,.bool y.cl]) vD rfl rfl rfl rfl .here (show 4<6 by decide) rfl (JL.nil (kk (xx 16) (fun k h=>by cases h;rfl))))
            · intro xx hx
              have e19:=hx 19 16 (by decide) rfl
              show JE _ _ _ _ _ [(3,Pt b 0),(6,ag (some q1) mm.length),(0,ag (some q2) rr.length)] (⟨b,Row 33 [N y.st,Z y.fr,ag y.qt y.to.length,Z y.out,ag (some (xx 19)) (y.zs.map Mz.cs++[mz.cs]).length,.bool y.cl],true⟩::(⟨(xx 16).1,Sl.aO 38 3 (y.zs.map Mz.cs++[mz.cs]).length (xx 16).2 (y.zs.map Mz.cs++[mz.cs]).flatten,true⟩::((ay 5 (some q1) (mm.map U8)++(ay 5 (some q2) (rr.map U8)++(y.T++(y.zs.flatMap Mz.E++Ns))))++[])))
              rw [e19,List.append_nil]
              generalize xx 16=y1
              clear hx e19 xx vs Ms
              rw [show y.zs.map Mz.cs++[mz.cs]=(y.zs++[mz]).map Mz.cs by simp]
              rw [List.length_map]
              obtain ⟨u,hu2⟩ : ∃ u : Tw,u={ y with qm:=some y1,zs:=y.zs++[mz] }:=⟨_,rfl⟩
              have hucs : [N y.st,Z y.fr,ag y.qt y.to.length,Z y.out,ag (some y1) (y.zs++[mz]).length,.bool y.cl]=u.cs:=by rw [hu2];rfl
              rw [hucs]
              have huo : u.out.length≤200000:=by rw [hu2];show y.out.length≤_;rw [yis.out];omega
              repeat (first | refine JL.q (by (apply OQ.move;rfl)) rfl ?_ | refine JC.region ?_ | refine JE.next ?_)
              refine JL.nH (z:=u) er (by show u.out.length+6<_;omega) rfl rfl rfl ?_
              repeat (first | refine JL.q (by (apply OQ.move;rfl)) rfl ?_ | refine JC.region ?_ | refine JL.nil ?_ | refine JE.next ?_)
              refine JL.pX (z:={ u with out:=u.out++(er++[13,10]) }) 1 rfl rfl rfl fun b3=>?_
              repeat (first | refine JL.nil ?_ | refine JE.ai ?_)
              refine JE.vQ (M':=(Tw.E b (Tw.bL { u with out:=u.out++(er++[13,10]) } 1 b3))++ay 5 (some q2) (rr.map U8)++Ns) ?_ ?_
              · have hr3 : ∀ (w' : World) (X : List aF),aa w [] (X++ay 5 (some q2) (rr.map U8)) w'→(bR (some q2) rr).ok w':=fun w' X hw'=>fW (e:=5) (M:=X) (hw'.perm' List.perm_append_comm)
                refine JE.again (i:=(⟨z,S,O,r,Ns⟩ : Rn)) (⟨Tw.bL { u with out:=u.out++(er++[13,10]) } 1 b3,⟨1,[],[],[],[],R.1.ms++[⟨R.1.fr,R.1.to,mm⟩]⟩,O2++(er++[13,10]),bR (some q2) rr,ay 5 (some q2) (rr.map U8)⟩ : Rn) ⟨⟨nofun,by rw [hu2];exact nofun⟩,⟨?_,?_,?_,fun _=>⟨rfl,rfl,rfl⟩⟩,rfl,by show 1≠4;decide,by show 1≤5;decide,rfl,Nat.zero_le _,(fun h=>by cases h),hr3,by show rr.length≤5000;omega,?_,by show (R.1.ms++[(⟨R.1.fr,R.1.to,mm⟩ : Ml)]).length+rr.length≤5000;rw [List.length_append,oms,List.length_singleton];omega,?_⟩ (by show rr.length<r.l.length;omega) (by repeat (first | exact af.nil | refine af.cons _ _ _ rfl ?_)) (c6 _ _)
                · rw [hu2];exact congrArg (·++_) yis.out
                · rw [hu2]
                  show (y.zs++[mz]).map Mz.m=_
                  rw [List.map_append,yis.ms,hmz]
                  show R.1.ms++[(⟨y.fr,y.to,mm⟩ : Ml)]=R.1.ms++[⟨R.1.fr,R.1.to,mm⟩]
                  rw [yfr,yto]
                · rw [hu2]
                  show y.cl=decide (1=5)
                  rw [yis.cl,h4']
                  rfl
                · show (O2++(er++[13,10])).length+22 * rr.length≤_
                  rw [List.length_append]
                  show O2.length+8+22 * rr.length≤_
                  omega
                · show an new s.l=((an ⟨1,[],[],[],[],R.1.ms++[⟨R.1.fr,R.1.to,mm⟩]⟩ rr).1,O2++(er++[13,10])++(an ⟨1,[],[],[],[],R.1.ms++[⟨R.1.fr,R.1.to,mm⟩]⟩ rr).2)
                  rw [hfe2,hds]
                  simp only [List.append_assoc]
              · have hF : (y.zs++[mz]).flatMap Mz.E=y.zs.flatMap Mz.E++(y.T++ay 5 (some q1) (mm.map U8)):=by rw [List.flatMap_append,← hE];simp
                have hT1 : Tw.E b (Tw.bL { u with out:=u.out++(er++[13,10]) } 1 b3)=⟨b,Row 33 (Tw.bL { u with out:=u.out++(er++[13,10]) } 1 b3).cs,true⟩::(⟨b3,Sl.aO 9 1 0 0 [],true⟩::(⟨y1.1,Sl.aO 38 3 (y.zs++[mz]).length y1.2 ((y.zs++[mz]).map Mz.cs).flatten,true⟩::(y.zs.flatMap Mz.E++(y.T++ay 5 (some q1) (mm.map U8))))):=by
                  rw [hu2,← hF]
                  show _::(ay _ (some (b3,0)) []++(cg 38 3 (some y1) ((y.zs++[mz]).map Mz.cs)++(y.zs++[mz]).flatMap Mz.E))=_
                  unfold cg
                  rw [List.length_map]
                  rfl
                rw [hT1]
                exact aM fun _ _ v=>by simp only [List.count_append,List.count_cons,List.count_nil];omega
end dx
end
section
namespace Sl
def xR (e : TypeId) (n cap : Nat) (xs : List Value) : Obj→Prop:=fun o=>∃ (sp : List Value) (fr : Nat × Nat),o=.cells (xs++sp).toArray e fr∧(cap≤fr.1∨fr.2=0)∧(xs++sp).length=cap∧xs.length=n∧n≤cap
theorem xR.cells {e : TypeId} {n cap : Nat} {xs : List Value} : ∀ o,xR e n cap xs o→bF o 0 xs:=by
  rintro o ⟨sp,fr,rfl,_⟩
  exact ⟨_,_,_,rfl,fun i hi=>by simp [List.getElem?_append_left hi]⟩
section
variable {P : Program} {t tx e : TypeId}
variable {n : Nat} {w0 : World} {S : List Nat} {ops : Array Oper} {Q : Exit→Act→World→Prop} {l : List Oper} {E : Env} {M : List aF} {d b : Nat} {ty : TypeId} {pos : String} {aft : Array Edge} {x y : Operand}
end
end Sl
end
section
set_option maxRecDepth 10000
open Sl
namespace dx
theorem Po.fit.mono {S : Po} {n m : Nat} (h : S.fit n) (hle : n≤m) : S.fit m:=⟨Nat.le_trans h.sz hle,h.to⟩
structure Lo where
  i : Nat
  z : Pw
  T : Po
end dx
end
section
set_option maxRecDepth 10000
open Sl
namespace dx
structure Mr where
  fr : List Bt
  to : kP
  b : aC
def Mr.cs (m : Mr) : List Value:=[Z m.fr,m.to.v,m.b.v]
def Mr.m (m : Mr) : Ml:=⟨m.fr,m.to.l,m.b.l⟩
structure uz where
  ad : Option Addr
  cap : Nat
  l : List Mr
def uz.v (s : uz) : Value:=.slice s.ad s.l.length s.cap
structure uz.ok (w : World) (s : uz) : Prop where
  reads : Reads w s.ad (s.l.map Mr.cs).flatten
  to : ∀ m ∈ s.l,m.to.ok w
  b : ∀ m ∈ s.l,m.b.ok w
theorem uz.ok.at {w : World} {s : uz} (h : s.ok w) {i : Nat} {m : Mr} (hm : s.l[i]?=some m) : ∃ b j,s.ad=some ⟨b,j,none⟩∧b<w.heap.size∧w.cell? ⟨b,j+i * 3+0,none⟩=some (Z m.fr)∧w.cell? ⟨b,j+i * 3+1,none⟩=some m.to.v∧w.cell? ⟨b,j+i * 3+2,none⟩=some m.b.v:=by
  have hi:=(List.getElem?_eq_some_iff.1 hm).1
  have h3 : ∀ c ∈ s.l.map Mr.cs,c.length=3:=fun c hc=>by
    obtain ⟨m,_,rfl⟩:=List.mem_map.1 hc
    rfl
  have hfl:=cY h3
  rw [List.length_map] at hfl
  obtain ⟨b,j,h1,h2⟩:=h.reads.at (by rw [hfl];omega)
  have hg : ∀ k v,k<3→m.cs[k]?=some v→w.cell? ⟨b,j+i * 3+k,none⟩=some v:=fun k v hk hv=>by
    rw [Nat.add_assoc]
    refine h2 (i * 3+k) v ?_
    have e1 : (i * 3+k) / 3=i:=by omega
    have e2 : (i * 3+k) % 3=k:=by omega
    rw [gP h3 (by decide),e1,e2,List.getElem?_map,hm]
    exact hv
  have hc0:=hg 0 (Z m.fr) (by decide) rfl
  exact ⟨b,j,h1,block_lt_of_cell hc0,hc0,hg 1 _ (by decide) rfl,hg 2 _ (by decide) rfl⟩
theorem lP : aK Tryz.prog 11:=⟨_,Tryz.func11,rfl,by kernel_rfl⟩
set_option maxHeartbeats 16000000 in
theorem nC (a c : uz) (w : World) (ha : a.ok w) (hc : c.ok w) (h : a.l.map Mr.m=c.l.map Mr.m) (hla : a.l.length≤1000000) (hlt : ∀ m ∈ a.l,m.to.l.length≤1000000) : Calls Tryz.prog 11 [a.v,c.v].toArray w fun e w'=>e=.returned (.bool true)∧Ext w w':=by
  have hlen : a.l.length=c.l.length:=by simpa using congrArg List.length h
  refine enter (n:=86) Tryz.func11 rfl rfl rfl (aa.start w []) ?_
  repeat (first | refine JL.q (by first|(apply OQ.len (k:=a.l.length) (ad:=a.ad) (cap:=a.cap);exact Tryz.underlying31;rfl)|(apply OQ.len (k:=c.l.length) (ad:=c.ad) (cap:=c.cap);exact Tryz.underlying31;rfl)|(apply OQ.dI (a:=a.l.length) (b:=c.l.length);rfl;rfl;exact (decide_eq_true hlen))|(apply OQ.move;rfl)|(apply OQ.assign;rfl)) rfl ?_ | refine JC.seq ?_ | refine JC.region ?_ | refine JL.nil ?_ | refine JE.next ?_)
  refine JC.cond_false rfl rfl ?_
  repeat (first | refine JL.q (by (apply OQ.assign;rfl)) rfl ?_ | refine JC.seq ?_ | refine JC.region ?_ | refine JC.block ?_ | refine JC.skip ?_ | refine JL.nil ?_ | refine JE.next ?_)
  refine JC.loop (fun i : Nat=>[(0,a.v),(1,c.v),(5,N i)]) (fun _=>[]) (fun i=>a.l.length - i) (fun i=>i≤a.l.length) 0 (Nat.zero_le _) (by repeat (first | exact af.nil | refine af.cons _ _ _ rfl ?_)) (.nil _) ?_
  intro i hi
  repeat (first | refine JL.q (by first|(apply OQ.len (k:=a.l.length) (ad:=a.ad) (cap:=a.cap);exact Tryz.underlying31;rfl)|(apply OQ.dV (a:=i) (b:=a.l.length);rfl;rfl)|(apply OQ.move;rfl)) rfl ?_ | refine JC.seq ?_ | refine JC.region ?_ | refine JL.nil ?_ | refine JE.next ?_)
  refine JC.cond rfl (fun hh=>?_) (fun hh=>?_)
  · have hi' : i<a.l.length:=of_decide_eq_true hh
    clear hh
    obtain ⟨m,hm⟩ : ∃ m,a.l[i]?=some m:=⟨_,List.getElem?_eq_getElem hi'⟩
    obtain ⟨n,hn⟩ : ∃ n,c.l[i]?=some n:=⟨_,List.getElem?_eq_getElem (by omega)⟩
    have hmn : m.m=n.m:=by
      have:=congrArg (fun l=>l[i]?) h
      simp only [List.getElem?_map,hm,hn,Option.map_some] at this
      exact Option.some.inj this
    have hfr : m.fr=n.fr:=congrArg Ml.fr hmn
    have hto : m.to.l=n.to.l:=congrArg Ml.to hmn
    have hbb : m.b.l=n.b.l:=congrArg Ml.b hmn
    obtain ⟨ab,aj,had,hab,a0,a1,a2⟩:=ha.at hm
    obtain ⟨cb,cj,hcd,hcb,c0,c1,c2⟩:=hc.at hn
    have hml:=hlt m (List.mem_of_getElem? hm)
    have mto:=ha.to m (List.mem_of_getElem? hm)
    have mb:=ha.b m (List.mem_of_getElem? hm)
    have nto:=hc.to n (List.mem_of_getElem? hn)
    have nb:=hc.b n (List.mem_of_getElem? hn)
    have hav : a.v=.slice (some ⟨ab,aj,none⟩) a.l.length a.cap:=by unfold uz.v;rw [had]
    have hcv : c.v=.slice (some ⟨cb,cj,none⟩) c.l.length c.cap:=by unfold uz.v;rw [hcd]
    have hci' : i<c.l.length:=by omega
    have htl : m.to.l.length=n.to.l.length:=by rw [hto]
    rw [hav,hcv]
    refine JC.skip ?_
    repeat (first | refine JC.seq ?_ | refine JC.block ?_ | refine JE.next ?_)
    refine JC.quiet ei (by kernel_rfl) ?_
    repeat (first | refine JQ.q (by first|(apply OQ.cX (k:=.i64) (i:=i) (b:=ab) (j:=aj) (sz:=3);exact Tryz.underlying31;exact rL;rfl;rfl;exact hi')|(apply OQ.cX (k:=.i64) (i:=i) (b:=cb) (j:=cj) (sz:=3);exact Tryz.underlying31;exact rL;rfl;rfl;exact hci')|(apply OQ.aq (v:=Z m.fr);exact fy;rfl;exact hab;exact (by simp);exact a0)|(apply OQ.aq (v:=Z n.fr);exact fy;rfl;exact hcb;exact (by simp);exact c0)|(apply OQ.gv (l:=m.fr) (r:=n.fr);rfl;rfl;exact (decide_eq_true hfr))|(apply OQ.aq (v:=m.to.v);exact de;rfl;exact hab;exact (by simp);exact a1)|(apply OQ.aq (v:=n.to.v);exact de;rfl;exact hcb;exact (by simp);exact c1)|(apply OQ.len (k:=m.to.l.length) (ad:=m.to.ad) (cap:=m.to.cap);exact Tryz.underlying30;rfl)|(apply OQ.len (k:=n.to.l.length) (ad:=n.to.ad) (cap:=n.to.cap);exact Tryz.underlying30;rfl)|(apply OQ.dI (a:=m.to.l.length) (b:=n.to.l.length);rfl;rfl;exact (decide_eq_true htl))|(apply OQ.aq (v:=m.b.v);exact cW;rfl;exact hab;exact (by simp);exact a2)|(apply OQ.aq (v:=n.b.v);exact cW;rfl;exact hcb;exact (by simp);exact c2)|(apply OQ.nF (s:=m.b);exact Tryz.underlying22;exact Tryz.underlying5;exact Tryz.underlying9;rfl;exact (fun w' hw'=>mb.holds hw' rfl))|(apply OQ.nF (s:=n.b);exact Tryz.underlying22;exact Tryz.underlying5;exact Tryz.underlying9;rfl;exact (fun w' hw'=>nb.holds hw' rfl))|(apply OQ.gv (l:=m.b.l) (r:=n.b.l);rfl;rfl;exact (decide_eq_true hbb))|(apply OQ.aB;rfl;rfl)|(apply OQ.move;rfl)|(apply OQ.bA;rfl;rfl;rfl;exact (by decide);rfl)) rfl ?_ | refine JQ.nil ?_ | refine JE.next ?_ | refine JQ.aT rfl rfl ?_)
    refine JC.cond_false rfl rfl ?_
    repeat (first | refine JL.q (by (apply OQ.assign;rfl)) rfl ?_ | refine JC.seq ?_ | refine JC.region ?_ | refine JC.block ?_ | refine JC.skip ?_ | refine JL.nil ?_ | refine JE.next ?_)
    refine JC.loop (fun k : Nat=>[(0,.slice (some ⟨ab,aj,none⟩) a.l.length a.cap),(1,.slice (some ⟨cb,cj,none⟩) c.l.length c.cap),(5,N i),(6,N k)]) (fun _=>[]) (fun k=>m.to.l.length - k) (fun k=>k≤m.to.l.length) 0 (Nat.zero_le _) (by repeat (first | exact af.nil | refine af.cons _ _ _ rfl ?_)) (.nil _) ?_
    intro k hk
    repeat (first | refine JL.q (by first|(apply OQ.cX (k:=.i64) (i:=i) (b:=ab) (j:=aj) (sz:=3);exact Tryz.underlying31;exact rL;rfl;rfl;exact hi')|(apply OQ.aq (v:=m.to.v);exact de;rfl;exact hab;exact (by simp);exact a1)|(apply OQ.len (k:=m.to.l.length) (ad:=m.to.ad) (cap:=m.to.cap);exact Tryz.underlying30;rfl)|(apply OQ.dV (a:=k) (b:=m.to.l.length);rfl;rfl)|(apply OQ.move;rfl)|(apply OQ.bA;rfl;rfl;rfl;exact (by decide);rfl)) rfl ?_ | refine JC.seq ?_ | refine JC.region ?_ | refine JL.nil ?_ | refine JE.next ?_)
    refine JC.cond rfl (fun hh=>?_) (fun hh=>?_)
    · have hk' : k<m.to.l.length:=of_decide_eq_true hh
      clear hh
      have hk2 : k<n.to.l.length:=by omega
      obtain ⟨tb,tj,t1,t2,t3⟩:=mto.at (by omega)
      obtain ⟨ub,uj,u1,u2,u3⟩:=nto.at (by omega)
      have h3:=t3 k hk'
      have h4:=u3 k hk2
      rw [← hto] at h4
      have hmv : m.to.v=.slice (some ⟨tb,tj,none⟩) m.to.l.length m.to.cap:=by unfold kP.v;rw [t1]
      have hnv : n.to.v=.slice (some ⟨ub,uj,none⟩) n.to.l.length n.to.cap:=by unfold kP.v;rw [u1]
      rw [hmv] at a1
      rw [hnv] at c1
      have hp1 : Pt tb (tj+k * 1)=Pt tb (tj+k):=by rw [Nat.mul_one]
      have hp2 : Pt ub (uj+k * 1)=Pt ub (uj+k):=by rw [Nat.mul_one]
      refine JC.skip ?_
      repeat (first | refine JC.seq ?_ | refine JC.block ?_ | refine JE.next ?_)
      refine JC.quiet ei (by kernel_rfl) ?_
      repeat (first | refine JQ.q (by first|(apply OQ.cX (k:=.i64) (i:=i) (b:=ab) (j:=aj) (sz:=3);exact Tryz.underlying31;exact rL;rfl;rfl;exact hi')|(apply OQ.cX (k:=.i64) (i:=i) (b:=cb) (j:=cj) (sz:=3);exact Tryz.underlying31;exact rL;rfl;rfl;exact hci')|(apply OQ.aq (v:=.slice (some ⟨tb,tj,none⟩) m.to.l.length m.to.cap);exact de;rfl;exact hab;exact (by simp);exact a1)|(apply OQ.aq (v:=.slice (some ⟨ub,uj,none⟩) n.to.l.length n.to.cap);exact de;rfl;exact hcb;exact (by simp);exact c1)|(apply OQ.to;exact (OQ.cX (k:=.i64) (i:=k) (b:=tb) (j:=tj) (sz:=1) Tryz.underlying30 mg rfl rfl hk');exact hp1)|(apply OQ.to;exact (OQ.cX (k:=.i64) (i:=k) (b:=ub) (j:=uj) (sz:=1) Tryz.underlying30 mg rfl rfl hk2);exact hp2)|(apply OQ.aq (v:=Z (m.to.l.getD k [])) (b:=tb);exact fy;rfl;exact t2;exact (by simp);exact h3)|(apply OQ.aq (v:=Z (m.to.l.getD k [])) (b:=ub);exact fy;rfl;exact u2;exact (by simp);exact h4)|(apply OQ.gv (l:=m.to.l.getD k []) (r:=m.to.l.getD k []);rfl;rfl;exact (decide_eq_true rfl))|(apply OQ.move;rfl)|(apply OQ.bA;rfl;rfl;rfl;exact (by decide);rfl)) rfl ?_ | refine JQ.nil ?_ | refine JE.next ?_)
      refine JC.cond_false rfl rfl ?_
      repeat (first | refine JL.q (by first|(apply OQ.move;rfl)|(apply OQ.assign;rfl)|(apply OQ.bh;rfl;rfl;exact (by (try simp only []);omega))) rfl ?_ | refine JC.region ?_ | refine JC.skip ?_ | refine JL.nil ?_ | refine JE.next ?_ | refine JE.ai ?_)
      exact JE.again (i:=k) (k+1) hk' (by show m.to.l.length - (k+1)<m.to.l.length - k;omega) (by repeat (first | exact af.nil | refine af.cons _ _ _ rfl ?_)) (.nil _)
    · repeat (first | refine JL.q (by first|(apply OQ.move;rfl)|(apply OQ.assign;rfl)|(apply OQ.bh;rfl;rfl;exact (by (try simp only []);omega))) rfl ?_ | refine JC.region ?_ | refine JC.exit ?_ | refine JL.nil ?_ | refine JE.next ?_ | refine JE.ai ?_ | refine JE.ax ?_ | refine JE.aI ?_)
      exact JE.again (i:=i) (i+1) hi' (by show a.l.length - (i+1)<a.l.length - i;omega) (by repeat (first | exact af.nil | refine af.cons _ _ _ rfl ?_)) (.nil _)
  · repeat (first | refine JL.q (by (apply OQ.assign;rfl)) rfl ?_ | refine JC.seq ?_ | refine JC.region ?_ | refine JC.exit ?_ | refine JL.nil ?_ | refine JE.next ?_ | refine JE.ax ?_ | refine JE.aI ?_)
    refine JC.ret ?_
    skip
    exact JE.aE rfl (RV.tmp rfl) fun w' hw=>⟨rfl,hw.aS⟩
end dx
end
section
set_option maxRecDepth 10000
open Sl
namespace dx
def Po.wX (S : Po) (n : Nat) : Prop:=∀ m ∈ S.ms,m.to.length≤10∧m.b.length≤n
theorem rJ {S : Po} {k n : Nat} (wf : S.wf) (ft : S.fit k) (mk : S.wX n) (hn : k+3≤n) (x : List By) : (bg S x).1.wX n:=by
  unfold bg
  split
  · unfold aV
    split
    · split
      · intro m hm
        rcases List.mem_append.1 (show m ∈ S.ms++[⟨S.fr,S.to,bG S.dt⟩] from hm) with h | h
        · exact mk m h
        · rw [List.mem_singleton.1 h]
          have h1:=jH _ _ _ (pQ wf.dl)
          rw [List.length_append] at h1
          have h2:=ft.sz
          unfold Po.sz at h2
          exact ⟨ft.to,by show (bG S.dt).length≤n;have : ([46,13,10] : List By).length=3:=rfl;omega⟩
      · exact mk
    · intro m hm
      exact mk m ((pZ ⟨S.st,S.fr,S.to,[],S.dt,S.ms⟩ _) ▸ hm)
  · exact mk
theorem jO : ∀ (b : List By) (S : Po) (k n : Nat),S.wf→S.fit k→S.wX n→k+b.length+3≤n→(an S b).1.wf∧(an S b).1.wX n
  | [],S,_,_,wf,_,mk,_=>⟨wf,mk⟩
  | c::b,S,k,n,wf,ft,mk,hn=>by
    rw [List.length_cons] at hn
    have e : an S (c::b)=b.foldl aY (aY (S,[]) c):=rfl
    have h1 : (aY (S,[]) c).1.wf∧(aY (S,[]) c).1.fit (k+1)∧(aY (S,[]) c).1.wX n:=by
      unfold aY
      dsimp only
      split
      · exact ⟨wf,⟨Nat.le_succ_of_le ft.sz,ft.to⟩,mk⟩
      · exact ⟨nk wf ft.to (by simp) (by simp),gT S [c] k ft,rJ wf ft mk (by omega) [c]⟩
    rw [e,← Prod.eta (aY (S,[]) c),dy]
    exact jO b (aY (S,[]) c).1 (k+1) n h1.1 h1.2.1 h1.2.2 (by omega)
theorem jP : ∀ (b : List By) (S : Po),(an S b).2.length≤11 * b.length
  | [],S=>Nat.le_refl _
  | c::b,S=>by
    have e : an S (c::b)=b.foldl aY (aY (S,[]) c):=rfl
    have h1 : (aY (S,[]) c).2.length≤11:=by
      unfold aY
      dsimp only
      split
      · exact Nat.zero_le _
      · show ([]++(bg S [c]).2).length≤11
        rw [List.nil_append]
        unfold bg
        split
        · exact nu _ _
        · exact Nat.zero_le _
    rw [e,← Prod.eta (aY (S,[]) c),dy]
    have:=jP b (aY (S,[]) c).1
    show ((aY (S,[]) c).2++_).length≤_
    rw [List.length_append,List.length_cons]
    omega
def nD (q : Acc) (l : List (List Bt)) : kP:=match q with
  | none=>wk
  | some p=>⟨some ⟨p.1,0,none⟩,p.2,l⟩
theorem wP {q : Acc} {l : List (List Bt)} : (nD q l).v=ag q l.length:=by cases q <;> rfl
theorem uu {q : Acc} {l : List (List Bt)} (h : q=none→l=[]) : (nD q l).l=l:=by
  cases q with
  | none=>exact (h rfl).symm
  | some p=>rfl
theorem uv {u w : World} {S : List Nat} {X : List aF} {q : Acc} {l : List (List Bt)} (hw : aa u S X w) (h : ∀ x ∈ ay 9 q (l.map Z),x ∈ X) : (nD q l).ok w:=by
  cases q with
  | none=>exact uH w
  | some p=>
    obtain ⟨⟨o,ho,hA⟩,_⟩:=hw.all ⟨p.1,Sl.aO 9 1 (l.map Z).length p.2 (l.map Z),true⟩ (h _ List.mem_cons_self)
    refine ⟨?_,Reads.block ho (Sl.aO.cells o hA)⟩
    obtain ⟨_,_,_,_,h3⟩:=hA
    rw [List.length_map] at h3
    exact h3
def wY (q : Acc) (zs : List Mz) : uz:=⟨match q with | none=>none | some p=>some ⟨p.1,0,none⟩,match q with | none=>0 | some p=>p.2,zs.map fun m=>⟨m.m.fr,nD m.qt m.m.to,bR m.qb m.m.b⟩⟩
theorem vW {q : Acc} {zs : List Mz} (h : q=none→zs=[]) : (wY q zs).v=ag q zs.length:=by
  cases q with
  | none=>rw [h rfl];rfl
  | some p=>show Value.slice _ (zs.map _).length _=_;rw [List.length_map];rfl
theorem wQ (zs : List Mz) : (zs.map fun m=>(⟨m.m.fr,nD m.qt m.m.to,bR m.qb m.m.b⟩ : Mr)).map Mr.cs=zs.map Mz.cs:=by
  rw [List.map_map]
  refine List.map_congr_left fun m _=>?_
  show [Z m.m.fr,(nD m.qt m.m.to).v,(bR m.qb m.m.b).v]=[Z m.m.fr,ag m.qt m.m.to.length,ag m.qb m.m.b.length]
  rw [wP,dW]
theorem vX (q : Acc) (zs : List Mz) : (wY q zs).l.map Mr.m=zs.map Mz.m:=by
  show (zs.map _).map Mr.m=_
  rw [List.map_map]
  refine List.map_congr_left fun m _=>?_
  show (⟨m.m.fr,(nD m.qt m.m.to).l,(bR m.qb m.m.b).l⟩ : Ml)=m.m
  rw [uu m.ht,dX m.hb]
theorem uw {u w : World} {S : List Nat} {X : List aF} {q : Acc} {zs : List Mz} (hq : q=none→zs=[]) (hw : aa u S X w) (h : ∀ x ∈ cg 38 3 q (zs.map Mz.cs)++zs.flatMap Mz.E,x ∈ X) : (wY q zs).ok w:=by
  have hM : ∀ m ∈ zs,∀ x ∈ m.E,x ∈ X:=fun m hm x hx=>h x (List.mem_append_right _ (uh hm x hx))
  refine ⟨?_,fun m hm=>?_,fun m hm=>?_⟩
  · show Reads w _ ((zs.map _).map Mr.cs).flatten
    rw [wQ]
    cases q with
    | none=>rw [hq rfl];exact Reads.nil _ _
    | some p=>
      obtain ⟨⟨o,ho,hA⟩,_⟩:=hw.all ⟨p.1,Sl.aO 38 3 (zs.map Mz.cs).length p.2 (zs.map Mz.cs).flatten,true⟩ (h _ (List.mem_append_left _ List.mem_cons_self))
      exact Reads.block ho (Sl.aO.cells o hA)
  · obtain ⟨m',hm',rfl⟩:=List.mem_map.1 hm
    exact uv hw fun x hx=>hM m' hm' x (List.mem_append_left _ hx)
  · obtain ⟨m',hm',rfl⟩:=List.mem_map.1 hm
    exact eH (e:=5) hw fun x hx=>hM m' hm' x (List.mem_append_right _ hx)
structure Pl where
  i : Nat
  z : Pw
  S : Po
  q : Acc
  O : List Bt
  r : aC
structure Pl.good (w : World) (a : aC) (n : Nat) (x : Pl) : Prop where
  i : x.i≤n
  ok : x.z.ok
  is : x.z.is x.S
  wf : x.S.wf
  ft : x.S.fit (5000 - x.r.l.length)
  mo : x.S.wX 6000
  qn : x.q=none→x.O=[]
  r : x.r.ok w
  rl : x.r.l.length≤5000
  ol : x.O.length+11 * x.r.l.length≤55000
  fe : an new a.l=((an x.S x.r.l).1,x.O++(an x.S x.r.l).2)
set_option maxHeartbeats 64000000 in
theorem jV (a : aC) (c : rY) (w : World) (ha : a.ok w) (hc : c.ok w) (hm : fA w) : Calls Tryz.prog 3 [a.v,c.v].toArray w fun e w'=>e=.returned (.bool true)∧Ext w w':=by
  refine enter (n:=84) Tryz.func3 rfl rfl rfl (aa.start w []) ?_
  repeat (first | refine JL.q (by first|(apply OQ.ak (vs:=[]);exact jU;rfl;exact (fun w' hw'=>lI w' (hm.ext hw'.aS)))|(apply OQ.not;rfl)|(apply OQ.assign;rfl)) rfl ?_ | refine JC.seq ?_ | refine JC.region ?_ | refine JL.nil ?_ | refine JE.next ?_)
  refine JC.cond_false rfl rfl ?_
  cases g1 : decide ((5000 : Int)<(a.l.length : Nat)) with
  | true=>
    repeat (first | refine JL.q (by first|(apply OQ.len (k:=a.l.length) (ad:=a.ad) (cap:=a.cap);exact Tryz.underlying22;rfl)|(apply OQ.eW (b:=5000);rfl;rfl;exact g1)|(apply OQ.az;rfl;rfl)|(apply OQ.move;rfl)) rfl ?_ | refine JC.seq ?_ | refine JC.region ?_ | refine JC.skip ?_ | refine JL.nil ?_ | refine JE.next ?_ | refine JL.aU rfl rfl rfl rfl ?_)
    refine JC.cond_true rfl rfl ?_
    repeat (first | refine JL.q (by (apply OQ.assign;rfl)) rfl ?_ | refine JC.seq ?_ | refine JC.region ?_ | refine JL.nil ?_ | refine JE.next ?_)
    refine JC.ret ?_
    repeat (refine JE.ah ?_)
    exact JE.aE rfl (RV.tmp rfl) fun w' hw=>⟨rfl,hw.aS⟩
  | false=>
    have hal : a.l.length≤5000:=by have:=of_decide_eq_false g1;omega
    cases g2 : decide ((60 : Int)<(c.l.length : Nat)) with
    | true=>
      repeat (first | refine JL.q (by first|(apply OQ.len (k:=a.l.length) (ad:=a.ad) (cap:=a.cap);exact Tryz.underlying22;rfl)|(apply OQ.len (k:=c.l.length) (ad:=c.ad) (cap:=c.cap);exact Tryz.underlying23;rfl)|(apply OQ.eW (b:=5000);rfl;rfl;exact g1)|(apply OQ.eW (b:=60);rfl;rfl;exact g2)|(apply OQ.aB;rfl;rfl)|(apply OQ.move;rfl)) rfl ?_ | refine JC.seq ?_ | refine JC.region ?_ | refine JC.skip ?_ | refine JL.nil ?_ | refine JE.next ?_ | refine JL.aT rfl rfl ?_)
      refine JC.cond_true rfl rfl ?_
      repeat (first | refine JL.q (by (apply OQ.assign;rfl)) rfl ?_ | refine JC.seq ?_ | refine JC.region ?_ | refine JL.nil ?_ | refine JE.next ?_)
      refine JC.ret ?_
      repeat (refine JE.ah ?_)
      exact JE.aE rfl (RV.tmp rfl) fun w' hw=>⟨rfl,hw.aS⟩
    | false=>
      have hcl : c.l.length≤60:=by have:=of_decide_eq_false g2;omega
      repeat (first | refine JL.q (by first|(apply OQ.len (k:=a.l.length) (ad:=a.ad) (cap:=a.cap);exact Tryz.underlying22;rfl)|(apply OQ.len (k:=c.l.length) (ad:=c.ad) (cap:=c.cap);exact Tryz.underlying23;rfl)|(apply OQ.eW (b:=5000);rfl;rfl;exact g1)|(apply OQ.eW (b:=60);rfl;rfl;exact g2)|(apply OQ.aB;rfl;rfl)|(apply OQ.move;rfl)) rfl ?_ | refine JC.seq ?_ | refine JC.region ?_ | refine JC.skip ?_ | refine JL.nil ?_ | refine JE.next ?_ | refine JL.aT rfl rfl ?_)
      refine JC.cond_false rfl rfl ?_
      repeat (first | refine JL.q (by (apply OQ.move;rfl)) rfl ?_ | refine JC.seq ?_ | refine JC.region ?_ | refine JC.skip ?_ | refine JE.next ?_)
      refine JL.dD (ι:={y : Nat × Tw // y.2.ok∧y.2.out=(an new a.l).2∧y.2.zs.map Mz.m=(an new a.l).1.ms∧y.2.cl=decide ((an new a.l).1.st=5)}) (vs:=[a.v]) (fun y=>Pt y.1.1 0) (fun y=>y.1.2.E y.1.1) oO rfl rfl (fun y=>Tw.wr _ _) (fun w' hw'=>(lf a w' (ha.ext hw'.aS) hal).mono fun e w2 ⟨y,h1,h2,h3⟩=>⟨⟨y,h1⟩,h2,h3⟩) ?_
      rintro ⟨⟨bt,t⟩,tok,tout,tms,tcl⟩
      dsimp only at tok tout tms tcl ⊢
      repeat (first | refine JL.q (by (apply OQ.assign;rfl)) rfl ?_ | refine JC.seq ?_ | refine JC.region ?_ | refine JL.nil ?_ | refine JE.next ?_)
      refine JL.dD (ι:=Nat) (vs:=[]) (fun b=>Pt b 0) (fun b=>pT.E b) gF rfl rfl (fun b=>Pw.wr b _) (fun w' _=>iA w') fun bp=>?_
      skip
      refine JL.qe Tryz.underlying22 cc rfl fun b0 _=>?_
      refine JL.perm (M':=pT.E bp++(ay 5 (some (b0,0)) (([] : List Bt).map U8)++t.E bt)) ?_ (by
        show List.Perm (⟨b0,Sl.aO 5 1 0 0 [],true⟩::(pT.E bp++(t.E bt++[]))) (pT.E bp++(⟨b0,Sl.aO 5 1 0 0 [],true⟩::t.E bt))
        rw [List.append_nil]
        exact aM fun _ _ v=>by simp only [List.count_append,List.count_cons];omega)
      repeat (first | refine JL.q (by first|(apply OQ.len (k:=c.l.length) (ad:=c.ad) (cap:=c.cap);exact Tryz.underlying23;rfl)|(apply OQ.move;rfl)|(apply OQ.assign;rfl)) rfl ?_ | refine JC.seq ?_ | refine JC.region ?_ | refine JC.block ?_ | refine JL.nil ?_ | refine JE.next ?_)
      refine JC.loop (ι:=Pl) (fun x=>[(5,Pt bt 0),(6,Pt bp 0),(7,ag x.q x.O.length),(8,x.r.v),(27,c.v),(28,N c.l.length),(29,N x.i)]) (fun x=>x.z.E bp++(ay 5 x.q (x.O.map U8)++t.E bt)) (fun x=>c.l.length - x.i) (fun x=>x.good w a c.l.length) ⟨0,pT,new,some (b0,0),[],a⟩ ⟨Nat.zero_le _,uf,ug,tL,pU _,(fun m hm=>by cases hm),nofun,ha,hal,by show 0+11 * a.l.length≤_;omega,by show an new a.l=(_,[]++_);rw [List.nil_append]⟩ (by repeat (first | exact af.nil | refine af.cons _ _ _ rfl ?_)) (av.refl _) ?_
      rintro ⟨i,z,S,q,O,r⟩ g
      obtain ⟨gi,zok,zis,Swf,Sft,Smk,hqn,hr,hrl,hol,hfe⟩:=g
      dsimp only at gi zok zis Swf Sft Smk hqn hr hrl hol hfe ⊢
      have hrcap:=hr.len
      repeat (first | refine JL.q (by (apply OQ.dV (a:=i) (b:=c.l.length);rfl;rfl)) rfl ?_ | refine JC.seq ?_ | refine JC.region ?_ | refine JL.nil ?_ | refine JE.next ?_)
      refine JC.cond rfl (fun hh=>?_) (fun hh=>?_)
      · have hi' : i<c.l.length:=of_decide_eq_true hh
        clear hh
        obtain ⟨cb,cj,hcd,hcc⟩:=hc.reads.at (by rw [List.length_map];omega)
        obtain ⟨v,hv⟩ : ∃ v,c.l[i]?=some v:=⟨_,List.getElem?_eq_getElem hi'⟩
        have hcell : w.cell? ⟨cb,cj+i,none⟩=some (I v):=hcc i _ (by rw [List.getElem?_map,hv];rfl)
        have hcv : c.v=.slice (some ⟨cb,cj,none⟩) c.l.length c.cap:=by unfold rY.v;rw [hcd]
        have hpc : Pt cb (cj+i * 1)=Pt cb (cj+i):=by rw [Nat.mul_one]
        obtain ⟨x1,hx1⟩ : ∃ x1 : Nat,I (v % 65536)=N x1:=by
          have h1:=Int.emod_nonneg v (b:=65536) (by decide)
          refine ⟨(v % 65536).toNat,?_⟩
          show I _=I _
          rw [Int.toNat_of_nonneg h1]
        obtain ⟨n1,hn1⟩ : ∃ n1,x1 % (r.l.length+1)=n1:=⟨_,rfl⟩
        have hn1l : n1≤r.l.length:=by have:=Nat.mod_lt x1 (show 0<r.l.length+1 by omega);omega
        rw [hcv]
        repeat (first | refine JL.q (by first|(apply OQ.to;exact (OQ.cX (k:=.i64) (i:=i) (sz:=1) Tryz.underlying23 sr rfl rfl hi');exact hpc)|(apply OQ.aq (v:=I v);exact bV;rfl;exact (block_lt_of_cell hcell);exact (by simp);exact hcell)|(apply OQ.to;exact (OQ.x3 (k:=16) (m:=65535) (r:=65536) (by decide) rfl rfl rfl rfl);exact hx1)|(apply OQ.len (k:=r.l.length) (ad:=r.ad) (cap:=r.cap);exact Tryz.underlying22;rfl)|(apply OQ.bh (a:=r.l.length) (b:=1);rfl;rfl;exact (by omega))|(apply OQ.to;exact (OQ.xV (a:=x1) (b:=r.l.length+1) rfl rfl (by omega));exact (congrArg N hn1))|(apply OQ.move;rfl)|(apply OQ.assign;rfl)) rfl ?_ | refine JC.seq ?_ | refine JC.region ?_ | refine JC.block ?_ | refine JC.skip ?_ | refine JL.nil ?_ | refine JE.next ?_)
        refine JL.qe Tryz.underlying22 cc rfl fun b4 _=>?_
        repeat (refine JL.q (by first|(apply OQ.fst (s:=r) (m:=n1);exact Tryz.underlying22;exact ec;rfl;rfl;exact hn1l;exact hrcap)|(apply OQ.move;rfl)) rfl ?_)
        have hV : (r.fst n1).ok w:=hr.fst n1
        have hVl : (r.fst n1).l=r.l.take n1:=rfl
        have hVn : (r.fst n1).l.length≤r.l.length:=by rw [hVl,List.length_take];omega
        have hVe : (r.fst n1).l.length=n1:=by rw [hVl,List.length_take];omega
        generalize hVd : r.fst n1=V at hV hVl hVn hVe ⊢
        refine JL.dj (xs:=[]) (cs:=V.l.map U8) (m:=V.l.length) (ad:=V.ad) (sc:=V.cap) (some (b4,0)) Tryz.underlying22 cc nofun rfl rfl (by rw [List.length_map]) (fun w' hw'=>(hV.ext hw'.aS).reads) (b5 _) rfl (by rw [List.length_nil];omega) (by rw [List.length_nil];omega) rfl fun q5 hq5=>?_
        rw [List.nil_append] at hq5 ⊢
        have hq5' : q5=none→V.l=[]:=fun h=>List.map_eq_nil_iff.1 (hq5 h)
        rw [List.length_map]
        have hlv5:=dW q5 V.l
        have hll5:=dX hq5'
        rw [← hlv5]
        refine JL.perm (M':=z.E bp++(ay 5 q5 (V.l.map U8)++(ay 5 q (O.map U8)++t.E bt))) ?_ (show List.Perm (ay 5 q5 (V.l.map U8)++(z.E bp++(ay 5 q (O.map U8)++t.E bt))) _ from aM fun _ _ v=>by simp only [List.count_append];omega)
        refine JL.feed z S (bR q5 V.l) zok zis Swf (by rw [hll5];omega) (Sft.mono (by rw [hll5];omega)) ⟨hm,by simp⟩ (fun w' hw'=>⟨?_,?_⟩) rfl rfl rfl fun z' qf h1 h2 h3=>?_
        · exact eH (e:=5) hw' fun x hx=>List.mem_append_right _ (List.mem_append_left _ hx)
        · cases q5 with
          | none=>intro h0;exact absurd rfl h0
          | some p5=>exact jK hw' .here
        rw [hll5] at h2 h3 ⊢
        have hlvf:=dW qf (an S V.l).2
        have hllf:=dX h3
        have hofl:=jP V.l S
        rw [← hlvf]
        refine JL.perm (M':=ay 5 q (O.map U8)++(ay 5 qf ((an S V.l).2.map U8)++(ay 5 q5 (V.l.map U8)++(z'.E bp++t.E bt)))) ?_ (aM fun _ _ v=>by simp only [List.count_append];omega)
        refine JL.dj (xs:=O.map U8) (cs:=(bR qf (an S V.l).2).l.map U8) (m:=(bR qf (an S V.l).2).l.length) (ad:=(bR qf (an S V.l).2).ad) (sc:=(bR qf (an S V.l).2).cap) q Tryz.underlying22 cc (fun h=>by rw [hqn h];rfl) (by rw [List.length_map];rfl) rfl (by rw [List.length_map]) (fun w' hw'=>(eH (e:=5) hw' fun x hx=>List.mem_append_right _ (List.mem_append_left _ hx)).reads) (b5 _) rfl (by rw [List.length_map,hllf];omega) (by rw [List.length_map,hllf];omega) rfl fun q7 hq7=>?_
        rw [hllf] at hq7 ⊢
        rw [← List.map_append,List.length_map]
        rw [← List.map_append] at hq7
        have hq7' : q7=none→O++(an S V.l).2=[]:=fun h=>List.map_eq_nil_iff.1 (hq7 h)
        refine JL.ek (M':=ay 5 q7 ((O++(an S V.l).2).map U8)++(z'.E bp++t.E bt)) ?_ (dF (av.refl _) (bZ _ (bZ _ (av.refl _))))
        refine JL.perm (M':=z'.E bp++(ay 5 q7 ((O++(an S V.l).2).map U8)++t.E bt)) ?_ (aM fun _ _ v=>by simp only [List.count_append];omega)
        repeat (first | refine JL.q (by first|(apply OQ.snd (s:=r) (m:=n1);exact Tryz.underlying22;exact ec;rfl;rfl;exact hn1l)|(apply OQ.move;rfl)|(apply OQ.assign;rfl)|(apply OQ.bh;rfl;rfl;exact (by (try simp only []);omega))) rfl ?_ | refine JC.region ?_ | refine JL.nil ?_ | refine JE.next ?_ | refine JE.ai ?_)
        have hrs : (r.snd n1).l=r.l.drop n1:=rfl
        have hrsl : (r.snd n1).l.length=r.l.length - n1:=by rw [hrs,List.length_drop]
        have hfa:=dc S (r.l.take n1) (r.l.drop n1)
        rw [List.take_append_drop,← hVl] at hfa
        have hall:=jO V.l S _ 6000 Swf Sft Smk (by omega)
        have hft2:=ji V.l S _ Sft
        have hO7:=jP V.l S
        refine JE.again (i:=(⟨i,z,S,q,O,r⟩ : Pl)) (⟨i+1,z',(an S V.l).1,q7,O++(an S V.l).2,r.snd n1⟩ : Pl) ⟨hi',h1,h2,hall.1,hft2.mono (by show 5000 - r.l.length+V.l.length≤5000 - (r.snd n1).l.length;omega),hall.2,hq7',hr.snd n1 hn1l,by show (r.snd n1).l.length≤5000;omega,?_,?_⟩ (by show c.l.length - (i+1)<c.l.length - i;omega) (by repeat (first | exact af.nil | refine af.cons _ _ _ rfl ?_)) (av.refl _)
        · show (O++(an S V.l).2).length+11 * (r.snd n1).l.length≤55000
          rw [List.length_append]
          omega
        · show an new a.l=((an (an S V.l).1 (r.snd n1).l).1,(O++(an S V.l).2)++(an (an S V.l).1 (r.snd n1).l).2)
          rw [hfe,hfa,hrs,List.append_assoc]
      · clear hh
        repeat (first | refine JL.q (by (apply OQ.move;rfl)) rfl ?_ | refine JC.seq ?_ | refine JC.region ?_ | refine JC.exit ?_ | refine JE.next ?_ | refine JE.ax ?_ | refine JE.aI ?_)
        refine JL.qe Tryz.underlying22 cc rfl fun b4 _=>?_
        repeat (refine JL.q (by (apply OQ.move;rfl)) rfl ?_)
        have hV:=hr
        have hVn : r.l.length≤r.l.length:=Nat.le_refl _
        refine JL.dj (xs:=[]) (cs:=r.l.map U8) (m:=r.l.length) (ad:=r.ad) (sc:=r.cap) (some (b4,0)) Tryz.underlying22 cc nofun rfl rfl (by rw [List.length_map]) (fun w' hw'=>(hr.ext hw'.aS).reads) (b5 _) rfl (by rw [List.length_nil];omega) (by rw [List.length_nil];omega) rfl fun q5 hq5=>?_
        rw [List.nil_append] at hq5 ⊢
        have hq5' : q5=none→r.l=[]:=fun h=>List.map_eq_nil_iff.1 (hq5 h)
        rw [List.length_map]
        have hlv5:=dW q5 r.l
        have hll5:=dX hq5'
        rw [← hlv5]
        refine JL.perm (M':=z.E bp++(ay 5 q5 (r.l.map U8)++(ay 5 q (O.map U8)++t.E bt))) ?_ (show List.Perm (ay 5 q5 (r.l.map U8)++(z.E bp++(ay 5 q (O.map U8)++t.E bt))) _ from aM fun _ _ v=>by simp only [List.count_append];omega)
        refine JL.feed z S (bR q5 r.l) zok zis Swf (by rw [hll5];omega) (Sft.mono (by rw [hll5];omega)) ⟨hm,by simp⟩ (fun w' hw'=>⟨?_,?_⟩) rfl rfl rfl fun z' qf h1 h2 h3=>?_
        · exact eH (e:=5) hw' fun x hx=>List.mem_append_right _ (List.mem_append_left _ hx)
        · cases q5 with
          | none=>intro h0;exact absurd rfl h0
          | some p5=>exact jK hw' .here
        rw [hll5] at h2 h3 ⊢
        have hlvf:=dW qf (an S r.l).2
        have hllf:=dX h3
        have hofl:=jP r.l S
        rw [← hlvf]
        refine JL.perm (M':=ay 5 q (O.map U8)++(ay 5 qf ((an S r.l).2.map U8)++(ay 5 q5 (r.l.map U8)++(z'.E bp++t.E bt)))) ?_ (aM fun _ _ v=>by simp only [List.count_append];omega)
        refine JL.dj (xs:=O.map U8) (cs:=(bR qf (an S r.l).2).l.map U8) (m:=(bR qf (an S r.l).2).l.length) (ad:=(bR qf (an S r.l).2).ad) (sc:=(bR qf (an S r.l).2).cap) q Tryz.underlying22 cc (fun h=>by rw [hqn h];rfl) (by rw [List.length_map];rfl) rfl (by rw [List.length_map]) (fun w' hw'=>(eH (e:=5) hw' fun x hx=>List.mem_append_right _ (List.mem_append_left _ hx)).reads) (b5 _) rfl (by rw [List.length_map,hllf];omega) (by rw [List.length_map,hllf];omega) rfl fun q7 hq7=>?_
        rw [hllf] at hq7 ⊢
        rw [← List.map_append,List.length_map]
        rw [← List.map_append] at hq7
        have hq7' : q7=none→O++(an S r.l).2=[]:=fun h=>List.map_eq_nil_iff.1 (hq7 h)
        refine JL.ek (M':=ay 5 q7 ((O++(an S r.l).2).map U8)++(z'.E bp++t.E bt)) ?_ (dF (av.refl _) (bZ _ (bZ _ (av.refl _))))
        refine JL.perm (M':=z'.E bp++(ay 5 q7 ((O++(an S r.l).2).map U8)++t.E bt)) ?_ (aM fun _ _ v=>by simp only [List.count_append];omega)
        have hall:=jO r.l S _ 6000 Swf Sft Smk (by omega)
        have hO7:=jP r.l S
        rw [hfe] at tout tms tcl
        dsimp only at tout tms tcl
        obtain ⟨S9,hS9⟩ : ∃ S9,(an S r.l).1=S9:=⟨_,rfl⟩
        obtain ⟨O9,hO9⟩ : ∃ O9,O++(an S r.l).2=O9:=⟨_,rfl⟩
        rw [hS9] at tms tcl h2 hall
        rw [hO9] at tout hq7' ⊢
        have hft9:=ji r.l S _ Sft
        rw [hS9] at hft9
        have hO9l : O9.length≤55000:=by rw [← hO9,List.length_append];omega
        clear hfe hO7 Swf Sft Smk zis zok hr hol
        have hmsl : z'.zs.map Mz.m=t.zs.map Mz.m:=h2.ms.trans tms.symm
        have hmb : ∀ m ∈ z'.zs,m.m.to.length≤10∧m.m.b.length≤6000:=fun m hm=>hall.2 m.m (by rw [← h2.ms];exact List.mem_map_of_mem hm)
        have hmn : z'.zs.length≤1000000:=by
          have e1 : z'.zs.length=S9.ms.length:=by rw [← h2.ms,List.length_map]
          have e2:=hft9.sz
          unfold Po.sz at e2
          omega
        have htn : t.zs.length=z'.zs.length:=by simpa using (congrArg List.length hmsl).symm
        have hclo : decide (z'.st=5)=t.cl:=by rw [tcl,h2.st]
        have hacc9:=dW q7 O9
        have hl9:=dX hq7'
        rw [← hacc9]
        repeat (first | refine JL.q (by (apply OQ.assign;rfl)) rfl ?_ | refine JC.seq ?_ | refine JL.nil ?_ | refine JE.next ?_)
        haveI : Inhabited {y : Acc × List Mz // (y.1=none→y.2=[])∧y.2.map Mz.m=z'.zs.map Mz.m}:=⟨⟨(z'.qm,z'.zs),h1.m,rfl⟩⟩
        have hmem : ∀ (y : {y : Acc × List Mz // (y.1=none→y.2=[])∧y.2.map Mz.m=z'.zs.map Mz.m}),∀ m ∈ (wY y.1.1 y.1.2).l,m.to.l.length≤1000000:=fun y m hm=>by
          obtain ⟨m1,hm1,rfl⟩:=List.mem_map.1 hm
          show (nD m1.qt m1.m.to).l.length≤_
          rw [uu m1.ht]
          obtain ⟨m2,hm2,e2⟩:=List.mem_map.1 (y.2.2 ▸ List.mem_map_of_mem (f:=Mz.m) hm1)
          rw [← e2]
          have:=(hmb m2 hm2).1
          omega
        have hylen : ∀ y : {y : Acc × List Mz // (y.1=none→y.2=[])∧y.2.map Mz.m=z'.zs.map Mz.m},y.1.2.length=z'.zs.length:=fun y=>by simpa using congrArg List.length y.2.2
        have hsame : ∀ (y : {y : Acc × List Mz // (y.1=none→y.2=[])∧y.2.map Mz.m=z'.zs.map Mz.m}) (u w' : World) (S : List Nat) (X : List aF),aa u S X w'→(∀ x ∈ cg 38 3 y.1.1 (y.1.2.map Mz.cs)++y.1.2.flatMap Mz.E,x ∈ X)→(∀ x ∈ t.M,x ∈ X)→Calls Tryz.prog 11 [ag y.1.1 z'.zs.length,ag t.qm t.zs.length].toArray w' fun e w2=>e=.returned (.bool true)∧Ext w' w2:=fun y u w' S X hw' hy ht=>by
          have h9:=nC (wY y.1.1 y.1.2) (wY t.qm t.zs) w' (uw y.2.1 hw' hy) (uw tok.m hw' ht) (by rw [vX,vX,y.2.2,hmsl]) (by show (y.1.2.map _).length≤_;rw [List.length_map,hylen];exact hmn) (hmem y)
          rw [vW y.2.1,vW tok.m,hylen] at h9
          exact h9
        have hmails : ∀ (u w' : World) (S : List Nat) (X : List aF),aa u S (⟨bp,Row 75 z'.cs,true⟩::X) w'→(∀ x ∈ z'.M,x ∈ X)→Calls Tryz.prog 12 [Pt bp 0].toArray w' (lM z' w'):=fun u w' S X hw' hx=>rC bp z' h1 (fun m hm=>⟨by have:=(hmb m hm).1;omega,by have:=(hmb m hm).2;omega⟩) hmn w' (Pw.xL hw' fun x h=>List.mem_cons_of_mem _ (hx x h)) ((gu hw').weak (.keep _ _ _ _ _ _ (fun _ h=>h) (.nil _)))
        clear hmem hylen
        let vs : Nat→{y : Acc × List Mz // (y.1=none→y.2=[])∧y.2.map Mz.m=z'.zs.map Mz.m}→Value:=fun j y=>match j with
          | 0=>(bR q7 O9).v
          | 1=>Z (bR q7 O9).l
          | 2=>Pt bt 0
          | 3=>Pt bt 0
          | 4=>Pt bt 3
          | 5=>Z t.out
          | 6=>.bool true
          | 7=>.bool true
          | 8=>Pt bp 0
          | 9=>ag y.1.1 z'.zs.length
          | 10=>Pt bt 0
          | 11=>Pt bt 0
          | 12=>Pt bt 4
          | 13=>ag t.qm t.zs.length
          | 14=>.bool true
          | 15=>.bool true
          | 16=>.bool true
          | 17=>Pt bp 0
          | 18=>.bool (decide (z'.st=5))
          | 19=>Pt bt 0
          | 20=>Pt bt 0
          | 21=>Pt bt 5
          | 22=>.bool t.cl
          | 23=>.bool true
          | 24=>.bool true
          | 25=>.bool true
          | _=>N 0
        let Ms : Nat→{y : Acc × List Mz // (y.1=none→y.2=[])∧y.2.map Mz.m=z'.zs.map Mz.m}→List aF:=fun j y=>match j with
          | 9=>cg 38 3 y.1.1 (y.1.2.map Mz.cs)++y.1.2.flatMap Mz.E
          | 26=>[⟨bp,Row 75 z'.cs,true⟩]
          | 27=>z'.R
          | 28=>ay 5 q7 (O9.map U8)
          | 29=>[⟨bt,Row 33 t.cs,true⟩]
          | 30=>t.T++t.M
          | _=>[]
        refine JC.grow (g:=⟨[(5,Pt bt 0),(6,Pt bp 0),(7,(bR q7 O9).v)],31,vs,Ms,(fun j=>match j with | 1=>[(0,59)] | 3=>[(2,61)] | 4=>[(3,62)] | 5=>[(4,63)] | 6=>[(1,60),(5,64)] | 7=>[(6,65)] | 8=>[(7,66)] | 9=>[(8,67),(7,66)] | 10=>[(7,66)] | 11=>[(10,69),(7,66)] | 12=>[(11,70),(7,66)] | 13=>[(12,71),(7,66)] | 14=>[(9,68),(13,72),(7,66)] | 15=>[(7,66),(14,73)] | 16=>[(15,74)] | 17=>[(16,75)] | 18=>[(17,76),(16,75)] | 19=>[(16,75)] | 20=>[(19,78),(16,75)] | 21=>[(20,79),(16,75)] | 22=>[(21,80),(16,75)] | 23=>[(18,77),(22,81),(16,75)] | 24=>[(16,75),(23,82)] | 25=>[(24,83)] | _=>[]),(fun j=>match j with | 1=>[28] | 5=>[29] | 9=>[26,27] | 13=>[29] | 14=>[9,30] | 18=>[26] | 22=>[29] | _=>[]),(fun j=>match j with | _=>[]),(fun j=>match j with | _=>none)⟩) [(25,4)] [] ei (by repeat (first | exact af.nil | refine af.cons _ _ _ rfl ?_)) ?_ (by kernel_rfl) (by kernel_rfl) (by kernel_rfl) ?_ ?_
        · show av (Ms 26 default++(Ms 27 default++(Ms 28 default++(Ms 29 default++(Ms 30 default++[]))))) _;rw [List.append_nil];exact av.refl _
        · refine ⟨?_,?_,?_,?_,?_,?_,?_,?_,?_,?_,?_,?_,?_,?_,?_,?_,?_,?_,?_,?_,?_,?_,?_,?_,?_,?_,trivial⟩
          · (intro xx EF MF Q kk;(try refine JL.aT rfl rfl ?_);exact JL.q (OQ.move rfl) rfl (JL.nil (kk default nofun)))
          · (intro xx EF MF Q kk;(try refine JL.aT rfl rfl ?_);exact JL.q (OQ.nF (s:=bR q7 O9) Tryz.underlying22 Tryz.underlying5 Tryz.underlying9 rfl (fun w2 hw2=>eH (e:=5) hw2 fun x hx=>List.mem_append_left _ (List.mem_append_left _ hx))) rfl (JL.nil (kk default nofun)))
          · (intro xx EF MF Q kk;(try refine JL.aT rfl rfl ?_);exact JL.q (OQ.move rfl) rfl (JL.nil (kk default nofun)))
          · (intro xx EF MF Q kk;(try refine JL.aT rfl rfl ?_);exact JL.q (OQ.aJ rfl) rfl (JL.nil (kk default nofun)))
          · (intro xx EF MF Q kk;(try refine JL.aT rfl rfl ?_);exact JL.q (OQ.bA rfl rfl rfl (by decide) rfl) rfl (JL.nil (kk default nofun)))
          · (intro xx EF MF Q kk;(try refine JL.aT rfl rfl ?_);exact JL.q (OQ.load fy rfl .here (Row.cell (v:=Z t.out) rfl)) rfl (JL.nil (kk default nofun)))
          · (intro xx EF MF Q kk;(try refine JL.aT rfl rfl ?_);exact JL.q (OQ.en rfl rfl (decide_eq_true (by rw [hl9,tout]))) rfl (JL.nil (kk default nofun)))
          · (intro xx EF MF Q kk;(try refine JL.aT rfl rfl ?_);exact JL.q (OQ.move rfl) rfl (JL.nil (kk default nofun)))
          · (intro xx EF MF Q kk;(try refine JL.aT rfl rfl ?_);exact JL.q (OQ.move rfl) rfl (JL.nil (kk default nofun)))
          · (intro xx EF MF Q kk;refine JL.aT rfl rfl ?_;exact JL.dD (ι:={y : Acc × List Mz // (y.1=none→y.2=[])∧y.2.map Mz.m=z'.zs.map Mz.m}) (vs:=[Pt bp 0]) (fun y=>ag y.1.1 z'.zs.length) (fun y=>cg 38 3 y.1.1 (y.1.2.map Mz.cs)++y.1.2.flatMap Mz.E) oG rfl rfl (fun y e he=>(List.mem_append.1 he).elim (iG _ _ _ _ e) (od _ e)) (fun w2 hw2=>hmails _ w2 _ _ hw2 (fun x hx=>List.mem_append_left MF (List.mem_append_left [] (show x ∈ z'.R from List.mem_append_right _ (List.mem_append_right _ (List.mem_append_right _ hx)))))) fun y=>JL.nil (kk y nofun))
          · (intro xx EF MF Q kk;(try refine JL.aT rfl rfl ?_);exact JL.q (OQ.move rfl) rfl (JL.nil (kk default nofun)))
          · (intro xx EF MF Q kk;(try refine JL.aT rfl rfl ?_);exact JL.q (OQ.aJ rfl) rfl (JL.nil (kk default nofun)))
          · (intro xx EF MF Q kk;(try refine JL.aT rfl rfl ?_);exact JL.q (OQ.bA rfl rfl rfl (by decide) rfl) rfl (JL.nil (kk default nofun)))
          · (intro xx EF MF Q kk;(try refine JL.aT rfl rfl ?_);exact JL.q (OQ.load o8 rfl .here (Row.cell (v:=ag t.qm t.zs.length) rfl)) rfl (JL.nil (kk default nofun)))
          · (intro xx EF MF Q kk;(try refine JL.aT rfl rfl ?_);exact JL.q (OQ.ak (vs:=[ag (xx 9).1.1 z'.zs.length,ag t.qm t.zs.length]) lP rfl (fun w2 hw2=>hsame (xx 9) _ w2 _ _ hw2 (fun x hx=>List.mem_append_left _ (List.mem_append_left _ hx)) (fun x hx=>List.mem_append_left _ (List.mem_append_right _ (List.mem_append_left _ (List.mem_append_right _ hx)))))) rfl (JL.nil (kk default nofun)))
          · (intro xx EF MF Q kk;(try refine JL.aT rfl rfl ?_);exact JL.q (OQ.az rfl rfl) rfl (JL.nil (kk default nofun)))
          · (intro xx EF MF Q kk;(try refine JL.aT rfl rfl ?_);exact JL.q (OQ.move rfl) rfl (JL.nil (kk default nofun)))
          · (intro xx EF MF Q kk;(try refine JL.aT rfl rfl ?_);exact JL.q (OQ.move rfl) rfl (JL.nil (kk default nofun)))
          · (intro xx EF MF Q kk;(try refine JL.aT rfl rfl ?_);exact JL.q (OQ.ak (vs:=[Pt bp 0]) dQ rfl (fun w2 hw2=>jz bp z' w2 ((gu hw2).weak (.keep _ _ _ _ _ _ (fun _ h=>h) (.nil _))))) rfl (JL.nil (kk default nofun)))
          · (intro xx EF MF Q kk;(try refine JL.aT rfl rfl ?_);exact JL.q (OQ.move rfl) rfl (JL.nil (kk default nofun)))
          · (intro xx EF MF Q kk;(try refine JL.aT rfl rfl ?_);exact JL.q (OQ.aJ rfl) rfl (JL.nil (kk default nofun)))
          · (intro xx EF MF Q kk;(try refine JL.aT rfl rfl ?_);exact JL.q (OQ.bA rfl rfl rfl (by decide) rfl) rfl (JL.nil (kk default nofun)))
          · (intro xx EF MF Q kk;(try refine JL.aT rfl rfl ?_);exact JL.q (OQ.load oM rfl .here (Row.cell (v:=.bool t.cl) rfl)) rfl (JL.nil (kk default nofun)))
          · (intro xx EF MF Q kk;(try refine JL.aT rfl rfl ?_);exact JL.q (OQ.to (OQ.yC Tryz.underlying4 rfl rfl) (show Value.bool (decide (z'.st=5) == t.cl)=Value.bool true by rw [hclo];simp)) rfl (JL.nil (kk default nofun)))
          · (intro xx EF MF Q kk;(try refine JL.aT rfl rfl ?_);exact JL.q (OQ.az rfl rfl) rfl (JL.nil (kk default nofun)))
          · (intro xx EF MF Q kk;(try refine JL.aT rfl rfl ?_);exact JL.q (OQ.assign rfl) rfl (JL.nil (kk default nofun)))
        · intro xx hx
          show JE _ _ _ _ _ ((4,.bool true)::_) []
          repeat (refine JE.next ?_)
          refine JC.ret ?_
          skip
          exact JE.aE rfl (RV.tmp rfl) fun w' hw=>⟨rfl,hw.aS⟩
end dx
end
section
set_option maxRecDepth 10000
open Go.ChangeShapes Go.WideShapes Go.ChangeAt Go.RowKit
open Sl
set_option linter.unusedVariables false
theorem yj : ownKnob Tryz.prog.godebug=none:=by kernel_rfl
theorem nE : laidOutB Tryz.prog=true:=by kernel_rfl
theorem xS {z : Int} (h : (Lit.int .u8 z).wf=true) : U8 (BitVec.ofInt 8 z)=.int .u8 z:=by
  have h0 : 0≤z∧z≤255:=by
    have h1 : (decide (0≤z) && decide (z≤255))=true:=h
    simpa using h1
  have h2 : ((BitVec.ofInt 8 z).toNat : Int)=z:=by
    rw [BitVec.toNat_ofInt]
    omega
  unfold U8
  rw [h2]
def p6 (zs : List Int) : List (BitVec 8):=zs.map (BitVec.ofInt 8)
theorem wR {H : Type} {enc : TypeId × Value→H} {W : World} {fuel : Nat} {v : Value} {x : DataW H × List MemPlace} (h : DataW.trod enc Tryz.prog W 0 (fun _=>true) true fuel 22 [v]=some x) : ∃ k : aC,v=k.v∧k.ok W∧k.cap≤maxLen:=by
  rcases open_ints (show Tryz.prog.underlying 22=some (.slice 5) by kernel_rfl) (show Tryz.prog.underlying 5=some (.int .u8) by kernel_rfl) (by kernel_rfl) h with ⟨hcs,_⟩ | ⟨x,l,c,zs,hcs,_,hl,hm,hz,_,hcell,hwz⟩
  · cases hcs
    exact ⟨⟨none,0,[]⟩,rfl,⟨by simp,Reads.nil _ _⟩,by decide⟩
  · cases hcs
    simp only [if_true] at hz
    have hlen : (p6 (zs.take l)).length=l:=by simp [p6];omega
    refine ⟨⟨some x,c,p6 (zs.take l)⟩,by simp [aC.v,hlen],⟨by rw [hlen];exact hl,?_⟩,hm⟩
    intro i v hv
    have hi : i<l:=by
      have:=(List.getElem?_eq_some_iff.1 hv).1
      simpa [hlen] using this
    have hc:=hcell i (by omega)
    obtain ⟨b,o,sp⟩:=x
    cases sp with
    | some s=>
      have hc:=hcell 0 (by omega)
      simp only [World.cell?,Addr.add,if_true] at hc
      split at hc <;> simp at hc
    | none=>
      refine ⟨b,o,rfl,?_⟩
      have e1 : zs.getD i 0=zs[i]'(by omega):=by simp [List.getD,show i<zs.length by omega]
      have e2:=xS (hwz (zs[i]'(by omega)) (List.getElem_mem _))
      have e3 : v=.int .u8 (zs.getD i 0):=by
        simp only [p6,List.map_map,List.getElem?_map,List.getElem?_take] at hv
        rw [if_pos hi,List.getElem?_eq_getElem (by omega)] at hv
        simp only [Option.map_some,Function.comp,Option.some.injEq] at hv
        rw [← hv,e2,e1]
      rw [e3]
      have e4 : (⟨b,o,none⟩ : Addr).add i=⟨b,o+i,none⟩:=by
        unfold Addr.add
        split
        · subst i;rfl
        · rfl
      rw [e4] at hc
      exact hc
theorem wS {H : Type} {enc : TypeId × Value→H} {W : World} {fuel : Nat} {v : Value} {x : DataW H × List MemPlace} (h : DataW.trod enc Tryz.prog W 0 (fun _=>true) true fuel 23 [v]=some x) : ∃ k : rY,v=k.v∧k.ok W∧k.cap≤maxLen:=by
  rcases open_ints (show Tryz.prog.underlying 23=some (.slice 3) by kernel_rfl) (show Tryz.prog.underlying 3=some (.int .i64) by kernel_rfl) (by kernel_rfl) h with ⟨hcs,_⟩ | ⟨x,l,c,zs,hcs,_,hl,hm,hz,_,hcell,hwz⟩
  · cases hcs
    exact ⟨⟨none,0,[]⟩,rfl,⟨by simp,Reads.nil _ _⟩,by decide⟩
  · cases hcs
    simp only [if_true] at hz
    have hlen : (zs.take l).length=l:=by simp;omega
    refine ⟨⟨some x,c,zs.take l⟩,by simp [rY.v,hlen],⟨by rw [hlen];exact hl,?_⟩,hm⟩
    intro i v hv
    have hi : i<l:=by
      have:=(List.getElem?_eq_some_iff.1 hv).1
      rw [List.length_map,hlen] at this
      exact this
    have hc:=hcell i (by omega)
    obtain ⟨b,o,sp⟩:=x
    cases sp with
    | some s=>
      have hc:=hcell 0 (by omega)
      simp only [World.cell?,Addr.add,if_true] at hc
      split at hc <;> simp at hc
    | none=>
      refine ⟨b,o,rfl,?_⟩
      have e1 : zs.getD i 0=zs[i]'(by omega):=by simp [List.getD,show i<zs.length by omega]
      have e3 : v=.int .i64 (zs.getD i 0):=by
        simp only [List.getElem?_map,List.getElem?_take] at hv
        rw [if_pos hi,List.getElem?_eq_getElem (by omega)] at hv
        simp only [Option.map_some,Option.some.injEq] at hv
        rw [← hv,e1]
      rw [e3]
      have e4 : (⟨b,o,none⟩ : Addr).add i=⟨b,o+i,none⟩:=by
        unfold Addr.add
        split
        · subst i;rfl
        · rfl
      rw [e4] at hc
      exact hc
end
section
set_option maxRecDepth 10000
open Go.ChangeShapes Go.WideShapes Go.ChangeAt Go.RowKit
open Sl
set_option linter.unusedVariables false
set_option maxRecDepth 100000
theorem oQ : ((Rows.talkOrderRow.laid).all fun x=>x.2.handleName?.isNone)=true:=by kernel_rfl
theorem vo (os : Os) (args : Array Value) : laidMetH Tryz.prog Rows.talkOrderRow.laid ((World.laidAll Tryz.prog os Rows.talkOrderRow.laid).forCall (fun _ _=>0) ⟨#[],args,[]⟩).memory:=by
  rw [MakeChecks.laidMetH_plain _ _ _ oQ]
  exact laidMet_laidAll _ (by kernel_rfl) (by kernel_rfl)
theorem rK (os : Os) : (World.laidAll Tryz.prog os Rows.talkOrderRow.laid).Shaped Tryz.prog:=World.shaped_of_ZipB (by kernel_rfl) (by kernel_rfl)
theorem gf {H : Type} {enc : TypeId × Value→H} {a : Assume} {C : Checked} {os : Os} {f : FuncId} {fn : Func} {s : ChangeSpec} {conds : List PathCond} {apart fresh handsOn again : Bool} {X : World→Array Value→Prop}
    (hX : ∀ (w w' : World) (args : Array Value),w.heap=w'.heap→X w args→X w' args)
    (own : ownKnob C.prog.godebug=none) (started : os.Started) (noInit : C.prog.inits.idxOf? f=none) (hfn : C.prog.funcs[f]?=some fn)
    (witness : ∃ (w : World) (tape : Tape) (i : Input),w.os=os∧(w.forCall tape i).Shaped C.prog∧i.vars=[]∧Input.okWide C.prog (w.forCall tape i) .any w.heap.size f i∧
      ((s.pre enc C.prog fn conds apart (w.forCall tape i).memory i.args∧X (w.forCall tape i).memory i.args)∧sizedMet enc C.prog fn (OpenSpec.ofChange s) apart (w.forCall tape i).memory i.args)∧a.holds C.prog (lone (Frame.enter C.prog f i.args .normal) [] (w.forCall tape i)))
    (contract : ∀ (W : World) (base : Nat) (args : Array Value) (ds gs : List (DataW H)) (before : List MemPlace),
      (∀ (j : Nat) t v,fn.params[j]?=some t→args[j]?=some v→Value.okWide C.prog W .any base t v)→
      DataW.Whole enc C.prog fn.params.toList s.vars apart W args.toList ds gs before→
      conds.all (PathCond.test C.prog ⟨fn.params.toList,ds,s.plain.varTypes C.prog,gs⟩)=true→
      (DataW.weightsEach C.prog (fn.params.toList++s.plain.varTypes C.prog) (ds++gs)).all (·≤reachBytes)=true→X W args→W.ShapedOpen C.prog→
      Calls C.prog f args W fun e W'=>∃ v,e=.returned v∧s.post enc C.prog fn apart fresh handsOn again W args v W') :
    ReturnsInHanded a C os f .any (fun w args=>(s.pre enc C.prog fn conds apart w args∧X w args)∧sizedMet enc C.prog fn (OpenSpec.ofChange s) apart w args) (s.post enc C.prog fn apart fresh handsOn again):=
  returnsInHanded_of_calls own started noInit witness fun w tape i _ hsh _ hok hpre _=>by
    obtain ⟨_,_,_,fn',hfn',_,_,_,_,hval⟩:=hok
    obtain rfl : fn'=fn:=Option.some.inj (hfn'.symm.trans hfn)
    obtain ⟨⟨⟨ds,gs,before,hw,hc⟩,hx⟩,hz⟩:=hpre
    have hw':=DataW.Whole.of_heap (w':=w.forCall tape i) (by rfl) hw
    refine (contract (w.forCall tape i) w.heap.size i.args ds gs before hval hw' hc (hz.weights hw) (hX _ _ _ (by rfl) hx) hsh).mono fun e W' ⟨v,he,hp⟩=>?_
    subst he
    exact ChangeSpec.post_blind hp
end
end Go.Proofs.YtjeeilmkjjbonaaGreatDoor
