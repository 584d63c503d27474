/-
  Of no statement by itself: the texts TalZ, TalS, TalL, TalT, Slgm, TasE, Plain, FraT, Prp, PosP in one.
  Conditions: each theorem's own.
-/
import Derived.Test.YtjeeilmkjjbonaaGreatDoorPe
import Derived.Test.YtjeeilmkjjbonaaGreatDoorProg
import Derived.Test.YtjeeilmkjjbonaaGreatDoorRows
import Derived.ProofKit
import Derived.OpenShut
import Derived.Below
import Derived.Stop.Joined
import Derived.ChangeMaps5
import Derived.Test.YtjeeilmkjjbonaaGreatDoorTie
import Derived.SevenTiedAt
import Derived.LaidMore
import Derived.Lay
import Derived.Handed
import Derived.HandedShaped
import Derived.Deep.SlicePairs
import Derived.SliceStrings
import Derived.SizedLaws
set_option linter.unusedSimpArgs false
set_option linter.unusedVariables false
namespace Go.Proofs.YtjeeilmkjjbonaaGreatDoor
section
set_option maxRecDepth 10000
open Sl br
theorem under {w w1 w' : World} {M : List aN} (hE : Ext w w1) (h : aa w1 [] M w') : aa w [] M w':=by
  refine ⟨hE.trans h.aS,h.nodup,fun e he=>⟨(h.all e he).1,fun hw=>?_⟩⟩
  rcases (h.all e he).2 hw with k | k
  · exact .inl k
  · exact .inr (Nat.le_trans hE.size k)
set_option maxHeartbeats 64000000 in
theorem xS (s : aB) (w : World) (hs : s.ok w) (hl : s.l.length≤4000000) {mm rr : List Bt} (hu : fz s.l=some (mm,rr)) : Calls Tryz.prog 30 [s.v].toArray w
    fun e w'=>∃ q : (Nat × Nat) × (Nat × Nat),e=.returned (.tuple #[ak (some q.1) mm.length,ak (some q.2) rr.length,N 0])∧aa w [] (aL 5 (some q.2) (rr.map U8)++aL 5 (some q.1) (mm.map U8)) w':=by
  have hu' : mU s.l=(mm,rr,0):=by unfold mU;rw [hu]
  have hJl:=congrArg List.length (de s.l)
  rw [List.length_append] at hJl
  refine enter (n:=91) Tryz.func30 rfl rfl rfl (aa.start w []) ?_
  repeat (first | refine JL.q (by first|(apply OQ.move;rfl)|(apply OQ.assign;rfl)) rfl ?_ | refine JC.seq ?_ | refine JC.region ?_ | refine JL.nil ?_ | refine JE.next ?_)
  refine JL.sx (vs:=[s.v]) (S':=[]) (ι:={ q : ov × aB // q.1.ls=(bB s.l).1∧q.2.l=(bB s.l).2 }) (fun q=>.tuple #[q.1.1.v,q.1.2.v]) (fun q w2=>q.1.1.ok w2∧q.1.2.ok w2) [] gK rfl rfl
    (fun w' hw'=>(iK s w' (hs.holds hw' rfl) hl).mono fun e w2 ⟨q,h1,h2,h3,h4,h5⟩=>⟨⟨q,h2,h3⟩,h1,h4,h5⟩) (.nil _) (by simp) ?_
  rintro ⟨⟨L,x⟩,hL,hx⟩ w1 hw1 ⟨okL,okx⟩
  have hE:=hw1.aS
  dsimp only at hL hx
  have eUB : fz s.l=(gw L.ls).map fun p=>(aE p.1,aE p.2++x.l):=by rw [hL,hx];rfl
  rw [← hL,← hx] at hJl
  unfold ov.ls at hJl eUB
  have hBl:=sS (L.rs.map aB.l)
  have hTl:=xb (L.rs.map aB.l)
  have hLl:=dS (L.rs.map aB.l)
  rw [List.length_map] at hLl
  dsimp only
  repeat (first | refine JL.q (by first|(apply OQ.extract;rfl;rfl)|(apply OQ.move;rfl)|(apply OQ.assign;rfl)) rfl ?_ | refine JC.seq ?_ | refine JC.region ?_ | refine JL.nil ?_ | refine JE.next ?_)
  refine JL.lU Tryz.underlying22 bQ rfl fun b0 _=>?_
  repeat (first | refine JL.q (by (apply OQ.assign;rfl)) rfl ?_ | refine JC.seq ?_ | refine JC.region ?_ | refine JC.block ?_ | refine JL.nil ?_ | refine JE.next ?_)
  refine JC.loop (fun q : Nat × Nat × Nat=>[(5,L.v),(6,x.v),(7,.slice (some ⟨q.2.1,0,none⟩) (ic (L.rs.map aB.l) q.1).length q.2.2),(8,N q.1)])
    (fun q=>[⟨q.2.1,Sl.aG 5 1 (ic (L.rs.map aB.l) q.1).length q.2.2 ((ic (L.rs.map aB.l) q.1).map U8),true⟩])
    (fun q=>L.rs.length - q.1) (fun q=>q.1≤L.rs.length∧∀ l ∈ (L.rs.map aB.l).take q.1,l≠[46]) (0,b0,0) ⟨Nat.zero_le _,by intro l hl;simp at hl⟩ (by repeat (first | exact af.nil | refine af.cons _ _ _ rfl ?_)) (.keep _ _ _ _ _ _ (dw rfl) (.nil _)) ?_
  rintro ⟨i,b,cap⟩ ⟨hi,hnone⟩
  simp only at hi hnone
  repeat (first | refine JL.q (by first|(apply OQ.move;rfl)|(apply OQ.len;rfl;rfl)|(apply OQ.dz;rfl;rfl)) rfl ?_ | refine JC.seq ?_ | refine JC.region ?_ | refine JL.nil ?_ | refine JE.next ?_)
  refine JC.cond rfl (fun h=>?_) (fun h=>?_)
  · have hi' : i<L.rs.length:=of_decide_eq_true h
    clear h hi
    have hi2 : i<(L.rs.map aB.l).length:=by rw [List.length_map];exact hi'
    have eT : ic (L.rs.map aB.l) (i+1)=ic (L.rs.map aB.l) i++(en (L.rs[i]).l++[13,10]):=by
      rw [p9 hi2,List.getElem_map]
    have hBl':=hBl (i+1)
    have hBi:=hBl i
    have hnone' : (L.rs[i]).l≠[46]→∀ l ∈ (L.rs.map aB.l).take (i+1),l≠[46]:=by
      intro hne l hl
      rw [List.take_succ_eq_append_getElem hi2,List.mem_append,List.getElem_map] at hl
      rcases hl with hl | hl
      · exact hnone l hl
      · rw [List.mem_singleton.1 hl];exact hne
    have eU : (L.rs[i]).l=[46]→mU s.l=(ic (L.rs.map aB.l) i,aE ((L.rs.map aB.l).drop (i+1))++x.l,0):=by
      intro e
      unfold mU
      rw [eUB,rD hi2 (by rw [List.getElem_map];exact e) hnone]
      rfl
    obtain ⟨ba,ja,hae,hca⟩:=okL.reads.at (by simp;omega)
    have hci : w1.cell? ⟨ba,ja+i,none⟩=some (L.rs[i]).v:=hca i _ (by simp [hi'])
    have hav : L.v=.slice (some ⟨ba,ja,none⟩) L.rs.length L.cap:=by rw [← hae];rfl
    have oky:=okL.all _ (List.getElem_mem hi')
    generalize L.rs[i]=y at eT hnone' eU hci oky
    obtain ⟨ad,yc,yl⟩:=y
    dsimp only at eT hnone' eU
    generalize ic (L.rs.map aB.l) i=A at eT eU hBi ⊢
    rw [hav]
    by_cases h0 : 0<yl.length
    · obtain ⟨by',jy,rfl,hcy⟩:=oky.reads.at (by simpa using h0)
      have hc0:=hcy 0 _ (cw U8 0 h0)
      have hd0 : yl.head?=some (yl.getD 0 0):=by
        rw [List.head?_eq_getElem?,List.getD_eq_getElem?_getD,List.getElem?_eq_getElem h0];rfl
      by_cases c46 : yl.getD 0 0=46
      · have hc0:=c46 ▸ hc0
        have hd : yl.head?=some 46:=by rw [hd0,c46]
        by_cases h1 : yl.length=1
        · have ey : yl=[46]:=by
            match yl,h1 with
            | [c],_=>exact congrArg (fun c=>[c]) c46
          have eU:=eU ey
          clear hnone' eT
          repeat (first | refine JL.q (by first|(apply OQ.aJ;exact Tryz.underlying127;exact ia;rfl;rfl;exact hi')|(apply OQ.ai;exact slc;rfl;exact (block_lt_of_cell hci);exact (by simp);exact hci)|(apply OQ.dH;rfl;rfl;exact (show ((yl.length : Nat) : Int)=1 by omega))|(apply OQ.aJ (i:=0);exact Tryz.underlying22;exact bH;rfl;rfl;exact h0)|(apply OQ.ai;exact eD;rfl;exact (block_lt_of_cell hc0);exact (by simp);exact hc0)|(apply OQ.dH;rfl;rfl;rfl)|(apply OQ.ay;rfl;rfl)|(apply OQ.move;rfl)|(apply OQ.len;rfl;rfl)) rfl ?_ | refine JC.seq ?_ | refine JC.region ?_ | refine JC.block ?_ | refine JC.skip ?_ | refine JL.nil ?_ | refine JE.next ?_ | refine JL.aU rfl rfl ?_)
          refine JC.cond_true rfl rfl ?_
          repeat (first | refine JC.seq ?_ | refine JC.region ?_)
          refine JL.lU Tryz.underlying22 bQ rfl fun b9 _=>?_
          repeat (first | refine JL.q (by first|(apply OQ.move;rfl)|(apply OQ.assign;rfl)|(apply OQ.aT;rfl;rfl;exact (by (try simp only []);omega))) rfl ?_ | refine JC.seq ?_ | refine JC.region ?_ | refine JC.block ?_ | refine JL.nil ?_ | refine JE.next ?_)
          rw [← hav]
          refine JC.loop (fun q : Nat × Nat × Nat=>[(5,L.v),(6,x.v),(7,.slice (some ⟨b,0,none⟩) A.length cap),(9,.slice (some ⟨q.2.1,0,none⟩) (tl (L.rs.map aB.l) i q.1).length q.2.2),(10,N q.1)])
            (fun q=>[⟨q.2.1,Sl.aG 5 1 (tl (L.rs.map aB.l) i q.1).length q.2.2 ((tl (L.rs.map aB.l) i q.1).map U8),true⟩,⟨b,Sl.aG 5 1 A.length cap (A.map U8),true⟩])
            (fun q=>L.rs.length - q.1) (fun q=>i+1≤q.1∧q.1≤L.rs.length) (i+1,b9,0) ⟨Nat.le_refl _,hi'⟩ (by rw [jg];exact (by repeat (first | exact af.nil | refine af.cons _ _ _ rfl ?_))) (by rw [jg];exact .keep _ _ _ _ _ _ (dw rfl) (.keep _ _ _ _ _ _ (fun _ h=>h) (.nil _))) ?_
          clear hci hc0 hcy oky
          rintro ⟨j,b9,cap9⟩ ⟨hij,hj⟩
          simp only at hij hj
          repeat (first | refine JL.q (by first|(apply OQ.move;rfl)|(apply OQ.len;rfl;rfl)|(apply OQ.dz;rfl;rfl)) rfl ?_ | refine JC.seq ?_ | refine JC.region ?_ | refine JL.nil ?_ | refine JE.next ?_)
          refine JC.cond rfl (fun h=>?_) (fun h=>?_)
          · have hj' : j<L.rs.length:=of_decide_eq_true h
            clear h hj
            have eT : tl (L.rs.map aB.l) i (j+1)=tl (L.rs.map aB.l) i j++((L.rs[j]).l++[13,10]):=by
              rw [sR (by rw [List.length_map];exact hj') hij,List.getElem_map]
            have hTl':=hTl i (j+1)
            have hci : w1.cell? ⟨ba,ja+j,none⟩=some (L.rs[j]).v:=hca j _ (by simp [hj'])
            have oky:=okL.all _ (List.getElem_mem hj')
            generalize L.rs[j]=y at eT hci oky
            generalize tl (L.rs.map aB.l) i j=R at eT ⊢
            rw [eT] at hTl'
            simp only [List.length_append,List.length_cons,List.length_nil] at hTl'
            have hi':=hj'
            rw [hav]
            repeat (first | refine JL.q (by first|(apply OQ.aJ;exact Tryz.underlying127;exact ia;rfl;rfl;exact hi')|(apply OQ.ai;exact slc;rfl;exact (block_lt_of_cell hci);exact (by simp);exact hci)|(apply OQ.move;rfl)) rfl ?_ | refine JC.seq ?_ | refine JC.region ?_ | refine JC.block ?_ | refine JC.skip ?_ | refine JE.next ?_)
            refine JL.append (cs:=(y.l).map U8) (m:=(y.l).length) (ad:=y.ad) (sc:=y.cap) (xs:=R.map U8) (fun b' cap'=>[⟨b',Sl.aG 5 1 (R.length+(y.l).length) cap' (R.map U8++(y.l).map U8),true⟩,⟨b,Sl.aG 5 1 A.length cap (A.map U8),true⟩]) Tryz.underlying22 bQ rfl rfl (by intro _ _;repeat (first | exact az.here | apply az.there)) (by simp) (fun w' hw'=>(oky.holds hw' rfl).reads) (c8 _) rfl (by decide) (by omega) (by omega) rfl fun b3 cap3=>?_
            repeat (first | refine JL.q (by first|(apply OQ.move;rfl)|(apply OQ.assign;rfl)) rfl ?_ | refine JC.region ?_ | refine JL.nil ?_ | refine JE.next ?_)
            refine JL.dI (v1:=U8 13) (v2:=U8 10) (xs:=(R.map U8++(y.l).map U8)) (fun b' cap'=>[⟨b',Sl.aG 5 1 (R.length+(y.l).length+2) cap' ((R.map U8++(y.l).map U8)++[U8 13,U8 10]),true⟩,⟨b,Sl.aG 5 1 A.length cap (A.map U8),true⟩]) Tryz.underlying22 bQ rfl rfl rfl rfl rfl rfl rfl (fun _=>rfl) (by intro _ _;repeat (first | exact az.here | apply az.there)) (by omega) (by omega) rfl rfl fun bl2 b4 cap4=>?_
            rw [← hav]
            repeat (first | refine JL.q (by first|(apply OQ.move;rfl)|(apply OQ.assign;rfl)|(apply OQ.aT;rfl;rfl;exact (by (try simp only []);omega))) rfl ?_ | refine JC.region ?_ | refine JL.nil ?_ | refine JE.next ?_ | refine JE.ag ?_)
            refine JE.again (i:=(j,b9,cap9)) (j+1,b4,cap4) ⟨by show i+1≤j+1;omega,by show j+1≤_;omega⟩ (by show L.rs.length - (j+1)<L.rs.length - j;omega) ?_ (.keep _ _ _ _ _ _ (fun o h=>?_) (.keep _ _ _ _ _ _ (fun _ h=>h) (.nil _)))
            · dsimp only
              rw [show (tl (L.rs.map aB.l) i (j+1)).length=R.length+y.l.length+2 by rw [eT];simp;omega]
              exact (by repeat (first | exact af.nil | refine af.cons _ _ _ rfl ?_))
            · dsimp only
              rw [show (tl (L.rs.map aB.l) i (j+1)).length=R.length+y.l.length+2 by rw [eT];simp;omega,show (tl (L.rs.map aB.l) i (j+1)).map U8=R.map U8++y.l.map U8++[U8 13,U8 10] by rw [eT];simp]
              exact h
          · have hj' : ¬ j<L.rs.length:=of_decide_eq_false h
            obtain rfl : j=L.rs.length:=by omega
            clear h hj hj'
            have hTl':=hTl i L.rs.length
            have eR : tl (L.rs.map aB.l) i L.rs.length=aE ((L.rs.map aB.l).drop (i+1)):=by
              rw [← w9,List.length_map]
            rw [← eR] at eU
            generalize tl (L.rs.map aB.l) i L.rs.length=R at hTl' eU ⊢
            repeat (first | refine JL.q (by (apply OQ.move;rfl)) rfl ?_ | refine JC.seq ?_ | refine JC.region ?_ | refine JC.exit ?_ | refine JE.next ?_ | refine JE.av ?_ | refine JE.aF ?_)
            refine JL.append (cs:=(x.l).map U8) (m:=(x.l).length) (ad:=x.ad) (sc:=x.cap) (xs:=R.map U8) (fun b' cap'=>[⟨b',Sl.aG 5 1 (R.length+(x.l).length) cap' (R.map U8++(x.l).map U8),true⟩,⟨b,Sl.aG 5 1 A.length cap (A.map U8),true⟩]) Tryz.underlying22 bQ rfl rfl (by intro _ _;repeat (first | exact az.here | apply az.there)) (by simp) (fun w' hw'=>(okx.holds hw' rfl).reads) (c8 _) rfl (by decide) (by omega) (by omega) rfl fun b3 cap3=>?_
            repeat (first | refine JL.q (by (apply OQ.assign;rfl)) rfl ?_ | refine JL.nil ?_ | refine JE.next ?_)
            refine JC.ret ?_
            repeat (first | refine JE.ah ?_ | refine JE.aW ?_)
            have e9:=hu'.symm.trans eU
            have e10 : mm=A:=(Prod.mk.inj e9).1
            have e11 : rr=R++x.l:=(Prod.mk.inj (Prod.mk.inj e9).2).1
            refine JE.oV rfl (RV.tmp rfl) (RV.tmp rfl) (RV.tmp rfl) ?_
            rw [← List.map_append,e10,e11]
            refine fun w' hw=>⟨((b,cap),(b3,cap3)),by rw [List.length_append];rfl,under hE ?_⟩
            unfold aL
            rw [List.length_map,List.length_map,List.length_append]
            exact hw
        · have hnone':=hnone' (fun e=>by rw [e] at h1;exact h1 rfl)
          repeat (first | refine JL.q (by first|(apply OQ.aJ;exact Tryz.underlying127;exact ia;rfl;rfl;exact hi')|(apply OQ.ai;exact slc;rfl;exact (block_lt_of_cell hci);exact (by simp);exact hci)|(apply OQ.cV;rfl;rfl;exact (show ¬ ((yl.length : Nat) : Int)=1 by omega))|(apply OQ.au;rfl;rfl)|(apply OQ.move;rfl)|(apply OQ.len;rfl;rfl)) rfl ?_ | refine JC.seq ?_ | refine JC.region ?_ | refine JC.block ?_ | refine JC.skip ?_ | refine JL.nil ?_ | refine JE.next ?_ | refine JL.aM rfl rfl rfl rfl ?_)
          refine JC.cond_false rfl rfl ?_
          repeat (first | refine JL.q (by first|(apply OQ.aJ;exact Tryz.underlying127;exact ia;rfl;rfl;exact hi')|(apply OQ.ai;exact slc;rfl;exact (block_lt_of_cell hci);exact (by simp);exact hci)|(apply OQ.dA;rfl;rfl;exact h0)|(apply OQ.aJ (i:=0);exact Tryz.underlying22;exact bH;rfl;rfl;exact h0)|(apply OQ.ai;exact eD;rfl;exact (block_lt_of_cell hc0);exact (by simp);exact hc0)|(apply OQ.dH;rfl;rfl;rfl)|(apply OQ.ay;rfl;rfl)|(apply OQ.move;rfl)|(apply OQ.len;rfl;rfl)) rfl ?_ | refine JC.seq ?_ | refine JC.region ?_ | refine JC.skip ?_ | refine JL.nil ?_ | refine JE.next ?_ | refine JL.aU rfl rfl ?_)
          refine JC.cond_true rfl rfl ?_
          repeat (first | refine JL.q (by first|(apply OQ.aJ;exact Tryz.underlying127;exact ia;rfl;rfl;exact hi')|(apply OQ.ai;exact slc;rfl;exact (block_lt_of_cell hci);exact (by simp);exact hci)|(apply OQ.snd (s:=⟨some ⟨by',jy,none⟩,yc,yl⟩) (m:=1);exact Tryz.underlying22;exact bH;rfl;rfl;exact h0)|(apply OQ.move;rfl)) rfl ?_ | refine JC.region ?_)
          have eN : (ic (L.rs.map aB.l) (i+1)).length=A.length+(yl.drop 1).length+2:=by rw [eT,en,if_pos hd,← List.drop_one];simp;omega
          have eV : (ic (L.rs.map aB.l) (i+1)).map U8=A.map U8++(yl.drop 1).map U8++[U8 13,U8 10]:=by rw [eT,en,if_pos hd,← List.drop_one];simp
          rw [eN] at hBl'
          refine JL.append (cs:=(yl.drop 1).map U8) (m:=(yl.drop 1).length) (ad:=(aB.snd ⟨some ⟨by',jy,none⟩,yc,yl⟩ 1).ad) (sc:=yc - 1) (xs:=A.map U8) (fun b' cap'=>[⟨b',Sl.aG 5 1 (A.length+(yl.drop 1).length) cap' (A.map U8++(yl.drop 1).map U8),true⟩]) Tryz.underlying22 bQ rfl rfl (by intro _ _;repeat (first | exact az.here | apply az.there)) (by simp) (fun w' hw'=>((oky.holds hw' rfl).snd 1 h0).reads) (c8 _) rfl (by decide) (by omega) (by omega) rfl fun b3 cap3=>?_
          repeat (first | refine JL.q (by first|(apply OQ.move;rfl)|(apply OQ.assign;rfl)) rfl ?_ | refine JC.region ?_ | refine JL.nil ?_ | refine JE.next ?_)
          refine JL.dI (v1:=U8 13) (v2:=U8 10) (xs:=(A.map U8++(yl.drop 1).map U8)) (fun b' cap'=>[⟨b',Sl.aG 5 1 (A.length+(yl.drop 1).length+2) cap' ((A.map U8++(yl.drop 1).map U8)++[U8 13,U8 10]),true⟩]) Tryz.underlying22 bQ rfl rfl rfl rfl rfl rfl rfl (fun _=>rfl) (by intro _ _;repeat (first | exact az.here | apply az.there)) (by omega) (by omega) rfl rfl fun bl2 b4 cap4=>?_
          rw [← hav]
          repeat (first | refine JL.q (by first|(apply OQ.move;rfl)|(apply OQ.assign;rfl)|(apply OQ.aT;rfl;rfl;exact (by (try simp only []);omega))) rfl ?_ | refine JC.region ?_ | refine JL.nil ?_ | refine JE.next ?_ | refine JE.ag ?_)
          refine JE.again (i:=(i,b,cap)) (i+1,b4,cap4) ⟨by show i+1≤_;omega,hnone'⟩ (by show L.rs.length - (i+1)<L.rs.length - i;omega) ?_ (.keep _ _ _ _ _ _ (fun o h=>?_) (.nil _))
          · dsimp only
            rw [eN]
            exact (by repeat (first | exact af.nil | refine af.cons _ _ _ rfl ?_))
          · dsimp only
            rw [eN,eV]
            exact h
      · have hd : ¬ yl.head?=some 46:=by rw [hd0];exact fun e=>c46 (Option.some.inj e)
        have hnone':=hnone' (fun e=>by rw [e] at c46;exact c46 rfl)
        by_cases h1 : yl.length=1
        · repeat (first | refine JL.q (by first|(apply OQ.aJ;exact Tryz.underlying127;exact ia;rfl;rfl;exact hi')|(apply OQ.ai;exact slc;rfl;exact (block_lt_of_cell hci);exact (by simp);exact hci)|(apply OQ.dH;rfl;rfl;exact (show ((yl.length : Nat) : Int)=1 by omega))|(apply OQ.aJ (i:=0);exact Tryz.underlying22;exact bH;rfl;rfl;exact h0)|(apply OQ.ai;exact eD;rfl;exact (block_lt_of_cell hc0);exact (by simp);exact hc0)|(apply OQ.cV;rfl;rfl;exact (eC c46))|(apply OQ.ay;rfl;rfl)|(apply OQ.move;rfl)|(apply OQ.len;rfl;rfl)) rfl ?_ | refine JC.seq ?_ | refine JC.region ?_ | refine JC.block ?_ | refine JC.skip ?_ | refine JL.nil ?_ | refine JE.next ?_ | refine JL.aU rfl rfl ?_)
          refine JC.cond_false rfl rfl ?_
          repeat (first | refine JL.q (by first|(apply OQ.aJ;exact Tryz.underlying127;exact ia;rfl;rfl;exact hi')|(apply OQ.ai;exact slc;rfl;exact (block_lt_of_cell hci);exact (by simp);exact hci)|(apply OQ.dA;rfl;rfl;exact h0)|(apply OQ.aJ (i:=0);exact Tryz.underlying22;exact bH;rfl;rfl;exact h0)|(apply OQ.ai;exact eD;rfl;exact (block_lt_of_cell hc0);exact (by simp);exact hc0)|(apply OQ.cV;rfl;rfl;exact (eC c46))|(apply OQ.ay;rfl;rfl)|(apply OQ.move;rfl)|(apply OQ.len;rfl;rfl)) rfl ?_ | refine JC.seq ?_ | refine JC.region ?_ | refine JC.skip ?_ | refine JL.nil ?_ | refine JE.next ?_ | refine JL.aU rfl rfl ?_)
          refine JC.cond_false rfl rfl ?_
          repeat (first | refine JL.q (by first|(apply OQ.aJ;exact Tryz.underlying127;exact ia;rfl;rfl;exact hi')|(apply OQ.ai;exact slc;rfl;exact (block_lt_of_cell hci);exact (by simp);exact hci)|(apply OQ.move;rfl)) rfl ?_ | refine JC.region ?_)
          have eN : (ic (L.rs.map aB.l) (i+1)).length=A.length+(yl).length+2:=by rw [eT,en,if_neg hd];simp;omega
          have eV : (ic (L.rs.map aB.l) (i+1)).map U8=A.map U8++(yl).map U8++[U8 13,U8 10]:=by rw [eT,en,if_neg hd];simp
          rw [eN] at hBl'
          refine JL.append (cs:=(yl).map U8) (m:=(yl).length) (ad:=some ⟨by',jy,none⟩) (sc:=yc) (xs:=A.map U8) (fun b' cap'=>[⟨b',Sl.aG 5 1 (A.length+(yl).length) cap' (A.map U8++(yl).map U8),true⟩]) Tryz.underlying22 bQ rfl rfl (by intro _ _;repeat (first | exact az.here | apply az.there)) (by simp) (fun w' hw'=>(oky.holds hw' rfl).reads) (c8 _) rfl (by decide) (by omega) (by omega) rfl fun b3 cap3=>?_
          repeat (first | refine JL.q (by first|(apply OQ.move;rfl)|(apply OQ.assign;rfl)) rfl ?_ | refine JC.region ?_ | refine JL.nil ?_ | refine JE.next ?_)
          refine JL.dI (v1:=U8 13) (v2:=U8 10) (xs:=(A.map U8++(yl).map U8)) (fun b' cap'=>[⟨b',Sl.aG 5 1 (A.length+(yl).length+2) cap' ((A.map U8++(yl).map U8)++[U8 13,U8 10]),true⟩]) Tryz.underlying22 bQ rfl rfl rfl rfl rfl rfl rfl (fun _=>rfl) (by intro _ _;repeat (first | exact az.here | apply az.there)) (by omega) (by omega) rfl rfl fun bl2 b4 cap4=>?_
          rw [← hav]
          repeat (first | refine JL.q (by first|(apply OQ.move;rfl)|(apply OQ.assign;rfl)|(apply OQ.aT;rfl;rfl;exact (by (try simp only []);omega))) rfl ?_ | refine JC.region ?_ | refine JL.nil ?_ | refine JE.next ?_ | refine JE.ag ?_)
          refine JE.again (i:=(i,b,cap)) (i+1,b4,cap4) ⟨by show i+1≤_;omega,hnone'⟩ (by show L.rs.length - (i+1)<L.rs.length - i;omega) ?_ (.keep _ _ _ _ _ _ (fun o h=>?_) (.nil _))
          · dsimp only
            rw [eN]
            exact (by repeat (first | exact af.nil | refine af.cons _ _ _ rfl ?_))
          · dsimp only
            rw [eN,eV]
            exact h
        · repeat (first | refine JL.q (by first|(apply OQ.aJ;exact Tryz.underlying127;exact ia;rfl;rfl;exact hi')|(apply OQ.ai;exact slc;rfl;exact (block_lt_of_cell hci);exact (by simp);exact hci)|(apply OQ.cV;rfl;rfl;exact (show ¬ ((yl.length : Nat) : Int)=1 by omega))|(apply OQ.au;rfl;rfl)|(apply OQ.move;rfl)|(apply OQ.len;rfl;rfl)) rfl ?_ | refine JC.seq ?_ | refine JC.region ?_ | refine JC.block ?_ | refine JC.skip ?_ | refine JL.nil ?_ | refine JE.next ?_ | refine JL.aM rfl rfl rfl rfl ?_)
          refine JC.cond_false rfl rfl ?_
          repeat (first | refine JL.q (by first|(apply OQ.aJ;exact Tryz.underlying127;exact ia;rfl;rfl;exact hi')|(apply OQ.ai;exact slc;rfl;exact (block_lt_of_cell hci);exact (by simp);exact hci)|(apply OQ.dA;rfl;rfl;exact h0)|(apply OQ.aJ (i:=0);exact Tryz.underlying22;exact bH;rfl;rfl;exact h0)|(apply OQ.ai;exact eD;rfl;exact (block_lt_of_cell hc0);exact (by simp);exact hc0)|(apply OQ.cV;rfl;rfl;exact (eC c46))|(apply OQ.ay;rfl;rfl)|(apply OQ.move;rfl)|(apply OQ.len;rfl;rfl)) rfl ?_ | refine JC.seq ?_ | refine JC.region ?_ | refine JC.skip ?_ | refine JL.nil ?_ | refine JE.next ?_ | refine JL.aU rfl rfl ?_)
          refine JC.cond_false rfl rfl ?_
          repeat (first | refine JL.q (by first|(apply OQ.aJ;exact Tryz.underlying127;exact ia;rfl;rfl;exact hi')|(apply OQ.ai;exact slc;rfl;exact (block_lt_of_cell hci);exact (by simp);exact hci)|(apply OQ.move;rfl)) rfl ?_ | refine JC.region ?_)
          have eN : (ic (L.rs.map aB.l) (i+1)).length=A.length+(yl).length+2:=by rw [eT,en,if_neg hd];simp;omega
          have eV : (ic (L.rs.map aB.l) (i+1)).map U8=A.map U8++(yl).map U8++[U8 13,U8 10]:=by rw [eT,en,if_neg hd];simp
          rw [eN] at hBl'
          refine JL.append (cs:=(yl).map U8) (m:=(yl).length) (ad:=some ⟨by',jy,none⟩) (sc:=yc) (xs:=A.map U8) (fun b' cap'=>[⟨b',Sl.aG 5 1 (A.length+(yl).length) cap' (A.map U8++(yl).map U8),true⟩]) Tryz.underlying22 bQ rfl rfl (by intro _ _;repeat (first | exact az.here | apply az.there)) (by simp) (fun w' hw'=>(oky.holds hw' rfl).reads) (c8 _) rfl (by decide) (by omega) (by omega) rfl fun b3 cap3=>?_
          repeat (first | refine JL.q (by first|(apply OQ.move;rfl)|(apply OQ.assign;rfl)) rfl ?_ | refine JC.region ?_ | refine JL.nil ?_ | refine JE.next ?_)
          refine JL.dI (v1:=U8 13) (v2:=U8 10) (xs:=(A.map U8++(yl).map U8)) (fun b' cap'=>[⟨b',Sl.aG 5 1 (A.length+(yl).length+2) cap' ((A.map U8++(yl).map U8)++[U8 13,U8 10]),true⟩]) Tryz.underlying22 bQ rfl rfl rfl rfl rfl rfl rfl (fun _=>rfl) (by intro _ _;repeat (first | exact az.here | apply az.there)) (by omega) (by omega) rfl rfl fun bl2 b4 cap4=>?_
          rw [← hav]
          repeat (first | refine JL.q (by first|(apply OQ.move;rfl)|(apply OQ.assign;rfl)|(apply OQ.aT;rfl;rfl;exact (by (try simp only []);omega))) rfl ?_ | refine JC.region ?_ | refine JL.nil ?_ | refine JE.next ?_ | refine JE.ag ?_)
          refine JE.again (i:=(i,b,cap)) (i+1,b4,cap4) ⟨by show i+1≤_;omega,hnone'⟩ (by show L.rs.length - (i+1)<L.rs.length - i;omega) ?_ (.keep _ _ _ _ _ _ (fun o h=>?_) (.nil _))
          · dsimp only
            rw [eN]
            exact (by repeat (first | exact af.nil | refine af.cons _ _ _ rfl ?_))
          · dsimp only
            rw [eN,eV]
            exact h
    · obtain rfl : yl=[]:=List.eq_nil_of_length_eq_zero (by omega)
      have hd : ¬ ([] : List br.By).head?=some 46:=fun e=>by cases e
      have hnone':=hnone' (fun e=>by cases e)
      repeat (first | refine JL.q (by first|(apply OQ.aJ;exact Tryz.underlying127;exact ia;rfl;rfl;exact hi')|(apply OQ.ai;exact slc;rfl;exact (block_lt_of_cell hci);exact (by simp);exact hci)|(apply OQ.cV;rfl;rfl;exact (show ¬ ((0 : Nat) : Int)=1 by decide))|(apply OQ.au;rfl;rfl)|(apply OQ.move;rfl)|(apply OQ.len;rfl;rfl)) rfl ?_ | refine JC.seq ?_ | refine JC.region ?_ | refine JC.block ?_ | refine JC.skip ?_ | refine JL.nil ?_ | refine JE.next ?_ | refine JL.aM rfl rfl rfl rfl ?_)
      refine JC.cond_false rfl rfl ?_
      repeat (first | refine JL.q (by first|(apply OQ.aJ;exact Tryz.underlying127;exact ia;rfl;rfl;exact hi')|(apply OQ.ai;exact slc;rfl;exact (block_lt_of_cell hci);exact (by simp);exact hci)|(apply OQ.js;rfl;rfl;exact h0)|(apply OQ.au;rfl;rfl)|(apply OQ.move;rfl)|(apply OQ.len;rfl;rfl)) rfl ?_ | refine JC.seq ?_ | refine JC.region ?_ | refine JC.skip ?_ | refine JL.nil ?_ | refine JE.next ?_ | refine JL.aM rfl rfl rfl rfl ?_)
      refine JC.cond_false rfl rfl ?_
      repeat (first | refine JL.q (by first|(apply OQ.aJ;exact Tryz.underlying127;exact ia;rfl;rfl;exact hi')|(apply OQ.ai;exact slc;rfl;exact (block_lt_of_cell hci);exact (by simp);exact hci)|(apply OQ.move;rfl)) rfl ?_ | refine JC.region ?_)
      have eN : (ic (L.rs.map aB.l) (i+1)).length=A.length+(([] : List br.By)).length+2:=by rw [eT,en,if_neg hd];simp
      have eV : (ic (L.rs.map aB.l) (i+1)).map U8=A.map U8++(([] : List br.By)).map U8++[U8 13,U8 10]:=by rw [eT,en,if_neg hd];simp
      rw [eN] at hBl'
      refine JL.append (cs:=(([] : List br.By)).map U8) (m:=(([] : List br.By)).length) (ad:=ad) (sc:=yc) (xs:=A.map U8) (fun b' cap'=>[⟨b',Sl.aG 5 1 (A.length+(([] : List br.By)).length) cap' (A.map U8++(([] : List br.By)).map U8),true⟩]) Tryz.underlying22 bQ rfl rfl (by intro _ _;repeat (first | exact az.here | apply az.there)) (by simp) (fun w' hw'=>(oky.holds hw' rfl).reads) (c8 _) rfl (by decide) (by omega) (by omega) rfl fun b3 cap3=>?_
      repeat (first | refine JL.q (by first|(apply OQ.move;rfl)|(apply OQ.assign;rfl)) rfl ?_ | refine JC.region ?_ | refine JL.nil ?_ | refine JE.next ?_)
      refine JL.dI (v1:=U8 13) (v2:=U8 10) (xs:=(A.map U8++(([] : List br.By)).map U8)) (fun b' cap'=>[⟨b',Sl.aG 5 1 (A.length+(([] : List br.By)).length+2) cap' ((A.map U8++(([] : List br.By)).map U8)++[U8 13,U8 10]),true⟩]) Tryz.underlying22 bQ rfl rfl rfl rfl rfl rfl rfl (fun _=>rfl) (by intro _ _;repeat (first | exact az.here | apply az.there)) (by omega) (by omega) rfl rfl fun bl2 b4 cap4=>?_
      rw [← hav]
      repeat (first | refine JL.q (by first|(apply OQ.move;rfl)|(apply OQ.assign;rfl)|(apply OQ.aT;rfl;rfl;exact (by (try simp only []);omega))) rfl ?_ | refine JC.region ?_ | refine JL.nil ?_ | refine JE.next ?_ | refine JE.ag ?_)
      refine JE.again (i:=(i,b,cap)) (i+1,b4,cap4) ⟨by show i+1≤_;omega,hnone'⟩ (by show L.rs.length - (i+1)<L.rs.length - i;omega) ?_ (.keep _ _ _ _ _ _ (fun o h=>?_) (.nil _))
      · dsimp only
        rw [eN]
        exact (by repeat (first | exact af.nil | refine af.cons _ _ _ rfl ?_))
      · dsimp only
        rw [eN,eV]
        exact h
  · have hi' : ¬ i<L.rs.length:=of_decide_eq_false h
    obtain rfl : i=L.rs.length:=by omega
    clear h hi hi'
    rw [List.take_of_length_le (by rw [List.length_map];exact Nat.le_refl _)] at hnone
    have eU : mU s.l=([],[],7):=by
      unfold mU
      rw [eUB,kz _ hnone]
      rfl
    rw [hu'] at eU
    cases eU
end
section
set_option maxRecDepth 10000
open Sl
namespace dF
theorem jj : aO Tryz.prog 30:=⟨_,Tryz.func30,rfl,by kernel_rfl⟩
def Br : Tw:=⟨0,[],none,[],[],none,[],false⟩
theorem rS : Program.built Tryz.prog 33 []=some Br.cs.toArray:=by kernel_rfl
theorem OQ.ij {P : Program} {n : Nat} {w0 : World} {S : List Nat} {E : Env} {M : List aN} {dst : Option Tmp} {t ty : TypeId} {pos : String} {aft : Array Edge} {g : Option (Nat × Bool)} {x : Operand} {b j : Nat} {v : Value} (hs : fG P t=true) (hx : ev E x=some (.pointer (some ⟨b,j,none⟩))) (hc : ∀ w,aa w0 S M w→w.cell? ⟨b,j,none⟩=some v) : OQ P n E (aa w0 S M) ⟨dst,.load t x,ty,pos,aft,g⟩ v:=
  OQ.j7 (fun w hw=>eE hs (by simpa [World.cell?] using hc w hw)) hx
theorem vg : fG Tryz.prog 5=true:=by kernel_rfl
theorem vh (S : Po) (l : List By) (h : S.st=0→S.fr=[]∧S.to=[]) : (aZ S l).1.st=0→(aZ S l).1.fr=[]∧(aZ S l).1.to=[]:=by
  unfold aZ
  split
  · exact h
  split
  · unfold dZ
    split
    · exact fun e=>by cases e
    · exact h
  split
  · unfold bW
    split
    · exact h
    · split
      · exact fun e=>by cases e
      · exact h
  split
  · unfold dP
    split
    · exact h
    · split
      · split
        · exact h
        · exact fun e=>by cases e
      · exact h
  split
  · unfold dy
    split
    · split
      · exact fun e=>by cases e
      · exact h
    · exact h
  split
  · unfold dj
    split
    · split
      · exact h
      · exact fun e=>by cases e
    · exact h
  split
  · unfold gi
    split
    · exact fun e=>by cases e
    · exact h
  · exact h
theorem yX (S : Po) (l : List By) : (aZ S l).1.ms=S.ms:=by
  unfold aZ
  split
  · rfl
  split
  · unfold dZ
    split <;> rfl
  split
  · unfold bW
    repeat' split
    all_goals rfl
  split
  · unfold dP
    repeat' split
    all_goals rfl
  split
  · unfold dy
    repeat' split
    all_goals rfl
  split
  · unfold dj
    repeat' split
    all_goals rfl
  split
  · unfold gi
    split <;> rfl
  · rfl
theorem yY (S : Po) (l : List By) (h : S.st≤3) : (aZ S l).1.st≤5:=by
  unfold aZ
  split
  · show S.st≤5;omega
  split
  · unfold dZ
    split
    · show 1≤5;omega
    · show S.st≤5;omega
  split
  · unfold bW
    split
    · show S.st≤5;omega
    · split
      · show 2≤5;omega
      · show S.st≤5;omega
  split
  · unfold dP
    split
    · show S.st≤5;omega
    · split
      · split
        · show S.st≤5;omega
        · show 3≤5;omega
      · show S.st≤5;omega
  split
  · unfold dy
    split
    · split
      · show 4≤5;omega
      · show S.st≤5;omega
    · show S.st≤5;omega
  split
  · unfold dj
    split
    · split
      · show S.st≤5;omega
      · show 1≤5;omega
    · show S.st≤5;omega
  split
  · unfold gi
    split
    · show 5≤5;omega
    · show S.st≤5;omega
  · show S.st≤5;omega
structure Rn where
  z : Tw
  S : Po
  O : List Bt
  r : aB
  N : List aN
structure Rn.good (b : Nat) (w : World) (s : aB) (x : Rn) : Prop where
  ok : x.z.ok
  is : x.z.is x.S x.O
  ln : x.S.ln=[]
  st : x.S.st≠4
  Ck : x.S.st≤5
  dt : x.S.dt=[]
  to : x.S.to.length≤10
  qS : x.S.st=0→x.S.fr=[]∧x.S.to=[]
  hr : ∀ (w' : World) (X : List aN),aa w [] (X++x.N) w'→x.r.ok w'
  rl : x.r.l.length≤5000
  ol : x.O.length+22 * x.r.l.length≤200000
  ml : x.S.ms.length+x.r.l.length≤5000
  fe : aA new s.l=((aA x.S x.r.l).1,x.O++(aA x.S x.r.l).2)
def zF (s : aB) (w : World) : Ending→World→Prop:=fun e w'=>∃ y : Nat × Tw,(y.2.ok∧y.2.out=(aA new s.l).2∧y.2.zs.map Mz.m=(aA new s.l).1.ms∧y.2.cl=decide ((aA new s.l).1.st=5))∧e=.returned (Pt y.1 0)∧aa w [] (y.2.E y.1) w'
set_option maxHeartbeats 64000000 in
theorem sG (s : aB) (w : World) (hs : s.ok w) (hl : s.l.length≤5000) : Calls Tryz.prog 8 [s.v].toArray w (zF s w):=by
  unfold zF
  refine enter (n:=103) Tryz.func8 rfl rfl rfl (aa.start w []) ?_
  repeat (first | refine JL.q (by first|(apply OQ.eZ (cs:=Br.cs) (vs:=[]) (is:=[]) (xs:=[]);rfl;rfl;exact rS)|(apply OQ.assign;rfl)) rfl ?_ | refine JC.seq ?_ | refine JC.region ?_ | refine JL.nil ?_ | refine JE.next ?_)
  refine JL.box (r:=Br.cs) rfl rfl rfl fun b _=>?_
  repeat (first | refine JL.q (by first|(apply OQ.move;rfl)|(apply OQ.assign;rfl)) rfl ?_ | refine JC.seq ?_ | refine JC.region ?_ | refine JL.nil ?_ | refine JE.next ?_)
  refine JL.s6 (z:=Br) 0 rfl rfl rfl fun b2=>?_
  repeat (first | refine JC.seq ?_ | refine JC.block ?_ | refine JL.nil ?_ | refine JE.next ?_)
  refine JC.loop (ι:=Rn) (fun x=>[(0,x.r.v),(3,Pt b 0)]) (fun x=>x.z.E b++x.N) (fun x=>x.r.l.length) (fun x=>x.good b w s) ⟨Br.cg 0 b2,new,[],s,[]⟩ ⟨⟨nofun,fun _=>rfl⟩,⟨rfl,rfl,rfl,fun _=>⟨rfl,rfl,rfl⟩⟩,rfl,by show 0≠4;decide,by show 0≤5;decide,rfl,Nat.zero_le _,fun _=>⟨rfl,rfl⟩,fun w' X hw'=>hs.ext hw'.aS,hl,by show 0+22 * s.l.length≤_;omega,by show 0+s.l.length≤_;omega,by show aA new s.l=(_,[]++_);rw [List.nil_append]⟩ (by repeat (first | exact af.nil | refine af.cons _ _ _ rfl ?_)) (aq.refl _) ?_
  rintro ⟨z,S,O,r,Ns⟩ g
  obtain ⟨ok,is,hln,hst4,hst5,hdt,hto,hcold,hr,hrl,hol,hml,hfe⟩:=g
  dsimp only at ok is hln hst4 hst5 hdt hto hcold hr hrl hol hml hfe ⊢
  cases h5 : decide (S.st=5) with
  | true=>
    have hcl : z.cl=true:=is.cl.trans h5
    have hfe2:=nV hfe (iB (of_decide_eq_true h5) r.l)
    rw [hfe2]
    repeat (first | refine JL.q (by first|(apply OQ.load;exact xP;rfl;exact .here;exact (Row.cell (v:=.bool z.cl) rfl))|(apply OQ.move;rfl)|(apply OQ.aV;rfl)|(apply OQ.bG;rfl;rfl;rfl;exact (by decide);rfl)) rfl ?_ | refine JC.seq ?_ | refine JC.region ?_)
    rw [hcl]
    repeat (first | refine JL.q (by (apply OQ.not;rfl)) rfl ?_ | refine JL.nil ?_ | refine JE.next ?_)
    refine JC.cond_false rfl rfl ?_
    repeat (first | refine JL.q (by first|(apply OQ.move;rfl)|(apply OQ.assign;rfl)) rfl ?_ | refine JC.seq ?_ | refine JC.region ?_ | refine JC.exit ?_ | refine JL.nil ?_ | refine JE.next ?_ | refine JE.av ?_ | refine JE.aF ?_)
    refine JC.ret ?_
    skip
    exact JE.aC rfl (RV.tmp rfl) fun w' hw=>⟨(b,z),⟨ok,is.out,is.ms,is.cl⟩,rfl,hw.weak (ew _ _)⟩
  | false=>
    have h5' : S.st≠5:=of_decide_eq_false h5
    have hcl : z.cl=false:=is.cl.trans h5
    repeat (first | refine JL.q (by first|(apply OQ.load;exact xP;rfl;exact .here;exact (Row.cell (v:=.bool z.cl) rfl))|(apply OQ.move;rfl)|(apply OQ.aV;rfl)|(apply OQ.bG;rfl;rfl;rfl;exact (by decide);rfl)) rfl ?_ | refine JC.seq ?_ | refine JC.region ?_)
    rw [hcl]
    repeat (first | refine JL.q (by (apply OQ.not;rfl)) rfl ?_ | refine JL.nil ?_ | refine JE.next ?_)
    refine JC.cond_true rfl rfl ?_
    refine JC.skip (JE.next ?_)
    refine JC.block ?_
    refine JC.seq (JC.region ?_)
    repeat (refine JL.q (by (apply OQ.assign;rfl)) rfl ?_)
    refine JL.nil (JE.next ?_)
    have hget : ∀ {rb rj : Nat},r.ad=some ⟨rb,rj,none⟩→∀ i,i<r.l.length→∀ w',aa w [] (z.E b++Ns) w'→w'.cell? ⟨rb,rj+i,none⟩=some (U8 (r.l.getD i 0)):=fun {rb rj} had i hi w' hw'=>by
      obtain ⟨b',j',h1,h2⟩:=(hr w' _ hw').reads.at (by rw [List.length_map];omega)
      rw [had] at h1
      cases h1
      exact h2 i _ (cw U8 0 hi)
    refine JC.mid (ι:=Nat) (fun i=>[(0,r.v),(3,Pt b 0),(4,N i)]) (fun _=>z.E b++Ns) (fun i=>(i=r.l.length∧br.dr r.l)∨(i+2≤r.l.length∧br.bT r.l i∧∀ j,j<i→¬ br.bT r.l j)) ?_ ?_
    · repeat (refine JC.block ?_)
      refine JC.loop (fun i : Nat=>[(0,r.v),(3,Pt b 0),(4,N i)]) (fun _=>z.E b++Ns) (fun i=>r.l.length - i) (fun i=>i≤r.l.length∧∀ j,j<i→¬ br.bT r.l j) 0 ⟨Nat.zero_le _,fun j hj=>absurd hj (Nat.not_lt_zero _)⟩ (by repeat (first | exact af.nil | refine af.cons _ _ _ rfl ?_)) (aq.refl _) ?_
      rintro i ⟨hi,hno⟩
      cases c0 : decide ((i : Int)<(r.l.length : Nat)) with
      | false=>
        have hi' : i=r.l.length:=by have:=of_decide_eq_false c0;omega
        repeat (first | refine JL.q (by first|(apply OQ.len (k:=r.l.length) (ad:=r.ad) (cap:=r.cap);exact Tryz.underlying22;rfl)|(apply OQ.dV (a:=(i : Int)) (b:=(r.l.length : Nat));rfl;rfl;exact c0)|(apply OQ.au;rfl;rfl)|(apply OQ.move;rfl)) rfl ?_ | refine JC.seq ?_ | refine JC.region ?_ | refine JL.nil ?_ | refine JE.next ?_ | refine JL.aM rfl rfl rfl rfl ?_ | refine JL.eB rfl rfl rfl rfl ?_)
        refine JC.cond_false rfl rfl ?_
        repeat (first | refine JC.exit ?_ | refine JE.av ?_ | refine JE.aF ?_)
        refine JE.mid i (.inl ⟨hi',fun j hj=>?_⟩) (by repeat (first | exact af.nil | refine af.cons _ _ _ rfl ?_)) (aq.refl _)
        have hl2:=(List.getElem?_eq_some_iff.1 hj.2).1
        exact hno j (by omega) hj
      | true=>
        have hi' : i<r.l.length:=by have:=of_decide_eq_true c0;omega
        refine JC.nT (F:=∃ rb rj,r.ad=some ⟨rb,rj,none⟩) (fun w' hw'=>?_) fun hk=>?_
        · obtain ⟨b',j',h1,_⟩:=(hr w' _ hw').reads.at (by rw [List.length_map];omega)
          exact ⟨b',j',h1⟩
        obtain ⟨rb,rj,had⟩:=hk
        have hrv : r.v=.slice (some ⟨rb,rj,none⟩) r.l.length r.cap:=by unfold aB.v;rw [had]
        have hg0:=hget had i hi'
        have hp0 : Pt rb (rj+i * 1)=Pt rb (rj+i):=by rw [Nat.mul_one]
        have hp1 : Pt rb (rj+(i+1) * 1)=Pt rb (rj+(i+1)):=by rw [Nat.mul_one]
        rw [hrv]
        cases c13 : decide (r.l.getD i 0=13) with
        | false=>
          repeat (first | refine JL.q (by first|(apply OQ.len (k:=r.l.length) (ad:=some ⟨rb,rj,none⟩) (cap:=r.cap);exact Tryz.underlying22;rfl)|(apply OQ.dV (a:=(i : Int)) (b:=(r.l.length : Nat));rfl;rfl;exact c0)|(apply OQ.to;exact (OQ.bR (k:=.i64) (i:=i) (sz:=1) Tryz.underlying22 gd rfl rfl hi');exact hp0)|(apply OQ.ij;exact vg;rfl;exact hg0)|(apply OQ.dg (b:=13);rfl;rfl;exact c13)|(apply OQ.au;rfl;rfl)|(apply OQ.ay;rfl;rfl)|(apply OQ.not;rfl)|(apply OQ.move;rfl)) rfl ?_ | refine JC.seq ?_ | refine JC.region ?_ | refine JL.nil ?_ | refine JE.next ?_ | refine JL.aU rfl rfl ?_ | refine JL.aM rfl rfl rfl rfl ?_)
          refine JC.cond_true rfl rfl ?_
          repeat (first | refine JL.q (by first|(apply OQ.move;rfl)|(apply OQ.assign;rfl)|(apply OQ.aT;rfl;rfl;exact (by (try simp only []);omega))) rfl ?_ | refine JC.region ?_ | refine JC.block ?_ | refine JC.skip ?_ | refine JL.nil ?_ | refine JE.next ?_ | refine JE.ag ?_)
          refine JE.again (i:=i) (i+1) ⟨hi',fun j hj hh=>?_⟩ (by show r.l.length - (i+1)<r.l.length - i;omega) (by repeat (first | exact af.nil | refine af.cons _ _ _ rfl ?_)) (aq.refl _)
          rcases Nat.lt_or_eq_of_le (Nat.le_of_lt_succ hj) with h | rfl
          · exact hno j h hh
          · refine of_decide_eq_false c13 ?_
            rw [List.getD_eq_getElem?_getD,hh.1]
            rfl
        | true=>
          cases c1 : decide ((((i+1 : Nat)) : Int)<(r.l.length : Nat)) with
          | false=>
            repeat (first | refine JL.q (by first|(apply OQ.len (k:=r.l.length) (ad:=some ⟨rb,rj,none⟩) (cap:=r.cap);exact Tryz.underlying22;rfl)|(apply OQ.dV (a:=(i : Int)) (b:=(r.l.length : Nat));rfl;rfl;exact c0)|(apply OQ.dV (a:=((i+1 : Nat) : Int)) (b:=(r.l.length : Nat));rfl;rfl;exact c1)|(apply OQ.to;exact (OQ.bR (k:=.i64) (i:=i) (sz:=1) Tryz.underlying22 gd rfl rfl hi');exact hp0)|(apply OQ.ij;exact vg;rfl;exact hg0)|(apply OQ.dg (b:=13);rfl;rfl;exact c13)|(apply OQ.au;rfl;rfl)|(apply OQ.ay;rfl;rfl)|(apply OQ.not;rfl)|(apply OQ.move;rfl)|(apply OQ.aT;rfl;rfl;exact (by (try simp only []);omega))) rfl ?_ | refine JC.seq ?_ | refine JC.region ?_ | refine JL.nil ?_ | refine JE.next ?_ | refine JL.aU rfl rfl ?_ | refine JL.aM rfl rfl rfl rfl ?_)
            refine JC.cond_true rfl rfl ?_
            repeat (first | refine JL.q (by first|(apply OQ.move;rfl)|(apply OQ.assign;rfl)|(apply OQ.aT;rfl;rfl;exact (by (try simp only []);omega))) rfl ?_ | refine JC.region ?_ | refine JC.block ?_ | refine JC.skip ?_ | refine JL.nil ?_ | refine JE.next ?_ | refine JE.ag ?_)
            refine JE.again (i:=i) (i+1) ⟨hi',fun j hj hh=>?_⟩ (by show r.l.length - (i+1)<r.l.length - i;omega) (by repeat (first | exact af.nil | refine af.cons _ _ _ rfl ?_)) (aq.refl _)
            rcases Nat.lt_or_eq_of_le (Nat.le_of_lt_succ hj) with h | rfl
            · exact hno j h hh
            · have hl2:=(List.getElem?_eq_some_iff.1 hh.2).1
              have:=of_decide_eq_false c1
              omega
          | true=>
            have hi1 : i+1<r.l.length:=by have:=of_decide_eq_true c1;omega
            have hg1:=hget had (i+1) hi1
            cases c10 : decide (r.l.getD (i+1) 0=10) with
            | false=>
              repeat (first | refine JL.q (by first|(apply OQ.len (k:=r.l.length) (ad:=some ⟨rb,rj,none⟩) (cap:=r.cap);exact Tryz.underlying22;rfl)|(apply OQ.dV (a:=(i : Int)) (b:=(r.l.length : Nat));rfl;rfl;exact c0)|(apply OQ.dV (a:=((i+1 : Nat) : Int)) (b:=(r.l.length : Nat));rfl;rfl;exact c1)|(apply OQ.to;exact (OQ.bR (k:=.i64) (i:=i) (sz:=1) Tryz.underlying22 gd rfl rfl hi');exact hp0)|(apply OQ.to;exact (OQ.bR (k:=.i64) (i:=i+1) (sz:=1) Tryz.underlying22 gd rfl rfl hi1);exact hp1)|(apply OQ.ij;exact vg;rfl;exact hg0)|(apply OQ.ij;exact vg;rfl;exact hg1)|(apply OQ.dg (b:=13);rfl;rfl;exact c13)|(apply OQ.dg (b:=10);rfl;rfl;exact c10)|(apply OQ.ay;rfl;rfl)|(apply OQ.not;rfl)|(apply OQ.move;rfl)|(apply OQ.aT;rfl;rfl;exact (by (try simp only []);omega))) rfl ?_ | refine JC.seq ?_ | refine JC.region ?_ | refine JL.nil ?_ | refine JE.next ?_ | refine JL.aU rfl rfl ?_)
              refine JC.cond_true rfl rfl ?_
              repeat (first | refine JL.q (by first|(apply OQ.move;rfl)|(apply OQ.assign;rfl)|(apply OQ.aT;rfl;rfl;exact (by (try simp only []);omega))) rfl ?_ | refine JC.region ?_ | refine JC.block ?_ | refine JC.skip ?_ | refine JL.nil ?_ | refine JE.next ?_ | refine JE.ag ?_)
              refine JE.again (i:=i) (i+1) ⟨hi',fun j hj hh=>?_⟩ (by show r.l.length - (i+1)<r.l.length - i;omega) (by repeat (first | exact af.nil | refine af.cons _ _ _ rfl ?_)) (aq.refl _)
              rcases Nat.lt_or_eq_of_le (Nat.le_of_lt_succ hj) with h | rfl
              · exact hno j h hh
              · refine of_decide_eq_false c10 ?_
                rw [List.getD_eq_getElem?_getD,hh.2]
                rfl
            | true=>
              repeat (first | refine JL.q (by first|(apply OQ.len (k:=r.l.length) (ad:=some ⟨rb,rj,none⟩) (cap:=r.cap);exact Tryz.underlying22;rfl)|(apply OQ.dV (a:=(i : Int)) (b:=(r.l.length : Nat));rfl;rfl;exact c0)|(apply OQ.dV (a:=((i+1 : Nat) : Int)) (b:=(r.l.length : Nat));rfl;rfl;exact c1)|(apply OQ.to;exact (OQ.bR (k:=.i64) (i:=i) (sz:=1) Tryz.underlying22 gd rfl rfl hi');exact hp0)|(apply OQ.to;exact (OQ.bR (k:=.i64) (i:=i+1) (sz:=1) Tryz.underlying22 gd rfl rfl hi1);exact hp1)|(apply OQ.ij;exact vg;rfl;exact hg0)|(apply OQ.ij;exact vg;rfl;exact hg1)|(apply OQ.dg (b:=13);rfl;rfl;exact c13)|(apply OQ.dg (b:=10);rfl;rfl;exact c10)|(apply OQ.ay;rfl;rfl)|(apply OQ.not;rfl)|(apply OQ.move;rfl)|(apply OQ.aT;rfl;rfl;exact (by (try simp only []);omega))) rfl ?_ | refine JC.seq ?_ | refine JC.region ?_ | refine JL.nil ?_ | refine JE.next ?_ | refine JL.aU rfl rfl ?_)
              refine JC.cond_false rfl rfl ?_
              repeat (first | refine JC.exit ?_ | refine JE.av ?_ | refine JE.aF ?_)
              refine JE.mid i (.inr ⟨by omega,⟨?_,?_⟩,hno⟩) (by repeat (first | exact af.nil | refine af.cons _ _ _ rfl ?_)) (aq.refl _)
              · have:=of_decide_eq_true c13
                rw [List.getD_eq_getElem?_getD,List.getElem?_eq_getElem hi'] at this
                rw [List.getElem?_eq_getElem hi']
                exact congrArg some this
              · have:=of_decide_eq_true c10
                rw [List.getD_eq_getElem?_getD,List.getElem?_eq_getElem hi1] at this
                rw [List.getElem?_eq_getElem hi1]
                exact congrArg some this
    · rintro i (⟨hie,hno⟩ | ⟨hi2,hend,hno⟩)
      · have hfe2 : aA new s.l=(⟨S.st,S.fr,S.to,S.ln++r.l,S.dt,S.ms⟩,O):=by
          rw [hfe,fP r.l S h5' (by rw [hln];exact hno),List.append_nil]
        rw [hfe2]
        repeat (first | refine JL.q (by first|(apply OQ.len (k:=r.l.length) (ad:=r.ad) (cap:=r.cap);exact Tryz.underlying22;rfl)|(apply OQ.dB (a:=i) (b:=r.l.length);rfl;rfl;exact (decide_eq_true hie))|(apply OQ.move;rfl)) rfl ?_ | refine JC.seq ?_ | refine JC.region ?_ | refine JL.nil ?_ | refine JE.next ?_)
        refine JC.cond_true rfl rfl ?_
        repeat (first | refine JL.q (by first|(apply OQ.move;rfl)|(apply OQ.assign;rfl)) rfl ?_ | refine JC.seq ?_ | refine JC.region ?_ | refine JL.nil ?_ | refine JE.next ?_)
        refine JC.ret ?_
        repeat (first | refine JE.ah ?_ | refine JE.aW ?_)
        exact JE.aC rfl (RV.tmp rfl) fun w' hw=>⟨(b,z),⟨ok,is.out,is.ms,is.cl⟩,rfl,hw.weak (ew _ _)⟩
      · have hine : decide (i=r.l.length)=false:=decide_eq_false (by omega)
        have hrlen : ∀ w',aa w [] (z.E b++Ns) w'→r.ok w':=fun w' hw'=>hr w' _ hw'
        refine JC.nT (F:=r.l.length≤r.cap) (fun w' hw'=>(hr w' _ hw').len) fun hrcap=>?_
        repeat (first | refine JL.q (by first|(apply OQ.len (k:=r.l.length) (ad:=r.ad) (cap:=r.cap);exact Tryz.underlying22;rfl)|(apply OQ.dB (a:=i) (b:=r.l.length);rfl;rfl;exact hine)|(apply OQ.move;rfl)) rfl ?_ | refine JC.seq ?_ | refine JC.region ?_ | refine JL.nil ?_ | refine JE.next ?_)
        refine JC.cond_false rfl rfl ?_
        repeat (first | refine JL.q (by first|(apply OQ.fst (s:=r) (m:=i);exact Tryz.underlying22;exact gd;rfl;rfl;exact (by omega);exact hrcap)|(apply OQ.qQ (s:=r.fst i);exact Tryz.underlying22;exact Tryz.underlying5;exact Tryz.underlying9;rfl;exact (fun w' hw'=>(hrlen w' hw').fst i))|(apply OQ.snd (s:=r) (m:=i+2);exact Tryz.underlying22;exact gd;rfl;rfl;exact (by omega))|(apply OQ.move;rfl)|(apply OQ.assign;rfl)|(apply OQ.aT;rfl;rfl;exact (by (try simp only []);omega))) rfl ?_ | refine JC.seq ?_ | refine JC.region ?_ | refine JC.skip ?_ | refine JL.nil ?_ | refine JE.next ?_)
        obtain ⟨line,hline⟩ : ∃ line,r.l.take i=line:=⟨_,rfl⟩
        have hlinel : line.length≤5000:=by rw [← hline,List.length_take];omega
        rw [show (r.fst i).l=line from hline]
        have hfa:=nk h5' hln hend hno
        rw [hline] at hfa
        have hans : bn S line=((aZ S line).1,(aZ S line).2++[13,10]):=if_neg hst4
        rw [hans] at hfa
        have hol9:=rF S line
        have hs3 : S.st≤3:=by omega
        have ofit:=kH S line hto
        have ocold:=vh S line hcold
        have ost:=yY S line hs3
        have oms:=yX S line
        have odt : (aZ S line).1.dt=[]:=by
          rcases sU S line with e | e
          · rw [e,hdt]
          · exact e
        obtain ⟨r2,hr2⟩ : ∃ r2,r.snd (i+2)=r2:=⟨_,rfl⟩
        have hr2l : r2.l=r.l.drop (i+2):=by rw [← hr2];rfl
        have hr2n : r2.l.length=r.l.length - (i+2):=by rw [hr2l,List.length_drop]
        have hr2ok : ∀ (w' : World) (X : List aN),aa w [] (X++Ns) w'→r2.ok w':=fun w' X hw'=>by rw [← hr2];exact (hr w' X hw').snd _ (by omega)
        rw [hr2]
        have hcm : ∀ w',aa w' (keys (z.E b)) (z.E b) w'→Calls Tryz.prog 29 [Pt b 0,Z line].toArray w' (zE (keys (z.E b)) b (aZ S line) O w'):=fun w' hw'=>qx b z S O ok is hs3 hto hcold line (by omega) (by omega) w' hw'
        generalize aZ S line=R at hfa hol9 ofit ocold ost oms odt hcm
        rw [← hr2l] at hfa
        have hfe2 : aA new s.l=((aA R.1 r2.l).1,O++(R.2++[13,10])++(aA R.1 r2.l).2):=by rw [hfe,hfa];simp only [List.append_assoc]
        have hol2 : (O++(R.2++[13,10])).length+22 * r2.l.length+11≤200000:=by
          simp only [List.length_append,List.length_cons,List.length_nil]
          omega
        obtain ⟨O2,hO2⟩ : ∃ O2,O++(R.2++[13,10])=O2:=⟨_,rfl⟩
        rw [hO2] at hfe2 hol2
        refine JL.iw (X:=z.E b) (M0:=Ns) (ι:={y : Tw // y.ok∧y.is R.1 O2}) (vs:=[Pt b 0,Z line]) (fun _=>.bool (decide (R.1.st=4))) (fun y=>y.1.E b) rQ rfl rfl (z.wr b) (fun y=>Tw.wr b _) (fun w' _ hx=>(hcm w' hx).mono fun e w2 ⟨y,h1,h2,h3⟩=>⟨⟨y,hO2 ▸ h1⟩,h2,h3⟩) fun y=>?_
        obtain ⟨y,yok,yis⟩:=y
        dsimp only
        clear hcm hfa hans
        cases h4 : decide (R.1.st=4) with
        | false=>
          repeat (first | refine JL.q (by (apply OQ.not;rfl)) rfl ?_ | refine JL.nil ?_ | refine JE.next ?_)
          refine JC.cond_true rfl rfl ?_
          repeat (first | refine JC.exit ?_ | refine JE.av ?_ | refine JE.aF ?_)
          exact JE.again (i:=(⟨z,S,O,r,Ns⟩ : Rn)) (⟨y,R.1,O2,r2,Ns⟩ : Rn) ⟨yok,yis,ofit.2.2.trans hln,of_decide_eq_false h4,ost,odt,ofit.1,ocold,hr2ok,by show r2.l.length≤5000;omega,by show O2.length+22 * r2.l.length≤_;omega,by show R.1.ms.length+r2.l.length≤_;rw [oms];omega,hfe2⟩ (by show r2.l.length<r.l.length;omega) (by repeat (first | exact af.nil | refine af.cons _ _ _ rfl ?_)) (aq.refl _)
        | true=>
          have h4' : R.1.st=4:=of_decide_eq_true h4
          obtain ⟨yst,yfr,yto⟩:=yis.op (by omega)
          rw [if_pos h4'] at yst
          repeat (first | refine JL.q (by (apply OQ.not;rfl)) rfl ?_ | refine JL.nil ?_ | refine JE.next ?_)
          refine JC.cond_false rfl rfl ?_
          repeat (first | refine JL.q (by (apply OQ.move;rfl)) rfl ?_ | refine JC.seq ?_ | refine JC.region ?_ | refine JC.skip ?_ | refine JE.next ?_)
          cases hu : br.fz r2.l with
          | none=>
            have hdn:=tw _ r2.l R.1 (Nat.le_refl _) h4' (ofit.2.2.trans hln) hu
            have hua : mU r2.l=([],[],7):=by unfold mU;rw [hu]
            have hcu : ∀ w',aa w [] (y.E b++Ns) w'→Calls Tryz.prog 30 [r2.v].toArray w' fun e w2=>∃ q : aB × aB,e=.returned (.tuple #[q.1.v,q.2.v,N 7])∧aa w' [] [] w2:=fun w' hw'=>by
              have:=uK r2 w' (hr2ok w' _ hw') (by omega)
              rw [hua] at this
              exact this.mono fun e w2 ⟨q,h1,_,_,h2,_⟩=>⟨q,h1,⟨h2,by simp,by simp⟩⟩
            refine JL.cE (ι:=aB × aB) (vs:=[r2.v]) (fun q=>.tuple #[q.1.v,q.2.v,N 7]) (fun _=>[]) jj rfl rfl (fun _ _ h=>by cases h) hcu fun q=>?_
            repeat (first | refine JL.q (by first|(apply OQ.extract;rfl;rfl)|(apply OQ.ek (a:=7) (b:=0);rfl;rfl;rfl)|(apply OQ.move;rfl)|(apply OQ.assign;rfl)) rfl ?_ | refine JC.seq ?_ | refine JC.region ?_ | refine JL.nil ?_ | refine JE.next ?_)
            refine JC.cond_true rfl rfl ?_
            repeat (first | refine JL.q (by first|(apply OQ.move;rfl)|(apply OQ.assign;rfl)) rfl ?_ | refine JC.seq ?_ | refine JC.region ?_ | refine JL.nil ?_ | refine JE.next ?_)
            refine JC.ret ?_
            repeat (first | refine JE.ah ?_ | refine JE.aW ?_)
            refine JE.aC rfl (RV.tmp rfl) fun w' hw=>⟨(b,y),⟨yok,?_,?_,?_⟩,rfl,hw.weak (ew _ _)⟩
            · rw [hfe2,hdn.2.2];exact yis.out.trans (List.append_nil _).symm
            · rw [hfe2];exact yis.ms.trans hdn.2.1.symm
            · rw [hfe2];show y.cl=decide ((aA R.1 r2.l).1.st=5);rw [hdn.1,yis.cl,h4']
          | some p=>
            obtain ⟨mm,rr⟩:=p
            have hds:=mj _ r2.l R.1 (Nat.le_refl _) h4' (ofit.2.2.trans hln) (by rw [odt];exact Dl.nil) mm rr hu
            rw [odt,kJ,List.nil_append] at hds
            have hmml : mm.length≤5000:=by have:=qc _ _ _ hu;omega
            have hrrl : rr.length≤r2.l.length:=xe _ _ _ hu
            have hcu : ∀ w',aa w [] (y.E b++Ns) w'→Calls Tryz.prog 30 [r2.v].toArray w' fun e w2=>∃ q : (Nat × Nat) × (Nat × Nat),e=.returned (.tuple #[ak (some q.1) mm.length,ak (some q.2) rr.length,N 0])∧aa w' [] (aL 5 (some q.2) (rr.map U8)++aL 5 (some q.1) (mm.map U8)) w2:=fun w' hw'=>xS r2 w' (hr2ok w' _ hw') (by omega) hu
            refine JL.cE (ι:=(Nat × Nat) × (Nat × Nat)) (vs:=[r2.v]) (fun q=>.tuple #[ak (some q.1) mm.length,ak (some q.2) rr.length,N 0]) (fun q=>aL 5 (some q.2) (rr.map U8)++aL 5 (some q.1) (mm.map U8)) jj rfl rfl ?_ ?_ ?_
            · intro q e he
              rcases List.mem_append.1 he with h | h
              · exact cN _ _ _ e h
              · exact cN _ _ _ e h
            · intro w1 hw1
              exact hcu w1 hw1
            rintro ⟨q1,q2⟩
            dsimp only
            repeat (first | refine JL.q (by first|(apply OQ.extract;rfl;rfl)|(apply OQ.ek (a:=0) (b:=0);rfl;rfl;rfl)|(apply OQ.move;rfl)|(apply OQ.assign;rfl)) rfl ?_ | refine JC.seq ?_ | refine JC.region ?_ | refine JL.nil ?_ | refine JE.next ?_)
            refine JC.cond_false rfl rfl ?_
            repeat (first | refine JL.q (by first|(apply OQ.ir (q:=some q1);exact Tryz.underlying22;exact nofun;rfl)|(apply OQ.js (a:=mm.length) (b:=2097152);rfl;rfl;exact (by omega))|(apply OQ.move;rfl)|(apply OQ.assign;rfl)) rfl ?_ | refine JC.seq ?_ | refine JC.region ?_ | refine JC.skip ?_ | refine JL.nil ?_ | refine JE.next ?_)
            refine JC.cond_false rfl rfl ?_
            obtain ⟨mz,hmz⟩ : ∃ mz : Mz,mz=⟨y.qt,some q1,⟨y.fr,y.to,mm⟩,yok.t,nofun⟩:=⟨_,rfl⟩
            have hb : Program.built Tryz.prog 38 [(0,Z y.fr),(1,ak y.qt y.to.length),(2,ak (some q1) mm.length)]=some mz.cs.toArray:=by rw [hmz];exact qg _ _ _ _ _
            have hm3 : mz.cs.length=3:=by rw [hmz];rfl
            have hE : mz.E=y.T++aL 5 (some q1) (mm.map U8):=by rw [hmz];rfl
            have hq7 : ak y.qm y.zs.length=ak y.qm (y.zs.map Mz.cs).length:=by rw [List.length_map]
            have hzn : y.zs.length≤5000:=by
              have:=congrArg List.length yis.ms
              rw [List.length_map,oms] at this
              omega
            refine JC.sV (M':=⟨b,Row 33 y.cs,true⟩::(c9 38 3 y.qm (y.zs.map Mz.cs)++(aL 5 (some q1) (mm.map U8)++(aL 5 (some q2) (rr.map U8)++(y.T++(y.zs.flatMap Mz.E++Ns)))))) ?_ (bg fun _ _ v=>by simp only [Tw.E,Tw.M,List.count_append,List.count_cons];omega)
            refine JC.seq ?_
            let vs : Nat→Nat × Nat→Value:=fun j y1=>match j with
              | 0=>Pt b 0
              | 1=>Pt b 0
              | 2=>Pt b 0
              | 3=>Pt b 4
              | 4=>ak y.qm (y.zs.map Mz.cs).length
              | 5=>Pt b 0
              | 6=>Pt b 0
              | 7=>Pt b 1
              | 8=>Z y.fr
              | 9=>Pt b 0
              | 10=>Pt b 0
              | 11=>Pt b 2
              | 12=>ak y.qt y.to.length
              | 13=>ak (some q1) mm.length
              | 14=>.agg mz.cs.toArray
              | 15=>.slice (some ⟨y1.1,0,none⟩) 1 1
              | 16=>ak (some y1) (y.zs.map Mz.cs++[mz.cs]).length
              | 17=>Pt b 0
              | 18=>Pt b 4
              | _=>N 0
            let Ms : Nat→Nat × Nat→List aN:=fun j y1=>match j with
              | 15=>[⟨y1.1,Row 38 mz.cs,true⟩]
              | 16=>c9 38 3 (some y1) (y.zs.map Mz.cs++[mz.cs])
              | 19=>[⟨b,Row 33 [N y.st,Z y.fr,ak y.qt y.to.length,Z y.out,ak (some y1) (y.zs.map Mz.cs++[mz.cs]).length,.bool y.cl],true⟩]
              | 20=>[⟨b,Row 33 y.cs,true⟩]
              | 21=>c9 38 3 y.qm (y.zs.map Mz.cs)
              | 22=>aL 5 (some q1) (mm.map U8)++(aL 5 (some q2) (rr.map U8)++(y.T++(y.zs.flatMap Mz.E++Ns)))
              | _=>[]
            refine JC.grow (g:=⟨[(3,Pt b 0),(6,ak (some q1) mm.length),(0,ak (some q2) rr.length)],23,vs,Ms,(fun j=>match j with | 2=>[(1,80)] | 3=>[(2,81)] | 4=>[(3,82)] | 6=>[(5,84)] | 7=>[(6,85)] | 8=>[(7,86)] | 10=>[(9,88)] | 11=>[(10,89)] | 12=>[(11,90)] | 14=>[(8,87),(12,91),(13,92)] | 15=>[(14,93)] | 16=>[(4,83),(15,94)] | 17=>[(0,79)] | 18=>[(17,96)] | 19=>[(18,97),(16,95)] | _=>[]),(fun j=>match j with | 4=>[20] | 8=>[20] | 12=>[20] | 16=>[15,21] | 19=>[20] | _=>[]),(fun j=>match j with | 16=>[15,21] | 19=>[20] | _=>[]),(fun j=>match j with | 19=>some 16 | _=>none)⟩) [] [19,16,22] fD (by repeat (first | exact af.nil | refine af.cons _ _ _ rfl ?_)) ?_ (by kernel_rfl) (by kernel_rfl) (by kernel_rfl) ?_ ?_
            · show aq (Ms 20 default++(Ms 21 default++(Ms 22 default++[]))) _;rw [List.append_nil];exact aq.refl _
            · refine ⟨?_,?_,?_,?_,?_,?_,?_,?_,?_,?_,?_,?_,?_,?_,?_,?_,?_,?_,?_,?_,trivial⟩
              · (intro xx EF MF Q kk;(try refine JL.aU rfl rfl ?_);exact JL.q (OQ.move rfl) rfl (JL.nil (kk default nofun)))
              · (intro xx EF MF Q kk;(try refine JL.aU rfl rfl ?_);exact JL.q (OQ.move rfl) rfl (JL.nil (kk default nofun)))
              · (intro xx EF MF Q kk;(try refine JL.aU rfl rfl ?_);exact JL.q (OQ.aV rfl) rfl (JL.nil (kk default nofun)))
              · (intro xx EF MF Q kk;(try refine JL.aU rfl rfl ?_);exact JL.q (OQ.bG rfl rfl rfl (by decide) rfl) rfl (JL.nil (kk default nofun)))
              · (intro xx EF MF Q kk;(try refine JL.aU rfl rfl ?_);exact JL.q (OQ.to (OQ.load vQ rfl .here (Row.cell (v:=ak y.qm y.zs.length) rfl)) hq7) rfl (JL.nil (kk default nofun)))
              · (intro xx EF MF Q kk;(try refine JL.aU rfl rfl ?_);exact JL.q (OQ.move rfl) rfl (JL.nil (kk default nofun)))
              · (intro xx EF MF Q kk;(try refine JL.aU rfl rfl ?_);exact JL.q (OQ.aV rfl) rfl (JL.nil (kk default nofun)))
              · (intro xx EF MF Q kk;(try refine JL.aU rfl rfl ?_);exact JL.q (OQ.bG rfl rfl rfl (by decide) rfl) rfl (JL.nil (kk default nofun)))
              · (intro xx EF MF Q kk;(try refine JL.aU rfl rfl ?_);exact JL.q (OQ.load bJ rfl .here (Row.cell (v:=Z y.fr) rfl)) rfl (JL.nil (kk default nofun)))
              · (intro xx EF MF Q kk;(try refine JL.aU rfl rfl ?_);exact JL.q (OQ.move rfl) rfl (JL.nil (kk default nofun)))
              · (intro xx EF MF Q kk;(try refine JL.aU rfl rfl ?_);exact JL.q (OQ.aV rfl) rfl (JL.nil (kk default nofun)))
              · (intro xx EF MF Q kk;(try refine JL.aU rfl rfl ?_);exact JL.q (OQ.bG rfl rfl rfl (by decide) rfl) rfl (JL.nil (kk default nofun)))
              · (intro xx EF MF Q kk;(try refine JL.aU rfl rfl ?_);exact JL.q (OQ.load b7 rfl .here (Row.cell (v:=ak y.qt y.to.length) rfl)) rfl (JL.nil (kk default nofun)))
              · (intro xx EF MF Q kk;(try refine JL.aU rfl rfl ?_);exact JL.q (OQ.move rfl) rfl (JL.nil (kk default nofun)))
              · (intro xx EF MF Q kk;(try refine JL.aU rfl rfl ?_);exact JL.q (OQ.eZ (cs:=mz.cs) (vs:=[Z y.fr,ak y.qt y.to.length,ak (some q1) mm.length]) [0,1,2] [.tmp 87,.tmp 91,.tmp 92] rfl rfl hb) rfl (JL.nil (kk default nofun)))
              · (intro xx EF MF Q kk;exact JL.zO (cs:=mz.cs) Tryz.underlying31 zU rfl (by decide) (by decide) rfl hm3 rfl fun b1 _=>JL.nil (kk (b1,0) nofun))
              · (intro xx EF MF Q kk;refine JL.perm (M':=⟨(xx 15).1,Row 38 mz.cs,true⟩::(c9 38 3 y.qm (y.zs.map Mz.cs)++MF)) ?_ (List.Perm.of_eq (by show (Ms 15 (xx 15)++(Ms 21 (xx 21)++[]))++MF=_;simp [Ms]));exact JL.sy (c:=mz.cs) y.qm Tryz.underlying31 zU (fun h=>by rw [yok.m h];rfl) rfl rfl hm3 (nS mz) rfl (by decide) (by rw [List.length_map];omega) (by rw [List.length_map];omega) rfl fun b' cap'=>JL.nil (kk (b',cap') nofun))
              · (intro xx EF MF Q kk;(try refine JL.aU rfl rfl ?_);exact JL.q (OQ.aV rfl) rfl (JL.nil (kk default nofun)))
              · (intro xx EF MF Q kk;(try refine JL.aU rfl rfl ?_);exact JL.q (OQ.bG rfl rfl rfl (by decide) rfl) rfl (JL.nil (kk default nofun)))
              · (intro xx EF MF Q kk;exact JL.cm (b:=b) (r:=y.cs) (r':=[N y.st,Z y.fr,ak y.qt y.to.length,Z y.out,ak (some (xx 16)) (y.zs.map Mz.cs++[mz.cs]).length,.bool y.cl]) zi rfl rfl rfl rfl .here (show 4<6 by decide) rfl (JL.nil (kk (xx 16) (fun k h=>by cases h;rfl))))
            · intro xx hx
              have e19:=hx 19 16 (by decide) rfl
              show JE _ _ _ _ _ [(3,Pt b 0),(6,ak (some q1) mm.length),(0,ak (some q2) rr.length)] (⟨b,Row 33 [N y.st,Z y.fr,ak y.qt y.to.length,Z y.out,ak (some (xx 19)) (y.zs.map Mz.cs++[mz.cs]).length,.bool y.cl],true⟩::(⟨(xx 16).1,Sl.aG 38 3 (y.zs.map Mz.cs++[mz.cs]).length (xx 16).2 (y.zs.map Mz.cs++[mz.cs]).flatten,true⟩::((aL 5 (some q1) (mm.map U8)++(aL 5 (some q2) (rr.map U8)++(y.T++(y.zs.flatMap Mz.E++Ns))))++[])))
              rw [e19,List.append_nil]
              generalize xx 16=y1
              clear hx e19 xx vs Ms
              rw [show y.zs.map Mz.cs++[mz.cs]=(y.zs++[mz]).map Mz.cs by simp]
              rw [List.length_map]
              obtain ⟨u,hu2⟩ : ∃ u : Tw,u={ y with qm:=some y1,zs:=y.zs++[mz] }:=⟨_,rfl⟩
              have hucs : [N y.st,Z y.fr,ak y.qt y.to.length,Z y.out,ak (some y1) (y.zs++[mz]).length,.bool y.cl]=u.cs:=by rw [hu2];rfl
              rw [hucs]
              have huo : u.out.length≤200000:=by rw [hu2];show y.out.length≤_;rw [yis.out];omega
              repeat (first | refine JL.q (by (apply OQ.move;rfl)) rfl ?_ | refine JC.region ?_ | refine JE.next ?_)
              refine JL.qB (z:=u) fc (by show u.out.length+6<_;omega) rfl rfl rfl ?_
              repeat (first | refine JL.q (by (apply OQ.move;rfl)) rfl ?_ | refine JC.region ?_ | refine JL.nil ?_ | refine JE.next ?_)
              refine JL.s6 (z:={ u with out:=u.out++(fc++[13,10]) }) 1 rfl rfl rfl fun b3=>?_
              repeat (first | refine JL.nil ?_ | refine JE.ag ?_)
              refine JE.zA (M':=(Tw.E b (Tw.cg { u with out:=u.out++(fc++[13,10]) } 1 b3))++aL 5 (some q2) (rr.map U8)++Ns) ?_ ?_
              · have hr3 : ∀ (w' : World) (X : List aN),aa w [] (X++aL 5 (some q2) (rr.map U8)) w'→(dL (some q2) rr).ok w':=fun w' X hw'=>iE (e:=5) (M:=X) (hw'.perm' List.perm_append_comm)
                refine JE.again (i:=(⟨z,S,O,r,Ns⟩ : Rn)) (⟨Tw.cg { u with out:=u.out++(fc++[13,10]) } 1 b3,⟨1,[],[],[],[],R.1.ms++[⟨R.1.fr,R.1.to,mm⟩]⟩,O2++(fc++[13,10]),dL (some q2) rr,aL 5 (some q2) (rr.map U8)⟩ : Rn) ⟨⟨nofun,by rw [hu2];exact nofun⟩,⟨?_,?_,?_,fun _=>⟨rfl,rfl,rfl⟩⟩,rfl,by show 1≠4;decide,by show 1≤5;decide,rfl,Nat.zero_le _,(fun h=>by cases h),hr3,by show rr.length≤5000;omega,?_,by show (R.1.ms++[(⟨R.1.fr,R.1.to,mm⟩ : Ml)]).length+rr.length≤5000;rw [List.length_append,oms,List.length_singleton];omega,?_⟩ (by show rr.length<r.l.length;omega) (by repeat (first | exact af.nil | refine af.cons _ _ _ rfl ?_)) (ew _ _)
                · rw [hu2];exact congrArg (·++_) yis.out
                · rw [hu2]
                  show (y.zs++[mz]).map Mz.m=_
                  rw [List.map_append,yis.ms,hmz]
                  show R.1.ms++[(⟨y.fr,y.to,mm⟩ : Ml)]=R.1.ms++[⟨R.1.fr,R.1.to,mm⟩]
                  rw [yfr,yto]
                · rw [hu2]
                  show y.cl=decide (1=5)
                  rw [yis.cl,h4']
                  rfl
                · show (O2++(fc++[13,10])).length+22 * rr.length≤_
                  rw [List.length_append]
                  show O2.length+8+22 * rr.length≤_
                  omega
                · show aA new s.l=((aA ⟨1,[],[],[],[],R.1.ms++[⟨R.1.fr,R.1.to,mm⟩]⟩ rr).1,O2++(fc++[13,10])++(aA ⟨1,[],[],[],[],R.1.ms++[⟨R.1.fr,R.1.to,mm⟩]⟩ rr).2)
                  rw [hfe2,hds]
                  simp only [List.append_assoc]
              · have hF : (y.zs++[mz]).flatMap Mz.E=y.zs.flatMap Mz.E++(y.T++aL 5 (some q1) (mm.map U8)):=by rw [List.flatMap_append,← hE];simp
                have hT1 : Tw.E b (Tw.cg { u with out:=u.out++(fc++[13,10]) } 1 b3)=⟨b,Row 33 (Tw.cg { u with out:=u.out++(fc++[13,10]) } 1 b3).cs,true⟩::(⟨b3,Sl.aG 9 1 0 0 [],true⟩::(⟨y1.1,Sl.aG 38 3 (y.zs++[mz]).length y1.2 ((y.zs++[mz]).map Mz.cs).flatten,true⟩::(y.zs.flatMap Mz.E++(y.T++aL 5 (some q1) (mm.map U8))))):=by
                  rw [hu2,← hF]
                  show _::(aL _ (some (b3,0)) []++(c9 38 3 (some y1) ((y.zs++[mz]).map Mz.cs)++(y.zs++[mz]).flatMap Mz.E))=_
                  unfold c9
                  rw [List.length_map]
                  rfl
                rw [hT1]
                exact bg fun _ _ v=>by simp only [List.count_append,List.count_cons,List.count_nil];omega
end dF
end
section
set_option maxRecDepth 10000
open Sl
namespace dF
theorem Po.fit.mono {S : Po} {n m : Nat} (h : S.fit n) (hle : n≤m) : S.fit m:=⟨Nat.le_trans h.sz hle,h.to⟩
structure Lo where
  i : Nat
  z : Pw
  T : Po
end dF
end
section
set_option maxRecDepth 10000
open Sl
namespace dF
def Po.Cj (S : Po) (n : Nat) : Prop:=∀ m ∈ S.ms,m.to.length≤10∧m.b.length≤n
def qz (q : Acc) (l : List (List Bt)) : kV:=match q with
  | none=>zQ
  | some p=>⟨some ⟨p.1,0,none⟩,p.2,l⟩
theorem As {q : Acc} {l : List (List Bt)} : (qz q l).v=ak q l.length:=by cases q <;> rfl
theorem xT {q : Acc} {l : List (List Bt)} (h : q=none→l=[]) : (qz q l).l=l:=by
  cases q with
  | none=>exact (h rfl).symm
  | some p=>rfl
theorem xU {u w : World} {S : List Nat} {X : List aN} {q : Acc} {l : List (List Bt)} (hw : aa u S X w) (h : ∀ x ∈ aL 9 q (l.map Z),x ∈ X) : (qz q l).ok w:=by
  cases q with
  | none=>exact yg w
  | some p=>
    obtain ⟨⟨o,ho,hA⟩,_⟩:=hw.all ⟨p.1,Sl.aG 9 1 (l.map Z).length p.2 (l.map Z),true⟩ (h _ List.mem_cons_self)
    refine ⟨?_,Reads.block ho (Sl.aG.cells o hA)⟩
    obtain ⟨_,_,_,_,h3⟩:=hA
    rw [List.length_map] at h3
    exact h3
def BB (q : Acc) (zs : List Mz) : xY:=⟨match q with | none=>none | some p=>some ⟨p.1,0,none⟩,match q with | none=>0 | some p=>p.2,zs.map fun m=>⟨m.m.fr,qz m.qt m.m.to,dL m.qb m.m.b⟩⟩
theorem Bs {q : Acc} {zs : List Mz} (h : q=none→zs=[]) : (BB q zs).v=ak q zs.length:=by
  cases q with
  | none=>rw [h rfl];rfl
  | some p=>show Value.slice _ (zs.map _).length _=_;rw [List.length_map];rfl
theorem At (zs : List Mz) : (zs.map fun m=>(⟨m.m.fr,qz m.qt m.m.to,dL m.qb m.m.b⟩ : Mr)).map Mr.cs=zs.map Mz.cs:=by
  rw [List.map_map]
  refine List.map_congr_left fun m _=>?_
  show [Z m.m.fr,(qz m.qt m.m.to).v,(dL m.qb m.m.b).v]=[Z m.m.fr,ak m.qt m.m.to.length,ak m.qb m.m.b.length]
  rw [As,jx]
theorem Bu (q : Acc) (zs : List Mz) : (BB q zs).l.map Mr.m=zs.map Mz.m:=by
  show (zs.map _).map Mr.m=_
  rw [List.map_map]
  refine List.map_congr_left fun m _=>?_
  show (⟨m.m.fr,(qz m.qt m.m.to).l,(dL m.qb m.m.b).l⟩ : Ml)=m.m
  rw [xT m.ht,jz m.hb]
theorem Au {u w : World} {S : List Nat} {X : List aN} {q : Acc} {zs : List Mz} (hq : q=none→zs=[]) (hw : aa u S X w) (h : ∀ x ∈ c9 38 3 q (zs.map Mz.cs)++zs.flatMap Mz.E,x ∈ X) : (BB q zs).ok w:=by
  have hM : ∀ m ∈ zs,∀ x ∈ m.E,x ∈ X:=fun m hm x hx=>h x (List.mem_append_right _ (xJ hm x hx))
  refine ⟨?_,fun m hm=>?_,fun m hm=>?_⟩
  · show Reads w _ ((zs.map _).map Mr.cs).flatten
    rw [At]
    cases q with
    | none=>rw [hq rfl];exact Reads.nil _ _
    | some p=>
      obtain ⟨⟨o,ho,hA⟩,_⟩:=hw.all ⟨p.1,Sl.aG 38 3 (zs.map Mz.cs).length p.2 (zs.map Mz.cs).flatten,true⟩ (h _ (List.mem_append_left _ List.mem_cons_self))
      exact Reads.block ho (Sl.aG.cells o hA)
  · obtain ⟨m',hm',rfl⟩:=List.mem_map.1 hm
    exact xU hw fun x hx=>hM m' hm' x (List.mem_append_left _ hx)
  · obtain ⟨m',hm',rfl⟩:=List.mem_map.1 hm
    exact kn (e:=5) hw fun x hx=>hM m' hm' x (List.mem_append_right _ hx)
structure Pl where
  i : Nat
  z : Pw
  S : Po
  q : Acc
  O : List Bt
  r : aB
structure Pl.good (w : World) (a : aB) (n : Nat) (x : Pl) : Prop where
  i : x.i≤n
  ok : x.z.ok
  is : x.z.is x.S
  wf : x.S.wf
  ft : x.S.fit (5000 - x.r.l.length)
  mo : x.S.Cj 6000
  qn : x.q=none→x.O=[]
  r : x.r.ok w
  rl : x.r.l.length≤5000
  ol : x.O.length+11 * x.r.l.length≤55000
  fe : aA new a.l=((aA x.S x.r.l).1,x.O++(aA x.S x.r.l).2)
end dF
end
section
namespace Sl
variable {Y : Type}
structure bN (Y : Type) where
  E0 : Env
  N : Nat
  v : Nat→Y→Value
  M : Nat→Y→List aN
  need : Nat→List (Nat × Nat)
  iP : Nat→List Nat
  nv : Nat→List Nat
  src : Nat→List Nat
  E1 : Nat→Env
  R : Nat→Nat→Y→Y→Prop
def bN.zM (g : bN Y) (l : List Oper) (i : Nat) : Bool:=
  (g.E1 i).all fun p=>(List.range l.length).all fun k=>c6 l k != some p.1 || (k != i && cr l k i)
def bN.ju (g : bN Y) (l : List Oper) (i : Nat) (o : Oper) : Bool:=
  (((g.need i).all (fun p=>behind o p.1 && c6 l p.1 == some p.2) && (g.src i).all fun k=>behind o k) && g.zM l i) &&
  ((g.iP i).all (fun j=>decide (j<g.N) && (decide (l.length≤j) || behind o j)) &&
  ((g.nv i).all (fun j=>(g.iP i).contains j) &&
  ((List.range l.length).all (fun k=>k == i || (g.nv k).all fun j=>!(g.iP i).contains j || cr l k i) &&
  (iQ (g.iP i) && (o.after.toList.all (fun e=>!Region.binds .any e || decide (e.on<i)) && jt l g.E0 i o.dst)))))
def bN.eg (g : bN Y) (l : List Oper) : Nat→List Oper→Bool
  | _,[]=>true
  | i,o::r=>g.ju l i o && g.eg l (i+1) r
theorem bN.cz {g : bN Y} {l : List Oper} : ∀ {r : List Oper} {i : Nat},g.eg l i r=true→∀ {j o},r[j]?=some o→g.ju l (i+j) o=true
  | [],_,_,j,o,h=>by simp at h
  | q::r,i,hk,j,o,h=>by
    simp only [bN.eg,Bool.and_eq_true] at hk
    cases j with
    | zero=>
      simp only [List.getElem?_cons_zero,Option.some.injEq] at h
      subst h
      exact hk.1
    | succ j=>
      have:=bN.cz hk.2 (j:=j) (o:=o) (by simpa using h)
      rwa [show i+1+j=i+(j+1) by omega] at this
def bN.AL (g : bN Y) (P : Program) (n : Nat) (w0 : World) (S : List Nat) (l : List Oper) (i : Nat) (o : Oper) : Prop:=
  ∀ (x : Nat→Y) (EF : Env) (MF : List aN) (Q : Exit→Act→World→Prop),
    (∀ xi : Y,(∀ k,k ∈ g.src i→g.R i k xi (x k))→JE n w0 S Q .normal (slot o.dst (g.v i xi)++((g.need i).map (fun p=>(p.2,g.v p.1 (x p.1)))++(g.E0++(g.E1 i++EF)))) (g.M i xi++(((g.iP i).filter fun j=>!(g.nv i).contains j).flatMap (fun j=>g.M j (x j))++MF)))→
    JL P n w0 S l.toArray Q [o] ((g.need i).map (fun p=>(p.2,g.v p.1 (x p.1)))++(g.E0++(g.E1 i++EF))) ((g.iP i).flatMap (fun j=>g.M j (x j))++MF)
def bN.kT (g : bN Y) (P : Program) (n : Nat) (w0 : World) (S : List Nat) (l : List Oper) : Nat→List Oper→Prop
  | _,[]=>True
  | i,o::r=>g.AL P n w0 S l i o∧g.kT P n w0 S l (i+1) r
theorem bN.iR {g : bN Y} {P : Program} {n : Nat} {w0 : World} {S : List Nat} {l : List Oper} : ∀ {r : List Oper} {i : Nat},g.kT P n w0 S l i r→∀ {j o},r[j]?=some o→g.AL P n w0 S l (i+j) o
  | [],_,_,j,o,h=>by simp at h
  | q::r,i,hk,j,o,h=>by
    cases j with
    | zero=>
      simp only [List.getElem?_cons_zero,Option.some.injEq] at h
      subst h
      exact hk.1
    | succ j=>
      have:=bN.iR hk.2 (j:=j) (o:=o) (by simpa using h)
      rwa [show i+1+j=i+(j+1) by omega] at this
def bN.live (g : bN Y) (m : Nat) (done : Array Bool) (j : Nat) : Prop:=j<g.N∧(m≤j∨done.getD j false=true)∧∀ k,done.getD k false=true→j ∉ g.nv k
structure bN.Inv (g : bN Y) (n : Nat) (w0 : World) (S : List Nat) (l : List Oper) (done : Array Bool) (x : Nat→Y) (a : Act) (w : World) : Prop where
  size : a.tmps.size=n
  defers : a.defers=[]
  kU : done.size=l.length
  base : ∀ p ∈ g.E0,a.tmps.getD p.1 undef=p.2
  first : ∀ j,j<l.length→done.getD j false=false→∀ p ∈ g.E1 j,a.tmps.getD p.1 undef=p.2
  vals : ∀ j d,done.getD j false=true→c6 l j=some d→a.tmps.getD d undef=g.v j (x j)
  rel : ∀ j k,done.getD j false=true→k ∈ g.src j→g.R j k (x j) (x k)
  down : ∀ j i,done.getD j false=true→cr l j i=true→done.getD i false=true
  mem : fC w0 S (g.live l.length done) (fun j=>g.M j (x j)) w
section
variable {P : Program} {n : Nat} {w0 : World} {S : List Nat} {Q : Exit→Act→World→Prop} {E : Env} {M : List aN} {g : bN Y} {l : List Oper}
theorem bN.run (hok : g.eg l 0 l=true) (hj : g.kT P n w0 S l 0 l)
    (hend : ∀ done x a w,g.Inv n w0 S l done x a w→(∀ j,j<l.length→done.getD j false=true)→Q .normal a w) :
    ∀ (f : Nat) (done : Array Bool) (x : Nat→Y) (a : Act) (w : World),f=(List.range l.length).countP (fun j=>!done.getD j false)→g.Inv n w0 S l done x a w→wpAny P .any l.toArray Q f done a w:=by
  have hrdy : ∀ done : Array Bool,done.size=l.length→Region.ready .any l.toArray done=[]→∀ j,j<l.length→done.getD j false=true:=by
    intro done hds hr j
    induction j using Nat.strongRecOn with
    | _ j ih=>
      intro hjl
      cases hd : done.getD j false with
      | true=>rfl
      | false=>
        obtain ⟨o,ho⟩ : ∃ o,l[j]?=some o:=⟨_,List.getElem?_eq_getElem hjl⟩
        have hk:=bN.cz hok ho
        simp only [bN.ju,Bool.and_eq_true,Nat.zero_add] at hk
        have hkk:=hk.2.2.2.2.2.1
        have : j ∈ Region.ready .any l.toArray done:=by
          rw [mem_ready]
          refine ⟨?_,o,by simpa using ho,fun e he hb=>?_⟩
          · rw [Array.getD_eq_getD_getElem?,Array.getElem?_eq_getElem (by omega)] at hd ⊢
            simpa using hd
          · have:=List.all_eq_true.1 hkk e (by simpa using he)
            simp only [hb,Bool.not_true,Bool.false_or,decide_eq_true_eq] at this
            exact ih e.on this (by omega)
        rw [hr] at this
        cases this
  intro f
  induction f with
  | zero=>
    intro done x a w hf hI
    have hall : ∀ j,j<l.length→done.getD j false=true:=fun j hjl=>by
      have:=List.countP_eq_zero.1 hf.symm j (List.mem_range.2 hjl)
      simpa using this
    refine ⟨?_,hend done x a w hI hall⟩
    refine List.eq_nil_iff_forall_not_mem.2 fun i hi=>?_
    obtain ⟨hu,o,ho,_⟩:=mem_ready.1 hi
    have hil : i<l.length:=by
      have:=(Array.getElem?_eq_some_iff.1 ho).1
      simpa using this
    have:=hall i hil
    rw [Array.getD_eq_getD_getElem?,Array.getElem?_eq_getElem (by have:=hI.kU;omega)] at hu this
    simp only [Option.getD_some] at hu this
    rw [hu] at this
    cases this
  | succ f ih=>
    intro done x a w hf hI
    have hds:=hI.kU
    refine ⟨fun h0=>hend done x a w hI (hrdy done hds h0),fun i hi=>?_⟩
    obtain ⟨hu,o,ho,hbe⟩:=mem_ready.1 hi
    have hil : i<l.length:=by
      have:=(Array.getElem?_eq_some_iff.1 ho).1
      simpa using this
    have ho' : l[i]?=some o:=by simpa using ho
    have hu' : done.getD i false=false:=by
      rw [Array.getD_eq_getD_getElem?,Array.getElem?_eq_getElem (by omega)] at hu ⊢
      simpa using hu
    have hk:=bN.cz hok ho'
    simp only [bN.ju,Bool.and_eq_true,Nat.zero_add] at hk
    obtain ⟨⟨⟨k1,k8⟩,k9⟩,k2,k3,k4,k5,_,k7⟩:=hk
    have hbeh : ∀ j,behind o j=true→done.getD j false=true:=fun j hj=>by
      simp only [behind,List.any_eq_true,Bool.and_eq_true,beq_iff_eq] at hj
      obtain ⟨e,he,rfl,hb⟩:=hj
      exact hbe e (by simpa using he) hb
    have hbi : ∀ k,cr l k i=true→done.getD k false=false:=fun k hk=>by
      cases h : done.getD k false with
      | false=>rfl
      | true=>have:=hI.down k i h hk;rw [hu'] at this;cases this
    have hinp : ∀ j ∈ g.iP i,g.live l.length done j:=by
      intro j hj
      have h2:=List.all_eq_true.1 k2 j hj
      simp only [Bool.and_eq_true,Bool.or_eq_true,decide_eq_true_eq] at h2
      refine ⟨h2.1,h2.2.imp id (hbeh j),fun k hkd hjk=>?_⟩
      have hkl : k<l.length:=by
        by_cases h : k<l.length
        · exact h
        · rw [Array.getD_eq_getD_getElem?,Array.getElem?_eq_none (by omega)] at hkd
          cases hkd
      have h4:=List.all_eq_true.1 k4 k (List.mem_range.2 hkl)
      have hki : k≠i:=fun e=>by rw [e,hu'] at hkd;cases hkd
      simp only [Bool.or_eq_true,beq_iff_eq,hki,false_or] at h4
      have h5:=List.all_eq_true.1 h4 j hjk
      simp only [Bool.or_eq_true,Bool.not_eq_true',List.contains_eq_mem,decide_eq_false_iff_not,hj,not_true,false_or] at h5
      rw [hbi k h5] at hkd
      cases hkd
    have hdone_ne : ∀ j,done.getD j false=true→j≠i:=fun j hj e=>by rw [e,hu'] at hj;cases hj
    have hlen : ∀ k,done.getD k false=true→k<l.length:=fun k hkd=>by
      by_cases h : k<l.length
      · exact h
      · rw [Array.getD_eq_getD_getElem?,Array.getElem?_eq_none (by omega)] at hkd
        cases hkd
    have hdi : c6 l i=o.dst:=by simp [c6,ho']
    have hne : ∀ j d,done.getD j false=true→c6 l j=some d→o.dst≠some d:=by
      intro j d hjd hd he
      rw [he] at k7
      simp only [jt,Bool.and_eq_true] at k7
      have:=List.all_eq_true.1 k7.1 j (List.mem_range.2 (hlen j hjd))
      simp [hdone_ne j hjd,hd] at this
    have hne0 : ∀ p ∈ g.E0,o.dst≠some p.1:=by
      intro p hp he
      rw [he] at k7
      simp only [jt,Bool.and_eq_true] at k7
      have:=List.all_eq_true.1 k7.2 p hp
      simp at this
    let rest : List Nat:=(List.range g.N).filter fun j=>@decide (g.live l.length done j) (Classical.propDecidable _) && !(g.iP i).contains j
    have hrest : ∀ j,j ∈ rest↔g.live l.length done j∧j ∉ g.iP i:=by
      intro j
      simp only [rest,List.mem_filter,List.mem_range,Bool.and_eq_true,Bool.not_eq_true',List.contains_eq_mem,decide_eq_false_iff_not]
      refine ⟨fun ⟨_,h2,h3⟩=>⟨@of_decide_eq_true _ (Classical.propDecidable _) h2,h3⟩,fun ⟨h2,h3⟩=>⟨h2.1,@decide_eq_true _ (Classical.propDecidable _) h2,h3⟩⟩
    have hnd : (g.iP i++rest).Nodup:=by
      rw [List.nodup_append]
      refine ⟨fV k5,List.nodup_range.filter _,fun a ha b hb e=>?_⟩
      exact ((hrest b).1 hb).2 (e ▸ ha)
    have H1:=hI.mem.to (g.iP i++rest) hnd (fun j hj=>by
      rcases List.mem_append.1 hj with h | h
      · exact hinp j h
      · exact ((hrest j).1 h).1)
    rw [List.flatMap_append] at H1
    let EF0 : Env:=(List.range l.length).filterMap fun j=>if done.getD j false=true then (c6 l j).map (fun d=>(d,g.v j (x j))) else none
    let EF1 : Env:=(List.range l.length).flatMap fun j=>if done.getD j false=true then [] else g.E1 j
    let EF : Env:=EF0++EF1
    have hEF : ∀ p,p ∈ EF0↔∃ j d,done.getD j false=true∧c6 l j=some d∧p=(d,g.v j (x j)):=by
      intro p
      simp only [EF0,List.mem_filterMap,List.mem_range]
      constructor
      · rintro ⟨j,_,hp⟩
        split at hp
        · rename_i hjd
          obtain ⟨d,hd,rfl⟩:=Option.map_eq_some_iff.1 hp
          exact ⟨j,d,hjd,hd,rfl⟩
        · cases hp
      · rintro ⟨j,d,hjd,hd,rfl⟩
        exact ⟨j,hlen j hjd,by rw [if_pos hjd,hd];rfl⟩
    have hEF1 : ∀ j,j<l.length→done.getD j false=false→∀ p ∈ g.E1 j,p ∈ EF1:=by
      intro j hjl hjd p hp
      simp only [EF1,List.mem_flatMap,List.mem_range]
      exact ⟨j,hjl,by rw [if_neg (by rw [hjd];decide)];exact hp⟩
    have hne1 : ∀ j,j<l.length→done.getD j false=false→∀ p ∈ g.E1 j,o.dst≠some p.1:=by
      intro j hjl hjd p hp he
      have hjo : l[j]?=some (l[j]'hjl):=List.getElem?_eq_getElem hjl
      have hkj:=bN.cz hok hjo
      simp only [bN.ju,Bool.and_eq_true,Nat.zero_add] at hkj
      have h9:=List.all_eq_true.1 hkj.1.2 p hp
      have h10:=List.all_eq_true.1 h9 i (List.mem_range.2 hil)
      simp only [hdi,he,bne_self_eq_false,Bool.false_or,Bool.and_eq_true] at h10
      have h11 : behind o j=true:=by simpa [cr,ho'] using h10.2
      rw [hbeh j h11] at hjd
      cases hjd
    have hneed : ∀ p ∈ g.need i,done.getD p.1 false=true∧c6 l p.1=some p.2:=by
      intro p hp
      have h1:=List.all_eq_true.1 k1 p hp
      simp only [Bool.and_eq_true,beq_iff_eq] at h1
      exact ⟨hbeh _ h1.1,h1.2⟩
    have hK : ∀ p ∈ ((g.need i).map (fun p=>(p.2,g.v p.1 (x p.1)))++(g.E0++(g.E1 i++EF))),a.tmps.getD p.1 undef=p.2∧o.dst≠some p.1:=by
      intro p hp
      rcases List.mem_append.1 hp with h | h
      · obtain ⟨q,hq,rfl⟩:=List.mem_map.1 h
        obtain ⟨h1,h2⟩:=hneed q hq
        exact ⟨hI.vals _ _ h1 h2,hne _ _ h1 h2⟩
      · rcases List.mem_append.1 h with h | h
        · exact ⟨hI.base p h,hne0 p h⟩
        · rcases List.mem_append.1 h with h | h
          · exact ⟨hI.first i hil hu' p h,hne1 i hil hu' p h⟩
          · rcases List.mem_append.1 h with h | h
            · obtain ⟨j,d,h1,h2,rfl⟩:=(hEF p).1 h
              exact ⟨hI.vals _ _ h1 h2,hne _ _ h1 h2⟩
            · simp only [EF1,List.mem_flatMap,List.mem_range] at h
              obtain ⟨j,hjl,h⟩:=h
              cases hjd : done.getD j false with
              | true=>rw [hjd] at h;simp at h
              | false=>
                rw [hjd] at h
                simp only [Bool.false_eq_true,if_false] at h
                exact ⟨hI.first j hjl hjd p h,hne1 j hjl hjd p h⟩
    have job:=bN.iR hj ho'
    rw [Nat.zero_add] at job
    refine fU ho ((job x EF (rest.flatMap fun j=>g.M j (x j)) _ fun xi hxi=>⟨fun a' w' hK' hH'=>?_⟩).go a w (bf.of hI.size hI.defers fun p hp=>(hK p hp).1) H1)
    have hd' : ∀ j,(done.setIfInBounds i true).getD j false=(decide (j=i) || done.getD j false):=fun j=>oR (by omega)
    refine ih _ (fun j=>if j=i then xi else x j) a' w' ?_ ?_
    · have:=kS (l:=List.range l.length) (p:=fun j=>!done.getD j false) (q:=fun j=>!(done.setIfInBounds i true).getD j false) (i:=i) List.nodup_range (List.mem_range.2 hil) (by simp only [hu'];rfl) (by simp only [hd'];simp) (fun j hj=>by simp only [hd'];simp [hj])
      omega
    · have hmem : ∀ p ∈ (slot o.dst (g.v i xi)++((g.need i).map (fun p=>(p.2,g.v p.1 (x p.1)))++(g.E0++(g.E1 i++EF)))),a'.tmps.getD p.1 undef=p.2:=by
        intro p hp
        refine hK'.mem (f:=fun t=>if o.dst=some t then g.v i xi else a.tmps.getD t undef) (fun q hq=>?_) hp
        rcases List.mem_append.1 hq with h | h
        · cases hod : o.dst with
          | none=>rw [hod] at h;cases h
          | some d=>
            rw [hod] at h
            simp only [slot,List.mem_singleton] at h
            subst h
            simp
        · have:=hK q h
          simp only [this.2,if_false]
          exact this.1
      refine ⟨hK'.size,hK'.defers,by simp [hds],fun p hp=>hmem p (by simp [hp]),fun j hjl hjd p hp=>?_,?_,?_,?_,?_⟩
      · rw [hd'] at hjd
        simp only [Bool.or_eq_false_iff] at hjd
        exact hmem p (List.mem_append_right _ (List.mem_append_right _ (List.mem_append_right _ (List.mem_append_right _ (List.mem_append_right _ (hEF1 j hjl hjd.2 p hp))))))
      · intro j d hjd hd
        by_cases e : j=i
        · subst e
          rw [hdi] at hd
          have:=hmem (d,g.v j xi) (by simp [hd,slot])
          simpa using this
        · rw [hd'] at hjd
          simp only [e,decide_false,Bool.false_or] at hjd
          have:=hmem (d,g.v j (x j)) (List.mem_append_right _ (List.mem_append_right _ (List.mem_append_right _ (List.mem_append_right _ (List.mem_append_left _ ((hEF _).2 ⟨j,d,hjd,hd,rfl⟩))))))
          simpa [e] using this
      · intro j k hjd hs
        rw [hd'] at hjd
        by_cases e : j=i
        · subst e
          have k8:=List.all_eq_true.1 k8 k hs
          simp only [if_true,hdone_ne k (hbeh k k8),if_false]
          exact hxi k hs
        · simp only [e,decide_false,Bool.false_or] at hjd
          have hjo : l[j]?=some (l[j]'(hlen j hjd)):=List.getElem?_eq_getElem (hlen j hjd)
          have hkj:=bN.cz hok hjo
          simp only [bN.ju,Bool.and_eq_true,Nat.zero_add] at hkj
          have h8:=hkj.1.1.2
          have h8:=List.all_eq_true.1 h8 k hs
          have hkd:=hI.down j k hjd (by simpa [cr,hjo] using h8)
          simp only [e,hdone_ne k hkd,if_false]
          exact hI.rel j k hjd hs
      · intro j i' hjd hb
        rw [hd'] at hjd ⊢
        by_cases e : j=i
        · subst e
          have : behind o i'=true:=by simpa [cr,ho'] using hb
          simp [hbeh i' this]
        · simp only [e,decide_false,Bool.false_or] at hjd
          simp [hI.down j i' hjd hb]
      · have hnl : ¬ g.live l.length done i:=fun h=>by
          rcases h.2.1 with h | h
          · omega
          · rw [hu'] at h;cases h
        have hcg : ∀ L : List Nat,(∀ j ∈ L,g.live l.length done j)→L.flatMap (fun j=>g.M j (if j=i then xi else x j))=L.flatMap fun j=>g.M j (x j):=by
          intro L
          induction L with
          | nil=>simp
          | cons j L ih=>
            intro h
            have hji : j≠i:=fun e=>hnl (e ▸ h j (by simp))
            simp only [List.flatMap_cons,hji,if_false,ih fun k hk=>h k (by simp [hk])]
        refine fC.of (Js:=i::(((g.iP i).filter fun j=>!(g.nv i).contains j)++rest)) ?_ ?_
        · rw [List.flatMap_cons,List.flatMap_append,hcg _ (fun j hj=>hinp j (List.mem_filter.1 hj).1),hcg rest (fun j hj=>((hrest j).1 hj).1)]
          simpa using hH'
        · intro j hj
          by_cases e : j=i
          · simp [e]
          · have hl : g.live l.length done j:=by
              refine ⟨hj.1,hj.2.1.imp id (fun h=>?_),fun k hk=>hj.2.2 k (by rw [hd'];simp [hk])⟩
              rw [hd'] at h
              simpa [e] using h
            have hne : j ∉ g.nv i:=hj.2.2 i (by rw [hd'];simp)
            by_cases hji : j ∈ g.iP i
            · simp [e,hji,hne]
            · have:=(hrest j).2 ⟨hl,hji⟩
              simp [e,this]
theorem vi [Inhabited Y] (g : bN Y) (outs : List (Nat × Nat)) (ends : List Nat) (hE : af E g.E0) (hE1 : ∀ i,i<l.length→af E (g.E1 i)) (hM : aq (((List.range g.N).filter fun j=>decide (l.length≤j)).flatMap fun j=>g.M j default) M)
    (hok : g.eg l 0 l=true) (ho : (outs.all fun p=>decide (p.1<l.length) && c6 l p.1 == some p.2)=true)
    (he : (iQ ends && ends.all fun j=>decide (j<g.N) && (List.range l.length).all fun k=>!(g.nv k).contains j)=true)
    (hj : g.kT P n w0 S l 0 l)
    (k : ∀ x : Nat→Y,(∀ j k,j<l.length→k ∈ g.src j→g.R j k (x j) (x k))→JE n w0 S Q .normal (outs.map (fun p=>(p.2,g.v p.1 (x p.1)))++g.E0) (ends.flatMap fun j=>g.M j (x j))) {a : Act} {w : World} (ha : bf n E a) (hw : aa w0 S M w) : wpAny P .any l.toArray Q l.toArray.size (Array.replicate l.toArray.size false) a { w with drawn:=w.drawn+1 }:=by
    have hw':=(hw.drawn (w.drawn+1)).weak hM
    simp only [Bool.and_eq_true] at he
    refine bN.run hok hj (fun done x a w hI hall=>?_) _ _ (fun _=>default) a _ ?_ ?_
    · refine (k x fun j k hj hs=>hI.rel j k (hall j hj) hs).go a w (bf.of hI.size hI.defers fun p hp=>?_) (hI.mem.to ends (fV he.1) fun j hj=>?_)
      · rcases List.mem_append.1 hp with h | h
        · obtain ⟨q,hq,rfl⟩:=List.mem_map.1 h
          have:=List.all_eq_true.1 ho q hq
          simp only [Bool.and_eq_true,decide_eq_true_eq,beq_iff_eq] at this
          exact hI.vals _ _ (hall _ this.1) this.2
        · exact hI.base p h
      · have:=List.all_eq_true.1 he.2 j hj
        simp only [Bool.and_eq_true,decide_eq_true_eq] at this
        refine ⟨this.1,?_,fun k hk hjk=>?_⟩
        · by_cases h : l.length≤j
          · exact .inl h
          · exact .inr (hall j (by omega))
        · have hkl : k<l.length:=by
            by_cases h : k<l.length
            · exact h
            · have:=hI.kU
              rw [Array.getD_eq_getD_getElem?,Array.getElem?_eq_none (by omega)] at hk
              cases hk
          have:=List.all_eq_true.1 this.2 k (List.mem_range.2 hkl)
          simp [hjk] at this
    · have : ∀ j,(Array.replicate l.toArray.size false).getD j false=false:=fun j=>by
        simp only [Array.getD_eq_getD_getElem?,Array.getElem?_replicate]
        split <;> rfl
      rw [List.countP_eq_length.2 (fun j _=>by simp only [this];rfl)]
      simp
    · have hf : ∀ j,(Array.replicate l.toArray.size false).getD j false=false:=fun j=>by
        simp only [Array.getD_eq_getD_getElem?,Array.getElem?_replicate]
        split <;> rfl
      refine ⟨ha.size,ha.defers,by simp,fun p hp=>ha.all _ _ (hE.all p hp),fun j hj _ p hp=>ha.all _ _ ((hE1 j hj).all p hp),fun j d h=>?_,fun j k h=>?_,fun j i h=>?_,?_⟩
      · rw [hf] at h;cases h
      · rw [hf] at h;cases h
      · rw [hf] at h;cases h
      · refine fC.of hw' fun j hj=>?_
        rw [List.mem_filter]
        refine ⟨List.mem_range.2 hj.1,?_⟩
        rcases hj.2.1 with h | h
        · simpa using h
        · rw [hf] at h;cases h
theorem JC.Bv [Inhabited Y] (g : bN Y) (outs : List (Nat × Nat)) (ends : List Nat) {id : Nat} (hm : P.follows .mixedOrders=true) (hE : af E g.E0) (hE1 : ∀ i,i<l.length→af E (g.E1 i)) (hM : aq (((List.range g.N).filter fun j=>decide (l.length≤j)).flatMap fun j=>g.M j default) M)
    (hok : g.eg l 0 l=true) (ho : (outs.all fun p=>decide (p.1<l.length) && c6 l p.1 == some p.2)=true)
    (he : (iQ ends && ends.all fun j=>decide (j<g.N) && (List.range l.length).all fun k=>!(g.nv k).contains j)=true)
    (hj : g.kT P n w0 S l 0 l)
    (k : ∀ x : Nat→Y,(∀ j k,j<l.length→k ∈ g.src j→g.R j k (x j) (x k))→JE n w0 S Q .normal (outs.map (fun p=>(p.2,g.v p.1 (x p.1)))++g.E0) (ends.flatMap fun j=>g.M j (x j))) : JC P n w0 S Q (.region id l.toArray true) E M:=
  ⟨fun a w ha hw=>wp_region_any hm (vi g outs ends hE hE1 hM hok ho he hj k ha hw)⟩
end
end Sl
end
section
set_option maxRecDepth 10000
open Sl
namespace dF
open br (iA laidB fz)
structure Wo where
  i : Nat
set_option maxHeartbeats 64000000 in
theorem l6 (m : Mr) (w : World) (hto : m.to.ok w) (hb : m.b.ok w) (hm : e7 w) : Calls Tryz.prog 4 [.agg m.cs.toArray].toArray w fun e w'=>e=.returned (.bool true)∧Ext w w':=by
  refine enter (n:=89) Tryz.func4 rfl rfl rfl (aa.start w []) ?_
  repeat (first | refine JC.seq ?_ | refine JC.region ?_)
  refine JL.box (r:=m.cs) rfl rfl rfl fun b _=>?_
  repeat (first | refine JL.q (by first|(apply OQ.an (vs:=[]);exact l5;rfl;exact (fun w' hw'=>oh w' (hm.ext hw'.aS)))|(apply OQ.not;rfl)|(apply OQ.assign;rfl)) rfl ?_ | refine JC.seq ?_ | refine JC.region ?_ | refine JL.nil ?_ | refine JE.next ?_)
  refine JC.cond_false rfl rfl ?_
  cases g1 : decide ((1000 : Int)<(m.fr.length : Nat)) with
  | true=>
    repeat (first | refine JL.q (by first|(apply OQ.load;exact bJ;rfl;exact .here;exact (Row.cell (v:=Z m.fr) rfl))|(apply OQ.bC;exact Tryz.underlying9;rfl)|(apply OQ.cW (b:=1000);rfl;rfl;exact g1)|(apply OQ.ay;rfl;rfl)|(apply OQ.move;rfl)|(apply OQ.bG;rfl;rfl;rfl;exact (by decide);rfl)) rfl ?_ | refine JC.seq ?_ | refine JC.region ?_ | refine JC.skip ?_ | refine JL.nil ?_ | refine JE.next ?_ | refine JL.aM rfl rfl rfl rfl ?_)
    refine JC.cond_true rfl rfl ?_
    repeat (first | refine JL.q (by (apply OQ.assign;rfl)) rfl ?_ | refine JC.seq ?_ | refine JC.region ?_ | refine JL.nil ?_ | refine JE.next ?_)
    refine JC.ret ?_
    repeat (refine JE.ah ?_)
    exact JE.aC rfl (RV.tmp rfl) fun w' hw=>⟨rfl,hw.aS⟩
  | false=>
  have hf : m.fr.length≤1000:=by have:=of_decide_eq_false g1;omega
  cases g2 : decide ((30 : Int)<(m.to.l.length : Nat)) with
  | true=>
    repeat (first | refine JL.q (by first|(apply OQ.load;exact bJ;rfl;exact .here;exact (Row.cell (v:=Z m.fr) rfl))|(apply OQ.bC;exact Tryz.underlying9;rfl)|(apply OQ.cW (b:=1000);rfl;rfl;exact g1)|(apply OQ.load;exact b7;rfl;exact .here;exact (Row.cell (v:=m.to.v) rfl))|(apply OQ.len (k:=m.to.l.length) (ad:=m.to.ad) (cap:=m.to.cap);exact Tryz.underlying30;rfl)|(apply OQ.cW (b:=30);rfl;rfl;exact g2)|(apply OQ.au;rfl;rfl)|(apply OQ.ay;rfl;rfl)|(apply OQ.move;rfl)|(apply OQ.bG;rfl;rfl;rfl;exact (by decide);rfl)) rfl ?_ | refine JC.seq ?_ | refine JC.region ?_ | refine JC.skip ?_ | refine JL.nil ?_ | refine JE.next ?_ | refine JL.aU rfl rfl ?_ | refine JL.aM rfl rfl rfl rfl ?_)
    refine JC.cond_true rfl rfl ?_
    repeat (first | refine JL.q (by (apply OQ.assign;rfl)) rfl ?_ | refine JC.seq ?_ | refine JC.region ?_ | refine JL.nil ?_ | refine JE.next ?_)
    refine JC.ret ?_
    repeat (refine JE.ah ?_)
    exact JE.aC rfl (RV.tmp rfl) fun w' hw=>⟨rfl,hw.aS⟩
  | false=>
  have ht : m.to.l.length≤30:=by have:=of_decide_eq_false g2;omega
  cases g3 : decide ((3000 : Int)<(m.b.l.length : Nat)) with
  | true=>
    repeat (first | refine JL.q (by first|(apply OQ.load;exact bJ;rfl;exact .here;exact (Row.cell (v:=Z m.fr) rfl))|(apply OQ.bC;exact Tryz.underlying9;rfl)|(apply OQ.cW (b:=1000);rfl;rfl;exact g1)|(apply OQ.load;exact b7;rfl;exact .here;exact (Row.cell (v:=m.to.v) rfl))|(apply OQ.len (k:=m.to.l.length) (ad:=m.to.ad) (cap:=m.to.cap);exact Tryz.underlying30;rfl)|(apply OQ.cW (b:=30);rfl;rfl;exact g2)|(apply OQ.load;exact qs;rfl;exact .here;exact (Row.cell (v:=m.b.v) rfl))|(apply OQ.len (k:=m.b.l.length) (ad:=m.b.ad) (cap:=m.b.cap);exact Tryz.underlying22;rfl)|(apply OQ.cW (b:=3000);rfl;rfl;exact g3)|(apply OQ.au;rfl;rfl)|(apply OQ.move;rfl)|(apply OQ.bG;rfl;rfl;rfl;exact (by decide);rfl)) rfl ?_ | refine JC.seq ?_ | refine JC.region ?_ | refine JC.skip ?_ | refine JL.nil ?_ | refine JE.next ?_ | refine JL.aU rfl rfl ?_)
    refine JC.cond_true rfl rfl ?_
    repeat (first | refine JL.q (by (apply OQ.assign;rfl)) rfl ?_ | refine JC.seq ?_ | refine JC.region ?_ | refine JL.nil ?_ | refine JE.next ?_)
    refine JC.ret ?_
    repeat (refine JE.ah ?_)
    exact JE.aC rfl (RV.tmp rfl) fun w' hw=>⟨rfl,hw.aS⟩
  | false=>
  have hbl : m.b.l.length≤3000:=by have:=of_decide_eq_false g3;omega
  repeat (first | refine JL.q (by first|(apply OQ.load;exact bJ;rfl;exact .here;exact (Row.cell (v:=Z m.fr) rfl))|(apply OQ.bC;exact Tryz.underlying9;rfl)|(apply OQ.cW (b:=1000);rfl;rfl;exact g1)|(apply OQ.load;exact b7;rfl;exact .here;exact (Row.cell (v:=m.to.v) rfl))|(apply OQ.len (k:=m.to.l.length) (ad:=m.to.ad) (cap:=m.to.cap);exact Tryz.underlying30;rfl)|(apply OQ.cW (b:=30);rfl;rfl;exact g2)|(apply OQ.load;exact qs;rfl;exact .here;exact (Row.cell (v:=m.b.v) rfl))|(apply OQ.len (k:=m.b.l.length) (ad:=m.b.ad) (cap:=m.b.cap);exact Tryz.underlying22;rfl)|(apply OQ.cW (b:=3000);rfl;rfl;exact g3)|(apply OQ.au;rfl;rfl)|(apply OQ.move;rfl)|(apply OQ.bG;rfl;rfl;rfl;exact (by decide);rfl)) rfl ?_ | refine JC.seq ?_ | refine JC.region ?_ | refine JC.skip ?_ | refine JL.nil ?_ | refine JE.next ?_ | refine JL.aU rfl rfl ?_)
  refine JC.cond_false rfl rfl ?_
  repeat (first | refine JL.q (by first|(apply OQ.load;exact b7;rfl;exact .here;exact (Row.cell (v:=m.to.v) rfl))|(apply OQ.len (k:=m.to.l.length) (ad:=m.to.ad) (cap:=m.to.cap);exact Tryz.underlying30;rfl)|(apply OQ.move;rfl)|(apply OQ.bG;rfl;rfl;rfl;exact (by decide);rfl)) rfl ?_ | refine JC.seq ?_ | refine JC.region ?_ | refine JC.block ?_ | refine JC.skip ?_ | refine JL.nil ?_ | refine JE.next ?_)
  refine JC.loop (fun i : Nat=>[(1,Pt b 0),(31,m.to.v),(32,N m.to.l.length),(33,N i)]) (fun _=>[⟨b,Row 38 m.cs,true⟩]) (fun i=>m.to.l.length - i) (fun i=>i≤m.to.l.length∧∀ c ∈ m.to.l.take i,decide (c.length≤1000)=true) 0 ⟨Nat.zero_le _,by simp⟩ (by repeat (first | exact af.nil | refine af.cons _ _ _ rfl ?_)) (aq.refl _) ?_
  rintro i ⟨hi,hall⟩
  repeat (first | refine JL.q (by (apply OQ.dz (a:=i) (b:=m.to.l.length);rfl;rfl)) rfl ?_ | refine JC.seq ?_ | refine JC.region ?_ | refine JL.nil ?_ | refine JE.next ?_)
  refine JC.cond rfl (fun hh=>?_) (fun hh=>?_)
  · have hi' : i<m.to.l.length:=of_decide_eq_true hh
    clear hh
    obtain ⟨ab,aj,had,hab,hac⟩:=hto.at (by omega)
    have hc:=hac i hi'
    have htk:=fI (p:=fun c=>decide (c.length≤1000)) hi' hall
    obtain ⟨s,hsd⟩ : ∃ s,m.to.l.getD i []=s:=⟨_,rfl⟩
    rw [hsd] at hc htk
    have hav : m.to.v=.slice (some ⟨ab,aj,none⟩) m.to.l.length m.to.cap:=by unfold kV.v;rw [had]
    have hzp : Pt ab (aj+i * 1)=Pt ab (aj+i):=by rw [Nat.mul_one]
    rw [hav]
    cases hs1 : decide ((1000 : Int)<(s.length : Nat)) with
    | true=>
      repeat (first | refine JL.q (by first|(apply OQ.to;exact (OQ.bR (k:=.i64) (i:=i) (sz:=1) Tryz.underlying30 di rfl rfl hi');exact hzp)|(apply OQ.ai (v:=Z s);exact bJ;rfl;exact hab;exact (by simp);exact hc)|(apply OQ.bC;exact Tryz.underlying9;rfl)|(apply OQ.cW (b:=1000);rfl;rfl;exact hs1)|(apply OQ.move;rfl)|(apply OQ.assign;rfl)) rfl ?_ | refine JC.seq ?_ | refine JC.region ?_ | refine JC.block ?_ | refine JC.skip ?_ | refine JL.nil ?_ | refine JE.next ?_)
      refine JC.cond_true rfl rfl ?_
      repeat (first | refine JL.q (by (apply OQ.assign;rfl)) rfl ?_ | refine JC.seq ?_ | refine JC.region ?_ | refine JL.nil ?_ | refine JE.next ?_)
      refine JC.ret ?_
      repeat (first | refine JE.ah ?_ | refine JE.aW ?_)
      exact JE.aC rfl (RV.tmp rfl) fun w' hw=>⟨rfl,hw.aS⟩
    | false=>
      repeat (first | refine JL.q (by first|(apply OQ.to;exact (OQ.bR (k:=.i64) (i:=i) (sz:=1) Tryz.underlying30 di rfl rfl hi');exact hzp)|(apply OQ.ai (v:=Z s);exact bJ;rfl;exact hab;exact (by simp);exact hc)|(apply OQ.bC;exact Tryz.underlying9;rfl)|(apply OQ.cW (b:=1000);rfl;rfl;exact hs1)|(apply OQ.move;rfl)|(apply OQ.assign;rfl)) rfl ?_ | refine JC.seq ?_ | refine JC.region ?_ | refine JC.block ?_ | refine JC.skip ?_ | refine JL.nil ?_ | refine JE.next ?_)
      refine JC.cond_false rfl rfl ?_
      repeat (first | refine JL.q (by first|(apply OQ.move;rfl)|(apply OQ.aT;rfl;rfl;exact (by (try simp only []);omega))) rfl ?_ | refine JC.region ?_ | refine JC.skip ?_ | refine JL.nil ?_ | refine JE.next ?_ | refine JE.ag ?_)
      exact JE.again (i+1) ⟨hi',htk (decide_eq_true (by have:=of_decide_eq_false hs1;omega))⟩ (by omega) (by repeat (first | exact af.nil | refine af.cons _ _ _ rfl ?_)) (aq.refl _)
  · have hi' : i=m.to.l.length:=by have:=of_decide_eq_false hh;omega
    subst hi'
    rw [List.take_length] at hall
    have h1k : ∀ s ∈ m.to.l,s.length≤1000:=fun s hs=>of_decide_eq_true (hall s hs)
    clear hall hh hi
    have cS:=fun w' (h1 : m.to.ok w') (h2 : m.b.ok w') (h3 : e7 w')=>xM m w' h1 h2 hf ht h1k hbl h3
    have cR:=fun w' (h1 : m.to.ok w') (h2 : m.b.ok w')=>ve m w' h1 h2 hf ht h1k hbl
    have hTl:=og m.b.l
    have hLl:=eP m.b.l
    have hrc : ((cU m.fr m.to.l m.b.l).2=0→((cU m.fr m.to.l m.b.l).1=gB m.fr m.to.l m.b.l∧fits aP m.fr=true∧m.to.l.all (fits aK)=true∧0<m.to.l.length∧m.to.l.length≤10))∧(cU m.fr m.to.l m.b.l).1.length≤100000:=by
      have hpl:=s4 m.fr
      have hrl : ∀ to : List (List Bt),(∀ s ∈ to,s.length≤1000)→(bU to).length≤1012 * to.length:=by
        intro to
        induction to with
        | nil=>intro _;exact Nat.le_refl _
        | cons a to ih=>
          intro h
          have h1:=ih fun s hs=>h s (List.mem_cons_of_mem _ hs)
          have h2:=h a List.mem_cons_self
          have e : bU (a::to)=(addressed aK a++crlf)++bU to:=by unfold bU;rw [List.flatMap_cons]
          have k6 : (addressed aK a).length=8+a.length+2:=e8 _ _
          have k7 : (addressed aK a++crlf).length=8+a.length+2+2:=by rw [List.length_append,k6];rfl
          rw [e,List.length_append,k7,List.length_cons]
          omega
      have hrl:=hrl m.to.l h1k
      have htl : (gB m.fr m.to.l m.b.l).length=(preB m.fr).length+(bU m.to.l).length+6+(iA m.b.l).length+6:=by
        show (((preB m.fr++bU m.to.l)++(bA++crlf))++iA m.b.l++(bu++crlf)).length=_
        rw [List.length_append,List.length_append,List.length_append,List.length_append]
        rfl
      unfold cU
      split
      · exact ⟨fun h=>(by cases h),Nat.zero_le _⟩
      · next h1=>
        split
        · exact ⟨fun h=>(by cases h),Nat.zero_le _⟩
        · next h2=>
          refine ⟨fun _=>⟨rfl,?_,?_,by omega,by omega⟩,by show (gB _ _ _).length≤_;omega⟩
          · cases h : fits aP m.fr
            · exact absurd (.inl h) h1
            · rfl
          · cases h : m.to.l.all (fits aK)
            · exact absurd (.inr h) h1
            · rfl
    generalize cU m.fr m.to.l m.b.l=r at cS cR hrc
    obtain ⟨R,k⟩:=r
    dsimp only at hrc
    obtain ⟨hk,hRl⟩:=hrc
    repeat (first | refine JL.q (by (apply OQ.er (cs:=m.cs);exact qY;exact ow;rfl;exact .here;rfl;exact Row.all)) rfl ?_ | refine JC.seq ?_ | refine JC.region ?_ | refine JC.exit ?_ | refine JE.next ?_ | refine JE.av ?_ | refine JE.aF ?_)
    refine JL.cE (ι:={q : Acc // q=none→R=[]}) (vs:=[.agg m.cs.toArray]) (fun q=>.tuple #[ak q.1 R.length,N k]) (fun q=>aL 5 q.1 (R.map U8)) u5 rfl rfl (fun q=>cN _ _ _) (fun w' hw'=>cS w' (hto.ext hw'.aS) (hb.holds hw' rfl) (hm.ext hw'.aS)) ?_
    rintro ⟨q,hq⟩
    dsimp only
    have hqv:=jx q R
    have hql:=jz hq
    rw [← hqv]
    refine JL.perm (M':=⟨b,Row 38 m.cs,true⟩::aL 5 q (R.map U8)) ?_ (bg fun _ _ v=>by simp only [List.count_append,List.count_cons,List.count_nil];omega)
    repeat (first | refine JL.q (by first|(apply OQ.extract;rfl;rfl)|(apply OQ.er (cs:=m.cs);exact qY;exact ow;rfl;exact .here;rfl;exact Row.all)|(apply OQ.move;rfl)|(apply OQ.assign;rfl)) rfl ?_ | refine JC.seq ?_ | refine JC.region ?_ | refine JL.nil ?_ | refine JE.next ?_)
    refine JL.cE (ι:={x : aB // x.l=R∧(x.ad=none→x.l=[])}) (vs:=[.agg m.cs.toArray]) (fun x=>.tuple #[x.1.v,N k]) (fun x=>x.1.iS) rR rfl rfl (fun x=>x.1.yb) (fun w' hw'=>cR w' (hto.ext hw'.aS) (hb.holds hw' rfl)) ?_
    rintro ⟨x,hxl,hx0⟩
    dsimp only
    have hsm : ∀ w',aa w [] (x.iS++(⟨b,Row 38 m.cs,true⟩::aL 5 q (R.map U8))) w'→Calls Tryz.prog 16 [(dL q R).v,x.v].toArray w' fun e w2=>e=.returned (.bool true)∧Ext w' w2:=fun w' hw'=>by
      have h9:=xB (dL q R) x w' (kn (e:=5) hw' fun y hy=>List.mem_append_right _ (List.mem_cons_of_mem _ hy)) (aB.ny hw' hx0) (by rw [hql];omega)
      rw [decide_eq_true (by rw [hql,hxl])] at h9
      exact h9
    repeat (first | refine JL.q (by first|(apply OQ.extract;rfl;rfl)|(apply OQ.ek (a:=k) (b:=k);rfl;rfl;exact (decide_eq_true rfl))|(apply OQ.an (vs:=[(dL q R).v,x.v]);exact uW;rfl;exact (fun w' hw'=>hsm w' hw'))|(apply OQ.not;rfl)|(apply OQ.au;rfl;rfl)|(apply OQ.move;rfl)|(apply OQ.assign;rfl)) rfl ?_ | refine JC.seq ?_ | refine JC.region ?_ | refine JL.nil ?_ | refine JE.next ?_ | refine JL.aU rfl rfl ?_)
    refine JC.cond_false rfl rfl ?_
    cases hk0 : decide (k=0) with
    | false=>
      repeat (first | refine JL.q (by first|(apply OQ.ek (a:=k) (b:=0);rfl;rfl;exact hk0)|(apply OQ.move;rfl)) rfl ?_ | refine JC.seq ?_ | refine JC.region ?_ | refine JC.skip ?_ | refine JL.nil ?_ | refine JE.next ?_)
      refine JC.cond_true rfl rfl ?_
      repeat (first | refine JL.q (by (apply OQ.assign;rfl)) rfl ?_ | refine JC.seq ?_ | refine JC.region ?_ | refine JL.nil ?_ | refine JE.next ?_)
      refine JC.ret ?_
      repeat (refine JE.ah ?_)
      exact JE.aC rfl (RV.tmp rfl) fun w' hw=>⟨rfl,hw.aS⟩
    | true=>
      obtain ⟨hR,p1,p2,p3,p4⟩:=hk (of_decide_eq_true hk0)
      repeat (first | refine JL.q (by first|(apply OQ.ek (a:=k) (b:=0);rfl;rfl;exact hk0)|(apply OQ.move;rfl)) rfl ?_ | refine JC.seq ?_ | refine JC.region ?_ | refine JC.skip ?_ | refine JL.nil ?_ | refine JE.next ?_)
      refine JC.cond_false rfl rfl ?_
      repeat (first | refine JC.seq ?_ | refine JC.region ?_ | refine JC.skip ?_ | refine JE.next ?_)
      refine JL.eY (M':=⟨b,Row 38 m.cs,true⟩::aL 5 q (R.map U8)) ?_ (c7 _ (aq.refl _))
      refine JL.cE (ι:=Nat) (vs:=[]) (fun b=>Pt b 0) (fun b=>vm.E b) ji rfl rfl (fun b=>Pw.wr b _) (fun w' _=>jV w') fun bp=>?_
      repeat (first | refine JL.q (by first|(apply OQ.move;rfl)|(apply OQ.assign;rfl)) rfl ?_ | refine JC.seq ?_ | refine JC.region ?_ | refine JL.nil ?_ | refine JE.next ?_)
      refine JL.perm (M':=vm.E bp++(aL 5 q (R.map U8)++[⟨b,Row 38 m.cs,true⟩])) ?_ (bg fun _ _ v=>by simp only [List.count_append,List.count_cons,List.count_nil];omega)
      have hfd:=tF m.fr m.to.l m.b.l p1 p2 p3 p4
      rw [← hR] at hfd
      refine JL.feed vm new (dL q R) xH xI xg (by rw [hql];omega) (s5 _) ⟨hm,by simp⟩ (fun w' hw'=>⟨?_,?_⟩) rfl rfl rfl fun z' qf h1 h2 h3=>?_
      · exact kn (e:=5) hw' fun x hx=>List.mem_append_right _ (List.mem_append_left _ hx)
      · cases q with
        | none=>intro h0;exact absurd rfl h0
        | some p5=>exact qw hw' .here
      rw [hql,hfd] at h2
      have hms : z'.zs.map Mz.m=[⟨m.fr,m.to.l,laidB m.b.l⟩]:=h2.ms
      have hst : z'.st=5:=h2.st
      have hzl : z'.zs.length=1:=by simpa using congrArg List.length hms
      have hmb : ∀ y ∈ z'.zs,y.m.to.length≤1000000∧y.m.b.length≤4000000:=fun y hy=>by
        have:=List.mem_map_of_mem (f:=Mz.m) hy
        rw [hms,List.mem_singleton] at this
        rw [this]
        exact ⟨by show m.to.l.length≤_;omega,by show (laidB m.b.l).length≤_;omega⟩
      refine JL.eY (M':=z'.E bp++[⟨b,Row 38 m.cs,true⟩]) ?_ (fJ (aq.refl _) (c7 _ (c7 _ (aq.refl _))))
      repeat (first | refine JL.q (by (apply OQ.move;rfl)) rfl ?_ | refine JC.seq ?_ | refine JC.region ?_ | refine JL.nil ?_ | refine JE.next ?_)
      refine JL.cE (ι:={y : Acc × List Mz // (y.1=none→y.2=[])∧y.2.map Mz.m=z'.zs.map Mz.m}) (vs:=[Pt bp 0]) (fun y=>ak y.1.1 z'.zs.length) (fun y=>c9 38 3 y.1.1 (y.1.2.map Mz.cs)++y.1.2.flatMap Mz.E) rH rfl rfl (fun y e he=>(List.mem_append.1 he).elim (j9 _ _ _ _ e) (qW _ e)) (fun w2 hw2=>uX bp z' h1 hmb (by omega) w2 (Pw.Bk hw2 fun x hx=>List.mem_append_left _ (List.mem_cons_of_mem _ (show x ∈ z'.R from List.mem_append_right _ (List.mem_append_right _ (List.mem_append_right _ hx))))) ((iU hw2).weak (.keep _ _ _ _ _ _ (fun _ h=>h) (.nil _)))) ?_
      rintro ⟨⟨qy,ys⟩,hy0,hym⟩
      dsimp only at hy0 hym ⊢
      have hyl : ys.length=1:=by rw [← hzl];simpa using congrArg List.length hym
      rw [hzl]
      repeat (first | refine JL.q (by (apply OQ.assign;rfl)) rfl ?_ | refine JC.seq ?_ | refine JL.nil ?_ | refine JE.next ?_)
      have cL:=fun w' (h : m.b.ok w')=>jI m.b w' h (by omega)
      obtain ⟨Ld,hLd⟩ : ∃ Ld,laidB m.b.l=Ld:=⟨_,rfl⟩
      rw [hLd] at cL hms hLl
      have hbu : ∀ v : Nat × Nat,Program.built Tryz.prog 38 [(0,Z m.fr),(1,m.to.v),(2,.slice (some ⟨v.1,0,none⟩) Ld.length v.2)]=some [Z m.fr,m.to.v,.slice (some ⟨v.1,0,none⟩) Ld.length v.2].toArray:=fun v=>by unfold kV.v;rfl
      let vs : Nat→(Nat × Nat) × Nat→Value:=fun j y=>match j with
        | 0=>Pt b 0
        | 1=>Z m.fr
        | 2=>Pt b 1
        | 3=>m.to.v
        | 4=>Pt b 2
        | 5=>m.b.v
        | 6=>.slice (some ⟨y.1.1,0,none⟩) Ld.length y.1.2
        | 7=>.agg [Z m.fr,m.to.v,.slice (some ⟨y.1.1,0,none⟩) Ld.length y.1.2].toArray
        | 8=>Pt y.2 0
        | _=>N 0
      let Ms : Nat→(Nat × Nat) × Nat→List aN:=fun j y=>match j with
        | 6=>[⟨y.1.1,Sl.aG 5 1 Ld.length y.1.2 (Ld.map U8),true⟩]
        | 8=>[⟨y.2,Row 38 [Z [],.slice none 0 0,.slice none 0 0],true⟩]
        | 9=>[⟨y.2,Row 38 [Z m.fr,m.to.v,.slice (some ⟨y.1.1,0,none⟩) Ld.length y.1.2],true⟩]
        | 10=>c9 38 3 qy (ys.map Mz.cs)++ys.flatMap Mz.E
        | 11=>[⟨bp,Row 75 z'.cs,true⟩]
        | 12=>z'.R
        | 13=>[⟨b,Row 38 m.cs,true⟩]
        | _=>[]
      refine JC.Bv (g:=⟨[(1,Pt b 0),(9,Pt bp 0),(10,ak qy 1)],14,vs,Ms,(fun j=>match j with | 1=>[(0,68)] | 3=>[(2,70)] | 5=>[(4,72)] | 6=>[(5,73)] | 7=>[(1,69),(3,71),(6,74)] | 9=>[(8,11),(7,75)] | _=>[]),(fun j=>match j with | 1=>[13] | 3=>[13] | 5=>[13] | 9=>[8] | _=>[]),(fun j=>match j with | 9=>[8] | _=>[]),(fun j=>match j with | 7=>[6] | 9=>[8,7] | _=>[]),fun _=>[],fun j k a b=>match j,k with | 9,8=>a.2=b.2 | 9,7=>a.1=b.1 | _,_=>a=b⟩) [(8,11)] [11,12,9,6,10,13] fD (by repeat (first | exact af.nil | refine af.cons _ _ _ rfl ?_)) (fun _ _=>.nil) ?_ (by kernel_rfl) (by kernel_rfl) (by kernel_rfl) ?_ ?_
      · show aq (Ms 10 default++(Ms 11 default++(Ms 12 default++(Ms 13 default++[])))) _;exact aq.refl _
      · refine ⟨?_,?_,?_,?_,?_,?_,?_,?_,?_,?_,trivial⟩
        · (intro xx EF MF Q kk;(try refine JL.aU rfl rfl ?_);exact JL.q (OQ.bG rfl rfl rfl (by decide) rfl) rfl (JL.nil (kk default nofun)))
        · (intro xx EF MF Q kk;(try refine JL.aU rfl rfl ?_);exact JL.q (OQ.load bJ rfl .here (Row.cell (v:=Z m.fr) rfl)) rfl (JL.nil (kk default nofun)))
        · (intro xx EF MF Q kk;(try refine JL.aU rfl rfl ?_);exact JL.q (OQ.bG rfl rfl rfl (by decide) rfl) rfl (JL.nil (kk default nofun)))
        · (intro xx EF MF Q kk;(try refine JL.aU rfl rfl ?_);exact JL.q (OQ.load b7 rfl .here (Row.cell (v:=m.to.v) rfl)) rfl (JL.nil (kk default nofun)))
        · (intro xx EF MF Q kk;(try refine JL.aU rfl rfl ?_);exact JL.q (OQ.bG rfl rfl rfl (by decide) rfl) rfl (JL.nil (kk default nofun)))
        · (intro xx EF MF Q kk;(try refine JL.aU rfl rfl ?_);exact JL.q (OQ.load qs rfl .here (Row.cell (v:=m.b.v) rfl)) rfl (JL.nil (kk default nofun)))
        · (intro xx EF MF Q kk;exact JL.cE (ι:=Nat × Nat) (vs:=[m.b.v]) (fun q=>.slice (some ⟨q.1,0,none⟩) Ld.length q.2) (fun q=>[⟨q.1,Sl.aG 5 1 Ld.length q.2 (Ld.map U8),true⟩]) jY rfl rfl (fun q e he=>by rw [List.mem_singleton.1 he]) (fun w2 hw2=>cL w2 (hb.holds hw2 rfl)) fun q=>JL.nil (kk (q,0) nofun))
        · (intro xx EF MF Q kk;exact JL.q (OQ.eZ (cs:=[Z m.fr,m.to.v,.slice (some ⟨(xx 6).1.1,0,none⟩) Ld.length (xx 6).1.2]) (vs:=[Z m.fr,m.to.v,.slice (some ⟨(xx 6).1.1,0,none⟩) Ld.length (xx 6).1.2]) [0,1,2] [.tmp 69,.tmp 71,.tmp 74] rfl rfl (hbu (xx 6).1)) rfl (JL.nil (kk (xx 6) (fun k h=>by have h:=List.mem_singleton.1 h;subst h;rfl))))
        · (intro xx EF MF Q kk;exact JL.alloc (r:=[Z [],.slice none 0 0,.slice none 0 0]) BO rfl fun b1 _=>JL.nil (kk ((0,0),b1) nofun))
        · (intro xx EF MF Q kk;exact JL.gP (cs:=[Z m.fr,m.to.v,.slice (some ⟨(xx 7).1.1,0,none⟩) Ld.length (xx 7).1.2]) ow rfl rfl rfl rfl .here rfl (JL.nil (kk ((xx 7).1,(xx 8).2) (fun k h=>by have h : k ∈ [8,7]:=h;simp only [List.mem_cons,List.mem_nil_iff,or_false] at h;rcases h with rfl | rfl <;> rfl))))
      · intro xx hx
        have e98 : (xx 9).2=(xx 8).2:=hx 9 8 (by decide) (List.mem_cons_self)
        have e97 : (xx 9).1=(xx 7).1:=hx 9 7 (by decide) (List.mem_cons_of_mem _ List.mem_cons_self)
        have e76 : xx 7=xx 6:=hx 7 6 (by decide) List.mem_cons_self
        show JE _ _ _ _ _ [(11,Pt (xx 8).2 0),(1,Pt b 0),(9,Pt bp 0),(10,ak qy 1)] (⟨bp,Row 75 z'.cs,true⟩::(z'.R++(⟨(xx 9).2,Row 38 [Z m.fr,m.to.v,.slice (some ⟨(xx 9).1.1,0,none⟩) Ld.length (xx 9).1.2],true⟩::(⟨(xx 6).1.1,Sl.aG 5 1 Ld.length (xx 6).1.2 (Ld.map U8),true⟩::((c9 38 3 qy (ys.map Mz.cs)++ys.flatMap Mz.E)++[⟨b,Row 38 m.cs,true⟩])))))
        rw [e98,e97,e76]
        obtain ⟨⟨bL,cL9⟩,_⟩:=xx 6
        generalize (xx 8).2=bw
        clear hx e98 e97 e76 xx vs Ms
        dsimp only
        have ccl : ∀ (u w' : World) (X : List aN),aa u [] (⟨bp,Row 75 z'.cs,true⟩::X) w'→Calls Tryz.prog 13 [Pt bp 0].toArray w' fun e w2=>e=.returned (.bool true)∧Ext w' w2:=fun u w' X hw'=>by
          have h9:=lF bp z' w' ((iU hw').weak (.keep _ _ _ _ _ _ (fun _ h=>h) (.nil _)))
          rw [hst] at h9
          exact h9
        repeat (first | refine JL.q (by first|(apply OQ.an (vs:=[Pt bp 0]);exact fq;rfl;exact (fun w' hw'=>ccl _ w' _ hw'))|(apply OQ.ir (q:=qy) (k:=1);exact Tryz.underlying31;exact (fun h=>by rw [hy0 h] at hyl;cases hyl);rfl)|(apply OQ.dB (a:=1) (b:=1);rfl;rfl;rfl)|(apply OQ.ay;rfl;rfl)|(apply OQ.er (cs:=[Z m.fr,m.to.v,.slice (some ⟨bL,0,none⟩) Ld.length cL9]);exact qY;exact ow;rfl;exact (.there (zR .here));rfl;exact Row.all)|(apply OQ.move;rfl)) rfl ?_ | refine JC.seq ?_ | refine JC.region ?_ | refine JE.next ?_ | refine JL.aU rfl rfl ?_)
        (try refine JL.aU rfl rfl ?_)
        refine JL.zO (cs:=[Z m.fr,m.to.v,.slice (some ⟨bL,0,none⟩) Ld.length cL9]) Tryz.underlying31 zU rfl (by decide) (by decide) rfl rfl rfl fun b5 _=>?_
        have hsame : ∀ w',aa w [] (⟨b5,Row 38 [Z m.fr,m.to.v,.slice (some ⟨bL,0,none⟩) Ld.length cL9],true⟩::(⟨bp,Row 75 z'.cs,true⟩::(z'.R++(⟨bw,Row 38 [Z m.fr,m.to.v,.slice (some ⟨bL,0,none⟩) Ld.length cL9],true⟩::(⟨bL,Sl.aG 5 1 Ld.length cL9 (Ld.map U8),true⟩::((c9 38 3 qy (ys.map Mz.cs)++ys.flatMap Mz.E)++[⟨b,Row 38 m.cs,true⟩])))))) w'→Calls Tryz.prog 11 [ak qy 1,.slice (some ⟨b5,0,none⟩) 1 1].toArray w' fun e w2=>e=.returned (.bool true)∧Ext w' w2:=fun w' hw'=>by
          have h9:=qo (BB qy ys) ⟨some ⟨b5,0,none⟩,1,[⟨m.fr,m.to,⟨some ⟨bL,0,none⟩,cL9,Ld⟩⟩]⟩ w' (Au hy0 hw' fun x hx=>List.mem_cons_of_mem _ (List.mem_cons_of_mem _ (List.mem_append_right _ (List.mem_cons_of_mem _ (List.mem_cons_of_mem _ (List.mem_append_left _ hx)))))) ⟨?_,?_,?_⟩ (by rw [Bu,hym,hms];rfl) (by show (ys.map _).length≤_;rw [List.length_map,hyl];decide) (fun y hy=>?_)
          · rw [Bs hy0,hyl] at h9
            exact h9
          · obtain ⟨o,ho,hA⟩:=hw'.get .here
            exact Reads.block ho (Row.all o hA)
          · intro y hy
            rw [List.mem_singleton.1 hy]
            exact hto.ext hw'.aS
          · intro y hy
            rw [List.mem_singleton.1 hy]
            exact b8 hw' (.there (.there (zR (.there .here))))
          · obtain ⟨y1,hy1,rfl⟩:=List.mem_map.1 hy
            show (qz y1.qt y1.m.to).l.length≤_
            rw [xT y1.ht]
            have h8:=List.mem_map_of_mem (f:=Mz.m) hy1
            rw [hym,hms,List.mem_singleton] at h8
            rw [h8]
            show m.to.l.length≤_
            omega
        repeat (first | refine JL.q (by first|(apply OQ.an (vs:=[ak qy 1,.slice (some ⟨b5,0,none⟩) 1 1]);exact nY;rfl;exact (fun w' hw'=>hsame w' hw'))|(apply OQ.ay;rfl;rfl)|(apply OQ.assign;rfl)) rfl ?_ | refine JL.nil ?_ | refine JE.next ?_ | refine JL.aU rfl rfl ?_)
        refine JC.ret ?_
        skip
        exact JE.aC rfl (RV.tmp rfl) fun w' hw=>⟨rfl,hw.aS⟩
end dF
end
section
set_option maxRecDepth 10000
open Go.ChangeShapes Go.WideShapes Go.ChangeAt Go.RowKit
open Sl
set_option linter.unusedVariables false
theorem BU : ownKnob Tryz.prog.godebug=none:=by kernel_rfl
theorem xV : laidOutB Tryz.prog=true:=by kernel_rfl
theorem Bw {z : Int} (h : (Lit.int .u8 z).wf=true) : U8 (BitVec.ofInt 8 z)=.int .u8 z:=by
  have h0 : 0≤z∧z≤255:=by
    have h1 : (decide (0≤z) && decide (z≤255))=true:=h
    simpa using h1
  have h2 : ((BitVec.ofInt 8 z).toNat : Int)=z:=by
    rw [BitVec.toNat_ofInt]
    omega
  unfold U8
  rw [h2]
def xW (P : Program) (t : TypeId) (i : Nat) (ty : TypeId) (off : Nat) : Bool:=match (P.fieldsOf t)[i]? with
  | some f=>f.type == ty && f.offset == off
  | none=>false
theorem vj {P : Program} {t : TypeId} {i : Nat} {ty : TypeId} {off : Nat} (h : xW P t i ty off=true) : ∃ f,(P.fieldsOf t)[i]?=some f∧f.type=ty∧f.offset=off:=by
  unfold xW at h
  split at h
  · next f e=>
    simp only [Bool.and_eq_true,beq_iff_eq] at h
    exact ⟨f,e,h.1,h.2⟩
  · cases h
def tc (zs : List Int) : List (BitVec 8):=zs.map (BitVec.ofInt 8)
theorem Av {H : Type} {enc : TypeId × Value→H} {W : World} {fuel : Nat} {v : Value} {x : DataW H × List MemPlace} (h : DataW.trod enc Tryz.prog W 0 (fun _=>true) true fuel 22 [v]=some x) : ∃ k : aB,v=k.v∧k.ok W∧k.cap≤maxLen:=by
  rcases open_ints (show Tryz.prog.underlying 22=some (.slice 5) by kernel_rfl) (show Tryz.prog.underlying 5=some (.int .u8) by kernel_rfl) (by kernel_rfl) h with ⟨hcs,_⟩ | ⟨x,l,c,zs,hcs,_,hl,hm,hz,_,hcell,hwz⟩
  · cases hcs
    exact ⟨⟨none,0,[]⟩,rfl,⟨by simp,Reads.nil _ _⟩,by decide⟩
  · cases hcs
    simp only [if_true] at hz
    have hlen : (tc (zs.take l)).length=l:=by simp [tc];omega
    refine ⟨⟨some x,c,tc (zs.take l)⟩,by simp [aB.v,hlen],⟨by rw [hlen];exact hl,?_⟩,hm⟩
    intro i v hv
    have hi : i<l:=by
      have:=(List.getElem?_eq_some_iff.1 hv).1
      simpa [hlen] using this
    have hc:=hcell i (by omega)
    obtain ⟨b,o,sp⟩:=x
    cases sp with
    | some s=>
      have hc:=hcell 0 (by omega)
      simp only [World.cell?,Addr.add,if_true] at hc
      split at hc <;> simp at hc
    | none=>
      refine ⟨b,o,rfl,?_⟩
      have e1 : zs.getD i 0=zs[i]'(by omega):=by simp [List.getD,show i<zs.length by omega]
      have e2:=Bw (hwz (zs[i]'(by omega)) (List.getElem_mem _))
      have e3 : v=.int .u8 (zs.getD i 0):=by
        simp only [tc,List.map_map,List.getElem?_map,List.getElem?_take] at hv
        rw [if_pos hi,List.getElem?_eq_getElem (by omega)] at hv
        simp only [Option.map_some,Function.comp,Option.some.injEq] at hv
        rw [← hv,e2,e1]
      rw [e3]
      have e4 : (⟨b,o,none⟩ : Addr).add i=⟨b,o+i,none⟩:=by
        unfold Addr.add
        split
        · subst i;rfl
        · rfl
      rw [e4] at hc
      exact hc
end
section
set_option maxRecDepth 10000
open Go.ChangeShapes Go.WideShapes Go.ChangeAt Go.RowKit
open Sl
set_option linter.unusedVariables false
set_option maxRecDepth 100000
theorem rT : ((Rows.talkOrderRow.laid).all fun x=>x.2.handleName?.isNone)=true:=by kernel_rfl
theorem yZ (os : Os) (args : Array Value) : laidMetH Tryz.prog Rows.talkOrderRow.laid ((World.laidAll Tryz.prog os Rows.talkOrderRow.laid).forCall (fun _ _=>0) ⟨#[],args,[]⟩).memory:=by
  rw [MakeChecks.laidMetH_plain _ _ _ rT]
  exact laidMet_laidAll _ (by kernel_rfl) (by kernel_rfl)
theorem vk (os : Os) : (World.laidAll Tryz.prog os Rows.talkOrderRow.laid).Shaped Tryz.prog:=World.shaped_of_ZipB (by kernel_rfl) (by kernel_rfl)
theorem iL {H : Type} {enc : TypeId × Value→H} {a : Assume} {C : Checked} {os : Os} {f : FuncId} {fn : Func} {s : ChangeSpec} {conds : List PathCond} {apart fresh handsOn again : Bool} {X : World→Array Value→Prop}
    (hX : ∀ (w w' : World) (args : Array Value),w.heap=w'.heap→X w args→X w' args)
    (own : ownKnob C.prog.godebug=none) (started : os.Started) (noInit : C.prog.inits.idxOf? f=none) (hfn : C.prog.funcs[f]?=some fn)
    (witness : ∃ (w : World) (tape : Tape) (i : Input),w.os=os∧(w.forCall tape i).Shaped C.prog∧i.vars=[]∧Input.okWide C.prog (w.forCall tape i) .any w.heap.size f i∧
      ((s.pre enc C.prog fn conds apart (w.forCall tape i).memory i.args∧X (w.forCall tape i).memory i.args)∧sizedMet enc C.prog fn (OpenSpec.ofChange s) apart (w.forCall tape i).memory i.args)∧a.holds C.prog (lone (Frame.enter C.prog f i.args .normal) [] (w.forCall tape i)))
    (contract : ∀ (W : World) (base : Nat) (args : Array Value) (ds gs : List (DataW H)) (before : List MemPlace),
      (∀ (j : Nat) t v,fn.params[j]?=some t→args[j]?=some v→Value.okWide C.prog W .any base t v)→
      DataW.Whole enc C.prog fn.params.toList s.vars apart W args.toList ds gs before→
      conds.all (PathCond.test C.prog ⟨fn.params.toList,ds,s.plain.varTypes C.prog,gs⟩)=true→
      (DataW.weightsEach C.prog (fn.params.toList++s.plain.varTypes C.prog) (ds++gs)).all (·≤reachBytes)=true→X W args→W.ShapedOpen C.prog→
      Calls C.prog f args W fun e W'=>∃ v,e=.returned v∧s.post enc C.prog fn apart fresh handsOn again W args v W') :
    ReturnsInHanded a C os f .any (fun w args=>(s.pre enc C.prog fn conds apart w args∧X w args)∧sizedMet enc C.prog fn (OpenSpec.ofChange s) apart w args) (s.post enc C.prog fn apart fresh handsOn again):=
  returnsInHanded_of_calls own started noInit witness fun w tape i _ hsh _ hok hpre _=>by
    obtain ⟨_,_,_,fn',hfn',_,_,_,_,hval⟩:=hok
    obtain rfl : fn'=fn:=Option.some.inj (hfn'.symm.trans hfn)
    obtain ⟨⟨⟨ds,gs,before,hw,hc⟩,hx⟩,hz⟩:=hpre
    have hw':=DataW.Whole.of_heap (w':=w.forCall tape i) (by rfl) hw
    refine (contract (w.forCall tape i) w.heap.size i.args ds gs before hval hw' hc (hz.weights hw) (hX _ _ _ (by rfl) hx) hsh).mono fun e W' ⟨v,he,hp⟩=>?_
    subst he
    exact ChangeSpec.post_blind hp
end
section
set_option maxRecDepth 10000
open Go.ChangeShapes Go.WideShapes Go.ChangeAt Go.RowKit
open Sl
set_option linter.unusedVariables false
theorem BV (s : ByteArray) : ∃ l : List Bt,Value.string s=Z l∧l.length=s.size:=⟨bytesOf s,by show _=Value.string _;rw [iT],bytesOf_length s⟩
theorem Aw {H : Type} {enc : TypeId × Value→H} {W : World} {fuel : Nat} {v : Value} {x : DataW H × List MemPlace} (hu : Tryz.prog.underlying 30=some (.slice 9)) (hs : Tryz.prog.underlying 9=some .string) (cs : Tryz.prog.cellsOf 9=1)
    (h : DataW.trod enc Tryz.prog W 0 (fun _=>true) true fuel 30 [v]=some x) : ∃ ad cap,∃ l : List (List Bt),v=.slice ad l.length cap∧l.length≤cap∧Reads W ad (l.map Z):=by
  rcases Go.ChangeShapes.open_strings hu hs cs h with ⟨hcs,_⟩ | ⟨a,len,cap,ss,hcs,_,hl,hm,hlen,_,hcell,hsz⟩
  · cases hcs
    exact ⟨none,0,[],rfl,Nat.le_refl _,Reads.nil _ _⟩
  · cases hcs
    simp only [if_true] at hlen
    have hll : ((ss.take len).map bytesOf).length=len:=by rw [List.length_map,List.length_take];omega
    refine ⟨some a,cap,(ss.take len).map bytesOf,by rw [hll],by rw [hll];exact hl,?_⟩
    intro i v hv
    have hi : i<len:=by
      have:=(List.getElem?_eq_some_iff.1 hv).1
      rwa [List.length_map,hll] at this
    have hc:=hcell i (by omega)
    obtain ⟨b,o,sp⟩:=a
    cases sp with
    | some s=>
      have hc:=hcell 0 (by omega)
      simp only [World.cell?,Addr.add,if_true] at hc
      split at hc <;> simp at hc
    | none=>
      refine ⟨b,o,rfl,?_⟩
      have e3 : v=.string (ss.getD i ByteArray.empty):=by
        rw [List.map_map,List.getElem?_map,List.getElem?_take,if_pos hi,List.getElem?_eq_getElem (by omega)] at hv
        simp only [Option.map_some,Function.comp,Option.some.injEq] at hv
        rw [← hv,List.getD_eq_getElem?_getD,List.getElem?_eq_getElem (by omega)]
        show Value.string (bz (bytesOf _))=_
        rw [iT]
        rfl
      rw [e3]
      have e4 : (⟨b,o,none⟩ : Addr).add i=⟨b,o+i,none⟩:=by
        unfold Addr.add
        split
        · subst i;rfl
        · rfl
      rw [e4] at hc
      exact hc
end
section
set_option maxRecDepth 10000
open Go.ChangeShapes Go.WideShapes Go.ChangeAt Go.RowKit
open Sl
set_option linter.unusedVariables false
theorem vl {H : Type} {enc : TypeId × Value→H} {W : World} {base fuel : Nat} {v : Value} {x : DataW H × List MemPlace} (hok : Value.okWide Tryz.prog W .any base 38 v) (h : DataW.trod enc Tryz.prog W 0 (fun _=>true) true fuel 38 v.cells.toList=some x) :
    ∃ m : dF.Mr,v=.agg m.cs.toArray∧m.to.ok W∧m.b.ok W:=by
  have ht : Tryz.prog.underlying 38=some (.struct (Tryz.prog.fieldsOf 38)):=by kernel_rfl
  have ct : Tryz.prog.cellsOf 38=3:=by kernel_rfl
  have c0 : Tryz.prog.cellsOf 9=1:=by kernel_rfl
  have c1 : Tryz.prog.cellsOf 30=1:=by kernel_rfl
  have c2 : Tryz.prog.cellsOf 22=1:=by kernel_rfl
  have hs : Tryz.prog.underlying 9=some .string:=by kernel_rfl
  obtain ⟨xs,n,_,_,hl,hlen,hf⟩:=DataW.trod_struct ht h
  have hsz : (Tryz.prog.fieldsOf 38).size=3:=by kernel_rfl
  rw [hsz] at hlen
  have g : ∀ {i ty off},xW Tryz.prog 38 i ty off=true→i<3→∃ y,DataW.trod enc Tryz.prog W 0 (fun _=>true) true n ty ((v.cells.toList.drop off).take (Tryz.prog.cellsOf ty))=some y:=fun {i ty off} h1 h2=>by
    obtain ⟨f,e1,rfl,rfl⟩:=vj h1
    exact ⟨xs[i],by rw [hf i f e1,List.getElem?_eq_getElem (by omega)]⟩
  simp only [Value.okWide,ht] at hok
  obtain ⟨c,rfl,hcz,_⟩:=hok
  rw [ct] at hcz
  obtain ⟨y0,g0⟩:=g (i:=0) (ty:=9) (off:=0) (by kernel_rfl) (by decide)
  obtain ⟨y1,g1⟩:=g (i:=1) (ty:=30) (off:=1) (by kernel_rfl) (by decide)
  obtain ⟨y2,g2⟩:=g (i:=2) (ty:=22) (off:=2) (by kernel_rfl) (by decide)
  rw [c0] at g0
  rw [c1] at g1
  rw [c2] at g2
  obtain ⟨l⟩:=c
  rw [show (Value.agg ⟨l⟩).cells.toList=l from rfl] at g0 g1 g2
  match l,hcz with
  | [a0,a1,a2],_=>
    obtain ⟨s0,q0,_,_⟩:=DataW.trod_string hs g0
    obtain ⟨ad,cp,l1,e1,h1,h2⟩:=Aw (v:=a1) (by kernel_rfl) (by kernel_rfl) (by kernel_rfl) g1
    obtain ⟨k2,r2,B0,_⟩:=Av (v:=a2) g2
    obtain ⟨l0,z0,_⟩:=BV s0
    simp at q0
    refine ⟨⟨l0,⟨ad,cp,l1⟩,k2⟩,?_,⟨h1,h2⟩,B0⟩
    rw [q0,e1,r2,z0]
    rfl
end
end Go.Proofs.YtjeeilmkjjbonaaGreatDoor
