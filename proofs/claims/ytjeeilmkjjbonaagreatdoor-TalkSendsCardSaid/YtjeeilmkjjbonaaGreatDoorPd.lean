/-
  Of no statement by itself: the texts LinX, LinZ, LinU, Slal, LinD, TalU, TalV, TalE, LsB, TalF, TalG, TalH, Same, Slzq, TalI, TalJ, TalM, TalN in one.
  Conditions: each theorem's own.
-/
import Derived.Test.YtjeeilmkjjbonaaGreatDoorPc
import Derived.Shelf.Bytes.SlIndexAt
import Derived.Lib.BytesEntry
set_option linter.unusedSimpArgs false
set_option linter.unusedVariables false
namespace Go.Proofs.YtjeeilmkjjbonaaGreatDoor
section
set_option maxRecDepth 10000
open Sl br
theorem gK : aO Tryz.prog 68:=⟨_,Tryz.func68,rfl,by kernel_rfl⟩
theorem sle : EI Tryz.prog 22 (.slice none 0 0) 1 24:=by unfold EI;kernel_rfl
def hU (l : List br.By) (i : Nat) : List (List br.By) × List br.By:=(l.take i).foldl sp ([],[])
theorem Bh (l : List br.By) {i : Nat} (h : i<l.length) : l.take (i+1)=l.take i++[l.getD i 0]:=by
  rw [List.take_add_one,List.getD_eq_getElem?_getD,List.getElem?_eq_getElem h]
  rfl
theorem nR (l : List br.By) {i : Nat} (h : i<l.length) : hU l (i+1)=sp (hU l i) (l.getD i 0):=by
  unfold hU
  rw [Bh l h,List.foldl_append]
  rfl
theorem lN (l : List br.By) {i : Nat} (h : i<l.length) (hn : (hU l i).2.getLast?=some 13→l.getD i 0≠10) : hU l (i+1)=((hU l i).1,(hU l i).2++[l.getD i 0]):=by
  rw [nR l h]
  unfold sp
  rw [if_neg (fun e=>hn e.2 e.1)]
theorem w6 (l : List br.By) {i : Nat} (h : i+1<l.length) (h1 : l.getD i 0=13) (h2 : l.getD (i+1) 0=10) : hU l (i+2)=((hU l i).1++[(hU l i).2],[]):=by
  rw [nR l h,nR l (by omega),h1,h2]
  have e : sp (hU l i) 13=((hU l i).1,(hU l i).2++[13]):=by
    unfold sp
    rw [if_neg (fun e=>absurd e.1 (by decide))]
  rw [e]
  unfold sp
  rw [if_pos ⟨rfl,by simp⟩]
  simp
theorem w7 : ∀ (l : List br.By) (s : List (List br.By) × List br.By),(l.foldl sp s).1.length+(l.foldl sp s).2.length≤s.1.length+s.2.length+l.length
  | [],_=>Nat.le_refl _
  | c::l,s=>by
    have:=w7 l (sp s c)
    have h : (sp s c).1.length+(sp s c).2.length≤s.1.length+s.2.length+1:=by
      unfold sp
      split <;> simp <;> omega
    rw [List.foldl_cons,List.length_cons]
    omega
theorem Af (l : List br.By) (i : Nat) : (hU l i).1.length+(hU l i).2.length≤i:=by
  have:=w7 (l.take i) ([],[])
  rw [List.length_take] at this
  simp only [List.length_nil] at this
  unfold hU
  omega
set_option maxHeartbeats 32000000 in
theorem iK (s : aB) (w : World) (hs : s.ok w) (hl : s.l.length≤4000000) : Calls Tryz.prog 68 [s.v].toArray w
    fun e w'=>∃ q : ov × aB,e=.returned (.tuple #[q.1.v,q.2.v])∧q.1.ls=(bB s.l).1∧q.2.l=(bB s.l).2∧Ext w w'∧q.1.ok w'∧q.2.ok w':=by
  refine enter (n:=51) Tryz.func68 rfl rfl rfl (aa.start w []) ?_
  repeat (first | refine JL.q (by (apply OQ.assign;rfl)) rfl ?_ | refine JC.seq ?_ | refine JC.region ?_ | refine JL.nil ?_ | refine JE.next ?_)
  refine JL.lU Tryz.underlying127 sle rfl fun b0 _=>?_
  repeat (first | refine JL.q (by (apply OQ.assign;rfl)) rfl ?_ | refine JC.seq ?_ | refine JC.region ?_ | refine JL.nil ?_ | refine JE.next ?_)
  refine JL.lU Tryz.underlying22 bQ rfl fun b0' _=>?_
  repeat (first | refine JL.q (by (apply OQ.assign;rfl)) rfl ?_ | refine JC.seq ?_ | refine JC.region ?_ | refine JC.block ?_ | refine JL.nil ?_ | refine JE.next ?_)
  refine JC.loop (fun q : Nat × List aB × Nat × Nat × Nat × Nat=>[(0,s.v),(4,.slice (some ⟨q.2.2.1,0,none⟩) q.2.1.length q.2.2.2.1),(5,.slice (some ⟨q.2.2.2.2.1,0,none⟩) (hU s.l q.1).2.length q.2.2.2.2.2),(6,N q.1)])
    (fun q=>[⟨q.2.2.2.2.1,Sl.aG 5 1 (hU s.l q.1).2.length q.2.2.2.2.2 ((hU s.l q.1).2.map U8),true⟩,⟨q.2.2.1,Sl.aG 22 1 q.2.1.length q.2.2.2.1 (q.2.1.map aB.v),true⟩]++fH q.2.1)
    (fun q=>s.l.length - q.1) (fun q=>q.1≤s.l.length∧q.2.1.map aB.l=(hU s.l q.1).1∧(∀ y ∈ q.2.1,y.ad=none→y.l=[])∧((hU s.l q.1).2.getLast?=some 13→s.l.getD q.1 0≠10)) (0,[],b0,0,b0',0)
    ⟨Nat.zero_le _,rfl,by intro y hy;simp at hy,by intro e;simp [hU] at e⟩ (by repeat (first | exact af.nil | refine af.cons _ _ _ rfl ?_)) (.keep _ _ _ _ _ _ (dw rfl) (.keep _ _ _ _ _ _ (dw rfl) (.nil _))) ?_
  rintro ⟨i,rs,b1,cap1,b2,cap2⟩ ⟨hi,hrs,h0,hl13⟩
  simp only at hi hrs h0 hl13
  have hle:=Af s.l i
  have hrl : rs.length=(hU s.l i).1.length:=by rw [← hrs,List.length_map]
  repeat (first | refine JL.q (by first|(apply OQ.move;rfl)|(apply OQ.len;rfl;rfl)|(apply OQ.dz;rfl;rfl)) rfl ?_ | refine JC.seq ?_ | refine JC.region ?_ | refine JL.nil ?_ | refine JE.next ?_)
  refine JC.cond rfl (fun h=>?_) (fun h=>?_)
  · have hi' : i<s.l.length:=of_decide_eq_true h
    clear h hi
    obtain ⟨ba,ja,hae,hca⟩:=hs.reads.at (by simp;omega)
    have hc:=hca i _ (cw U8 0 hi')
    have hav : s.v=.slice (some ⟨ba,ja,none⟩) s.l.length s.cap:=by rw [← hae];rfl
    generalize eS : hU s.l i=T at hle hrl hrs hl13 ⊢
    obtain ⟨ls,cur⟩:=T
    simp only at hle hrl hrs hl13
    dsimp only
    rw [hav]
    by_cases c13 : s.l.getD i 0=13
    · by_cases hin : i+1<s.l.length
      · have hn:=hca (i+1) _ (cw U8 0 hin)
        by_cases n10 : s.l.getD (i+1) 0=10
        · have hc:=c13 ▸ hc
          have hn:=n10 ▸ hn
          have eT:=w6 s.l hin c13 n10
          rw [eS] at eT
          repeat (first | refine JL.q (by first|(apply OQ.aJ;exact Tryz.underlying22;exact bH;rfl;rfl;exact hi')|(apply OQ.ai;exact eD;rfl;exact (block_lt_of_cell hc);exact (by simp);exact hc)|(apply OQ.dH;rfl;rfl;rfl)|(apply OQ.nu;rfl;rfl;exact hin)|(apply OQ.aJ;exact Tryz.underlying22;exact bH;rfl;rfl;exact hin)|(apply OQ.ai;exact eD;rfl;exact (block_lt_of_cell hn);exact (by simp);exact hn)|(apply OQ.ay;rfl;rfl)|(apply OQ.move;rfl)|(apply OQ.len;rfl;rfl)|(apply OQ.aT;rfl;rfl;exact (by (try simp only []);omega))) rfl ?_ | refine JC.seq ?_ | refine JC.region ?_ | refine JC.block ?_ | refine JC.skip ?_ | refine JL.nil ?_ | refine JE.next ?_ | refine JL.aU rfl rfl ?_)
          refine JC.cond_true rfl rfl ?_
          repeat (first | refine JL.q (by (apply OQ.move;rfl)) rfl ?_ | refine JC.seq ?_ | refine JC.region ?_)
          refine JL.dQ (v:=.slice (some ⟨b2,0,none⟩) cur.length cap2) (xs:=rs.map aB.v) (fun b' cap'=>[⟨b2,Sl.aG 5 1 cur.length cap2 (cur.map U8),true⟩,⟨b',Sl.aG 22 1 (rs.length+1) cap' (rs.map aB.v++[.slice (some ⟨b2,0,none⟩) cur.length cap2]),true⟩]++fH rs) Tryz.underlying127 sle rfl rfl rfl rfl (fun _=>rfl) (by intro _ _;repeat (first | exact az.here | apply az.there)) (by omega) (by omega) rfl rfl fun bl b' cap'=>?_
          repeat (first | refine JL.q (by (apply OQ.assign;rfl)) rfl ?_ | refine JC.seq ?_ | refine JC.region ?_ | refine JL.nil ?_ | refine JE.next ?_)
          refine JL.lU Tryz.underlying22 bQ rfl fun b3 _=>?_
          rw [← hav]
          repeat (first | refine JL.q (by first|(apply OQ.move;rfl)|(apply OQ.assign;rfl)|(apply OQ.aT;rfl;rfl;exact (by (try simp only []);omega))) rfl ?_ | refine JC.region ?_ | refine JL.nil ?_ | refine JE.next ?_ | refine JE.ag ?_)
          refine JE.perm (M':=⟨b3,Row 5 [],true⟩::⟨b',Sl.aG 22 1 (rs.length+1) cap' (rs.map aB.v++[.slice (some ⟨b2,0,none⟩) cur.length cap2]),true⟩::(fH rs++[⟨b2,Sl.aG 5 1 cur.length cap2 (cur.map U8),true⟩])) (AR _ _ _ _) ?_
          refine JE.again (i:=(i,rs,b1,cap1,b2,cap2)) (i+2,rs++[⟨some ⟨b2,0,none⟩,cap2,cur⟩],b',cap',b3,0) ⟨by show i+2≤_;omega,?_,?_,?_⟩ (by show s.l.length - (i+2)<s.l.length - i;omega) ?_ ?_
          · show (rs++[_]).map aB.l=(hU s.l (i+2)).1
            rw [eT,List.map_append,hrs]
            rfl
          · intro y hy
            rcases List.mem_append.1 hy with hy | hy
            · exact h0 y hy
            · rw [List.mem_singleton.1 hy];exact fun e=>by cases e
          · show (hU s.l (i+2)).2.getLast?=some 13→_
            rw [eT]
            intro e;cases e
          · dsimp only
            rw [eT,List.length_append]
            exact (by repeat (first | exact af.nil | refine af.cons _ _ _ rfl ?_))
          · dsimp only
            rw [eT,List.length_append,List.map_append]
            refine .keep _ _ _ _ _ _ (dw rfl) (.keep _ _ _ _ _ _ (fun o h=>h) ?_)
            exact tL rs
        · have hc:=c13 ▸ hc
          have eT:=lN s.l hi' (by rw [eS];exact hl13)
          rw [eS] at eT
          repeat (first | refine JL.q (by first|(apply OQ.aJ;exact Tryz.underlying22;exact bH;rfl;rfl;exact hi')|(apply OQ.ai;exact eD;rfl;exact (block_lt_of_cell hc);exact (by simp);exact hc)|(apply OQ.dH;rfl;rfl;rfl)|(apply OQ.nu;rfl;rfl;exact hin)|(apply OQ.aJ;exact Tryz.underlying22;exact bH;rfl;rfl;exact hin)|(apply OQ.ai;exact eD;rfl;exact (block_lt_of_cell hn);exact (by simp);exact hn)|(apply OQ.cV;rfl;rfl;exact (eC n10))|(apply OQ.ay;rfl;rfl)|(apply OQ.move;rfl)|(apply OQ.len;rfl;rfl)|(apply OQ.aT;rfl;rfl;exact (by (try simp only []);omega))) rfl ?_ | refine JC.seq ?_ | refine JC.region ?_ | refine JC.block ?_ | refine JC.skip ?_ | refine JL.nil ?_ | refine JE.next ?_ | refine JL.aU rfl rfl ?_)
          refine JC.cond_false rfl rfl ?_
          repeat (first | refine JL.q (by first|(apply OQ.aJ;exact Tryz.underlying22;exact bH;rfl;rfl;exact hi')|(apply OQ.ai;exact eD;rfl;exact (block_lt_of_cell hc);exact (by simp);exact hc)|(apply OQ.move;rfl)) rfl ?_ | refine JC.region ?_)
          rw [c13] at eT
          refine JL.dQ (v:=U8 (13)) (xs:=cur.map U8) (fun b' cap'=>[⟨b',Sl.aG 5 1 (cur.length+1) cap' (cur.map U8++[U8 (13)]),true⟩,⟨b1,Sl.aG 22 1 rs.length cap1 (rs.map aB.v),true⟩]++fH rs) Tryz.underlying22 bQ rfl rfl rfl rfl (fun _=>rfl) (by intro _ _;repeat (first | exact az.here | apply az.there)) (by omega) (by omega) rfl rfl fun bl b' cap'=>?_
          rw [← hav]
          repeat (first | refine JL.q (by first|(apply OQ.move;rfl)|(apply OQ.assign;rfl)|(apply OQ.aT;rfl;rfl;exact (by (try simp only []);omega))) rfl ?_ | refine JC.region ?_ | refine JL.nil ?_ | refine JE.next ?_ | refine JE.ag ?_)
          refine JE.again (i:=(i,rs,b1,cap1,b2,cap2)) (i+1,rs,b1,cap1,b',cap') ⟨by show i+1≤_;omega,?_,h0,?_⟩ (by show s.l.length - (i+1)<s.l.length - i;omega) ?_ (.keep _ _ _ _ _ _ (fun o h=>?_) (aq.refl _))
          · show rs.map aB.l=(hU s.l (i+1)).1
            rw [eT];exact hrs
          · show (hU s.l (i+1)).2.getLast?=some 13→s.l.getD (i+1) 0≠10
            rw [eT]
            intro e13
            clear e13
            exact n10
          · dsimp only
            rw [eT,List.length_append]
            exact (by repeat (first | exact af.nil | refine af.cons _ _ _ rfl ?_))
          · dsimp only
            rw [eT,List.length_append,List.map_append]
            exact h
      · have hc:=c13 ▸ hc
        have eT:=lN s.l hi' (by rw [eS];exact hl13)
        rw [eS] at eT
        repeat (first | refine JL.q (by first|(apply OQ.aJ;exact Tryz.underlying22;exact bH;rfl;rfl;exact hi')|(apply OQ.ai;exact eD;rfl;exact (block_lt_of_cell hc);exact (by simp);exact hc)|(apply OQ.dH;rfl;rfl;rfl)|(apply OQ.kR;rfl;rfl;exact hin)|(apply OQ.ay;rfl;rfl)|(apply OQ.au;rfl;rfl)|(apply OQ.move;rfl)|(apply OQ.len;rfl;rfl)|(apply OQ.aT;rfl;rfl;exact (by (try simp only []);omega))) rfl ?_ | refine JC.seq ?_ | refine JC.region ?_ | refine JC.block ?_ | refine JC.skip ?_ | refine JL.nil ?_ | refine JE.next ?_ | refine JL.aU rfl rfl ?_ | refine JL.aM rfl rfl rfl rfl ?_)
        refine JC.cond_false rfl rfl ?_
        repeat (first | refine JL.q (by first|(apply OQ.aJ;exact Tryz.underlying22;exact bH;rfl;rfl;exact hi')|(apply OQ.ai;exact eD;rfl;exact (block_lt_of_cell hc);exact (by simp);exact hc)|(apply OQ.move;rfl)) rfl ?_ | refine JC.region ?_)
        rw [c13] at eT
        refine JL.dQ (v:=U8 (13)) (xs:=cur.map U8) (fun b' cap'=>[⟨b',Sl.aG 5 1 (cur.length+1) cap' (cur.map U8++[U8 (13)]),true⟩,⟨b1,Sl.aG 22 1 rs.length cap1 (rs.map aB.v),true⟩]++fH rs) Tryz.underlying22 bQ rfl rfl rfl rfl (fun _=>rfl) (by intro _ _;repeat (first | exact az.here | apply az.there)) (by omega) (by omega) rfl rfl fun bl b' cap'=>?_
        rw [← hav]
        repeat (first | refine JL.q (by first|(apply OQ.move;rfl)|(apply OQ.assign;rfl)|(apply OQ.aT;rfl;rfl;exact (by (try simp only []);omega))) rfl ?_ | refine JC.region ?_ | refine JL.nil ?_ | refine JE.next ?_ | refine JE.ag ?_)
        refine JE.again (i:=(i,rs,b1,cap1,b2,cap2)) (i+1,rs,b1,cap1,b',cap') ⟨by show i+1≤_;omega,?_,h0,?_⟩ (by show s.l.length - (i+1)<s.l.length - i;omega) ?_ (.keep _ _ _ _ _ _ (fun o h=>?_) (aq.refl _))
        · show rs.map aB.l=(hU s.l (i+1)).1
          rw [eT];exact hrs
        · show (hU s.l (i+1)).2.getLast?=some 13→s.l.getD (i+1) 0≠10
          rw [eT]
          intro e13
          clear e13
          rw [List.getD_eq_getElem?_getD,List.getElem?_eq_none (by omega)];decide
        · dsimp only
          rw [eT,List.length_append]
          exact (by repeat (first | exact af.nil | refine af.cons _ _ _ rfl ?_))
        · dsimp only
          rw [eT,List.length_append,List.map_append]
          exact h
    · have eT:=lN s.l hi' (by rw [eS];exact hl13)
      rw [eS] at eT
      generalize hcc : s.l.getD i 0=c at hc c13 eT
      repeat (first | refine JL.q (by first|(apply OQ.aJ;exact Tryz.underlying22;exact bH;rfl;rfl;exact hi')|(apply OQ.ai;exact eD;rfl;exact (block_lt_of_cell hc);exact (by simp);exact hc)|(apply OQ.cV;rfl;rfl;exact (eC c13))|(apply OQ.au;rfl;rfl)|(apply OQ.move;rfl)) rfl ?_ | refine JC.seq ?_ | refine JC.region ?_ | refine JC.block ?_ | refine JC.skip ?_ | refine JL.nil ?_ | refine JE.next ?_ | refine JL.aM rfl rfl rfl rfl ?_)
      refine JC.cond_false rfl rfl ?_
      repeat (first | refine JL.q (by first|(apply OQ.aJ;exact Tryz.underlying22;exact bH;rfl;rfl;exact hi')|(apply OQ.ai;exact eD;rfl;exact (block_lt_of_cell hc);exact (by simp);exact hc)|(apply OQ.move;rfl)) rfl ?_ | refine JC.region ?_)
      refine JL.dQ (v:=U8 (c)) (xs:=cur.map U8) (fun b' cap'=>[⟨b',Sl.aG 5 1 (cur.length+1) cap' (cur.map U8++[U8 (c)]),true⟩,⟨b1,Sl.aG 22 1 rs.length cap1 (rs.map aB.v),true⟩]++fH rs) Tryz.underlying22 bQ rfl rfl rfl rfl (fun _=>rfl) (by intro _ _;repeat (first | exact az.here | apply az.there)) (by omega) (by omega) rfl rfl fun bl b' cap'=>?_
      rw [← hav]
      repeat (first | refine JL.q (by first|(apply OQ.move;rfl)|(apply OQ.assign;rfl)|(apply OQ.aT;rfl;rfl;exact (by (try simp only []);omega))) rfl ?_ | refine JC.region ?_ | refine JL.nil ?_ | refine JE.next ?_ | refine JE.ag ?_)
      refine JE.again (i:=(i,rs,b1,cap1,b2,cap2)) (i+1,rs,b1,cap1,b',cap') ⟨by show i+1≤_;omega,?_,h0,?_⟩ (by show s.l.length - (i+1)<s.l.length - i;omega) ?_ (.keep _ _ _ _ _ _ (fun o h=>?_) (aq.refl _))
      · show rs.map aB.l=(hU s.l (i+1)).1
        rw [eT];exact hrs
      · show (hU s.l (i+1)).2.getLast?=some 13→s.l.getD (i+1) 0≠10
        rw [eT]
        intro e13
        have e13 : c=13:=by simpa using e13
        exact absurd e13 c13
      · dsimp only
        rw [eT,List.length_append]
        exact (by repeat (first | exact af.nil | refine af.cons _ _ _ rfl ?_))
      · dsimp only
        rw [eT,List.length_append,List.map_append]
        exact h
  · have hi' : ¬ i<s.l.length:=of_decide_eq_false h
    obtain rfl : i=s.l.length:=by omega
    clear h hi hi'
    have eS : hU s.l s.l.length=bB s.l:=by unfold hU bB;rw [List.take_length]
    rw [eS] at hrs ⊢
    repeat (first | refine JL.q (by first|(apply OQ.move;rfl)|(apply OQ.assign;rfl)) rfl ?_ | refine JC.seq ?_ | refine JC.region ?_ | refine JC.exit ?_ | refine JL.nil ?_ | refine JE.next ?_ | refine JE.av ?_ | refine JE.aF ?_)
    refine JC.ret (JE.bI rfl (RV.tmp rfl) (RV.tmp rfl) ?_)
    exact fun w' hw=>⟨(⟨some ⟨b1,0,none⟩,cap1,rs⟩,⟨some ⟨b2,0,none⟩,cap2,(bB s.l).2⟩),rfl,hrs,rfl,hw.aS,ye hw (.there .here) h0,b8 hw .here⟩
end
section
set_option maxRecDepth 10000
open Sl br
theorem ia : gv Tryz.prog 22=some 1:=by kernel_rfl
theorem slc : fG Tryz.prog 22=true:=by kernel_rfl
def acc (ls : List (List br.By)) (i : Nat) : List br.By:=aE ((ls.take i).map bh)
theorem w8 {ls : List (List br.By)} {i : Nat} (h : i<ls.length) : acc ls (i+1)=acc ls i++(bh ls[i]++[13,10]):=by
  unfold acc
  rw [List.take_succ_eq_append_getElem h,List.map_append,cK]
  simp [aE]
theorem gL : ∀ ls : List (List br.By),(aE (ls.map bh)).length≤2 * (aE ls).length
  | []=>Nat.le_refl _
  | l::ls=>by
    have ih:=gL ls
    have h : (bh l).length≤l.length+1:=by unfold bh;split <;> simp
    have e1 : aE ((l::ls).map bh)=(bh l++[13,10])++aE (ls.map bh):=rfl
    have e2 : aE (l::ls)=(l++[13,10])++aE ls:=rfl
    rw [e1,e2]
    simp only [List.length_append,List.length_cons,List.length_nil] at *
    omega
theorem fE (ls : List (List br.By)) (i : Nat) : (aE (ls.take i)).length≤(aE ls).length:=by
  have e : aE ls=aE (ls.take i)++aE (ls.drop i):=by rw [← cK,List.take_append_drop]
  rw [e,List.length_append]
  omega
theorem yO (ls : List (List br.By)) (i : Nat) : (acc ls i).length≤2 * (aE ls).length:=
  Nat.le_trans (gL _) (Nat.mul_le_mul_left 2 (fE ls i))
theorem dS : ∀ ls : List (List br.By),ls.length≤(aE ls).length
  | []=>Nat.le_refl _
  | l::ls=>by
    have ih:=dS ls
    have e2 : aE (l::ls)=(l++[13,10])++aE ls:=rfl
    rw [e2]
    simp only [List.length_append,List.length_cons,List.length_nil]
    omega
set_option maxHeartbeats 32000000 in
theorem rC (s : aB) (w : World) (hs : s.ok w) (hl : s.l.length≤1000000) : Calls Tryz.prog 43 [s.v].toArray w
    fun e w'=>∃ q : Nat × Nat,e=.returned (.slice (some ⟨q.1,0,none⟩) (iA s.l).length q.2)∧aa w [] [⟨q.1,Sl.aG 5 1 (iA s.l).length q.2 ((iA s.l).map U8),true⟩] w':=by
  have hWl:=eP s.l
  have hJl : (aE (bB (laidB s.l)).1).length≤(laidB s.l).length:=by
    have:=congrArg List.length (de (laidB s.l))
    rw [List.length_append] at this
    omega
  refine enter (n:=50) Tryz.func43 rfl rfl rfl (aa.start w []) ?_
  repeat (first | refine JL.q (by first|(apply OQ.move;rfl)|(apply OQ.assign;rfl)) rfl ?_ | refine JC.seq ?_ | refine JC.region ?_ | refine JL.nil ?_ | refine JE.next ?_)
  refine JL.cE (ι:=Nat × Nat) (fun q=>.slice (some ⟨q.1,0,none⟩) (laidB s.l).length q.2) (fun q=>[⟨q.1,Sl.aG 5 1 (laidB s.l).length q.2 ((laidB s.l).map U8),true⟩]) rB rfl rfl (fun q e he=>by rw [List.mem_singleton.1 he]) (fun w' hw'=>(jI s w' (hs.holds hw' rfl) hl).mono fun e w2 ⟨q,h1,h2⟩=>⟨q,h1,h2⟩) ?_
  rintro ⟨b,cap⟩
  dsimp only
  refine JL.sx (vs:=[.slice (some ⟨b,0,none⟩) (laidB s.l).length cap]) (S':=[]) (ι:={ q : ov × aB // q.1.ls=(bB (laidB s.l)).1∧q.2.l=(bB (laidB s.l)).2 }) (fun q=>.tuple #[q.1.1.v,q.1.2.v]) (fun q w2=>q.1.1.ok w2∧q.1.2.ok w2) [] gK rfl rfl
    (fun w' hw'=>(iK ⟨some ⟨b,0,none⟩,cap,laidB s.l⟩ w' (b8 hw' .here) (show (laidB s.l).length≤4000000 by omega)).mono fun e w2 ⟨q,h1,h2,h3,h4,h5⟩=>⟨⟨q,h2,h3⟩,h1,h4,h5⟩) (.nil _) (by simp) ?_
  rintro ⟨⟨L,x⟩,hL,hx⟩ w1 hw1 ⟨okL,okx⟩
  have hE:=Sl.aa.base hw1.aS (aa.start w1 [])
  replace hE:=hE.aS
  dsimp only at hL hx
  rw [show iA s.l=aE (L.ls.map bh)++[46,13,10] by rw [hL];rfl]
  rw [← hL] at hJl
  generalize (laidB s.l).length=nl at hWl hJl ⊢
  unfold ov.ls at hJl ⊢
  have hAl:=yO (L.rs.map aB.l)
  have hLl:=dS (L.rs.map aB.l)
  rw [List.length_map] at hLl
  dsimp only
  repeat (first | refine JL.q (by first|(apply OQ.extract;rfl;rfl)|(apply OQ.move;rfl)|(apply OQ.assign;rfl)) rfl ?_ | refine JC.seq ?_ | refine JC.region ?_ | refine JL.nil ?_ | refine JE.next ?_)
  refine JL.lU Tryz.underlying22 bQ rfl fun b0 _=>?_
  repeat (first | refine JL.q (by (apply OQ.assign;rfl)) rfl ?_ | refine JC.seq ?_ | refine JC.region ?_ | refine JC.block ?_ | refine JL.nil ?_ | refine JE.next ?_)
  refine JC.loop (fun q : Nat × Nat × Nat=>[(3,L.v),(5,.slice (some ⟨q.2.1,0,none⟩) (acc (L.rs.map aB.l) q.1).length q.2.2),(6,N q.1)])
    (fun q=>[⟨q.2.1,Sl.aG 5 1 (acc (L.rs.map aB.l) q.1).length q.2.2 ((acc (L.rs.map aB.l) q.1).map U8),true⟩])
    (fun q=>L.rs.length - q.1) (fun q=>q.1≤L.rs.length) (0,b0,0) (Nat.zero_le _) (by repeat (first | exact af.nil | refine af.cons _ _ _ rfl ?_)) (.keep _ _ _ _ _ _ (dw rfl) (.nil _)) ?_
  rintro ⟨i,b1,cap1⟩ hi
  simp only at hi
  repeat (first | refine JL.q (by first|(apply OQ.move;rfl)|(apply OQ.len;rfl;rfl)|(apply OQ.dz;rfl;rfl)) rfl ?_ | refine JC.seq ?_ | refine JC.region ?_ | refine JL.nil ?_ | refine JE.next ?_)
  refine JC.cond rfl (fun h=>?_) (fun h=>?_)
  · have hi' : i<L.rs.length:=of_decide_eq_true h
    clear h hi
    have eT : acc (L.rs.map aB.l) (i+1)=acc (L.rs.map aB.l) i++(bh (L.rs[i]).l++[13,10]):=by
      rw [w8 (by rw [List.length_map];exact hi'),List.getElem_map]
    have hAl':=hAl (i+1)
    obtain ⟨ba,ja,hae,hca⟩:=okL.reads.at (by simp;omega)
    have hci : w1.cell? ⟨ba,ja+i,none⟩=some (L.rs[i]).v:=hca i _ (by simp [hi'])
    have hav : L.v=.slice (some ⟨ba,ja,none⟩) L.rs.length L.cap:=by rw [← hae];rfl
    have oky:=okL.all _ (List.getElem_mem hi')
    generalize acc (L.rs.map aB.l) i=A at eT ⊢
    rw [hav]
    by_cases h0 : 0<(L.rs[i]).l.length
    · obtain ⟨by',jy,hye,hcy⟩:=oky.reads.at (by simp;omega)
      have hyv : (L.rs[i]).v=.slice (some ⟨by',jy,none⟩) (L.rs[i]).l.length (L.rs[i]).cap:=by rw [← hye];rfl
      have hc0:=hcy 0 _ (cw U8 0 h0)
      have hy0:=h0
      have hd0 : (L.rs[i]).l.head?=some ((L.rs[i]).l.getD 0 0):=by
        rw [List.head?_eq_getElem?,List.getD_eq_getElem?_getD,List.getElem?_eq_getElem h0];rfl
      by_cases hd1 : (L.rs[i]).l.getD 0 0=46
      · have hd : (L.rs[i]).l.head?=some 46:=by rw [hd0,hd1]
        have eN : (acc (L.rs.map aB.l) (i+1)).length=A.length+1+(L.rs[i]).l.length+2:=by rw [eT,bh,if_pos hd];simp;omega
        have eV : (acc (L.rs.map aB.l) (i+1)).map U8=(A.map U8++[U8 46])++(L.rs[i]).l.map U8++[U8 13,U8 10]:=by rw [eT,bh,if_pos hd];simp
        rw [hd1] at hc0
        rw [eN] at hAl'
        rw [hyv] at hci
        repeat (first | refine JL.q (by first|(apply OQ.aJ;exact Tryz.underlying127;exact ia;rfl;rfl;exact hi')|(apply OQ.ai;exact slc;rfl;exact (block_lt_of_cell hci);exact (by simp);exact hci)|(apply OQ.dA;rfl;rfl;exact h0)|(apply OQ.aJ (i:=0);exact Tryz.underlying22;exact bH;rfl;rfl;exact hy0)|(apply OQ.ai;exact eD;rfl;exact (block_lt_of_cell hc0);exact (by simp);exact hc0)|(apply OQ.dH;rfl;rfl;rfl)|(apply OQ.ay;rfl;rfl)|(apply OQ.move;rfl)|(apply OQ.len;rfl;rfl)) rfl ?_ | refine JC.seq ?_ | refine JC.region ?_ | refine JC.block ?_ | refine JC.skip ?_ | refine JL.nil ?_ | refine JE.next ?_ | refine JL.aU rfl rfl ?_)
        refine JC.cond_true rfl rfl ?_
        repeat (first | refine JL.q (by (apply OQ.move;rfl)) rfl ?_ | refine JC.region ?_)
        refine JL.dQ (v:=U8 46) (xs:=A.map U8) (fun b' cap'=>[⟨b',Sl.aG 5 1 (A.length+1) cap' (A.map U8++[U8 46]),true⟩]) Tryz.underlying22 bQ rfl rfl rfl rfl (fun _=>rfl) (by intro _ _;repeat (first | exact az.here | apply az.there)) (by omega) (by omega) rfl rfl fun bl b2 cap2=>?_
        repeat (first | refine JL.q (by first|(apply OQ.aJ;exact Tryz.underlying127;exact ia;rfl;rfl;exact hi')|(apply OQ.ai;exact slc;rfl;exact (block_lt_of_cell hci);exact (by simp);exact hci)|(apply OQ.move;rfl)|(apply OQ.assign;rfl)) rfl ?_ | refine JC.seq ?_ | refine JC.region ?_ | refine JL.nil ?_ | refine JE.next ?_)
        refine JL.append (cs:=(L.rs[i]).l.map U8) (m:=(L.rs[i]).l.length) (ad:=some ⟨by',jy,none⟩) (sc:=(L.rs[i]).cap) (xs:=(A.map U8++[U8 46])) (fun b' cap'=>[⟨b',Sl.aG 5 1 (A.length+1+(L.rs[i]).l.length) cap' ((A.map U8++[U8 46])++(L.rs[i]).l.map U8),true⟩]) Tryz.underlying22 bQ rfl rfl (by intro _ _;repeat (first | exact az.here | apply az.there)) (by simp) (fun w' hw'=>by rw [← hye];exact (oky.holds hw' rfl).reads) (c8 _) rfl (by decide) (by omega) (by omega) rfl fun b3 cap3=>?_
        repeat (first | refine JL.q (by first|(apply OQ.move;rfl)|(apply OQ.assign;rfl)) rfl ?_ | refine JC.region ?_ | refine JL.nil ?_ | refine JE.next ?_)
        refine JL.dI (v1:=U8 13) (v2:=U8 10) (xs:=((A.map U8++[U8 46])++(L.rs[i]).l.map U8)) (fun b' cap'=>[⟨b',Sl.aG 5 1 (A.length+1+(L.rs[i]).l.length+2) cap' (((A.map U8++[U8 46])++(L.rs[i]).l.map U8)++[U8 13,U8 10]),true⟩]) Tryz.underlying22 bQ rfl rfl rfl rfl rfl rfl rfl (fun _=>rfl) (by intro _ _;repeat (first | exact az.here | apply az.there)) (by omega) (by omega) rfl rfl fun bl2 b4 cap4=>?_
        rw [← hav]
        repeat (first | refine JL.q (by first|(apply OQ.move;rfl)|(apply OQ.assign;rfl)|(apply OQ.aT;rfl;rfl;exact (by (try simp only []);omega))) rfl ?_ | refine JC.region ?_ | refine JL.nil ?_ | refine JE.next ?_ | refine JE.ag ?_)
        refine JE.again (i:=(i,b1,cap1)) (i+1,b4,cap4) (by show i+1≤_;omega) (by show L.rs.length - (i+1)<L.rs.length - i;omega) ?_ (.keep _ _ _ _ _ _ (fun o h=>?_) (.nil _))
        · dsimp only
          rw [eN]
          exact (by repeat (first | exact af.nil | refine af.cons _ _ _ rfl ?_))
        · dsimp only
          rw [eN,eV]
          exact h
      · have hd : ¬ (L.rs[i]).l.head?=some 46:=by rw [hd0];exact fun e=>hd1 (Option.some.inj e)
        have eN : (acc (L.rs.map aB.l) (i+1)).length=A.length+(L.rs[i]).l.length+2:=by rw [eT,bh,if_neg hd];simp;omega
        have eV : (acc (L.rs.map aB.l) (i+1)).map U8=A.map U8++(L.rs[i]).l.map U8++[U8 13,U8 10]:=by rw [eT,bh,if_neg hd];simp
        rw [eN] at hAl'
        rw [hyv] at hci
        repeat (first | refine JL.q (by first|(apply OQ.aJ;exact Tryz.underlying127;exact ia;rfl;rfl;exact hi')|(apply OQ.ai;exact slc;rfl;exact (block_lt_of_cell hci);exact (by simp);exact hci)|(apply OQ.dA;rfl;rfl;exact h0)|(apply OQ.aJ (i:=0);exact Tryz.underlying22;exact bH;rfl;rfl;exact hy0)|(apply OQ.ai;exact eD;rfl;exact (block_lt_of_cell hc0);exact (by simp);exact hc0)|(apply OQ.cV;rfl;rfl;exact (eC hd1))|(apply OQ.ay;rfl;rfl)|(apply OQ.move;rfl)|(apply OQ.len;rfl;rfl)) rfl ?_ | refine JC.seq ?_ | refine JC.region ?_ | refine JC.block ?_ | refine JC.skip ?_ | refine JL.nil ?_ | refine JE.next ?_ | refine JL.aU rfl rfl ?_)
        refine JC.cond_false rfl rfl ?_
        repeat (first | refine JL.q (by first|(apply OQ.aJ;exact Tryz.underlying127;exact ia;rfl;rfl;exact hi')|(apply OQ.ai;exact slc;rfl;exact (block_lt_of_cell hci);exact (by simp);exact hci)|(apply OQ.move;rfl)) rfl ?_ | refine JC.seq ?_ | refine JC.region ?_ | refine JC.skip ?_ | refine JE.next ?_)
        refine JL.append (cs:=(L.rs[i]).l.map U8) (m:=(L.rs[i]).l.length) (ad:=some ⟨by',jy,none⟩) (sc:=(L.rs[i]).cap) (xs:=A.map U8) (fun b' cap'=>[⟨b',Sl.aG 5 1 (A.length+(L.rs[i]).l.length) cap' (A.map U8++(L.rs[i]).l.map U8),true⟩]) Tryz.underlying22 bQ rfl rfl (by intro _ _;repeat (first | exact az.here | apply az.there)) (by simp) (fun w' hw'=>by rw [← hye];exact (oky.holds hw' rfl).reads) (c8 _) rfl (by decide) (by omega) (by omega) rfl fun b3 cap3=>?_
        repeat (first | refine JL.q (by first|(apply OQ.move;rfl)|(apply OQ.assign;rfl)) rfl ?_ | refine JC.region ?_ | refine JL.nil ?_ | refine JE.next ?_)
        refine JL.dI (v1:=U8 13) (v2:=U8 10) (xs:=(A.map U8++(L.rs[i]).l.map U8)) (fun b' cap'=>[⟨b',Sl.aG 5 1 (A.length+(L.rs[i]).l.length+2) cap' ((A.map U8++(L.rs[i]).l.map U8)++[U8 13,U8 10]),true⟩]) Tryz.underlying22 bQ rfl rfl rfl rfl rfl rfl rfl (fun _=>rfl) (by intro _ _;repeat (first | exact az.here | apply az.there)) (by omega) (by omega) rfl rfl fun bl2 b4 cap4=>?_
        rw [← hav]
        repeat (first | refine JL.q (by first|(apply OQ.move;rfl)|(apply OQ.assign;rfl)|(apply OQ.aT;rfl;rfl;exact (by (try simp only []);omega))) rfl ?_ | refine JC.region ?_ | refine JL.nil ?_ | refine JE.next ?_ | refine JE.ag ?_)
        refine JE.again (i:=(i,b1,cap1)) (i+1,b4,cap4) (by show i+1≤_;omega) (by show L.rs.length - (i+1)<L.rs.length - i;omega) ?_ (.keep _ _ _ _ _ _ (fun o h=>?_) (.nil _))
        · dsimp only
          rw [eN]
          exact (by repeat (first | exact af.nil | refine af.cons _ _ _ rfl ?_))
        · dsimp only
          rw [eN,eV]
          exact h
    · have hd : ¬ (L.rs[i]).l.head?=some 46:=by rw [List.eq_nil_of_length_eq_zero (by omega : (L.rs[i]).l.length=0)];exact fun e=>by cases e
      have eN : (acc (L.rs.map aB.l) (i+1)).length=A.length+(L.rs[i]).l.length+2:=by rw [eT,bh,if_neg hd];simp;omega
      have eV : (acc (L.rs.map aB.l) (i+1)).map U8=A.map U8++(L.rs[i]).l.map U8++[U8 13,U8 10]:=by rw [eT,bh,if_neg hd];simp
      rw [eN] at hAl'
      repeat (first | refine JL.q (by first|(apply OQ.aJ;exact Tryz.underlying127;exact ia;rfl;rfl;exact hi')|(apply OQ.ai;exact slc;rfl;exact (block_lt_of_cell hci);exact (by simp);exact hci)|(apply OQ.js;rfl;rfl;exact h0)|(apply OQ.au;rfl;rfl)|(apply OQ.move;rfl)|(apply OQ.len;rfl;rfl)) rfl ?_ | refine JC.seq ?_ | refine JC.region ?_ | refine JC.block ?_ | refine JC.skip ?_ | refine JL.nil ?_ | refine JE.next ?_ | refine JL.aM rfl rfl rfl rfl ?_)
      refine JC.cond_false rfl rfl ?_
      repeat (first | refine JL.q (by first|(apply OQ.aJ;exact Tryz.underlying127;exact ia;rfl;rfl;exact hi')|(apply OQ.ai;exact slc;rfl;exact (block_lt_of_cell hci);exact (by simp);exact hci)|(apply OQ.move;rfl)) rfl ?_ | refine JC.seq ?_ | refine JC.region ?_ | refine JC.skip ?_ | refine JE.next ?_)
      refine JL.append (cs:=(L.rs[i]).l.map U8) (m:=(L.rs[i]).l.length) (ad:=(L.rs[i]).ad) (sc:=(L.rs[i]).cap) (xs:=A.map U8) (fun b' cap'=>[⟨b',Sl.aG 5 1 (A.length+(L.rs[i]).l.length) cap' (A.map U8++(L.rs[i]).l.map U8),true⟩]) Tryz.underlying22 bQ rfl rfl (by intro _ _;repeat (first | exact az.here | apply az.there)) (by simp) (fun w' hw'=>(oky.holds hw' rfl).reads) (c8 _) rfl (by decide) (by omega) (by omega) rfl fun b3 cap3=>?_
      repeat (first | refine JL.q (by first|(apply OQ.move;rfl)|(apply OQ.assign;rfl)) rfl ?_ | refine JC.region ?_ | refine JL.nil ?_ | refine JE.next ?_)
      refine JL.dI (v1:=U8 13) (v2:=U8 10) (xs:=(A.map U8++(L.rs[i]).l.map U8)) (fun b' cap'=>[⟨b',Sl.aG 5 1 (A.length+(L.rs[i]).l.length+2) cap' ((A.map U8++(L.rs[i]).l.map U8)++[U8 13,U8 10]),true⟩]) Tryz.underlying22 bQ rfl rfl rfl rfl rfl rfl rfl (fun _=>rfl) (by intro _ _;repeat (first | exact az.here | apply az.there)) (by omega) (by omega) rfl rfl fun bl2 b4 cap4=>?_
      rw [← hav]
      repeat (first | refine JL.q (by first|(apply OQ.move;rfl)|(apply OQ.assign;rfl)|(apply OQ.aT;rfl;rfl;exact (by (try simp only []);omega))) rfl ?_ | refine JC.region ?_ | refine JL.nil ?_ | refine JE.next ?_ | refine JE.ag ?_)
      refine JE.again (i:=(i,b1,cap1)) (i+1,b4,cap4) (by show i+1≤_;omega) (by show L.rs.length - (i+1)<L.rs.length - i;omega) ?_ (.keep _ _ _ _ _ _ (fun o h=>?_) (.nil _))
      · dsimp only
        rw [eN]
        exact (by repeat (first | exact af.nil | refine af.cons _ _ _ rfl ?_))
      · dsimp only
        rw [eN,eV]
        exact h
  · have hi' : ¬ i<L.rs.length:=of_decide_eq_false h
    obtain rfl : i=L.rs.length:=by omega
    clear h hi hi'
    have hAl':=hAl L.rs.length
    have eA : acc (L.rs.map aB.l) L.rs.length=aE ((L.rs.map aB.l).map bh):=by
      unfold acc
      rw [List.take_of_length_le (by rw [List.length_map];exact Nat.le_refl _)]
    rw [← eA]
    generalize acc (L.rs.map aB.l) L.rs.length=A at hAl' ⊢
    repeat (first | refine JL.q (by (apply OQ.move;rfl)) rfl ?_ | refine JC.seq ?_ | refine JC.region ?_ | refine JC.exit ?_ | refine JE.next ?_ | refine JE.av ?_ | refine JE.aF ?_)
    refine JL.AS (v1:=U8 46) (v2:=U8 13) (v3:=U8 10) (xs:=A.map U8) (fun b' cap'=>[⟨b',Sl.aG 5 1 (A.length+3) cap' (A.map U8++[U8 46,U8 13,U8 10]),true⟩]) Tryz.underlying22 bQ rfl rfl rfl rfl rfl rfl rfl rfl rfl rfl (fun _=>rfl) (by intro _ _;repeat (first | exact az.here | apply az.there)) (by omega) (by omega) rfl rfl fun bl b2 cap2=>?_
    repeat (first | refine JL.q (by (apply OQ.assign;rfl)) rfl ?_ | refine JL.nil ?_ | refine JE.next ?_)
    refine JC.ret (JE.aC rfl (RV.tmp rfl) ?_)
    rw [List.length_append,List.map_append]
    exact fun w' hw=>⟨(b2,cap2),rfl,hw.base hE⟩
end
section
set_option maxRecDepth 10000
open Sl br
def ic (ls : List (List br.By)) (i : Nat) : List br.By:=aE ((ls.take i).map en)
def tl (ls : List (List br.By)) (i j : Nat) : List br.By:=aE ((ls.take j).drop (i+1))
theorem p9 {ls : List (List br.By)} {i : Nat} (h : i<ls.length) : ic ls (i+1)=ic ls i++(en ls[i]++[13,10]):=by
  unfold ic
  rw [List.take_succ_eq_append_getElem h,List.map_append,cK]
  simp [aE]
theorem sR {ls : List (List br.By)} {i j : Nat} (h : j<ls.length) (hj : i+1≤j) : tl ls i (j+1)=tl ls i j++(ls[j]++[13,10]):=by
  unfold tl
  rw [List.take_succ_eq_append_getElem h,List.drop_append_of_le_length (by rw [List.length_take];omega),cK]
  simp [aE]
theorem w9 (ls : List (List br.By)) (i : Nat) : tl ls i ls.length=aE (ls.drop (i+1)):=by
  unfold tl
  rw [List.take_length]
theorem jg (ls : List (List br.By)) (i : Nat) : tl ls i (i+1)=[]:=by
  unfold tl
  rw [List.drop_eq_nil_of_le (by rw [List.length_take];omega)]
  rfl
theorem jU : ∀ ls : List (List br.By),(aE (ls.map en)).length≤(aE ls).length
  | []=>Nat.le_refl _
  | l::ls=>by
    have ih:=jU ls
    have h : (en l).length≤l.length:=by unfold en;split <;> simp
    have e1 : aE ((l::ls).map en)=(en l++[13,10])++aE (ls.map en):=rfl
    have e2 : aE (l::ls)=(l++[13,10])++aE ls:=rfl
    rw [e1,e2]
    simp only [List.length_append,List.length_cons,List.length_nil] at *
    omega
theorem sS (ls : List (List br.By)) (i : Nat) : (ic ls i).length≤(aE ls).length:=Nat.le_trans (jU _) (fE ls i)
theorem xb (ls : List (List br.By)) (i j : Nat) : (tl ls i j).length≤(aE ls).length:=by
  have e : aE (ls.take j)=aE ((ls.take j).take (i+1))++aE ((ls.take j).drop (i+1)):=by rw [← cK,List.take_append_drop]
  have h:=fE ls j
  rw [e,List.length_append] at h
  unfold tl
  omega
theorem rD : ∀ {ls : List (List br.By)} {i : Nat} (h : i<ls.length),ls[i]=[46]→(∀ l ∈ ls.take i,l≠[46])→gw ls=some ((ls.take i).map en,ls.drop (i+1))
  | l::ls,0,_,h1,_=>by
    show (if l=[46] then _ else _)=_
    rw [if_pos (show l=[46] from h1)];rfl
  | l::ls,i+1,h,h1,h2=>by
    show (if l=[46] then _ else (gw ls).map fun p=>(en l::p.1,p.2))=_
    rw [if_neg (h2 l (by simp)),rD (ls:=ls) (i:=i) (by simpa using h) h1 fun x hx=>h2 x (by simp [hx])]
    rfl
def mU (b : List br.By) : List br.By × List br.By × Nat:=match fz b with
  | some p=>(p.1,p.2,0)
  | none=>([],[],7)
set_option maxHeartbeats 64000000 in
theorem uK (s : aB) (w : World) (hs : s.ok w) (hl : s.l.length≤4000000) : Calls Tryz.prog 30 [s.v].toArray w
    fun e w'=>∃ q : aB × aB,e=.returned (.tuple #[q.1.v,q.2.v,N (mU s.l).2.2])∧q.1.l=(mU s.l).1∧q.2.l=(mU s.l).2.1∧Ext w w'∧q.1.ok w'∧q.2.ok w':=by
  have hJl:=congrArg List.length (de s.l)
  rw [List.length_append] at hJl
  refine enter (n:=91) Tryz.func30 rfl rfl rfl (aa.start w []) ?_
  repeat (first | refine JL.q (by first|(apply OQ.move;rfl)|(apply OQ.assign;rfl)) rfl ?_ | refine JC.seq ?_ | refine JC.region ?_ | refine JL.nil ?_ | refine JE.next ?_)
  refine JL.sx (vs:=[s.v]) (S':=[]) (ι:={ q : ov × aB // q.1.ls=(bB s.l).1∧q.2.l=(bB s.l).2 }) (fun q=>.tuple #[q.1.1.v,q.1.2.v]) (fun q w2=>q.1.1.ok w2∧q.1.2.ok w2) [] gK rfl rfl
    (fun w' hw'=>(iK s w' (hs.holds hw' rfl) hl).mono fun e w2 ⟨q,h1,h2,h3,h4,h5⟩=>⟨⟨q,h2,h3⟩,h1,h4,h5⟩) (.nil _) (by simp) ?_
  rintro ⟨⟨L,x⟩,hL,hx⟩ w1 hw1 ⟨okL,okx⟩
  have hE:=hw1.aS
  dsimp only at hL hx
  have eUB : fz s.l=(gw L.ls).map fun p=>(aE p.1,aE p.2++x.l):=by rw [hL,hx];rfl
  rw [← hL,← hx] at hJl
  unfold ov.ls at hJl eUB
  have hBl:=sS (L.rs.map aB.l)
  have hTl:=xb (L.rs.map aB.l)
  have hLl:=dS (L.rs.map aB.l)
  rw [List.length_map] at hLl
  dsimp only
  repeat (first | refine JL.q (by first|(apply OQ.extract;rfl;rfl)|(apply OQ.move;rfl)|(apply OQ.assign;rfl)) rfl ?_ | refine JC.seq ?_ | refine JC.region ?_ | refine JL.nil ?_ | refine JE.next ?_)
  refine JL.lU Tryz.underlying22 bQ rfl fun b0 _=>?_
  repeat (first | refine JL.q (by (apply OQ.assign;rfl)) rfl ?_ | refine JC.seq ?_ | refine JC.region ?_ | refine JC.block ?_ | refine JL.nil ?_ | refine JE.next ?_)
  refine JC.loop (fun q : Nat × Nat × Nat=>[(5,L.v),(6,x.v),(7,.slice (some ⟨q.2.1,0,none⟩) (ic (L.rs.map aB.l) q.1).length q.2.2),(8,N q.1)])
    (fun q=>[⟨q.2.1,Sl.aG 5 1 (ic (L.rs.map aB.l) q.1).length q.2.2 ((ic (L.rs.map aB.l) q.1).map U8),true⟩])
    (fun q=>L.rs.length - q.1) (fun q=>q.1≤L.rs.length∧∀ l ∈ (L.rs.map aB.l).take q.1,l≠[46]) (0,b0,0) ⟨Nat.zero_le _,by intro l hl;simp at hl⟩ (by repeat (first | exact af.nil | refine af.cons _ _ _ rfl ?_)) (.keep _ _ _ _ _ _ (dw rfl) (.nil _)) ?_
  rintro ⟨i,b,cap⟩ ⟨hi,hnone⟩
  simp only at hi hnone
  repeat (first | refine JL.q (by first|(apply OQ.move;rfl)|(apply OQ.len;rfl;rfl)|(apply OQ.dz;rfl;rfl)) rfl ?_ | refine JC.seq ?_ | refine JC.region ?_ | refine JL.nil ?_ | refine JE.next ?_)
  refine JC.cond rfl (fun h=>?_) (fun h=>?_)
  · have hi' : i<L.rs.length:=of_decide_eq_true h
    clear h hi
    have hi2 : i<(L.rs.map aB.l).length:=by rw [List.length_map];exact hi'
    have eT : ic (L.rs.map aB.l) (i+1)=ic (L.rs.map aB.l) i++(en (L.rs[i]).l++[13,10]):=by
      rw [p9 hi2,List.getElem_map]
    have hBl':=hBl (i+1)
    have hBi:=hBl i
    have hnone' : (L.rs[i]).l≠[46]→∀ l ∈ (L.rs.map aB.l).take (i+1),l≠[46]:=by
      intro hne l hl
      rw [List.take_succ_eq_append_getElem hi2,List.mem_append,List.getElem_map] at hl
      rcases hl with hl | hl
      · exact hnone l hl
      · rw [List.mem_singleton.1 hl];exact hne
    have eU : (L.rs[i]).l=[46]→mU s.l=(ic (L.rs.map aB.l) i,aE ((L.rs.map aB.l).drop (i+1))++x.l,0):=by
      intro e
      unfold mU
      rw [eUB,rD hi2 (by rw [List.getElem_map];exact e) hnone]
      rfl
    obtain ⟨ba,ja,hae,hca⟩:=okL.reads.at (by simp;omega)
    have hci : w1.cell? ⟨ba,ja+i,none⟩=some (L.rs[i]).v:=hca i _ (by simp [hi'])
    have hav : L.v=.slice (some ⟨ba,ja,none⟩) L.rs.length L.cap:=by rw [← hae];rfl
    have oky:=okL.all _ (List.getElem_mem hi')
    generalize L.rs[i]=y at eT hnone' eU hci oky
    obtain ⟨ad,yc,yl⟩:=y
    dsimp only at eT hnone' eU
    generalize ic (L.rs.map aB.l) i=A at eT eU hBi ⊢
    rw [hav]
    by_cases h0 : 0<yl.length
    · obtain ⟨by',jy,rfl,hcy⟩:=oky.reads.at (by simpa using h0)
      have hc0:=hcy 0 _ (cw U8 0 h0)
      have hd0 : yl.head?=some (yl.getD 0 0):=by
        rw [List.head?_eq_getElem?,List.getD_eq_getElem?_getD,List.getElem?_eq_getElem h0];rfl
      by_cases c46 : yl.getD 0 0=46
      · have hc0:=c46 ▸ hc0
        have hd : yl.head?=some 46:=by rw [hd0,c46]
        by_cases h1 : yl.length=1
        · have ey : yl=[46]:=by
            match yl,h1 with
            | [c],_=>exact congrArg (fun c=>[c]) c46
          have eU:=eU ey
          clear hnone' eT
          repeat (first | refine JL.q (by first|(apply OQ.aJ;exact Tryz.underlying127;exact ia;rfl;rfl;exact hi')|(apply OQ.ai;exact slc;rfl;exact (block_lt_of_cell hci);exact (by simp);exact hci)|(apply OQ.dH;rfl;rfl;exact (show ((yl.length : Nat) : Int)=1 by omega))|(apply OQ.aJ (i:=0);exact Tryz.underlying22;exact bH;rfl;rfl;exact h0)|(apply OQ.ai;exact eD;rfl;exact (block_lt_of_cell hc0);exact (by simp);exact hc0)|(apply OQ.dH;rfl;rfl;rfl)|(apply OQ.ay;rfl;rfl)|(apply OQ.move;rfl)|(apply OQ.len;rfl;rfl)) rfl ?_ | refine JC.seq ?_ | refine JC.region ?_ | refine JC.block ?_ | refine JC.skip ?_ | refine JL.nil ?_ | refine JE.next ?_ | refine JL.aU rfl rfl ?_)
          refine JC.cond_true rfl rfl ?_
          repeat (first | refine JC.seq ?_ | refine JC.region ?_)
          refine JL.lU Tryz.underlying22 bQ rfl fun b9 _=>?_
          repeat (first | refine JL.q (by first|(apply OQ.move;rfl)|(apply OQ.assign;rfl)|(apply OQ.aT;rfl;rfl;exact (by (try simp only []);omega))) rfl ?_ | refine JC.seq ?_ | refine JC.region ?_ | refine JC.block ?_ | refine JL.nil ?_ | refine JE.next ?_)
          rw [← hav]
          refine JC.loop (fun q : Nat × Nat × Nat=>[(5,L.v),(6,x.v),(7,.slice (some ⟨b,0,none⟩) A.length cap),(9,.slice (some ⟨q.2.1,0,none⟩) (tl (L.rs.map aB.l) i q.1).length q.2.2),(10,N q.1)])
            (fun q=>[⟨q.2.1,Sl.aG 5 1 (tl (L.rs.map aB.l) i q.1).length q.2.2 ((tl (L.rs.map aB.l) i q.1).map U8),true⟩,⟨b,Sl.aG 5 1 A.length cap (A.map U8),true⟩])
            (fun q=>L.rs.length - q.1) (fun q=>i+1≤q.1∧q.1≤L.rs.length) (i+1,b9,0) ⟨Nat.le_refl _,hi'⟩ (by rw [jg];exact (by repeat (first | exact af.nil | refine af.cons _ _ _ rfl ?_))) (by rw [jg];exact .keep _ _ _ _ _ _ (dw rfl) (.keep _ _ _ _ _ _ (fun _ h=>h) (.nil _))) ?_
          clear hci hc0 hcy oky
          rintro ⟨j,b9,cap9⟩ ⟨hij,hj⟩
          simp only at hij hj
          repeat (first | refine JL.q (by first|(apply OQ.move;rfl)|(apply OQ.len;rfl;rfl)|(apply OQ.dz;rfl;rfl)) rfl ?_ | refine JC.seq ?_ | refine JC.region ?_ | refine JL.nil ?_ | refine JE.next ?_)
          refine JC.cond rfl (fun h=>?_) (fun h=>?_)
          · have hj' : j<L.rs.length:=of_decide_eq_true h
            clear h hj
            have eT : tl (L.rs.map aB.l) i (j+1)=tl (L.rs.map aB.l) i j++((L.rs[j]).l++[13,10]):=by
              rw [sR (by rw [List.length_map];exact hj') hij,List.getElem_map]
            have hTl':=hTl i (j+1)
            have hci : w1.cell? ⟨ba,ja+j,none⟩=some (L.rs[j]).v:=hca j _ (by simp [hj'])
            have oky:=okL.all _ (List.getElem_mem hj')
            generalize L.rs[j]=y at eT hci oky
            generalize tl (L.rs.map aB.l) i j=R at eT ⊢
            rw [eT] at hTl'
            simp only [List.length_append,List.length_cons,List.length_nil] at hTl'
            have hi':=hj'
            rw [hav]
            repeat (first | refine JL.q (by first|(apply OQ.aJ;exact Tryz.underlying127;exact ia;rfl;rfl;exact hi')|(apply OQ.ai;exact slc;rfl;exact (block_lt_of_cell hci);exact (by simp);exact hci)|(apply OQ.move;rfl)) rfl ?_ | refine JC.seq ?_ | refine JC.region ?_ | refine JC.block ?_ | refine JC.skip ?_ | refine JE.next ?_)
            refine JL.append (cs:=(y.l).map U8) (m:=(y.l).length) (ad:=y.ad) (sc:=y.cap) (xs:=R.map U8) (fun b' cap'=>[⟨b',Sl.aG 5 1 (R.length+(y.l).length) cap' (R.map U8++(y.l).map U8),true⟩,⟨b,Sl.aG 5 1 A.length cap (A.map U8),true⟩]) Tryz.underlying22 bQ rfl rfl (by intro _ _;repeat (first | exact az.here | apply az.there)) (by simp) (fun w' hw'=>(oky.holds hw' rfl).reads) (c8 _) rfl (by decide) (by omega) (by omega) rfl fun b3 cap3=>?_
            repeat (first | refine JL.q (by first|(apply OQ.move;rfl)|(apply OQ.assign;rfl)) rfl ?_ | refine JC.region ?_ | refine JL.nil ?_ | refine JE.next ?_)
            refine JL.dI (v1:=U8 13) (v2:=U8 10) (xs:=(R.map U8++(y.l).map U8)) (fun b' cap'=>[⟨b',Sl.aG 5 1 (R.length+(y.l).length+2) cap' ((R.map U8++(y.l).map U8)++[U8 13,U8 10]),true⟩,⟨b,Sl.aG 5 1 A.length cap (A.map U8),true⟩]) Tryz.underlying22 bQ rfl rfl rfl rfl rfl rfl rfl (fun _=>rfl) (by intro _ _;repeat (first | exact az.here | apply az.there)) (by omega) (by omega) rfl rfl fun bl2 b4 cap4=>?_
            rw [← hav]
            repeat (first | refine JL.q (by first|(apply OQ.move;rfl)|(apply OQ.assign;rfl)|(apply OQ.aT;rfl;rfl;exact (by (try simp only []);omega))) rfl ?_ | refine JC.region ?_ | refine JL.nil ?_ | refine JE.next ?_ | refine JE.ag ?_)
            refine JE.again (i:=(j,b9,cap9)) (j+1,b4,cap4) ⟨by show i+1≤j+1;omega,by show j+1≤_;omega⟩ (by show L.rs.length - (j+1)<L.rs.length - j;omega) ?_ (.keep _ _ _ _ _ _ (fun o h=>?_) (.keep _ _ _ _ _ _ (fun _ h=>h) (.nil _)))
            · dsimp only
              rw [show (tl (L.rs.map aB.l) i (j+1)).length=R.length+y.l.length+2 by rw [eT];simp;omega]
              exact (by repeat (first | exact af.nil | refine af.cons _ _ _ rfl ?_))
            · dsimp only
              rw [show (tl (L.rs.map aB.l) i (j+1)).length=R.length+y.l.length+2 by rw [eT];simp;omega,show (tl (L.rs.map aB.l) i (j+1)).map U8=R.map U8++y.l.map U8++[U8 13,U8 10] by rw [eT];simp]
              exact h
          · have hj' : ¬ j<L.rs.length:=of_decide_eq_false h
            obtain rfl : j=L.rs.length:=by omega
            clear h hj hj'
            have hTl':=hTl i L.rs.length
            have eR : tl (L.rs.map aB.l) i L.rs.length=aE ((L.rs.map aB.l).drop (i+1)):=by
              rw [← w9,List.length_map]
            rw [← eR] at eU
            generalize tl (L.rs.map aB.l) i L.rs.length=R at hTl' eU ⊢
            repeat (first | refine JL.q (by (apply OQ.move;rfl)) rfl ?_ | refine JC.seq ?_ | refine JC.region ?_ | refine JC.exit ?_ | refine JE.next ?_ | refine JE.av ?_ | refine JE.aF ?_)
            refine JL.append (cs:=(x.l).map U8) (m:=(x.l).length) (ad:=x.ad) (sc:=x.cap) (xs:=R.map U8) (fun b' cap'=>[⟨b',Sl.aG 5 1 (R.length+(x.l).length) cap' (R.map U8++(x.l).map U8),true⟩,⟨b,Sl.aG 5 1 A.length cap (A.map U8),true⟩]) Tryz.underlying22 bQ rfl rfl (by intro _ _;repeat (first | exact az.here | apply az.there)) (by simp) (fun w' hw'=>(okx.holds hw' rfl).reads) (c8 _) rfl (by decide) (by omega) (by omega) rfl fun b3 cap3=>?_
            repeat (first | refine JL.q (by (apply OQ.assign;rfl)) rfl ?_ | refine JL.nil ?_ | refine JE.next ?_)
            refine JC.ret ?_
            repeat (first | refine JE.ah ?_ | refine JE.aW ?_)
            rw [eU]
            refine JE.oV rfl (RV.tmp rfl) (RV.tmp rfl) (RV.tmp rfl) ?_
            rw [← List.map_append]
            exact fun w' hw=>⟨(⟨some ⟨b,0,none⟩,cap,A⟩,⟨some ⟨b3,0,none⟩,cap3,R++x.l⟩),by rw [← List.length_append];rfl,rfl,rfl,hE.trans hw.aS,b8 hw (.there .here),b8 hw .here⟩
        · have hnone':=hnone' (fun e=>by rw [e] at h1;exact h1 rfl)
          repeat (first | refine JL.q (by first|(apply OQ.aJ;exact Tryz.underlying127;exact ia;rfl;rfl;exact hi')|(apply OQ.ai;exact slc;rfl;exact (block_lt_of_cell hci);exact (by simp);exact hci)|(apply OQ.cV;rfl;rfl;exact (show ¬ ((yl.length : Nat) : Int)=1 by omega))|(apply OQ.au;rfl;rfl)|(apply OQ.move;rfl)|(apply OQ.len;rfl;rfl)) rfl ?_ | refine JC.seq ?_ | refine JC.region ?_ | refine JC.block ?_ | refine JC.skip ?_ | refine JL.nil ?_ | refine JE.next ?_ | refine JL.aM rfl rfl rfl rfl ?_)
          refine JC.cond_false rfl rfl ?_
          repeat (first | refine JL.q (by first|(apply OQ.aJ;exact Tryz.underlying127;exact ia;rfl;rfl;exact hi')|(apply OQ.ai;exact slc;rfl;exact (block_lt_of_cell hci);exact (by simp);exact hci)|(apply OQ.dA;rfl;rfl;exact h0)|(apply OQ.aJ (i:=0);exact Tryz.underlying22;exact bH;rfl;rfl;exact h0)|(apply OQ.ai;exact eD;rfl;exact (block_lt_of_cell hc0);exact (by simp);exact hc0)|(apply OQ.dH;rfl;rfl;rfl)|(apply OQ.ay;rfl;rfl)|(apply OQ.move;rfl)|(apply OQ.len;rfl;rfl)) rfl ?_ | refine JC.seq ?_ | refine JC.region ?_ | refine JC.skip ?_ | refine JL.nil ?_ | refine JE.next ?_ | refine JL.aU rfl rfl ?_)
          refine JC.cond_true rfl rfl ?_
          repeat (first | refine JL.q (by first|(apply OQ.aJ;exact Tryz.underlying127;exact ia;rfl;rfl;exact hi')|(apply OQ.ai;exact slc;rfl;exact (block_lt_of_cell hci);exact (by simp);exact hci)|(apply OQ.snd (s:=⟨some ⟨by',jy,none⟩,yc,yl⟩) (m:=1);exact Tryz.underlying22;exact bH;rfl;rfl;exact h0)|(apply OQ.move;rfl)) rfl ?_ | refine JC.region ?_)
          have eN : (ic (L.rs.map aB.l) (i+1)).length=A.length+(yl.drop 1).length+2:=by rw [eT,en,if_pos hd,← List.drop_one];simp;omega
          have eV : (ic (L.rs.map aB.l) (i+1)).map U8=A.map U8++(yl.drop 1).map U8++[U8 13,U8 10]:=by rw [eT,en,if_pos hd,← List.drop_one];simp
          rw [eN] at hBl'
          refine JL.append (cs:=(yl.drop 1).map U8) (m:=(yl.drop 1).length) (ad:=(aB.snd ⟨some ⟨by',jy,none⟩,yc,yl⟩ 1).ad) (sc:=yc - 1) (xs:=A.map U8) (fun b' cap'=>[⟨b',Sl.aG 5 1 (A.length+(yl.drop 1).length) cap' (A.map U8++(yl.drop 1).map U8),true⟩]) Tryz.underlying22 bQ rfl rfl (by intro _ _;repeat (first | exact az.here | apply az.there)) (by simp) (fun w' hw'=>((oky.holds hw' rfl).snd 1 h0).reads) (c8 _) rfl (by decide) (by omega) (by omega) rfl fun b3 cap3=>?_
          repeat (first | refine JL.q (by first|(apply OQ.move;rfl)|(apply OQ.assign;rfl)) rfl ?_ | refine JC.region ?_ | refine JL.nil ?_ | refine JE.next ?_)
          refine JL.dI (v1:=U8 13) (v2:=U8 10) (xs:=(A.map U8++(yl.drop 1).map U8)) (fun b' cap'=>[⟨b',Sl.aG 5 1 (A.length+(yl.drop 1).length+2) cap' ((A.map U8++(yl.drop 1).map U8)++[U8 13,U8 10]),true⟩]) Tryz.underlying22 bQ rfl rfl rfl rfl rfl rfl rfl (fun _=>rfl) (by intro _ _;repeat (first | exact az.here | apply az.there)) (by omega) (by omega) rfl rfl fun bl2 b4 cap4=>?_
          rw [← hav]
          repeat (first | refine JL.q (by first|(apply OQ.move;rfl)|(apply OQ.assign;rfl)|(apply OQ.aT;rfl;rfl;exact (by (try simp only []);omega))) rfl ?_ | refine JC.region ?_ | refine JL.nil ?_ | refine JE.next ?_ | refine JE.ag ?_)
          refine JE.again (i:=(i,b,cap)) (i+1,b4,cap4) ⟨by show i+1≤_;omega,hnone'⟩ (by show L.rs.length - (i+1)<L.rs.length - i;omega) ?_ (.keep _ _ _ _ _ _ (fun o h=>?_) (.nil _))
          · dsimp only
            rw [eN]
            exact (by repeat (first | exact af.nil | refine af.cons _ _ _ rfl ?_))
          · dsimp only
            rw [eN,eV]
            exact h
      · have hd : ¬ yl.head?=some 46:=by rw [hd0];exact fun e=>c46 (Option.some.inj e)
        have hnone':=hnone' (fun e=>by rw [e] at c46;exact c46 rfl)
        by_cases h1 : yl.length=1
        · repeat (first | refine JL.q (by first|(apply OQ.aJ;exact Tryz.underlying127;exact ia;rfl;rfl;exact hi')|(apply OQ.ai;exact slc;rfl;exact (block_lt_of_cell hci);exact (by simp);exact hci)|(apply OQ.dH;rfl;rfl;exact (show ((yl.length : Nat) : Int)=1 by omega))|(apply OQ.aJ (i:=0);exact Tryz.underlying22;exact bH;rfl;rfl;exact h0)|(apply OQ.ai;exact eD;rfl;exact (block_lt_of_cell hc0);exact (by simp);exact hc0)|(apply OQ.cV;rfl;rfl;exact (eC c46))|(apply OQ.ay;rfl;rfl)|(apply OQ.move;rfl)|(apply OQ.len;rfl;rfl)) rfl ?_ | refine JC.seq ?_ | refine JC.region ?_ | refine JC.block ?_ | refine JC.skip ?_ | refine JL.nil ?_ | refine JE.next ?_ | refine JL.aU rfl rfl ?_)
          refine JC.cond_false rfl rfl ?_
          repeat (first | refine JL.q (by first|(apply OQ.aJ;exact Tryz.underlying127;exact ia;rfl;rfl;exact hi')|(apply OQ.ai;exact slc;rfl;exact (block_lt_of_cell hci);exact (by simp);exact hci)|(apply OQ.dA;rfl;rfl;exact h0)|(apply OQ.aJ (i:=0);exact Tryz.underlying22;exact bH;rfl;rfl;exact h0)|(apply OQ.ai;exact eD;rfl;exact (block_lt_of_cell hc0);exact (by simp);exact hc0)|(apply OQ.cV;rfl;rfl;exact (eC c46))|(apply OQ.ay;rfl;rfl)|(apply OQ.move;rfl)|(apply OQ.len;rfl;rfl)) rfl ?_ | refine JC.seq ?_ | refine JC.region ?_ | refine JC.skip ?_ | refine JL.nil ?_ | refine JE.next ?_ | refine JL.aU rfl rfl ?_)
          refine JC.cond_false rfl rfl ?_
          repeat (first | refine JL.q (by first|(apply OQ.aJ;exact Tryz.underlying127;exact ia;rfl;rfl;exact hi')|(apply OQ.ai;exact slc;rfl;exact (block_lt_of_cell hci);exact (by simp);exact hci)|(apply OQ.move;rfl)) rfl ?_ | refine JC.region ?_)
          have eN : (ic (L.rs.map aB.l) (i+1)).length=A.length+(yl).length+2:=by rw [eT,en,if_neg hd];simp;omega
          have eV : (ic (L.rs.map aB.l) (i+1)).map U8=A.map U8++(yl).map U8++[U8 13,U8 10]:=by rw [eT,en,if_neg hd];simp
          rw [eN] at hBl'
          refine JL.append (cs:=(yl).map U8) (m:=(yl).length) (ad:=some ⟨by',jy,none⟩) (sc:=yc) (xs:=A.map U8) (fun b' cap'=>[⟨b',Sl.aG 5 1 (A.length+(yl).length) cap' (A.map U8++(yl).map U8),true⟩]) Tryz.underlying22 bQ rfl rfl (by intro _ _;repeat (first | exact az.here | apply az.there)) (by simp) (fun w' hw'=>(oky.holds hw' rfl).reads) (c8 _) rfl (by decide) (by omega) (by omega) rfl fun b3 cap3=>?_
          repeat (first | refine JL.q (by first|(apply OQ.move;rfl)|(apply OQ.assign;rfl)) rfl ?_ | refine JC.region ?_ | refine JL.nil ?_ | refine JE.next ?_)
          refine JL.dI (v1:=U8 13) (v2:=U8 10) (xs:=(A.map U8++(yl).map U8)) (fun b' cap'=>[⟨b',Sl.aG 5 1 (A.length+(yl).length+2) cap' ((A.map U8++(yl).map U8)++[U8 13,U8 10]),true⟩]) Tryz.underlying22 bQ rfl rfl rfl rfl rfl rfl rfl (fun _=>rfl) (by intro _ _;repeat (first | exact az.here | apply az.there)) (by omega) (by omega) rfl rfl fun bl2 b4 cap4=>?_
          rw [← hav]
          repeat (first | refine JL.q (by first|(apply OQ.move;rfl)|(apply OQ.assign;rfl)|(apply OQ.aT;rfl;rfl;exact (by (try simp only []);omega))) rfl ?_ | refine JC.region ?_ | refine JL.nil ?_ | refine JE.next ?_ | refine JE.ag ?_)
          refine JE.again (i:=(i,b,cap)) (i+1,b4,cap4) ⟨by show i+1≤_;omega,hnone'⟩ (by show L.rs.length - (i+1)<L.rs.length - i;omega) ?_ (.keep _ _ _ _ _ _ (fun o h=>?_) (.nil _))
          · dsimp only
            rw [eN]
            exact (by repeat (first | exact af.nil | refine af.cons _ _ _ rfl ?_))
          · dsimp only
            rw [eN,eV]
            exact h
        · repeat (first | refine JL.q (by first|(apply OQ.aJ;exact Tryz.underlying127;exact ia;rfl;rfl;exact hi')|(apply OQ.ai;exact slc;rfl;exact (block_lt_of_cell hci);exact (by simp);exact hci)|(apply OQ.cV;rfl;rfl;exact (show ¬ ((yl.length : Nat) : Int)=1 by omega))|(apply OQ.au;rfl;rfl)|(apply OQ.move;rfl)|(apply OQ.len;rfl;rfl)) rfl ?_ | refine JC.seq ?_ | refine JC.region ?_ | refine JC.block ?_ | refine JC.skip ?_ | refine JL.nil ?_ | refine JE.next ?_ | refine JL.aM rfl rfl rfl rfl ?_)
          refine JC.cond_false rfl rfl ?_
          repeat (first | refine JL.q (by first|(apply OQ.aJ;exact Tryz.underlying127;exact ia;rfl;rfl;exact hi')|(apply OQ.ai;exact slc;rfl;exact (block_lt_of_cell hci);exact (by simp);exact hci)|(apply OQ.dA;rfl;rfl;exact h0)|(apply OQ.aJ (i:=0);exact Tryz.underlying22;exact bH;rfl;rfl;exact h0)|(apply OQ.ai;exact eD;rfl;exact (block_lt_of_cell hc0);exact (by simp);exact hc0)|(apply OQ.cV;rfl;rfl;exact (eC c46))|(apply OQ.ay;rfl;rfl)|(apply OQ.move;rfl)|(apply OQ.len;rfl;rfl)) rfl ?_ | refine JC.seq ?_ | refine JC.region ?_ | refine JC.skip ?_ | refine JL.nil ?_ | refine JE.next ?_ | refine JL.aU rfl rfl ?_)
          refine JC.cond_false rfl rfl ?_
          repeat (first | refine JL.q (by first|(apply OQ.aJ;exact Tryz.underlying127;exact ia;rfl;rfl;exact hi')|(apply OQ.ai;exact slc;rfl;exact (block_lt_of_cell hci);exact (by simp);exact hci)|(apply OQ.move;rfl)) rfl ?_ | refine JC.region ?_)
          have eN : (ic (L.rs.map aB.l) (i+1)).length=A.length+(yl).length+2:=by rw [eT,en,if_neg hd];simp;omega
          have eV : (ic (L.rs.map aB.l) (i+1)).map U8=A.map U8++(yl).map U8++[U8 13,U8 10]:=by rw [eT,en,if_neg hd];simp
          rw [eN] at hBl'
          refine JL.append (cs:=(yl).map U8) (m:=(yl).length) (ad:=some ⟨by',jy,none⟩) (sc:=yc) (xs:=A.map U8) (fun b' cap'=>[⟨b',Sl.aG 5 1 (A.length+(yl).length) cap' (A.map U8++(yl).map U8),true⟩]) Tryz.underlying22 bQ rfl rfl (by intro _ _;repeat (first | exact az.here | apply az.there)) (by simp) (fun w' hw'=>(oky.holds hw' rfl).reads) (c8 _) rfl (by decide) (by omega) (by omega) rfl fun b3 cap3=>?_
          repeat (first | refine JL.q (by first|(apply OQ.move;rfl)|(apply OQ.assign;rfl)) rfl ?_ | refine JC.region ?_ | refine JL.nil ?_ | refine JE.next ?_)
          refine JL.dI (v1:=U8 13) (v2:=U8 10) (xs:=(A.map U8++(yl).map U8)) (fun b' cap'=>[⟨b',Sl.aG 5 1 (A.length+(yl).length+2) cap' ((A.map U8++(yl).map U8)++[U8 13,U8 10]),true⟩]) Tryz.underlying22 bQ rfl rfl rfl rfl rfl rfl rfl (fun _=>rfl) (by intro _ _;repeat (first | exact az.here | apply az.there)) (by omega) (by omega) rfl rfl fun bl2 b4 cap4=>?_
          rw [← hav]
          repeat (first | refine JL.q (by first|(apply OQ.move;rfl)|(apply OQ.assign;rfl)|(apply OQ.aT;rfl;rfl;exact (by (try simp only []);omega))) rfl ?_ | refine JC.region ?_ | refine JL.nil ?_ | refine JE.next ?_ | refine JE.ag ?_)
          refine JE.again (i:=(i,b,cap)) (i+1,b4,cap4) ⟨by show i+1≤_;omega,hnone'⟩ (by show L.rs.length - (i+1)<L.rs.length - i;omega) ?_ (.keep _ _ _ _ _ _ (fun o h=>?_) (.nil _))
          · dsimp only
            rw [eN]
            exact (by repeat (first | exact af.nil | refine af.cons _ _ _ rfl ?_))
          · dsimp only
            rw [eN,eV]
            exact h
    · obtain rfl : yl=[]:=List.eq_nil_of_length_eq_zero (by omega)
      have hd : ¬ ([] : List br.By).head?=some 46:=fun e=>by cases e
      have hnone':=hnone' (fun e=>by cases e)
      repeat (first | refine JL.q (by first|(apply OQ.aJ;exact Tryz.underlying127;exact ia;rfl;rfl;exact hi')|(apply OQ.ai;exact slc;rfl;exact (block_lt_of_cell hci);exact (by simp);exact hci)|(apply OQ.cV;rfl;rfl;exact (show ¬ ((0 : Nat) : Int)=1 by decide))|(apply OQ.au;rfl;rfl)|(apply OQ.move;rfl)|(apply OQ.len;rfl;rfl)) rfl ?_ | refine JC.seq ?_ | refine JC.region ?_ | refine JC.block ?_ | refine JC.skip ?_ | refine JL.nil ?_ | refine JE.next ?_ | refine JL.aM rfl rfl rfl rfl ?_)
      refine JC.cond_false rfl rfl ?_
      repeat (first | refine JL.q (by first|(apply OQ.aJ;exact Tryz.underlying127;exact ia;rfl;rfl;exact hi')|(apply OQ.ai;exact slc;rfl;exact (block_lt_of_cell hci);exact (by simp);exact hci)|(apply OQ.js;rfl;rfl;exact h0)|(apply OQ.au;rfl;rfl)|(apply OQ.move;rfl)|(apply OQ.len;rfl;rfl)) rfl ?_ | refine JC.seq ?_ | refine JC.region ?_ | refine JC.skip ?_ | refine JL.nil ?_ | refine JE.next ?_ | refine JL.aM rfl rfl rfl rfl ?_)
      refine JC.cond_false rfl rfl ?_
      repeat (first | refine JL.q (by first|(apply OQ.aJ;exact Tryz.underlying127;exact ia;rfl;rfl;exact hi')|(apply OQ.ai;exact slc;rfl;exact (block_lt_of_cell hci);exact (by simp);exact hci)|(apply OQ.move;rfl)) rfl ?_ | refine JC.region ?_)
      have eN : (ic (L.rs.map aB.l) (i+1)).length=A.length+(([] : List br.By)).length+2:=by rw [eT,en,if_neg hd];simp
      have eV : (ic (L.rs.map aB.l) (i+1)).map U8=A.map U8++(([] : List br.By)).map U8++[U8 13,U8 10]:=by rw [eT,en,if_neg hd];simp
      rw [eN] at hBl'
      refine JL.append (cs:=(([] : List br.By)).map U8) (m:=(([] : List br.By)).length) (ad:=ad) (sc:=yc) (xs:=A.map U8) (fun b' cap'=>[⟨b',Sl.aG 5 1 (A.length+(([] : List br.By)).length) cap' (A.map U8++(([] : List br.By)).map U8),true⟩]) Tryz.underlying22 bQ rfl rfl (by intro _ _;repeat (first | exact az.here | apply az.there)) (by simp) (fun w' hw'=>(oky.holds hw' rfl).reads) (c8 _) rfl (by decide) (by omega) (by omega) rfl fun b3 cap3=>?_
      repeat (first | refine JL.q (by first|(apply OQ.move;rfl)|(apply OQ.assign;rfl)) rfl ?_ | refine JC.region ?_ | refine JL.nil ?_ | refine JE.next ?_)
      refine JL.dI (v1:=U8 13) (v2:=U8 10) (xs:=(A.map U8++(([] : List br.By)).map U8)) (fun b' cap'=>[⟨b',Sl.aG 5 1 (A.length+(([] : List br.By)).length+2) cap' ((A.map U8++(([] : List br.By)).map U8)++[U8 13,U8 10]),true⟩]) Tryz.underlying22 bQ rfl rfl rfl rfl rfl rfl rfl (fun _=>rfl) (by intro _ _;repeat (first | exact az.here | apply az.there)) (by omega) (by omega) rfl rfl fun bl2 b4 cap4=>?_
      rw [← hav]
      repeat (first | refine JL.q (by first|(apply OQ.move;rfl)|(apply OQ.assign;rfl)|(apply OQ.aT;rfl;rfl;exact (by (try simp only []);omega))) rfl ?_ | refine JC.region ?_ | refine JL.nil ?_ | refine JE.next ?_ | refine JE.ag ?_)
      refine JE.again (i:=(i,b,cap)) (i+1,b4,cap4) ⟨by show i+1≤_;omega,hnone'⟩ (by show L.rs.length - (i+1)<L.rs.length - i;omega) ?_ (.keep _ _ _ _ _ _ (fun o h=>?_) (.nil _))
      · dsimp only
        rw [eN]
        exact (by repeat (first | exact af.nil | refine af.cons _ _ _ rfl ?_))
      · dsimp only
        rw [eN,eV]
        exact h
  · have hi' : ¬ i<L.rs.length:=of_decide_eq_false h
    obtain rfl : i=L.rs.length:=by omega
    clear h hi hi'
    rw [List.take_of_length_le (by rw [List.length_map];exact Nat.le_refl _)] at hnone
    have eU : mU s.l=([],[],7):=by
      unfold mU
      rw [eUB,kz _ hnone]
      rfl
    rw [eU]
    repeat (first | refine JL.q (by (apply OQ.assign;rfl)) rfl ?_ | refine JC.seq ?_ | refine JC.region ?_ | refine JC.exit ?_ | refine JL.nil ?_ | refine JE.next ?_ | refine JE.av ?_ | refine JE.aF ?_)
    refine JC.ret (JE.oV rfl (RV.tmp rfl) (RV.tmp rfl) (RV.tmp rfl) ?_)
    exact fun w' hw=>⟨(tJ,tJ),rfl,rfl,rfl,hE.trans hw.aS,j8 _,j8 _⟩
end
section
open Sl
theorem JL.upon {P : Program} {n : Nat} {w0 : World} {S : List Nat} {ops : Array Oper} {Q : Exit→Act→World→Prop} {l : List Oper} {E : Env} {M M' : List aN} (hp : M.Perm M') (h : JL P n w0 S ops Q l E M') : JL P n w0 S ops Q l E M:=
  ⟨fun a w ha hw=>h.go a w ha ⟨hw.aS,(hp.map aN.b).nodup_iff.1 hw.nodup,fun e he=>hw.all e (hp.mem_iff.2 he)⟩⟩
theorem JL.less {P : Program} {n : Nat} {w0 : World} {S : List Nat} {ops : Array Oper} {Q : Exit→Act→World→Prop} {l : List Oper} {E : Env} {M M' : List aN} (hM : aq M' M) (h : JL P n w0 S ops Q l E M') : JL P n w0 S ops Q l E M:=
  ⟨fun a w ha hw=>h.go a w ha (hw.weak hM)⟩
end
section
set_option maxRecDepth 10000
open Sl br
theorem yP : ∀ v ∈ ([U8 13,U8 10] : List Value),v.cells=#[v]:=by
  intro v hv
  simp only [List.mem_cons,List.not_mem_nil,or_false] at hv
  rcases hv with rfl | rfl <;> rfl
def xX (A r : List br.By) : List br.By × List br.By × Nat:=match gw (bB r).1 with
  | some p=>(A++aE p.1,aE p.2++(bB r).2,0)
  | none=>([],[],7)
theorem uL (r : List br.By) : mU r=xX [] r:=by
  unfold mU fz xX
  cases gw (bB r).1 <;> rfl
theorem Ag {A r : List br.By} (h : dr r) : xX A r=([],[],7):=by
  unfold xX
  rw [iN h]
  rfl
theorem uM {A r : List br.By} {i : Nat} (h : bT r i) (hn : ∀ j,j<i→¬ bT r j) (hp : r.take i=[46]) : xX A r=(A,r.drop (i+2),0):=by
  unfold xX
  rw [fh h hn,hp]
  have e : gw ([46]::(bB (r.drop (i+2))).1)=some ([],(bB (r.drop (i+2))).1):=by
    show (if ([46] : List br.By)=[46] then _ else _)=_
    rw [if_pos rfl]
  simp only [e]
  rw [de]
  show (A++[],_,_)=_
  rw [List.append_nil]
theorem xd {A r : List br.By} {i : Nat} (h : bT r i) (hn : ∀ j,j<i→¬ bT r j) (hp : ¬ r.take i=[46]) : xX A r=xX (A++en (r.take i)++[13,10]) (r.drop (i+2)):=by
  unfold xX
  rw [fh h hn]
  have e : gw (r.take i::(bB (r.drop (i+2))).1)=(gw (bB (r.drop (i+2))).1).map fun p=>(en (r.take i)::p.1,p.2):=by
    show (if r.take i=[46] then _ else _)=_
    rw [if_neg hp]
  simp only [e]
  cases gw (bB (r.drop (i+2))).1 with
  | none=>rfl
  | some p=>
    show (A++((en (r.take i)++[13,10])++aE p.1),_,_)=_
    simp only [List.append_assoc]
theorem zw (l : List br.By) : preB l [46]=true↔l.head?=some 46:=by
  unfold preB
  cases l with
  | nil=>simp
  | cons c l=>
    rw [Bool.and_eq_true,decide_eq_true_eq,decide_eq_true_eq]
    simp only [List.length_cons,List.length_nil,List.take_succ_cons,List.take_zero,List.head?_cons,Option.some.injEq,List.cons.injEq,and_true]
    exact ⟨fun h=>h.2,fun h=>⟨by omega,h⟩⟩
theorem Ah (x d : aB) (hd : d.l=[46]) : (trimS x d).l=en x.l:=by
  unfold trimS en
  rw [hd]
  by_cases h : x.l.head?=some 46
  · rw [if_pos ((zw _).2 h),if_pos h]
    show x.l.drop 1=_
    rw [List.drop_one]
  · rw [if_neg (fun e=>h ((zw _).1 e)),if_neg h]
theorem Ai (l : List br.By) : (en l).length≤l.length:=by unfold en;split <;> simp
end
section
set_option maxRecDepth 10000
open Sl br
set_option maxHeartbeats 16000000 in
theorem qa (s : aB) (w : World) (hs : s.ok w) (hl : s.l.length≤4000000) (hm : e7 w) {mm rr : List Bt} (hu : fz s.l=some (mm,rr)) : Calls Tryz.prog 76 [s.v].toArray w
    fun e w'=>∃ q : {q : Acc × aB // q.1=none→mm=[]},e=.returned (.tuple #[ak q.1.1 mm.length,q.1.2.v,N 0])∧aa w [] (aL 5 q.1.1 (mm.map U8)) w':=by
  have hu' : mU s.l=(mm,rr,0):=by unfold mU;rw [hu]
  refine enter (n:=35) Tryz.func76 rfl rfl rfl (aa.start w []) ?_
  repeat (first | refine JL.q (by (apply OQ.assign;rfl)) rfl ?_ | refine JC.seq ?_ | refine JC.region ?_ | refine JC.block ?_ | refine JL.nil ?_ | refine JE.next ?_)
  refine JC.loop (fun z : aB × List br.By × Acc=>[(0,z.1.v),(2,ak z.2.2 (z.2.1.map U8).length)]) (fun z=>aL 5 z.2.2 (z.2.1.map U8)) (fun z=>z.1.l.length)
    (fun z=>z.1.ok w∧(z.2.2=none→z.2.1=[])∧z.2.1.length+z.1.l.length≤s.l.length∧mU s.l=xX z.2.1 z.1.l) (s,[],none)
    ⟨hs,fun _=>rfl,by simp,uL _⟩ (by repeat (first | exact af.nil | refine af.cons _ _ _ rfl ?_)) (aq.refl _) ?_
  rintro ⟨y,A,q⟩ ⟨hy,hq,hrl,hsp⟩
  dsimp only at hy hq hrl hsp ⊢
  have hyl : y.l.length≤4000000:=by omega
  repeat (first | refine JL.q (by (apply OQ.move;rfl)) rfl ?_ | refine JC.seq ?_ | refine JC.region ?_ | refine JC.block ?_)
  refine JL.lX (xs:=[.const (U8 13),.const (U8 10)]) (vs:=[U8 13,U8 10]) Tryz.underlying22 bQ rfl rfl rfl rfl yP rfl (by decide) (by decide) rfl fun bl _=>?_
  refine JL.mark (r:=[U8 13,U8 10]) (te:=5) Tryz.underlying22 Tryz.underlying5 rfl .here rfl ?_
  rcases jq y.l with ⟨hc,hno⟩ | ⟨i,hc,hi2,hat,hnb⟩
  · rw [Ag hno] at hsp
    rw [hu'] at hsp
    cases hsp
  · have hlc : (y.cut i).l.length=i:=by show (y.l.take i).length=i;rw [List.length_take];omega
    have hcl : (y.cut i).l=y.l.take i:=rfl
    by_cases h46 : y.l.take i=[46]
    · rw [uM hat hnb h46] at hsp
      repeat (first | refine JL.q (by first|(apply OQ.an (vs:=[y.v,aB.v ⟨some ⟨bl,0,none⟩,2,[13,10]⟩]);exact pT;rfl;exact (fun w' hw'=>sN y ⟨some ⟨bl,0,none⟩,2,[13,10]⟩ w' (hy.holds hw' rfl) (gJ (l:=[13,10]) hw' .here (Nat.le_refl _)) rfl (by omega) (hm.ext hw'.aS) hc hi2))|(apply OQ.extract;rfl;rfl)|(apply OQ.not;rfl)|(apply OQ.move;rfl)|(apply OQ.assign;rfl)) rfl ?_ | refine JC.seq ?_ | refine JC.region ?_ | refine JC.block ?_ | refine JL.nil ?_ | refine JE.next ?_)
      refine JC.cond_false rfl rfl ?_
      repeat (first | refine JL.q (by first|(apply OQ.qQ (s:=y.cut i);exact Tryz.underlying22;exact Tryz.underlying5;exact Tryz.underlying9;rfl;exact (fun w' hw'=>(hy.holds hw' rfl).cut i))|(apply OQ.zd (r:=[46]);rfl;rfl;exact h46)|(apply OQ.move;rfl)|(apply OQ.assign;rfl)) rfl ?_ | refine JC.seq ?_ | refine JC.region ?_ | refine JL.nil ?_ | refine JE.next ?_)
      refine JC.cond_true rfl rfl ?_
      have hdl : (y.snd (i+2)).l=y.l.drop (i+2):=rfl
      have hdn : (y.snd (i+2)).l.length≤4000000:=by rw [hdl,List.length_drop];omega
      repeat (first | refine JL.q (by (apply OQ.move;rfl)) rfl ?_ | refine JC.seq ?_ | refine JC.region ?_)
      refine JL.cE (ι:={ q : Acc // q=none→(y.snd (i+2)).l=[] }) (fun q=>ak q.1 (y.snd (i+2)).l.length) (fun q=>aL 5 q.1 ((y.snd (i+2)).l.map U8)) ry rfl rfl (fun q=>cN _ _ _) (fun w' hw'=>(mQ (y.snd (i+2)) w' ((hy.holds hw' rfl).snd _ hi2) (by omega)).mono fun e w2 ⟨q,h1,h2,h3⟩=>⟨⟨q,h2⟩,h1,h3⟩) ?_
      rintro ⟨q2,hq2⟩
      dsimp only
      repeat (first | refine JL.q (by (apply OQ.assign;rfl)) rfl ?_ | refine JL.nil ?_ | refine JE.next ?_)
      refine JC.ret ?_
      repeat (first | refine JE.ah ?_ | refine JE.aW ?_)
      refine JE.oV rfl (RV.tmp rfl) (RV.tmp rfl) (RV.tmp rfl) ?_
      intro w' hw
      rw [hu'] at hsp
      obtain ⟨rfl,hr,-⟩ : mm=A∧rr=y.l.drop (i+2)∧True:=by
        have h1:=Prod.mk.inj hsp
        exact ⟨h1.1,(Prod.mk.inj h1.2).1,trivial⟩
      refine ⟨⟨(q,dL q2 (y.snd (i+2)).l),hq⟩,?_,hw.weak (c7 _ (.drop _ _ _ (aq.refl _)))⟩
      show _=Ending.returned (.tuple #[ak q mm.length,(dL q2 _).v,_])
      rw [jx,List.length_map]
      rfl
    · rw [xd hat hnb h46] at hsp
      repeat (first | refine JL.q (by first|(apply OQ.an (vs:=[y.v,aB.v ⟨some ⟨bl,0,none⟩,2,[13,10]⟩]);exact pT;rfl;exact (fun w' hw'=>sN y ⟨some ⟨bl,0,none⟩,2,[13,10]⟩ w' (hy.holds hw' rfl) (gJ (l:=[13,10]) hw' .here (Nat.le_refl _)) rfl (by omega) (hm.ext hw'.aS) hc hi2))|(apply OQ.extract;rfl;rfl)|(apply OQ.not;rfl)|(apply OQ.move;rfl)|(apply OQ.assign;rfl)) rfl ?_ | refine JC.seq ?_ | refine JC.region ?_ | refine JC.block ?_ | refine JL.nil ?_ | refine JE.next ?_)
      refine JC.cond_false rfl rfl ?_
      repeat (first | refine JL.q (by first|(apply OQ.qQ (s:=y.cut i);exact Tryz.underlying22;exact Tryz.underlying5;exact Tryz.underlying9;rfl;exact (fun w' hw'=>(hy.holds hw' rfl).cut i))|(apply OQ.AQ (r:=[46]);rfl;rfl;exact h46)|(apply OQ.move;rfl)|(apply OQ.assign;rfl)) rfl ?_ | refine JC.seq ?_ | refine JC.region ?_ | refine JL.nil ?_ | refine JE.next ?_)
      refine JC.cond_false rfl rfl ?_
      repeat (first | refine JL.q (by (apply OQ.move;rfl)) rfl ?_ | refine JC.seq ?_ | refine JC.region ?_ | refine JC.skip ?_ | refine JE.next ?_ | refine JE.ag ?_)
      refine JL.lV (v:=U8 46) Tryz.underlying22 bQ rfl rfl rfl rfl fun bp _=>?_
      refine JL.mark (r:=[U8 46]) (te:=5) Tryz.underlying22 Tryz.underlying5 rfl .here rfl ?_
      have htl:=Ah (y.cut i) ⟨some ⟨bp,0,none⟩,1,[46]⟩ rfl
      have htn:=Ai (y.cut i).l
      rw [hlc] at htn
      refine JL.q (OQ.an (vs:=[(y.cut i).v,aB.v ⟨some ⟨bp,0,none⟩,1,[46]⟩]) uC rfl (fun w' hw'=>wP (y.cut i) ⟨some ⟨bp,0,none⟩,1,[46]⟩ w' ((hy.holds hw' rfl).cut i) (gJ (l:=[46]) hw' .here (Nat.le_refl _)))) rfl ?_
      have htok : ∀ w',w'.heap.size=w'.heap.size→(y.cut i).ok w'→(trimS (y.cut i) ⟨some ⟨bp,0,none⟩,1,[46]⟩).ok w':=fun w' _ h=>wO h
      generalize trimS (y.cut i) ⟨some ⟨bp,0,none⟩,1,[46]⟩=x at htl htok ⊢
      rw [hcl] at htl htn
      rw [← htl] at htn hsp
      refine JL.upon (M':=aL 5 q (A.map U8)++[⟨bp,ou 5 [U8 46],true⟩,⟨bl,ou 5 [U8 13,U8 10],true⟩]) (List.perm_append_comm (l₁:=([⟨bp,ou 5 [U8 46],true⟩,⟨bl,ou 5 [U8 13,U8 10],true⟩] : List aN))) ?_
      refine JL.iV (cs:=x.l.map U8) (m:=x.l.length) (ad:=x.ad) (sc:=x.cap) q Tryz.underlying22 bQ (fun h=>by rw [hq h];rfl) rfl rfl (by rw [List.length_map]) (fun w' hw'=>(htok w' rfl ((hy.holds hw' rfl).cut i)).reads) (c8 _) rfl (by rw [List.length_map];omega) (by rw [List.length_map];omega) rfl fun q3 hq3=>?_
      rw [← List.map_append]
      repeat (first | refine JL.q (by first|(apply OQ.move;rfl)|(apply OQ.assign;rfl)) rfl ?_ | refine JC.seq ?_ | refine JC.region ?_ | refine JL.nil ?_ | refine JE.next ?_)
      refine JL.gR (r:=[13,10]) q3 Tryz.underlying22 Tryz.underlying9 bQ (fun h=>by rw [List.map_append];exact hq3 h) rfl rfl (by simp) (by rw [List.length_map,List.length_append];show _+2≤_;omega) rfl fun p4=>?_
      rw [← List.map_append]
      repeat (first | refine JL.q (by first|(apply OQ.move;rfl)|(apply OQ.assign;rfl)) rfl ?_ | refine JC.region ?_ | refine JL.nil ?_ | refine JE.next ?_ | refine JE.ag ?_)
      refine JE.again (i:=(y,A,q)) (y.snd (i+2),A++x.l++[13,10],some p4) ⟨hy.snd _ hi2,(fun h=>by cases h),?_,hsp⟩ ?_ (by repeat (first | exact af.nil | refine af.cons _ _ _ rfl ?_)) ?_
      · show (A++x.l++[13,10]).length+(y.l.drop (i+2)).length≤_
        rw [List.length_append,List.length_append,List.length_drop]
        show A.length+x.l.length+2+_≤_
        omega
      · show (y.l.drop (i+2)).length<y.l.length
        rw [List.length_drop]
        omega
      · exact ew _ _
end
section
namespace dF
open br (bT dr bB aE gw fz en fh iN)
theorem lO : ∀ (ls : List (List By)) (p : List (List By) × List (List By)),gw ls=some p→(aE p.1).length+(aE p.2).length≤(aE ls).length
  | [],_,h=>by cases h
  | l::ls,p,h=>by
    have e2 : aE (l::ls)=(l++[13,10])++aE ls:=rfl
    have hu : (en l).length≤l.length:=by unfold en;split <;> simp
    rw [gw] at h
    rw [e2]
    split at h
    · obtain rfl:=(Option.some.inj h).symm
      simp [aE]
      omega
    · cases h1 : gw ls with
      | none=>rw [h1] at h;cases h
      | some q=>
        rw [h1] at h
        obtain rfl:=(Option.some.inj h).symm
        have ih:=lO ls q h1
        have e1 : aE (en l::q.1)=(en l++[13,10])++aE q.1:=rfl
        simp only [e1,List.length_append,List.length_cons,List.length_nil] at *
        omega
theorem qc (d m r : List By) (hb : fz d=some (m,r)) : m.length≤d.length:=by
  have h2:=congrArg List.length (br.de d)
  rw [List.length_append] at h2
  unfold fz at hb
  cases h : gw (bB d).1 with
  | none=>rw [h] at hb;cases hb
  | some p=>
    rw [h] at hb
    have:=lO _ _ h
    obtain ⟨rfl,rfl⟩:=Prod.mk.inj (Option.some.inj hb)
    omega
theorem xe (d m r : List By) (hb : fz d=some (m,r)) : r.length≤d.length:=by
  have h2:=congrArg List.length (br.de d)
  rw [List.length_append] at h2
  unfold fz at hb
  cases h : gw (bB d).1 with
  | none=>rw [h] at hb;cases hb
  | some p=>
    rw [h] at hb
    have:=lO _ _ h
    obtain ⟨rfl,rfl⟩:=Prod.mk.inj (Option.some.inj hb)
    rw [List.length_append]
    omega
structure Po.wf (S : Po) : Prop where
  dl : Dl S.dt
  ne : dr S.ln
theorem mV : dr []:=fun i h=>by cases h.1
theorem xg : new.wf:=⟨Dl.nil,mV⟩
theorem rE {a y : List By} (h : dr a) (hy : ∀ c ∈ y,c≠10) : dr (a++y):=by
  rintro i ⟨h1,h2⟩
  by_cases hi : i+1<a.length
  · rw [List.getElem?_append_left (by omega)] at h1
    rw [List.getElem?_append_left hi] at h2
    exact h i ⟨h1,h2⟩
  · rw [List.getElem?_append_right (by omega)] at h2
    exact hy 10 (List.mem_of_getElem? h2) rfl
theorem sU (S : Po) (l : List By) : (aZ S l).1.dt=S.dt∨(aZ S l).1.dt=[]:=by
  unfold aZ
  split
  · exact .inl rfl
  split
  · unfold dZ
    split
    · exact .inr rfl
    · exact .inl rfl
  split
  · unfold bW
    repeat' split
    all_goals exact .inl rfl
  split
  · unfold dP
    repeat' split
    all_goals exact .inl rfl
  split
  · unfold dy
    repeat' split
    all_goals exact .inl rfl
  split
  · unfold dj
    repeat' split
    all_goals first | exact .inl rfl | exact .inr rfl
  split
  · unfold gi
    split
    · exact .inr rfl
    · exact .inl rfl
  · exact .inl rfl
theorem yQ {d : List By} (h : Dl d) : fz (d++[46,13,10])=some (cu d,[]):=by
  have h0 : fz ([46,13,10] : List By)=some ([],[]):=gO (i:=1) ⟨rfl,rfl⟩ (fun j hj hh=>by
    obtain rfl : j=0:=by omega
    exact absurd hh.1 (by decide)) rfl
  rw [h [46,13,10],h0]
  show some (cu d++[],[])=_
  rw [List.append_nil]
theorem xh {S : Po} (h : S.wf) (to : S.to.length≤10) {x : List By} (h0 : x≠[]) (hx : ∀ c ∈ x.dropLast,c≠10) : (bE S x).1.wf:=by
  obtain ⟨y,c,rfl⟩:=(List.eq_nil_or_concat x).resolve_left h0
  rw [List.concat_eq_append] at *
  rw [List.dropLast_concat] at hx
  have hne : dr (S.ln++y):=rE h.ne hx
  unfold bE
  cases he : ends (S.ln++(y++[c])) with
  | false=>
    refine ⟨h.dl,?_⟩
    show dr (S.ln++(y++[c]))
    rintro i ⟨h1,h2⟩
    have hl2:=(List.getElem?_eq_some_iff.1 h2).1
    rw [← List.append_assoc] at h1 h2 hl2
    rw [List.length_append,List.length_singleton] at hl2
    by_cases hi : i+1<(S.ln++y).length
    · rw [List.getElem?_append_left (by omega)] at h1
      rw [List.getElem?_append_left hi] at h2
      exact hne i ⟨h1,h2⟩
    · have hi1 : i+1=(S.ln++y).length:=by omega
      rw [List.getElem?_append_right (by omega),hi1,Nat.sub_self] at h2
      obtain rfl : c=10:=by simpa using h2
      have h13 : (S.ln++y).getLast?=some 13:=by
        rw [List.getElem?_append_left (by omega)] at h1
        rw [List.getLast?_eq_getElem?,← hi1,Nat.add_sub_cancel]
        exact h1
      have : ends (S.ln++(y++[10]))=true:=by
        unfold ends
        rw [← List.append_assoc,List.dropLast_concat,h13,List.getLast?_concat]
        rfl
      rw [this] at he
      cases he
  | true=>
    rw [if_pos rfl]
    have hi:=j5 he
    have hln:=tv (S:=⟨S.st,S.fr,S.to,[],S.dt,S.ms⟩) rfl (S.ln++(y++[c])).dropLast.dropLast to
    generalize (S.ln++(y++[c])).dropLast.dropLast=l at hi hln ⊢
    have e13 : S.ln++y=l++[13]:=by
      have h1 : (S.ln++y)++[c]=(l++[13])++[10]:=by simpa using hi
      exact (List.append_inj' h1 rfl).1
    rw [e13] at hne
    refine ⟨?_,by rw [hln];exact mV⟩
    unfold bn
    split
    · split
      · exact Dl.nil
      · rename_i h46
        refine (h.dl.AE l l.length rfl (fun x j hj hh=>?_) h46).2
        refine hne j ⟨?_,?_⟩
        · have:=hh.1
          rw [List.append_assoc,List.getElem?_append_left hj] at this
          rw [List.getElem?_append_left hj]
          exact this
        · have h2:=hh.2
          by_cases hj1 : j+1<l.length
          · rw [List.append_assoc,List.getElem?_append_left hj1] at h2
            rw [List.getElem?_append_left hj1]
            exact h2
          · rw [List.append_assoc,List.getElem?_append_right (by omega),show j+1 - l.length=0 by omega] at h2
            cases h2
    · rcases sU ⟨S.st,S.fr,S.to,[],S.dt,S.ms⟩ l with e | e
      · show Dl (aZ _ l).1.dt
        rw [e]
        exact h.dl
      · show Dl (aZ _ l).1.dt
        rw [e]
        exact Dl.nil
end dF
end
section
set_option maxRecDepth 10000
open Sl
namespace dF
theorem bg {α : Type} {a b : List α} (h : ∀ (_ : BEq α) (_ : LawfulBEq α) (x : α),a.count x=b.count x) : a.Perm b:=by
  classical
  exact List.perm_iff_count.2 fun x=>h inferInstance inferInstance x
structure jh (w : World) (S : List Nat) : Prop where
  m : e7 w
  no : 0 ∉ S
theorem jh.lt {w : World} {S : List Nat} (h : jh w S) : 0<w.heap.size:=by
  obtain ⟨m,hm⟩:=h.m
  exact block_lt_of_cell hm
theorem jh.at {w w' : World} {S : List Nat} {M : List aN} (h : jh w S) (hw : aa w S M w') : e7 w':=by
  have hlt:=h.lt
  obtain ⟨m,hm⟩:=h.m
  refine ⟨m,?_⟩
  have:=hw.aS.block _ hlt h.no
  rw [← hm]
  simp only [World.cell?,this]
theorem jh.sub {w w' : World} {S : List Nat} {X M : List aN} (h : jh w S) (hw : aa w S (X++M) w') (hX : ∀ e ∈ X,e.wr=true) : jh w' (keys X):=by
  refine ⟨h.at hw,fun hm=>?_⟩
  have hlt:=h.lt
  obtain ⟨e,he,hb⟩:=List.mem_map.1 hm
  rcases (hw.all e (List.mem_append_left _ he)).2 (hX e he) with k | k
  · exact h.no (hb ▸ k)
  · omega
theorem uN : aO Tryz.prog 73:=⟨_,Tryz.func73,rfl,by kernel_rfl⟩
theorem mW : aO Tryz.prog 76:=⟨_,Tryz.func76,rfl,by kernel_rfl⟩
theorem JC.sV {P : Program} {n : Nat} {w0 : World} {S : List Nat} {Q : Exit→Act→World→Prop} {c : Code} {E : Env} {M M' : List aN} (h : JC P n w0 S Q c E M') (hp : M.Perm M') : JC P n w0 S Q c E M:=⟨fun a w ha hw=>h.go a w ha (hw.perm' hp)⟩
theorem qe (b : Nat) (z : Pw) (w : World) (h0 : aa w [b] [⟨b,Row 75 z.cs,true⟩] w) : Calls Tryz.prog 105 [Pt b 0].toArray w fun e w'=>e=.returned (.tuple #[])∧aa w [b] [⟨b,Row 75 (z.cg 1).cs,true⟩] w':=by
  refine enter (n:=14) Tryz.func105 rfl rfl rfl h0 ?_
  repeat (first | refine JL.q (by first|(apply OQ.move;rfl)|(apply OQ.aV;rfl)|(apply OQ.bG;rfl;rfl;rfl;exact (by decide);rfl)) rfl ?_ | refine JC.seq ?_ | refine JC.region ?_)
  refine JL.kZ 1 rfl rfl ?_
  repeat (first | refine JL.q (by first|(apply OQ.move;rfl)|(apply OQ.aV;rfl)|(apply OQ.bG;rfl;rfl;rfl;exact (by decide);rfl)) rfl ?_ | refine JC.region ?_ | refine JL.nil ?_ | refine JE.next ?_)
  refine JL.vS [] rfl rfl ?_
  repeat (refine JL.q (by first|(apply OQ.aV;rfl)|(apply OQ.bG;rfl;rfl;rfl;exact (by decide);rfl)) rfl ?_)
  refine JL.sA none [] rfl rfl ?_
  repeat (refine JL.q (by first|(apply OQ.aV;rfl)|(apply OQ.bG;rfl;rfl;rfl;exact (by decide);rfl)) rfl ?_)
  refine JL.sB none [] rfl rfl ?_
  repeat (refine JL.nil ?_)
  exact JE.x9 rfl fun w' hw=>⟨rfl,hw⟩
theorem JL.xj {n : Nat} {w0 : World} {S : List Nat} {ops : Array Oper} {Q : Exit→Act→World→Prop} {l : List Oper} {E : Env} {d : Nat} {ty : TypeId} {pos : String} {aft : Array Edge} {x : Operand} {ats : Array TypeId} {b : Nat} {z : Pw} {M0 : List aN}
    (hx : ev E x=some (Pt b 0)) (hd : Nat.blt d n=true) (kk : JL Tryz.prog n w0 S ops Q l ((d,.tuple #[])::E) (⟨b,Row 75 (z.cg 1).cs,true⟩::M0)) : JL Tryz.prog n w0 S ops Q (⟨some d,.call ⟨.value (.func 105),#[x],ats⟩,ty,pos,aft,none⟩::l) E (⟨b,Row 75 z.cs,true⟩::M0):=
  JL.iw (X:=[⟨b,Row 75 z.cs,true⟩]) (M0:=M0) (xs:=[x]) (ι:=Unit) (vs:=[Pt b 0]) (fun _=>.tuple #[]) (fun _=>[⟨b,Row 75 (z.cg 1).cs,true⟩]) jd (by simp [fQ,hx]) hd (fun e he=>by rw [List.mem_singleton.1 he]) (fun _ e he=>by rw [List.mem_singleton.1 he]) (fun w' _ hx=>(qe b z w' hx).mono fun e w2 ⟨h1,h2⟩=>⟨(),h1,h2⟩) fun _=>kk
theorem qg (f : List Bt) (q q2 : Acc) (k k2 : Nat) : Program.built Tryz.prog 38 [(0,Z f),(1,ak q k),(2,ak q2 k2)]=some [Z f,ak q k,ak q2 k2].toArray:=by
  cases q <;> cases q2 <;> rfl
theorem nS (z : Mz) : ∀ v ∈ z.cs,v.oneCell'=true:=by
  intro v hv
  unfold Mz.cs at hv
  simp only [List.mem_cons,List.not_mem_nil,or_false] at hv
  rcases hv with rfl | rfl | rfl
  · rfl
  · exact fk _ _
  · exact fk _ _
theorem xk (z : Mz) : z.cs.all (fun v=>v.oneCell')=true:=List.all_eq_true.2 (nS z)
theorem BO : zc Tryz.prog 38=some [Z [],.slice none 0 0,.slice none 0 0]:=by kernel_rfl
theorem ow : gv Tryz.prog 38=some 3:=by kernel_rfl
set_option maxHeartbeats 16000000 in
theorem xl (b : Nat) (z : Pw) (S : Po) (ok : z.ok) (hs : z.is S) (hn : S.ln=[]) (hsz : S.dt.length+S.ms.length≤1000000) {mm rr : List Bt} (hu : br.fz (S.dt++[46,13,10])=some (mm,rr)) (w : World) (hm : jh w (keys (z.E b))) (h0 : aa w (keys (z.E b)) (z.E b) w) : Calls Tryz.prog 73 [Pt b 0].toArray w (fo (keys (z.E b)) b (gy S) w):=by
  have hmo : cu S.dt=mm:=by unfold cu;rw [hu];rfl
  have hml : mm.length≤S.dt.length+3:=by simpa using qc _ _ _ hu
  have hdl : z.dt.length=S.dt.length:=by rw [hs.dt]
  have hzl : z.zs.length=S.ms.length:=by rw [← hs.ms,List.length_map]
  rw [show S.dt=z.dt from hs.dt.symm] at hu
  generalize hS : keys (z.E b)=S0 at h0 hm ⊢
  refine enter (n:=42) Tryz.func73 rfl rfl rfl h0 ?_
  repeat (first | refine JL.q (by first|(apply OQ.load;exact dY;rfl;exact .here;exact (Row.cell (v:=ak z.qd z.dt.length) rfl))|(apply OQ.move;rfl)|(apply OQ.assign;rfl)|(apply OQ.aV;rfl)|(apply OQ.bG;rfl;rfl;rfl;exact (by decide);rfl)) rfl ?_ | refine JC.seq ?_ | refine JC.region ?_ | refine JL.nil ?_ | refine JE.next ?_)
  refine JL.perm (M':=aL 5 z.qd (z.dt.map U8)++(⟨b,Row 75 z.cs,true⟩::(z.T++(z.L++z.M)))) ?_ (bg fun _ _ y=>by simp only [Pw.E,Pw.R,Pw.M,Pw.D,List.count_append,List.count_cons,List.count_nil];omega)
  refine JL.gR (r:=[46,13,10]) z.qd Tryz.underlying22 Tryz.underlying9 bQ (fun h=>by rw [ok.d h];rfl) (by rw [List.length_map];rfl) rfl (by simp) (by rw [List.length_map];show _+3≤_;omega) rfl fun p4=>?_
  rw [← List.map_append]
  have hv : aB.v ⟨some ⟨p4.1,0,none⟩,p4.2,z.dt++[46,13,10]⟩=ak (some p4) ((z.dt++[46,13,10]).map U8).length:=by rw [List.length_map];rfl
  have hcu : ∀ w',aa w S0 (aL 5 (some p4) ((z.dt++[46,13,10]).map U8)++(⟨b,Row 75 z.cs,true⟩::(z.T++(z.L++z.M)))) w'→Calls Tryz.prog 76 [ak (some p4) ((z.dt++[46,13,10]).map U8).length].toArray w' fun e w2=>∃ q : {q : Acc × aB // q.1=none→mm=[]},e=.returned (.tuple #[ak q.1.1 mm.length,q.1.2.v,N 0])∧aa w' [] (aL 5 q.1.1 (mm.map U8)) w2:=fun w' hw'=>by
    have:=qa ⟨some ⟨p4.1,0,none⟩,p4.2,z.dt++[46,13,10]⟩ w' (iE (q:=some p4) hw') (by simp;omega) (hm.at hw') hu
    rw [hv] at this
    exact this
  refine JL.cE (ι:={q : Acc × aB // q.1=none→mm=[]}) (vs:=[ak (some p4) ((z.dt++[46,13,10]).map U8).length]) (fun q=>.tuple #[ak q.1.1 mm.length,q.1.2.v,N 0]) (fun q=>aL 5 q.1.1 (mm.map U8)) mW rfl rfl ?_ ?_ ?_
  · exact fun q=>cN _ _ _
  · intro w1 hw1
    exact hcu w1 hw1
  rintro ⟨⟨q,q2⟩,hq⟩
  dsimp only at hq ⊢
  repeat (first | refine JL.q (by first|(apply OQ.extract;rfl;rfl)|(apply OQ.move;rfl)|(apply OQ.assign;rfl)) rfl ?_ | refine JC.seq ?_ | refine JL.nil ?_ | refine JE.next ?_)
  refine JC.eY (M':=aL 5 q (mm.map U8)++(⟨b,Row 75 z.cs,true⟩::(z.T++(z.L++z.M)))) ?_ (fJ (aq.refl _) (c7 _ (aq.refl _)))
  refine JC.sV (M':=⟨b,Row 75 z.cs,true⟩::(aL 5 q (mm.map U8)++(z.T++(z.L++z.M)))) ?_ (bg fun _ _ y=>by simp only [Pw.E,Pw.R,Pw.M,Pw.D,List.count_append,List.count_cons,List.count_nil];omega)
  obtain ⟨mz,hmz⟩ : ∃ mz : Mz,mz=⟨z.qt,q,⟨z.fr,z.to,mm⟩,ok.t,hq⟩:=⟨_,rfl⟩
  have hb : Program.built Tryz.prog 38 [(0,Z z.fr),(1,ak z.qt z.to.length),(2,ak q mm.length)]=some mz.cs.toArray:=by rw [hmz];exact qg _ _ _ _ _
  have hm3 : mz.cs.length=3:=by rw [hmz];rfl
  have hE : mz.E=z.T++aL 5 q (mm.map U8):=by rw [hmz];rfl
  let vs : Nat→Nat→Value:=fun j y=>match j with
    | 0=>Pt b 0
    | 1=>Pt b 0
    | 2=>Pt b 1
    | 3=>Z z.fr
    | 4=>Pt b 0
    | 5=>Pt b 0
    | 6=>Pt b 2
    | 7=>ak z.qt z.to.length
    | 8=>ak q mm.length
    | 9=>.agg mz.cs.toArray
    | 10=>Pt y 0
    | _=>N 0
  let Ms : Nat→Nat→List aN:=fun j y=>match j with
    | 10=>[⟨y,Row 38 [Z [],.slice none 0 0,.slice none 0 0],true⟩]
    | 11=>[⟨y,Row 38 mz.cs,true⟩]
    | 12=>[⟨b,Row 75 z.cs,true⟩]
    | 13=>aL 5 q (mm.map U8)
    | 14=>z.T++(z.L++z.M)
    | _=>[]
  refine JC.grow (g:=⟨[(0,Pt b 0),(3,ak q mm.length)],15,vs,Ms,(fun j=>match j with | 1=>[(0,17)] | 2=>[(1,18)] | 3=>[(2,19)] | 5=>[(4,21)] | 6=>[(5,22)] | 7=>[(6,23)] | 9=>[(3,20),(7,24),(8,25)] | 11=>[(10,6),(9,26)] | _=>[]),(fun j=>match j with | 3=>[12] | 7=>[12] | 11=>[10] | _=>[]),(fun j=>match j with | 11=>[10] | _=>[]),(fun j=>match j with | 11=>some 10 | _=>none)⟩) [(10,6)] [12,11,13,14] fD (by repeat (first | exact af.nil | refine af.cons _ _ _ rfl ?_)) ?_ (by kernel_rfl) (by kernel_rfl) (by kernel_rfl) ?_ ?_
  · show aq (Ms 12 default++(Ms 13 default++(Ms 14 default++[]))) _;rw [List.append_nil];exact aq.refl _
  · refine ⟨?_,?_,?_,?_,?_,?_,?_,?_,?_,?_,?_,?_,trivial⟩
    · (intro xx EF MF Q kk;(try refine JL.aU rfl rfl ?_);exact JL.q (OQ.move rfl) rfl (JL.nil (kk default nofun)))
    · (intro xx EF MF Q kk;(try refine JL.aU rfl rfl ?_);exact JL.q (OQ.aV rfl) rfl (JL.nil (kk default nofun)))
    · (intro xx EF MF Q kk;(try refine JL.aU rfl rfl ?_);exact JL.q (OQ.bG rfl rfl rfl (by decide) rfl) rfl (JL.nil (kk default nofun)))
    · (intro xx EF MF Q kk;(try refine JL.aU rfl rfl ?_);exact JL.q (OQ.load bJ rfl .here (Row.cell (v:=Z z.fr) rfl)) rfl (JL.nil (kk default nofun)))
    · (intro xx EF MF Q kk;(try refine JL.aU rfl rfl ?_);exact JL.q (OQ.move rfl) rfl (JL.nil (kk default nofun)))
    · (intro xx EF MF Q kk;(try refine JL.aU rfl rfl ?_);exact JL.q (OQ.aV rfl) rfl (JL.nil (kk default nofun)))
    · (intro xx EF MF Q kk;(try refine JL.aU rfl rfl ?_);exact JL.q (OQ.bG rfl rfl rfl (by decide) rfl) rfl (JL.nil (kk default nofun)))
    · (intro xx EF MF Q kk;(try refine JL.aU rfl rfl ?_);exact JL.q (OQ.load b7 rfl .here (Row.cell (v:=ak z.qt z.to.length) rfl)) rfl (JL.nil (kk default nofun)))
    · (intro xx EF MF Q kk;(try refine JL.aU rfl rfl ?_);exact JL.q (OQ.move rfl) rfl (JL.nil (kk default nofun)))
    · (intro xx EF MF Q kk;(try refine JL.aU rfl rfl ?_);exact JL.q (OQ.eZ (cs:=mz.cs) (vs:=[Z z.fr,ak z.qt z.to.length,ak q mm.length]) [0,1,2] [.tmp 20,.tmp 24,.tmp 25] rfl rfl hb) rfl (JL.nil (kk default nofun)))
    · (intro xx EF MF Q kk;exact JL.alloc (r:=[Z [],.slice none 0 0,.slice none 0 0]) BO rfl fun b1 _=>JL.nil (kk b1 nofun))
    · (intro xx EF MF Q kk;exact JL.gP (cs:=mz.cs) ow rfl rfl hm3 (xk mz) .here rfl (JL.nil (kk (xx 10) (fun k h=>by cases h;rfl))))
  · intro xx hx
    have e11:=hx 11 10 (by decide) rfl
    show JE _ _ _ _ _ [(6,Pt (xx 10) 0),(0,Pt b 0),(3,ak q mm.length)] (⟨b,Row 75 z.cs,true⟩::(⟨xx 11,Row 38 mz.cs,true⟩::(aL 5 q (mm.map U8)++((z.T++(z.L++z.M))++[]))))
    rw [e11,List.append_nil]
    generalize xx 10=ba
    clear hx e11 xx vs Ms
    repeat (first | refine JL.q (by (apply OQ.move;rfl)) rfl ?_ | refine JC.seq ?_ | refine JC.region ?_ | refine JE.next ?_)
    refine JL.xj rfl rfl ?_
    repeat (first | refine JL.q (by first|(apply OQ.ir;exact Tryz.underlying22;exact (fun h=>congrArg List.length (hq h));rfl)|(apply OQ.js (a:=mm.length) (b:=2097152);rfl;rfl;exact (by omega))|(apply OQ.move;rfl)) rfl ?_ | refine JC.seq ?_ | refine JC.region ?_ | refine JL.nil ?_ | refine JE.next ?_)
    refine JC.cond_false rfl rfl ?_
    repeat (first | refine JC.seq ?_ | refine JC.skip ?_ | refine JE.next ?_)
    have hq7 : ak z.qm z.zs.length=ak z.qm (z.zs.map Mz.cs).length:=by rw [List.length_map]
    refine JC.sV (M':=⟨b,Row 75 (z.cg 1).cs,true⟩::(⟨ba,Row 38 mz.cs,true⟩::(c9 38 3 z.qm (z.zs.map Mz.cs)++(aL 5 q (mm.map U8)++(z.T++(z.L++z.zs.flatMap Mz.E)))))) ?_ (bg fun _ _ y=>by simp only [Pw.E,Pw.R,Pw.M,Pw.D,List.count_append,List.count_cons,List.count_nil];omega)
    let vs : Nat→Nat × Nat→Value:=fun j y=>match j with
      | 0=>Pt b 0
      | 1=>Pt b 0
      | 2=>Pt b 0
      | 3=>Pt b 5
      | 4=>ak z.qm (z.zs.map Mz.cs).length
      | 5=>.agg mz.cs.toArray
      | 6=>.slice (some ⟨y.1,0,none⟩) 1 1
      | 7=>ak (some y) (z.zs.map Mz.cs++[mz.cs]).length
      | 8=>Pt b 0
      | 9=>Pt b 5
      | _=>N 0
    let Ms : Nat→Nat × Nat→List aN:=fun j y=>match j with
      | 6=>[⟨y.1,Row 38 mz.cs,true⟩]
      | 7=>c9 38 3 (some y) (z.zs.map Mz.cs++[mz.cs])
      | 10=>[⟨b,Row 75 [N 1,Z [],.slice none 0 0,ak z.ql z.ln.length,.slice none 0 0,ak (some y) (z.zs.map Mz.cs++[mz.cs]).length],true⟩]
      | 11=>[⟨b,Row 75 (z.cg 1).cs,true⟩]
      | 12=>[⟨ba,Row 38 mz.cs,true⟩]
      | 13=>c9 38 3 z.qm (z.zs.map Mz.cs)
      | 14=>aL 5 q (mm.map U8)++(z.T++(z.L++z.zs.flatMap Mz.E))
      | _=>[]
    refine JC.grow (g:=⟨[(0,Pt b 0),(6,Pt ba 0)],15,vs,Ms,(fun j=>match j with | 2=>[(1,33)] | 3=>[(2,34)] | 4=>[(3,35)] | 6=>[(5,37)] | 7=>[(4,36),(6,38)] | 8=>[(0,32)] | 9=>[(8,40)] | 10=>[(9,41),(7,39)] | _=>[]),(fun j=>match j with | 4=>[11] | 5=>[12] | 7=>[6,13] | 10=>[11] | _=>[]),(fun j=>match j with | 7=>[6,13] | 10=>[11] | _=>[]),(fun j=>match j with | 10=>some 7 | _=>none)⟩) [] [10,7,12,14] fD (by repeat (first | exact af.nil | refine af.cons _ _ _ rfl ?_)) ?_ (by kernel_rfl) (by kernel_rfl) (by kernel_rfl) ?_ ?_
    · show aq (Ms 11 default++(Ms 12 default++(Ms 13 default++(Ms 14 default++[])))) _;rw [List.append_nil];exact aq.refl _
    · refine ⟨?_,?_,?_,?_,?_,?_,?_,?_,?_,?_,?_,trivial⟩
      · (intro xx EF MF Q kk;(try refine JL.aU rfl rfl ?_);exact JL.q (OQ.move rfl) rfl (JL.nil (kk default nofun)))
      · (intro xx EF MF Q kk;(try refine JL.aU rfl rfl ?_);exact JL.q (OQ.move rfl) rfl (JL.nil (kk default nofun)))
      · (intro xx EF MF Q kk;(try refine JL.aU rfl rfl ?_);exact JL.q (OQ.aV rfl) rfl (JL.nil (kk default nofun)))
      · (intro xx EF MF Q kk;(try refine JL.aU rfl rfl ?_);exact JL.q (OQ.bG rfl rfl rfl (by decide) rfl) rfl (JL.nil (kk default nofun)))
      · (intro xx EF MF Q kk;(try refine JL.aU rfl rfl ?_);exact JL.q (OQ.to (OQ.load vQ rfl .here (Row.cell (v:=ak z.qm z.zs.length) rfl)) hq7) rfl (JL.nil (kk default nofun)))
      · (intro xx EF MF Q kk;(try refine JL.aU rfl rfl ?_);exact JL.q (OQ.er (cs:=mz.cs) qY ow rfl .here hm3 Row.all) rfl (JL.nil (kk default nofun)))
      · (intro xx EF MF Q kk;exact JL.zO (cs:=mz.cs) Tryz.underlying31 zU rfl (by decide) (by decide) rfl hm3 rfl fun b1 _=>JL.nil (kk (b1,0) nofun))
      · (intro xx EF MF Q kk;refine JL.perm (M':=⟨(xx 6).1,Row 38 mz.cs,true⟩::(c9 38 3 z.qm (z.zs.map Mz.cs)++MF)) ?_ (List.Perm.of_eq (by show (Ms 6 (xx 6)++(Ms 13 (xx 13)++[]))++MF=_;simp [Ms]));exact JL.sy (c:=mz.cs) z.qm Tryz.underlying31 zU (fun h=>by rw [ok.m h];rfl) rfl rfl hm3 (nS mz) rfl (by decide) (by rw [List.length_map];omega) (by rw [List.length_map];omega) rfl fun b' cap'=>JL.nil (kk (b',cap') nofun))
      · (intro xx EF MF Q kk;(try refine JL.aU rfl rfl ?_);exact JL.q (OQ.aV rfl) rfl (JL.nil (kk default nofun)))
      · (intro xx EF MF Q kk;(try refine JL.aU rfl rfl ?_);exact JL.q (OQ.bG rfl rfl rfl (by decide) rfl) rfl (JL.nil (kk default nofun)))
      · (intro xx EF MF Q kk;exact JL.cm (b:=b) (r:=(z.cg 1).cs) (r':=[N 1,Z [],.slice none 0 0,ak z.ql z.ln.length,.slice none 0 0,ak (some (xx 7)) (z.zs.map Mz.cs++[mz.cs]).length]) zi rfl rfl rfl rfl .here (show 5<6 by decide) rfl (JL.nil (kk (xx 7) (fun k h=>by cases h;rfl))))
    · intro xx hx
      have e10:=hx 10 7 (by decide) rfl
      show JE _ _ _ _ _ [(0,Pt b 0),(6,Pt ba 0)] (⟨b,Row 75 [N 1,Z [],.slice none 0 0,ak z.ql z.ln.length,.slice none 0 0,ak (some (xx 10)) (z.zs.map Mz.cs++[mz.cs]).length],true⟩::(⟨(xx 7).1,Sl.aG 38 3 (z.zs.map Mz.cs++[mz.cs]).length (xx 7).2 (z.zs.map Mz.cs++[mz.cs]).flatten,true⟩::(⟨ba,Row 38 mz.cs,true⟩::((aL 5 q (mm.map U8)++(z.T++(z.L++z.zs.flatMap Mz.E)))++[]))))
      rw [e10,List.append_nil]
      generalize xx 7=y
      clear hx e10 xx vs Ms
      rw [show z.zs.map Mz.cs++[mz.cs]=(z.zs++[mz]).map Mz.cs by simp]
      rw [List.length_map]
      repeat (first | refine JL.q (by (apply OQ.assign;rfl)) rfl ?_ | refine JC.seq ?_ | refine JC.region ?_ | refine JL.nil ?_ | refine JE.next ?_)
      refine JC.ret ?_
      skip
      refine JE.aC rfl (RV.tmp rfl) fun w' hw=>⟨⟨1,[],none,[],z.ql,z.ln,none,[],some y,z.zs++[mz]⟩,⟨⟨fun _=>rfl,ok.l,fun _=>rfl,nofun⟩,⟨rfl,rfl,rfl,jH hn hs _ hn,rfl,?_⟩⟩,rfl,?_⟩
      · rw [List.map_append,hs.ms,hmz]
        show S.ms++[⟨z.fr,z.to,mm⟩]=S.ms++[⟨S.fr,S.to,cu S.dt⟩]
        rw [hs.fr,hs.to,hmo]
      · have hw2 : aa w S0 (⟨b,Row 75 (Pw.cs ⟨1,[],none,[],z.ql,z.ln,none,[],some y,z.zs++[mz]⟩),true⟩::(c9 38 3 (some y) ((z.zs++[mz]).map Mz.cs)++(⟨ba,Row 38 mz.cs,true⟩::(aL 5 q (mm.map U8)++(z.T++(z.L++z.zs.flatMap Mz.E)))))) w':=by
          unfold c9
          rw [List.length_map]
          exact hw
        refine (hw2.perm' (M':=⟨ba,Row 38 mz.cs,true⟩::(Pw.E b ⟨1,[],none,[],z.ql,z.ln,none,[],some y,z.zs++[mz]⟩)) ?_).weak (.drop _ _ _ (aq.refl _))
        have hF : (z.zs++[mz]).flatMap Mz.E=z.zs.flatMap Mz.E++(z.T++aL 5 q (mm.map U8)):=by rw [List.flatMap_append,← hE];simp
        have hR : Pw.R ⟨1,[],none,[],z.ql,z.ln,none,[],some y,z.zs++[mz]⟩=z.L++(c9 38 3 (some y) ((z.zs++[mz]).map Mz.cs)++(z.zs++[mz]).flatMap Mz.E):=rfl
        unfold Pw.E
        rw [hR,hF]
        exact bg fun _ _ x=>by simp only [List.count_append,List.count_cons];omega
end dF
end
section
set_option maxRecDepth 10000
open Sl aI
def Bi (l : List Bt) : List Int:=l.map fun c=>(c.toNat : Int)
theorem Aj (l : List Bt) : Go.Lib.bytesOf (Bi l)=aI.bH l:=by
  unfold Go.Lib.bytesOf Bi aI.bH
  rw [List.map_map]
  refine List.map_congr_left fun c _=>?_
  show UInt8.ofNat ((c.toNat : Int)).toNat=_
  rw [Int.toNat_natCast]
  apply UInt8.toBitVec_inj.1
  exact BitVec.eq_of_toNat_eq (by simp)
theorem xm (c : aI.By) : ∀ l : List aI.By,Go.Lib.indexByte (aI.bH l) (UInt8.ofBitVec c)=jk c l
  | []=>rfl
  | d::r=>by
    show (if (UInt8.ofBitVec d == UInt8.ofBitVec c) then 0 else if Go.Lib.indexByte (aI.bH r) (UInt8.ofBitVec c) == -1 then -1 else Go.Lib.indexByte (aI.bH r) (UInt8.ofBitVec c)+1 : Int)=_
    rw [xm c r]
    unfold jk
    rw [eG]
    have hb : (UInt8.ofBitVec d == UInt8.ofBitVec c)=decide (d=c):=by
      by_cases h : d=c
      · subst h;simp
      · rw [decide_eq_false h]
        exact beq_eq_false_iff_ne.2 fun k=>h (congrArg UInt8.toBitVec k)
    rw [hb]
    by_cases hd : d=c
    · simp [hd]
    · simp only [hd,decide_false,Bool.false_eq_true,if_false,List.length_cons,Nat.add_lt_add_iff_right]
      by_cases h : fi c r<r.length
      · simp only [h,if_true]
        rw [if_neg (by rw [beq_iff_eq];omega)]
        omega
      · simp only [h,if_false]
        rfl
theorem OQ.BP {P : Program} {n : Nat} {E : Env} {w0 : World} {S : List Nat} {M : List aN} {dst : Option Tmp} {ty : TypeId} {pos : String} {aft : Array Edge} {g : Option (Nat × Bool)} {f : FuncId} {ats : Array TypeId} {x y : Operand} {s : aB} {c : Bt} (hf : nD P f) (hx : ev E x=some s.v) (hy : ev E y=some (U8 c)) (hs : ∀ w,aa w0 S M w→s.ok w) :
    OQ P n E (aa w0 S M) ⟨dst,.call ⟨.value (.func f),#[x,y],ats⟩,ty,pos,aft,g⟩ (I (jk c s.l)):=by
  refine ⟨fun ac hk w hw=>?_⟩
  obtain ⟨fn,h1,h2,h3,h4,h5⟩:=hf.go
  have hc : ((c.toNat : Int)).toNat.toUInt8=UInt8.ofBitVec c:=by
    rw [Int.toNat_natCast]
    apply UInt8.toBitVec_inj.1
    apply BitVec.eq_of_toNat_eq
    simp [Nat.toUInt8,UInt8.ofNat]
  have hr : (Extern.BytealgIndexByte.indexByte #[s.v,U8 c]).run P w=.ok (I (jk c s.l)) w:=by
    have ok:=hs w hw
    obtain ⟨ad,cap,l⟩:=s
    cases ad with
    | none=>
      have h0 : l=[]:=by
        cases l with
        | nil=>rfl
        | cons d l=>
          obtain ⟨b,j,k1,_⟩:=ok.reads.at (by simp)
          cases k1
      subst h0
      exact Lib.run_indexByteNil w 0 cap (c.toNat : Int)
    | some a=>
      have:=Lib.run_indexByteAt (P:=P) w a l.length cap (Bi l) (by unfold Bi;rw [List.length_map]) (fun i hi=>by
        obtain ⟨b,j,k1,k2⟩:=ok.reads _ _ (cw U8 0 hi)
        cases k1
        rw [bX,k2]
        unfold Bi
        rw [List.getD_eq_getElem?_getD,List.getD_eq_getElem?_getD,List.getElem?_map,List.getElem?_eq_getElem hi]
        rfl) (c.toNat : Int)
      rw [Aj,hc,xm] at this
      exact this
  have r:=run_callFunc_extern h1 h2 h3 h4 h5 #[s.v,U8 c] w
  rw [hr] at r
  unfold Oper.quietAt
  have r' : (execOp ac.eval ⟨dst,.call ⟨.value (.func f),#[x,y],ats⟩,ty,pos,aft,g⟩).run P w=.ok (.value (I (jk c s.l))) w:=by
    simp only [Result.andThen] at r
    have k1:=hk.eval hx
    have k2:=hk.eval hy
    have e : (.ok (.value (I (jk c s.l))) w : Result Next)=(callFunc f #[s.v,U8 c]).run P w:=r.symm
    rw [e]
    simp [execOp,resolve,Sem.run_bind,Act.eval,Deferred.ofValue,invoke,k1,k2]
    simp [Act.eval] at k1 k2
    simp [k1,k2]
  rw [r']
  exact ⟨rfl,rfl⟩
theorem yR : nD Tryz.prog 102:=⟨_,Tryz.func102,rfl,rfl,by kernel_rfl,by kernel_rfl⟩
theorem xo (s : aB) (c : Bt) (w : World) (hs : s.ok w) : Calls Tryz.prog 70 [s.v,U8 c].toArray w fun e w'=>e=.returned (I (jk c s.l))∧Ext w w':=by
  refine enter (n:=8) Tryz.func70 rfl rfl rfl (aa.start w []) ?_
  repeat (first | refine JL.q (by first|(apply OQ.BP;exact yR;rfl;rfl;exact (fun w' hw'=>hs.holds hw' rfl))|(apply OQ.move;rfl)|(apply OQ.assign;rfl)) rfl ?_ | refine JC.seq ?_ | refine JC.region ?_ | refine JL.nil ?_ | refine JE.next ?_)
  exact JC.ret (JE.aC rfl (RV.tmp rfl) fun w' hw=>⟨rfl,hw.aS⟩)
end
section
set_option maxRecDepth 10000
open Sl aI
namespace dF
theorem JC.nT {P : Program} {n : Nat} {w0 : World} {S : List Nat} {Q : Exit→Act→World→Prop} {E : Env} {M : List aN} {F : Prop} {c : Code} (h : ∀ w,aa w0 S M w→F) (k : F→JC P n w0 S Q c E M) : JC P n w0 S Q c E M:=⟨fun a w ha hw=>(k (h w hw)).go a w ha hw⟩
def fy (s : aB) (S : List Nat) : Prop:=s.l≠[]→∀ a,s.ad=some a→a.block ∉ S
theorem zx {w0 w : World} {S : List Nat} {M : List aN} {s : aB} (h : s.ok w0) (hw : aa w0 S M w) (ha : fy s S) : s.ok w:=
  ⟨h.len,hw.reads h.reads fun h0 a e=>ha (fun h1=>h0 (by rw [h1];rfl)) a e⟩
theorem xp (l : List Bt) : (tr l).length≤l.length:=by
  unfold tr
  split
  · rw [List.length_append,List.length_take,List.length_drop];omega
  · exact Nat.le_refl _
theorem Ak (l x : List Bt) : tr (tr l++x)=tr (l++x):=by
  by_cases h : 515<l.length
  · have e : tr l=l.take 513++l.drop (l.length - 2):=if_pos h
    rw [e]
    have h1 : (l.take 513).length=513:=by rw [List.length_take];omega
    have h2 : (l.drop (l.length - 2)).length=2:=by rw [List.length_drop];omega
    have hl : l=l.take (l.length - 2)++l.drop (l.length - 2):=(List.take_append_drop _ _).symm
    unfold tr
    rw [if_pos (show 515<(l++x).length by rw [List.length_append];omega)]
    have h3 : (l++x).take 513=l.take 513:=by rw [List.take_append_of_le_length (by omega)]
    have h4 : (l++x).drop ((l++x).length - 2)=(l.drop (l.length - 2)++x).drop x.length:=by
      have e2 : (l++x).length - 2=(l.take (l.length - 2)).length+x.length:=by rw [List.length_append,List.length_take];omega
      rw [e2]
      have e3 : l++x=l.take (l.length - 2)++(l.drop (l.length - 2)++x):=by rw [← List.append_assoc,← hl]
      rw [e3,← List.drop_drop,List.drop_left]
    rw [h3,h4]
    by_cases hx : x=[]
    · subst hx
      rw [if_neg (by simp only [List.length_append,h1,h2,List.length_nil];omega)]
      simp
    · have hx1 : 0<x.length:=List.length_pos_iff.2 hx
      rw [if_pos (by simp only [List.length_append,h1,h2];omega)]
      have h5 : (l.take 513++l.drop (l.length - 2)++x).take 513=l.take 513:=by
        rw [List.append_assoc,List.take_append_of_le_length (by omega),List.take_of_length_le (by omega)]
      have h6 : (l.take 513++l.drop (l.length - 2)++x).drop ((l.take 513++l.drop (l.length - 2)++x).length - 2)=(l.drop (l.length - 2)++x).drop x.length:=by
        have e2 : (l.take 513++l.drop (l.length - 2)++x).length - 2=(l.take 513).length+x.length:=by simp only [List.length_append,h1,h2];omega
        rw [e2,List.append_assoc,← List.drop_drop,List.drop_left]
      rw [h5,h6]
  · rw [show tr l=l from if_neg h]
def mo (st : Nat) : Nat:=if st=4 then 4194304 else 513
def kw (M : Nat) (l : List Bt) : Nat:=if fi 10 (l.take (min l.length M))<(l.take (min l.length M)).length then fi 10 (l.take (min l.length M))+1 else (l.take (min l.length M)).length
theorem zy (M : Nat) (l : List Bt) : kw M l≤min l.length M:=by
  have:=o6 10 (l.take (min l.length M))
  have h2 : (l.take (min l.length M)).length=min l.length M:=by rw [List.length_take];omega
  unfold kw
  split <;> omega
theorem zz (M : Nat) (l : List Bt) : kw M l≤l.length:=by have:=zy M l;omega
theorem Al {M : Nat} {l : List Bt} (h : 0<l.length) (hM : 0<M) : 0<kw M l:=by
  have h2 : (l.take (min l.length M)).length=min l.length M:=by rw [List.length_take];omega
  unfold kw
  split <;> omega
theorem Bj (M : Nat) (l : List Bt) : ∀ c ∈ (l.take (kw M l)).dropLast,c≠10:=by
  have hk:=zy M l
  have h2 : (l.take (min l.length M)).length=min l.length M:=by rw [List.length_take];omega
  have e : l.take (kw M l)=(l.take (min l.length M)).take (kw M l):=by rw [List.take_take,Nat.min_eq_left hk]
  rw [e]
  unfold kw at hk ⊢
  generalize l.take (min l.length M)=p at hk h2 ⊢
  by_cases hf : fi 10 p<p.length
  · rw [if_pos hf,List.dropLast_eq_take,List.length_take,Nat.min_eq_left (by omega),Nat.add_sub_cancel,List.take_take,Nat.min_eq_left (by omega)]
    intro c hc
    obtain ⟨j,hj⟩:=List.getElem?_of_mem hc
    have hlt:=(List.getElem?_eq_some_iff.1 hj).1
    rw [List.length_take] at hlt
    rw [List.getElem?_take_of_lt (by omega)] at hj
    have:=gU 10 p (j:=j) (by omega)
    rw [List.getD_eq_getElem?_getD,hj] at this
    exact this
  · rw [if_neg hf]
    intro c hc e10
    rw [List.take_length] at hc
    have hm : c ∈ p:=List.dropLast_subset _ hc
    rw [e10] at hm
    exact hf ((zj 10 p).2 hm)
theorem uO : aO Tryz.prog 32:=⟨_,Tryz.func32,rfl,by kernel_rfl⟩
theorem lP : aO Tryz.prog 70:=⟨_,Tryz.func70,rfl,by kernel_rfl⟩
theorem gd : gv Tryz.prog 5=some 1:=by kernel_rfl
theorem xq {n lc : Nat} {L : List Bt} (h : 515<L.length) (hn : L.length=n) : ∀ o,Sl.aG 5 1 n lc ((L.map U8).take (513 * 1)++(L.map U8).drop (n - 2)++(L.map U8).drop (513 * 1+2 * 1)) o→Sl.aG 5 1 515 lc ((tr L).map U8) o:=by
  intro o ho
  have:=vP (j:=515) (by omega) o ho
  rw [show tr L=L.take 513++L.drop (L.length - 2) from if_pos h,hn,List.map_append,List.map_take,List.map_drop]
  rw [List.take_append_of_le_length (by simp only [List.length_append,List.length_take,List.length_drop,List.length_map];omega),List.take_of_length_le (by simp only [List.length_append,List.length_take,List.length_drop,List.length_map];omega)] at this
  exact this
theorem xu (lb lc : Nat) (L : List Bt) (m : Nat) (h : m<lc) : aB.v (aB.snd ⟨some ⟨lb,0,none⟩,lc,L⟩ m)=.slice (some ⟨lb,m,none⟩) (L.length - m) (lc - m):=by
  unfold aB.v aB.snd
  rw [if_neg (by show ¬ lc=m;omega),List.length_drop]
  simp [Addr.add]
  intro h
  exact h.symm
theorem xw (lb lc : Nat) (L : List Bt) (m : Nat) (h : m≤L.length) : aB.v (aB.fst ⟨some ⟨lb,0,none⟩,lc,L⟩ m)=.slice (some ⟨lb,0,none⟩) m lc:=by
  unfold aB.v aB.fst
  rw [List.length_take,Nat.min_eq_left h]
  by_cases h0 : lc=0
  · rw [if_pos h0]
  · rw [if_neg h0];simp [Addr.add]
def xy (b : Nat) (S : Po) (s : aB) (S0 : List Nat) (w : World) : Ending→World→Prop:=fun e w'=>∃ z : Pw,(z.ok∧z.is ⟨S.st,S.fr,S.to,S.ln++s.l.take (kw (mo S.st) s.l),S.dt,S.ms⟩)∧e=.returned (s.snd (kw (mo S.st) s.l)).v∧aa w S0 (z.E b) w'
set_option maxHeartbeats 16000000 in
theorem xz (b : Nat) (z : Pw) (S : Po) (ok : z.ok) (hs : z.is S) (s : aB) (hpos : 0<s.l.length) (hsz : S.ln.length+s.l.length≤1000000) (w : World) (hok : s.ok w) (haw : fy s (keys (z.E b))) (h0 : aa w (keys (z.E b)) (z.E b) w) : Calls Tryz.prog 32 [Pt b 0,s.v].toArray w (xy b S s (keys (z.E b)) w):=by
  have hlen:=hok.len
  have hzl : z.ln.length≤S.ln.length:=by
    rw [hs.ln]
    unfold qX
    split
    · exact Nat.le_refl _
    · exact xp _
  have cmo : ∀ (S1 : List Nat) (w' : World),aa w S1 (z.E b) w'→Calls Tryz.prog 69 [Pt b 0].toArray w' fun e w2=>e=.returned (N (mo S.st))∧Ext w' w2:=fun S1 w' hw'=>by
    have:=yE b z w' ((iU hw').weak (.keep _ _ _ _ _ _ (fun _ h=>h) (.nil _)))
    rw [hs.st] at this
    exact this
  have hln : ∀ x : List Bt,(S.st=4→z.ln++x=qX ⟨S.st,S.fr,S.to,S.ln++x,S.dt,S.ms⟩)∧(¬ S.st=4→tr (z.ln++x)=qX ⟨S.st,S.fr,S.to,S.ln++x,S.dt,S.ms⟩):=fun x=>by
    refine ⟨fun h=>?_,fun h=>?_⟩
    · rw [hs.ln]
      unfold qX
      rw [if_pos h,if_pos h]
    · rw [hs.ln]
      unfold qX
      rw [if_neg h,if_neg h]
      exact Ak _ _
  have hM4 : S.st=4→mo S.st=4194304:=fun h=>if_pos h
  have hM5 : ¬ S.st=4→mo S.st=513:=fun h=>if_neg h
  have hMp : 513≤mo S.st∧mo S.st≤4194304:=by unfold mo;split <;> omega
  generalize hS : keys (z.E b)=S0 at h0 haw ⊢
  unfold xy
  have hkl:=zz (mo S.st) s.l
  have hkd : kw (mo S.st) s.l=if fi 10 (s.fst (min s.l.length (mo S.st))).l<(s.fst (min s.l.length (mo S.st))).l.length then fi 10 (s.fst (min s.l.length (mo S.st))).l+1 else (s.fst (min s.l.length (mo S.st))).l.length:=rfl
  generalize kw (mo S.st) s.l=k at hkl hkd ⊢
  generalize mo S.st=M at cmo hM4 hM5 hMp hkd ⊢
  have cmo':=cmo S0
  have hfl : (s.fst (min s.l.length M)).l.length=min s.l.length M:=by show (s.l.take _).length=_;rw [List.length_take];omega
  refine enter (n:=63) Tryz.func32 rfl rfl rfl h0 ?_
  repeat (first | refine JL.q (by first|(apply OQ.an (vs:=[Pt b 0]);exact wG;rfl;exact (fun w' hw'=>cmo' w' hw'))|(apply OQ.len (k:=s.l.length) (ad:=s.ad) (cap:=s.cap);exact Tryz.underlying22;rfl)|(apply OQ.AO (a:=s.l.length) (c:=M);rfl;rfl)|(apply OQ.fst (s:=s) (m:=min s.l.length M);exact Tryz.underlying22;exact gd;rfl;rfl;exact (Nat.min_le_left _ _);exact hlen)|(apply OQ.move;rfl)|(apply OQ.assign;rfl)) rfl ?_ | refine JC.seq ?_ | refine JC.region ?_ | refine JL.nil ?_ | refine JE.next ?_)
  have hy0 : ∀ w',s.ok w'→(s.fst (min s.l.length M)).ok w':=fun w' h=>h.fst _
  have hy0l : (s.fst (min s.l.length M)).l=s.l.take (min s.l.length M):=rfl
  generalize s.fst (min s.l.length M)=y0 at hkd hfl hy0 hy0l ⊢
  have hix0 : ∀ w',aa w S0 (z.E b) w'→Calls Tryz.prog 70 [y0.v,U8 10].toArray w' fun e w2=>e=.returned (I (jk 10 y0.l))∧Ext w' w2:=fun w' hw'=>xo y0 10 w' (hy0 w' (zx hok hw' haw))
  by_cases hf : fi 10 y0.l<y0.l.length
  · rw [if_pos hf] at hkd
    rw [show jk 10 y0.l=(fi 10 y0.l : Nat) from if_pos hf] at hix0
    have hge : decide ((0 : Int)≤((fi 10 y0.l : Nat) : Int))=true:=decide_eq_true (by omega)
    generalize fi 10 y0.l=kf at hf hkd hix0 hge ⊢
    repeat (first | refine JL.q (by first|(apply OQ.an (vs:=[y0.v,U8 10]);exact lP;rfl;exact hix0)|(apply OQ.dK (a:=(kf : Int)) (b:=0);rfl;rfl;exact hge)|(apply OQ.move;rfl)|(apply OQ.assign;rfl)) rfl ?_ | refine JC.seq ?_ | refine JC.region ?_ | refine JL.nil ?_ | refine JE.next ?_)
    refine JC.cond_true rfl rfl ?_
    repeat (first | refine JL.q (by first|(apply OQ.aT (a:=kf) (b:=1);rfl;rfl;exact (by omega))|(apply OQ.fst (s:=y0) (m:=kf+1);exact Tryz.underlying22;exact gd;rfl;rfl;exact (by omega);exact (hy0 w hok).len)|(apply OQ.move;rfl)|(apply OQ.assign;rfl)|(apply OQ.aV;rfl)|(apply OQ.bG;rfl;rfl;rfl;exact (by decide);rfl)) rfl ?_ | refine JC.seq ?_ | refine JC.region ?_ | refine JL.nil ?_ | refine JE.next ?_)
    have hy1 : ∀ w',s.ok w'→(y0.fst (kf+1)).ok w':=fun w' h=>(hy0 w' h).fst _
    have hy1l : (y0.fst (kf+1)).l=s.l.take k:=by show y0.l.take (kf+1)=_;rw [hy0l,List.take_take,hkd,Nat.min_eq_left (by omega)]
    generalize y0.fst (kf+1)=y at hy1 hy1l ⊢
    have hyn : y.l.length=k:=by rw [hy1l,List.length_take];omega
    repeat (refine JL.q (by first|(apply OQ.load;exact dY;rfl;exact .here;exact (Row.cell (v:=ak z.ql z.ln.length) rfl))|(apply OQ.move;rfl)) rfl ?_)
    refine JL.perm (M':=aL 5 z.ql (z.ln.map U8)++(⟨b,Row 75 z.cs,true⟩::(z.T++(z.D++z.M)))) ?_ (bg fun _ _ y=>by simp only [Pw.E,Pw.R,Pw.L,List.count_append,List.count_cons,List.count_nil];omega)
    refine JL.iV (cs:=y.l.map U8) (m:=y.l.length) (ad:=y.ad) (sc:=y.cap) z.ql Tryz.underlying22 bQ (fun h=>by rw [ok.l h];rfl) (by rw [List.length_map];rfl) rfl (by rw [List.length_map]) (fun w' hw'=>(hy1 w' (zx hok hw' haw)).reads) (c8 _) rfl (by rw [List.length_map];omega) (by rw [List.length_map];omega) rfl fun q3 hq3=>?_
    have hq3' : q3=none→z.ln++y.l=[]:=fun h=>by
      have:=hq3 h
      rw [← List.map_append] at this
      exact List.map_eq_nil_iff.1 this
    clear hq3
    rw [← List.map_append,List.length_map]
    have hLl : (z.ln++y.l).length≤1000000:=by rw [List.length_append];omega
    have hlx:=hln y.l
    rw [hy1l] at hlx
    generalize hL : z.ln++y.l=L at hq3' hLl ⊢
    rw [← hy1l,hL,hy1l] at hlx
    have hq3:=hq3'
    refine JL.perm (M':=⟨b,Row 75 z.cs,true⟩::(aL 5 q3 (L.map U8)++(z.T++(z.D++z.M)))) ?_ (bg fun _ _ y=>by simp only [Pw.E,Pw.R,Pw.L,List.count_append,List.count_cons,List.count_nil];omega)
    repeat (refine JL.q (by first|(apply OQ.aV;rfl)|(apply OQ.bG;rfl;rfl;rfl;exact (by decide);rfl)) rfl ?_)
    refine JL.vT q3 L rfl rfl ?_
    by_cases hbig : M<L.length - 2
    · have h4 : ¬ S.st=4:=fun h=>by have:=hM4 h;omega
      have hM:=hM5 h4
      subst hM
      repeat (first | refine JL.q (by first|(apply OQ.load;exact dY;rfl;exact .here;exact (Row.cell (v:=ak q3 L.length) rfl))|(apply OQ.ir;exact Tryz.underlying22;exact (fun h=>congrArg List.length (hq3 h));rfl)|(apply OQ.eu (a:=L.length) (b:=2);rfl;rfl;exact (by omega);exact (by omega))|(apply OQ.dA (a:=L.length - 2) (b:=513);rfl;rfl;exact hbig)|(apply OQ.move;rfl)|(apply OQ.assign;rfl)|(apply OQ.aV;rfl)|(apply OQ.bG;rfl;rfl;rfl;exact (by decide);rfl)) rfl ?_ | refine JC.seq ?_ | refine JC.region ?_ | refine JL.nil ?_ | refine JE.next ?_)
      refine JC.cond_true rfl rfl ?_
      obtain ⟨⟨lb,lc⟩,rfl⟩ : ∃ p,q3=some p:=by
        cases q3 with
        | none=>rw [hq3 rfl] at hbig;simp at hbig
        | some p=>exact ⟨p,rfl⟩
      obtain ⟨n,hn⟩ : ∃ n,L.length=n:=⟨_,rfl⟩
      refine JC.nT (F:=n≤lc) (fun w' hw'=>?_) fun hlc=>?_
      · obtain ⟨o,_,sp,_,_,_,h3⟩:=hw'.get (b:=lb) (A:=Sl.aG 5 1 (L.map U8).length lc (L.map U8)) (wr:=true) (.there .here)
        rw [List.length_map,hn] at h3
        exact h3
      have hv6 : aB.v (aB.fst ⟨some ⟨lb,0,none⟩,lc,L⟩ 513)=.slice (some ⟨lb,0,none⟩) 513 lc:=xw lb lc L 513 (by omega)
      have hv12 : aB.v (aB.snd ⟨some ⟨lb,0,none⟩,lc,L⟩ (n - 2))=.slice (some ⟨lb,n - 2,none⟩) 2 (lc - (n - 2)):=by
        rw [xu lb lc L (n - 2) (by omega),hn,show n - (n - 2)=2 by omega]
      have hvL : aB.v ⟨some ⟨lb,0,none⟩,lc,L⟩=ak (some (lb,lc)) L.length:=rfl
      have hd2 : ((L.map U8).drop (n - 2)).length=2 * 1:=by rw [List.length_drop,List.length_map,hn];omega
      have hbn : 513<n - 2:=by omega
      rw [hn]
      have hrd : ∀ {u w1 : World} {S1 : List Nat} {M1 : List aN},aa u S1 (⟨lb,Sl.aG 5 1 n lc (L.map U8),true⟩::M1) w1→Reads w1 (some ⟨lb,n - 2,none⟩) ((L.map U8).drop (n - 2)):=fun {u w1 S1 M1} hw=>by
        have h1 : aB.ok w1 ⟨some ⟨lb,0,none⟩,lc,L⟩:=iE (q:=some (lb,lc)) (M:=M1) (by show aa _ _ (⟨lb,Sl.aG 5 1 (L.map U8).length lc (L.map U8),true⟩::M1) _;rw [List.length_map,hn];exact hw)
        have h2:=(h1.snd (n - 2) (by show n - 2≤L.length;omega)).reads
        have h3 : (aB.snd ⟨some ⟨lb,0,none⟩,lc,L⟩ (n - 2)).ad=some ⟨lb,n - 2,none⟩:=by
          have:=hv12
          unfold aB.v at this
          injection this
        rw [h3] at h2
        show Reads w1 _ _
        rw [← List.map_drop]
        exact h2
      let vs : Nat→Nat→Value:=fun j y=>match j with
        | 0=>Pt b 0
        | 1=>Pt b 0
        | 2=>Pt b 0
        | 3=>Pt b 3
        | 4=>.slice (some ⟨lb,0,none⟩) n lc
        | 5=>N 513
        | 6=>.slice (some ⟨lb,0,none⟩) 513 lc
        | 7=>Pt b 0
        | 8=>Pt b 0
        | 9=>Pt b 3
        | 10=>.slice (some ⟨lb,0,none⟩) n lc
        | 11=>N (n - 2)
        | 12=>.slice (some ⟨lb,n - 2,none⟩) 2 (lc - (n - 2))
        | 13=>.slice (some ⟨lb,0,none⟩) 515 lc
        | 14=>Pt b 0
        | 15=>Pt b 3
        | _=>N 0
      let Ms : Nat→Nat→List aN:=fun j y=>match j with
        | 13=>[⟨lb,Sl.aG 5 1 n lc ((L.map U8).take (513 * 1)++(L.map U8).drop (n - 2)++(L.map U8).drop (513 * 1+2 * 1)),true⟩]
        | 16=>[⟨b,Row 75 [N z.st,Z z.fr,ak z.qt z.to.length,ak (some (lb,lc)) 515,ak z.qd z.dt.length,ak z.qm z.zs.length],true⟩]
        | 17=>[⟨b,Row 75 [N z.st,Z z.fr,ak z.qt z.to.length,ak (some (lb,lc)) n,ak z.qd z.dt.length,ak z.qm z.zs.length],true⟩]
        | 18=>[⟨lb,Sl.aG 5 1 n lc (L.map U8),true⟩]
        | 19=>(z.T++(z.D++z.M))
        | _=>[]
      refine JC.grow (g:=⟨[(0,Pt b 0),(5,N 513),(8,N (n - 2)),(1,s.v),(6,y.v)],20,vs,Ms,(fun j=>match j with | 2=>[(1,44)] | 3=>[(2,45)] | 4=>[(3,46)] | 6=>[(4,47),(5,48)] | 8=>[(7,50)] | 9=>[(8,51)] | 10=>[(9,52)] | 12=>[(10,53),(11,54)] | 13=>[(6,49),(12,55)] | 14=>[(0,43)] | 15=>[(14,57)] | 16=>[(15,58),(13,56)] | _=>[]),(fun j=>match j with | 4=>[17] | 10=>[17] | 13=>[18] | 16=>[17] | _=>[]),(fun j=>match j with | 13=>[18] | 16=>[17] | _=>[]),(fun j=>match j with | _=>none)⟩) [] [16,13,19] fD (by repeat (first | exact af.nil | refine af.cons _ _ _ rfl ?_)) ?_ (by kernel_rfl) (by kernel_rfl) (by kernel_rfl) ?_ ?_
      · show aq (⟨b,Row 75 [N z.st,Z z.fr,ak z.qt z.to.length,ak (some (lb,lc)) n,ak z.qd z.dt.length,ak z.qm z.zs.length],true⟩::(⟨lb,Sl.aG 5 1 n lc (L.map U8),true⟩::((z.T++(z.D++z.M))++[]))) _;rw [List.append_nil,← hn];show aq _ (⟨b,Row 75 [N z.st,Z z.fr,ak z.qt z.to.length,ak (some (lb,lc)) L.length,ak z.qd z.dt.length,ak z.qm z.zs.length],true⟩::(⟨lb,Sl.aG 5 1 (L.map U8).length lc (L.map U8),true⟩::(z.T++(z.D++z.M))));rw [List.length_map];exact aq.refl _
      · refine ⟨?_,?_,?_,?_,?_,?_,?_,?_,?_,?_,?_,?_,?_,?_,?_,?_,?_,trivial⟩
        · (intro xx EF MF Q kk;(try refine JL.aU rfl rfl ?_);exact JL.q (OQ.move rfl) rfl (JL.nil (kk default nofun)))
        · (intro xx EF MF Q kk;(try refine JL.aU rfl rfl ?_);exact JL.q (OQ.move rfl) rfl (JL.nil (kk default nofun)))
        · (intro xx EF MF Q kk;(try refine JL.aU rfl rfl ?_);exact JL.q (OQ.aV rfl) rfl (JL.nil (kk default nofun)))
        · (intro xx EF MF Q kk;(try refine JL.aU rfl rfl ?_);exact JL.q (OQ.bG rfl rfl rfl (by decide) rfl) rfl (JL.nil (kk default nofun)))
        · (intro xx EF MF Q kk;(try refine JL.aU rfl rfl ?_);exact JL.q (OQ.load dY rfl .here (Row.cell (v:=.slice (some ⟨lb,0,none⟩) n lc) rfl)) rfl (JL.nil (kk default nofun)))
        · (intro xx EF MF Q kk;(try refine JL.aU rfl rfl ?_);exact JL.q (OQ.move rfl) rfl (JL.nil (kk default nofun)))
        · (intro xx EF MF Q kk;(try refine JL.aU rfl rfl ?_);exact JL.q (OQ.to (OQ.fst (s:=⟨some ⟨lb,0,none⟩,lc,L⟩) (m:=513) Tryz.underlying22 gd (by rw [hvL,hn];rfl) rfl (by show 513≤L.length;omega) (by show L.length≤lc;omega)) hv6) rfl (JL.nil (kk default nofun)))
        · (intro xx EF MF Q kk;(try refine JL.aU rfl rfl ?_);exact JL.q (OQ.move rfl) rfl (JL.nil (kk default nofun)))
        · (intro xx EF MF Q kk;(try refine JL.aU rfl rfl ?_);exact JL.q (OQ.aV rfl) rfl (JL.nil (kk default nofun)))
        · (intro xx EF MF Q kk;(try refine JL.aU rfl rfl ?_);exact JL.q (OQ.bG rfl rfl rfl (by decide) rfl) rfl (JL.nil (kk default nofun)))
        · (intro xx EF MF Q kk;(try refine JL.aU rfl rfl ?_);exact JL.q (OQ.load dY rfl .here (Row.cell (v:=.slice (some ⟨lb,0,none⟩) n lc) rfl)) rfl (JL.nil (kk default nofun)))
        · (intro xx EF MF Q kk;(try refine JL.aU rfl rfl ?_);exact JL.q (OQ.move rfl) rfl (JL.nil (kk default nofun)))
        · (intro xx EF MF Q kk;(try refine JL.aU rfl rfl ?_);exact JL.q (OQ.to (OQ.snd (s:=⟨some ⟨lb,0,none⟩,lc,L⟩) (m:=n - 2) Tryz.underlying22 gd (by rw [hvL,hn];rfl) rfl (by show n - 2≤L.length;omega)) hv12) rfl (JL.nil (kk default nofun)))
        · (intro xx EF MF Q kk;exact JL.oX (b:=lb) (i:=513) (m:=2) (k:=n) (xs:=L.map U8) (cs:=(L.map U8).drop (n - 2)) Tryz.underlying22 bQ rfl rfl .here hd2 (fun w1 hw1=>hrd hw1) (fun v hv=>c8 _ v (List.drop_subset _ _ hv)) (by decide) (by omega) rfl rfl (JL.nil (kk 0 nofun)))
        · (intro xx EF MF Q kk;(try refine JL.aU rfl rfl ?_);exact JL.q (OQ.aV rfl) rfl (JL.nil (kk default nofun)))
        · (intro xx EF MF Q kk;(try refine JL.aU rfl rfl ?_);exact JL.q (OQ.bG rfl rfl rfl (by decide) rfl) rfl (JL.nil (kk default nofun)))
        · (intro xx EF MF Q kk;exact JL.cm (b:=b) (v:=.slice (some ⟨lb,0,none⟩) 515 lc) (r:=[N z.st,Z z.fr,ak z.qt z.to.length,ak (some (lb,lc)) n,ak z.qd z.dt.length,ak z.qm z.zs.length]) (r':=[N z.st,Z z.fr,ak z.qt z.to.length,ak (some (lb,lc)) 515,ak z.qd z.dt.length,ak z.qm z.zs.length]) oZ rfl rfl rfl rfl .here (show 3<6 by decide) rfl (JL.nil (kk 0 nofun)))
      · intro xx hx
        show JE _ _ _ _ _ [(0,Pt b 0),(5,N 513),(8,N (n - 2)),(1,s.v),(6,y.v)] (⟨b,Row 75 [N z.st,Z z.fr,ak z.qt z.to.length,ak (some (lb,lc)) 515,ak z.qd z.dt.length,ak z.qm z.zs.length],true⟩::(⟨lb,Sl.aG 5 1 n lc ((L.map U8).take (513 * 1)++(L.map U8).drop (n - 2)++(L.map U8).drop (513 * 1+2 * 1)),true⟩::((z.T++(z.D++z.M))++[])))
        rw [List.append_nil]
        clear hx xx vs Ms
        repeat (first | refine JL.q (by first|(apply OQ.len (k:=y.l.length) (ad:=y.ad) (cap:=y.cap);exact Tryz.underlying22;rfl)|(apply OQ.snd (s:=s) (m:=y.l.length);exact Tryz.underlying22;exact gd;rfl;rfl;exact (by omega))|(apply OQ.move;rfl)|(apply OQ.assign;rfl)) rfl ?_ | refine JC.seq ?_ | refine JC.region ?_ | refine JL.nil ?_ | refine JE.next ?_)
        rw [hyn]
        refine JC.ret ?_
        skip
        refine JE.aC rfl (RV.tmp rfl) fun w' hw=>⟨{ z with ql:=some (lb,lc),ln:=tr L },⟨⟨ok.t,nofun,ok.d,ok.m⟩,⟨hs.st,hs.fr,hs.to,?_,hs.dt,hs.ms⟩⟩,rfl,?_⟩
        · exact (hlx.2 h4)
        · have h515 : 515<L.length:=by omega
          have htl : (tr L).length=515:=by rw [show tr L=L.take 513++L.drop (L.length - 2) from if_pos h515,List.length_append,List.length_take,List.length_drop];omega
          have hwz:=hw.weak (.keep b (Row 75 [N z.st,Z z.fr,ak z.qt z.to.length,ak (some (lb,lc)) 515,ak z.qd z.dt.length,ak z.qm z.zs.length]) (Row 75 [N z.st,Z z.fr,ak z.qt z.to.length,ak (some (lb,lc)) 515,ak z.qd z.dt.length,ak z.qm z.zs.length]) true _ _ (fun _ h=>h) (.keep lb _ (Sl.aG 5 1 515 lc ((tr L).map U8)) true (z.T++(z.D++z.M)) (z.T++(z.D++z.M)) (xq h515 hn) (aq.refl _)))
          refine hwz.perm' ?_
          unfold Pw.E
          have e1 : Pw.cs { z with ql:=some (lb,lc),ln:=tr L }=[N z.st,Z z.fr,ak z.qt z.to.length,ak (some (lb,lc)) 515,ak z.qd z.dt.length,ak z.qm z.zs.length]:=by show [_,_,_,ak (some (lb,lc)) (tr L).length,_,_]=_;rw [htl]
          have e2 : Pw.R { z with ql:=some (lb,lc),ln:=tr L }=z.T++([⟨lb,Sl.aG 5 1 515 lc ((tr L).map U8),true⟩]++(z.D++z.M)):=by
            show z.T++(aL 5 (some (lb,lc)) ((tr L).map U8)++(z.D++z.M))=_
            unfold aL
            rw [List.length_map,htl]
          rw [e1,e2]
          exact bg fun _ _ x=>by simp only [List.count_append,List.count_cons,List.count_nil];omega
    · have hno : decide ((M : Int)<((L.length : Nat) : Int) - 2)=false:=decide_eq_false (by omega)
      repeat (first | refine JL.q (by first|(apply OQ.load;exact dY;rfl;exact .here;exact (Row.cell (v:=ak q3 L.length) rfl))|(apply OQ.ir;exact Tryz.underlying22;exact (fun h=>congrArg List.length (hq3 h));rfl)|(apply OQ.tI (a:=((L.length : Nat) : Int)) (b:=2);rfl;rfl;exact (by omega);exact (by omega))|(apply OQ.cW (a:=((L.length : Nat) : Int) - 2) (b:=(M : Int));rfl;rfl;exact hno)|(apply OQ.move;rfl)|(apply OQ.assign;rfl)|(apply OQ.aV;rfl)|(apply OQ.bG;rfl;rfl;rfl;exact (by decide);rfl)) rfl ?_ | refine JC.seq ?_ | refine JC.region ?_ | refine JL.nil ?_ | refine JE.next ?_)
      refine JC.cond_false rfl rfl ?_
      repeat (first | refine JL.q (by first|(apply OQ.len (k:=y.l.length) (ad:=y.ad) (cap:=y.cap);exact Tryz.underlying22;rfl)|(apply OQ.snd (s:=s) (m:=y.l.length);exact Tryz.underlying22;exact gd;rfl;rfl;exact (by omega))|(apply OQ.move;rfl)|(apply OQ.assign;rfl)) rfl ?_ | refine JC.seq ?_ | refine JC.region ?_ | refine JC.skip ?_ | refine JL.nil ?_ | refine JE.next ?_)
      rw [hyn]
      refine JC.ret ?_
      skip
      refine JE.aC rfl (RV.tmp rfl) fun w' hw=>⟨{ z with ql:=q3,ln:=L },⟨⟨ok.t,hq3,ok.d,ok.m⟩,⟨hs.st,hs.fr,hs.to,?_,hs.dt,hs.ms⟩⟩,rfl,?_⟩
      · show L=_
        by_cases h4 : S.st=4
        · exact hlx.1 h4
        · rw [← hlx.2 h4]
          have:=hM5 h4
          exact (if_neg (by omega)).symm
      · refine hw.perm' ?_
        exact bg fun _ _ x=>by simp only [Pw.E,Pw.R,Pw.L,List.count_append,List.count_cons,List.count_nil];simp only [Pw.T,Pw.D,Pw.M];omega
  · rw [if_neg hf] at hkd
    rw [show jk 10 y0.l=(-1 : Int) from if_neg hf] at hix0
    have hge : decide ((0 : Int)≤(-1 : Int))=false:=rfl
    repeat (first | refine JL.q (by first|(apply OQ.an (vs:=[y0.v,U8 10]);exact lP;rfl;exact hix0)|(apply OQ.dK (a:=(-1 : Int)) (b:=0);rfl;rfl;exact hge)|(apply OQ.move;rfl)|(apply OQ.assign;rfl)) rfl ?_ | refine JC.seq ?_ | refine JC.region ?_ | refine JL.nil ?_ | refine JE.next ?_)
    refine JC.cond_false rfl rfl ?_
    repeat (first | refine JL.q (by first|(apply OQ.move;rfl)|(apply OQ.aV;rfl)|(apply OQ.bG;rfl;rfl;rfl;exact (by decide);rfl)) rfl ?_ | refine JC.seq ?_ | refine JC.region ?_ | refine JC.skip ?_ | refine JE.next ?_)
    have hy1:=hy0
    have hy1l : y0.l=s.l.take k:=by rw [hy0l,hkd,hfl]
    generalize y0=y at hy1 hy1l ⊢
    have hyn : y.l.length=k:=by rw [hy1l,List.length_take];omega
    repeat (refine JL.q (by first|(apply OQ.load;exact dY;rfl;exact .here;exact (Row.cell (v:=ak z.ql z.ln.length) rfl))|(apply OQ.move;rfl)) rfl ?_)
    refine JL.perm (M':=aL 5 z.ql (z.ln.map U8)++(⟨b,Row 75 z.cs,true⟩::(z.T++(z.D++z.M)))) ?_ (bg fun _ _ y=>by simp only [Pw.E,Pw.R,Pw.L,List.count_append,List.count_cons,List.count_nil];omega)
    refine JL.iV (cs:=y.l.map U8) (m:=y.l.length) (ad:=y.ad) (sc:=y.cap) z.ql Tryz.underlying22 bQ (fun h=>by rw [ok.l h];rfl) (by rw [List.length_map];rfl) rfl (by rw [List.length_map]) (fun w' hw'=>(hy1 w' (zx hok hw' haw)).reads) (c8 _) rfl (by rw [List.length_map];omega) (by rw [List.length_map];omega) rfl fun q3 hq3=>?_
    have hq3' : q3=none→z.ln++y.l=[]:=fun h=>by
      have:=hq3 h
      rw [← List.map_append] at this
      exact List.map_eq_nil_iff.1 this
    clear hq3
    rw [← List.map_append,List.length_map]
    have hLl : (z.ln++y.l).length≤1000000:=by rw [List.length_append];omega
    have hlx:=hln y.l
    rw [hy1l] at hlx
    generalize hL : z.ln++y.l=L at hq3' hLl ⊢
    rw [← hy1l,hL,hy1l] at hlx
    have hq3:=hq3'
    refine JL.perm (M':=⟨b,Row 75 z.cs,true⟩::(aL 5 q3 (L.map U8)++(z.T++(z.D++z.M)))) ?_ (bg fun _ _ y=>by simp only [Pw.E,Pw.R,Pw.L,List.count_append,List.count_cons,List.count_nil];omega)
    repeat (refine JL.q (by first|(apply OQ.aV;rfl)|(apply OQ.bG;rfl;rfl;rfl;exact (by decide);rfl)) rfl ?_)
    refine JL.vT q3 L rfl rfl ?_
    by_cases hbig : M<L.length - 2
    · have h4 : ¬ S.st=4:=fun h=>by have:=hM4 h;omega
      have hM:=hM5 h4
      subst hM
      repeat (first | refine JL.q (by first|(apply OQ.load;exact dY;rfl;exact .here;exact (Row.cell (v:=ak q3 L.length) rfl))|(apply OQ.ir;exact Tryz.underlying22;exact (fun h=>congrArg List.length (hq3 h));rfl)|(apply OQ.eu (a:=L.length) (b:=2);rfl;rfl;exact (by omega);exact (by omega))|(apply OQ.dA (a:=L.length - 2) (b:=513);rfl;rfl;exact hbig)|(apply OQ.move;rfl)|(apply OQ.assign;rfl)|(apply OQ.aV;rfl)|(apply OQ.bG;rfl;rfl;rfl;exact (by decide);rfl)) rfl ?_ | refine JC.seq ?_ | refine JC.region ?_ | refine JL.nil ?_ | refine JE.next ?_)
      refine JC.cond_true rfl rfl ?_
      obtain ⟨⟨lb,lc⟩,rfl⟩ : ∃ p,q3=some p:=by
        cases q3 with
        | none=>rw [hq3 rfl] at hbig;simp at hbig
        | some p=>exact ⟨p,rfl⟩
      obtain ⟨n,hn⟩ : ∃ n,L.length=n:=⟨_,rfl⟩
      refine JC.nT (F:=n≤lc) (fun w' hw'=>?_) fun hlc=>?_
      · obtain ⟨o,_,sp,_,_,_,h3⟩:=hw'.get (b:=lb) (A:=Sl.aG 5 1 (L.map U8).length lc (L.map U8)) (wr:=true) (.there .here)
        rw [List.length_map,hn] at h3
        exact h3
      have hv6 : aB.v (aB.fst ⟨some ⟨lb,0,none⟩,lc,L⟩ 513)=.slice (some ⟨lb,0,none⟩) 513 lc:=xw lb lc L 513 (by omega)
      have hv12 : aB.v (aB.snd ⟨some ⟨lb,0,none⟩,lc,L⟩ (n - 2))=.slice (some ⟨lb,n - 2,none⟩) 2 (lc - (n - 2)):=by
        rw [xu lb lc L (n - 2) (by omega),hn,show n - (n - 2)=2 by omega]
      have hvL : aB.v ⟨some ⟨lb,0,none⟩,lc,L⟩=ak (some (lb,lc)) L.length:=rfl
      have hd2 : ((L.map U8).drop (n - 2)).length=2 * 1:=by rw [List.length_drop,List.length_map,hn];omega
      have hbn : 513<n - 2:=by omega
      rw [hn]
      have hrd : ∀ {u w1 : World} {S1 : List Nat} {M1 : List aN},aa u S1 (⟨lb,Sl.aG 5 1 n lc (L.map U8),true⟩::M1) w1→Reads w1 (some ⟨lb,n - 2,none⟩) ((L.map U8).drop (n - 2)):=fun {u w1 S1 M1} hw=>by
        have h1 : aB.ok w1 ⟨some ⟨lb,0,none⟩,lc,L⟩:=iE (q:=some (lb,lc)) (M:=M1) (by show aa _ _ (⟨lb,Sl.aG 5 1 (L.map U8).length lc (L.map U8),true⟩::M1) _;rw [List.length_map,hn];exact hw)
        have h2:=(h1.snd (n - 2) (by show n - 2≤L.length;omega)).reads
        have h3 : (aB.snd ⟨some ⟨lb,0,none⟩,lc,L⟩ (n - 2)).ad=some ⟨lb,n - 2,none⟩:=by
          have:=hv12
          unfold aB.v at this
          injection this
        rw [h3] at h2
        show Reads w1 _ _
        rw [← List.map_drop]
        exact h2
      let vs : Nat→Nat→Value:=fun j y=>match j with
        | 0=>Pt b 0
        | 1=>Pt b 0
        | 2=>Pt b 0
        | 3=>Pt b 3
        | 4=>.slice (some ⟨lb,0,none⟩) n lc
        | 5=>N 513
        | 6=>.slice (some ⟨lb,0,none⟩) 513 lc
        | 7=>Pt b 0
        | 8=>Pt b 0
        | 9=>Pt b 3
        | 10=>.slice (some ⟨lb,0,none⟩) n lc
        | 11=>N (n - 2)
        | 12=>.slice (some ⟨lb,n - 2,none⟩) 2 (lc - (n - 2))
        | 13=>.slice (some ⟨lb,0,none⟩) 515 lc
        | 14=>Pt b 0
        | 15=>Pt b 3
        | _=>N 0
      let Ms : Nat→Nat→List aN:=fun j y=>match j with
        | 13=>[⟨lb,Sl.aG 5 1 n lc ((L.map U8).take (513 * 1)++(L.map U8).drop (n - 2)++(L.map U8).drop (513 * 1+2 * 1)),true⟩]
        | 16=>[⟨b,Row 75 [N z.st,Z z.fr,ak z.qt z.to.length,ak (some (lb,lc)) 515,ak z.qd z.dt.length,ak z.qm z.zs.length],true⟩]
        | 17=>[⟨b,Row 75 [N z.st,Z z.fr,ak z.qt z.to.length,ak (some (lb,lc)) n,ak z.qd z.dt.length,ak z.qm z.zs.length],true⟩]
        | 18=>[⟨lb,Sl.aG 5 1 n lc (L.map U8),true⟩]
        | 19=>(z.T++(z.D++z.M))
        | _=>[]
      refine JC.grow (g:=⟨[(0,Pt b 0),(5,N 513),(8,N (n - 2)),(1,s.v),(6,y.v)],20,vs,Ms,(fun j=>match j with | 2=>[(1,44)] | 3=>[(2,45)] | 4=>[(3,46)] | 6=>[(4,47),(5,48)] | 8=>[(7,50)] | 9=>[(8,51)] | 10=>[(9,52)] | 12=>[(10,53),(11,54)] | 13=>[(6,49),(12,55)] | 14=>[(0,43)] | 15=>[(14,57)] | 16=>[(15,58),(13,56)] | _=>[]),(fun j=>match j with | 4=>[17] | 10=>[17] | 13=>[18] | 16=>[17] | _=>[]),(fun j=>match j with | 13=>[18] | 16=>[17] | _=>[]),(fun j=>match j with | _=>none)⟩) [] [16,13,19] fD (by repeat (first | exact af.nil | refine af.cons _ _ _ rfl ?_)) ?_ (by kernel_rfl) (by kernel_rfl) (by kernel_rfl) ?_ ?_
      · show aq (⟨b,Row 75 [N z.st,Z z.fr,ak z.qt z.to.length,ak (some (lb,lc)) n,ak z.qd z.dt.length,ak z.qm z.zs.length],true⟩::(⟨lb,Sl.aG 5 1 n lc (L.map U8),true⟩::((z.T++(z.D++z.M))++[]))) _;rw [List.append_nil,← hn];show aq _ (⟨b,Row 75 [N z.st,Z z.fr,ak z.qt z.to.length,ak (some (lb,lc)) L.length,ak z.qd z.dt.length,ak z.qm z.zs.length],true⟩::(⟨lb,Sl.aG 5 1 (L.map U8).length lc (L.map U8),true⟩::(z.T++(z.D++z.M))));rw [List.length_map];exact aq.refl _
      · refine ⟨?_,?_,?_,?_,?_,?_,?_,?_,?_,?_,?_,?_,?_,?_,?_,?_,?_,trivial⟩
        · (intro xx EF MF Q kk;(try refine JL.aU rfl rfl ?_);exact JL.q (OQ.move rfl) rfl (JL.nil (kk default nofun)))
        · (intro xx EF MF Q kk;(try refine JL.aU rfl rfl ?_);exact JL.q (OQ.move rfl) rfl (JL.nil (kk default nofun)))
        · (intro xx EF MF Q kk;(try refine JL.aU rfl rfl ?_);exact JL.q (OQ.aV rfl) rfl (JL.nil (kk default nofun)))
        · (intro xx EF MF Q kk;(try refine JL.aU rfl rfl ?_);exact JL.q (OQ.bG rfl rfl rfl (by decide) rfl) rfl (JL.nil (kk default nofun)))
        · (intro xx EF MF Q kk;(try refine JL.aU rfl rfl ?_);exact JL.q (OQ.load dY rfl .here (Row.cell (v:=.slice (some ⟨lb,0,none⟩) n lc) rfl)) rfl (JL.nil (kk default nofun)))
        · (intro xx EF MF Q kk;(try refine JL.aU rfl rfl ?_);exact JL.q (OQ.move rfl) rfl (JL.nil (kk default nofun)))
        · (intro xx EF MF Q kk;(try refine JL.aU rfl rfl ?_);exact JL.q (OQ.to (OQ.fst (s:=⟨some ⟨lb,0,none⟩,lc,L⟩) (m:=513) Tryz.underlying22 gd (by rw [hvL,hn];rfl) rfl (by show 513≤L.length;omega) (by show L.length≤lc;omega)) hv6) rfl (JL.nil (kk default nofun)))
        · (intro xx EF MF Q kk;(try refine JL.aU rfl rfl ?_);exact JL.q (OQ.move rfl) rfl (JL.nil (kk default nofun)))
        · (intro xx EF MF Q kk;(try refine JL.aU rfl rfl ?_);exact JL.q (OQ.aV rfl) rfl (JL.nil (kk default nofun)))
        · (intro xx EF MF Q kk;(try refine JL.aU rfl rfl ?_);exact JL.q (OQ.bG rfl rfl rfl (by decide) rfl) rfl (JL.nil (kk default nofun)))
        · (intro xx EF MF Q kk;(try refine JL.aU rfl rfl ?_);exact JL.q (OQ.load dY rfl .here (Row.cell (v:=.slice (some ⟨lb,0,none⟩) n lc) rfl)) rfl (JL.nil (kk default nofun)))
        · (intro xx EF MF Q kk;(try refine JL.aU rfl rfl ?_);exact JL.q (OQ.move rfl) rfl (JL.nil (kk default nofun)))
        · (intro xx EF MF Q kk;(try refine JL.aU rfl rfl ?_);exact JL.q (OQ.to (OQ.snd (s:=⟨some ⟨lb,0,none⟩,lc,L⟩) (m:=n - 2) Tryz.underlying22 gd (by rw [hvL,hn];rfl) rfl (by show n - 2≤L.length;omega)) hv12) rfl (JL.nil (kk default nofun)))
        · (intro xx EF MF Q kk;exact JL.oX (b:=lb) (i:=513) (m:=2) (k:=n) (xs:=L.map U8) (cs:=(L.map U8).drop (n - 2)) Tryz.underlying22 bQ rfl rfl .here hd2 (fun w1 hw1=>hrd hw1) (fun v hv=>c8 _ v (List.drop_subset _ _ hv)) (by decide) (by omega) rfl rfl (JL.nil (kk 0 nofun)))
        · (intro xx EF MF Q kk;(try refine JL.aU rfl rfl ?_);exact JL.q (OQ.aV rfl) rfl (JL.nil (kk default nofun)))
        · (intro xx EF MF Q kk;(try refine JL.aU rfl rfl ?_);exact JL.q (OQ.bG rfl rfl rfl (by decide) rfl) rfl (JL.nil (kk default nofun)))
        · (intro xx EF MF Q kk;exact JL.cm (b:=b) (v:=.slice (some ⟨lb,0,none⟩) 515 lc) (r:=[N z.st,Z z.fr,ak z.qt z.to.length,ak (some (lb,lc)) n,ak z.qd z.dt.length,ak z.qm z.zs.length]) (r':=[N z.st,Z z.fr,ak z.qt z.to.length,ak (some (lb,lc)) 515,ak z.qd z.dt.length,ak z.qm z.zs.length]) oZ rfl rfl rfl rfl .here (show 3<6 by decide) rfl (JL.nil (kk 0 nofun)))
      · intro xx hx
        show JE _ _ _ _ _ [(0,Pt b 0),(5,N 513),(8,N (n - 2)),(1,s.v),(6,y.v)] (⟨b,Row 75 [N z.st,Z z.fr,ak z.qt z.to.length,ak (some (lb,lc)) 515,ak z.qd z.dt.length,ak z.qm z.zs.length],true⟩::(⟨lb,Sl.aG 5 1 n lc ((L.map U8).take (513 * 1)++(L.map U8).drop (n - 2)++(L.map U8).drop (513 * 1+2 * 1)),true⟩::((z.T++(z.D++z.M))++[])))
        rw [List.append_nil]
        clear hx xx vs Ms
        repeat (first | refine JL.q (by first|(apply OQ.len (k:=y.l.length) (ad:=y.ad) (cap:=y.cap);exact Tryz.underlying22;rfl)|(apply OQ.snd (s:=s) (m:=y.l.length);exact Tryz.underlying22;exact gd;rfl;rfl;exact (by omega))|(apply OQ.move;rfl)|(apply OQ.assign;rfl)) rfl ?_ | refine JC.seq ?_ | refine JC.region ?_ | refine JL.nil ?_ | refine JE.next ?_)
        rw [hyn]
        refine JC.ret ?_
        skip
        refine JE.aC rfl (RV.tmp rfl) fun w' hw=>⟨{ z with ql:=some (lb,lc),ln:=tr L },⟨⟨ok.t,nofun,ok.d,ok.m⟩,⟨hs.st,hs.fr,hs.to,?_,hs.dt,hs.ms⟩⟩,rfl,?_⟩
        · exact (hlx.2 h4)
        · have h515 : 515<L.length:=by omega
          have htl : (tr L).length=515:=by rw [show tr L=L.take 513++L.drop (L.length - 2) from if_pos h515,List.length_append,List.length_take,List.length_drop];omega
          have hwz:=hw.weak (.keep b (Row 75 [N z.st,Z z.fr,ak z.qt z.to.length,ak (some (lb,lc)) 515,ak z.qd z.dt.length,ak z.qm z.zs.length]) (Row 75 [N z.st,Z z.fr,ak z.qt z.to.length,ak (some (lb,lc)) 515,ak z.qd z.dt.length,ak z.qm z.zs.length]) true _ _ (fun _ h=>h) (.keep lb _ (Sl.aG 5 1 515 lc ((tr L).map U8)) true (z.T++(z.D++z.M)) (z.T++(z.D++z.M)) (xq h515 hn) (aq.refl _)))
          refine hwz.perm' ?_
          unfold Pw.E
          have e1 : Pw.cs { z with ql:=some (lb,lc),ln:=tr L }=[N z.st,Z z.fr,ak z.qt z.to.length,ak (some (lb,lc)) 515,ak z.qd z.dt.length,ak z.qm z.zs.length]:=by show [_,_,_,ak (some (lb,lc)) (tr L).length,_,_]=_;rw [htl]
          have e2 : Pw.R { z with ql:=some (lb,lc),ln:=tr L }=z.T++([⟨lb,Sl.aG 5 1 515 lc ((tr L).map U8),true⟩]++(z.D++z.M)):=by
            show z.T++(aL 5 (some (lb,lc)) ((tr L).map U8)++(z.D++z.M))=_
            unfold aL
            rw [List.length_map,htl]
          rw [e1,e2]
          exact bg fun _ _ x=>by simp only [List.count_append,List.count_cons,List.count_nil];omega
    · have hno : decide ((M : Int)<((L.length : Nat) : Int) - 2)=false:=decide_eq_false (by omega)
      repeat (first | refine JL.q (by first|(apply OQ.load;exact dY;rfl;exact .here;exact (Row.cell (v:=ak q3 L.length) rfl))|(apply OQ.ir;exact Tryz.underlying22;exact (fun h=>congrArg List.length (hq3 h));rfl)|(apply OQ.tI (a:=((L.length : Nat) : Int)) (b:=2);rfl;rfl;exact (by omega);exact (by omega))|(apply OQ.cW (a:=((L.length : Nat) : Int) - 2) (b:=(M : Int));rfl;rfl;exact hno)|(apply OQ.move;rfl)|(apply OQ.assign;rfl)|(apply OQ.aV;rfl)|(apply OQ.bG;rfl;rfl;rfl;exact (by decide);rfl)) rfl ?_ | refine JC.seq ?_ | refine JC.region ?_ | refine JL.nil ?_ | refine JE.next ?_)
      refine JC.cond_false rfl rfl ?_
      repeat (first | refine JL.q (by first|(apply OQ.len (k:=y.l.length) (ad:=y.ad) (cap:=y.cap);exact Tryz.underlying22;rfl)|(apply OQ.snd (s:=s) (m:=y.l.length);exact Tryz.underlying22;exact gd;rfl;rfl;exact (by omega))|(apply OQ.move;rfl)|(apply OQ.assign;rfl)) rfl ?_ | refine JC.seq ?_ | refine JC.region ?_ | refine JC.skip ?_ | refine JL.nil ?_ | refine JE.next ?_)
      rw [hyn]
      refine JC.ret ?_
      skip
      refine JE.aC rfl (RV.tmp rfl) fun w' hw=>⟨{ z with ql:=q3,ln:=L },⟨⟨ok.t,hq3,ok.d,ok.m⟩,⟨hs.st,hs.fr,hs.to,?_,hs.dt,hs.ms⟩⟩,rfl,?_⟩
      · show L=_
        by_cases h4 : S.st=4
        · exact hlx.1 h4
        · rw [← hlx.2 h4]
          have:=hM5 h4
          exact (if_neg (by omega)).symm
      · refine hw.perm' ?_
        exact bg fun _ _ x=>by simp only [Pw.E,Pw.R,Pw.L,List.count_append,List.count_cons,List.count_nil];simp only [Pw.T,Pw.D,Pw.M];omega
end dF
end
section
set_option maxRecDepth 10000
open Sl
namespace dF
theorem qh : aO Tryz.prog 34:=⟨_,Tryz.func34,rfl,by kernel_rfl⟩
theorem rF (S : Po) (l : List By) : (aZ S l).2.length≤9:=by
  have h0 : ∀ y : List By,y.length≤9→(S,y).2.length≤9:=fun y h=>h
  unfold aZ
  split
  · exact h0 _ (by decide)
  split
  · unfold dZ
    split
    · exact (by decide : fc.length≤9)
    · exact h0 _ (by decide)
  split
  · unfold bW
    split
    · exact h0 _ (by decide)
    · split
      · exact (by decide : fc.length≤9)
      · exact h0 _ (by decide)
  split
  · unfold dP
    split
    · exact h0 _ (by decide)
    · split
      · split
        · exact h0 _ (by decide)
        · exact (by decide : fc.length≤9)
      · exact h0 _ (by decide)
  split
  · unfold dy
    split
    · split
      · exact (by decide : AD.length≤9)
      · exact h0 _ (by decide)
    · exact h0 _ (by decide)
  split
  · unfold dj
    split
    · split
      · exact h0 _ (by decide)
      · exact (by decide : fc.length≤9)
    · exact h0 _ (by decide)
  split
  · unfold gi
    split
    · exact (by decide : oA.length≤9)
    · exact h0 _ (by decide)
  · exact h0 _ (by decide)
set_option maxHeartbeats 16000000 in
theorem rG (b : Nat) (z : Pw) (S : Po) (ok : z.ok) (hs : z.is S) (hn : S.ln=[]) (h10 : S.to.length≤10) (wf : Dl S.dt) (line : aB) (hsz : line.l.length+S.dt.length+S.ms.length≤999000) (w : World) (hm : jh w (keys (z.E b))) (hok : line.ok w) (haw : fy line (keys (z.E b))) (h0 : aa w (keys (z.E b)) (z.E b) w) : Calls Tryz.prog 34 [Pt b 0,line.v].toArray w (fo (keys (z.E b)) b (bn S line.l) w):=by
  have hob : ∀ w',aa w' (keys (z.E b)) (z.E b) w'→Calls Tryz.prog 72 [Pt b 0,Z line.l].toArray w' (fo (keys (z.E b)) b (aZ S line.l) w'):=fun w' h=>wN b z S ok hs hn h10 line.l (by omega) w' h
  have hta : ∀ w',jh w' (keys (z.E b))→aa w' (keys (z.E b)) (z.E b) w'→Calls Tryz.prog 73 [Pt b 0].toArray w' (fo (keys (z.E b)) b (gy S) w'):=fun w' hm h=>xl b z S ok hs hn (by omega) (yQ wf) w' hm h
  have hms : ∀ w',aa w (keys (z.E b)) (z.E b++[]) w'→jh w' (keys (z.E b)):=fun w' h=>hm.sub h (z.wr b)
  have hdl : z.dt.length=S.dt.length:=by rw [hs.dt]
  generalize hS : keys (z.E b)=S0 at h0 hm haw hob hta hms ⊢
  cases h4 : decide (z.st=4) with
  | false=>
    have e : bn S line.l=((aZ S line.l).1,(aZ S line.l).2++[13,10]):=if_neg (fun e=>of_decide_eq_false h4 (hs.st.trans e))
    have hol:=rF S line.l
    rw [e]
    generalize aZ S line.l=r at hob hol ⊢
    refine enter (n:=44) Tryz.func34 rfl rfl rfl h0 ?_
    repeat (first | refine JL.q (by first|(apply OQ.load;exact cX;rfl;exact .here;exact (Row.cell (v:=N z.st) rfl))|(apply OQ.ek (b:=4);rfl;rfl;exact h4)|(apply OQ.move;rfl)|(apply OQ.assign;rfl)|(apply OQ.aV;rfl)|(apply OQ.bG;rfl;rfl;rfl;exact (by decide);rfl)) rfl ?_ | refine JC.seq ?_ | refine JC.region ?_ | refine JL.nil ?_ | refine JE.next ?_)
    refine JC.cond_true rfl rfl ?_
    repeat (first | refine JL.q (by first|(apply OQ.qQ (s:=line);exact Tryz.underlying22;exact Tryz.underlying5;exact Tryz.underlying9;rfl;exact (fun w' hw'=>zx hok hw' haw))|(apply OQ.move;rfl)) rfl ?_ | refine JC.seq ?_ | refine JC.region ?_)
    refine JL.perm ?_ (List.Perm.of_eq (List.append_nil _).symm)
    refine JL.iw (ι:={y : Pw // y.ok∧y.is r.1}) (vs:=[Pt b 0,Z line.l]) (fun _=>Z r.2) (fun y=>y.1.E b) uz rfl rfl (z.wr b) (fun y=>Pw.wr b _) (fun w' _ hx=>by
      rw [hS] at hx ⊢
      exact (hob w' hx).mono fun e w2 ⟨y,h1,h2,h3⟩=>⟨⟨y,h1⟩,h2,h3⟩) fun y=>?_
    rw [List.append_nil]
    repeat (first | refine JL.q (by first|(apply OQ.bS (l:=r.2) (r:=[13,10]);rfl;rfl;exact (by show r.2.length+2<_;omega))|(apply OQ.assign;rfl)) rfl ?_ | refine JL.nil ?_ | refine JE.next ?_)
    refine JC.ret ?_
    repeat (refine JE.ah ?_)
    exact JE.aC rfl (RV.tmp rfl) fun w' hw=>⟨y.1,y.2,rfl,hw⟩
  | true=>
    have h4' : S.st=4:=hs.st.symm.trans (of_decide_eq_true h4)
    cases h46 : decide (line.l=[46]) with
    | true=>
      have e : bn S line.l=((gy S).1,(gy S).2++[13,10]):=(if_pos h4').trans (if_pos (of_decide_eq_true h46))
      have hol : (gy S).2.length≤9:=(by decide : fc.length≤9)
      rw [e]
      generalize gy S=r at hta hol ⊢
      refine enter (n:=44) Tryz.func34 rfl rfl rfl h0 ?_
      repeat (first | refine JL.q (by first|(apply OQ.load;exact cX;rfl;exact .here;exact (Row.cell (v:=N z.st) rfl))|(apply OQ.ek (b:=4);rfl;rfl;exact h4)|(apply OQ.move;rfl)|(apply OQ.assign;rfl)|(apply OQ.aV;rfl)|(apply OQ.bG;rfl;rfl;rfl;exact (by decide);rfl)) rfl ?_ | refine JC.seq ?_ | refine JC.region ?_ | refine JL.nil ?_ | refine JE.next ?_)
      refine JC.cond_false rfl rfl ?_
      repeat (first | refine JL.q (by first|(apply OQ.qQ (s:=line);exact Tryz.underlying22;exact Tryz.underlying5;exact Tryz.underlying9;rfl;exact (fun w' hw'=>zx hok hw' haw))|(apply OQ.fX (r:=[46]);rfl;rfl;exact h46)|(apply OQ.move;rfl)) rfl ?_ | refine JC.seq ?_ | refine JC.region ?_ | refine JC.skip ?_ | refine JL.nil ?_ | refine JE.next ?_)
      refine JC.cond_true rfl rfl ?_
      repeat (first | refine JL.q (by (apply OQ.move;rfl)) rfl ?_ | refine JC.seq ?_ | refine JC.region ?_)
      refine JL.perm ?_ (List.Perm.of_eq (List.append_nil _).symm)
      refine JL.iw (ι:={y : Pw // y.ok∧y.is r.1}) (vs:=[Pt b 0]) (fun _=>Z r.2) (fun y=>y.1.E b) uN rfl rfl (z.wr b) (fun y=>Pw.wr b _) (fun w' hw' hx=>by
        rw [hS] at hx ⊢
        exact (hta w' (hms w' hw') hx).mono fun e w2 ⟨y,h1,h2,h3⟩=>⟨⟨y,h1⟩,h2,h3⟩) fun y=>?_
      rw [List.append_nil]
      repeat (first | refine JL.q (by first|(apply OQ.bS (l:=r.2) (r:=[13,10]);rfl;rfl;exact (by show r.2.length+2<_;omega))|(apply OQ.assign;rfl)) rfl ?_ | refine JL.nil ?_ | refine JE.next ?_)
      refine JC.ret ?_
      repeat (refine JE.ah ?_)
      exact JE.aC rfl (RV.tmp rfl) fun w' hw=>⟨y.1,y.2,rfl,hw⟩
    | false=>
      have e : bn S line.l=(⟨S.st,S.fr,S.to,S.ln,S.dt++(line.l++[13,10]),S.ms⟩,[]):=(if_pos h4').trans (if_neg (of_decide_eq_false h46))
      rw [e]
      refine enter (n:=44) Tryz.func34 rfl rfl rfl h0 ?_
      repeat (first | refine JL.q (by first|(apply OQ.load;exact cX;rfl;exact .here;exact (Row.cell (v:=N z.st) rfl))|(apply OQ.ek (b:=4);rfl;rfl;exact h4)|(apply OQ.move;rfl)|(apply OQ.assign;rfl)|(apply OQ.aV;rfl)|(apply OQ.bG;rfl;rfl;rfl;exact (by decide);rfl)) rfl ?_ | refine JC.seq ?_ | refine JC.region ?_ | refine JL.nil ?_ | refine JE.next ?_)
      refine JC.cond_false rfl rfl ?_
      repeat (first | refine JL.q (by first|(apply OQ.qQ (s:=line);exact Tryz.underlying22;exact Tryz.underlying5;exact Tryz.underlying9;rfl;exact (fun w' hw'=>zx hok hw' haw))|(apply OQ.fX (r:=[46]);rfl;rfl;exact h46)|(apply OQ.move;rfl)) rfl ?_ | refine JC.seq ?_ | refine JC.region ?_ | refine JC.skip ?_ | refine JL.nil ?_ | refine JE.next ?_)
      refine JC.cond_false rfl rfl ?_
      repeat (first | refine JL.q (by first|(apply OQ.load;exact dY;rfl;exact .here;exact (Row.cell (v:=ak z.qd z.dt.length) rfl))|(apply OQ.ir;exact Tryz.underlying22;exact (fun h=>congrArg List.length (ok.d h));rfl)|(apply OQ.nu (a:=z.dt.length) (b:=4194304);rfl;rfl;exact (by omega))|(apply OQ.move;rfl)|(apply OQ.aV;rfl)|(apply OQ.bG;rfl;rfl;rfl;exact (by decide);rfl)) rfl ?_ | refine JC.seq ?_ | refine JC.region ?_ | refine JC.skip ?_ | refine JL.nil ?_ | refine JE.next ?_)
      refine JC.cond_true rfl rfl ?_
      repeat (first | refine JL.q (by first|(apply OQ.load;exact dY;rfl;exact .here;exact (Row.cell (v:=ak z.qd z.dt.length) rfl))|(apply OQ.move;rfl)|(apply OQ.aV;rfl)|(apply OQ.bG;rfl;rfl;rfl;exact (by decide);rfl)) rfl ?_ | refine JC.seq ?_ | refine JC.region ?_)
      refine JL.perm (M':=aL 5 z.qd (z.dt.map U8)++(⟨b,Row 75 z.cs,true⟩::(z.T++(z.L++z.M)))) ?_ (bg fun _ _ y=>by simp only [Pw.E,Pw.R,Pw.D,List.count_append,List.count_cons,List.count_nil];omega)
      refine JL.iV (cs:=line.l.map U8) (m:=line.l.length) (ad:=line.ad) (sc:=line.cap) z.qd Tryz.underlying22 bQ (fun h=>by rw [ok.d h];rfl) (by rw [List.length_map];rfl) rfl (by rw [List.length_map]) (fun w' hw'=>(zx hok hw' haw).reads) (c8 _) rfl (by rw [List.length_map];omega) (by rw [List.length_map];omega) rfl fun q1 hq1=>?_
      rw [← List.map_append,List.length_map]
      rw [← List.map_append] at hq1
      refine JL.perm (M':=⟨b,Row 75 z.cs,true⟩::(aL 5 q1 ((z.dt++line.l).map U8)++(z.T++(z.L++z.M)))) ?_ (bg fun _ _ y=>by simp only [Pw.E,Pw.R,Pw.D,List.count_append,List.count_cons,List.count_nil];omega)
      repeat (refine JL.q (by first|(apply OQ.aV;rfl)|(apply OQ.bG;rfl;rfl;rfl;exact (by decide);rfl)) rfl ?_)
      refine JL.sB q1 (z.dt++line.l) rfl rfl ?_
      have hl2 : (z.dt++line.l).length=z.dt.length+line.l.length:=List.length_append
      repeat (first | refine JL.q (by first|(apply OQ.load;exact dY;rfl;exact .here;exact (Row.cell (v:=ak q1 (z.dt++line.l).length) rfl))|(apply OQ.move;rfl)|(apply OQ.aV;rfl)|(apply OQ.bG;rfl;rfl;rfl;exact (by decide);rfl)) rfl ?_ | refine JC.region ?_ | refine JL.nil ?_ | refine JE.next ?_)
      refine JL.perm (M':=aL 5 q1 ((z.dt++line.l).map U8)++(⟨b,Row 75 (Pw.cs { z with qd:=q1,dt:=z.dt++line.l }),true⟩::(z.T++(z.L++z.M)))) ?_ (bg fun _ _ y=>by simp only [Pw.E,Pw.R,Pw.D,List.count_append,List.count_cons,List.count_nil];omega)
      refine JL.gR (r:=[13,10]) q1 Tryz.underlying22 Tryz.underlying9 bQ hq1 (by rw [List.length_map];rfl) rfl (by simp) (by rw [List.length_map];show _+2≤_;omega) rfl fun p4=>?_
      rw [← List.map_append,List.length_map]
      refine JL.perm (M':=⟨b,Row 75 (Pw.cs { z with qd:=q1,dt:=z.dt++line.l }),true⟩::(aL 5 (some p4) ((z.dt++line.l++[13,10]).map U8)++(z.T++(z.L++z.M)))) ?_ (bg fun _ _ y=>by simp only [Pw.E,Pw.R,Pw.D,List.count_append,List.count_cons,List.count_nil];omega)
      repeat (refine JL.q (by first|(apply OQ.aV;rfl)|(apply OQ.bG;rfl;rfl;rfl;exact (by decide);rfl)) rfl ?_)
      refine JL.sB (z:={ z with qd:=q1,dt:=z.dt++line.l }) (some p4) (z.dt++line.l++[13,10]) rfl rfl ?_
      repeat (first | refine JL.q (by (apply OQ.assign;rfl)) rfl ?_ | refine JC.seq ?_ | refine JC.region ?_ | refine JL.nil ?_ | refine JE.next ?_)
      refine JC.ret ?_
      skip
      refine JE.aC rfl (RV.tmp rfl) fun w' hw=>⟨{ z with qd:=some p4,dt:=z.dt++line.l++[13,10] },⟨⟨ok.t,ok.l,nofun,ok.m⟩,⟨hs.st,hs.fr,hs.to,jH hn hs _ hn,?_,hs.ms⟩⟩,rfl,?_⟩
      · show z.dt++line.l++[13,10]=S.dt++(line.l++[13,10])
        rw [hs.dt,List.append_assoc]
      · refine hw.perm' ?_
        exact bg fun _ _ x=>by simp only [Pw.E,Pw.R,Pw.D,List.count_append,List.count_cons,List.count_nil];simp only [Pw.T,Pw.L,Pw.M];omega
end dF
end
section
set_option maxRecDepth 10000
open Sl
namespace dF
theorem uP : aO Tryz.prog 10:=⟨_,Tryz.func10,rfl,by kernel_rfl⟩
theorem lQ : aO Tryz.prog 33:=⟨_,Tryz.func33,rfl,by kernel_rfl⟩
theorem xA (l : List Bt) : gu l [13,10]=ends l:=by
  cases he : ends l with
  | true=>
    have h1:=j5 he
    have h2:=gA he
    unfold gu
    rw [show ([13,10] : List Bt).length=2 from rfl,decide_eq_true (by omega),Bool.true_and,decide_eq_true_iff]
    have h3 : l.length - 2=l.dropLast.dropLast.length:=by omega
    rw [h3]
    exact (congrArg (List.drop l.dropLast.dropLast.length) h1).trans List.drop_left
  | false=>
    cases hs : gu l [13,10] with
    | false=>rfl
    | true=>
      unfold gu at hs
      rw [Bool.and_eq_true,decide_eq_true_iff,decide_eq_true_iff] at hs
      have h1 : l=l.take (l.length - 2)++[13,10]:=by
        have:=(List.take_append_drop (l.length - 2) l).symm
        rw [show ([13,10] : List Bt).length=2 from rfl] at hs
        rw [hs.2] at this
        exact this
      rw [h1,gz] at he
      cases he
theorem uR (s d : aB) (w : World) (hs : s.ok w) (hd : d.ok w) (hdl : d.l=[13,10]) (hl : s.l.length≤4611686018427387904) :
    Calls Tryz.prog 33 [s.v,d.v].toArray w fun e w'=>e=.returned (.tuple #[(if ends s.l=true then s.fst (s.l.length - 2) else s).v,.bool (ends s.l)])∧Ext w w':=by
  have hsf:=fun (w' : World) (h1 : s.ok w') (h2 : d.ok w')=>jf s d w' h1 h2 hl
  rw [hdl,xA] at hsf
  have hdn : d.l.length=2:=by rw [hdl];rfl
  refine enter (n:=18) Tryz.func33 rfl rfl rfl (aa.start w []) ?_
  cases h : ends s.l
  · rw [h] at hsf
    rw [if_neg (by simp)]
    repeat (first | refine JL.q (by first|(apply OQ.an (vs:=[s.v,d.v]);exact fL;rfl;exact (fun w' hw'=>hsf w' (hs.holds hw' rfl) (hd.holds hw' rfl)))|(apply OQ.not;rfl)|(apply OQ.move;rfl)|(apply OQ.assign;rfl)) rfl ?_ | refine JC.seq ?_ | refine JC.region ?_ | refine JL.nil ?_ | refine JE.next ?_)
    refine JC.cond_true rfl rfl ?_
    repeat (first | refine JL.q (by first|(apply OQ.move;rfl)|(apply OQ.assign;rfl)) rfl ?_ | refine JC.seq ?_ | refine JC.region ?_ | refine JL.nil ?_ | refine JE.next ?_)
    refine JC.ret ?_
    repeat (refine JE.ah ?_)
    exact JE.bI rfl (RV.tmp rfl) (RV.tmp rfl) fun w' hw=>⟨rfl,hw.aS⟩
  · rw [h] at hsf
    have hpos:=gA h
    rw [if_pos rfl]
    have he : s.l.length - d.l.length=s.l.length - 2:=by rw [hdn]
    rw [← he]
    repeat (first | refine JL.q (by first|(apply OQ.an (vs:=[s.v,d.v]);exact fL;rfl;exact (fun w' hw'=>hsf w' (hs.holds hw' rfl) (hd.holds hw' rfl)))|(apply OQ.not;rfl)|(apply OQ.move;rfl)|(apply OQ.assign;rfl)) rfl ?_ | refine JC.seq ?_ | refine JC.region ?_ | refine JL.nil ?_ | refine JE.next ?_)
    refine JC.cond_false rfl rfl ?_
    repeat (first | refine JL.q (by first|(apply OQ.len (k:=s.l.length) (ad:=s.ad) (cap:=s.cap);exact Tryz.underlying22;rfl)|(apply OQ.len (k:=d.l.length) (ad:=d.ad) (cap:=d.cap);exact Tryz.underlying22;rfl)|(apply OQ.eu (a:=s.l.length) (b:=d.l.length);rfl;rfl;exact (by omega);exact (by omega))|(apply OQ.fst (s:=s) (m:=s.l.length - d.l.length);exact Tryz.underlying22;exact gd;rfl;rfl;exact (by omega);exact hs.len)|(apply OQ.move;rfl)|(apply OQ.assign;rfl)) rfl ?_ | refine JC.seq ?_ | refine JC.region ?_ | refine JC.skip ?_ | refine JL.nil ?_ | refine JE.next ?_)
    refine JC.ret ?_
    skip
    exact JE.bI rfl (RV.tmp rfl) (RV.tmp rfl) fun w' hw=>⟨rfl,hw.aS⟩
theorem sW (l : List Bt) : ends (tr l)=ends l:=by
  unfold tr
  split
  · rename_i h
    have hl : l=l.take (l.length - 2)++l.drop (l.length - 2):=(List.take_append_drop _ _).symm
    have h2 : (l.drop (l.length - 2)).length=2:=by rw [List.length_drop];omega
    generalize l.drop (l.length - 2)=q at hl h2 ⊢
    obtain ⟨a,c,rfl⟩ : ∃ a c,q=[a,c]:=by
      match q,h2 with
      | [a,c],_=>exact ⟨a,c,rfl⟩
    have key : ∀ p : List Bt,ends (p++[a,c])=(decide (c=10) && decide (a=13)):=fun p=>by
      unfold ends
      rw [show p++[a,c]=(p++[a])++[c] by simp,List.dropLast_concat,List.getLast?_concat,List.getLast?_concat]
      simp
    conv=>rhs;rw [hl]
    rw [key,key]
  · rfl
theorem uS {S : Po} {l : List Bt} (he : ends l=true) (h4 : ¬ S.st=4) : bn S (tr l).dropLast.dropLast=bn S l.dropLast.dropLast:=by
  by_cases h : 515<l.length
  · have h1 : (tr l).length=515:=by
      unfold tr
      rw [if_pos h,List.length_append,List.length_take,List.length_drop];omega
    have h2 : (tr l).dropLast.dropLast.length=513:=by rw [List.length_dropLast,List.length_dropLast,h1]
    have h3 : 513<l.dropLast.dropLast.length:=by rw [List.length_dropLast,List.length_dropLast];omega
    unfold bn
    rw [if_neg h4,if_neg h4]
    have e : ∀ x : List Bt,512<x.length→aZ S x=(S,eX):=fun x hx=>if_pos hx
    rw [e _ (by omega),e _ (by omega)]
  · rw [show tr l=l from if_neg h]
theorem uU {w0 w : World} {S : List Nat} {X M : List aN} {s : aB} (hw : aa w0 S (X++M) w) (hX : ∀ e ∈ X,e.wr=true) (hs : s.ok w0) (ha : fy s S) : fy s (keys X):=by
  intro h0 a e hm
  obtain ⟨y,he,hb⟩:=List.mem_map.1 hm
  have h1:=hs.lt h0 a e
  rcases (hw.all y (List.mem_append_left _ he)).2 (hX y he) with h | h
  · exact ha h0 a e (hb ▸ h)
  · omega
theorem uV {s : aB} {S : List Nat} (ha : fy s S) (m : Nat) : fy (s.snd m) S:=by
  intro h0 a e
  have h1 : s.l≠[]:=fun h=>h0 (by show s.l.drop m=[];rw [h];simp)
  have e' : (if s.cap=m then s.ad else s.ad.map (·.add (m * 1)))=some a:=e
  split at e'
  · exact ha h1 a e'
  · cases had : s.ad with
    | none=>rw [had] at e';cases e'
    | some a2=>
      rw [had] at e'
      have:=ha h1 a2 had
      obtain rfl:=Option.some.inj e'
      have hb : (a2.add (m * 1)).block=a2.block:=by unfold Addr.add;split <;> rfl
      show ¬ (a2.add (m * 1)).block ∈ S
      rw [hb]
      exact this
end dF
end
section
set_option maxRecDepth 10000
open Sl
section
variable {P : Program} {n : Nat} {E : Env} {C : World→Prop} {dst : Option Tmp} {t t' ty : TypeId} {pos : String} {aft : Array Edge} {g : Option (Nat × Bool)} {x y : Operand}
end
theorem uW : aO Tryz.prog 16:=⟨_,Tryz.func16,rfl,by kernel_rfl⟩
set_option maxHeartbeats 8000000 in
theorem xB (a b : aB) (w : World) (ha : a.ok w) (hb : b.ok w) (hal : a.l.length<4611686018427387904) : Calls Tryz.prog 16 [a.v,b.v].toArray w fun e w'=>e=.returned (.bool (decide (a.l=b.l)))∧Ext w w':=by
  refine enter (n:=26) Tryz.func16 rfl rfl rfl (aa.start w []) ?_
  repeat (first | refine JL.q (by first|(apply OQ.move;rfl)|(apply OQ.assign;rfl)|(apply OQ.len;rfl;rfl)|(apply OQ.B8;rfl;rfl)) rfl ?_ | refine JC.seq ?_ | refine JC.region ?_ | refine JL.nil ?_ | refine JE.next ?_)
  refine JC.cond rfl (fun h=>?_) (fun h=>?_)
  · have h : ¬ a.l.length=b.l.length:=by simpa using h
    repeat (first | refine JL.q (by (apply OQ.assign;rfl)) rfl ?_ | refine JC.seq ?_ | refine JC.region ?_ | refine JL.nil ?_ | refine JE.next ?_)
    refine JC.ret ?_
    repeat (refine JE.ah ?_)
    refine JE.aC rfl (RV.tmp rfl) fun w' hw=>⟨?_,hw.aS⟩
    rw [decide_eq_false (fun e=>h (by rw [e]))]
  · have h : a.l.length=b.l.length:=by simpa using h
    repeat (first | refine JL.q (by (apply OQ.assign;rfl)) rfl ?_ | refine JC.seq ?_ | refine JC.region ?_ | refine JC.block ?_ | refine JC.skip ?_ | refine JL.nil ?_ | refine JE.next ?_)
    refine JC.loop (fun i : Nat=>[(0,a.v),(1,b.v),(5,N i)]) (fun _=>[]) (fun i=>a.l.length - i) (fun i=>i≤a.l.length∧a.l.take i=b.l.take i) 0 ⟨by omega,by simp⟩ (by repeat (first | exact af.nil | refine af.cons _ _ _ rfl ?_)) (aq.refl _) ?_
    rintro i ⟨hi,hI⟩
    repeat (first | refine JL.q (by first|(apply OQ.move;rfl)|(apply OQ.len;rfl;rfl)|(apply OQ.dz;rfl;rfl)) rfl ?_ | refine JC.seq ?_ | refine JC.region ?_ | refine JL.nil ?_ | refine JE.next ?_)
    refine JC.cond rfl (fun h2=>?_) (fun h2=>?_)
    · have hi' : i<a.l.length:=of_decide_eq_true h2
      clear h2
      obtain ⟨ba,ja,hae,hca⟩:=ha.reads.at (by simp;omega)
      obtain ⟨bb,jb,hbe,hcb⟩:=hb.reads.at (by simp;omega)
      have hca:=hca i _ (cw U8 0 hi')
      have hcb:=hcb i _ (cw U8 0 (show i<b.l.length by omega))
      have hav : a.v=.slice (some ⟨ba,ja,none⟩) a.l.length a.cap:=by rw [← hae];rfl
      have hbv : b.v=.slice (some ⟨bb,jb,none⟩) b.l.length b.cap:=by rw [← hbe];rfl
      rw [hav,hbv]
      repeat (first | refine JC.seq ?_ | refine JC.block ?_ | refine JC.skip ?_ | refine JE.next ?_)
      refine JC.quiet fD (by kernel_rfl) ?_
      repeat (first | refine JQ.q (by first|(apply OQ.aJ;exact Tryz.underlying22;exact bH;rfl;rfl;exact hi')|(apply OQ.aJ;exact Tryz.underlying22;exact bH;rfl;rfl;exact (show i<b.l.length by omega))|(apply OQ.ai;exact eD;rfl;exact (block_lt_of_cell hca);exact (by simp);exact hca)|(apply OQ.ai;exact eD;rfl;exact (block_lt_of_cell hcb);exact (by simp);exact hcb)|(apply OQ.BY;rfl;rfl)|(apply OQ.move;rfl)) rfl ?_ | refine JQ.nil ?_ | refine JE.next ?_)
      refine JC.cond rfl (fun h3=>?_) (fun h3=>?_)
      · have h3 : ¬ a.l.getD i 0=b.l.getD i 0:=by simpa using h3
        repeat (first | refine JL.q (by (apply OQ.assign;rfl)) rfl ?_ | refine JC.seq ?_ | refine JC.region ?_ | refine JL.nil ?_ | refine JE.next ?_)
        refine JC.ret ?_
        repeat (first | refine JE.ah ?_ | refine JE.aW ?_)
        refine JE.aC rfl (RV.tmp rfl) fun w' hw=>⟨?_,hw.aS⟩
        rw [decide_eq_false (fun e=>h3 (by rw [e]))]
      · have h3 : a.l.getD i 0=b.l.getD i 0:=by simpa using h3
        rw [← hav,← hbv]
        repeat (first | refine JL.q (by first|(apply OQ.move;rfl)|(apply OQ.assign;rfl)|(apply OQ.aT;rfl;rfl;exact (by (try simp only []);omega))) rfl ?_ | refine JC.region ?_ | refine JC.skip ?_ | refine JL.nil ?_ | refine JE.next ?_ | refine JE.ag ?_)
        refine JE.again (i:=i) (i+1) ⟨by omega,?_⟩ (by omega) (by repeat (first | exact af.nil | refine af.cons _ _ _ rfl ?_)) (aq.refl _)
        have e1 : a.l[i]'hi'=b.l[i]'(by omega):=by
          simpa [List.getD,hi',show i<b.l.length by omega] using h3
        rw [List.take_succ_eq_append_getElem hi',List.take_succ_eq_append_getElem (show i<b.l.length by omega),hI,e1]
    · have hi' : ¬ i<a.l.length:=of_decide_eq_false h2
      obtain rfl : i=a.l.length:=by omega
      rw [List.take_length,h,List.take_length] at hI
      repeat (first | refine JL.q (by (apply OQ.assign;rfl)) rfl ?_ | refine JC.seq ?_ | refine JC.region ?_ | refine JC.exit ?_ | refine JL.nil ?_ | refine JE.next ?_ | refine JE.av ?_ | refine JE.aF ?_)
      refine JC.ret ?_
      skip
      refine JE.aC rfl (RV.tmp rfl) fun w' hw=>⟨?_,hw.aS⟩
      rw [decide_eq_true hI]
end
section
namespace Sl
section
variable {P : Program} {n : Nat} {w0 : World} {S : List Nat} {ops : Array Oper} {Q : Exit→Act→World→Prop} {l : List Oper} {E : Env} {M : List aN} {d : Nat} {t tx e ty : TypeId} {pos : String} {aft : Array Edge} {x y : Operand}
theorem nU {w : World} {i : TypeInfo} (hu : P.underlying t=some (.slice e)) (hk : P.underlying tx=some .string) (hi : P.info? e=some i) :
    (Builtin.append_ #[t,tx] ty #[.slice none 0 0,Z []]).run P w=.ok (.slice none 0 0) w:=by
  simp [Builtin.append_,Z,bz,run_underlying hu,run_underlying hk,sizeOf,typeInfo,hi,Builtin.lenOf,Builtin.firstCells,storeCells]
  rw [if_pos (show (⟨#[]⟩ : ByteArray)=ByteArray.empty from rfl)]
  rfl
theorem JL.xC {r : List Bt} {xs : List Value} (q : Acc) (hu : P.underlying t=some (.slice e)) (hk : P.underlying tx=some .string) (hi : EI P e (.int .u8 0) 1 1) (hq : q=none→xs=[]) (hx : ev E x=some (ak q xs.length)) (hy : ev E y=some (Z r))
    (hsm : (xs.length+r.length)≤140737488355328) (hd : Nat.blt d n=true)
    (kk : ∀ q' : Acc,(q'=none→xs++r.map U8=[])→JL P n w0 S ops Q l ((d,ak q' (xs++r.map U8).length)::E) (aL e q' (xs++r.map U8)++M)) : JL P n w0 S ops Q (⟨some d,.call ⟨.builtin .append,#[x,y],#[t,tx]⟩,ty,pos,aft,none⟩::l) E (aL e q xs++M):=by
  by_cases h0 : r=[]
  · subst h0
    cases q with
    | none=>
      obtain rfl:=hq rfl
      refine ⟨fun a w ha hw=>wpList_plain rfl fun K hK=>?_⟩
      obtain ⟨i,hi1,_⟩:=hi.get
      have hx' : a.eval x=.slice none 0 0:=ha.eval hx
      unfold Oper.wp
      simp only [execOp,resolve,invoke,builtin,Sem.run_bind,Sem.run_pure,Result.andThen_ok,List.map_toArray,List.map_cons,List.map_nil,hx',ha.eval hy]
      rw [nU hu hk hi1]
      exact hK _ _ ((kk none fun _=>rfl).go _ _ (ha.put d _ hd) hw)
    | some p=>
      have e1 : (xs++([] : List Bt).map U8).length=xs.length+([] : List Bt).length:=by simp
      refine JL.gQ (b:=p.1) (cap:=p.2) (k:=xs.length) (xs:=xs) (fun b' cap'=>aL e (some (b',cap')) (xs++([] : List Bt).map U8)++M) hu hk hi hx hy (fun b' cap'=>?_) hsm hd fun b' cap'=>?_
      · show az (⟨p.1,Sl.aG e 1 xs.length p.2 xs,true⟩::M) _ _ _ _ (⟨b',Sl.aG e 1 (xs++([] : List Bt).map U8).length cap' (xs++([] : List Bt).map U8),true⟩::M)
        rw [e1]
        exact .here
      · have:=kk (some (b',cap')) nofun
        rw [e1] at this
        exact this
  · exact JL.gR q hu hk hi hq hx hy h0 hsm hd fun p=>kk (some p) nofun
end
end Sl
end
section
set_option maxRecDepth 10000
open Sl
namespace dF
theorem JC.Am {P : Program} {n : Nat} {w0 : World} {S : List Nat} {Q : Exit→Act→World→Prop} {E : Env} {M : List aN} {ι : Type} (l : Nat) (Ei : ι→Env) (Mi : ι→List aN) (μ : ι→Nat) (I : ι→Prop) {c rest : Code} (hf : findLabel c l=some (.seq .skip rest))
    (pass : ∀ i,I i→JC P n w0 S (Exit.jump l (yh n w0 S Ei Mi fun j=>I j∧μ j<μ i) Q) rest (Ei i) (Mi i))
    (first : (∀ i,I i→JC P n w0 S (Exit.jump l (yh n w0 S Ei Mi I) Q) rest (Ei i) (Mi i))→JC P n w0 S (Exit.jump l (yh n w0 S Ei Mi I) Q) c E M) : JC P n w0 S Q (.scope c) E M:=
  JC.scope l Ei Mi μ I hf (first fun i hi=>(pass i hi).mono fun e a w hq=>by
    cases e with
    | goto l'=>exact ⟨hq.1,let ⟨j,h1,h2⟩:=hq.2;⟨j,h1.1,h2⟩⟩
    | _=>exact hq) fun i hi=>JC.seq (JC.skip (JE.next (pass i hi)))
structure Fd where
  z : Pw
  S : Po
  r : aB
  q : Acc
  o : List Bt
def xD (b : Nat) (S : Po) (l : List Bt) (S0 : List Nat) (w : World) : Ending→World→Prop:=fun e w'=>∃ i : {p : Pw × Acc // (p.1.ok∧p.1.is (aA S l).1)∧(p.2=none→(aA S l).2=[])},e=.returned (ak i.1.2 (aA S l).2.length)∧aa w S0 (i.1.1.E b++aL 5 i.1.2 ((aA S l).2.map U8)) w'
theorem nV {S S1 : Po} {l r o : List Bt} (h : aA S l=((aA S1 r).1,o++(aA S1 r).2)) (h2 : aA S1 r=(S1,[])) : aA S l=(S1,o):=by
  rw [h,h2,List.append_nil]
theorem xE : ∀ v ∈ ([U8 13,U8 10] : List Value),v.cells=#[v]:=by
  intro v hv
  simp only [List.mem_cons,List.not_mem_nil,or_false] at hv
  rcases hv with rfl | rfl <;> rfl
theorem xF (S : Po) (l : List By) : (bn S l).2.length≤11:=by
  unfold bn
  split
  · split
    · show ((gy S).2++[13,10]).length≤11
      exact (by decide : (fc++[13,10]).length≤11)
    · exact Nat.zero_le _
  · have:=rF S l
    show ((aZ S l).2++[13,10]).length≤11
    rw [List.length_append]
    show _+2≤11
    omega
set_option maxHeartbeats 32000000 in
theorem xG (b : Nat) (z : Pw) (S : Po) (ok : z.ok) (hs : z.is S) (wf : S.wf) (s : aB) (hsl : s.l.length≤900000) (hft : S.fit (900000 - s.l.length)) (w : World) (hm : jh w (keys (z.E b))) (hok : s.ok w) (haw : fy s (keys (z.E b))) (h0 : aa w (keys (z.E b)) (z.E b) w) : Calls Tryz.prog 10 [Pt b 0,s.v].toArray w (xD b S s.l (keys (z.E b)) w):=by
  generalize hS : keys (z.E b)=S0 at h0 hm haw ⊢
  unfold xD
  refine enter (n:=38) Tryz.func10 rfl rfl rfl h0 ?_
  repeat (first | refine JL.q (by (apply OQ.assign;rfl)) rfl ?_ | refine JC.seq ?_ | refine JC.region ?_ | refine JL.nil ?_ | refine JE.next ?_)
  refine JC.Am (ι:=Fd) 0 (fun i=>[(0,Pt b 0),(1,i.r.v),(5,ak i.q i.o.length)]) (fun i=>i.z.E b++aL 5 i.q (i.o.map U8)) (fun i=>i.r.l.length)
    (fun i=>(i.z.ok∧i.z.is i.S)∧(i.S.wf∧i.S.fit (900000 - i.r.l.length))∧i.r.l.length≤900000∧(i.r.ok w∧fy i.r S0)∧(i.q=none→i.o=[])∧i.o.length+11 * i.r.l.length≤9900000∧aA S s.l=((aA i.S i.r.l).1,i.o++(aA i.S i.r.l).2)) rfl ?_ ?_
  · rintro ⟨z,T,r,q,o⟩ ⟨⟨zok,zis⟩,⟨Twf,Tfit⟩,hrl,⟨rok,raw⟩,hq,hol,hfe⟩
    dsimp only at zok zis Twf Tfit hrl rok raw hq hol hfe ⊢
    have ccl : ∀ w',aa w S0 (z.E b++aL 5 q (o.map U8)) w'→Calls Tryz.prog 13 [Pt b 0].toArray w' fun e w2=>e=.returned (.bool (decide (z.st=5)))∧Ext w' w2:=fun w' hw'=>lF b z w' ((iU hw').weak (.keep _ _ _ _ _ _ (fun _ h=>h) (.nil _)))
    cases h5 : decide (z.st=5) with
    | true=>
      rw [h5] at ccl
      have h5' : T.st=5:=zis.st.symm.trans (of_decide_eq_true h5)
      have hfe2:=nV hfe (iB h5' r.l)
      rw [hfe2]
      repeat (first | refine JL.q (by first|(apply OQ.an (vs:=[Pt b 0]);exact fq;rfl;exact (fun w' hw'=>ccl w' hw'))|(apply OQ.ay;rfl;rfl)|(apply OQ.move;rfl)) rfl ?_ | refine JC.seq ?_ | refine JC.region ?_ | refine JL.nil ?_ | refine JE.next ?_ | refine JL.aM rfl rfl rfl rfl ?_)
      refine JC.cond_true rfl rfl ?_
      repeat (first | refine JL.q (by first|(apply OQ.move;rfl)|(apply OQ.assign;rfl)) rfl ?_ | refine JC.seq ?_ | refine JC.region ?_ | refine JL.nil ?_ | refine JE.next ?_)
      refine JC.ret (JE.ah (JE.gH ?_))
      exact JE.aC rfl (RV.tmp rfl) fun w' hw=>⟨⟨(z,q),⟨zok,zis⟩,hq⟩,rfl,hw⟩
    | false=>
      rw [h5] at ccl
      have h5' : T.st≠5:=fun e=>of_decide_eq_false h5 (zis.st.trans e)
      cases hr0 : decide (r.l.length=0) with
      | true=>
        have hrn : r.l=[]:=List.eq_nil_of_length_eq_zero (of_decide_eq_true hr0)
        have hfe2:=nV hfe (by rw [hrn];rfl)
        rw [hfe2]
        repeat (first | refine JL.q (by first|(apply OQ.an (vs:=[Pt b 0]);exact fq;rfl;exact (fun w' hw'=>ccl w' hw'))|(apply OQ.au;rfl;rfl)|(apply OQ.len (k:=r.l.length) (ad:=r.ad) (cap:=r.cap);exact Tryz.underlying22;rfl)|(apply OQ.dB (b:=0);rfl;rfl;exact hr0)|(apply OQ.move;rfl)) rfl ?_ | refine JC.seq ?_ | refine JC.region ?_ | refine JL.nil ?_ | refine JE.next ?_ | refine JL.aU rfl rfl ?_)
        refine JC.cond_true rfl rfl ?_
        repeat (first | refine JL.q (by first|(apply OQ.move;rfl)|(apply OQ.assign;rfl)) rfl ?_ | refine JC.seq ?_ | refine JC.region ?_ | refine JL.nil ?_ | refine JE.next ?_)
        refine JC.ret (JE.ah (JE.gH ?_))
        exact JE.aC rfl (RV.tmp rfl) fun w' hw=>⟨⟨(z,q),⟨zok,zis⟩,hq⟩,rfl,hw⟩
      | false=>
        have hrp : 0<r.l.length:=Nat.pos_of_ne_zero (of_decide_eq_false hr0)
        repeat (first | refine JL.q (by first|(apply OQ.an (vs:=[Pt b 0]);exact fq;rfl;exact (fun w' hw'=>ccl w' hw'))|(apply OQ.au;rfl;rfl)|(apply OQ.len (k:=r.l.length) (ad:=r.ad) (cap:=r.cap);exact Tryz.underlying22;rfl)|(apply OQ.dB (b:=0);rfl;rfl;exact hr0)|(apply OQ.move;rfl)) rfl ?_ | refine JC.seq ?_ | refine JC.region ?_ | refine JL.nil ?_ | refine JE.next ?_ | refine JL.aU rfl rfl ?_)
        refine JC.cond_false rfl rfl ?_
        repeat (first | refine JL.q (by (apply OQ.move;rfl)) rfl ?_ | refine JC.seq ?_ | refine JC.region ?_ | refine JC.skip ?_ | refine JE.next ?_)
        obtain ⟨k,hk⟩ : ∃ k,kw (mo T.st) r.l=k:=⟨_,rfl⟩
        have hkp : 0<k:=hk ▸ Al hrp (by unfold mo;split <;> omega)
        have hkl : k≤r.l.length:=hk ▸ zz _ _
        have hkn : ∀ c ∈ (r.l.take k).dropLast,c≠10:=hk ▸ Bj _ _
        have hx0 : r.l.take k≠[]:=fun h=>by
          have:=congrArg List.length h
          rw [List.length_take,List.length_nil] at this
          omega
        have hTsz : T.ln.length+r.l.length≤1000000:=by
          have:=Tfit.sz
          unfold Po.sz at this
          omega
        have hpf:=th T (r.l.take k) _ Tfit
        have hpw:=xh Twf Tfit.to hx0 hkn
        have hpc:=kG (r.l.take k) T h5' hx0 hkn
        have hrs : (r.snd k).l=r.l.drop k:=rfl
        have hrsl : (r.snd k).l.length=r.l.length - k:=by rw [hrs,List.length_drop]
        have hfe3 : aA T r.l=((aA (bE T (r.l.take k)).1 (r.snd k).l).1,(bE T (r.l.take k)).2++(aA (bE T (r.l.take k)).1 (r.snd k).l).2):=by
          rw [← hpc,hrs,← ck,List.take_append_drop]
        have hpf' : (bE T (r.l.take k)).1.fit (900000 - (r.snd k).l.length):=by
          have e1 : 900000 - r.l.length+(r.l.take k).length=900000 - (r.snd k).l.length:=by rw [hrsl,List.length_take];omega
          exact e1 ▸ hpf
        have hfe4 : aA S s.l=((aA (bE T (r.l.take k)).1 (r.snd k).l).1,(o++(bE T (r.l.take k)).2)++(aA (bE T (r.l.take k)).1 (r.snd k).l).2):=by
          rw [hfe,hfe3,List.append_assoc]
        have rok2 : (r.snd k).ok w:=rok.snd k hkl
        have raw2 : fy (r.snd k) S0:=uV raw k
        obtain ⟨x,hx⟩ : ∃ x,r.l.take k=x:=⟨_,rfl⟩
        rw [hx] at hpf' hpw hfe4
        refine JL.iw (X:=z.E b) (M0:=aL 5 q (o.map U8)) (ι:={y : Pw // y.ok∧y.is ⟨T.st,T.fr,T.to,T.ln++x,T.dt,T.ms⟩}) (vs:=[Pt b 0,r.v]) (fun _=>(r.snd k).v) (fun y=>y.1.E b) uO rfl rfl (z.wr b) (fun y=>Pw.wr b _) (fun w' hw' hx'=>by
          refine (xz b z T zok zis r hrp hTsz w' (zx rok hw' raw) (uU hw' (z.wr b) rok raw) hx').mono fun e w2 ⟨y,h1,h2,h3⟩=>?_
          rw [hk] at h1 h2
          rw [hx] at h1
          exact ⟨⟨y,h1⟩,h2,h3⟩) fun y=>?_
        obtain ⟨y,yok,yis⟩:=y
        dsimp only
        repeat (first | refine JL.q (by first|(apply OQ.load;exact dY;rfl;exact .here;exact (Row.cell (v:=ak y.ql y.ln.length) rfl))|(apply OQ.move;rfl)|(apply OQ.assign;rfl)|(apply OQ.aV;rfl)|(apply OQ.bG;rfl;rfl;rfl;exact (by decide);rfl)) rfl ?_ | refine JC.seq ?_ | refine JC.region ?_ | refine JL.nil ?_ | refine JE.next ?_)
        refine JL.lX (xs:=[.const (U8 13),.const (U8 10)]) (vs:=[U8 13,U8 10]) Tryz.underlying22 bQ rfl rfl rfl rfl xE rfl (by decide) (by decide) rfl fun bl _=>?_
        refine JL.mark (r:=[U8 13,U8 10]) (te:=5) Tryz.underlying22 Tryz.underlying5 rfl .here rfl ?_
        have hlv : aB.v (dL y.ql y.ln)=ak y.ql y.ln.length:=jx _ _
        have hll : (dL y.ql y.ln).l=y.ln:=jz yok.l
        have hyl : y.ln.length≤1000000:=by
          have h1:=yis.ln
          have h2 : (qX ⟨T.st,T.fr,T.to,T.ln++x,T.dt,T.ms⟩).length≤(T.ln++x).length:=by
            unfold qX
            split
            · exact Nat.le_refl _
            · exact xp _
          rw [h1]
          rw [List.length_append] at h2
          have : x.length≤r.l.length:=by rw [← hx,List.length_take];omega
          omega
        have hlo : ∀ {w' : World} {N1 : List aN},aa w S0 (N1++((y.E b)++aL 5 q (o.map U8))) w'→(dL y.ql y.ln).ok w':=fun {w' N1} hw'=>by
          refine iE (e:=5) (q:=y.ql) (l:=y.ln) (M:=N1++(⟨b,Row 75 y.cs,true⟩::(y.T++(y.D++(y.M++aL 5 q (o.map U8)))))) (w0:=w) (S:=S0) (hw'.perm' ?_)
          exact bg fun _ _ v=>by simp only [Pw.E,Pw.R,Pw.L,List.count_append,List.count_cons];omega
        have hcs : ∀ w',aa w S0 (⟨bl,ou 5 [U8 13,U8 10],true⟩::(y.E b++aL 5 q (o.map U8))) w'→Calls Tryz.prog 33 [ak y.ql y.ln.length,aB.v ⟨some ⟨bl,0,none⟩,2,[13,10]⟩].toArray w' fun e w2=>e=.returned (.tuple #[(if ends y.ln=true then (dL y.ql y.ln).fst (y.ln.length - 2) else dL y.ql y.ln).v,.bool (ends y.ln)])∧Ext w' w2:=fun w' hw'=>by
          have h1:=hlo (N1:=[_]) hw'
          have h2:=uR (dL y.ql y.ln) ⟨some ⟨bl,0,none⟩,2,[13,10]⟩ w' h1 (gJ (l:=[13,10]) hw' .here (Nat.le_refl _)) rfl (by rw [hll];omega)
          rw [hlv,hll] at h2
          exact h2
        cases hen : ends y.ln with
        | false=>
          rw [hen,if_neg (by simp)] at hcs
          have heT : ends (T.ln++x)=false:=by
            rw [← hen,yis.ln]
            unfold qX
            split
            · rfl
            · exact (sW _).symm
          have hpn : bE T x=(⟨T.st,T.fr,T.to,T.ln++x,T.dt,T.ms⟩,[]):=by unfold bE;rw [heT];rfl
          rw [hpn] at hpf' hpw hfe4
          repeat (first | refine JL.q (by first|(apply OQ.an (vs:=[ak y.ql y.ln.length,aB.v ⟨some ⟨bl,0,none⟩,2,[13,10]⟩]);exact lQ;rfl;exact hcs)|(apply OQ.extract;rfl;rfl)|(apply OQ.move;rfl)|(apply OQ.assign;rfl)) rfl ?_ | refine JC.seq ?_ | refine JC.region ?_ | refine JL.nil ?_ | refine JE.next ?_)
          refine JC.cond_false rfl rfl ?_
          repeat (first | refine JC.skip ?_ | refine JE.next ?_)
          refine JC.goto ?_
          refine JE.gS ⟨y,_,r.snd k,q,o⟩ ⟨⟨⟨yok,yis⟩,⟨hpw,hpf'⟩,by show (r.snd k).l.length≤_;omega,⟨rok2,raw2⟩,hq,?_,?_⟩,?_⟩ (by repeat (first | exact af.nil | refine af.cons _ _ _ rfl ?_)) (.drop _ _ _ (aq.refl _))
          · show o.length+11 * (r.snd k).l.length≤_
            omega
          · rw [hfe4,List.append_nil]
          · show (r.snd k).l.length<r.l.length
            omega
        | true=>
          have hle:=gA hen
          rw [hen,if_pos rfl] at hcs
          have heT : ends (T.ln++x)=true:=by
            rw [← hen,yis.ln]
            unfold qX
            split
            · rfl
            · exact (sW _).symm
          have hlineq : bn ⟨T.st,T.fr,T.to,[],T.dt,T.ms⟩ y.ln.dropLast.dropLast=bn ⟨T.st,T.fr,T.to,[],T.dt,T.ms⟩ (T.ln++x).dropLast.dropLast:=by
            rw [yis.ln]
            unfold qX
            split
            · rfl
            · rename_i h4
              exact uS heT h4
          have hpn : bE T x=bn ⟨T.st,T.fr,T.to,[],T.dt,T.ms⟩ y.ln.dropLast.dropLast:=by unfold bE;rw [heT,if_pos rfl,hlineq]
          rw [hpn] at hpf' hpw hfe4
          obtain ⟨⟨lb,lc⟩,hql⟩ : ∃ p,y.ql=some p:=by
            cases hq2 : y.ql with
            | none=>rw [yok.l hq2] at hen;cases hen
            | some p=>exact ⟨p,rfl⟩
          obtain ⟨line,hline⟩ : ∃ line,(dL y.ql y.ln).fst (y.ln.length - 2)=line:=⟨_,rfl⟩
          have hlnl : line.l=y.ln.dropLast.dropLast:=by
            rw [← hline]
            show (dL y.ql y.ln).l.take (y.ln.length - 2)=_
            rw [hll,List.dropLast_eq_take,List.dropLast_eq_take,List.length_take,List.take_take]
            congr 1
            omega
          have hlad : ∀ a,line.ad=some a→a.block=lb:=fun a ha=>by
            rw [← hline,hql] at ha
            have ha' : (if lc=0 then (some ⟨lb,0,none⟩ : Option Addr) else (some ⟨lb,0,none⟩ : Option Addr).map (·.add 0))=some a:=ha
            split at ha'
            · cases ha';rfl
            · cases ha';rfl
          rw [hline] at hcs
          repeat (first | refine JL.q (by first|(apply OQ.an (vs:=[ak y.ql y.ln.length,aB.v ⟨some ⟨bl,0,none⟩,2,[13,10]⟩]);exact lQ;rfl;exact hcs)|(apply OQ.extract;rfl;rfl)|(apply OQ.move;rfl)|(apply OQ.assign;rfl)) rfl ?_ | refine JC.seq ?_ | refine JC.region ?_ | refine JL.nil ?_ | refine JE.next ?_)
          refine JC.cond_true rfl rfl ?_
          refine JC.sV (M':=⟨b,Row 75 y.cs,true⟩::(y.R++(⟨bl,ou 5 [U8 13,U8 10],true⟩::aL 5 q (o.map U8)))) ?_ (by exact bg fun _ _ v=>by simp only [Pw.E,List.count_append,List.count_cons];omega)
          repeat (first | refine JL.q (by first|(apply OQ.move;rfl)|(apply OQ.aV;rfl)|(apply OQ.bG;rfl;rfl;rfl;exact (by decide);rfl)) rfl ?_ | refine JC.seq ?_ | refine JC.region ?_)
          refine JL.vT none [] rfl rfl ?_
          repeat (first | refine JL.q (by (apply OQ.move;rfl)) rfl ?_ | refine JC.region ?_ | refine JL.nil ?_ | refine JE.next ?_)
          obtain ⟨y0,hy0⟩ : ∃ y0 : Pw,y0={ y with ql:=none,ln:=[] }:=⟨_,rfl⟩
          have hy0ok : y0.ok:=by rw [hy0];exact ⟨yok.t,fun _=>rfl,yok.d,yok.m⟩
          have hy0is : y0.is ⟨T.st,T.fr,T.to,[],T.dt,T.ms⟩:=by rw [hy0];exact ⟨yis.st,yis.fr,yis.to,(iX rfl).symm,yis.dt,yis.ms⟩
          have hy0R : y0.R=y.T++(y.D++y.M):=by rw [hy0];rfl
          refine JL.perm (M':=y0.E b++(aL 5 y.ql (y.ln.map U8)++(⟨bl,ou 5 [U8 13,U8 10],true⟩::aL 5 q (o.map U8)))) ?_ ?_
          rotate_left
          · unfold Pw.E
            rw [hy0R,hy0]
            exact bg fun _ _ v=>by simp only [Pw.R,Pw.L,List.count_append,List.count_cons];omega
          have hao:=xF ⟨T.st,T.fr,T.to,[],T.dt,T.ms⟩ y.ln.dropLast.dropLast
          have hTs:=Tfit.sz
          have hans : ∀ w',jh w' (keys (y0.E b))→line.ok w'→fy line (keys (y0.E b))→aa w' (keys (y0.E b)) (y0.E b) w'→Calls Tryz.prog 34 [Pt b 0,line.v].toArray w' (fo (keys (y0.E b)) b (bn ⟨T.st,T.fr,T.to,[],T.dt,T.ms⟩ y.ln.dropLast.dropLast) w'):=fun w' h1 h2 h3 h4=>by
            have:=rG b y0 ⟨T.st,T.fr,T.to,[],T.dt,T.ms⟩ hy0ok hy0is rfl Tfit.to Twf.dl line (by
              rw [hlnl]
              show _+T.dt.length+T.ms.length≤_
              unfold Po.sz at hTs
              have hyl2 : y.ln.length≤(T.ln++x).length:=by
                rw [yis.ln]
                unfold qX
                split
                · exact Nat.le_refl _
                · exact xp _
              rw [List.length_append] at hyl2
              have : x.length≤r.l.length:=by rw [← hx,List.length_take];omega
              omega) w' h1 h2 h3 h4
            rw [hlnl] at this
            exact this
          generalize bn ⟨T.st,T.fr,T.to,[],T.dt,T.ms⟩ y.ln.dropLast.dropLast=ar at hpf' hpw hfe4 hao hans
          refine JL.iw (ι:={v : Pw // v.ok∧v.is ar.1}) (vs:=[Pt b 0,line.v]) (fun _=>Z ar.2) (fun v=>v.1.E b) qh rfl rfl (y0.wr b) (fun v=>Pw.wr b _) (fun w' hw' hx'=>by
            have hlk : line.ok w':=by
              have h1 : (dL y.ql y.ln).ok w':=iE (e:=5) (q:=y.ql) (l:=y.ln) (M:=y0.E b++(⟨bl,ou 5 [U8 13,U8 10],true⟩::aL 5 q (o.map U8))) (w0:=w) (S:=S0) (hw'.perm' (bg fun _ _ v=>by simp only [List.count_append,List.count_cons];omega))
              rw [← hline]
              exact h1.fst _
            have hla : fy line (keys (y0.E b)):=fun _ a ha=>by
              rw [hlad a ha]
              refine o3 (b:=lb) (A:=Sl.aG 5 1 (y.ln.map U8).length lc (y.ln.map U8)) (M:=aL 5 y.ql (y.ln.map U8)++(⟨bl,ou 5 [U8 13,U8 10],true⟩::aL 5 q (o.map U8))) (wr:=true) hw' ?_
              rw [hql]
              exact .here
            exact (hans w' (hm.sub hw' (y0.wr b)) hlk hla hx').mono fun e w2 ⟨v,h1,h2,h3⟩=>⟨⟨v,h1⟩,h2,h3⟩) fun v=>?_
          obtain ⟨v,vok,vis⟩:=v
          dsimp only
          refine JL.eY (M':=v.E b++aL 5 q (o.map U8)) ?_ (fJ (aq.refl _) (c7 _ (.drop _ _ _ (aq.refl _))))
          refine JL.perm (M':=aL 5 q (o.map U8)++v.E b) ?_ List.perm_append_comm
          refine JL.xC (r:=ar.2) q Tryz.underlying22 Tryz.underlying9 bQ (fun h=>by rw [hq h];rfl) (by rw [List.length_map];rfl) rfl (by rw [List.length_map];omega) rfl fun q2 hq2=>?_
          rw [← List.map_append] at hq2 ⊢
          rw [List.length_map]
          refine JL.perm (M':=v.E b++aL 5 q2 ((o++ar.2).map U8)) ?_ List.perm_append_comm
          repeat (first | refine JL.q (by (apply OQ.assign;rfl)) rfl ?_ | refine JL.nil ?_ | refine JE.next ?_)
          refine JC.goto ?_
          refine JE.gS ⟨v,ar.1,r.snd k,q2,o++ar.2⟩ ⟨⟨⟨vok,vis⟩,⟨hpw,hpf'⟩,by show (r.snd k).l.length≤_;omega,⟨rok2,raw2⟩,(fun h=>List.map_eq_nil_iff.1 (hq2 h)),?_,hfe4⟩,?_⟩ (by repeat (first | exact af.nil | refine af.cons _ _ _ rfl ?_)) (aq.refl _)
          · show (o++ar.2).length+11 * (r.snd k).l.length≤_
            rw [List.length_append]
            omega
          · show (r.snd k).l.length<r.l.length
            omega
  · intro hp
    refine JC.seq (JC.region ?_)
    repeat (refine JL.q (by (apply OQ.assign;rfl)) rfl ?_)
    refine JL.nil (JE.next ?_)
    refine JC.seq (JC.label (JE.next ?_))
    refine (hp ⟨z,S,s,none,[]⟩ ⟨⟨ok,hs⟩,⟨wf,hft⟩,hsl,⟨hok,haw⟩,fun _=>rfl,?_,?_⟩).weak (by repeat (first | exact af.nil | refine af.cons _ _ _ rfl ?_)) ?_
    · show 0+11 * s.l.length≤_
      omega
    · show aA S s.l=((aA S s.l).1,[]++(aA S s.l).2)
      rw [List.nil_append]
    · show aq (z.E b++[]) (z.E b)
      rw [List.append_nil]
      exact aq.refl _
end dF
end
section
set_option maxRecDepth 10000
open Sl
namespace dF
theorem ji : aO Tryz.prog 9:=⟨_,Tryz.func9,rfl,by kernel_rfl⟩
theorem qi : aO Tryz.prog 35:=⟨_,Tryz.func35,rfl,by kernel_rfl⟩
theorem qj : aO Tryz.prog 36:=⟨_,Tryz.func36,rfl,by kernel_rfl⟩
theorem rH : aO Tryz.prog 12:=⟨_,Tryz.func12,rfl,by kernel_rfl⟩
theorem l5 : aO Tryz.prog 7:=⟨_,Tryz.func7,rfl,by kernel_rfl⟩
def vm : Pw:=⟨0,[],none,[],none,[],none,[],none,[]⟩
theorem xH : vm.ok:=⟨fun _=>rfl,fun _=>rfl,fun _=>rfl,fun _=>rfl⟩
theorem xI : vm.is new:=⟨rfl,rfl,rfl,rfl,rfl,rfl⟩
theorem rI : Program.built Tryz.prog 75 []=some vm.cs.toArray:=by kernel_rfl
theorem jV (w : World) : Calls Tryz.prog 9 ([] : List Value).toArray w fun e w'=>∃ b : Nat,e=.returned (Pt b 0)∧aa w [] (vm.E b) w':=by
  refine enter (n:=3) Tryz.func9 rfl rfl rfl (aa.start w []) ?_
  repeat (first | refine JL.q (by first|(apply OQ.eZ (cs:=vm.cs) (vs:=[]) (is:=[]) (xs:=[]);rfl;rfl;exact rI)|(apply OQ.assign;rfl)) rfl ?_ | refine JC.seq ?_ | refine JC.region ?_ | refine JL.nil ?_ | refine JE.next ?_)
  refine JL.box (r:=vm.cs) rfl rfl rfl fun b _=>?_
  repeat (first | refine JL.q (by (apply OQ.assign;rfl)) rfl ?_ | refine JL.nil ?_ | refine JE.next ?_)
  refine JC.ret ?_
  skip
  exact JE.aC rfl (RV.tmp rfl) fun w' hw=>⟨b,rfl,hw⟩
def jW (w : World) (q : Acc) (cs : List Value) : Prop:=∀ p,q=some p→Reads w (some ⟨p.1,0,none⟩) cs
theorem jW.ext {w w' : World} {q : Acc} {cs : List Value} (h : jW w q cs) (hx : Ext w w') : jW w' q cs:=fun p hp=>by
  have : aa w [] [] w':=⟨hx,by simp,by simp⟩
  exact this.reads (h p hp) (fun _ a _=>by simp)
set_option maxHeartbeats 4000000 in
theorem rJ (q : Acc) (css : List (List Value)) (h3 : ∀ c ∈ css,c.length=3) (h1 : ∀ v ∈ css.flatten,v.oneCell'=true) (hq : q=none→css=[]) (w : World) (hr : jW w q css.flatten) (hl : css.length≤1000000) : Calls Tryz.prog 35 [ak q css.length].toArray w fun e w'=>∃ q' : {q' : Acc // q'=none→css=[]},e=.returned (ak q'.1 css.length)∧aa w [] (c9 38 3 q'.1 css) w':=by
  have hfl:=ei h3
  refine enter (n:=8) Tryz.func35 rfl rfl rfl (aa.start w []) ?_
  cases q with
  | none=>
    obtain rfl:=hq rfl
    repeat (first | refine JL.q (by first|(apply OQ.nC (ad:=none) (k:=0) (cap:=0);exact Tryz.underlying31;rfl;rfl)|(apply OQ.move;rfl)|(apply OQ.assign;rfl)) rfl ?_ | refine JC.seq ?_ | refine JC.region ?_ | refine JL.nil ?_ | refine JE.next ?_)
    refine JC.cond_true rfl rfl ?_
    repeat (first | refine JL.q (by (apply OQ.assign;rfl)) rfl ?_ | refine JC.seq ?_ | refine JC.region ?_ | refine JL.nil ?_ | refine JE.next ?_)
    refine JC.ret ?_
    repeat (refine JE.ah ?_)
    exact JE.aC rfl (RV.tmp rfl) fun w' hw=>⟨⟨none,fun _=>rfl⟩,rfl,hw⟩
  | some p=>
    have hrp:=hr p rfl
    repeat (first | refine JL.q (by first|(apply OQ.nC (ad:=some ⟨p.1,0,none⟩) (k:=css.length) (cap:=p.2);exact Tryz.underlying31;rfl;rfl)|(apply OQ.move;rfl)|(apply OQ.assign;rfl)) rfl ?_ | refine JC.seq ?_ | refine JC.region ?_ | refine JL.nil ?_ | refine JE.next ?_)
    refine JC.cond_false rfl rfl ?_
    repeat (first | refine JC.seq ?_ | refine JC.region ?_ | refine JC.skip ?_ | refine JE.next ?_)
    refine JL.zP Tryz.underlying31 zU rfl fun b0 _=>?_
    repeat (refine JL.q (by (apply OQ.move;rfl)) rfl ?_)
    refine JL.append (cs:=css.flatten) (m:=css.length) (ad:=some ⟨p.1,0,none⟩) (sc:=p.2) (xs:=[]) (fun b' cap'=>[⟨b',Sl.aG 38 3 (0+css.length) cap' ([]++css.flatten),true⟩]) Tryz.underlying31 zU rfl rfl (by intro _ _;repeat (first | exact az.here | apply az.there)) hfl (fun w' hw'=>hw'.reads hrp (fun _ a _=>by simp)) h1 rfl (by decide) (by omega) (by omega) rfl fun b1 cap1=>?_
    rw [Nat.zero_add,List.nil_append]
    repeat (first | refine JL.q (by (apply OQ.assign;rfl)) rfl ?_ | refine JL.nil ?_ | refine JE.next ?_)
    refine JC.ret (JE.aC rfl (RV.tmp rfl) fun w' hw=>⟨⟨some (b1,cap1),nofun⟩,rfl,hw⟩)
set_option maxHeartbeats 4000000 in
theorem rK (q : Acc) (l : List (List Bt)) (hq : q=none→l=[]) (w : World) (hr : jW w q (l.map Z)) (hl : l.length≤1000000) : Calls Tryz.prog 36 [ak q l.length].toArray w fun e w'=>∃ q' : {q' : Acc // q'=none→l=[]},e=.returned (ak q'.1 l.length)∧aa w [] (aL 9 q'.1 (l.map Z)) w':=by
  have hlm : (l.map Z).length=l.length * 1:=by rw [List.length_map,Nat.mul_one]
  refine enter (n:=8) Tryz.func36 rfl rfl rfl (aa.start w []) ?_
  cases q with
  | none=>
    obtain rfl:=hq rfl
    repeat (first | refine JL.q (by first|(apply OQ.nC (ad:=none) (k:=0) (cap:=0);exact Tryz.underlying30;rfl;rfl)|(apply OQ.move;rfl)|(apply OQ.assign;rfl)) rfl ?_ | refine JC.seq ?_ | refine JC.region ?_ | refine JL.nil ?_ | refine JE.next ?_)
    refine JC.cond_true rfl rfl ?_
    repeat (first | refine JL.q (by (apply OQ.assign;rfl)) rfl ?_ | refine JC.seq ?_ | refine JC.region ?_ | refine JL.nil ?_ | refine JE.next ?_)
    refine JC.ret ?_
    repeat (refine JE.ah ?_)
    exact JE.aC rfl (RV.tmp rfl) fun w' hw=>⟨⟨none,fun _=>rfl⟩,rfl,hw⟩
  | some p=>
    have hrp:=hr p rfl
    repeat (first | refine JL.q (by first|(apply OQ.nC (ad:=some ⟨p.1,0,none⟩) (k:=l.length) (cap:=p.2);exact Tryz.underlying30;rfl;rfl)|(apply OQ.move;rfl)|(apply OQ.assign;rfl)) rfl ?_ | refine JC.seq ?_ | refine JC.region ?_ | refine JL.nil ?_ | refine JE.next ?_)
    refine JC.cond_false rfl rfl ?_
    repeat (first | refine JC.seq ?_ | refine JC.region ?_ | refine JC.skip ?_ | refine JE.next ?_)
    refine JL.zP Tryz.underlying30 kW rfl fun b0 _=>?_
    repeat (refine JL.q (by (apply OQ.move;rfl)) rfl ?_)
    refine JL.append (cs:=l.map Z) (m:=l.length) (ad:=some ⟨p.1,0,none⟩) (sc:=p.2) (xs:=[]) (fun b' cap'=>[⟨b',Sl.aG 9 1 (0+l.length) cap' ([]++l.map Z),true⟩]) Tryz.underlying30 kW rfl rfl (by intro _ _;repeat (first | exact az.here | apply az.there)) hlm (fun w' hw'=>hw'.reads hrp (fun _ a _=>by simp)) (fun v hv=>by obtain ⟨x,_,rfl⟩:=List.mem_map.1 hv;rfl) rfl (by decide) (by omega) (by omega) rfl fun b1 cap1=>?_
    rw [Nat.zero_add,List.nil_append]
    repeat (first | refine JL.q (by (apply OQ.assign;rfl)) rfl ?_ | refine JL.nil ?_ | refine JE.next ?_)
    refine JC.ret (JE.aC rfl (RV.tmp rfl) fun w' hw=>⟨⟨some (b1,cap1),nofun⟩,rfl,?_⟩)
    show aa w [] [⟨b1,Sl.aG 9 1 (l.map Z).length cap1 (l.map Z),true⟩] w'
    rw [List.length_map]
    exact hw
end dF
end
section
set_option maxRecDepth 10000
open Sl
namespace dF
structure Pw.rd (z : Pw) (w : World) : Prop where
  c : jW w z.qm (z.zs.map Mz.cs).flatten
  t : ∀ m ∈ z.zs,jW w m.qt (m.m.to.map Z)
  b : ∀ m ∈ z.zs,(dL m.qb m.m.b).ok w
theorem vH {u w : World} {S : List Nat} {X : List aN} {e : TypeId} {q : Acc} {xs : List Value} (hw : aa u S X w) (h : ∀ x ∈ aL e q xs,x ∈ X) : jW w q xs:=by
  intro p hp
  subst hp
  obtain ⟨⟨o,ho,hA⟩,_⟩:=hw.all ⟨p.1,Sl.aG e 1 xs.length p.2 xs,true⟩ (h _ List.mem_cons_self)
  exact Reads.block ho (Sl.aG.cells o hA)
theorem kn {u w : World} {S : List Nat} {X : List aN} {e : TypeId} {q : Acc} {l : List Bt} (hw : aa u S X w) (h : ∀ x ∈ aL e q (l.map U8),x ∈ X) : (dL q l).ok w:=by
  cases q with
  | none=>exact j8 w
  | some p=>
    obtain ⟨⟨o,ho,hA⟩,_⟩:=hw.all ⟨p.1,Sl.aG e 1 (l.map U8).length p.2 (l.map U8),true⟩ (h _ List.mem_cons_self)
    refine ⟨?_,Reads.block ho (Sl.aG.cells o hA)⟩
    obtain ⟨_,_,_,_,h3⟩:=hA
    rw [List.length_map] at h3
    exact h3
theorem xJ {zs : List Mz} {m : Mz} (h : m ∈ zs) : ∀ x ∈ m.E,x ∈ zs.flatMap Mz.E:=fun x hx=>List.mem_flatMap.2 ⟨m,h,hx⟩
theorem Pw.Bk {u w : World} {S : List Nat} {X : List aN} {z : Pw} (hw : aa u S X w) (h : ∀ x ∈ z.M,x ∈ X) : z.rd w:=by
  have hM : ∀ m ∈ z.zs,∀ x ∈ m.E,x ∈ X:=fun m hm x hx=>h x (List.mem_append_right _ (xJ hm x hx))
  refine ⟨?_,fun m hm=>?_,fun m hm=>?_⟩
  · intro p hp
    obtain ⟨⟨o,ho,hA⟩,_⟩:=hw.all ⟨p.1,Sl.aG 38 3 (z.zs.map Mz.cs).length p.2 (z.zs.map Mz.cs).flatten,true⟩ (h _ (List.mem_append_left _ (by rw [hp];exact List.mem_cons_self)))
    exact Reads.block ho (Sl.aG.cells o hA)
  · exact vH (e:=9) hw fun x hx=>hM m hm x (List.mem_append_left _ hx)
  · exact kn (e:=5) hw fun x hx=>hM m hm x (List.mem_append_right _ hx)
theorem rL {sz i off : Nat} {L : List (List Value)} {v : Value} (h : ∀ c ∈ L,c.length=sz) (hi : i<L.length) (ho : off<sz) : L.flatten.set (i * sz+off) v=(L.set i ((L.getD i []).set off v)).flatten:=by
  have hfl:=ei h
  have hle : i * sz+sz≤L.flatten.length:=by rw [hfl,← Nat.succ_mul];exact Nat.mul_le_mul_right _ (by omega)
  have hci : (L.getD i []).length=sz:=h _ (by rw [List.getD_eq_getElem?_getD,List.getElem?_eq_getElem hi];exact List.getElem_mem _)
  have:=qU (sz':=1) (off:=off) (c:=[v]) h hi (by omega)
  rw [List.set_eq_take_append_cons_drop,if_pos (by omega),List.set_eq_take_append_cons_drop (l:=L.getD i []),if_pos (by omega)]
  simpa using this
section
variable {P : Program} {n : Nat} {w0 : World} {S : List Nat} {ops : Array Oper} {Q : Exit→Act→World→Prop} {l : List Oper} {E : Env} {M M' : List aN} {b k cap o off i sz : Nat} {t e ty : TypeId} {pos : String} {aft : Array Edge} {v : Value} {x y : Operand} {L : List (List Value)}
theorem JL.sX (hz : gv P t=some 1) (hx : ev E x=some (.pointer (some ⟨b,o,none⟩))) (ho : o=i * sz+off) (hy : ev E y=some v) (hv : v.oneCell'=true) (hcl : v.cells=#[v]) (hL : ∀ c ∈ L,c.length=sz) (hi : i<L.length) (hof : off<sz)
    (hu : nr M b (Sl.aG e sz k cap L.flatten) (Sl.aG e sz k cap (L.set i ((L.getD i []).set off v)).flatten) M') (kk : JL P n w0 S ops Q l E M') : JL P n w0 S ops Q (⟨none,.store t x y,ty,pos,aft,none⟩::l) E M:=by
  subst ho
  have hle : i * sz+off<L.flatten.length:=by
    have : i * sz+sz≤L.flatten.length:=by rw [ei hL,← Nat.succ_mul];exact Nat.mul_le_mul_right _ (by omega)
    omega
  have he:=rL (v:=v) hL hi hof
  exact JL.store hx hy hz hv hcl hu (by
    rintro ob ⟨sp,rfl,h2,h3,h4⟩
    refine ⟨_,_,rfl,by simp only [List.size_toArray,List.length_append];omega,sp,?_,?_,?_,h4⟩
    · rw [← he]
      simp only [List.setIfInBounds_toArray]
      rw [List.set_append_left _ _ hle]
    · rw [← he,List.length_append,List.length_set,← List.length_append]
      exact h2
    · rw [← he,List.length_set]
      exact h3) kk
end
theorem nW (zs : List Mz) : ∀ c ∈ zs.map Mz.cs,c.length=3:=by
  intro c hc
  obtain ⟨m,_,rfl⟩:=List.mem_map.1 hc
  rfl
theorem yS (zs : List Mz) : ∀ v ∈ (zs.map Mz.cs).flatten,v.oneCell'=true:=by
  intro v hv
  obtain ⟨c,hc,hv⟩:=List.mem_flatten.1 hv
  obtain ⟨m,_,rfl⟩:=List.mem_map.1 hc
  exact nS m v hv
theorem qk : aO Tryz.prog 37:=⟨_,Tryz.func37,rfl,by kernel_rfl⟩
theorem sY {A B : List (List Value)} {i : Nat} (hA : A.length=i) (x y : List Value) : (A++x::B).set i y=A++y::B:=by
  subst hA
  simp
theorem nX {A B : List (List Value)} {i : Nat} (hA : A.length=i) (x : List Value) : (A++x::B).getD i []=x:=by
  subst hA
  simp
theorem JE.zA {n : Nat} {w0 : World} {S : List Nat} {Q : Exit→Act→World→Prop} {e : Exit} {E : Env} {M M' : List aN} (h : JE n w0 S Q e E M') (hp : M.Perm M') : JE n w0 S Q e E M:=⟨fun a w ha hw=>h.go a w ha (hw.perm' hp)⟩
def sZ (z : Pw) (w : World) : Ending→World→Prop:=fun e w'=>∃ y : {y : Acc × List Mz // (y.1=none→y.2=[])∧y.2.map Mz.m=z.zs.map Mz.m},e=.returned (ak y.1.1 z.zs.length)∧aa w [] (c9 38 3 y.1.1 (y.1.2.map Mz.cs)++y.1.2.flatMap Mz.E) w'
set_option maxHeartbeats 16000000 in
theorem uX (b : Nat) (z : Pw) (ok : z.ok) (hb : ∀ m ∈ z.zs,m.m.to.length≤1000000∧m.m.b.length≤4000000) (hn : z.zs.length≤1000000) (w : World) (rd : z.rd w) (h0 : aa w [] [⟨b,Row 75 z.cs,false⟩] w) : Calls Tryz.prog 12 [Pt b 0].toArray w (sZ z w):=by
  unfold sZ
  have hmn : (z.zs.map Mz.cs).length=z.zs.length:=List.length_map _
  have hcl : ∀ w',Ext w w'→Calls Tryz.prog 35 [ak z.qm z.zs.length].toArray w' fun e w2=>∃ q' : {q' : Acc // q'=none→z.zs.map Mz.cs=[]},e=.returned (ak q'.1 z.zs.length)∧aa w' [] (c9 38 3 q'.1 (z.zs.map Mz.cs)) w2:=fun w' hx=>by
    have:=rJ z.qm (z.zs.map Mz.cs) (nW _) (yS _) (fun h=>by rw [ok.m h];rfl) w' (rd.c.ext hx) (by omega)
    rw [hmn] at this
    exact this
  refine enter (n:=34) Tryz.func12 rfl rfl rfl h0 ?_
  repeat (first | refine JL.q (by first|(apply OQ.load;exact vQ;rfl;exact .here;exact (Row.cell (v:=ak z.qm z.zs.length) rfl))|(apply OQ.move;rfl)|(apply OQ.assign;rfl)|(apply OQ.aV;rfl)|(apply OQ.bG;rfl;rfl;rfl;exact (by decide);rfl)) rfl ?_ | refine JC.seq ?_ | refine JC.region ?_ | refine JL.nil ?_ | refine JE.next ?_)
  refine JL.cE (ι:={q' : Acc // q'=none→z.zs.map Mz.cs=[]}) (vs:=[ak z.qm z.zs.length]) (fun q=>ak q.1 z.zs.length) (fun q=>c9 38 3 q.1 (z.zs.map Mz.cs)) qi rfl rfl (fun q=>j9 _ _ _ _) (fun w' hw'=>hcl w' hw'.aS) ?_
  rintro ⟨q,hq⟩
  dsimp only
  have hq0 : q=none→z.zs.length=0:=fun h=>by rw [← hmn,hq h];rfl
  repeat (first | refine JL.q (by first|(apply OQ.ir;exact Tryz.underlying31;exact hq0;rfl)|(apply OQ.move;rfl)|(apply OQ.assign;rfl)) rfl ?_ | refine JC.seq ?_ | refine JC.region ?_ | refine JC.block ?_ | refine JL.nil ?_ | refine JE.next ?_)
  refine JC.loop (ι:=List Mz) (fun ys=>[(3,ak q z.zs.length),(11,ak q z.zs.length),(12,N z.zs.length),(13,N ys.length)]) (fun ys=>c9 38 3 q (ys.map Mz.cs++(z.zs.drop ys.length).map Mz.cs)++ys.flatMap Mz.E) (fun ys=>z.zs.length - ys.length) (fun ys=>ys.length≤z.zs.length∧ys.map Mz.m=(z.zs.take ys.length).map Mz.m) [] ⟨Nat.zero_le _,rfl⟩ (by repeat (first | exact af.nil | refine af.cons _ _ _ rfl ?_)) (by show aq (c9 _ 3 q ([]++(z.zs.drop 0).map Mz.cs)++[]) _;rw [List.append_nil,List.nil_append,List.drop_zero];exact ew _ _) ?_
  rintro ys ⟨hle,hms⟩
  obtain ⟨i,hi⟩ : ∃ i,ys.length=i:=⟨_,rfl⟩
  rw [hi] at hle hms ⊢
  repeat (first | refine JL.q (by (apply OQ.dz (a:=i) (b:=z.zs.length);rfl;rfl)) rfl ?_ | refine JC.seq ?_ | refine JC.region ?_ | refine JL.nil ?_ | refine JE.next ?_)
  refine JC.cond rfl (fun hh=>?_) (fun hh=>?_)
  · have hi' : i<z.zs.length:=of_decide_eq_true hh
    clear hh
    obtain ⟨⟨lb,lc⟩,rfl⟩ : ∃ p,q=some p:=by
      cases q with
      | none=>have:=hq0 rfl;omega
      | some p=>exact ⟨p,rfl⟩
    obtain ⟨m,hmd⟩ : ∃ m,z.zs[i]?=some m:=⟨_,List.getElem?_eq_getElem hi'⟩
    have hmem : m ∈ z.zs:=List.mem_of_getElem? hmd
    obtain ⟨hb1,hb2⟩:=hb m hmem
    have hdr : z.zs.drop i=m::z.zs.drop (i+1):=by
      rw [List.drop_eq_getElem_cons hi']
      congr 1
      exact (List.getElem?_eq_some_iff.1 hmd).2
    have htk : z.zs.take (i+1)=z.zs.take i++[m]:=by
      rw [List.take_succ_eq_append_getElem hi']
      congr 2
      exact (List.getElem?_eq_some_iff.1 hmd).2
    obtain ⟨A,hA⟩ : ∃ A,ys.map Mz.cs=A:=⟨_,rfl⟩
    have hAl : A.length=i:=by rw [← hA,List.length_map,hi]
    obtain ⟨B,hB⟩ : ∃ B,(z.zs.drop (i+1)).map Mz.cs=B:=⟨_,rfl⟩
    have hBl : B.length=z.zs.length - (i+1):=by rw [← hB,List.length_map,List.length_drop]
    have hA3 : ∀ c ∈ A,c.length=3:=hA ▸ nW ys
    have hB3 : ∀ c ∈ B,c.length=3:=hB ▸ nW _
    rw [hdr,List.map_cons,hA,hB]
    have hL3 : ∀ x : List Value,x.length=3→∀ c ∈ A++x::B,c.length=3:=fun x hx c hc=>by
      rcases List.mem_append.1 hc with h | h
      · exact hA3 c h
      · rcases List.mem_cons.1 h with rfl | h
        · exact hx
        · exact hB3 c h
    have hLl : ∀ x : List Value,(A++x::B).length=z.zs.length:=fun x=>by rw [List.length_append,List.length_cons];omega
    have hga : (.agg ((A++m.cs::B).getD i []).toArray : Value)=.agg m.cs.toArray:=by rw [nX hAl]
    have hzi : Pt lb (0+i * 3)=Pt lb (i * 3):=by rw [Nat.zero_add]
    have hown : c9 38 3 (some (lb,lc)) (A++m.cs::B)=[⟨lb,Sl.aG 38 3 z.zs.length lc (A++m.cs::B).flatten,true⟩]:=by
      unfold c9
      rw [hLl]
    rw [hown]
    have hzc : ∀ w',Ext w w'→Calls Tryz.prog 36 [ak m.qt m.m.to.length].toArray w' fun e w2=>∃ q' : {q' : Acc // q'=none→m.m.to=[]},e=.returned (ak q'.1 m.m.to.length)∧aa w' [] (aL 9 q'.1 (m.m.to.map Z)) w2:=fun w' hx=>rK m.qt m.m.to m.ht w' ((rd.t m hmem).ext hx) hb1
    have hbc : ∀ w',Ext w w'→Calls Tryz.prog 37 [ak m.qb m.m.b.length].toArray w' fun e w2=>∃ q' : {q' : Acc // q'=none→m.m.b=[]},e=.returned (ak q'.1 m.m.b.length)∧aa w' [] (aL 5 q'.1 (m.m.b.map U8)) w2:=fun w' hx=>by
      have h1:=mQ (dL m.qb m.m.b) w' ((rd.b m hmem).ext hx) (by rw [jz m.hb];omega)
      rw [jx,jz m.hb] at h1
      exact h1.mono fun e w2 ⟨q',h1,h2,h3⟩=>⟨⟨q',h2⟩,h1,h3⟩
    repeat (first | refine JL.q (by first|(apply OQ.to;exact (OQ.bR (k:=.i64) (i:=i) (sz:=3) Tryz.underlying31 ow rfl rfl hi');exact hzi)|(apply OQ.to;exact (OQ.AV (L:=A++m.cs::B) (i:=i) qY ow rfl rfl .here (hL3 _ rfl) (by rw [hLl];exact hi'));exact hga)|(apply OQ.move;rfl)) rfl ?_ | refine JC.seq ?_ | refine JC.region ?_ | refine JC.block ?_ | refine JC.skip ?_ | refine JE.next ?_)
    refine JL.alloc (r:=[Z [],.slice none 0 0,.slice none 0 0]) BO rfl fun bc _=>?_
    repeat (refine JL.q (by (apply OQ.assign;rfl)) rfl ?_)
    refine JL.gP (cs:=m.cs) ow rfl rfl rfl (xk m) .here rfl ?_
    repeat (first | refine JL.q (by first|(apply OQ.load;exact b7;rfl;exact .here;exact (Row.cell (v:=ak m.qt m.m.to.length) rfl))|(apply OQ.move;rfl)|(apply OQ.bG;rfl;rfl;rfl;exact (by decide);rfl)) rfl ?_ | refine JC.seq ?_ | refine JC.region ?_ | refine JL.nil ?_ | refine JE.next ?_)
    refine JL.cE (ι:={q' : Acc // q'=none→m.m.to=[]}) (vs:=[ak m.qt m.m.to.length]) (fun q=>ak q.1 m.m.to.length) (fun q=>aL 9 q.1 (m.m.to.map Z)) qj rfl rfl (fun q=>cN _ _ _) (fun w' hw'=>hzc w' hw'.aS) ?_
    rintro ⟨q1,hq1⟩
    dsimp only
    refine JL.perm (M':=⟨lb,Sl.aG 38 3 z.zs.length lc (A++m.cs::B).flatten,true⟩::(⟨bc,Row 38 m.cs,true⟩::(aL 9 q1 (m.m.to.map Z)++ys.flatMap Mz.E))) ?_ (bg fun _ _ v=>by simp only [List.count_append,List.count_cons,List.count_nil];omega)
    repeat (refine JL.q (by first|(apply OQ.to;exact (OQ.bR (k:=.i64) (i:=i) (sz:=3) Tryz.underlying31 ow rfl rfl hi');exact hzi)|(apply OQ.bG;rfl;rfl;rfl;exact (by decide);rfl)) rfl ?_)
    refine JL.sX (L:=A++m.cs::B) (i:=i) (sz:=3) (off:=1) (v:=ak q1 m.m.to.length) vR rfl rfl rfl (fk _ _) (eJ _ _) (hL3 _ rfl) (by rw [hLl];exact hi') (by decide) .here ?_
    rw [nX hAl,sY hAl]
    show JL _ _ _ _ _ _ _ _ (⟨lb,Sl.aG 38 3 z.zs.length lc (A++[Z m.m.fr,ak q1 m.m.to.length,ak m.qb m.m.b.length]::B).flatten,true⟩::(⟨bc,Row 38 m.cs,true⟩::(aL 9 q1 (m.m.to.map Z)++ys.flatMap Mz.E)))
    repeat (first | refine JL.q (by first|(apply OQ.load;exact dY;rfl;exact (.there .here);exact (Row.cell (v:=ak m.qb m.m.b.length) rfl))|(apply OQ.move;rfl)|(apply OQ.bG;rfl;rfl;rfl;exact (by decide);rfl)) rfl ?_ | refine JC.region ?_ | refine JL.nil ?_ | refine JE.next ?_)
    refine JL.cE (ι:={q' : Acc // q'=none→m.m.b=[]}) (vs:=[ak m.qb m.m.b.length]) (fun q=>ak q.1 m.m.b.length) (fun q=>aL 5 q.1 (m.m.b.map U8)) qk rfl rfl (fun q=>cN _ _ _) (fun w' hw'=>hbc w' hw'.aS) ?_
    rintro ⟨q2,hq2⟩
    dsimp only
    refine JL.perm (M':=⟨lb,Sl.aG 38 3 z.zs.length lc (A++[Z m.m.fr,ak q1 m.m.to.length,ak m.qb m.m.b.length]::B).flatten,true⟩::(⟨bc,Row 38 m.cs,true⟩::(aL 5 q2 (m.m.b.map U8)++(aL 9 q1 (m.m.to.map Z)++ys.flatMap Mz.E)))) ?_ (bg fun _ _ v=>by simp only [List.count_append,List.count_cons,List.count_nil];omega)
    repeat (refine JL.q (by first|(apply OQ.to;exact (OQ.bR (k:=.i64) (i:=i) (sz:=3) Tryz.underlying31 ow rfl rfl hi');exact hzi)|(apply OQ.bG;rfl;rfl;rfl;exact (by decide);rfl)) rfl ?_)
    refine JL.sX (L:=A++[Z m.m.fr,ak q1 m.m.to.length,ak m.qb m.m.b.length]::B) (i:=i) (sz:=3) (off:=2) (v:=ak q2 m.m.b.length) oZ rfl rfl rfl (fk _ _) (eJ _ _) (hL3 _ rfl) (by rw [hLl];exact hi') (by decide) .here ?_
    rw [nX hAl,sY hAl]
    show JL _ _ _ _ _ _ _ _ (⟨lb,Sl.aG 38 3 z.zs.length lc (A++[Z m.m.fr,ak q1 m.m.to.length,ak q2 m.m.b.length]::B).flatten,true⟩::(⟨bc,Row 38 m.cs,true⟩::(aL 5 q2 (m.m.b.map U8)++(aL 9 q1 (m.m.to.map Z)++ys.flatMap Mz.E))))
    repeat (first | refine JL.q (by first|(apply OQ.move;rfl)|(apply OQ.aT;rfl;rfl;exact (by (try simp only []);omega))) rfl ?_ | refine JC.region ?_ | refine JL.nil ?_ | refine JE.next ?_ | refine JE.ag ?_)
    obtain ⟨m2,hm2⟩ : ∃ m2 : Mz,m2=⟨q1,q2,m.m,hq1,hq2⟩:=⟨_,rfl⟩
    have hL2 : (ys++[m2]).map Mz.cs++(z.zs.drop (i+1)).map Mz.cs=A++[Z m.m.fr,ak q1 m.m.to.length,ak q2 m.m.b.length]::B:=by
      rw [List.map_append,hA,hB,hm2,List.append_assoc]
      rfl
    have hE2 : (ys++[m2]).flatMap Mz.E=ys.flatMap Mz.E++(aL 9 q1 (m.m.to.map Z)++aL 5 q2 (m.m.b.map U8)):=by
      rw [List.flatMap_append,hm2]
      show _++(_++[])=_
      rw [List.append_nil]
      rfl
    have hyl : (ys++[m2]).length=i+1:=by rw [List.length_append,List.length_singleton,hi]
    refine JE.zA (M':=⟨bc,Row 38 m.cs,true⟩::(c9 38 3 (some (lb,lc)) ((ys++[m2]).map Mz.cs++(z.zs.drop (ys++[m2]).length).map Mz.cs)++(ys++[m2]).flatMap Mz.E)) ?_ ?_
    · subst hi
      refine JE.again (i:=ys) (ys++[m2]) ⟨?_,?_⟩ ?_ ?_ (.drop _ _ _ (aq.refl _))
      · rw [hyl];omega
      · rw [hyl,htk,List.map_append,List.map_append,hms,hm2]
        rfl
      · rw [hyl];omega
      · rw [hyl];exact (by repeat (first | exact af.nil | refine af.cons _ _ _ rfl ?_))
    · rw [hyl,hL2,hE2]
      unfold c9
      rw [hLl]
      exact bg fun _ _ v=>by simp only [List.count_append,List.count_cons,List.count_nil];omega
  · have hi' : i=z.zs.length:=by have:=of_decide_eq_false hh;omega
    subst hi'
    rw [List.take_length] at hms
    rw [List.drop_length,List.map_nil,List.append_nil]
    repeat (first | refine JL.q (by first|(apply OQ.move;rfl)|(apply OQ.assign;rfl)) rfl ?_ | refine JC.seq ?_ | refine JC.region ?_ | refine JC.exit ?_ | refine JL.nil ?_ | refine JE.next ?_ | refine JE.av ?_ | refine JE.aF ?_)
    refine JC.ret ?_
    skip
    exact JE.aC rfl (RV.tmp rfl) fun w' hw=>⟨⟨(q,ys),(fun h=>List.eq_nil_of_length_eq_zero (by rw [hi];exact hq0 h)),hms⟩,rfl,hw⟩
end dF
end
section
set_option maxRecDepth 10000
open Sl
namespace dF
structure Mr where
  fr : List Bt
  to : kV
  b : aB
def Mr.cs (m : Mr) : List Value:=[Z m.fr,m.to.v,m.b.v]
def Mr.m (m : Mr) : Ml:=⟨m.fr,m.to.l,m.b.l⟩
structure xY where
  ad : Option Addr
  cap : Nat
  l : List Mr
def xY.v (s : xY) : Value:=.slice s.ad s.l.length s.cap
structure xY.ok (w : World) (s : xY) : Prop where
  reads : Reads w s.ad (s.l.map Mr.cs).flatten
  to : ∀ m ∈ s.l,m.to.ok w
  b : ∀ m ∈ s.l,m.b.ok w
theorem xY.ok.at {w : World} {s : xY} (h : s.ok w) {i : Nat} {m : Mr} (hm : s.l[i]?=some m) : ∃ b j,s.ad=some ⟨b,j,none⟩∧b<w.heap.size∧w.cell? ⟨b,j+i * 3+0,none⟩=some (Z m.fr)∧w.cell? ⟨b,j+i * 3+1,none⟩=some m.to.v∧w.cell? ⟨b,j+i * 3+2,none⟩=some m.b.v:=by
  have hi:=(List.getElem?_eq_some_iff.1 hm).1
  have h3 : ∀ c ∈ s.l.map Mr.cs,c.length=3:=fun c hc=>by
    obtain ⟨m,_,rfl⟩:=List.mem_map.1 hc
    rfl
  have hfl:=ei h3
  rw [List.length_map] at hfl
  obtain ⟨b,j,h1,h2⟩:=h.reads.at (by rw [hfl];omega)
  have hg : ∀ k v,k<3→m.cs[k]?=some v→w.cell? ⟨b,j+i * 3+k,none⟩=some v:=fun k v hk hv=>by
    rw [Nat.add_assoc]
    refine h2 (i * 3+k) v ?_
    have e1 : (i * 3+k) / 3=i:=by omega
    have e2 : (i * 3+k) % 3=k:=by omega
    rw [jA h3 (by decide),e1,e2,List.getElem?_map,hm]
    exact hv
  have hc0:=hg 0 (Z m.fr) (by decide) rfl
  exact ⟨b,j,h1,block_lt_of_cell hc0,hc0,hg 1 _ (by decide) rfl,hg 2 _ (by decide) rfl⟩
theorem nY : aO Tryz.prog 11:=⟨_,Tryz.func11,rfl,by kernel_rfl⟩
set_option maxHeartbeats 16000000 in
theorem qo (a c : xY) (w : World) (ha : a.ok w) (hc : c.ok w) (h : a.l.map Mr.m=c.l.map Mr.m) (hla : a.l.length≤1000000) (hlt : ∀ m ∈ a.l,m.to.l.length≤1000000) : Calls Tryz.prog 11 [a.v,c.v].toArray w fun e w'=>e=.returned (.bool true)∧Ext w w':=by
  have hlen : a.l.length=c.l.length:=by simpa using congrArg List.length h
  refine enter (n:=86) Tryz.func11 rfl rfl rfl (aa.start w []) ?_
  repeat (first | refine JL.q (by first|(apply OQ.len (k:=a.l.length) (ad:=a.ad) (cap:=a.cap);exact Tryz.underlying31;rfl)|(apply OQ.len (k:=c.l.length) (ad:=c.ad) (cap:=c.cap);exact Tryz.underlying31;rfl)|(apply OQ.ek (a:=a.l.length) (b:=c.l.length);rfl;rfl;exact (decide_eq_true hlen))|(apply OQ.move;rfl)|(apply OQ.assign;rfl)) rfl ?_ | refine JC.seq ?_ | refine JC.region ?_ | refine JL.nil ?_ | refine JE.next ?_)
  refine JC.cond_false rfl rfl ?_
  repeat (first | refine JL.q (by (apply OQ.assign;rfl)) rfl ?_ | refine JC.seq ?_ | refine JC.region ?_ | refine JC.block ?_ | refine JC.skip ?_ | refine JL.nil ?_ | refine JE.next ?_)
  refine JC.loop (fun i : Nat=>[(0,a.v),(1,c.v),(5,N i)]) (fun _=>[]) (fun i=>a.l.length - i) (fun i=>i≤a.l.length) 0 (Nat.zero_le _) (by repeat (first | exact af.nil | refine af.cons _ _ _ rfl ?_)) (.nil _) ?_
  intro i hi
  repeat (first | refine JL.q (by first|(apply OQ.len (k:=a.l.length) (ad:=a.ad) (cap:=a.cap);exact Tryz.underlying31;rfl)|(apply OQ.dz (a:=i) (b:=a.l.length);rfl;rfl)|(apply OQ.move;rfl)) rfl ?_ | refine JC.seq ?_ | refine JC.region ?_ | refine JL.nil ?_ | refine JE.next ?_)
  refine JC.cond rfl (fun hh=>?_) (fun hh=>?_)
  · have hi' : i<a.l.length:=of_decide_eq_true hh
    clear hh
    obtain ⟨m,hm⟩ : ∃ m,a.l[i]?=some m:=⟨_,List.getElem?_eq_getElem hi'⟩
    obtain ⟨n,hn⟩ : ∃ n,c.l[i]?=some n:=⟨_,List.getElem?_eq_getElem (by omega)⟩
    have hmn : m.m=n.m:=by
      have:=congrArg (fun l=>l[i]?) h
      simp only [List.getElem?_map,hm,hn,Option.map_some] at this
      exact Option.some.inj this
    have hfr : m.fr=n.fr:=congrArg Ml.fr hmn
    have hto : m.to.l=n.to.l:=congrArg Ml.to hmn
    have hbb : m.b.l=n.b.l:=congrArg Ml.b hmn
    obtain ⟨ab,aj,had,hab,a0,a1,a2⟩:=ha.at hm
    obtain ⟨cb,cj,hcd,hcb,c0,c1,c2⟩:=hc.at hn
    have hml:=hlt m (List.mem_of_getElem? hm)
    have mto:=ha.to m (List.mem_of_getElem? hm)
    have mb:=ha.b m (List.mem_of_getElem? hm)
    have nto:=hc.to n (List.mem_of_getElem? hn)
    have nb:=hc.b n (List.mem_of_getElem? hn)
    have hav : a.v=.slice (some ⟨ab,aj,none⟩) a.l.length a.cap:=by unfold xY.v;rw [had]
    have hcv : c.v=.slice (some ⟨cb,cj,none⟩) c.l.length c.cap:=by unfold xY.v;rw [hcd]
    have hci' : i<c.l.length:=by omega
    have htl : m.to.l.length=n.to.l.length:=by rw [hto]
    rw [hav,hcv]
    refine JC.skip ?_
    repeat (first | refine JC.seq ?_ | refine JC.block ?_ | refine JE.next ?_)
    refine JC.quiet fD (by kernel_rfl) ?_
    repeat (first | refine JQ.q (by first|(apply OQ.bR (k:=.i64) (i:=i) (b:=ab) (j:=aj) (sz:=3);exact Tryz.underlying31;exact ow;rfl;rfl;exact hi')|(apply OQ.bR (k:=.i64) (i:=i) (b:=cb) (j:=cj) (sz:=3);exact Tryz.underlying31;exact ow;rfl;rfl;exact hci')|(apply OQ.ai (v:=Z m.fr);exact bJ;rfl;exact hab;exact (by simp);exact a0)|(apply OQ.ai (v:=Z n.fr);exact bJ;rfl;exact hcb;exact (by simp);exact c0)|(apply OQ.iW (l:=m.fr) (r:=n.fr);rfl;rfl;exact (decide_eq_true hfr))|(apply OQ.ai (v:=m.to.v);exact b7;rfl;exact hab;exact (by simp);exact a1)|(apply OQ.ai (v:=n.to.v);exact b7;rfl;exact hcb;exact (by simp);exact c1)|(apply OQ.len (k:=m.to.l.length) (ad:=m.to.ad) (cap:=m.to.cap);exact Tryz.underlying30;rfl)|(apply OQ.len (k:=n.to.l.length) (ad:=n.to.ad) (cap:=n.to.cap);exact Tryz.underlying30;rfl)|(apply OQ.ek (a:=m.to.l.length) (b:=n.to.l.length);rfl;rfl;exact (decide_eq_true htl))|(apply OQ.ai (v:=m.b.v);exact dY;rfl;exact hab;exact (by simp);exact a2)|(apply OQ.ai (v:=n.b.v);exact dY;rfl;exact hcb;exact (by simp);exact c2)|(apply OQ.qQ (s:=m.b);exact Tryz.underlying22;exact Tryz.underlying5;exact Tryz.underlying9;rfl;exact (fun w' hw'=>mb.holds hw' rfl))|(apply OQ.qQ (s:=n.b);exact Tryz.underlying22;exact Tryz.underlying5;exact Tryz.underlying9;rfl;exact (fun w' hw'=>nb.holds hw' rfl))|(apply OQ.iW (l:=m.b.l) (r:=n.b.l);rfl;rfl;exact (decide_eq_true hbb))|(apply OQ.au;rfl;rfl)|(apply OQ.move;rfl)|(apply OQ.bG;rfl;rfl;rfl;exact (by decide);rfl)) rfl ?_ | refine JQ.nil ?_ | refine JE.next ?_ | refine JQ.aU rfl rfl ?_)
    refine JC.cond_false rfl rfl ?_
    repeat (first | refine JL.q (by (apply OQ.assign;rfl)) rfl ?_ | refine JC.seq ?_ | refine JC.region ?_ | refine JC.block ?_ | refine JC.skip ?_ | refine JL.nil ?_ | refine JE.next ?_)
    refine JC.loop (fun k : Nat=>[(0,.slice (some ⟨ab,aj,none⟩) a.l.length a.cap),(1,.slice (some ⟨cb,cj,none⟩) c.l.length c.cap),(5,N i),(6,N k)]) (fun _=>[]) (fun k=>m.to.l.length - k) (fun k=>k≤m.to.l.length) 0 (Nat.zero_le _) (by repeat (first | exact af.nil | refine af.cons _ _ _ rfl ?_)) (.nil _) ?_
    intro k hk
    repeat (first | refine JL.q (by first|(apply OQ.bR (k:=.i64) (i:=i) (b:=ab) (j:=aj) (sz:=3);exact Tryz.underlying31;exact ow;rfl;rfl;exact hi')|(apply OQ.ai (v:=m.to.v);exact b7;rfl;exact hab;exact (by simp);exact a1)|(apply OQ.len (k:=m.to.l.length) (ad:=m.to.ad) (cap:=m.to.cap);exact Tryz.underlying30;rfl)|(apply OQ.dz (a:=k) (b:=m.to.l.length);rfl;rfl)|(apply OQ.move;rfl)|(apply OQ.bG;rfl;rfl;rfl;exact (by decide);rfl)) rfl ?_ | refine JC.seq ?_ | refine JC.region ?_ | refine JL.nil ?_ | refine JE.next ?_)
    refine JC.cond rfl (fun hh=>?_) (fun hh=>?_)
    · have hk' : k<m.to.l.length:=of_decide_eq_true hh
      clear hh
      have hk2 : k<n.to.l.length:=by omega
      obtain ⟨tb,tj,t1,t2,t3⟩:=mto.at (by omega)
      obtain ⟨ub,uj,u1,u2,u3⟩:=nto.at (by omega)
      have h3:=t3 k hk'
      have h4:=u3 k hk2
      rw [← hto] at h4
      have hmv : m.to.v=.slice (some ⟨tb,tj,none⟩) m.to.l.length m.to.cap:=by unfold kV.v;rw [t1]
      have hnv : n.to.v=.slice (some ⟨ub,uj,none⟩) n.to.l.length n.to.cap:=by unfold kV.v;rw [u1]
      rw [hmv] at a1
      rw [hnv] at c1
      have hp1 : Pt tb (tj+k * 1)=Pt tb (tj+k):=by rw [Nat.mul_one]
      have hp2 : Pt ub (uj+k * 1)=Pt ub (uj+k):=by rw [Nat.mul_one]
      refine JC.skip ?_
      repeat (first | refine JC.seq ?_ | refine JC.block ?_ | refine JE.next ?_)
      refine JC.quiet fD (by kernel_rfl) ?_
      repeat (first | refine JQ.q (by first|(apply OQ.bR (k:=.i64) (i:=i) (b:=ab) (j:=aj) (sz:=3);exact Tryz.underlying31;exact ow;rfl;rfl;exact hi')|(apply OQ.bR (k:=.i64) (i:=i) (b:=cb) (j:=cj) (sz:=3);exact Tryz.underlying31;exact ow;rfl;rfl;exact hci')|(apply OQ.ai (v:=.slice (some ⟨tb,tj,none⟩) m.to.l.length m.to.cap);exact b7;rfl;exact hab;exact (by simp);exact a1)|(apply OQ.ai (v:=.slice (some ⟨ub,uj,none⟩) n.to.l.length n.to.cap);exact b7;rfl;exact hcb;exact (by simp);exact c1)|(apply OQ.to;exact (OQ.bR (k:=.i64) (i:=k) (b:=tb) (j:=tj) (sz:=1) Tryz.underlying30 di rfl rfl hk');exact hp1)|(apply OQ.to;exact (OQ.bR (k:=.i64) (i:=k) (b:=ub) (j:=uj) (sz:=1) Tryz.underlying30 di rfl rfl hk2);exact hp2)|(apply OQ.ai (v:=Z (m.to.l.getD k [])) (b:=tb);exact bJ;rfl;exact t2;exact (by simp);exact h3)|(apply OQ.ai (v:=Z (m.to.l.getD k [])) (b:=ub);exact bJ;rfl;exact u2;exact (by simp);exact h4)|(apply OQ.iW (l:=m.to.l.getD k []) (r:=m.to.l.getD k []);rfl;rfl;exact (decide_eq_true rfl))|(apply OQ.move;rfl)|(apply OQ.bG;rfl;rfl;rfl;exact (by decide);rfl)) rfl ?_ | refine JQ.nil ?_ | refine JE.next ?_)
      refine JC.cond_false rfl rfl ?_
      repeat (first | refine JL.q (by first|(apply OQ.move;rfl)|(apply OQ.assign;rfl)|(apply OQ.aT;rfl;rfl;exact (by (try simp only []);omega))) rfl ?_ | refine JC.region ?_ | refine JC.skip ?_ | refine JL.nil ?_ | refine JE.next ?_ | refine JE.ag ?_)
      exact JE.again (i:=k) (k+1) hk' (by show m.to.l.length - (k+1)<m.to.l.length - k;omega) (by repeat (first | exact af.nil | refine af.cons _ _ _ rfl ?_)) (.nil _)
    · repeat (first | refine JL.q (by first|(apply OQ.move;rfl)|(apply OQ.assign;rfl)|(apply OQ.aT;rfl;rfl;exact (by (try simp only []);omega))) rfl ?_ | refine JC.region ?_ | refine JC.exit ?_ | refine JL.nil ?_ | refine JE.next ?_ | refine JE.ag ?_ | refine JE.av ?_ | refine JE.aF ?_)
      exact JE.again (i:=i) (i+1) hi' (by show a.l.length - (i+1)<a.l.length - i;omega) (by repeat (first | exact af.nil | refine af.cons _ _ _ rfl ?_)) (.nil _)
  · repeat (first | refine JL.q (by (apply OQ.assign;rfl)) rfl ?_ | refine JC.seq ?_ | refine JC.region ?_ | refine JC.exit ?_ | refine JL.nil ?_ | refine JE.next ?_ | refine JE.av ?_ | refine JE.aF ?_)
    refine JC.ret ?_
    skip
    exact JE.aC rfl (RV.tmp rfl) fun w' hw=>⟨rfl,hw.aS⟩
end dF
end
end Go.Proofs.YtjeeilmkjjbonaaGreatDoor
