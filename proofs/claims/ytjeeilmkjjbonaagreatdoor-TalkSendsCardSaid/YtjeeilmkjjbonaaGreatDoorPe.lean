/-
  Of no statement by itself: the texts TasA, TasB, Slhn, TasK, Sle, TasC, TalK, TalW, TokB, TokA, TalX, TalY, LinG, TasD in one.
  Conditions: each theorem's own.
-/
import Derived.Test.YtjeeilmkjjbonaaGreatDoorPd
set_option linter.unusedSimpArgs false
set_option linter.unusedVariables false
namespace Go.Proofs.YtjeeilmkjjbonaaGreatDoor
section
set_option maxRecDepth 10000
open Sl
namespace dF
theorem dU : aO Tryz.prog 40:=⟨_,Tryz.func40,rfl,by kernel_rfl⟩
theorem ig : aO Tryz.prog 74:=⟨_,Tryz.func74,rfl,by kernel_rfl⟩
theorem iy : aO Tryz.prog 38:=⟨_,Tryz.func38,rfl,by kernel_rfl⟩
theorem e8 (w a : List Bt) : (addressed w a).length=w.length+a.length+2:=by
  unfold addressed
  simp only [List.length_append,List.length_cons,List.length_nil]
  omega
theorem fF (v a : List Bt) (hl : v.length+a.length<1000000) (w : World) : Calls Tryz.prog 40 [Z v,Z a].toArray w fun e w'=>e=.returned (Z (addressed v a))∧Ext w w':=by
  refine enter (n:=10) Tryz.func40 rfl rfl rfl (aa.start w []) ?_
  have e1 : (v++[(60 : Bt)]).length=v.length+1:=by rw [List.length_append];rfl
  have e2 : (v++[(60 : Bt)]++a).length=v.length+1+a.length:=by rw [List.length_append,e1]
  repeat (first | refine JL.q (by first|(apply OQ.bS (l:=v) (r:=[60]);rfl;rfl;exact (by show v.length+1<_;omega))|(apply OQ.bS (l:=v++[60]) (r:=a);rfl;rfl;exact (by rw [e1];omega))|(apply OQ.bS (l:=v++[60]++a) (r:=[62]);rfl;rfl;exact (by rw [e2];show _+1<_;omega))|(apply OQ.move;rfl)|(apply OQ.assign;rfl)) rfl ?_ | refine JC.seq ?_ | refine JC.region ?_ | refine JL.nil ?_ | refine JE.next ?_)
  refine JC.ret ?_
  skip
  exact JE.aC rfl (RV.tmp rfl) fun w' hw=>⟨rfl,hw.aS⟩
theorem qp (v a : List Bt) (hv : v.length≤1000) (ha : a.length≤100000) (w : World) : Calls Tryz.prog 74 [Z v,Z a].toArray w fun e w'=>e=.returned (.bool (fits v a))∧Ext w w':=by
  have hca:=fun w'=>fF v a (by omega) w'
  have hci:=fun w'=>mN a w' (by omega)
  have hlen:=e8 v a
  unfold fits
  generalize addressed v a=x at hca hlen ⊢
  generalize dX a=y at hci ⊢
  refine enter (n:=14) Tryz.func74 rfl rfl rfl (aa.start w []) ?_
  cases h1 : decide (x.length≤512) with
  | false=>
    have h1' : decide ((x.length : Int)≤512)=false:=decide_eq_false (by have:=of_decide_eq_false h1;omega)
    repeat (first | refine JL.q (by first|(apply OQ.an (vs:=[Z v,Z a]);exact dU;rfl;exact (fun w' _=>hca w'))|(apply OQ.bC;exact Tryz.underlying9;rfl)|(apply OQ.oW (b:=512);rfl;rfl;exact h1')|(apply OQ.au;rfl;rfl)|(apply OQ.move;rfl)|(apply OQ.assign;rfl)) rfl ?_ | refine JC.seq ?_ | refine JC.region ?_ | refine JL.nil ?_ | refine JE.next ?_ | refine JL.aM rfl rfl rfl rfl ?_)
    refine JC.ret ?_
    skip
    exact JE.aC rfl (RV.tmp rfl) fun w' hw=>⟨rfl,hw.aS⟩
  | true=>
    have h1' : decide ((x.length : Int)≤512)=true:=decide_eq_true (by have:=of_decide_eq_true h1;omega)
    repeat (first | refine JL.q (by first|(apply OQ.an (vs:=[Z v,Z a]);exact dU;rfl;exact (fun w' _=>hca w'))|(apply OQ.bC;exact Tryz.underlying9;rfl)|(apply OQ.oW (b:=512);rfl;rfl;exact h1')|(apply OQ.an (vs:=[Z a]);exact iJ;rfl;exact (fun w' _=>hci w'))|(apply OQ.ay;rfl;rfl)|(apply OQ.move;rfl)|(apply OQ.assign;rfl)) rfl ?_ | refine JC.seq ?_ | refine JC.region ?_ | refine JL.nil ?_ | refine JE.next ?_ | refine JL.aU rfl rfl ?_)
    refine JC.ret ?_
    skip
    exact JE.aC rfl (RV.tmp rfl) fun w' hw=>⟨rfl,hw.aS⟩
def Bl (fr : List Bt) (to : List (List Bt)) : Bool:=fits aP fr && to.all (fits aK)
theorem fI {p : List Bt→Bool} {l : List (List Bt)} {i : Nat} (hi : i<l.length) (h : ∀ c ∈ l.take i,p c=true) (h2 : p (l.getD i [])=true) : ∀ c ∈ l.take (i+1),p c=true:=by
  intro c hc
  rw [List.take_succ_eq_append_getElem hi] at hc
  rcases List.mem_append.1 hc with hc | hc
  · exact h c hc
  · rw [List.mem_singleton.1 hc]
    rw [List.getD_eq_getElem?_getD,List.getElem?_eq_getElem hi] at h2
    exact h2
set_option maxHeartbeats 8000000 in
theorem nZ (m : Mr) (w : World) (hto : m.to.ok w) (hf : m.fr.length≤1000) (ht : m.to.l.length≤30) (h1k : ∀ s ∈ m.to.l,s.length≤1000) : Calls Tryz.prog 38 [.agg m.cs.toArray].toArray w fun e w'=>e=.returned (.bool (Bl m.fr m.to.l))∧Ext w w':=by
  have cF:=fun w'=>qp aP m.fr (by decide) (by omega) w'
  unfold Bl
  refine enter (n:=20) Tryz.func38 rfl rfl rfl (aa.start w []) ?_
  repeat (first | refine JC.seq ?_ | refine JC.region ?_)
  refine JL.box (r:=m.cs) rfl rfl rfl fun b _=>?_
  cases hff : fits aP m.fr with
  | false=>
    rw [hff] at cF
    repeat (first | refine JL.q (by first|(apply OQ.load;exact bJ;rfl;exact .here;exact (Row.cell (v:=Z m.fr) rfl))|(apply OQ.an (vs:=[Z aP,Z m.fr]);exact ig;rfl;exact (fun w' _=>cF w'))|(apply OQ.not;rfl)|(apply OQ.assign;rfl)|(apply OQ.bG;rfl;rfl;rfl;exact (by decide);rfl)) rfl ?_ | refine JC.seq ?_ | refine JC.region ?_ | refine JL.nil ?_ | refine JE.next ?_)
    refine JC.cond_true rfl rfl ?_
    repeat (first | refine JL.q (by (apply OQ.assign;rfl)) rfl ?_ | refine JC.seq ?_ | refine JC.region ?_ | refine JL.nil ?_ | refine JE.next ?_)
    refine JC.ret ?_
    repeat (refine JE.ah ?_)
    exact JE.aC rfl (RV.tmp rfl) fun w' hw=>⟨rfl,hw.aS⟩
  | true=>
    rw [hff] at cF
    rw [Bool.true_and]
    repeat (first | refine JL.q (by first|(apply OQ.load;exact bJ;rfl;exact .here;exact (Row.cell (v:=Z m.fr) rfl))|(apply OQ.an (vs:=[Z aP,Z m.fr]);exact ig;rfl;exact (fun w' _=>cF w'))|(apply OQ.not;rfl)|(apply OQ.assign;rfl)|(apply OQ.bG;rfl;rfl;rfl;exact (by decide);rfl)) rfl ?_ | refine JC.seq ?_ | refine JC.region ?_ | refine JL.nil ?_ | refine JE.next ?_)
    refine JC.cond_false rfl rfl ?_
    repeat (first | refine JL.q (by first|(apply OQ.load;exact b7;rfl;exact .here;exact (Row.cell (v:=m.to.v) rfl))|(apply OQ.len (k:=m.to.l.length) (ad:=m.to.ad) (cap:=m.to.cap);exact Tryz.underlying30;rfl)|(apply OQ.move;rfl)|(apply OQ.bG;rfl;rfl;rfl;exact (by decide);rfl)) rfl ?_ | refine JC.seq ?_ | refine JC.region ?_ | refine JC.block ?_ | refine JC.skip ?_ | refine JL.nil ?_ | refine JE.next ?_)
    refine JC.loop (fun i : Nat=>[(10,m.to.v),(11,N m.to.l.length),(12,N i)]) (fun _=>[]) (fun i=>m.to.l.length - i) (fun i=>i≤m.to.l.length∧∀ c ∈ m.to.l.take i,fits aK c=true) 0 ⟨Nat.zero_le _,by simp⟩ (by repeat (first | exact af.nil | refine af.cons _ _ _ rfl ?_)) (.drop _ _ _ (.nil _)) ?_
    rintro i ⟨hi,hall⟩
    repeat (first | refine JL.q (by (apply OQ.dz (a:=i) (b:=m.to.l.length);rfl;rfl)) rfl ?_ | refine JC.seq ?_ | refine JC.region ?_ | refine JL.nil ?_ | refine JE.next ?_)
    refine JC.cond rfl (fun hh=>?_) (fun hh=>?_)
    · have hi' : i<m.to.l.length:=of_decide_eq_true hh
      clear hh
      obtain ⟨ab,aj,had,hab,hac⟩:=hto.at (by omega)
      have hc:=hac i hi'
      have hmem : m.to.l.getD i [] ∈ m.to.l:=by rw [List.getD_eq_getElem?_getD,List.getElem?_eq_getElem hi'];exact List.getElem_mem _
      have htk:=fI hi' hall
      have hs1:=h1k _ hmem
      obtain ⟨s,hsd⟩ : ∃ s,m.to.l.getD i []=s:=⟨_,rfl⟩
      rw [hsd] at hc hs1 htk hmem
      have hav : m.to.v=.slice (some ⟨ab,aj,none⟩) m.to.l.length m.to.cap:=by unfold kV.v;rw [had]
      have hzp : Pt ab (aj+i * 1)=Pt ab (aj+i):=by rw [Nat.mul_one]
      have cR:=fun w'=>qp aK s (by decide) (by omega) w'
      rw [hav]
      cases hfs : fits aK s with
      | false=>
        rw [hfs] at cR
        have hna : m.to.l.all (fits aK)=false:=by
          rw [Bool.eq_false_iff]
          intro h
          rw [List.all_eq_true.1 h s hmem] at hfs
          cases hfs
        rw [hna]
        repeat (first | refine JL.q (by first|(apply OQ.to;exact (OQ.bR (k:=.i64) (i:=i) (sz:=1) Tryz.underlying30 di rfl rfl hi');exact hzp)|(apply OQ.ai (v:=Z s);exact bJ;rfl;exact hab;exact (by simp);exact hc)|(apply OQ.an (vs:=[Z aK,Z s]);exact ig;rfl;exact (fun w' _=>cR w'))|(apply OQ.not;rfl)|(apply OQ.move;rfl)|(apply OQ.assign;rfl)) rfl ?_ | refine JC.seq ?_ | refine JC.region ?_ | refine JC.block ?_ | refine JC.skip ?_ | refine JL.nil ?_ | refine JE.next ?_)
        refine JC.cond_true rfl rfl ?_
        repeat (first | refine JL.q (by (apply OQ.assign;rfl)) rfl ?_ | refine JC.seq ?_ | refine JC.region ?_ | refine JL.nil ?_ | refine JE.next ?_)
        refine JC.ret ?_
        repeat (first | refine JE.ah ?_ | refine JE.aW ?_)
        exact JE.aC rfl (RV.tmp rfl) fun w' hw=>⟨rfl,hw.aS⟩
      | true=>
        rw [hfs] at cR
        repeat (first | refine JL.q (by first|(apply OQ.to;exact (OQ.bR (k:=.i64) (i:=i) (sz:=1) Tryz.underlying30 di rfl rfl hi');exact hzp)|(apply OQ.ai (v:=Z s);exact bJ;rfl;exact hab;exact (by simp);exact hc)|(apply OQ.an (vs:=[Z aK,Z s]);exact ig;rfl;exact (fun w' _=>cR w'))|(apply OQ.not;rfl)|(apply OQ.move;rfl)|(apply OQ.assign;rfl)) rfl ?_ | refine JC.seq ?_ | refine JC.region ?_ | refine JC.block ?_ | refine JC.skip ?_ | refine JL.nil ?_ | refine JE.next ?_)
        refine JC.cond_false rfl rfl ?_
        repeat (first | refine JL.q (by first|(apply OQ.move;rfl)|(apply OQ.aT;rfl;rfl;exact (by (try simp only []);omega))) rfl ?_ | refine JC.region ?_ | refine JC.skip ?_ | refine JL.nil ?_ | refine JE.next ?_ | refine JE.ag ?_)
        refine JE.again (i+1) ⟨hi',htk hfs⟩ (by omega) (by repeat (first | exact af.nil | refine af.cons _ _ _ rfl ?_)) (aq.refl _)
    · have hi' : i=m.to.l.length:=by have:=of_decide_eq_false hh;omega
      subst hi'
      rw [List.take_length] at hall
      rw [List.all_eq_true.2 hall]
      repeat (first | refine JL.q (by (apply OQ.assign;rfl)) rfl ?_ | refine JC.seq ?_ | refine JC.region ?_ | refine JC.exit ?_ | refine JL.nil ?_ | refine JE.next ?_ | refine JE.av ?_ | refine JE.aF ?_)
      refine JC.ret ?_
      skip
      exact JE.aC rfl (RV.tmp rfl) fun w' hw=>⟨rfl,hw.aS⟩
end dF
end
section
set_option maxRecDepth 10000
open Sl br
theorem An {w w1 w' : World} {M : List aN} (hE : Ext w w1) (hw : aa w1 [] M w') : aa w [] M w':=
  ⟨hE.trans hw.aS,hw.nodup,fun e he=>⟨(hw.all e he).1,fun h=>((hw.all e he).2 h).imp id fun h=>Nat.le_trans hE.size h⟩⟩
set_option maxHeartbeats 16000000 in
theorem qq (s : aB) (w : World) (hs : s.ok w) (hl : s.l.length≤1000000) : Calls Tryz.prog 75 [s.v].toArray w fun e w'=>∃ q : Nat × Nat,e=.returned (.slice (some ⟨q.1,0,none⟩) (iA s.l).length q.2)∧aa w [] [⟨q.1,Sl.aG 5 1 (iA s.l).length q.2 ((iA s.l).map U8),true⟩] w':=by
  have hLl:=eP s.l
  rw [sQ]
  refine enter (n:=43) Tryz.func75 rfl rfl rfl (aa.start w []) ?_
  repeat (first | refine JL.q (by first|(apply OQ.move;rfl)|(apply OQ.assign;rfl)) rfl ?_ | refine JC.seq ?_ | refine JC.region ?_ | refine JL.nil ?_ | refine JE.next ?_)
  refine JL.mB (vs:=[s.v]) (S':=[]) [] uJ rfl rfl (fun w' hw'=>w5 s w' (hs.holds hw' rfl) (by omega)) (.nil _) (by simp) ?_
  intro x hx w1 hw1 okx
  rw [← hx] at hLl ⊢
  clear hx
  have hE:=hw1.aS
  have hxl : x.l.length≤4000000:=by omega
  repeat (first | refine JL.q (by first|(apply OQ.move;rfl)|(apply OQ.assign;rfl)|(apply OQ.len;rfl;rfl)|(apply OQ.aT;rfl;rfl;exact (by (try simp only []);omega))) rfl ?_ | refine JC.seq ?_ | refine JC.region ?_ | refine JL.nil ?_ | refine JE.next ?_)
  refine JL.vJ (c:=x.l.length+1+2) Tryz.underlying22 bQ rfl rfl (by omega) rfl fun b0 _=>?_
  repeat (first | refine JL.q (by first|(apply OQ.assign;exact Bf)|(apply OQ.move;rfl)|(apply OQ.assign;rfl)|(apply OQ.len;rfl;rfl)) rfl ?_ | refine JC.seq ?_ | refine JC.region ?_ | refine JC.block ?_ | refine JL.nil ?_ | refine JE.next ?_)
  refine JC.loop (fun q : Nat × Nat × Nat=>[(4,.slice (some ⟨q.2.1,0,none⟩) (ki 0 (x.l.take q.1)).length q.2.2),(5,Cx ((x.l.take q.1).foldl pl (0,0)).1 ((x.l.take q.1).foldl pl (0,0)).2),(15,x.v),(16,N x.l.length),(17,N q.1)])
    (fun q=>[⟨q.2.1,Sl.aG 5 1 (ki 0 (x.l.take q.1)).length q.2.2 ((ki 0 (x.l.take q.1)).map U8),true⟩])
    (fun q=>x.l.length - q.1) (fun q=>q.1≤x.l.length) (0,b0,x.l.length+1+2) (Nat.zero_le _) (by repeat (first | exact af.nil | refine af.cons _ _ _ rfl ?_)) (aq.refl _) ?_
  rintro ⟨i,b,cap⟩ hi
  simp only at hi
  have hle:=yM x.l i
  repeat (first | refine JL.q (by (apply OQ.dz;rfl;rfl)) rfl ?_ | refine JC.seq ?_ | refine JC.region ?_ | refine JL.nil ?_ | refine JE.next ?_)
  refine JC.cond rfl (fun h=>?_) (fun h=>?_)
  · have hi' : i<x.l.length:=of_decide_eq_true h
    clear h
    have eT:=wZ pl x.l (0,0) hi'
    have eO:=p7 (x.l.take i) (0,0) (x.l.getD i 0)
    rw [← uH x.l hi'] at eO
    have hO:=kj (x.l.take i) 0
    have htl : (x.l.take i).length≤x.l.length:=by rw [List.length_take];omega
    obtain ⟨ba,ja,hae,hca⟩:=okx.reads.at (by simp;omega)
    have hc:=hca i _ (cw U8 0 hi')
    have hav : x.v=.slice (some ⟨ba,ja,none⟩) x.l.length x.cap:=by rw [← hae];rfl
    dsimp only at eO
    generalize (x.l.take i).foldl pl (0,0)=T at eT hle eO ⊢
    generalize x.l.getD i 0=c at hc eT eO
    generalize ki 0 (x.l.take i)=O at eO hO ⊢
    obtain ⟨A,eA⟩ : ∃ A : List br.By,A=if T.2=0∧c=46 then [46] else []:=⟨_,rfl⟩
    have e0 : ki 0 (x.l.take (i+1))=(O++A)++[c]:=by
      rw [eO,List.append_assoc,eA]
      congr 1
      split
      · rename_i hh;rw [hh.2];rfl
      · rfl
    have hAl : A.length≤1:=by rw [eA];split <;> simp
    clear eO
    have h1 : T.1<4294967296:=by omega
    have h2 : T.2<4294967296:=by omega
    have k46 : (c.toNat : Int)=46↔c=46:=yK c 46 (by decide)
    refine JC.skip (JE.next (JC.seq (JC.block (JC.seq (JC.region ?_)))))
    repeat (refine JL.q (by first|(apply OQ.aJ;exact Tryz.underlying22;exact bH;exact (congrArg some hav);rfl;exact hi')|(apply OQ.ai;exact eD;rfl;exact (block_lt_of_cell hc);exact (by simp);exact hc)|(apply OQ.assign;rfl)) rfl ?_)
    refine JL.nil (JE.next ?_)
    refine JC.mid (ι:=Nat × Nat) (fun q=>[(4,.slice (some ⟨q.1,0,none⟩) (O++A).length q.2),(5,Cx T.1 T.2),(15,x.v),(16,N x.l.length),(17,N i),(7,U8 c)]) (fun q=>[⟨q.1,Sl.aG 5 1 (O++A).length q.2 ((O++A).map U8),true⟩]) (fun _=>True) ?_ ?_
    · cases hz : decide (T.2=0)
      · rw [if_neg (fun h=>absurd h.1 (of_decide_eq_false hz))] at eA
        subst eA
        repeat (first | refine JL.q (by first|(apply OQ.imag;rfl)|(apply OQ.wX;rfl;exact yL;exact (by omega);exact hz)|(apply OQ.au;rfl;rfl)|(apply OQ.move;rfl)) rfl ?_ | refine JC.seq ?_ | refine JC.region ?_ | refine JL.nil ?_ | refine JE.next ?_ | refine JL.aM rfl rfl rfl rfl ?_)
        refine JC.cond_false rfl rfl ?_
        rw [List.append_nil]
        repeat (refine JC.skip ?_)
        exact JE.mid (b,cap) trivial (by repeat (first | exact af.nil | refine af.cons _ _ _ rfl ?_)) (aq.refl _)
      · have hz':=of_decide_eq_true hz
        cases h46 : decide ((c.toNat : Int)=46)
        · rw [if_neg (fun h=>absurd (k46.2 h.2) (of_decide_eq_false h46))] at eA
          subst eA
          repeat (first | refine JL.q (by first|(apply OQ.imag;rfl)|(apply OQ.wX;rfl;exact yL;exact (by omega);exact hz)|(apply OQ.jZ (l:=[46]) (i:=0);exact Tryz.underlying9;rfl;rfl;exact (by decide))|(apply OQ.gj;rfl;rfl;exact h46)|(apply OQ.ay;rfl;rfl)|(apply OQ.move;rfl)) rfl ?_ | refine JC.seq ?_ | refine JC.region ?_ | refine JL.nil ?_ | refine JE.next ?_ | refine JL.aU rfl rfl ?_)
          refine JC.cond_false rfl rfl ?_
          rw [List.append_nil]
          repeat (refine JC.skip ?_)
          exact JE.mid (b,cap) trivial (by repeat (first | exact af.nil | refine af.cons _ _ _ rfl ?_)) (aq.refl _)
        · rw [if_pos ⟨hz',k46.1 (of_decide_eq_true h46)⟩] at eA
          subst eA
          repeat (first | refine JL.q (by first|(apply OQ.imag;rfl)|(apply OQ.wX;rfl;exact yL;exact (by omega);exact hz)|(apply OQ.jZ (l:=[46]) (i:=0);exact Tryz.underlying9;rfl;rfl;exact (by decide))|(apply OQ.gj;rfl;rfl;exact h46)|(apply OQ.ay;rfl;rfl)|(apply OQ.move;rfl)) rfl ?_ | refine JC.seq ?_ | refine JC.region ?_ | refine JL.nil ?_ | refine JE.next ?_ | refine JL.aU rfl rfl ?_)
          refine JC.cond_true rfl rfl ?_
          repeat (first | refine JL.q (by (apply OQ.move;rfl)) rfl ?_ | refine JC.region ?_)
          refine JL.gQ (r:=[46]) (xs:=O.map U8) (k:=O.length) (fun b' cap'=>[⟨b',Sl.aG 5 1 (O.length+1) cap' (O.map U8++[U8 46]),true⟩]) Tryz.underlying22 Tryz.underlying9 bQ rfl rfl (by intro _ _;repeat (first | exact az.here | apply az.there)) (by show O.length+1≤_;omega) rfl fun b2 cap2=>?_
          repeat (first | refine JL.q (by (apply OQ.assign;rfl)) rfl ?_ | refine JL.nil ?_)
          refine JE.mid (b2,cap2) trivial ?_ (.keep _ _ _ _ _ _ (fun o h=>?_) (.nil _))
          · rw [List.length_append]
            exact (by repeat (first | exact af.nil | refine af.cons _ _ _ rfl ?_))
          · dsimp only
            rw [List.length_append,List.map_append]
            exact h
    rintro ⟨b1,cap1⟩ _
    dsimp only
    have hA : (O++A).length≤16000000:=by rw [List.length_append];omega
    generalize O++A=O1 at e0 hA ⊢
    repeat (first | refine JL.q (by (apply OQ.move;rfl)) rfl ?_ | refine JC.seq ?_ | refine JC.region ?_)
    refine JL.dQ (v:=U8 c) (xs:=O1.map U8) (fun b' cap'=>[⟨b',Sl.aG 5 1 (O1.length+1) cap' (O1.map U8++[U8 c]),true⟩]) Tryz.underlying22 bQ rfl rfl rfl rfl (fun _=>rfl) (by intro _ _;repeat (first | exact az.here | apply az.there)) (by omega) (by omega) rfl rfl fun bl b2 cap2=>?_
    repeat (first | refine JL.q (by first|(apply OQ.an (vs:=[Cx T.1 T.2,U8 c]);exact uG;rfl;exact (fun w' _=>wY T c w' h1 h2))|(apply OQ.move;rfl)|(apply OQ.assign;rfl)|(apply OQ.aT;rfl;rfl;exact (by (try simp only []);omega))) rfl ?_ | refine JC.region ?_ | refine JL.nil ?_ | refine JE.next ?_ | refine JE.ag ?_)
    refine JE.again (i:=(i,b,cap)) (i+1,b2,cap2) hi' (by show x.l.length - (i+1)<x.l.length - i;omega) ?_ (.keep _ _ _ _ _ _ (fun o h=>?_) (.nil _))
    · dsimp only
      rw [eT,e0,List.length_append]
      exact (by repeat (first | exact af.nil | refine af.cons _ _ _ rfl ?_))
    · dsimp only
      rw [e0,List.length_append,List.map_append]
      exact h
  · have hi' : ¬ i<x.l.length:=of_decide_eq_false h
    obtain rfl : i=x.l.length:=by omega
    clear h
    have hO:=kj x.l 0
    rw [List.take_length] at hle ⊢
    generalize ki 0 x.l=O at hO ⊢
    repeat (first | refine JL.q (by (apply OQ.move;rfl)) rfl ?_ | refine JC.seq ?_ | refine JC.region ?_ | refine JC.exit ?_ | refine JE.next ?_ | refine JE.av ?_ | refine JE.aF ?_)
    refine JL.gQ (r:=[46]) (xs:=O.map U8) (k:=O.length) (fun b' cap'=>[⟨b',Sl.aG 5 1 (O.length+1) cap' (O.map U8++[U8 46]),true⟩]) Tryz.underlying22 Tryz.underlying9 bQ rfl rfl (by intro _ _;repeat (first | exact az.here | apply az.there)) (by show O.length+1≤_;omega) rfl fun b2 cap2=>?_
    repeat (first | refine JL.q (by first|(apply OQ.move;rfl)|(apply OQ.assign;rfl)) rfl ?_ | refine JC.seq ?_ | refine JC.region ?_ | refine JL.nil ?_ | refine JE.next ?_)
    refine JL.gQ (r:=[13,10]) (xs:=O.map U8++[U8 46]) (k:=O.length+1) (fun b' cap'=>[⟨b',Sl.aG 5 1 (O.length+1+2) cap' ((O.map U8++[U8 46])++[U8 13,U8 10]),true⟩]) Tryz.underlying22 Tryz.underlying9 bQ rfl rfl (by intro _ _;repeat (first | exact az.here | apply az.there)) (by show O.length+1+2≤_;omega) rfl fun b3 cap3=>?_
    repeat (first | refine JL.q (by (apply OQ.assign;rfl)) rfl ?_ | refine JL.nil ?_ | refine JE.next ?_)
    refine JC.ret (JE.aC rfl (RV.tmp rfl) ?_)
    refine fun w' hw=>⟨(b3,cap3),?_,?_⟩
    · show _=Ending.returned (.slice _ (O++[46,13,10]).length _)
      rw [List.length_append];rfl
    · have h9:=An hE hw
      show aa w [] [⟨b3,Sl.aG 5 1 (O++[46,13,10]).length cap3 ((O++[46,13,10]).map U8),true⟩] w'
      rw [List.map_append,List.length_append]
      rw [List.append_assoc] at h9
      exact h9.weak (.keep _ _ _ _ _ _ (fun _ h=>h) (.nil _))
end
section
set_option maxRecDepth 10000
namespace Sl
section
variable {P : Program} {t tx e : TypeId}
theorem j3 (w : World) (ty : TypeId) (i : TypeInfo) (ht : P.underlying t=some (.slice e)) (hk : P.underlying tx=some (.int .i64)) (hi : P.info? e=some i) (hz : i.zero=some (.int .u8 0)) (hs : i.size=1) (hb : i.bytes=1)
    (m : Nat) (hm : m≤281474976710656) (h0 : 0<m) (hfit : Builtin.nextslicecap m 0 * i.bytes≤281474976710656) :
    (Builtin.append_ #[t,tx] ty #[.slice none 0 0,N m]).run P w =
      .ok (.slice (some ⟨w.heap.size,0,none⟩) m (grownCap w m 0 e))
        (w.drew.alloc (.cells ((List.replicate m (Value.int .u8 0)).toArray++Builtin.zeroCells #[.int .u8 0] (grownCap w m 0 e - m)) e)):=by
  have h48' : ¬ (281474976710656<Builtin.nextslicecap m 0):=by rw [hb] at hfit;omega
  have hw : IntKind.i64.wrap (m : Int)=m:=sj (by omega) (by omega)
  have h1 : ¬ ((m : Int)<0):=by omega
  have h2 : ¬ ((281474976710656 : Int)<(m : Int)):=by omega
  have h3 : ¬ (m=0):=by omega
  have h63' : ¬ (9223372036854775807<(m : Int)):=by omega
  have hz' : (Value.int .u8 0).cells=#[Value.int .u8 0]:=rfl
  simp [Builtin.append_,Builtin.firstCells,run_underlying ht,run_underlying hk,sizeOf,typeInfo,zeroValue,hi,hz,hs,hb,asInt,asIntOf,N,hw,h1,h2,h3,h63',h48',Question.forced,newRow,grownCap,hz',nw]
variable {n : Nat} {w0 : World} {S : List Nat} {ops : Array Oper} {Q : Exit→Act→World→Prop} {l : List Oper} {E : Env} {M : List aN} {d b : Nat} {ty : TypeId} {pos : String} {aft : Array Edge} {x y : Operand}
theorem JL.xK {m : Nat} (hu : P.underlying t=some (.slice e)) (hk : P.underlying tx=some (.int .i64)) (hi : EI P e (.int .u8 0) 1 1) (hx : ev E x=some (.slice none 0 0)) (hy : ev E y=some (N m)) (h0 : 0<m)
    (hsm : m≤140737488355328) (hd : Nat.blt d n=true)
    (kk : ∀ b' cap',JL P n w0 S ops Q l ((d,.slice (some ⟨b',0,none⟩) m cap')::E) (⟨b',Sl.aG e 1 m cap' (List.replicate m (Value.int .u8 0)),true⟩::M)) : JL P n w0 S ops Q (⟨some d,.call ⟨.builtin .append,#[x,y],#[t,tx]⟩,ty,pos,aft,none⟩::l) E M:=
  ⟨fun a w ha hw=>wpList_plain rfl fun K hK=>by
    obtain ⟨i,hi1,hi2,hi3,hi4⟩:=hi.get
    unfold Oper.wp
    simp only [execOp,resolve,invoke,builtin,Sem.run_bind,Sem.run_pure,Result.andThen_ok,List.map_toArray,List.map_cons,List.map_nil,ha.eval hx,ha.eval hy]
    have hfit:=growslice_fits (need:=m) (old:=0) (bytes:=1) (by omega) (by omega)
    rw [j3 w ty i hu hk hi1 hi2 hi3 hi4 m (by omega) h0 (by rw [hi4];exact hfit)]
    have hge:=grownCap_ge w m 0 e
    generalize grownCap w m 0 e=nc at hge
    refine hK _ _ ((kk w.heap.size nc).go _ _ (ha.put d _ hd) (hw.push (.cells ((List.replicate m (Value.int .u8 0)).toArray++Builtin.zeroCells #[.int .u8 0] (nc - m)) e) ?_ rfl rfl rfl rfl))
    refine ⟨(Builtin.zeroCells #[.int .u8 0] (nc - m)).toList,by simp,?_,by rw [List.length_replicate,Nat.mul_one],hge⟩
    have h8 : (Builtin.zeroCells #[.int .u8 0] (nc - m)).size=nc - m:=by simp [Builtin.zeroCells]
    simp only [List.length_append,Array.length_toList,h8,List.length_replicate]
    omega⟩
end
end Sl
end
section
set_option maxRecDepth 10000
open Sl
namespace dF
theorem qs : fG Tryz.prog 22=true:=by kernel_rfl
theorem Bm : gv Tryz.prog 22=some 1:=by kernel_rfl
theorem rM : aO Tryz.prog 77:=⟨_,Tryz.func77,rfl,by kernel_rfl⟩
theorem oa : aO Tryz.prog 41:=⟨_,Tryz.func41,rfl,by kernel_rfl⟩
theorem xL {e : TypeId} {k cap : Nat} {xs : List Value} : ∀ o,Sl.aG e 1 k cap xs o→Sl.aG e 1 0 cap [] o:=by
  rintro o ⟨sp,rfl,h1,h2,h3⟩
  exact ⟨xs++sp,rfl,by simpa using h1,rfl,Nat.zero_le _⟩
set_option maxHeartbeats 4000000 in
theorem uY (m : Nat) (h0 : 0<m) (hm : m≤1000000000) (w : World) :
    Calls Tryz.prog 77 [.slice none 0 0,N m].toArray w fun e w'=>∃ x : Nat × Nat,e=.returned (.slice (some ⟨x.1,0,none⟩) 0 x.2)∧aa w [] [⟨x.1,Sl.aG 5 1 0 x.2 [],true⟩] w':=by
  refine enter (n:=27) Tryz.func77 rfl rfl rfl (aa.start w []) ?_
  repeat (first | refine JL.q (by first|(apply OQ.kR (a:=m) (b:=0);rfl;rfl;exact (by omega))|(apply OQ.move;rfl)|(apply OQ.assign;rfl)) rfl ?_ | refine JC.seq ?_ | refine JC.region ?_ | refine JL.nil ?_ | refine JE.next ?_)
  refine JC.cond_false rfl rfl ?_
  repeat (first | refine JL.q (by first|(apply OQ.AU (k:=0) (cap:=0) (ad:=none);exact Tryz.underlying22;rfl)|(apply OQ.len (k:=0) (cap:=0) (ad:=none);exact Tryz.underlying22;rfl)|(apply OQ.eu (a:=0) (b:=0);rfl;rfl;exact (by decide);exact (by decide))|(apply OQ.eu (a:=m) (b:=0);rfl;rfl;exact (by omega);exact (by omega))|(apply OQ.dA (a:=m - 0) (b:=0);rfl;rfl;exact (by omega))|(apply OQ.move;rfl)|(apply OQ.assign;rfl)) rfl ?_ | refine JC.seq ?_ | refine JC.region ?_ | refine JC.skip ?_ | refine JL.nil ?_ | refine JE.next ?_)
  refine JC.cond_true rfl rfl ?_
  repeat (first | refine JL.q (by first|(apply OQ.AU (k:=0) (cap:=0) (ad:=none);exact Tryz.underlying22;rfl)|(apply OQ.qJ (hi:=0) (len:=0) (cap:=0) (ad:=none);exact Tryz.underlying22;exact bH;rfl;rfl;exact (by decide))|(apply OQ.move;rfl)) rfl ?_ | refine JC.region ?_)
  refine JL.xK (m:=m - 0) Tryz.underlying22 Tryz.underlying3 bQ rfl rfl (by omega) (by omega) rfl fun b cap=>?_
  rw [Nat.sub_zero]
  refine JL.AT (b:=b) .here (fun ob hA=>by obtain ⟨sp,_,_,_,h3⟩:=hA;exact h3) fun hcap=>?_
  repeat (first | refine JL.q (by first|(apply OQ.len (k:=0) (cap:=0) (ad:=none);exact Tryz.underlying22;rfl)|(apply OQ.to;exact (OQ.qJ (ad:=some ⟨b,0,none⟩) (len:=m) (cap:=cap) (hi:=0) Tryz.underlying22 bH rfl rfl (Nat.zero_le _));exact vM)|(apply OQ.move;rfl)|(apply OQ.assign;rfl)) rfl ?_ | refine JC.seq ?_ | refine JC.region ?_ | refine JL.nil ?_ | refine JE.next ?_)
  exact JC.ret (JE.aC rfl (RV.tmp rfl) fun w' hw=>⟨(b,cap),rfl,hw.weak (.keep _ _ _ _ _ _ xL (.nil _))⟩)
def dm (rs : List aB) (i : Nat) : List Bt:=((rs.take i).map aB.l).flatten
theorem mX {rs : List aB} {i : Nat} {s : aB} (h : rs[i]?=some s) : dm rs (i+1)=dm rs i++s.l:=by
  obtain ⟨hi,rfl⟩:=List.getElem?_eq_some_iff.1 h
  unfold dm
  rw [List.take_succ_eq_append_getElem hi,List.map_append,List.flatten_append]
  simp
theorem yT (rs : List aB) (i : Nat) : (dm rs i).length≤(dm rs rs.length).length:=by
  unfold dm
  rw [List.take_length]
  conv=>rhs;rw [← List.take_append_drop i rs,List.map_append,List.flatten_append,List.length_append]
  exact Nat.le_add_right _ _
set_option maxHeartbeats 8000000 in
theorem rN (s : ov) (w : World) (hs : s.ok w) (h0 : 0<(dm s.rs s.rs.length).length) (hl : (dm s.rs s.rs.length).length≤1000000000) (hn9 : s.rs.length≤1000000000) :
    Calls Tryz.prog 41 [s.v].toArray w fun e w'=>∃ x : Nat × Nat,e=.returned (.slice (some ⟨x.1,0,none⟩) (dm s.rs s.rs.length).length x.2)∧aa w [] [⟨x.1,Sl.aG 5 1 (dm s.rs s.rs.length).length x.2 ((dm s.rs s.rs.length).map U8),true⟩] w':=by
  obtain ⟨n,hn⟩ : ∃ n,s.rs.length=n:=⟨_,rfl⟩
  have hn0 : 0<n:=by
    rcases Nat.eq_zero_or_pos n with h | h
    · rw [hn,h] at h0
      exact absurd h0 (by unfold dm;simp)
    · exact h
  have hat : ∀ i,i<n→∃ b j x,s.ad=some ⟨b,j,none⟩∧s.rs[i]?=some x∧x.ok w∧w.cell? ⟨b,j+i,none⟩=some x.v∧x ∈ s.rs:=fun i hi=>by
    have hx : s.rs[i]?=some s.rs[i]:=List.getElem?_eq_getElem (by omega)
    obtain ⟨b,j,h1,h2⟩:=hs.reads i s.rs[i].v (by rw [List.getElem?_map,hx];rfl)
    exact ⟨b,j,_,h1,hx,hs.all _ (List.getElem_mem _),h2,List.getElem_mem _⟩
  obtain ⟨ba,ja,_,had,_⟩:=hat 0 hn0
  have hsv : s.v=.slice (some ⟨ba,ja,none⟩) n s.cap:=by unfold ov.v;rw [had,hn]
  rw [hn] at h0 hl hn9 ⊢
  rw [hsv]
  have hle:=yT s.rs
  rw [hn] at hle
  refine enter (n:=36) Tryz.func41 rfl rfl rfl (aa.start w []) ?_
  repeat (first | refine JL.q (by first|(apply OQ.len (k:=n);exact Tryz.underlying127;rfl)|(apply OQ.move;rfl)|(apply OQ.assign;rfl)) rfl ?_ | refine JC.seq ?_ | refine JC.region ?_ | refine JC.block ?_ | refine JL.nil ?_ | refine JE.next ?_)
  refine JC.loop (fun i : Nat=>[(0,.slice (some ⟨ba,ja,none⟩) n s.cap),(3,N (dm s.rs i).length),(9,.slice (some ⟨ba,ja,none⟩) n s.cap),(10,N n),(11,N i)]) (fun _=>[]) (fun i=>n - i) (fun i=>i≤n) 0 (Nat.zero_le _) (by repeat (first | exact af.nil | refine af.cons _ _ _ rfl ?_)) (aq.refl _) ?_
  intro i hi
  repeat (first | refine JL.q (by (apply OQ.dz (a:=i) (b:=n);rfl;rfl)) rfl ?_ | refine JC.seq ?_ | refine JC.region ?_ | refine JL.nil ?_ | refine JE.next ?_)
  refine JC.cond rfl (fun h=>?_) (fun h=>?_)
  · have hi' : i<n:=of_decide_eq_true h
    clear h
    obtain ⟨b,j,x,hb,hx,xok,hc,_⟩:=hat i hi'
    rw [had] at hb
    cases hb
    have hle:=hle (i+1)
    have hln : (dm s.rs (i+1)).length=(dm s.rs i).length+x.l.length:=by rw [mX hx,List.length_append]
    repeat (first | refine JL.q (by first|(apply OQ.aJ (i:=i) (b:=ba) (j:=ja);exact Tryz.underlying127;exact Bm;rfl;rfl;exact hi')|(apply OQ.ai (v:=x.v);exact qs;rfl;exact (block_lt_of_cell hc);exact (by simp);exact hc)|(apply OQ.len (k:=x.l.length) (ad:=x.ad) (cap:=x.cap);exact Tryz.underlying22;rfl)|(apply OQ.aT (a:=(dm s.rs i).length) (b:=x.l.length);rfl;rfl;exact (by omega))|(apply OQ.kR (a:=(dm s.rs i).length+x.l.length) (b:=0);rfl;rfl;exact (by omega))|(apply OQ.move;rfl)|(apply OQ.assign;rfl)) rfl ?_ | refine JC.seq ?_ | refine JC.region ?_ | refine JC.block ?_ | refine JC.skip ?_ | refine JL.nil ?_ | refine JE.next ?_)
    refine JC.cond_false rfl rfl ?_
    repeat (first | refine JL.q (by first|(apply OQ.aT (a:=i) (b:=1);rfl;rfl;exact (by omega))|(apply OQ.move;rfl)) rfl ?_ | refine JC.region ?_ | refine JC.skip ?_ | refine JL.nil ?_ | refine JE.next ?_ | refine JE.ag ?_)
    rw [← hln]
    exact JE.again (i:=i) (i+1) hi' (by omega) (by repeat (first | exact af.nil | refine af.cons _ _ _ rfl ?_)) (aq.refl _)
  · have hi' : i=n:=by have:=of_decide_eq_false h;omega
    subst hi'
    clear h hi
    repeat (first | refine JL.q (by (apply OQ.move;rfl)) rfl ?_ | refine JC.seq ?_ | refine JC.region ?_ | refine JC.exit ?_ | refine JE.next ?_ | refine JE.av ?_ | refine JE.aF ?_)
    refine JL.cE (ι:=Nat × Nat) (vs:=[.slice none 0 0,N (dm s.rs i).length]) (fun x=>.slice (some ⟨x.1,0,none⟩) 0 x.2) (fun x=>[⟨x.1,Sl.aG 5 1 0 x.2 [],true⟩]) rM rfl rfl (fun i=>by simp) (fun w' hw'=>uY _ h0 (by omega) w') ?_
    rintro ⟨bx,cap⟩
    try dsimp only
    repeat (first | refine JL.q (by first|(apply OQ.len (k:=i);exact Tryz.underlying127;rfl)|(apply OQ.move;rfl)|(apply OQ.assign;rfl)) rfl ?_ | refine JC.seq ?_ | refine JC.region ?_ | refine JC.block ?_ | refine JL.nil ?_ | refine JE.next ?_)
    refine JC.loop (fun z : Nat × Nat × Nat=>[(0,.slice (some ⟨ba,ja,none⟩) i s.cap),(6,.slice (some ⟨z.2.1,0,none⟩) (dm s.rs z.1).length z.2.2),(25,.slice (some ⟨ba,ja,none⟩) i s.cap),(26,N i),(27,N z.1)]) (fun z=>[⟨z.2.1,Sl.aG 5 1 (dm s.rs z.1).length z.2.2 ((dm s.rs z.1).map U8),true⟩]) (fun z=>i - z.1) (fun z=>z.1≤i) (0,bx,cap) (Nat.zero_le _) (by repeat (first | exact af.nil | refine af.cons _ _ _ rfl ?_)) (aq.refl _) ?_
    rintro ⟨k,bx,cap⟩ hk
    dsimp only at hk ⊢
    repeat (first | refine JL.q (by (apply OQ.dz (a:=k) (b:=i);rfl;rfl)) rfl ?_ | refine JC.seq ?_ | refine JC.region ?_ | refine JL.nil ?_ | refine JE.next ?_)
    refine JC.cond rfl (fun h=>?_) (fun h=>?_)
    · have hk' : k<i:=of_decide_eq_true h
      clear h
      obtain ⟨b,j,x,hb,hx,xok,hc,_⟩:=hat k hk'
      rw [had] at hb
      cases hb
      have hle:=hle (k+1)
      have hcs:=mX hx
      have hln : (dm s.rs (k+1)).length=(dm s.rs k).length+x.l.length:=by rw [hcs,List.length_append]
      repeat (first | refine JL.q (by first|(apply OQ.aJ (i:=k) (b:=ba) (j:=ja);exact Tryz.underlying127;exact Bm;rfl;rfl;exact hk')|(apply OQ.ai (v:=x.v);exact qs;rfl;exact (block_lt_of_cell hc);exact (by simp);exact hc)|(apply OQ.move;rfl)|(apply OQ.assign;rfl)) rfl ?_ | refine JC.seq ?_ | refine JC.region ?_ | refine JC.block ?_ | refine JC.skip ?_ | refine JL.nil ?_ | refine JE.next ?_)
      refine JL.append (cs:=x.l.map U8) (m:=x.l.length) (ad:=x.ad) (sc:=x.cap) (fun b' cap'=>[⟨b',Sl.aG 5 1 ((dm s.rs k).length+x.l.length) cap' ((dm s.rs k).map U8++x.l.map U8),true⟩]) Tryz.underlying22 bQ rfl rfl (by intro _ _;repeat (first | exact az.here | apply az.there)) (by rw [List.length_map,Nat.mul_one]) (fun w' hw'=>(xok.holds hw' rfl).reads) (fun v hv=>by obtain ⟨q,_,rfl⟩:=List.mem_map.1 hv;rfl) rfl (by decide) (by omega) (by omega) rfl fun b' cap'=>?_
      rw [← List.map_append,← hcs,← hln]
      repeat (first | refine JL.q (by first|(apply OQ.aT (a:=k) (b:=1);rfl;rfl;exact (by omega))|(apply OQ.move;rfl)|(apply OQ.assign;rfl)) rfl ?_ | refine JC.region ?_ | refine JL.nil ?_ | refine JE.next ?_ | refine JE.ag ?_)
      exact JE.again (ι:=Nat × Nat × Nat) (i:=(k,bx,cap)) (k+1,b',cap') hk' (by omega) (by repeat (first | exact af.nil | refine af.cons _ _ _ rfl ?_)) (aq.refl _)
    · have hk' : k=i:=by have:=of_decide_eq_false h;omega
      subst hk'
      clear h hk
      repeat (first | refine JL.q (by first|(apply OQ.move;rfl)|(apply OQ.assign;rfl)) rfl ?_ | refine JC.seq ?_ | refine JC.region ?_ | refine JC.exit ?_ | refine JL.nil ?_ | refine JE.next ?_ | refine JE.av ?_ | refine JE.aF ?_)
      refine JC.ret (JE.aC rfl (RV.tmp rfl) fun w' hw=>⟨(bx,cap),rfl,hw⟩)
end dF
end
section
namespace Sl
def jJ (e : TypeId) (n cap : Nat) (xs : List Value) : Obj→Prop:=fun o=>∃ (sp : List Value) (fr : Nat × Nat),o=.cells (xs++sp).toArray e fr∧(cap≤fr.1∨fr.2=0)∧(xs++sp).length=cap∧xs.length=n∧n≤cap
theorem jJ.cells {e : TypeId} {n cap : Nat} {xs : List Value} : ∀ o,jJ e n cap xs o→b6 o 0 xs:=by
  rintro o ⟨sp,fr,rfl,_⟩
  exact ⟨_,_,_,rfl,fun i hi=>by simp [List.getElem?_append_left hi]⟩
theorem uZ {e : TypeId} {b n cap : Nat} {Y : List Bt} (hn : Y.length=n) : aq (aB.iS ⟨some ⟨b,0,none⟩,cap,Y⟩) [⟨b,jJ e n cap (Y.map U8),true⟩]:=
  .keep _ _ _ _ _ _ (fun o h=>⟨jJ.cells o h,by obtain ⟨_,_,_,_,_,_,h4⟩:=h;rw [hn];exact h4,rfl⟩) (.nil _)
theorem yU {w0 w : World} {S : List Nat} {M : List aN} {b k cap : Nat} {e : TypeId} {l : List Bt} {wr : Bool} (hw : aa w0 S M w) (hM : Has M b (jJ e k cap (l.map U8)) wr) : aB.ok w ⟨some ⟨b,0,none⟩,cap,l⟩:=by
  obtain ⟨o,ho,hA⟩:=hw.get hM
  have hh:=jJ.cells _ hA
  obtain ⟨sp,fr,rfl,_,h2,h3,h4⟩:=hA
  simp only [List.length_map] at h3
  exact ⟨by show l.length≤cap;omega,Reads.block ho hh⟩
section
variable {P : Program} {t tx e : TypeId}
theorem rO {w : World} {b j : Nat} {v : Value} {c : Array Value} {e : TypeId} {fr : Nat × Nat} (hv : v.oneCell'=true) (ho : w.heap[b]?=some (.cells c e fr)) (hf : c.size≤fr.1∨fr.2=0) (hj : j<c.size) :
    (Go.store ⟨b,j,none⟩ v).run P w=.ok () (w.setCell ⟨b,j,none⟩ v):=by
  have hc : w.cell? ⟨b,j,none⟩=some c[j]:=by simp [World.cell?,ho,hj]
  have hf : w.frozen? ⟨b,j,none⟩=false:=by
    obtain ⟨lo,hi⟩:=fr
    simp only [World.frozen?,ho,Bool.and_eq_false_iff,decide_eq_false_iff_not]
    simp only at hf
    omega
  cases v <;> simp_all [Go.store,Sem.run,Value.oneCell']
theorem gm {b j : Nat} {e : TypeId} {fr : Nat × Nat} : ∀ (vs : List Value) (i : Nat) (w : World) (c : List Value),(∀ v ∈ vs,v.oneCell'=true)→w.heap[b]?=some (.cells c.toArray e fr)→c.length≤fr.1∨fr.2=0→j+i+vs.length≤c.length→
    ∃ w',(storeCells ⟨b,j,none⟩ vs i).run P w=.ok () w'∧w'.heap[b]?=some (.cells (c.take (j+i)++vs++c.drop (j+i+vs.length)).toArray e fr)∧w'.heap.size=w.heap.size∧
      (∀ k,k≠b→w'.heap[k]?=w.heap[k]?)∧w'.os=w.os∧w'.tape=w.tape∧w'.output=w.output
  | [],i,w,c,_,ho,_,_=>⟨w,rfl,by simpa using ho,rfl,fun _ _=>rfl,rfl,rfl,rfl⟩
  | v::vs,i,w,c,h1,ho,hf,hl=>by
    simp only [List.length_cons] at hl
    obtain ⟨w',r1,r2,r3,r4,r5,r6,r7⟩:=gm (j:=j) (e:=e) (fr:=fr) vs (i+1) (w.setCell ⟨b,j+i,none⟩ v) (c.set (j+i) v) (fun u hu=>h1 u (by simp [hu])) (by
      rw [fS ho];simp) (by simpa using hf) (by simp;omega)
    refine ⟨w',?_,?_,r3.trans fT,fun k hk=>(r4 k hk).trans (fB hk),r5,r6,r7⟩
    · simp only [storeCells,Sem.run_bind,bX]
      rw [rO (h1 v (by simp)) ho (by simpa using hf) (by simp;omega)]
      exact r1
    · rw [r2]
      congr 3
      rw [List.take_set,List.drop_set,if_pos (by omega)]
      rw [show j+(i+1)=j+i+1 by omega,List.take_add_one]
      simp only [List.getElem?_eq_getElem (show j+i<c.length by omega),Option.toList_some,List.length_cons]
      rw [List.set_append_right _ _ (by rw [List.length_take];omega)]
      simp [List.length_take,Nat.min_eq_left (show j+i≤c.length by omega),Nat.add_assoc,Nat.add_comm,Nat.add_left_comm]
theorem oc {w : World} {ty : TypeId} {i : TypeInfo} (ht : P.underlying t=some (.slice e)) (hi : P.info? e=some i) (hs1 : i.size=1) {b k cap m : Nat} {x : Value} {news cur : List Value} {fr : Nat × Nat} (hs : Src P 1 tx x m news w)
    (hg : w.heap[b]?=some (.cells cur.toArray e fr)) (hf : cur.length≤fr.1∨fr.2=0) (hroom : k+m≤cap) (hfit : k+news.length≤cur.length) :
    ∃ w',(Builtin.append_ #[t,tx] ty #[.slice (some ⟨b,0,none⟩) k cap,x]).run P w=.ok (.slice (some ⟨b,0,none⟩) (k+m) cap) w'∧w'.heap[b]?=some (.cells (cur.take k++news++cur.drop (k+news.length)).toArray e fr)∧w'.heap.size=w.heap.size∧
      (∀ q,q≠b→w'.heap[q]?=w.heap[q]?)∧w'.os=w.os∧w'.tape=w.tape∧w'.output=w.output:=by
  obtain ⟨w',r1,r2,r3,r4,r5,r6,r7⟩:=gm (P:=P) (b:=b) (j:=k) (e:=e) (fr:=fr) news 0 w cur hs.one hg hf (by omega)
  simp only [Nat.add_zero] at r2
  refine ⟨w',?_,r2,r3,r4,r5,r6,r7⟩
  have hc:=hs.cells
  rcases hs.kind with ⟨e',hk⟩ | hk <;> simp [Builtin.append_,run_underlying ht,run_underlying hk,sizeOf,typeInfo,hi,hs1,hs.len,hroom,hc,bX,r1]
variable {n : Nat} {w0 : World} {S : List Nat} {ops : Array Oper} {Q : Exit→Act→World→Prop} {l : List Oper} {E : Env} {M : List aN} {d b : Nat} {ty : TypeId} {pos : String} {aft : Array Edge} {x y : Operand}
theorem JL.od {k cap m : Nat} {v : Value} {xs news : List Value} (M' : Nat→Nat→List aN) (hu : P.underlying t=some (.slice e)) (hi : EI P e (.int .u8 0) 1 1) (hx : ev E x=some (.slice (some ⟨b,0,none⟩) k cap)) (hy : ev E y=some v)
    (hs : ∀ w,aa w0 S M w→Src P 1 tx v m news w) (hup : ∀ b' cap',az M b (jJ e k cap xs) b' (jJ e (k+m) cap' (xs++news)) (M' b' cap'))
    (hsm : (k+m)≤140737488355328) (hd : Nat.blt d n=true)
    (kk : ∀ b' cap',JL P n w0 S ops Q l ((d,.slice (some ⟨b',0,none⟩) (k+m) cap')::E) (M' b' cap')) : JL P n w0 S ops Q (⟨some d,.call ⟨.builtin .append,#[x,y],#[t,tx]⟩,ty,pos,aft,none⟩::l) E M:=
  ⟨fun a w ha hw=>wpList_plain rfl fun K hK=>by
    obtain ⟨i,hi1,hi2,hi3,hi4⟩:=hi.get
    obtain ⟨o,ho,sp,fr,rfl,hfr,hc1,hc2,hc3⟩:=hw.get (hup 0 0).has
    have hsrc:=hs w hw
    have hnl : news.length=m:=by have:=hsrc.newsLen;omega
    unfold Oper.wp
    simp only [execOp,resolve,invoke,builtin,Sem.run_bind,Sem.run_pure,Result.andThen_ok,List.map_toArray,List.map_cons,List.map_nil,ha.eval hx,ha.eval hy]
    by_cases hroom : k+m≤cap
    · obtain ⟨w',r1,r2,r3,r4,r5,r6,r7⟩:=oc (ty:=ty) hu hi1 hi3 hsrc ho (by rw [hc1];exact hfr) hroom (by rw [hc1,hnl];exact hroom)
      rw [r1]
      refine hK _ _ ((kk b cap).go _ _ (ha.put d _ hd) (hw.write (hup b cap).Bx (o':=.cells ((xs++sp).take k++news++(xs++sp).drop (k+news.length)).toArray e fr) ?_ r2 r3 r4 r5 r6 r7))
      subst hc2
      rw [List.take_left]
      refine ⟨(xs++sp).drop (xs.length+news.length),fr,rfl,hfr,?_,by rw [List.length_append,hnl],hroom⟩
      simp only [List.length_append,List.length_drop] at hc1 ⊢
      omega
    · have hold : ∀ u v,xs[u]?=some v→w.cell? ((⟨b,0,none⟩ : Addr).add u)=some v:=fun u v hv=>by
        rw [bX]
        have hu' : u<xs.length:=(List.getElem?_eq_some_iff.1 hv).1
        exact cell_of ho (by simpa [cellAt,List.getElem?_append_left hu'] using hv)
      have hfit:=growslice_fits (need:=k+m) (old:=cap) (bytes:=1) (by omega) (by omega)
      have hfo:=run_firstCells_some (P:=P) w.drew i.size k ⟨b,0,none⟩ k cap xs (by rw [hc2,hi3,Nat.mul_one]) (by simpa using hold)
      rw [run_append_grow_src w t tx ty e i (.int .u8 0) hu hi1 hi2 (some ⟨b,0,none⟩) k cap xs hfo v m news (by rw [hi3];exact hsrc) (by omega) (by omega) (by rw [hi4];exact hfit)]
      have hge:=grownCap_ge w (k+m) cap e
      generalize grownCap w (k+m) cap e=nc at hge
      refine hK _ _ ((kk w.heap.size nc).go _ _ (ha.put d _ hd) (hw.renew (.cells ((xs++news).toArray++Builtin.zeroCells (Value.int .u8 0).cells (nc - (k+m))) e) (hup _ _) ?_ rfl rfl rfl rfl))
      have h8 : (Builtin.zeroCells (Value.int .u8 0).cells (nc - (k+m))).size=(nc - (k+m)):=by
        rw [show (Value.int .u8 0).cells=#[Value.int .u8 0] from rfl];simp [Builtin.zeroCells]
      refine ⟨(Builtin.zeroCells (Value.int .u8 0).cells (nc - (k+m))).toList,(0,0),by simp,.inr rfl,?_,by rw [List.length_append,hc2,hnl],hge⟩
      simp only [List.length_append,Array.length_toList,h8,hc2,hnl]
      omega⟩
theorem u0 {w : World} {ad : Option Addr} {m sc : Nat} {cs : List Value} (hu : P.underlying tx=some (.slice e)) (hl : cs.length=m) (hr : Reads w ad cs) (h1 : ∀ v ∈ cs,v.oneCell'=true) : Src P 1 tx (.slice ad m sc) m cs w:=by
  by_cases h0 : m=0
  · subst h0
    obtain rfl : cs=[]:=List.eq_nil_of_length_eq_zero hl
    cases ad with
    | none=>exact Src.ofNil w hu sc
    | some a=>exact Src.ofSlice w hu a 0 sc [] rfl (fun j u h=>by simp at h) (fun u h=>by cases h)
  · obtain ⟨b2,j2,rfl,hcell⟩:=hr.at (by omega)
    exact Src.ofSlice w hu ⟨b2,j2,none⟩ m sc cs (by omega) (fun u v hv=>by rw [bX];exact hcell u v hv) h1
theorem s3 {w : World} {r : List Bt} (hk : P.underlying tx=some .string) : Src P 1 tx (Z r) r.length (r.map U8) w:=by
  have:=Src.ofString (P:=P) w hk (bz r)
  rw [dR,bt] at this
  exact this
theorem JL.B2 {t' : TypeId} {r : List Bt} {u : TypeDesc} (hs : P.underlying t=some u) (hsu : u=.string) (hu : P.underlying t'=some (.slice e)) (he : P.underlying e=some (.int .u8)) (hx : ev E x=some (Z r)) (hd : Nat.blt d n=true)
    (k : ∀ b cap,w0.heap.size≤b→JL P n w0 S ops Q l ((d,.slice (some ⟨b,0,none⟩) r.length cap)::E) (⟨b,jJ e r.length cap (r.map U8),true⟩::M)) : JL P n w0 S ops Q (⟨some d,.convert t t' x,ty,pos,aft,none⟩::l) E M:=
  ⟨fun a w ha hw=>wpList_plain rfl fun K hK=>by
    subst hsu
    have hrun:=Lib.run_convert_string_bytes (P:=P) w t t' e (bz r) hs hu he
    have hheap : (Lib.bytesWorld w e (bz r)).heap=w.heap.push (.cells (Lib.bytesCells w e (bz r)) e ((Lib.bytesCells w e (bz r)).size,(Lib.bytesCells w e (bz r)).size+1)):=by
      apply Array.ext_getElem?
      intro i
      rw [Array.getElem?_push]
      by_cases h : i=w.heap.size
      · rw [if_pos h,h,Lib.bytesWorld_at_new]
      · rw [if_neg h]
        by_cases h2 : i<w.heap.size
        · rw [Lib.bytesWorld_at_old _ _ _ _ h2]
        · rw [Array.getElem?_eq_none (by rw [Lib.bytesWorld_size];omega),Array.getElem?_eq_none (by omega)]
    have hge:=grownCap_ge w (bz r).size 0 e
    rw [bt] at hge hrun
    have hA : jJ e r.length (grownCap w r.length 0 e) (r.map U8) (.cells (Lib.bytesCells w e (bz r)) e ((Lib.bytesCells w e (bz r)).size,(Lib.bytesCells w e (bz r)).size+1)):=by
      have hb : ((bz r).data.toList.map fun b=>Value.int .u8 b.toNat)=r.map U8:=by
        have:=dR r
        exact this
      have hc : Lib.bytesCells w e (bz r)=(r.map U8++List.replicate (grownCap w r.length 0 e - r.length) (Value.int .u8 0)).toArray:=by
        have hsz:=bt r
        rw [← hb]
        apply Array.ext'
        simp [Lib.bytesCells,hsz]
      have hl : (Lib.bytesCells w e (bz r)).size=grownCap w r.length 0 e:=by rw [hc];simp;omega
      refine ⟨List.replicate (grownCap w r.length 0 e - r.length) (Value.int .u8 0),_,by rw [← hc],.inl (by show _≤(Lib.bytesCells w e (bz r)).size;omega),?_,by simp,hge⟩
      simp;omega
    unfold Oper.wp
    simp only [execOp,ha.eval hx,Sem.run_bind,hrun,Result.andThen_ok]
    exact hK _ _ ((k w.heap.size _ hw.aS.size).go _ _ (ha.put d _ hd) (hw.push _ hA hheap rfl rfl rfl))⟩
end
end Sl
end
section
set_option maxRecDepth 10000
open Sl
namespace dF
open br (iA laidB fz)
theorem oe : aO Tryz.prog 39:=⟨_,Tryz.func39,rfl,by kernel_rfl⟩
theorem u5 : aO Tryz.prog 14:=⟨_,Tryz.func14,rfl,by kernel_rfl⟩
theorem og (b : List Bt) : (iA b).length≤4 * b.length+10:=by
  rw [sQ,List.length_append]
  have h1:=kj (laidB b) 0
  have h2:=eP b
  show _+3≤_
  omega
set_option maxHeartbeats 8000000 in
theorem qu (s : aB) (w : World) (hs : s.ok w) (hl : s.l.length≤3000) (hm : e7 w) : Calls Tryz.prog 39 [s.v].toArray w fun e w'=>∃ q : Nat × Nat,e=.returned (.tuple #[.slice (some ⟨q.1,0,none⟩) (iA s.l).length q.2,N 0])∧aa w [] [⟨q.1,Sl.aG 5 1 (iA s.l).length q.2 ((iA s.l).map U8),true⟩] w':=by
  have hT:=og s.l
  have hb : fz (iA s.l)=some (laidB s.l,[]):=by have:=br.rY s.l [];rwa [List.append_nil] at this
  have hL:=eP s.l
  have hc1:=fun w' (h : s.ok w')=>qq s w' h (by omega)
  generalize iA s.l=T at hT hb hc1 ⊢
  generalize laidB s.l=L at hL hb
  refine enter (n:=23) Tryz.func39 rfl rfl rfl (aa.start w []) ?_
  repeat (first | refine JL.q (by first|(apply OQ.len (k:=s.l.length) (ad:=s.ad) (cap:=s.cap);exact Tryz.underlying22;rfl)|(apply OQ.cW (b:=2097152);rfl;rfl;exact (decide_eq_false (by omega)))|(apply OQ.move;rfl)|(apply OQ.assign;rfl)) rfl ?_ | refine JC.seq ?_ | refine JC.region ?_ | refine JL.nil ?_ | refine JE.next ?_)
  refine JC.cond_false rfl rfl ?_
  repeat (first | refine JL.q (by (apply OQ.move;rfl)) rfl ?_ | refine JC.seq ?_ | refine JC.region ?_ | refine JC.skip ?_ | refine JE.next ?_)
  refine JL.cE (ι:=Nat × Nat) (vs:=[s.v]) (fun q=>.slice (some ⟨q.1,0,none⟩) T.length q.2) (fun q=>[⟨q.1,Sl.aG 5 1 T.length q.2 (T.map U8),true⟩]) p8 rfl rfl (fun q e he=>by rw [List.mem_singleton.1 he]) (fun w' hw'=>hc1 w' (hs.holds hw' rfl)) ?_
  rintro ⟨b,cap⟩
  dsimp only
  repeat (first | refine JL.q (by first|(apply OQ.move;rfl)|(apply OQ.assign;rfl)) rfl ?_ | refine JC.seq ?_ | refine JC.region ?_ | refine JL.nil ?_ | refine JE.next ?_)
  refine JL.cE (ι:={q : Acc × aB // q.1=none→L=[]}) (vs:=[aB.v ⟨some ⟨b,0,none⟩,cap,T⟩]) (fun q=>.tuple #[ak q.1.1 L.length,q.1.2.v,N 0]) (fun q=>aL 5 q.1.1 (L.map U8)) mW rfl rfl (fun q=>cN _ _ _) (fun w' hw'=>qa ⟨some ⟨b,0,none⟩,cap,T⟩ w' (b8 hw' .here) (by show T.length≤_;omega) (hm.ext hw'.aS) hb) ?_
  rintro ⟨⟨q1,r1⟩,hq1⟩
  dsimp only
  repeat (first | refine JL.q (by first|(apply OQ.extract;rfl;rfl)|(apply OQ.ir (q:=q1) (k:=L.length);exact Tryz.underlying22;exact (fun h=>by rw [hq1 h];rfl);rfl)|(apply OQ.cW (b:=2097152);rfl;rfl;exact (decide_eq_false (by omega)))|(apply OQ.move;rfl)|(apply OQ.assign;rfl)) rfl ?_ | refine JC.seq ?_ | refine JC.region ?_ | refine JL.nil ?_ | refine JE.next ?_)
  refine JC.cond_false rfl rfl ?_
  repeat (first | refine JL.q (by first|(apply OQ.move;rfl)|(apply OQ.assign;rfl)) rfl ?_ | refine JC.seq ?_ | refine JC.region ?_ | refine JC.skip ?_ | refine JL.nil ?_ | refine JE.next ?_)
  refine JC.ret ?_
  skip
  refine JE.bI rfl (RV.tmp rfl) (RV.tmp rfl) fun w' hw=>⟨(b,cap),rfl,?_⟩
  exact hw.weak (c7 _ (aq.refl _))
def Ao (r : List Bt × Nat) (w : World) (e : Ending) (w' : World) : Prop:=∃ q : {q : Acc // q=none→r.1=[]},e=.returned (.tuple #[ak q.1 r.1.length,N r.2])∧aa w [] (aL 5 q.1 (r.1.map U8)) w'
def preB (fr : List Bt) : List Bt:=bP++[32]++jN++crlf++(addressed aP fr++crlf)
theorem s4 (fr : List Bt) : (preB fr).length=fr.length+29:=by
  unfold preB
  simp only [List.length_append,e8]
  show 4+1+8+2+(10+_+2+2)=_
  omega
theorem lR {to : List (List Bt)} {i : Nat} (hi : i<to.length) : bU (to.take (i+1))=bU (to.take i)++(addressed aK (to.getD i [])++crlf):=by
  rw [List.take_succ_eq_append_getElem hi]
  unfold bU
  rw [List.flatMap_append,List.flatMap_singleton,List.getD_eq_getElem?_getD,List.getElem?_eq_getElem hi]
  rfl
theorem Cg : EI Tryz.prog 22 (.slice none 0 0) 1 24:=by unfold EI;kernel_rfl
theorem u6 (x y z : aB) : dm [x,y,z] 3=x.l++(y.l++z.l):=by unfold dm;simp
set_option maxHeartbeats 16000000 in
theorem xM (m : Mr) (w : World) (hto : m.to.ok w) (hb : m.b.ok w) (hf : m.fr.length≤1000) (ht : m.to.l.length≤30) (h1k : ∀ s ∈ m.to.l,s.length≤1000) (hbl : m.b.l.length≤3000) (hm : e7 w) :
    Calls Tryz.prog 14 [.agg m.cs.toArray].toArray w (Ao (cU m.fr m.to.l m.b.l) w):=by
  have cP:=fun w' (h : m.to.ok w')=>nZ m w' h hf ht h1k
  have cS:=fun w' (h : m.b.ok w') (h2 : e7 w')=>qu m.b w' h hbl h2
  have cF:=fun w'=>fF aP m.fr (by show 10+_<_;omega) w'
  have hTl:=og m.b.l
  refine enter (n:=59) Tryz.func14 rfl rfl rfl (aa.start w []) ?_
  repeat (first | refine JC.seq ?_ | refine JC.region ?_)
  refine JL.box (r:=m.cs) rfl rfl rfl fun b _=>?_
  cases hP : Bl m.fr m.to.l with
  | false=>
    have hS : cU m.fr m.to.l m.b.l=([],3):=by
      unfold Bl at hP
      unfold cU
      rw [Bool.and_eq_false_iff] at hP
      rw [if_pos hP]
    rw [hP] at cP
    rw [hS]
    repeat (first | refine JL.q (by first|(apply OQ.er (cs:=m.cs);exact qY;exact ow;rfl;exact .here;rfl;exact Row.all)|(apply OQ.an (vs:=[.agg m.cs.toArray]);exact iy;rfl;exact (fun w' hw'=>cP w' (hto.ext hw'.aS)))|(apply OQ.not;rfl)|(apply OQ.assign;rfl)) rfl ?_ | refine JC.seq ?_ | refine JC.region ?_ | refine JL.nil ?_ | refine JE.next ?_)
    refine JC.cond_true rfl rfl ?_
    repeat (first | refine JL.q (by (apply OQ.assign;rfl)) rfl ?_ | refine JC.seq ?_ | refine JC.region ?_ | refine JL.nil ?_ | refine JE.next ?_)
    refine JC.ret ?_
    repeat (refine JE.ah ?_)
    exact JE.bI rfl (RV.tmp rfl) (RV.tmp rfl) fun w' hw=>⟨⟨none,fun _=>rfl⟩,rfl,hw.weak (.nil _)⟩
  | true=>
    have hP2 : ¬ (fits aP m.fr=false∨m.to.l.all (fits aK)=false):=by
      unfold Bl at hP
      rw [Bool.and_eq_true] at hP
      rw [hP.1,hP.2]
      simp
    rw [hP] at cP
    repeat (first | refine JL.q (by first|(apply OQ.er (cs:=m.cs);exact qY;exact ow;rfl;exact .here;rfl;exact Row.all)|(apply OQ.an (vs:=[.agg m.cs.toArray]);exact iy;rfl;exact (fun w' hw'=>cP w' (hto.ext hw'.aS)))|(apply OQ.not;rfl)|(apply OQ.assign;rfl)) rfl ?_ | refine JC.seq ?_ | refine JC.region ?_ | refine JL.nil ?_ | refine JE.next ?_)
    refine JC.cond_false rfl rfl ?_
    cases h0 : decide (m.to.l.length=0) with
    | true=>
      have hS : cU m.fr m.to.l m.b.l=([],2):=by
        unfold cU
        rw [if_neg hP2,if_pos (.inl (by have:=of_decide_eq_true h0;omega))]
      rw [hS]
      repeat (first | refine JL.q (by first|(apply OQ.load;exact b7;rfl;exact .here;exact (Row.cell (v:=m.to.v) rfl))|(apply OQ.len (k:=m.to.l.length) (ad:=m.to.ad) (cap:=m.to.cap);exact Tryz.underlying30;rfl)|(apply OQ.dB (b:=0);rfl;rfl;exact h0)|(apply OQ.ay;rfl;rfl)|(apply OQ.move;rfl)|(apply OQ.bG;rfl;rfl;rfl;exact (by decide);rfl)) rfl ?_ | refine JC.seq ?_ | refine JC.region ?_ | refine JC.skip ?_ | refine JL.nil ?_ | refine JE.next ?_ | refine JL.aM rfl rfl rfl rfl ?_)
      refine JC.cond_true rfl rfl ?_
      repeat (first | refine JL.q (by (apply OQ.assign;rfl)) rfl ?_ | refine JC.seq ?_ | refine JC.region ?_ | refine JL.nil ?_ | refine JE.next ?_)
      refine JC.ret ?_
      repeat (refine JE.ah ?_)
      exact JE.bI rfl (RV.tmp rfl) (RV.tmp rfl) fun w' hw=>⟨⟨none,fun _=>rfl⟩,rfl,hw.weak (.nil _)⟩
    | false=>
      cases h10 : decide ((10 : Int)<(m.to.l.length : Nat)) with
      | true=>
        have hS : cU m.fr m.to.l m.b.l=([],2):=by
          unfold cU
          rw [if_neg hP2,if_pos (.inr (by have:=of_decide_eq_true h10;omega))]
        rw [hS]
        repeat (first | refine JL.q (by first|(apply OQ.load;exact b7;rfl;exact .here;exact (Row.cell (v:=m.to.v) rfl))|(apply OQ.len (k:=m.to.l.length) (ad:=m.to.ad) (cap:=m.to.cap);exact Tryz.underlying30;rfl)|(apply OQ.dB (b:=0);rfl;rfl;exact h0)|(apply OQ.cW (b:=10);rfl;rfl;exact h10)|(apply OQ.au;rfl;rfl)|(apply OQ.move;rfl)|(apply OQ.bG;rfl;rfl;rfl;exact (by decide);rfl)) rfl ?_ | refine JC.seq ?_ | refine JC.region ?_ | refine JC.skip ?_ | refine JL.nil ?_ | refine JE.next ?_ | refine JL.aU rfl rfl ?_)
        refine JC.cond_true rfl rfl ?_
        repeat (first | refine JL.q (by (apply OQ.assign;rfl)) rfl ?_ | refine JC.seq ?_ | refine JC.region ?_ | refine JL.nil ?_ | refine JE.next ?_)
        refine JC.ret ?_
        repeat (refine JE.ah ?_)
        exact JE.bI rfl (RV.tmp rfl) (RV.tmp rfl) fun w' hw=>⟨⟨none,fun _=>rfl⟩,rfl,hw.weak (.nil _)⟩
      | false=>
        have hS : cU m.fr m.to.l m.b.l=(gB m.fr m.to.l m.b.l,0):=by
          unfold cU
          rw [if_neg hP2,if_neg (fun h=>by have:=of_decide_eq_false h10;have:=of_decide_eq_false h0;omega)]
        rw [hS]
        have h10' : m.to.l.length≤10:=by have:=of_decide_eq_false h10;omega
        repeat (first | refine JL.q (by first|(apply OQ.load;exact b7;rfl;exact .here;exact (Row.cell (v:=m.to.v) rfl))|(apply OQ.len (k:=m.to.l.length) (ad:=m.to.ad) (cap:=m.to.cap);exact Tryz.underlying30;rfl)|(apply OQ.dB (b:=0);rfl;rfl;exact h0)|(apply OQ.cW (b:=10);rfl;rfl;exact h10)|(apply OQ.au;rfl;rfl)|(apply OQ.move;rfl)|(apply OQ.bG;rfl;rfl;rfl;exact (by decide);rfl)) rfl ?_ | refine JC.seq ?_ | refine JC.region ?_ | refine JC.skip ?_ | refine JL.nil ?_ | refine JE.next ?_ | refine JL.aU rfl rfl ?_)
        refine JC.cond_false rfl rfl ?_
        have hpre:=s4 m.fr
        repeat (first | refine JL.q (by first|(apply OQ.load;exact qs;rfl;exact .here;exact (Row.cell (v:=m.b.v) rfl))|(apply OQ.bG;rfl;rfl;rfl;exact (by decide);rfl)) rfl ?_ | refine JC.seq ?_ | refine JC.region ?_ | refine JC.skip ?_ | refine JE.next ?_)
        refine JL.cE (ι:=Nat × Nat) (vs:=[m.b.v]) (fun q=>.tuple #[.slice (some ⟨q.1,0,none⟩) (iA m.b.l).length q.2,N 0]) (fun q=>[⟨q.1,Sl.aG 5 1 (iA m.b.l).length q.2 ((iA m.b.l).map U8),true⟩]) oe rfl rfl (fun q e he=>by rw [List.mem_singleton.1 he]) (fun w' hw'=>cS w' (hb.holds hw' rfl) (hm.ext hw'.aS)) ?_
        rintro ⟨bs,cps⟩
        obtain ⟨T,hTe⟩ : ∃ T,iA m.b.l=T:=⟨_,rfl⟩
        rw [hTe] at hTl ⊢
        dsimp only
        have p1 : (addressed aP m.fr).length=10+m.fr.length+2:=e8 _ _
        have p2 : (addressed aP m.fr++crlf).length=10+m.fr.length+2+2:=by rw [List.length_append,p1];rfl
        have p3 : bP++[32]++jN++crlf++(addressed aP m.fr++crlf)=preB m.fr:=rfl
        repeat (first | refine JL.q (by first|(apply OQ.extract;rfl;rfl)|(apply OQ.ek (a:=0) (b:=0);rfl;rfl;rfl)|(apply OQ.move;rfl)|(apply OQ.assign;rfl)) rfl ?_ | refine JC.seq ?_ | refine JC.region ?_ | refine JL.nil ?_ | refine JE.next ?_)
        refine JC.cond_false rfl rfl ?_
        repeat (first | refine JL.q (by first|(apply OQ.load;exact bJ;rfl;exact (.there .here);exact (Row.cell (v:=Z m.fr) rfl))|(apply OQ.an (vs:=[Z aP,Z m.fr]);exact dU;rfl;exact (fun w' _=>cF w'))|(apply OQ.bS (l:=addressed aP m.fr) (r:=crlf);rfl;rfl;exact (by show _+2<_;omega))|(apply OQ.to;exact (OQ.bS (l:=bP++[32]++jN++crlf) (r:=addressed aP m.fr++crlf) rfl rfl (by show 15+_<_;omega));exact (congrArg Z p3))|(apply OQ.load;exact b7;rfl;exact (.there .here);exact (Row.cell (v:=m.to.v) rfl))|(apply OQ.len (k:=m.to.l.length) (ad:=m.to.ad) (cap:=m.to.cap);exact Tryz.underlying30;rfl)|(apply OQ.move;rfl)|(apply OQ.assign;rfl)|(apply OQ.bG;rfl;rfl;rfl;exact (by decide);rfl)) rfl ?_ | refine JC.seq ?_ | refine JC.region ?_ | refine JC.block ?_ | refine JC.skip ?_ | refine JL.nil ?_ | refine JE.next ?_)
        obtain ⟨H,hH⟩ : ∃ H,preB m.fr++bU m.to.l++(bA++crlf)=H:=⟨_,rfl⟩
        have eT : gB m.fr m.to.l m.b.l=H++(T++(bu++crlf)):=by
          rw [← hH,← hTe,← List.append_assoc]
          rfl
        rw [eT]
        generalize preB m.fr=pre at hpre hH ⊢
        refine JC.loop (fun i : Nat=>[(4,.slice (some ⟨bs,0,none⟩) T.length cps),(6,Z (pre++bU (m.to.l.take i))),(38,m.to.v),(39,N m.to.l.length),(40,N i)]) (fun _=>[⟨bs,Sl.aG 5 1 T.length cps (T.map U8),true⟩]) (fun i=>m.to.l.length - i) (fun i=>i≤m.to.l.length∧(bU (m.to.l.take i)).length≤1012 * i) 0 ⟨Nat.zero_le _,by show 0≤_;omega⟩ (by show af _ [_,(6,Z (pre++[])),_,_,_];rw [List.append_nil];exact (by repeat (first | exact af.nil | refine af.cons _ _ _ rfl ?_))) (.keep _ _ _ _ _ _ (fun _ h=>h) (.nil _)) ?_
        rintro i ⟨hi,hrl⟩
        repeat (first | refine JL.q (by (apply OQ.dz (a:=i) (b:=m.to.l.length);rfl;rfl)) rfl ?_ | refine JC.seq ?_ | refine JC.region ?_ | refine JL.nil ?_ | refine JE.next ?_)
        refine JC.cond rfl (fun hh=>?_) (fun hh=>?_)
        · have hi' : i<m.to.l.length:=of_decide_eq_true hh
          clear hh
          obtain ⟨ab,aj,had,hab,hac⟩:=hto.at (by omega)
          have hc:=hac i hi'
          have hmem : m.to.l.getD i [] ∈ m.to.l:=by rw [List.getD_eq_getElem?_getD,List.getElem?_eq_getElem hi'];exact List.getElem_mem _
          have hsn:=lR hi'
          have hs1:=h1k _ hmem
          obtain ⟨s,hsd⟩ : ∃ s,m.to.l.getD i []=s:=⟨_,rfl⟩
          rw [hsd] at hc hs1 hmem hsn
          have hav : m.to.v=.slice (some ⟨ab,aj,none⟩) m.to.l.length m.to.cap:=by unfold kV.v;rw [had]
          have hzp : Pt ab (aj+i * 1)=Pt ab (aj+i):=by rw [Nat.mul_one]
          have cR:=fun w'=>fF aK s (by show 8+_<_;omega) w'
          have r1 : (addressed aK s).length=8+s.length+2:=e8 _ _
          have r2 : (addressed aK s++crlf).length=8+s.length+2+2:=by rw [List.length_append,r1];rfl
          have r3 : (pre++bU (m.to.l.take i)).length≤pre.length+1012 * i:=by rw [List.length_append];omega
          have r4 : pre++bU (m.to.l.take i)++(addressed aK s++crlf)=pre++bU (m.to.l.take (i+1)):=by rw [hsn,List.append_assoc]
          rw [hav]
          repeat (first | refine JL.q (by first|(apply OQ.to;exact (OQ.bR (k:=.i64) (i:=i) (sz:=1) Tryz.underlying30 di rfl rfl hi');exact hzp)|(apply OQ.ai (v:=Z s);exact bJ;rfl;exact hab;exact (by simp);exact hc)|(apply OQ.an (vs:=[Z aK,Z s]);exact dU;rfl;exact (fun w' _=>cR w'))|(apply OQ.bS (l:=addressed aK s) (r:=crlf);rfl;rfl;exact (by show _+2<_;omega))|(apply OQ.to;exact (OQ.bS (l:=pre++bU (m.to.l.take i)) (r:=addressed aK s++crlf) rfl rfl (by rw [r2];omega));exact (congrArg Z r4))|(apply OQ.move;rfl)|(apply OQ.assign;rfl)|(apply OQ.aT;rfl;rfl;exact (by (try simp only []);omega))) rfl ?_ | refine JC.seq ?_ | refine JC.region ?_ | refine JC.block ?_ | refine JC.skip ?_ | refine JL.nil ?_ | refine JE.next ?_ | refine JE.ag ?_)
          refine JE.again (i+1) ⟨hi',by rw [hsn,List.length_append,r2];omega⟩ (by omega) (by repeat (first | exact af.nil | refine af.cons _ _ _ rfl ?_)) (aq.refl _)
        · have hi' : i=m.to.l.length:=by have:=of_decide_eq_false hh;omega
          subst hi'
          rw [List.take_length] at hrl ⊢
          have r3 : (pre++bU m.to.l).length=pre.length+(bU m.to.l).length:=List.length_append
          repeat (first | refine JL.q (by first|(apply OQ.to;exact (OQ.bS (l:=pre++bU m.to.l) (r:=bA++crlf) rfl rfl (by rw [r3];show _+6<_;omega));exact (congrArg Z hH))|(apply OQ.move;rfl)|(apply OQ.assign;rfl)) rfl ?_ | refine JC.seq ?_ | refine JC.region ?_ | refine JC.exit ?_ | refine JL.nil ?_ | refine JE.next ?_ | refine JE.av ?_ | refine JE.aF ?_)
          have hHl : H.length=pre.length+(bU m.to.l).length+6:=by rw [← hH,List.length_append,r3];rfl
          refine JL.B2 (r:=H) Tryz.underlying9 rfl Tryz.underlying22 Tryz.underlying5 rfl rfl fun b1 cap1 _=>?_
          repeat (refine JL.q (by (apply OQ.move;rfl)) rfl ?_)
          refine JL.lX (xs:=[.const (U8 81),.const (U8 85),.const (U8 73),.const (U8 84),.const (U8 13),.const (U8 10)]) (vs:=(bu++crlf).map U8) Tryz.underlying22 bQ rfl rfl rfl rfl (by intro v hv;obtain ⟨x,_,rfl⟩:=List.mem_map.1 hv;rfl) rfl (by decide) (by decide) rfl fun b2 _=>?_
          refine JL.mark (r:=(bu++crlf).map U8) (te:=5) Tryz.underlying22 Tryz.underlying5 rfl .here rfl ?_
          refine JL.lX (xs:=[.tmp 53,.tmp 54,.tmp 56]) (vs:=[aB.v ⟨some ⟨b1,0,none⟩,cap1,H⟩,aB.v ⟨some ⟨bs,0,none⟩,cps,T⟩,aB.v ⟨some ⟨b2,0,none⟩,6,bu++crlf⟩]) Tryz.underlying127 Cg rfl rfl rfl rfl (by intro v hv;simp only [List.mem_cons,List.not_mem_nil,or_false] at hv;rcases hv with rfl | rfl | rfl <;> rfl) rfl (by decide) (by decide) rfl fun b3 _=>?_
          have ec : (dm [⟨some ⟨b1,0,none⟩,cap1,H⟩,⟨some ⟨bs,0,none⟩,cps,T⟩,⟨some ⟨b2,0,none⟩,6,bu++crlf⟩] 3)=H++(T++(bu++crlf)):=u6 _ _ _
          have el : (H++(T++(bu++crlf))).length=H.length+(T.length+6):=by rw [List.length_append,List.length_append];rfl
          refine JL.cE (ι:=Nat × Nat) (vs:=[.slice (some ⟨b3,0,none⟩) 3 3]) (fun q=>.slice (some ⟨q.1,0,none⟩) (H++(T++(bu++crlf))).length q.2) (fun q=>[⟨q.1,Sl.aG 5 1 (H++(T++(bu++crlf))).length q.2 ((H++(T++(bu++crlf))).map U8),true⟩]) oa rfl rfl (fun q e he=>by rw [List.mem_singleton.1 he]) (fun w' hw'=>?_) fun q=>?_
          · have h9:=rN ⟨some ⟨b3,0,none⟩,3,[⟨some ⟨b1,0,none⟩,cap1,H⟩,⟨some ⟨bs,0,none⟩,cps,T⟩,⟨some ⟨b2,0,none⟩,6,bu++crlf⟩]⟩ w' ⟨Nat.le_refl _,?_,?_⟩ (by show 0<(dm _ 3).length;rw [ec,el];omega) (by show (dm _ 3).length≤_;rw [ec,el];omega) (by show 3≤_;omega)
            · change Calls _ _ _ _ fun e w2=>∃ x : Nat × Nat,e=.returned (.slice (some ⟨x.1,0,none⟩) (dm _ 3).length x.2)∧aa w' [] [⟨x.1,Sl.aG 5 1 (dm _ 3).length x.2 ((dm _ 3).map U8),true⟩] w2 at h9
              rw [ec] at h9
              exact h9
            · obtain ⟨o,ho,hA⟩:=hw'.get .here
              exact Reads.block ho (Row.all o hA)
            · intro y hy
              simp only [List.mem_cons,List.not_mem_nil,or_false] at hy
              rcases hy with rfl | rfl | rfl
              · exact yU hw' (.there (.there .here))
              · exact b8 hw' (.there (.there (.there .here)))
              · exact gJ (l:=bu++crlf) hw' (.there .here) (Nat.le_refl _)
          · repeat (first | refine JL.q (by (apply OQ.assign;rfl)) rfl ?_ | refine JL.nil ?_ | refine JE.next ?_)
            refine JC.ret ?_
            skip
            exact JE.bI rfl (RV.tmp rfl) (RV.tmp rfl) fun w' hw=>⟨⟨some q,nofun⟩,rfl,hw.weak (.keep _ _ _ _ _ _ (fun o h=>by dsimp only;rw [List.length_map];exact h) (.nil _))⟩
end dF
end
section
set_option maxRecDepth 10000
open Sl aI Tok
namespace dF
theorem Ap {s : List Bt} {i : Nat} (h : i<s.length) {n : Nat} {E : Env} {C : World→Prop} {dst : Option Tmp} {ty : TypeId} {pos : String} {aft : Array Edge} {g : Option (Nat × Bool)} {x y : Operand} (hx : ev E x=some (Z s)) (hy : ev E y=some (N i)) : OQ Tryz.prog n E C ⟨dst,.index 9 x y,ty,pos,aft,g⟩ (U8 (s.getD i 0)):=OQ.jZ Tryz.underlying9 hx hy h
set_option maxHeartbeats 8000000 in
theorem qv (s : List Bt) (w : World) (hl : s.length<140737488351233) : Calls Tryz.prog 27 [Z s].toArray w fun e w'=>e=.returned (Z (s.map fA))∧Ext w w':=by
  refine enter (n:=30) Tryz.func27 rfl rfl rfl (aa.start w []) ?_
  repeat (first | refine JL.q (by (apply OQ.assign;rfl)) rfl ?_ | refine JC.seq ?_ | refine JC.region ?_ | refine JL.nil ?_ | refine JE.next ?_)
  refine JL.so Tryz.underlying22 bQ rfl fun b0 _=>?_
  repeat (first | refine JL.q (by (apply OQ.assign;rfl)) rfl ?_ | refine JC.seq ?_ | refine JC.region ?_ | refine JC.block ?_ | refine JL.nil ?_ | refine JE.next ?_)
  refine JC.loop (fun q : Nat × Nat × Nat=>[(0,Z s),(3,.slice (some ⟨q.2.1,0,none⟩) q.1 q.2.2),(4,N q.1)]) (fun q=>[⟨q.2.1,Sl.aG 5 1 q.1 q.2.2 (((s.take q.1).map fA).map U8),true⟩]) (fun q=>s.length - q.1) (fun q=>q.1≤s.length) (0,b0,0) (Nat.zero_le _) (by repeat (first | exact af.nil | refine af.cons _ _ _ rfl ?_)) (aq.refl _) ?_
  rintro ⟨i,b,cap⟩ hi
  simp only at hi
  dsimp only
  repeat (first | refine JL.q (by first|(apply OQ.bC;exact Tryz.underlying9;rfl)|(apply OQ.move;rfl)|(apply OQ.dz;rfl;rfl)) rfl ?_ | refine JC.seq ?_ | refine JC.region ?_ | refine JL.nil ?_ | refine JE.next ?_)
  refine JC.cond rfl (fun h=>?_) (fun h=>?_)
  · have hi' : i<s.length:=of_decide_eq_true h
    clear h hi
    have hx:=cx s hi'
    have hlen : ((s.take i).map fA).length=i:=by rw [List.length_map,List.length_take];omega
    have hidx:=fun {n : Nat} {E : Env} {C : World→Prop} {dst : Option Tmp} {ty : TypeId} {pos : String} {aft : Array Edge} {g : Option (Nat × Bool)} {x y : Operand}=>Ap hi' (n:=n) (E:=E) (C:=C) (dst:=dst) (ty:=ty) (pos:=pos) (aft:=aft) (g:=g) (x:=x) (y:=y)
    generalize s.getD i 0=c at hx hidx
    have hs : fA c=if decide ((97 : Int)≤(c.toNat : Int)) && decide ((c.toNat : Int)≤122) then c - 32 else c:=by
      unfold fA
      by_cases h : 97≤c.toNat∧c.toNat≤122
      · rw [if_pos h,if_pos (by simp;omega)]
      · rw [if_neg h,if_neg (by simp;omega)]
    generalize hT : (s.take i).map fA=T at hlen ⊢
    have hT2 : (s.take (i+1)).map fA=T++[fA c]:=by rw [hx,List.map_append,hT];rfl
    generalize fA c=d at hs hT2
    cases h1 : decide ((97 : Int)≤(c.toNat : Int)) <;> cases h2 : decide ((c.toNat : Int)≤122)
    all_goals (
      rw [h1,h2] at hs
      (repeat (first | refine JL.q (by first|(apply hidx;rfl;rfl)|(apply OQ.dK (b:=97);rfl;rfl;exact h1)|(apply OQ.oW (b:=122);rfl;rfl;exact h2)|(apply OQ.ay;rfl;rfl)|(apply OQ.au;rfl;rfl)|(apply OQ.move;rfl)|(apply OQ.assign;rfl)) rfl ?_ | refine JC.seq ?_ | refine JC.region ?_ | refine JC.block ?_ | refine JC.skip ?_ | refine JL.nil ?_ | refine JE.next ?_ | refine JL.aU rfl rfl ?_ | refine JL.aM rfl rfl rfl rfl ?_))
      refine JC.join (ι:=Unit) (fun _=>[(0,Z s),(3,.slice (some ⟨b,0,none⟩) i cap),(4,N i),(5,U8 d)]) (fun _=>[⟨b,Sl.aG 5 1 i cap (T.map U8),true⟩]) (fun _=>True) ?_ ?_
      · subst hs
        refine JC.cond rfl (fun h=>?_) (fun h=>?_)
        all_goals first|(exfalso;revert h;decide) | skip
        all_goals (clear h;repeat (first | refine JL.q (by first|(apply OQ.Bd (b:=32#8);rfl;rfl;exact (by have:=of_decide_eq_true h1;show 32≤_;omega))|(apply OQ.move;rfl)|(apply OQ.assign;rfl)) rfl ?_ | refine JC.region ?_ | refine JC.skip ?_ | refine JL.nil ?_))
        all_goals exact JE.mid () trivial (by repeat (first | exact af.nil | refine af.cons _ _ _ rfl ?_)) (aq.refl _)
      · rintro ⟨⟩ _
        (repeat (first | refine JL.q (by (apply OQ.move;rfl)) rfl ?_ | refine JC.region ?_))
        refine JL.dQ (xs:=T.map U8) (fun b' cap'=>[⟨b',Sl.aG 5 1 (i+1) cap' (T.map U8++[U8 d]),true⟩]) Tryz.underlying22 bQ rfl rfl rfl rfl (fun _=>rfl) (by intro _ _;repeat (first | exact az.here | apply az.there)) (by omega) (by omega) rfl rfl fun bl b' cap'=>?_
        (repeat (first | refine JL.q (by first|(apply OQ.move;rfl)|(apply OQ.assign;rfl)|(apply OQ.aT;rfl;rfl;exact (by (try simp only []);omega))) rfl ?_ | refine JC.region ?_ | refine JL.nil ?_ | refine JE.next ?_ | refine JE.ag ?_))
        refine JE.again (i:=(i,b,cap)) (i+1,b',cap') hi' (by show s.length - (i+1)<s.length - i;omega) (by repeat (first | exact af.nil | refine af.cons _ _ _ rfl ?_)) (.keep _ _ _ _ _ _ (fun o h=>?_) (.nil _))
        dsimp only
        rw [hT2,List.map_append]
        exact h)
  · have hi' : ¬ i<s.length:=of_decide_eq_false h
    obtain rfl : i=s.length:=by omega
    clear h hi hi'
    rw [List.take_length]
    have hY : s.length=(s.map fA).length:=(List.length_map _).symm
    generalize s.map fA=Y at hY ⊢
    rw [hY]
    repeat (first | refine JL.q (by first|(apply OQ.qQ (s:=⟨some ⟨b,0,none⟩,cap,Y⟩);exact Tryz.underlying22;exact Tryz.underlying5;exact Tryz.underlying9;rfl;exact (fun w' hw'=>b8 hw' .here))|(apply OQ.move;rfl)|(apply OQ.assign;rfl)) rfl ?_ | refine JC.seq ?_ | refine JC.region ?_ | refine JC.exit ?_ | refine JL.nil ?_ | refine JE.next ?_ | refine JE.av ?_ | refine JE.aF ?_)
    refine JC.ret ?_
    skip
    exact JE.aC rfl (RV.tmp rfl) fun w' hw=>⟨rfl,hw.aS⟩
theorem JL.feed {n : Nat} {w0 : World} {S : List Nat} {ops : Array Oper} {Q : Exit→Act→World→Prop} {l : List Oper} {E : Env} {d : Nat} {ty : TypeId} {pos : String} {aft : Array Edge} {x1 x2 : Operand} {ats : Array TypeId} {b : Nat} {M0 : List aN} (z : Pw) (T : Po) (s : aB) (ok : z.ok) (hs : z.is T) (wf : T.wf) (hsl : s.l.length≤900000) (hft : T.fit (900000 - s.l.length)) (hm : jh w0 S)
    (hso : ∀ w',aa w0 S (z.E b++M0) w'→s.ok w'∧fy s (keys (z.E b))) (e1 : ev E x1=some (Pt b 0)) (e2 : ev E x2=some s.v) (hd : Nat.blt d n=true)
    (kk : ∀ (z' : Pw) (q : Acc),z'.ok→z'.is (aA T s.l).1→(q=none→(aA T s.l).2=[])→JL Tryz.prog n w0 S ops Q l ((d,ak q (aA T s.l).2.length)::E) (z'.E b++(aL 5 q ((aA T s.l).2.map U8)++M0))) :
    JL Tryz.prog n w0 S ops Q (⟨some d,.call ⟨.value (.func 10),#[x1,x2],ats⟩,ty,pos,aft,none⟩::l) E (z.E b++M0):=by
  refine JL.iw (xs:=[x1,x2]) (ι:={p : Pw × Acc // (p.1.ok∧p.1.is (aA T s.l).1)∧(p.2=none→(aA T s.l).2=[])}) (vs:=[Pt b 0,s.v]) (fun i=>ak i.1.2 (aA T s.l).2.length) (fun i=>i.1.1.E b++aL 5 i.1.2 ((aA T s.l).2.map U8)) uP (by simp [fQ,e1,e2]) hd (z.wr b) ?_ ?_ ?_
  · intro i e he
    rcases List.mem_append.1 he with h | h
    · exact Pw.wr b _ e h
    · exact cN _ _ _ e h
  · intro w' hw' hx
    exact xG b z T ok hs wf s hsl hft w' (hm.sub hw' (z.wr b)) (hso w' hw').1 (hso w' hw').2 hx
  · rintro ⟨⟨z',q⟩,⟨h1,h2⟩,h3⟩
    dsimp only
    rw [List.append_assoc]
    exact kk z' q h1 h2 h3
theorem s5 (n : Nat) : new.fit n:=⟨Nat.zero_le _,Nat.zero_le _⟩
theorem BQ : aA new [100,97,116,97,13,10]=(new,cy++[13,10]):=by
  rw [show ([100,97,116,97,13,10] : List By)=[100,97,116,97]++[13,10] from rfl,ef (by decide) (by decide) rfl _ (by decide)]
  have : aZ new [100,97,116,97]=(new,cy):=by
    unfold aZ
    rw [if_neg (by decide),if_neg (by decide),if_neg (by decide),if_neg (by decide),if_pos (by decide)]
    rfl
  rw [this]
theorem qw {w0 w : World} {S : List Nat} {X M : List aN} {b k cap : Nat} {l : List Bt} {A : Obj→Prop} {wr : Bool} (hw : aa w0 S (X++M) w) (hM : Has M b A wr) : fy ⟨some ⟨b,k,none⟩,cap,l⟩ (keys X):=by
  intro _ a ha
  cases ha
  exact o3 hw hM
set_option maxHeartbeats 8000000 in
theorem oh (w : World) (hm : e7 w) : Calls Tryz.prog 7 ([] : List Value).toArray w fun e w'=>e=.returned (.bool true)∧Ext w w':=by
  refine enter (n:=7) Tryz.func7 rfl rfl rfl (aa.start w []) ?_
  repeat (first | refine JL.q (by (apply OQ.assign;rfl)) rfl ?_ | refine JC.seq ?_ | refine JC.region ?_ | refine JL.nil ?_ | refine JE.next ?_)
  refine JL.cE (ι:=Nat) (vs:=[]) (fun b=>Pt b 0) (fun b=>vm.E b) ji rfl rfl (fun b=>Pw.wr b _) (fun w' _=>jV w') fun b=>?_
  refine JL.lX (xs:=[.const (U8 100),.const (U8 97),.const (U8 116),.const (U8 97),.const (U8 13),.const (U8 10)]) (vs:=[U8 100,U8 97,U8 116,U8 97,U8 13,U8 10]) Tryz.underlying22 bQ rfl rfl rfl rfl (by
    intro v hv
    simp only [List.mem_cons,List.not_mem_nil,or_false] at hv
    rcases hv with rfl | rfl | rfl | rfl | rfl | rfl <;> rfl) rfl (by decide) (by decide) rfl fun bl _=>?_
  refine JL.mark (r:=[U8 100,U8 97,U8 116,U8 97,U8 13,U8 10]) (te:=5) Tryz.underlying22 Tryz.underlying5 rfl .here rfl ?_
  refine JL.perm (M':=vm.E b++[⟨bl,ou 5 [U8 100,U8 97,U8 116,U8 97,U8 13,U8 10],true⟩]) ?_ (bg fun _ _ v=>by simp only [List.count_append,List.count_cons,List.count_nil];omega)
  refine JL.feed vm new ⟨some ⟨bl,0,none⟩,6,[100,97,116,97,13,10]⟩ xH xI xg (show 6≤900000 by decide) (s5 _) ⟨hm,by simp⟩ (fun w' hw'=>⟨?_,?_⟩) rfl rfl rfl fun z' q h1 h2 h3=>?_
  · exact gJ (l:=[100,97,116,97,13,10]) hw' (zR .here) (Nat.le_refl _)
  · exact qw hw' .here
  rw [show (⟨some ⟨bl,0,none⟩,6,[100,97,116,97,13,10]⟩ : aB).l=[100,97,116,97,13,10] from rfl,BQ] at h3 ⊢
  dsimp only at h3 ⊢
  have hlv:=jx q (cy++[13,10])
  have hll:=jz h3
  have hb2 : ∀ w',aa w [] (z'.E b++(aL 5 q ((cy++[13,10]).map U8)++[⟨bl,ou 5 [U8 100,U8 97,U8 116,U8 97,U8 13,U8 10],true⟩])) w'→(dL q (cy++[13,10])).ok w':=fun w' hw'=>iE (e:=5) (M:=[⟨bl,ou 5 [U8 100,U8 97,U8 116,U8 97,U8 13,U8 10],true⟩]++z'.E b) (hw'.perm' (bg fun _ _ v=>by simp only [List.count_append,List.count_cons,List.count_nil];omega))
  rw [← hlv]
  repeat (first | refine JL.q (by first|(apply OQ.qQ (s:=dL q (cy++[13,10]));exact Tryz.underlying22;exact Tryz.underlying5;exact Tryz.underlying9;rfl;exact hb2)|(apply OQ.zd (l:=(dL q (cy++[13,10])).l) (r:=cy++[13,10]);rfl;rfl;exact hll)|(apply OQ.assign;rfl)) rfl ?_ | refine JL.nil ?_ | refine JE.next ?_)
  refine JC.ret ?_
  skip
  exact JE.aC rfl (RV.tmp rfl) fun w' hw=>⟨rfl,hw.aS⟩
end dF
end
section
namespace dF
theorem om {w v l : List By} (h : ax w l=true) (h2 : ax v l=true) : aI.dN (w.take v.length) (v.take w.length)=true:=by
  unfold ax at h h2
  rw [Bool.and_eq_true,decide_eq_true_iff] at h h2
  have e1:=of_decide_eq_true h.2
  have e2:=of_decide_eq_true h2.2
  unfold aI.dN
  rw [decide_eq_true_iff,List.map_take,List.map_take,← e1,← e2,← List.map_take,← List.map_take,List.take_take,List.take_take,Nat.min_comm]
theorem ez {w v l : List By} (h : ax w l=true) (hd : aI.dN (w.take v.length) (v.take w.length)=false) : ax v l=false:=by
  cases h2 : ax v l with
  | false=>rfl
  | true=>rw [om h h2] at hd;cases hd
def u7 : List By:=[72,69,76,79,32]
def iz (w : List By) : Prop:=∀ d ∈ w,d ∈ ([32,58,65,67,68,69,70,72,73,76,77,79,80,81,82,83,84,85] : List By)
theorem jX {w : List By} (hw : iz w) (l : List By) : ax w l=(decide (w.length≤l.length) && decide ((l.take w.length).map fA=w)):=by
  unfold ax
  rw [vu _ _ hw]
theorem rP {w : List By} (hw : iz w) (l : List By) : l.map fA=w↔ax w l=true∧l.drop w.length=[]:=by
  rw [jX hw,Bool.and_eq_true,decide_eq_true_iff,decide_eq_true_iff]
  constructor
  · intro h
    have hl : l.length=w.length:=by rw [← h,List.length_map]
    refine ⟨⟨by omega,?_⟩,?_⟩
    · rw [List.take_of_length_le (by omega)];exact h
    · exact List.drop_eq_nil_of_le (by omega)
  · rintro ⟨⟨h1,h2⟩,h3⟩
    have hl : l.length≤w.length:=List.drop_eq_nil_iff.1 h3
    rw [List.take_of_length_le hl] at h2
    exact h2
theorem Bn : iz bP:=by show ∀ d ∈ bP,_;decide
theorem Bo : iz aP:=by show ∀ d ∈ aP,_;decide
theorem Bp : iz aK:=by show ∀ d ∈ aK,_;decide
theorem zB : iz bA:=by show ∀ d ∈ bA,_;decide
theorem zC : iz dh:=by show ∀ d ∈ dh,_;decide
theorem zD : iz bu:=by show ∀ d ∈ bu,_;decide
theorem Ch : iz u7:=by show ∀ d ∈ u7,_;decide
theorem yV : ∀ c : By,aI.small c=aI.small 32↔c=32:=by
  have h : ∀ c : Fin 256,aI.small (BitVec.ofNat 8 c.val)=aI.small 32↔BitVec.ofNat 8 c.val=(32 : By):=by decide +kernel
  intro c
  simpa using h ⟨c.toNat,c.isLt⟩
theorem Bq (l : List By) : ax u7 l=true↔ax bP l=true∧(l.drop 4).head?=some 32:=by
  match l with
  | []=>decide
  | [_]=>simp [ax,u7,bP]
  | [_,_]=>simp [ax,u7,bP]
  | [_,_,_]=>simp [ax,u7,bP]
  | [_,_,_,_]=>simp [ax,u7,bP]
  | a::b::c::d::e::r=>
    have h5:=yV e
    simp only [ax,u7,bP,aI.dN,List.length_cons,List.length_nil,List.take_succ_cons,List.take_zero,List.map_cons,List.map_nil,Bool.and_eq_true,decide_eq_true_iff,List.cons.injEq,and_true,List.drop_succ_cons,List.drop_zero,List.head?_cons,Option.some.injEq]
    constructor
    · rintro ⟨_,h1,h2,h3,h4,h⟩
      exact ⟨⟨by simp,h1,h2,h3,h4⟩,h5.1 h⟩
    · rintro ⟨⟨_,h1,h2,h3,h4⟩,h⟩
      exact ⟨by simp,h1,h2,h3,h4,h5.2 h⟩
def lS (S : Po) (l : List By) : Po × List By:=
  if 512<l.length then (S,eX)
  else if ax aP l=true then bW S (l.drop 10)
  else if ax aK l=true then dP S (l.drop 8)
  else if ax u7 l=true then (cg S 1,fc)
  else if l.map fA=bu then (cg S 5,oA)
  else if l.map fA=dh then dj S []
  else if l.map fA=bA then dy S []
  else if ax bP l=true∨ax bu l=true∨ax dh l=true∨ax bA l=true then (S,dW)
  else (S,eX)
theorem xN (S : Po) (l : List By) : lS S l=aZ S l:=by
  unfold lS aZ
  by_cases h5 : 512<l.length
  · rw [if_pos h5,if_pos h5]
  rw [if_neg h5,if_neg h5]
  have aQ:=rP zD l
  have aR:=rP zC l
  have aD:=rP zB l
  have aH:=Bq l
  rw [show bu.length=4 from rfl] at aQ
  rw [show dh.length=4 from rfl] at aR
  rw [show bA.length=4 from rfl] at aD
  cases hH : ax bP l with
  | true=>
    have hM:=ez (v:=aP) hH (by decide)
    have hR:=ez (v:=aK) hH (by decide)
    have hD:=ez (v:=bA) hH (by decide)
    have hS:=ez (v:=dh) hH (by decide)
    have hQ:=ez (v:=bu) hH (by decide)
    rw [hH] at aH
    rw [hQ] at aQ
    rw [hS] at aR
    rw [hD] at aD
    simp only [hM,hR,hD,hS,hQ,Bool.false_eq_true,if_false,if_true,false_and,true_and] at aQ aR aD aH ⊢
    unfold dZ
    by_cases h32 : (l.drop 4).head?=some 32
    · rw [if_pos (aH.2 h32),if_pos h32]
    · rw [if_neg (fun e=>h32 (aH.1 e)),if_neg h32,if_neg (fun e=>aQ.1 e),if_neg (fun e=>aR.1 e),if_neg (fun e=>aD.1 e),if_pos (by simp)]
  | false=>
    rw [hH] at aH
    simp only [Bool.false_eq_true,false_and,iff_false] at aH
    cases hM : ax aP l with
    | true=>simp only [if_true,Bool.false_eq_true,if_false]
    | false=>
      cases hR : ax aK l with
      | true=>simp only [if_true,Bool.false_eq_true,if_false]
      | false=>
        simp only [Bool.false_eq_true,if_false,false_or]
        rw [if_neg aH]
        cases hD : ax bA l with
        | true=>
          have hS:=ez (v:=dh) hD (by decide)
          have hQ:=ez (v:=bu) hD (by decide)
          rw [hQ] at aQ
          rw [hS] at aR
          rw [hD] at aD
          simp only [Bool.false_eq_true,false_and,iff_false,true_and] at aQ aR aD
          rw [if_neg aQ,if_neg aR,if_pos rfl]
          by_cases h0 : l.drop 4=[]
          · rw [if_pos (aD.2 h0),h0]
          · rw [if_neg (fun e=>h0 (aD.1 e)),if_pos (by simp)]
            unfold dy
            rw [if_neg h0]
        | false=>
          rw [hD] at aD
          simp only [Bool.false_eq_true,false_and,iff_false] at aD
          cases hS : ax dh l with
          | true=>
            have hQ:=ez (v:=bu) hS (by decide)
            rw [hQ] at aQ
            rw [hS] at aR
            simp only [Bool.false_eq_true,false_and,iff_false,true_and] at aQ aR
            rw [if_neg aQ,if_neg (by simp : ¬ (false=true)),if_pos (rfl : true=true)]
            by_cases h0 : l.drop 4=[]
            · rw [if_pos (aR.2 h0),h0]
            · rw [if_neg (fun e=>h0 (aR.1 e)),if_neg aD,if_pos (by simp)]
              unfold dj
              rw [if_neg h0]
          | false=>
            rw [hS] at aR
            simp only [Bool.false_eq_true,false_and,iff_false] at aR
            cases hQ : ax bu l with
            | true=>
              rw [hQ] at aQ
              simp only [true_and] at aQ
              simp only [Bool.false_eq_true,if_false,if_true]
              unfold gi
              by_cases h0 : l.drop 4=[]
              · rw [if_pos (aQ.2 h0),if_pos h0]
              · rw [if_neg (fun e=>h0 (aQ.1 e)),if_neg aR,if_neg aD,if_pos (by simp),if_neg h0]
            | false=>
              rw [hQ] at aQ
              simp only [Bool.false_eq_true,false_and,iff_false] at aQ
              rw [if_neg aQ,if_neg aR,if_neg aD]
              simp
end dF
end
section
set_option maxRecDepth 10000
open Sl aI Tok
theorem lT : aO Tryz.prog 111:=⟨_,Tryz.func111,rfl,by kernel_rfl⟩
structure BS where
  i : Nat
  d : Nat
  q : Bool
  o : List aI.By
  n : Nat
  b : Nat
  cap : Nat
theorem mY {c : aI.By} (k : aI.By) (h : decide ((c.toNat : Int)=(k.toNat : Int))=true) : c=k:=by rw [jE] at h;exact beq_iff_eq.1 h
theorem gM {c : aI.By} (k : aI.By) (h : decide ((c.toNat : Int)=(k.toNat : Int))=false) : ¬ c=k:=by rw [jE] at h;exact beq_eq_false_iff_ne.1 h
set_option maxHeartbeats 32000000 in
theorem u9 (s : List aI.By) (w : World) (hl : s.length<1000000) : Calls Tryz.prog 111 [Z s].toArray w fun e w'=>e=.returned (.tuple #[Z (eo s).1,N (eo s).2])∧Ext w w':=by
  refine enter (n:=86) Tryz.func111 rfl rfl rfl (aa.start w []) ?_
  repeat (first | refine JL.q (by (apply OQ.assign;rfl)) rfl ?_ | refine JC.seq ?_ | refine JC.region ?_ | refine JL.nil ?_ | refine JE.next ?_)
  refine JL.so Tryz.underlying22 bQ rfl fun b0 _=>?_
  repeat (first | refine JL.q (by (apply OQ.assign;rfl)) rfl ?_ | refine JC.seq ?_ | refine JC.region ?_ | refine JC.block ?_ | refine JL.nil ?_ | refine JE.next ?_)
  refine JC.loop (fun z : BS=>[(0,Z s),(4,.slice (some ⟨z.b,0,none⟩) z.n z.cap),(5,N z.d),(6,.bool z.q),(7,N z.i)]) (fun z=>[⟨z.b,Sl.aG 5 1 z.n z.cap (z.o.map U8),true⟩]) (fun z=>s.length+1 - z.i) (fun z=>z.i≤s.length+1∧z.d≤9∧z.o.length=z.n∧z.n≤z.i∧eo s=aX (s.drop z.i) z.d z.q z.o) ⟨0,0,false,[],0,b0,0⟩ ⟨by simp,by simp,rfl,by simp,rfl⟩ (by repeat (first | exact af.nil | refine af.cons _ _ _ rfl ?_)) (aq.refl _) ?_
  rintro ⟨i,d,q,o,n,b,cap⟩ ⟨hi,hd,hon,hn,ha⟩
  simp only at hi hd hon hn ha
  dsimp only
  repeat (first | refine JL.q (by first|(apply OQ.bC;exact Tryz.underlying9;rfl)|(apply OQ.move;rfl)|(apply OQ.dz;rfl;rfl)) rfl ?_ | refine JC.seq ?_ | refine JC.region ?_ | refine JL.nil ?_ | refine JE.next ?_)
  refine JC.cond rfl (fun h=>?_) (fun h=>?_)
  · have hi' : i<s.length:=of_decide_eq_true h
    clear h hi
    rw [gW hi'] at ha
    have hidx:=fun {n : Nat} {E : Env} {C : World→Prop} {dst : Option Tmp} {ty : TypeId} {pos : String} {aft : Array Edge} {g : Option (Nat × Bool)} {x y : Operand}=>cY hi' (n:=n) (E:=E) (C:=C) (dst:=dst) (ty:=ty) (pos:=pos) (aft:=aft) (g:=g) (x:=x) (y:=y)
    generalize s.getD i 0=c at hidx ha
    cases h92 : decide ((c.toNat : Int)=92) <;> cases hq : q <;> cases h0 : decide ((0 : Int)<(d : Int))
    all_goals subst hq
    all_goals (repeat (first | refine JL.q (by first|(apply hidx;rfl;rfl)|(apply OQ.gj (b:=92);rfl;rfl;exact h92)|(apply OQ.cW (b:=0);rfl;rfl;exact h0)|(apply OQ.ay;rfl;rfl)|(apply OQ.au;rfl;rfl)|(apply OQ.move;rfl)|(apply OQ.assign;rfl)) rfl ?_ | refine JC.seq ?_ | refine JC.region ?_ | refine JC.block ?_ | refine JC.skip ?_ | refine JL.nil ?_ | refine JE.next ?_ | refine JL.aU rfl rfl ?_ | refine JL.aM rfl rfl rfl rfl ?_ | refine JL.eB rfl rfl rfl rfl ?_))
    all_goals refine JC.cond rfl (fun h=>?_) (fun h=>?_)
    all_goals first|(exfalso;revert h;decide) | skip
    all_goals clear h
    case refine_1.true.true.false.refine_1 | refine_1.true.true.true.refine_1=>
      obtain rfl : c=92:=mY 92 h92
      (repeat (first | refine JL.q (by (apply OQ.move;rfl)) rfl ?_ | refine JC.seq ?_ | refine JC.region ?_ | refine JL.nil ?_ | refine JE.next ?_))
      refine JC.cond rfl (fun _=>?_) (fun h=>by cases h)
      (repeat (first | refine JL.q (by (apply OQ.move;rfl)) rfl ?_ | refine JC.seq ?_ | refine JC.region ?_))
      refine JL.dQ (xs:=o.map U8) (fun b' cap'=>[⟨b',Sl.aG 5 1 (n+1) cap' (o.map U8++[U8 92]),true⟩]) Tryz.underlying22 bQ rfl rfl rfl rfl (fun _=>rfl) (by intro _ _;repeat (first | exact az.here | apply az.there)) (by omega) (by omega) rfl rfl fun bl b1 cap1=>?_
      cases h4 : decide (((i+1 : Nat) : Int)<(s.length : Int))
      · (repeat (first | refine JL.q (by first|(apply OQ.bC;exact Tryz.underlying9;rfl)|(apply OQ.dV;rfl;rfl;exact h4)|(apply OQ.move;rfl)|(apply OQ.assign;rfl)|(apply OQ.aT;rfl;rfl;exact (by (try simp only []);omega))) rfl ?_ | refine JC.seq ?_ | refine JC.region ?_ | refine JL.nil ?_ | refine JE.next ?_))
        refine JC.cond rfl (fun h=>by cases h) (fun _=>?_)
        (repeat (first | refine JL.q (by first|(apply OQ.move;rfl)|(apply OQ.assign;rfl)|(apply OQ.aT;rfl;rfl;exact (by (try simp only []);omega))) rfl ?_ | refine JC.seq ?_ | refine JC.region ?_ | refine JC.skip ?_ | refine JC.exit ?_ | refine JL.nil ?_ | refine JE.next ?_ | refine JE.av ?_ | refine JE.aF ?_))
        have he : s.length≤i+1:=by have:=of_decide_eq_false h4;omega
        rw [List.drop_of_length_le he,jm] at ha
        refine JE.again (i:=BS.mk i d true o n b cap) (BS.mk (i+2) d true (o++[92]) (n+1) b1 cap1) ⟨by dsimp only;omega,hd,by simp [hon],by dsimp only;omega,by dsimp only;rw [List.drop_of_length_le (by omega),ha,dn];simp⟩ (by dsimp only;omega) (by repeat (first | exact af.nil | refine af.cons _ _ _ rfl ?_)) (.keep _ _ _ _ _ _ (fun o h=>by dsimp only;simp only [List.map_append];exact h) (.nil _))
      · have hi2 : i+1<s.length:=by have:=of_decide_eq_true h4;omega
        rw [gW hi2] at ha
        have hidx2:=fun {n : Nat} {E : Env} {C : World→Prop} {dst : Option Tmp} {ty : TypeId} {pos : String} {aft : Array Edge} {g : Option (Nat × Bool)} {x y : Operand}=>cY hi2 (n:=n) (E:=E) (C:=C) (dst:=dst) (ty:=ty) (pos:=pos) (aft:=aft) (g:=g) (x:=x) (y:=y)
        generalize s.getD (i+1) 0=c2 at hidx2 ha
        rw [kC] at ha
        (repeat (first | refine JL.q (by first|(apply OQ.bC;exact Tryz.underlying9;rfl)|(apply OQ.dV;rfl;rfl;exact h4)|(apply OQ.move;rfl)|(apply OQ.assign;rfl)|(apply OQ.aT;rfl;rfl;exact (by (try simp only []);omega))) rfl ?_ | refine JC.seq ?_ | refine JC.region ?_ | refine JL.nil ?_ | refine JE.next ?_))
        refine JC.cond rfl (fun _=>?_) (fun h=>by cases h)
        (repeat (first | refine JL.q (by first|(apply hidx2;rfl;rfl)|(apply OQ.move;rfl)|(apply OQ.aT;rfl;rfl;exact (by (try simp only []);omega))) rfl ?_ | refine JC.region ?_))
        refine JL.dQ (xs:=o.map U8++[U8 92]) (fun b' cap'=>[⟨b',Sl.aG 5 1 (n+1+1) cap' (o.map U8++[U8 92]++[U8 c2]),true⟩]) Tryz.underlying22 bQ rfl rfl rfl rfl (fun _=>rfl) (by intro _ _;repeat (first | exact az.here | apply az.there)) (by omega) (by omega) rfl rfl fun bl b2 cap2=>?_
        (repeat (first | refine JL.q (by first|(apply OQ.move;rfl)|(apply OQ.assign;rfl)|(apply OQ.aT;rfl;rfl;exact (by (try simp only []);omega))) rfl ?_ | refine JC.seq ?_ | refine JC.region ?_ | refine JC.exit ?_ | refine JL.nil ?_ | refine JE.next ?_ | refine JE.av ?_ | refine JE.aF ?_))
        refine JE.again (i:=BS.mk i d true o n b cap) (BS.mk (i+2) d true (o++[92]++[c2]) (n+1+1) b2 cap2) ⟨by dsimp only;omega,hd,by simp [hon],by dsimp only;omega,ha⟩ (by dsimp only;omega) (by repeat (first | exact af.nil | refine af.cons _ _ _ rfl ?_)) (.keep _ _ _ _ _ _ (fun o h=>by dsimp only;simp only [List.map_append];exact h) (.nil _))
    case refine_1.true.false.true.refine_1=>
      obtain rfl : c=92:=mY 92 h92
      have hd0 : 0<d:=by have:=of_decide_eq_true h0;omega
      (repeat (first | refine JL.q (by (apply OQ.move;rfl)) rfl ?_ | refine JC.seq ?_ | refine JC.region ?_ | refine JL.nil ?_ | refine JE.next ?_))
      refine JC.cond rfl (fun h=>by cases h) (fun _=>?_)
      (repeat (first | refine JL.q (by first|(apply OQ.move;rfl)|(apply OQ.assign;rfl)|(apply OQ.aT;rfl;rfl;exact (by (try simp only []);omega))) rfl ?_ | refine JC.seq ?_ | refine JC.region ?_ | refine JC.skip ?_ | refine JC.exit ?_ | refine JL.nil ?_ | refine JE.next ?_ | refine JE.av ?_ | refine JE.aF ?_))
      refine JE.again (i:=BS.mk i d false o n b cap) (BS.mk (i+2) d false o n b cap) ⟨by dsimp only;omega,hd,hon,by dsimp only;omega,?_⟩ (by dsimp only;omega) (by repeat (first | exact af.nil | refine af.cons _ _ _ rfl ?_)) (aq.refl _)
      dsimp only
      by_cases h4 : i+1<s.length
      · rw [gW h4,kD hd0] at ha
        exact ha
      · rw [List.drop_of_length_le (by omega),jn hd0] at ha
        rw [List.drop_of_length_le (by omega),ha,dn,h0];rfl
    case refine_1.false.true.false.refine_2 | refine_1.false.true.true.refine_2=>
      rw [nh (gM 92 h92),eqc] at ha
      (repeat (first | refine JL.q (by (apply OQ.move;rfl)) rfl ?_ | refine JC.seq ?_ | refine JC.region ?_ | refine JC.skip ?_ | refine JL.nil ?_ | refine JE.next ?_))
      refine JC.cond rfl (fun _=>?_) (fun h=>by cases h)
      (repeat (first | refine JL.q (by (apply OQ.move;rfl)) rfl ?_ | refine JC.seq ?_ | refine JC.region ?_))
      refine JL.dQ (xs:=o.map U8) (fun b' cap'=>[⟨b',Sl.aG 5 1 (n+1) cap' (o.map U8++[U8 c]),true⟩]) Tryz.underlying22 bQ rfl rfl rfl rfl (fun _=>rfl) (by intro _ _;repeat (first | exact az.here | apply az.there)) (by omega) (by omega) rfl rfl fun bl b1 cap1=>?_
      cases h34 : decide ((c.toNat : Int)=34)
      all_goals (
        (repeat (first | refine JL.q (by first|(apply OQ.qA (b:=34);rfl;rfl;exact h34)|(apply OQ.move;rfl)|(apply OQ.assign;rfl)|(apply OQ.aT;rfl;rfl;exact (by (try simp only []);omega))) rfl ?_ | refine JC.seq ?_ | refine JC.region ?_ | refine JC.exit ?_ | refine JL.nil ?_ | refine JE.next ?_ | refine JE.av ?_ | refine JE.aF ?_))
        rw [show decide ((c.toNat : Int)=((34 : aI.By).toNat : Int))=_ from h34] at ha
        refine JE.again (i:=BS.mk i d true o n b cap) (BS.mk (i+1) d _ (o++[c]) (n+1) b1 cap1) ⟨by dsimp only;omega,hd,by simp [hon],by dsimp only;omega,ha⟩ (by dsimp only;omega) (by repeat (first | exact af.nil | refine af.cons _ _ _ rfl ?_)) (.keep _ _ _ _ _ _ (fun o h=>by dsimp only;simp only [List.map_append];exact h) (.nil _)))
    all_goals (
      have hns : d=0∨¬ c=92:=by
        first
          | exact Or.inr (gM 92 h92)
          | exact Or.inl (by have:=of_decide_eq_false h0;omega)
      (repeat (first | refine JL.q (by (apply OQ.move;rfl)) rfl ?_ | refine JC.seq ?_ | refine JC.region ?_ | refine JC.skip ?_ | refine JL.nil ?_ | refine JE.next ?_))
      refine JC.cond rfl (fun h=>by cases h) (fun _=>?_)
      cases h40 : decide ((c.toNat : Int)=40)
      case true=>
        obtain rfl : c=40:=mY 40 h40
        rw [iM] at ha
        (repeat (first | refine JL.q (by first|(apply OQ.gj (b:=40);rfl;rfl;exact h40)|(apply OQ.move;rfl)) rfl ?_ | refine JC.seq ?_ | refine JC.region ?_ | refine JC.skip ?_ | refine JL.nil ?_ | refine JE.next ?_))
        refine JC.cond rfl (fun _=>?_) (fun h=>by cases h)
        cases h9 : decide ((9 : Int)<((d+1 : Nat) : Int))
        · rw [if_neg (by have:=of_decide_eq_false h9;omega)] at ha
          (repeat (first | refine JL.q (by first|(apply OQ.cW (b:=9);rfl;rfl;exact h9)|(apply OQ.move;rfl)|(apply OQ.assign;rfl)|(apply OQ.aT;rfl;rfl;exact (by (try simp only []);omega))) rfl ?_ | refine JC.seq ?_ | refine JC.region ?_ | refine JL.nil ?_ | refine JE.next ?_))
          refine JC.cond rfl (fun h=>by cases h) (fun _=>?_)
          (repeat (first | refine JL.q (by first|(apply OQ.move;rfl)|(apply OQ.assign;rfl)|(apply OQ.aT;rfl;rfl;exact (by (try simp only []);omega))) rfl ?_ | refine JC.region ?_ | refine JC.skip ?_ | refine JC.exit ?_ | refine JL.nil ?_ | refine JE.next ?_ | refine JE.av ?_ | refine JE.aF ?_))
          exact JE.again (i:=BS.mk i d false o n b cap) (BS.mk (i+1) (d+1) false o n b cap) ⟨by dsimp only;omega,by have:=of_decide_eq_false h9;dsimp only;omega,hon,by dsimp only;omega,ha⟩ (by dsimp only;omega) (by repeat (first | exact af.nil | refine af.cons _ _ _ rfl ?_)) (aq.refl _)
        · rw [if_pos (by have:=of_decide_eq_true h9;omega)] at ha
          rw [ha]
          (repeat (first | refine JL.q (by first|(apply OQ.cW (b:=9);rfl;rfl;exact h9)|(apply OQ.move;rfl)|(apply OQ.assign;rfl)|(apply OQ.aT;rfl;rfl;exact (by (try simp only []);omega))) rfl ?_ | refine JC.seq ?_ | refine JC.region ?_ | refine JL.nil ?_ | refine JE.next ?_))
          refine JC.cond rfl (fun _=>?_) (fun h=>by cases h)
          (repeat (first | refine JL.q (by (apply OQ.assign;rfl)) rfl ?_ | refine JC.seq ?_ | refine JC.region ?_ | refine JL.nil ?_ | refine JE.next ?_))
          refine JC.ret ?_
          (repeat (first | refine JE.ah ?_ | refine JE.aW ?_))
          refine JE.bI rfl (RV.tmp rfl) (RV.tmp rfl) ?_
          exact fun w' hw=>⟨rfl,hw.aS⟩
      case false=>
        cases h41 : decide ((c.toNat : Int)=41)
        case true=>
          obtain rfl : c=41:=mY 41 h41
          rw [j4] at ha
          (repeat (first | refine JL.q (by first|(apply OQ.gj (b:=40);rfl;rfl;exact h40)|(apply OQ.move;rfl)) rfl ?_ | refine JC.seq ?_ | refine JC.region ?_ | refine JC.skip ?_ | refine JL.nil ?_ | refine JE.next ?_))
          refine JC.cond rfl (fun h=>by cases h) (fun _=>?_)
          (repeat (first | refine JL.q (by first|(apply OQ.gj (b:=41);rfl;rfl;exact h41)|(apply OQ.move;rfl)) rfl ?_ | refine JC.seq ?_ | refine JC.region ?_ | refine JC.skip ?_ | refine JL.nil ?_ | refine JE.next ?_))
          refine JC.cond rfl (fun _=>?_) (fun h=>by cases h)
          by_cases hd0 : d=0
          · rw [if_pos hd0] at ha
            rw [ha]
            subst hd0
            (repeat (first | refine JL.q (by first|(apply OQ.tI (b:=1);rfl;rfl;exact (by omega);exact (by omega))|(apply OQ.dV (b:=0) (c:=true);rfl;rfl;rfl)|(apply OQ.move;rfl)|(apply OQ.assign;rfl)) rfl ?_ | refine JC.seq ?_ | refine JC.region ?_ | refine JL.nil ?_ | refine JE.next ?_))
            refine JC.cond rfl (fun _=>?_) (fun h=>by cases h)
            (repeat (first | refine JL.q (by (apply OQ.assign;rfl)) rfl ?_ | refine JC.seq ?_ | refine JC.region ?_ | refine JL.nil ?_ | refine JE.next ?_))
            refine JC.ret ?_
            (repeat (first | refine JE.ah ?_ | refine JE.aW ?_))
            refine JE.bI rfl (RV.tmp rfl) (RV.tmp rfl) ?_
            exact fun w' hw=>⟨rfl,hw.aS⟩
          · rw [if_neg hd0] at ha
            have hneg : decide (((d - 1 : Nat) : Int)<0)=false:=decide_eq_false (by omega)
            cases h1 : decide (((d - 1 : Nat) : Int)=0)
            · rw [if_neg (by have:=of_decide_eq_false h1;omega)] at ha
              (repeat (first | refine JL.q (by first|(apply OQ.dV (b:=0);rfl;rfl;exact hneg)|(apply OQ.move;rfl)|(apply OQ.assign;rfl)|(apply OQ.eu;rfl;rfl;exact (by (try simp only []);omega);exact (by (try simp only []);omega))) rfl ?_ | refine JC.seq ?_ | refine JC.region ?_ | refine JL.nil ?_ | refine JE.next ?_))
              refine JC.cond rfl (fun h=>by cases h) (fun _=>?_)
              (repeat (first | refine JL.q (by first|(apply OQ.gj (b:=0);rfl;rfl;exact h1)|(apply OQ.move;rfl)) rfl ?_ | refine JC.seq ?_ | refine JC.region ?_ | refine JC.skip ?_ | refine JL.nil ?_ | refine JE.next ?_))
              refine JC.cond rfl (fun h=>by cases h) (fun _=>?_)
              (repeat (first | refine JL.q (by first|(apply OQ.move;rfl)|(apply OQ.assign;rfl)|(apply OQ.aT;rfl;rfl;exact (by (try simp only []);omega))) rfl ?_ | refine JC.region ?_ | refine JC.skip ?_ | refine JC.exit ?_ | refine JL.nil ?_ | refine JE.next ?_ | refine JE.av ?_ | refine JE.aF ?_))
              exact JE.again (i:=BS.mk i d false o n b cap) (BS.mk (i+1) (d - 1) false o n b cap) ⟨by dsimp only;omega,by dsimp only;omega,hon,by dsimp only;omega,ha⟩ (by dsimp only;omega) (by repeat (first | exact af.nil | refine af.cons _ _ _ rfl ?_)) (aq.refl _)
            · rw [if_pos (by have:=of_decide_eq_true h1;omega)] at ha
              (repeat (first | refine JL.q (by first|(apply OQ.dV (b:=0);rfl;rfl;exact hneg)|(apply OQ.move;rfl)|(apply OQ.assign;rfl)|(apply OQ.eu;rfl;rfl;exact (by (try simp only []);omega);exact (by (try simp only []);omega))) rfl ?_ | refine JC.seq ?_ | refine JC.region ?_ | refine JL.nil ?_ | refine JE.next ?_))
              refine JC.cond rfl (fun h=>by cases h) (fun _=>?_)
              (repeat (first | refine JL.q (by first|(apply OQ.gj (b:=0);rfl;rfl;exact h1)|(apply OQ.move;rfl)) rfl ?_ | refine JC.seq ?_ | refine JC.region ?_ | refine JC.skip ?_ | refine JL.nil ?_ | refine JE.next ?_))
              refine JC.cond rfl (fun _=>?_) (fun h=>by cases h)
              (repeat (first | refine JL.q (by (apply OQ.move;rfl)) rfl ?_ | refine JC.region ?_))
              refine JL.dQ (xs:=o.map U8) (fun b' cap'=>[⟨b',Sl.aG 5 1 (n+1) cap' (o.map U8++[U8 32]),true⟩]) Tryz.underlying22 bQ rfl rfl rfl rfl (fun _=>rfl) (by intro _ _;repeat (first | exact az.here | apply az.there)) (by omega) (by omega) rfl rfl fun bl b1 cap1=>?_
              (repeat (first | refine JL.q (by first|(apply OQ.move;rfl)|(apply OQ.assign;rfl)|(apply OQ.aT;rfl;rfl;exact (by (try simp only []);omega))) rfl ?_ | refine JC.region ?_ | refine JC.exit ?_ | refine JL.nil ?_ | refine JE.next ?_ | refine JE.av ?_ | refine JE.aF ?_))
              exact JE.again (i:=BS.mk i d false o n b cap) (BS.mk (i+1) (d - 1) false (o++[32]) (n+1) b1 cap1) ⟨by dsimp only;omega,by dsimp only;omega,by simp [hon],by dsimp only;omega,ha⟩ (by dsimp only;omega) (by repeat (first | exact af.nil | refine af.cons _ _ _ rfl ?_)) (.keep _ _ _ _ _ _ (fun o h=>by dsimp only;simp only [List.map_append];exact h) (.nil _))
        case false=>
          (repeat (first | refine JL.q (by first|(apply OQ.gj (b:=40);rfl;rfl;exact h40)|(apply OQ.move;rfl)) rfl ?_ | refine JC.seq ?_ | refine JC.region ?_ | refine JC.skip ?_ | refine JL.nil ?_ | refine JE.next ?_))
          refine JC.cond rfl (fun h=>by cases h) (fun _=>?_)
          (repeat (first | refine JL.q (by first|(apply OQ.gj (b:=41);rfl;rfl;exact h41)|(apply OQ.move;rfl)) rfl ?_ | refine JC.seq ?_ | refine JC.region ?_ | refine JC.skip ?_ | refine JL.nil ?_ | refine JE.next ?_))
          refine JC.cond rfl (fun h=>by cases h) (fun _=>?_)
          cases hd0 : decide ((d : Int)=0)
          · have hd1 : ¬ d=0:=by have:=of_decide_eq_false hd0;omega
            rw [vq (by rcases hns with h | h;exact absurd h hd1;exact h) (gM 40 h40) (gM 41 h41) hd1] at ha
            (repeat (first | refine JL.q (by first|(apply OQ.gj (b:=0);rfl;rfl;exact hd0)|(apply OQ.move;rfl)) rfl ?_ | refine JC.seq ?_ | refine JC.region ?_ | refine JC.skip ?_ | refine JL.nil ?_ | refine JE.next ?_))
            refine JC.cond rfl (fun h=>by cases h) (fun _=>?_)
            (repeat (first | refine JL.q (by first|(apply OQ.move;rfl)|(apply OQ.assign;rfl)|(apply OQ.aT;rfl;rfl;exact (by (try simp only []);omega))) rfl ?_ | refine JC.region ?_ | refine JC.skip ?_ | refine JL.nil ?_ | refine JE.next ?_ | refine JE.ag ?_))
            exact JE.again (i:=BS.mk i d false o n b cap) (BS.mk (i+1) d false o n b cap) ⟨by dsimp only;omega,hd,hon,by dsimp only;omega,ha⟩ (by dsimp only;omega) (by repeat (first | exact af.nil | refine af.cons _ _ _ rfl ?_)) (aq.refl _)
          · obtain rfl : d=0:=by have:=of_decide_eq_true hd0;omega
            rw [kE (gM 40 h40) (gM 41 h41),eqc] at ha
            (repeat (first | refine JL.q (by first|(apply OQ.gj (b:=0);rfl;rfl;exact hd0)|(apply OQ.move;rfl)) rfl ?_ | refine JC.seq ?_ | refine JC.region ?_ | refine JC.skip ?_ | refine JL.nil ?_ | refine JE.next ?_))
            refine JC.cond rfl (fun _=>?_) (fun h=>by cases h)
            (repeat (first | refine JL.q (by (apply OQ.move;rfl)) rfl ?_ | refine JC.seq ?_ | refine JC.region ?_))
            refine JL.dQ (xs:=o.map U8) (fun b' cap'=>[⟨b',Sl.aG 5 1 (n+1) cap' (o.map U8++[U8 c]),true⟩]) Tryz.underlying22 bQ rfl rfl rfl rfl (fun _=>rfl) (by intro _ _;repeat (first | exact az.here | apply az.there)) (by omega) (by omega) rfl rfl fun bl b1 cap1=>?_
            cases h34 : decide ((c.toNat : Int)=34)
            all_goals (
              (repeat (first | refine JL.q (by first|(apply OQ.gj (b:=34);rfl;rfl;exact h34)|(apply OQ.move;rfl)|(apply OQ.assign;rfl)|(apply OQ.aT;rfl;rfl;exact (by (try simp only []);omega))) rfl ?_ | refine JC.region ?_ | refine JL.nil ?_ | refine JE.next ?_ | refine JE.ag ?_))
              rw [show decide ((c.toNat : Int)=((34 : aI.By).toNat : Int))=_ from h34] at ha
              refine JE.again (i:=BS.mk i 0 false o n b cap) (BS.mk (i+1) 0 _ (o++[c]) (n+1) b1 cap1) ⟨by dsimp only;omega,hd,by simp [hon],by dsimp only;omega,ha⟩ (by dsimp only;omega) (by repeat (first | exact af.nil | refine af.cons _ _ _ rfl ?_)) (.keep _ _ _ _ _ _ (fun o h=>by dsimp only;simp only [List.map_append];exact h) (.nil _))))
  · have hi' : ¬ i<s.length:=of_decide_eq_false h
    clear h hi
    rw [List.drop_of_length_le (by omega),dn] at ha
    cases h0 : decide ((0 : Int)<(d : Int)) <;> cases hq : q
    all_goals subst hq
    all_goals (rw [h0] at ha)
    all_goals (repeat (first | refine JL.q (by first|(apply OQ.cW (b:=0);rfl;rfl;exact h0)|(apply OQ.ay;rfl;rfl)|(apply OQ.au;rfl;rfl)|(apply OQ.move;rfl)) rfl ?_ | refine JC.seq ?_ | refine JC.region ?_ | refine JC.exit ?_ | refine JL.nil ?_ | refine JE.next ?_ | refine JE.av ?_ | refine JE.aF ?_ | refine JL.aU rfl rfl ?_ | refine JL.aM rfl rfl rfl rfl ?_))
    all_goals refine JC.cond rfl (fun h=>?_) (fun h=>?_)
    all_goals first|(exfalso;revert h;decide) | skip
    all_goals clear h
    all_goals first
      | (have e : eo s=([],3):=ha
         rw [e]
         (repeat (first | refine JL.q (by (apply OQ.assign;rfl)) rfl ?_ | refine JC.seq ?_ | refine JC.region ?_ | refine JL.nil ?_ | refine JE.next ?_))
         refine JC.ret ?_
         (repeat (refine JE.ah ?_))
         refine JE.bI rfl (RV.tmp rfl) (RV.tmp rfl) ?_
         exact fun w' hw=>⟨rfl,hw.aS⟩)
      | (have e : eo s=(o,0):=ha
         rw [e]
         subst hon
         (repeat (first | refine JL.q (by first|(apply OQ.qQ (s:=⟨some ⟨b,0,none⟩,cap,o⟩);exact Tryz.underlying22;exact Tryz.underlying5;exact Tryz.underlying9;rfl;exact (fun w' hw'=>b8 hw' .here))|(apply OQ.move;rfl)|(apply OQ.assign;rfl)) rfl ?_ | refine JC.seq ?_ | refine JC.region ?_ | refine JC.skip ?_ | refine JL.nil ?_ | refine JE.next ?_))
         refine JC.ret ?_
         (skip)
         refine JE.bI rfl (RV.tmp rfl) (RV.tmp rfl) ?_
         exact fun w' hw=>⟨rfl,hw.aS⟩)
end
section
set_option maxRecDepth 10000
open Sl aI Tok
theorem xO {p : aI.By→Bool} : ∀ {a b : List aI.By},a.all p=true→(∀ c ∈ b.head?,p c=false)→(a++b).takeWhile p=a
  | [],[],_,_=>rfl
  | [],c::b,_,h=>by
    rw [List.nil_append,List.takeWhile_cons,if_neg (by rw [h c rfl];decide)]
  | c::a,b,h,k=>by
    rw [List.all_cons,Bool.and_eq_true] at h
    rw [List.cons_append,List.takeWhile_cons,if_pos h.1,xO h.2 k]
theorem Aq {t : List aI.By} {n : Nat} (hn : n+1<t.length) (h : t.getD n 0=60) (hj : ∀ j : Nat,n<j→j<t.length→¬ t.getD j 0=60) : Ax t.dropLast=(t.take (t.length - 1)).drop (n+1):=by
  rw [List.dropLast_eq_take]
  have hv : (t.take (t.length - 1))=(t.take n)++60::(t.take (t.length - 1)).drop (n+1):=by
    conv=>lhs;rw [← List.take_append_drop n (t.take (t.length - 1))]
    rw [List.take_take,Nat.min_eq_left (by omega)]
    congr 1
    rw [List.drop_eq_getElem_cons (by rw [List.length_take];omega),List.getElem_take]
    congr 1
    rw [← h,List.getD_eq_getElem?_getD,List.getElem?_eq_getElem (by omega)];rfl
  unfold Ax
  conv=>lhs;rw [hv]
  rw [List.reverse_append,List.reverse_cons,List.append_assoc,xO (b:=[60]++_),List.reverse_reverse]
  · rw [List.all_reverse,List.all_eq_true]
    intro x hx
    obtain ⟨k,hk,rfl⟩:=List.mem_iff_getElem.1 hx
    rw [List.length_drop,List.length_take] at hk
    have:=hj (n+1+k) (by omega) (by omega)
    rw [List.getD_eq_getElem?_getD,List.getElem?_eq_getElem (by omega)] at this
    rw [List.getElem_drop,List.getElem_take]
    simpa using this
  · intro c hc
    simp at hc
    subst hc
    rfl
set_option maxHeartbeats 32000000 in
theorem vb (s : List aI.By) (w : World) (hl : s.length<1000000) : Calls Tryz.prog 78 [Z s].toArray w fun e w'=>e=.returned (.tuple #[Z (cJ s).1,N (cJ s).2])∧Ext w w':=by
  refine enter (n:=92) Tryz.func78 rfl rfl rfl (aa.start w []) ?_
  have cB:=fun w'=>u9 s w' hl
  have hbl:=mc s
  unfold cJ
  generalize (eo s).1=x at cB hbl ⊢
  generalize (eo s).2=k at cB ⊢
  cases hk : decide ((k : Int)=0)
  · rw [if_neg (by have:=of_decide_eq_false hk;omega)]
    repeat (first | refine JL.q (by first|(apply OQ.an (vs:=[Z s]);exact lT;rfl;exact (fun w' _=>cB w'))|(apply OQ.extract;rfl;rfl)|(apply OQ.qA (b:=0);rfl;rfl;exact hk)|(apply OQ.move;rfl)|(apply OQ.assign;rfl)) rfl ?_ | refine JC.seq ?_ | refine JC.region ?_ | refine JL.nil ?_ | refine JE.next ?_)
    refine JC.cond rfl (fun _=>?_) (fun h=>by cases h)
    repeat (first | refine JL.q (by first|(apply OQ.move;rfl)|(apply OQ.assign;rfl)) rfl ?_ | refine JC.seq ?_ | refine JC.region ?_ | refine JL.nil ?_ | refine JE.next ?_)
    refine JC.ret ?_
    repeat (refine JE.ah ?_)
    refine JE.bI rfl (RV.tmp rfl) (RV.tmp rfl) ?_
    exact fun w' hw=>⟨rfl,hw.aS⟩
  rw [if_pos (by have:=of_decide_eq_true hk;omega)]
  have cT:=fun w'=>mL x w' (by omega)
  have htl:=fZ x
  generalize trim x=t at cT htl ⊢
  have hidx : 0<t.length→∀ {n : Nat} {E : Env} {C : World→Prop} {dst : Option Tmp} {ty : TypeId} {pos : String} {aft : Array Edge} {g : Option (Nat × Bool)} {x y : Operand},ev E x=some (Z t)→ev E y=some (N (t.length - 1))→OQ Tryz.prog n E C ⟨dst,.index 9 x y,ty,pos,aft,g⟩ (U8 (t.getD (t.length - 1) 0)):=fun hp=>cY (s:=t) (i:=t.length - 1) (by omega)
  have hT : iu t=if 0<t.length∧t.getD (t.length - 1) 0=62 then (if 60 ∈ t then dO (trim (Ax t.dropLast)) else ([],3)) else dO t:=rfl
  generalize hc : t.getD (t.length - 1) 0=c at hidx hT
  cases h0 : decide ((0 : Int)<(t.length : Int)) <;> cases h62 : decide ((c.toNat : Int)=62)
  all_goals (try have hp : 0<t.length:=by (have:=of_decide_eq_true h0;omega))
  all_goals (try have hidx:=fun {n : Nat} {E : Env} {C : World→Prop} {dst : Option Tmp} {ty : TypeId} {pos : String} {aft : Array Edge} {g : Option (Nat × Bool)} {x y : Operand}=>hidx hp (n:=n) (E:=E) (C:=C) (dst:=dst) (ty:=ty) (pos:=pos) (aft:=aft) (g:=g) (x:=x) (y:=y))
  all_goals (repeat (first | refine JL.q (by first|(apply OQ.an (vs:=[Z s]);exact lT;rfl;exact (fun w' _=>cB w'))|(apply OQ.extract;rfl;rfl)|(apply OQ.qA (b:=0);rfl;rfl;exact hk)|(apply OQ.move;rfl)|(apply OQ.assign;rfl)) rfl ?_ | refine JC.seq ?_ | refine JC.region ?_ | refine JL.nil ?_ | refine JE.next ?_))
  all_goals refine JC.cond rfl (fun h=>by cases h) (fun _=>?_)
  all_goals (repeat (first | refine JL.q (by first|(apply OQ.an (vs:=[Z x]);exact lC;rfl;exact (fun w' _=>cT w'))|(apply OQ.bC;exact Tryz.underlying9;rfl)|(apply OQ.cW (b:=0);rfl;rfl;exact h0)|(apply hidx;rfl;rfl)|(apply OQ.gj (b:=62);rfl;rfl;exact h62)|(apply OQ.ay;rfl;rfl)|(apply OQ.au;rfl;rfl)|(apply OQ.move;rfl)|(apply OQ.assign;rfl)|(apply OQ.eu;rfl;rfl;exact (by (try simp only []);omega);exact (by (try simp only []);omega))) rfl ?_ | refine JC.seq ?_ | refine JC.region ?_ | refine JC.skip ?_ | refine JL.nil ?_ | refine JE.next ?_ | refine JL.aU rfl rfl ?_ | refine JL.aM rfl rfl rfl rfl ?_))
  all_goals (
    refine JC.join (ι:={u : List aI.By // iu t=dO u∧u.length≤t.length}) (fun u=>[(0,Z u.1)]) (fun _=>[]) (fun _=>True) ?_ ?_
    · refine JC.cond rfl (fun h=>?_) (fun h=>?_)
      all_goals first|(exfalso;revert h;decide) | skip
      all_goals clear h
      all_goals first
        | (have hno : ¬ (0<t.length∧c=62):=by
             first
               | exact fun k=>(by have:=of_decide_eq_false h0;omega)
               | exact fun k=>gM 62 h62 k.2
           rw [if_neg hno] at hT
           (repeat (refine JC.skip ?_))
           exact JE.mid ⟨t,hT,Nat.le_refl _⟩ trivial (by repeat (first | exact af.nil | refine af.cons _ _ _ rfl ?_)) (aq.refl _))
        | (rw [if_pos ⟨hp,mY 62 h62⟩] at hT
           (repeat (first | refine JL.q (by first|(apply OQ.bC;exact Tryz.underlying9;rfl)|(apply OQ.move;rfl)|(apply OQ.assign;rfl)|(apply OQ.eu;rfl;rfl;exact (by (try simp only []);omega);exact (by (try simp only []);omega))) rfl ?_ | refine JC.seq ?_ | refine JC.region ?_ | refine JC.block ?_ | refine JL.nil ?_ | refine JE.next ?_))
           refine JC.loop (fun a : Int=>[(0,Z t),(5,I a)]) (fun _=>[]) (fun a=>(a+1).toNat) (fun a=>-1≤a∧a<(t.length : Int)∧∀ j : Nat,a<(j : Int)→j<t.length→¬ t.getD j 0=60) ((t.length - 1 : Nat) : Int) ⟨by omega,by omega,fun j h1 h2=>by omega⟩ (by repeat (first | exact af.nil | refine af.cons _ _ _ rfl ?_)) (aq.refl _) ?_
           rintro a ⟨ha1,ha2,hj⟩
           cases g0 : decide ((0 : Int)≤a)
           · obtain rfl : a=-1:=by have:=of_decide_eq_false g0;omega
             have hm : ¬ 60 ∈ t:=fun hm=>by
               obtain ⟨j,h1,h2⟩:=List.mem_iff_getElem.1 hm
               refine hj j (by omega) h1 ?_
               rw [List.getD_eq_getElem?_getD,List.getElem?_eq_getElem h1,h2];rfl
             rw [if_neg hm] at hT
             rw [hT]
             (repeat (first | refine JL.q (by first|(apply OQ.dK (b:=0);rfl;rfl;exact g0)|(apply OQ.au;rfl;rfl)|(apply OQ.move;rfl)) rfl ?_ | refine JC.seq ?_ | refine JC.region ?_ | refine JL.nil ?_ | refine JE.next ?_ | refine JL.aM rfl rfl rfl rfl ?_))
             refine JC.cond rfl (fun h=>by cases h) (fun _=>?_)
             (repeat (first | refine JL.q (by first|(apply OQ.dV (b:=0) (c:=true);rfl;rfl;rfl)|(apply OQ.move;rfl)) rfl ?_ | refine JC.seq ?_ | refine JC.region ?_ | refine JC.exit ?_ | refine JL.nil ?_ | refine JE.next ?_ | refine JE.av ?_ | refine JE.aF ?_))
             refine JC.cond rfl (fun _=>?_) (fun h=>by cases h)
             (repeat (first | refine JL.q (by (apply OQ.assign;rfl)) rfl ?_ | refine JC.seq ?_ | refine JC.region ?_ | refine JL.nil ?_ | refine JE.next ?_))
             refine JC.ret ?_
             (repeat (refine JE.ah ?_))
             refine JE.bI rfl (RV.tmp rfl) (RV.tmp rfl) ?_
             exact fun w' hw=>⟨rfl,hw.aS⟩
           · obtain ⟨n,rfl⟩:=Int.eq_ofNat_of_zero_le (of_decide_eq_true g0)
             have hn : n<t.length:=by omega
             have hidxn:=fun {n : Nat} {E : Env} {C : World→Prop} {dst : Option Tmp} {ty : TypeId} {pos : String} {aft : Array Edge} {g : Option (Nat × Bool)} {x y : Operand}=>cY hn (n:=n) (E:=E) (C:=C) (dst:=dst) (ty:=ty) (pos:=pos) (aft:=aft) (g:=g) (x:=x) (y:=y)
             generalize hcn : t.getD n 0=e at hidxn
             cases g60 : decide ((e.toNat : Int)=60)
             · (repeat (first | refine JL.q (by first|(apply OQ.dK (b:=0);rfl;rfl;exact g0)|(apply hidxn;rfl;rfl)|(apply OQ.qA (b:=60);rfl;rfl;exact g60)|(apply OQ.ay;rfl;rfl)|(apply OQ.move;rfl)) rfl ?_ | refine JC.seq ?_ | refine JC.region ?_ | refine JL.nil ?_ | refine JE.next ?_ | refine JL.aU rfl rfl ?_))
               refine JC.cond rfl (fun _=>?_) (fun h=>by cases h)
               (repeat (first | refine JL.q (by first|(apply OQ.tI (b:=1);rfl;rfl;exact (by omega);exact (by omega))|(apply OQ.move;rfl)|(apply OQ.assign;rfl)) rfl ?_ | refine JC.region ?_ | refine JC.block ?_ | refine JC.skip ?_ | refine JL.nil ?_ | refine JE.next ?_ | refine JE.ag ?_))
               refine JE.again (i:=(n : Int)) ((n : Int) - 1) ⟨by omega,by omega,fun j h1 h2=>?_⟩ (by omega) (by repeat (first | exact af.nil | refine af.cons _ _ _ rfl ?_)) (aq.refl _)
               by_cases hjn : j=n
               · subst hjn
                 rw [hcn]
                 exact gM 60 g60
               · exact hj j (by omega) h2
             · have he : e=60:=mY 60 g60
               have hn1 : n+1<t.length:=by
                 by_cases hh : n=t.length - 1
                 · subst hh
                   rw [hcn,he] at hc
                   rw [← hc] at h62
                   exact absurd h62 (by decide)
                 · omega
               have hm : 60 ∈ t:=by
                 rw [List.getD_eq_getElem?_getD,List.getElem?_eq_getElem hn] at hcn
                 exact List.mem_iff_getElem.2 ⟨n,hn,by rw [← he,← hcn];rfl⟩
               rw [if_pos hm,Aq hn1 (hcn.trans he) (fun j h1 h2=>hj j (by omega) h2)] at hT
               have cT2:=fun w'=>mL ((t.take (t.length - 1)).drop (n+1)) w' (by rw [List.length_drop,List.length_take];omega)
               have hul:=fZ ((t.take (t.length - 1)).drop (n+1))
               rw [List.length_drop,List.length_take] at hul
               have hneg : decide ((n : Int)<0)=false:=decide_eq_false (by omega)
               (repeat (first | refine JL.q (by first|(apply OQ.dK (b:=0);rfl;rfl;exact g0)|(apply hidxn;rfl;rfl)|(apply OQ.qA (b:=60);rfl;rfl;exact g60)|(apply OQ.ay;rfl;rfl)|(apply OQ.move;rfl)) rfl ?_ | refine JC.seq ?_ | refine JC.region ?_ | refine JL.nil ?_ | refine JE.next ?_ | refine JL.aU rfl rfl ?_))
               refine JC.cond rfl (fun h=>by cases h) (fun _=>?_)
               (repeat (first | refine JL.q (by first|(apply OQ.dV (b:=0);rfl;rfl;exact hneg)|(apply OQ.move;rfl)) rfl ?_ | refine JC.seq ?_ | refine JC.region ?_ | refine JC.exit ?_ | refine JL.nil ?_ | refine JE.next ?_ | refine JE.av ?_ | refine JE.aF ?_))
               refine JC.cond rfl (fun h=>by cases h) (fun _=>?_)
               (repeat (first | refine JL.q (by first|(apply OQ.bC;exact Tryz.underlying9;rfl)|(apply OQ.zS (i:=n+1) (j:=t.length - 1);exact Tryz.underlying9;rfl;rfl;rfl;exact (by omega);exact (by omega))|(apply OQ.an (vs:=[Z ((t.take (t.length - 1)).drop (n+1))]);exact lC;rfl;exact (fun w' _=>cT2 w'))|(apply OQ.move;rfl)|(apply OQ.assign;rfl)|(apply OQ.aT;rfl;rfl;exact (by (try simp only []);omega))|(apply OQ.eu;rfl;rfl;exact (by (try simp only []);omega);exact (by (try simp only []);omega))) rfl ?_ | refine JC.region ?_ | refine JC.skip ?_ | refine JL.nil ?_ | refine JE.next ?_))
               exact JE.mid ⟨_,hT,by omega⟩ trivial (by repeat (first | exact af.nil | refine af.cons _ _ _ rfl ?_)) (aq.refl _))
    · rintro ⟨u,hu,hul⟩ _
      dsimp only
      rw [hu]
      have hul2 : u.length<1000000:=by omega
      clear hT hu hul
      (repeat (first | refine JL.q (by (apply OQ.assign;rfl)) rfl ?_ | refine JC.seq ?_ | refine JC.region ?_ | refine JC.block ?_ | refine JL.nil ?_ | refine JE.next ?_))
      refine JC.aE (ι:=Unit) (fun _=>[(0,Z u),(6,N (fst 64 u))]) (fun _=>[]) (fun _=>True) ?_ ?_
      · refine JC.loop (fun i : Nat=>[(0,Z u),(6,N i)]) (fun _=>[]) (fun i=>u.length - i) (fun i=>i≤u.length∧(u.take i).all (fun d=>!(d == 64))=true) 0 ⟨Nat.zero_le _,rfl⟩ (by repeat (first | exact af.nil | refine af.cons _ _ _ rfl ?_)) (aq.refl _) ?_
        rintro i ⟨hi,ha⟩
        cases g0 : decide ((i : Int)<(u.length : Int))
        · obtain rfl : i=u.length:=by have:=of_decide_eq_false g0;omega
          rw [List.take_length] at ha
          rw [sK 64 u ha]
          (repeat (first | refine JL.q (by first|(apply OQ.bC;exact Tryz.underlying9;rfl)|(apply OQ.dV;rfl;rfl;exact g0)|(apply OQ.au;rfl;rfl)|(apply OQ.move;rfl)) rfl ?_ | refine JC.seq ?_ | refine JC.region ?_ | refine JL.nil ?_ | refine JE.next ?_ | refine JL.aM rfl rfl rfl rfl ?_))
          refine JC.cond rfl (fun h=>by cases h) (fun h=>?_)
          (repeat (first | refine JC.exit ?_ | refine JE.av ?_ | refine JE.aF ?_))
          exact JE.mid () trivial (by repeat (first | exact af.nil | refine af.cons _ _ _ rfl ?_)) (aq.refl _)
        · have hi' : i<u.length:=by have:=of_decide_eq_true g0;omega
          have hf:=wC 64 u hi' ha
          have hx:=fI (fun d=>!(d == (64 : aI.By))) u 0 hi'
          rw [ha,Bool.true_and] at hx
          have hidx:=fun {n : Nat} {E : Env} {C : World→Prop} {dst : Option Tmp} {ty : TypeId} {pos : String} {aft : Array Edge} {g : Option (Nat × Bool)} {x y : Operand}=>cY hi' (n:=n) (E:=E) (C:=C) (dst:=dst) (ty:=ty) (pos:=pos) (aft:=aft) (g:=g) (x:=x) (y:=y)
          generalize u.getD i 0=c at hidx hf hx
          rw [eqc] at hf
          rw [eqc] at hx
          cases h1 : decide ((c.toNat : Int)=64)
          · (repeat (first | refine JL.q (by first|(apply OQ.bC;exact Tryz.underlying9;rfl)|(apply OQ.dV;rfl;rfl;exact g0)|(apply hidx;rfl;rfl)|(apply OQ.qA (b:=64);rfl;rfl;exact h1)|(apply OQ.ay;rfl;rfl)|(apply OQ.move;rfl)) rfl ?_ | refine JC.seq ?_ | refine JC.region ?_ | refine JL.nil ?_ | refine JE.next ?_ | refine JL.aU rfl rfl ?_))
            refine JC.cond rfl (fun h=>?_) (fun h=>by cases h)
            (repeat (first | refine JL.q (by first|(apply OQ.move;rfl)|(apply OQ.assign;rfl)|(apply OQ.aT;rfl;rfl;exact (by (try simp only []);omega))) rfl ?_ | refine JC.region ?_ | refine JC.block ?_ | refine JC.skip ?_ | refine JL.nil ?_ | refine JE.next ?_ | refine JE.ag ?_))
            exact JE.again (i:=i) (i+1) ⟨hi',by rw [hx];exact congrArg not h1⟩ (by omega) (by repeat (first | exact af.nil | refine af.cons _ _ _ rfl ?_)) (aq.refl _)
          · rw [hf h1]
            (repeat (first | refine JL.q (by first|(apply OQ.bC;exact Tryz.underlying9;rfl)|(apply OQ.dV;rfl;rfl;exact g0)|(apply hidx;rfl;rfl)|(apply OQ.qA (b:=64);rfl;rfl;exact h1)|(apply OQ.ay;rfl;rfl)|(apply OQ.move;rfl)) rfl ?_ | refine JC.seq ?_ | refine JC.region ?_ | refine JL.nil ?_ | refine JE.next ?_ | refine JL.aU rfl rfl ?_))
            refine JC.cond rfl (fun h=>by cases h) (fun h=>?_)
            (repeat (first | refine JC.exit ?_ | refine JE.av ?_ | refine JE.aF ?_))
            exact JE.mid () trivial (by repeat (first | exact af.nil | refine af.cons _ _ _ rfl ?_)) (aq.refl _)
      rintro ⟨⟩ _
      have hle:=z1 64 u
      have hS : dO u=if fst 64 u=u.length∨cZ (u.take (fst 64 u))=false∨cZ (u.drop (fst 64 u+1))=false then ([],3) else (u.take (fst 64 u+1)++(u.drop (fst 64 u+1)).map small,0):=rfl
      generalize fst 64 u=j at hle hS ⊢
      have c1:=fun w'=>jS (u.take j) w' (by rw [List.length_take];omega)
      have c2:=fun w'=>jS (u.drop (j+1)) w' (by rw [List.length_drop];omega)
      have c3:=fun w'=>q6 (u.drop (j+1)) w' (by rw [List.length_drop];omega)
      have l3 : (u.take (j+1)).length+((u.drop (j+1)).map small).length<9223372036854775808:=by rw [List.length_take,List.length_map,List.length_drop];omega
      cases g0 : decide ((j : Int)=(u.length : Int))
      · have hk : j<u.length:=by have:=of_decide_eq_false g0;omega
        cases g1 : cZ (u.take j) <;> cases g2 : cZ (u.drop (j+1))
        all_goals (
          (repeat (first | refine JL.q (by first|(apply OQ.bC;exact Tryz.underlying9;rfl)|(apply OQ.gj;rfl;rfl;exact g0)|(apply OQ.dx;exact Tryz.underlying9;rfl;rfl;exact hle)|(apply OQ.cc (i:=j+1);exact Tryz.underlying9;rfl;rfl;exact hk)|(apply OQ.mB (vs:=[Z (u.take j)]);exact jc;rfl;exact c1;exact g1)|(apply OQ.mB (vs:=[Z (u.drop (j+1))]);exact jc;rfl;exact c2;exact g2)|(apply OQ.not;rfl)|(apply OQ.ay;rfl;rfl)|(apply OQ.au;rfl;rfl)|(apply OQ.move;rfl)|(apply OQ.aT;rfl;rfl;exact (by (try simp only []);omega))) rfl ?_ | refine JC.seq ?_ | refine JC.region ?_ | refine JL.nil ?_ | refine JE.next ?_ | refine JL.aU rfl rfl ?_ | refine JL.aM rfl rfl rfl rfl ?_))
          refine JC.cond rfl (fun h=>?_) (fun h=>?_)
          all_goals first|(exfalso;revert h;decide) | skip
          all_goals clear h
          all_goals first
            | (have e : dO u=([],3):=by
                 rw [hS,if_pos]
                 first
                   | exact Or.inr (Or.inl g1)
                   | exact Or.inr (Or.inr g2)
               rw [e]
               (repeat (first | refine JL.q (by (apply OQ.assign;rfl)) rfl ?_ | refine JC.seq ?_ | refine JC.region ?_ | refine JL.nil ?_ | refine JE.next ?_))
               refine JC.ret ?_
               (repeat (refine JE.ah ?_))
               refine JE.bI rfl (RV.tmp rfl) (RV.tmp rfl) ?_
               exact fun w' hw=>⟨rfl,hw.aS⟩)
            | (have e : dO u=(u.take (j+1)++(u.drop (j+1)).map small,0):=by
                 rw [hS,if_neg]
                 rintro (h | h | h)
                 · omega
                 · rw [g1] at h;cases h
                 · rw [g2] at h;cases h
               rw [e]
               (repeat (first | refine JC.seq ?_ | refine JC.skip ?_ | refine JE.next ?_))
               refine JC.quiet fD (by kernel_rfl) ?_
               (repeat (first | refine JQ.q (by first|(apply OQ.dx (j:=j+1);exact Tryz.underlying9;rfl;rfl;exact hk)|(apply OQ.cc (i:=j+1);exact Tryz.underlying9;rfl;rfl;exact hk)|(apply OQ.an (vs:=[Z (u.drop (j+1))]);exact pq;rfl;exact (fun w' _=>c3 w'))|(apply OQ.bS;rfl;rfl;exact l3)|(apply OQ.move;rfl)|(apply OQ.assign;rfl)|(apply OQ.aT;rfl;rfl;exact (by (try simp only []);omega))) rfl ?_ | refine JQ.nil ?_ | refine JE.next ?_))
               refine JC.ret ?_
               (skip)
               refine JE.bI rfl (RV.tmp rfl) (RV.tmp rfl) ?_
               exact fun w' hw=>⟨rfl,hw.aS⟩))
      · rw [if_pos (Or.inl (by have:=of_decide_eq_true g0;omega))] at hS
        rw [hS]
        (repeat (first | refine JL.q (by first|(apply OQ.bC;exact Tryz.underlying9;rfl)|(apply OQ.gj;rfl;rfl;exact g0)|(apply OQ.ay;rfl;rfl)|(apply OQ.move;rfl)) rfl ?_ | refine JC.seq ?_ | refine JC.region ?_ | refine JL.nil ?_ | refine JE.next ?_ | refine JL.aM rfl rfl rfl rfl ?_))
        refine JC.cond rfl (fun _=>?_) (fun h=>by cases h)
        (repeat (first | refine JL.q (by (apply OQ.assign;rfl)) rfl ?_ | refine JC.seq ?_ | refine JC.region ?_ | refine JL.nil ?_ | refine JE.next ?_))
        refine JC.ret ?_
        (repeat (refine JE.ah ?_))
        refine JE.bI rfl (RV.tmp rfl) (RV.tmp rfl) ?_
        exact fun w' hw=>⟨rfl,hw.aS⟩)
end
section
set_option maxRecDepth 10000
open Sl
namespace dF
structure Tw where
  st : Nat
  fr : List Bt
  qt : Acc
  to : List (List Bt)
  out : List Bt
  qm : Acc
  zs : List Mz
  cl : Bool
structure Tw.ok (z : Tw) : Prop where
  t : z.qt=none→z.to=[]
  m : z.qm=none→z.zs=[]
def Tw.cs (z : Tw) : List Value:=[N z.st,Z z.fr,ak z.qt z.to.length,Z z.out,ak z.qm z.zs.length,.bool z.cl]
def Tw.T (z : Tw) : List aN:=aL 9 z.qt (z.to.map Z)
def Tw.M (z : Tw) : List aN:=c9 38 3 z.qm (z.zs.map Mz.cs)++z.zs.flatMap Mz.E
def Tw.E (b : Nat) (z : Tw) : List aN:=⟨b,Row 33 z.cs,true⟩::(z.T++z.M)
theorem Tw.wr (b : Nat) (z : Tw) : ∀ e ∈ z.E b,e.wr=true:=by
  intro e he
  rcases List.mem_cons.1 he with rfl | he
  · rfl
  rcases List.mem_append.1 he with h | he
  · exact cN _ _ _ e h
  rcases List.mem_append.1 he with h | he
  · exact j9 _ _ _ _ e h
  · exact qW _ e he
structure Tw.is (z : Tw) (S : Po) (O : List Bt) : Prop where
  out : z.out=O
  ms : z.zs.map Mz.m=S.ms
  cl : z.cl=decide (S.st=5)
  op : S.st≠5→z.st=(if S.st=4 then 3 else S.st)∧z.fr=S.fr∧z.to=S.to
theorem Ar : gv Tryz.prog 4=some 1:=by kernel_rfl
theorem xP : fG Tryz.prog 4=true:=by kernel_rfl
section
variable {n : Nat} {w0 : World} {S : List Nat} {ops : Array Oper} {Q : Exit→Act→World→Prop} {l : List Oper} {E : Env} {M : List aN} {pos : String} {aft : Array Edge} {ty : TypeId} {x y : Operand} {b : Nat} {z : Tw} {rest : List aN}
theorem JL.BR (k : Nat) (hx : ev E x=some (Pt b 0)) (hy : ev E y=some (N k)) (hk : JL Tryz.prog n w0 S ops Q l E (⟨b,Row 33 (Tw.cs { z with st:=k }),true⟩::rest)) : JL Tryz.prog n w0 S ops Q (⟨none,.store 3 x y,ty,pos,aft,none⟩::l) E (⟨b,Row 33 z.cs,true⟩::rest):=
  JL.cm (b:=b) (r:=z.cs) zh hx hy rfl rfl .here (show 0<6 by decide) rfl hk
theorem JL.B3 (s : List Bt) (hx : ev E x=some (Pt b 1)) (hy : ev E y=some (Z s)) (hk : JL Tryz.prog n w0 S ops Q l E (⟨b,Row 33 (Tw.cs { z with fr:=s }),true⟩::rest)) : JL Tryz.prog n w0 S ops Q (⟨none,.store 9 x y,ty,pos,aft,none⟩::l) E (⟨b,Row 33 z.cs,true⟩::rest):=
  JL.cm (b:=b) (r:=z.cs) di hx hy rfl rfl .here (show 1<6 by decide) rfl hk
theorem JL.B4 (q : Acc) (to : List (List Bt)) (hx : ev E x=some (Pt b 2)) (hy : ev E y=some (ak q to.length)) (hk : JL Tryz.prog n w0 S ops Q l E (⟨b,Row 33 (Tw.cs { z with qt:=q,to:=to }),true⟩::rest)) : JL Tryz.prog n w0 S ops Q (⟨none,.store 30 x y,ty,pos,aft,none⟩::l) E (⟨b,Row 33 z.cs,true⟩::rest):=
  JL.cm (b:=b) (r:=z.cs) vR hx hy (fk _ _) (eJ _ _) .here (show 2<6 by decide) rfl hk
theorem JL.BT (s : List Bt) (hx : ev E x=some (Pt b 3)) (hy : ev E y=some (Z s)) (hk : JL Tryz.prog n w0 S ops Q l E (⟨b,Row 33 (Tw.cs { z with out:=s }),true⟩::rest)) : JL Tryz.prog n w0 S ops Q (⟨none,.store 9 x y,ty,pos,aft,none⟩::l) E (⟨b,Row 33 z.cs,true⟩::rest):=
  JL.cm (b:=b) (r:=z.cs) di hx hy rfl rfl .here (show 3<6 by decide) rfl hk
theorem JL.Ci (c : Bool) (hx : ev E x=some (Pt b 5)) (hy : ev E y=some (.bool c)) (hk : JL Tryz.prog n w0 S ops Q l E (⟨b,Row 33 (Tw.cs { z with cl:=c }),true⟩::rest)) : JL Tryz.prog n w0 S ops Q (⟨none,.store 4 x y,ty,pos,aft,none⟩::l) E (⟨b,Row 33 z.cs,true⟩::rest):=
  JL.cm (b:=b) (r:=z.cs) Ar hx hy rfl rfl .here (show 5<6 by decide) rfl hk
end
theorem xQ : aO Tryz.prog 31:=⟨_,Tryz.func31,rfl,by kernel_rfl⟩
theorem vc : aO Tryz.prog 28:=⟨_,Tryz.func28,rfl,by kernel_rfl⟩
theorem aY : aO Tryz.prog 67:=⟨_,Tryz.func67,rfl,by kernel_rfl⟩
theorem dc : aO Tryz.prog 42:=⟨_,Tryz.func42,rfl,by kernel_rfl⟩
theorem oo : aO Tryz.prog 78:=⟨_,Tryz.func78,rfl,by kernel_rfl⟩
theorem mZ : aO Tryz.prog 27:=⟨_,Tryz.func27,rfl,by kernel_rfl⟩
theorem yW (b : Nat) (z : Tw) (s : List Bt) (hl : z.out.length+s.length<1000000000) (w : World) (h0 : aa w [b] [⟨b,Row 33 z.cs,true⟩] w) : Calls Tryz.prog 31 [Pt b 0,Z s].toArray w fun e w'=>e=.returned (.tuple #[])∧aa w [b] [⟨b,Row 33 (Tw.cs { z with out:=z.out++(s++[13,10]) }),true⟩] w':=by
  refine enter (n:=13) Tryz.func31 rfl rfl rfl h0 ?_
  repeat (first | refine JL.q (by first|(apply OQ.load;exact bJ;rfl;exact .here;exact (Row.cell (v:=Z z.out) rfl))|(apply OQ.bS (l:=s) (r:=[13,10]);rfl;rfl;exact (by show s.length+2<_;omega))|(apply OQ.bS (l:=z.out) (r:=s++[13,10]);rfl;rfl;exact (by rw [List.length_append];show _+(_+2)<_;omega))|(apply OQ.move;rfl)|(apply OQ.aV;rfl)|(apply OQ.bG;rfl;rfl;rfl;exact (by decide);rfl)) rfl ?_ | refine JC.region ?_)
  refine JL.BT (z.out++(s++[13,10])) rfl rfl ?_
  repeat (refine JL.nil ?_)
  exact JE.x9 rfl fun w' hw=>⟨rfl,hw⟩
theorem JL.qB {n : Nat} {w0 : World} {S : List Nat} {ops : Array Oper} {Q : Exit→Act→World→Prop} {l : List Oper} {E : Env} {d : Nat} {ty : TypeId} {pos : String} {aft : Array Edge} {x y : Operand} {ats : Array TypeId} {b : Nat} {z : Tw} {M0 : List aN} (s : List Bt)
    (hl : z.out.length+s.length<1000000000) (hx : ev E x=some (Pt b 0)) (hy : ev E y=some (Z s)) (hd : Nat.blt d n=true) (kk : JL Tryz.prog n w0 S ops Q l ((d,.tuple #[])::E) (⟨b,Row 33 (Tw.cs { z with out:=z.out++(s++[13,10]) }),true⟩::M0)) : JL Tryz.prog n w0 S ops Q (⟨some d,.call ⟨.value (.func 31),#[x,y],ats⟩,ty,pos,aft,none⟩::l) E (⟨b,Row 33 z.cs,true⟩::M0):=
  JL.iw (X:=[⟨b,Row 33 z.cs,true⟩]) (M0:=M0) (xs:=[x,y]) (ι:=Unit) (vs:=[Pt b 0,Z s]) (fun _=>.tuple #[]) (fun _=>[⟨b,Row 33 (Tw.cs { z with out:=z.out++(s++[13,10]) }),true⟩]) xQ (by simp [fQ,hx,hy]) hd (fun e he=>by rw [List.mem_singleton.1 he]) (fun _ e he=>by rw [List.mem_singleton.1 he]) (fun w' _ hx=>(yW b z s hl w' hx).mono fun e w2 ⟨h1,h2⟩=>⟨(),h1,h2⟩) fun _=>kk
def Tw.cg (z : Tw) (k b2 : Nat) : Tw:={ z with st:=k,fr:=[],qt:=some (b2,0),to:=[] }
theorem xR (b : Nat) (z : Tw) (k : Nat) (w : World) (h0 : aa w [b] [⟨b,Row 33 z.cs,true⟩] w) : Calls Tryz.prog 28 [Pt b 0,N k].toArray w fun e w'=>∃ b2 : Nat,e=.returned (.tuple #[])∧aa w [b] [⟨b,Row 33 (z.cg k b2).cs,true⟩,⟨b2,Sl.aG 9 1 0 0 [],true⟩] w':=by
  refine enter (n:=15) Tryz.func28 rfl rfl rfl h0 ?_
  repeat (first | refine JL.q (by first|(apply OQ.move;rfl)|(apply OQ.aV;rfl)|(apply OQ.bG;rfl;rfl;rfl;exact (by decide);rfl)) rfl ?_ | refine JC.seq ?_ | refine JC.region ?_)
  refine JL.BR k rfl rfl ?_
  repeat (first | refine JL.q (by first|(apply OQ.move;rfl)|(apply OQ.aV;rfl)|(apply OQ.bG;rfl;rfl;rfl;exact (by decide);rfl)) rfl ?_ | refine JC.seq ?_ | refine JC.region ?_ | refine JL.nil ?_ | refine JE.next ?_)
  refine JL.B3 [] rfl rfl ?_
  repeat (first | refine JL.q (by (apply OQ.move;rfl)) rfl ?_ | refine JC.region ?_ | refine JL.nil ?_ | refine JE.next ?_)
  refine JL.zP Tryz.underlying30 kW rfl fun b2 _=>?_
  refine JL.perm (M':=⟨b,Row 33 (Tw.cs { z with st:=k,fr:=[] }),true⟩::[⟨b2,Sl.aG 9 1 0 0 [],true⟩]) ?_ (.swap _ _ _)
  repeat (refine JL.q (by first|(apply OQ.aV;rfl)|(apply OQ.bG;rfl;rfl;rfl;exact (by decide);rfl)) rfl ?_)
  refine JL.B4 (z:={ z with st:=k,fr:=[] }) (some (b2,0)) [] rfl rfl ?_
  repeat (refine JL.nil ?_)
  exact JE.x9 rfl fun w' hw=>⟨b2,rfl,hw⟩
theorem JL.s6 {n : Nat} {w0 : World} {S : List Nat} {ops : Array Oper} {Q : Exit→Act→World→Prop} {l : List Oper} {E : Env} {d : Nat} {ty : TypeId} {pos : String} {aft : Array Edge} {x y : Operand} {ats : Array TypeId} {b : Nat} {z : Tw} {M0 : List aN} (k : Nat)
    (hx : ev E x=some (Pt b 0)) (hy : ev E y=some (N k)) (hd : Nat.blt d n=true) (kk : ∀ b2,JL Tryz.prog n w0 S ops Q l ((d,.tuple #[])::E) (⟨b,Row 33 (z.cg k b2).cs,true⟩::(⟨b2,Sl.aG 9 1 0 0 [],true⟩::M0))) : JL Tryz.prog n w0 S ops Q (⟨some d,.call ⟨.value (.func 28),#[x,y],ats⟩,ty,pos,aft,none⟩::l) E (⟨b,Row 33 z.cs,true⟩::M0):=
  JL.iw (X:=[⟨b,Row 33 z.cs,true⟩]) (M0:=M0) (xs:=[x,y]) (ι:=Nat) (vs:=[Pt b 0,N k]) (fun _=>.tuple #[]) (fun b2=>[⟨b,Row 33 (z.cg k b2).cs,true⟩,⟨b2,Sl.aG 9 1 0 0 [],true⟩]) vc (by simp [fQ,hx,hy]) hd (fun e he=>by rw [List.mem_singleton.1 he]) (fun b2 e he=>by
    rcases List.mem_cons.1 he with rfl | he
    · rfl
    · rw [List.mem_singleton.1 he]) (fun w' _ hx=>(xR b z k w' hx).mono fun e w2 ⟨b2,h1,h2⟩=>⟨b2,h1,h2⟩) fun b2=>kk b2
set_option maxHeartbeats 4000000 in
theorem dD (l v : List Bt) (hv : iz v) (hl : l.length<1000000000) (w : World) : Calls Tryz.prog 67 [Z l,Z v].toArray w fun e w'=>e=.returned (.bool (ax v l))∧Ext w w':=by
  rw [jX hv]
  refine enter (n:=19) Tryz.func67 rfl rfl rfl (aa.start w []) ?_
  cases hge : decide ((v.length : Int)≤(l.length : Int)) with
  | false=>
    rw [decide_eq_false (by have:=of_decide_eq_false hge;omega : ¬ v.length≤l.length),Bool.false_and]
    repeat (first | refine JL.q (by first|(apply OQ.bC;exact Tryz.underlying9;rfl)|(apply OQ.dK;rfl;rfl;exact hge)|(apply OQ.au;rfl;rfl)|(apply OQ.move;rfl)|(apply OQ.assign;rfl)) rfl ?_ | refine JC.seq ?_ | refine JC.region ?_ | refine JL.nil ?_ | refine JE.next ?_ | refine JL.aM rfl rfl rfl rfl ?_)
    refine JC.ret ?_
    skip
    exact JE.aC rfl (RV.tmp rfl) fun w' hw=>⟨rfl,hw.aS⟩
  | true=>
    have hge' : v.length≤l.length:=by have:=of_decide_eq_true hge;omega
    rw [decide_eq_true hge',Bool.true_and]
    have cB:=fun w'=>qv (l.take v.length) w' (by rw [List.length_take];omega)
    cases heq : decide ((l.take v.length).map fA=v)
    all_goals (repeat (first | refine JL.q (by first|(apply OQ.bC;exact Tryz.underlying9;rfl)|(apply OQ.dK;rfl;rfl;exact hge)|(apply OQ.ay;rfl;rfl)|(apply OQ.dx (j:=v.length);exact Tryz.underlying9;rfl;rfl;exact hge')|(apply OQ.an (vs:=[Z (l.take v.length)]);exact mZ;rfl;exact (fun w' _=>cB w'))|(apply OQ.fX;rfl;rfl;exact heq)|(apply OQ.move;rfl)|(apply OQ.assign;rfl)) rfl ?_ | refine JC.seq ?_ | refine JC.region ?_ | refine JL.nil ?_ | refine JE.next ?_ | refine JL.aU rfl rfl ?_))
    all_goals refine JC.ret ?_
    all_goals (skip)
    all_goals exact JE.aC rfl (RV.tmp rfl) fun w' hw=>⟨rfl,hw.aS⟩
def gN (s : List Bt) : List Bt × Bool:=if s.length<2∨¬ s.getD 0 0=60∨¬ s.getD (s.length - 1) 0=62 then ([],false) else ((Tok.cJ ((s.take (s.length - 1)).drop 1)).1,decide ((Tok.cJ ((s.take (s.length - 1)).drop 1)).2=0) && decide ((Tok.cJ ((s.take (s.length - 1)).drop 1)).1=(s.take (s.length - 1)).drop 1))
theorem s7 (s : List Bt) : match ep s with
    | none=>(gN s).2=false
    | some a=>gN s=(a,true):=by
  have hin : (s.take (s.length - 1)).drop 1=s.tail.dropLast:=by
    rw [List.dropLast_eq_take,List.length_tail,← List.drop_one,List.drop_take]
  by_cases h : s.length<2∨¬ s.getD 0 0=60∨¬ s.getD (s.length - 1) 0=62
  · have h1 : gN s=([],false):=if_pos h
    have h2 : ep s=none:=by
      unfold ep
      rw [if_neg]
      rintro ⟨g1,g2,_⟩
      match s,g1,g2,h with
      | [],g1,_,_=>cases g1
      | [_],_,g2,_=>cases g2
      | a::c::r,g1,g2,h=>
        rcases h with h | h | h
        · simp only [List.length_cons] at h;omega
        · exact h (by simpa using g1)
        · refine h ?_
          have : (c::r).getLast?=some 62:=g2
          rw [List.getLast?_eq_getElem?] at this
          have e : (a::c::r).length - 1=(c::r).length - 1+1:=by simp
          rw [e,List.getD_cons_succ,List.getD_eq_getElem?_getD,this]
          rfl
    rw [h2,h1]
  · have h1 : gN s=((Tok.cJ ((s.take (s.length - 1)).drop 1)).1,decide ((Tok.cJ ((s.take (s.length - 1)).drop 1)).2=0) && decide ((Tok.cJ ((s.take (s.length - 1)).drop 1)).1=(s.take (s.length - 1)).drop 1)):=if_neg h
    have hl : ¬ s.length<2:=fun e=>h (.inl e)
    have h60 : s.getD 0 0=60:=Decidable.byContradiction fun e=>h (.inr (.inl e))
    have h62 : s.getD (s.length - 1) 0=62:=Decidable.byContradiction fun e=>h (.inr (.inr e))
    have g1 : s.head?=some 60:=by
      rw [List.head?_eq_getElem?]
      rw [List.getD_eq_getElem?_getD,List.getElem?_eq_getElem (by omega)] at h60
      rw [List.getElem?_eq_getElem (by omega)]
      exact congrArg some h60
    have g2 : s.tail.getLast?=some 62:=by
      match s,hl,h62 with
      | [],hl,_=>simp at hl
      | [_],hl,_=>simp at hl
      | a::c::r,_,h62=>
        show (c::r).getLast?=some 62
        have e : (a::c::r).length - 1=(c::r).length - 1+1:=by simp
        rw [e,List.getD_cons_succ,List.getD_eq_getElem?_getD,List.getElem?_eq_getElem (by simp)] at h62
        rw [List.getLast?_eq_getElem?,List.getElem?_eq_getElem (by simp)]
        exact congrArg some h62
    rw [hin] at h1
    have h3 : (decide ((Tok.cJ s.tail.dropLast).2=0) && decide ((Tok.cJ s.tail.dropLast).1=s.tail.dropLast))=dX s.tail.dropLast:=rfl
    rw [h3] at h1
    unfold ep
    cases ha : dX s.tail.dropLast with
    | false=>
      rw [if_neg (by simp)]
      rw [h1,ha]
    | true=>
      rw [if_pos ⟨g1,g2,rfl⟩]
      unfold dX at ha
      rw [Bool.and_eq_true,decide_eq_true_iff,decide_eq_true_iff] at ha
      show gN s=(s.tail.dropLast,true)
      rw [h1,ha.2]
      unfold dX
      rw [ha.1,ha.2]
      simp
end dF
end
section
set_option maxRecDepth 10000
open Sl
namespace dF
set_option maxHeartbeats 4000000 in
theorem gf (s : List Bt) (hl : s.length<1000000) (w : World) : Calls Tryz.prog 42 [Z s].toArray w fun e w'=>e=.returned (.tuple #[Z (gN s).1,.bool (gN s).2])∧Ext w w':=by
  refine enter (n:=43) Tryz.func42 rfl rfl rfl (aa.start w []) ?_
  cases h2 : decide ((s.length : Int)<2) with
  | true=>
    have h2' : s.length<2:=by have:=of_decide_eq_true h2;omega
    rw [show gN s=([],false) from if_pos (.inl h2')]
    repeat (first | refine JL.q (by first|(apply OQ.bC;exact Tryz.underlying9;rfl)|(apply OQ.dV (b:=2);rfl;rfl;exact h2)|(apply OQ.ay;rfl;rfl)|(apply OQ.move;rfl)|(apply OQ.assign;rfl)) rfl ?_ | refine JC.seq ?_ | refine JC.region ?_ | refine JL.nil ?_ | refine JE.next ?_ | refine JL.aM rfl rfl rfl rfl ?_)
    refine JC.cond_true rfl rfl ?_
    repeat (first | refine JL.q (by (apply OQ.assign;rfl)) rfl ?_ | refine JC.seq ?_ | refine JC.region ?_ | refine JL.nil ?_ | refine JE.next ?_)
    refine JC.ret ?_
    repeat (refine JE.ah ?_)
    exact JE.bI rfl (RV.tmp rfl) (RV.tmp rfl) fun w' hw=>⟨rfl,hw.aS⟩
  | false=>
    have h2' : ¬ s.length<2:=by have:=of_decide_eq_false h2;omega
    cases h60 : decide (s.getD 0 0=60) with
    | false=>
      rw [show gN s=([],false) from if_pos (.inr (.inl (of_decide_eq_false h60)))]
      repeat (first | refine JL.q (by first|(apply OQ.bC;exact Tryz.underlying9;rfl)|(apply OQ.dV (b:=2);rfl;rfl;exact h2)|(apply OQ.jZ (i:=0);exact Tryz.underlying9;rfl;rfl;exact (by omega))|(apply OQ.qR (b:=60);rfl;rfl;exact h60)|(apply OQ.ay;rfl;rfl)|(apply OQ.au;rfl;rfl)|(apply OQ.move;rfl)|(apply OQ.assign;rfl)) rfl ?_ | refine JC.seq ?_ | refine JC.region ?_ | refine JL.nil ?_ | refine JE.next ?_ | refine JL.aU rfl rfl ?_ | refine JL.aM rfl rfl rfl rfl ?_)
      refine JC.cond_true rfl rfl ?_
      repeat (first | refine JL.q (by (apply OQ.assign;rfl)) rfl ?_ | refine JC.seq ?_ | refine JC.region ?_ | refine JL.nil ?_ | refine JE.next ?_)
      refine JC.ret ?_
      repeat (refine JE.ah ?_)
      exact JE.bI rfl (RV.tmp rfl) (RV.tmp rfl) fun w' hw=>⟨rfl,hw.aS⟩
    | true=>
      cases h62 : decide (s.getD (s.length - 1) 0=62) with
      | false=>
        rw [show gN s=([],false) from if_pos (.inr (.inr (of_decide_eq_false h62)))]
        repeat (first | refine JL.q (by first|(apply OQ.bC;exact Tryz.underlying9;rfl)|(apply OQ.dV (b:=2);rfl;rfl;exact h2)|(apply OQ.jZ (i:=0);exact Tryz.underlying9;rfl;rfl;exact (by omega))|(apply OQ.qR (b:=60);rfl;rfl;exact h60)|(apply OQ.eu (a:=s.length) (b:=1);rfl;rfl;exact (by omega);exact (by omega))|(apply OQ.jZ (i:=s.length - 1);exact Tryz.underlying9;rfl;rfl;exact (by omega))|(apply OQ.qR (b:=62);rfl;rfl;exact h62)|(apply OQ.au;rfl;rfl)|(apply OQ.move;rfl)|(apply OQ.assign;rfl)) rfl ?_ | refine JC.seq ?_ | refine JC.region ?_ | refine JL.nil ?_ | refine JE.next ?_ | refine JL.aU rfl rfl ?_)
        refine JC.cond_true rfl rfl ?_
        repeat (first | refine JL.q (by (apply OQ.assign;rfl)) rfl ?_ | refine JC.seq ?_ | refine JC.region ?_ | refine JL.nil ?_ | refine JE.next ?_)
        refine JC.ret ?_
        repeat (refine JE.ah ?_)
        exact JE.bI rfl (RV.tmp rfl) (RV.tmp rfl) fun w' hw=>⟨rfl,hw.aS⟩
      | true=>
        have hno : ¬ (s.length<2∨¬ s.getD 0 0=60∨¬ s.getD (s.length - 1) 0=62):=by
          rintro (h | h | h)
          · exact h2' h
          · exact h (of_decide_eq_true h60)
          · exact h (of_decide_eq_true h62)
        rw [show gN s=((Tok.cJ ((s.take (s.length - 1)).drop 1)).1,decide ((Tok.cJ ((s.take (s.length - 1)).drop 1)).2=0) && decide ((Tok.cJ ((s.take (s.length - 1)).drop 1)).1=(s.take (s.length - 1)).drop 1)) from if_neg hno]
        repeat (first | refine JL.q (by first|(apply OQ.bC;exact Tryz.underlying9;rfl)|(apply OQ.dV (b:=2);rfl;rfl;exact h2)|(apply OQ.jZ (i:=0);exact Tryz.underlying9;rfl;rfl;exact (by omega))|(apply OQ.qR (b:=60);rfl;rfl;exact h60)|(apply OQ.eu (a:=s.length) (b:=1);rfl;rfl;exact (by omega);exact (by omega))|(apply OQ.jZ (i:=s.length - 1);exact Tryz.underlying9;rfl;rfl;exact (by omega))|(apply OQ.qR (b:=62);rfl;rfl;exact h62)|(apply OQ.au;rfl;rfl)|(apply OQ.move;rfl)|(apply OQ.assign;rfl)) rfl ?_ | refine JC.seq ?_ | refine JC.region ?_ | refine JL.nil ?_ | refine JE.next ?_ | refine JL.aU rfl rfl ?_)
        refine JC.cond_false rfl rfl ?_
        have cA:=fun w'=>vb ((s.take (s.length - 1)).drop 1) w' (by rw [List.length_drop,List.length_take];omega)
        generalize hX : (s.take (s.length - 1)).drop 1=x at cA ⊢
        generalize (Tok.cJ x).1=a at cA ⊢
        generalize (Tok.cJ x).2=k at cA ⊢
        repeat (first | refine JL.q (by first|(apply OQ.bC;exact Tryz.underlying9;rfl)|(apply OQ.eu (a:=s.length) (b:=1);rfl;rfl;exact (by omega);exact (by omega))|(apply OQ.to;exact (OQ.zS (i:=1) (j:=s.length - 1) Tryz.underlying9 rfl rfl rfl (by omega) (by omega));exact (congrArg Z hX))|(apply OQ.an (vs:=[Z x]);exact oo;rfl;exact (fun w' _=>cA w'))|(apply OQ.extract;rfl;rfl)|(apply OQ.move;rfl)|(apply OQ.assign;rfl)) rfl ?_ | refine JC.seq ?_ | refine JC.region ?_ | refine JC.skip ?_ | refine JL.nil ?_ | refine JE.next ?_)
        cases hk : decide (k=0) with
        | false=>
          refine JC.quiet fD (by kernel_rfl) ?_
          repeat (first | refine JQ.q (by first|(apply OQ.dB (b:=0);rfl;rfl;exact hk)|(apply OQ.au;rfl;rfl)|(apply OQ.move;rfl)|(apply OQ.assign;rfl)) rfl ?_ | refine JQ.nil ?_ | refine JE.next ?_ | refine JQ.aM rfl rfl rfl rfl ?_)
          refine JC.ret ?_
          skip
          exact JE.bI rfl (RV.tmp rfl) (RV.tmp rfl) fun w' hw=>⟨rfl,hw.aS⟩
        | true=>
          cases hx2 : decide (a=x)
          all_goals refine JC.quiet fD (by kernel_rfl) ?_
          all_goals (repeat (first | refine JQ.q (by first|(apply OQ.dB (b:=0);rfl;rfl;exact hk)|(apply OQ.bC;exact Tryz.underlying9;rfl)|(apply OQ.eu (a:=s.length) (b:=1);rfl;rfl;exact (by omega);exact (by omega))|(apply OQ.to;exact (OQ.zS (i:=1) (j:=s.length - 1) Tryz.underlying9 rfl rfl rfl (by omega) (by omega));exact (congrArg Z hX))|(apply OQ.fX (r:=x);rfl;rfl;exact hx2)|(apply OQ.ay;rfl;rfl)|(apply OQ.move;rfl)|(apply OQ.assign;rfl)) rfl ?_ | refine JQ.nil ?_ | refine JE.next ?_ | refine JQ.aU rfl rfl ?_))
          all_goals refine JC.ret ?_
          all_goals (skip)
          all_goals exact JE.bI rfl (RV.tmp rfl) (RV.tmp rfl) fun w' hw=>⟨rfl,hw.aS⟩
theorem rQ : aO Tryz.prog 29:=⟨_,Tryz.func29,rfl,by kernel_rfl⟩
def zE (S0 : List Nat) (b : Nat) (r : Po × List Bt) (O : List Bt) (w : World) : Ending→World→Prop:=fun e w'=>∃ z : Tw,(z.ok∧z.is r.1 (O++(r.2++[13,10])))∧e=.returned (.bool (decide (r.1.st=4)))∧aa w S0 (z.E b) w'
set_option maxHeartbeats 32000000 in
theorem qx (b : Nat) (z : Tw) (S : Po) (O : List Bt) (ok : z.ok) (hs : z.is S O) (h3 : S.st≤3) (h10 : S.to.length≤10) (hcold : S.st=0→S.fr=[]∧S.to=[]) (l : List Bt) (hl : l.length<1000000) (hO : O.length<100000000) (w : World) (h0 : aa w (keys (z.E b)) (z.E b) w) : Calls Tryz.prog 29 [Pt b 0,Z l].toArray w (zE (keys (z.E b)) b (aZ S l) O w):=by
  rw [← xN]
  generalize hS : keys (z.E b)=S0 at h0 ⊢
  have ho : z.out.length<100000000:=by rw [hs.out];exact hO
  have h5n : S.st≠5:=by omega
  have h4n : S.st≠4:=by omega
  obtain ⟨hst0,hfr,hto⟩:=hs.op h5n
  have hst : z.st=S.st:=by rw [hst0,if_neg h4n]
  have c5 : decide (S.st=5)=false:=decide_eq_false h5n
  have c4 : decide (S.st=4)=false:=decide_eq_false h4n
  have same : ∀ y : List Bt,Tw.is { z with out:=z.out++(y++[13,10]) } S (O++(y++[13,10])):=fun y=>⟨congrArg (·++_) hs.out,hs.ms,hs.cl,hs.op⟩
  have ok1 : ∀ y : List Bt,Tw.ok { z with out:=z.out++(y++[13,10]) }:=fun y=>⟨ok.t,ok.m⟩
  have cM:=fun w'=>dD l aP Bo (by omega) w'
  have cR:=fun w'=>dD l aK Bp (by omega) w'
  have cHb:=fun w'=>dD l u7 Ch (by omega) w'
  have cH:=fun w'=>dD l bP Bn (by omega) w'
  have cQ:=fun w'=>dD l bu zD (by omega) w'
  have cT:=fun w'=>dD l dh zC (by omega) w'
  have cD:=fun w'=>dD l bA zB (by omega) w'
  have cB:=fun w'=>qv l w' (by omega)
  refine enter (n:=144) Tryz.func29 rfl rfl rfl h0 ?_
  cases h512 : decide ((512 : Int)<(l.length : Nat)) with
  | true=>
    rw [show lS S l=(S,eX) from if_pos (by have:=of_decide_eq_true h512;omega)]
    repeat (first | refine JL.q (by first|(apply OQ.bC;exact Tryz.underlying9;rfl)|(apply OQ.cW (b:=512);rfl;rfl;exact h512)|(apply OQ.move;rfl)|(apply OQ.assign;rfl)) rfl ?_ | refine JC.seq ?_ | refine JC.region ?_ | refine JL.nil ?_ | refine JE.next ?_)
    refine JC.cond_true rfl rfl ?_
    repeat (first | refine JL.q (by (apply OQ.move;rfl)) rfl ?_ | refine JC.seq ?_ | refine JC.region ?_)
    refine JL.qB eX (by show z.out.length+8<_;omega) rfl rfl rfl ?_
    repeat (first | refine JL.q (by (apply OQ.assign;rfl)) rfl ?_ | refine JC.seq ?_ | refine JC.region ?_ | refine JL.nil ?_ | refine JE.next ?_)
    refine JC.ret ?_
    repeat (refine JE.ah ?_)
    exact JE.aC rfl (RV.tmp rfl) fun w' hw=>⟨_,⟨ok1 eX,same eX⟩,(by rw [show decide (S.st=4)=false from c4]),hw⟩
  | false=>
    have hl5 : ¬ 512<l.length:=by have:=of_decide_eq_false h512;omega
    repeat (first | refine JL.q (by first|(apply OQ.bC;exact Tryz.underlying9;rfl)|(apply OQ.cW (b:=512);rfl;rfl;exact h512)|(apply OQ.move;rfl)|(apply OQ.assign;rfl)) rfl ?_ | refine JC.seq ?_ | refine JC.region ?_ | refine JL.nil ?_ | refine JE.next ?_)
    refine JC.cond_false rfl rfl ?_
    cases hM : ax aP l with
    | true=>
      simp only [hM] at cM
      have hR : lS S l=bW S (l.drop 10):=by unfold lS;rw [if_neg hl5,if_pos hM]
      rw [hR]
      have h10l : 10≤l.length:=by
        unfold ax at hM
        rw [Bool.and_eq_true,decide_eq_true_iff] at hM
        exact hM.1
      have cA:=fun w'=>gf (l.drop 10) (by rw [List.length_drop];omega) w'
      have hA:=s7 (l.drop 10)
      unfold bW
      cases ha : ep (l.drop 10) with
      | none=>
        rw [ha] at hA
        dsimp only at hA ⊢
        generalize (gN (l.drop 10)).1=x at cA
        rw [hA] at cA
        repeat (first | refine JL.q (by first|(apply OQ.an (vs:=[Z l,Z aP]);exact aY;rfl;exact (fun w' _=>cM w'))|(apply OQ.move;rfl)) rfl ?_ | refine JC.seq ?_ | refine JC.region ?_ | refine JC.skip ?_ | refine JL.nil ?_ | refine JE.next ?_)
        refine JC.cond_true rfl rfl ?_
        repeat (first | refine JL.q (by first|(apply OQ.cc (i:=10);exact Tryz.underlying9;rfl;rfl;exact h10l)|(apply OQ.an (vs:=[Z (l.drop 10)]);exact dc;rfl;exact (fun w' _=>cA w'))|(apply OQ.extract;rfl;rfl)|(apply OQ.not;rfl)|(apply OQ.move;rfl)|(apply OQ.assign;rfl)) rfl ?_ | refine JC.seq ?_ | refine JC.region ?_ | refine JL.nil ?_ | refine JE.next ?_)
        refine JC.cond_true rfl rfl ?_
        repeat (first | refine JL.q (by (apply OQ.move;rfl)) rfl ?_ | refine JC.region ?_)
        refine JL.qB dW (by show z.out.length+8<_;omega) rfl rfl rfl ?_
        repeat (first | refine JL.q (by (apply OQ.assign;rfl)) rfl ?_ | refine JC.seq ?_ | refine JC.region ?_ | refine JL.nil ?_ | refine JE.next ?_)
        refine JC.ret ?_
        repeat (refine JE.ah ?_)
        exact JE.aC rfl (RV.tmp rfl) fun w' hw=>⟨_,⟨ok1 dW,same dW⟩,(by rw [show decide (S.st=4)=false from c4]),hw⟩
      | some a=>
        rw [ha] at hA
        dsimp only at hA ⊢
        rw [hA] at cA
        cases h1 : decide (z.st=1) with
        | false=>
          rw [if_neg (fun e=>of_decide_eq_false h1 (hst.trans e))]
          repeat (first | refine JL.q (by first|(apply OQ.an (vs:=[Z l,Z aP]);exact aY;rfl;exact (fun w' _=>cM w'))|(apply OQ.move;rfl)) rfl ?_ | refine JC.seq ?_ | refine JC.region ?_ | refine JC.skip ?_ | refine JL.nil ?_ | refine JE.next ?_)
          refine JC.cond_true rfl rfl ?_
          repeat (first | refine JL.q (by first|(apply OQ.cc (i:=10);exact Tryz.underlying9;rfl;rfl;exact h10l)|(apply OQ.an (vs:=[Z (l.drop 10)]);exact dc;rfl;exact (fun w' _=>cA w'))|(apply OQ.extract;rfl;rfl)|(apply OQ.not;rfl)|(apply OQ.move;rfl)|(apply OQ.assign;rfl)) rfl ?_ | refine JC.seq ?_ | refine JC.region ?_ | refine JL.nil ?_ | refine JE.next ?_)
          refine JC.cond_false rfl rfl ?_
          repeat (first | refine JL.q (by first|(apply OQ.load;exact cX;rfl;exact .here;exact (Row.cell (v:=N z.st) rfl))|(apply OQ.ek (b:=1);rfl;rfl;exact h1)|(apply OQ.move;rfl)|(apply OQ.aV;rfl)|(apply OQ.bG;rfl;rfl;rfl;exact (by decide);rfl)) rfl ?_ | refine JC.seq ?_ | refine JC.region ?_ | refine JL.nil ?_ | refine JE.next ?_)
          refine JC.cond_true rfl rfl ?_
          repeat (first | refine JL.q (by (apply OQ.move;rfl)) rfl ?_ | refine JC.region ?_)
          refine JL.qB cy (by show z.out.length+9<_;omega) rfl rfl rfl ?_
          repeat (first | refine JL.q (by (apply OQ.assign;rfl)) rfl ?_ | refine JC.seq ?_ | refine JC.region ?_ | refine JL.nil ?_ | refine JE.next ?_)
          refine JC.ret ?_
          repeat (refine JE.ah ?_)
          exact JE.aC rfl (RV.tmp rfl) fun w' hw=>⟨_,⟨ok1 cy,same cy⟩,(by rw [show decide (S.st=4)=false from c4]),hw⟩
        | true=>
          rw [if_pos (hst.symm.trans (of_decide_eq_true h1))]
          repeat (first | refine JL.q (by first|(apply OQ.an (vs:=[Z l,Z aP]);exact aY;rfl;exact (fun w' _=>cM w'))|(apply OQ.move;rfl)) rfl ?_ | refine JC.seq ?_ | refine JC.region ?_ | refine JC.skip ?_ | refine JL.nil ?_ | refine JE.next ?_)
          refine JC.cond_true rfl rfl ?_
          repeat (first | refine JL.q (by first|(apply OQ.cc (i:=10);exact Tryz.underlying9;rfl;rfl;exact h10l)|(apply OQ.an (vs:=[Z (l.drop 10)]);exact dc;rfl;exact (fun w' _=>cA w'))|(apply OQ.extract;rfl;rfl)|(apply OQ.not;rfl)|(apply OQ.move;rfl)|(apply OQ.assign;rfl)) rfl ?_ | refine JC.seq ?_ | refine JC.region ?_ | refine JL.nil ?_ | refine JE.next ?_)
          refine JC.cond_false rfl rfl ?_
          repeat (first | refine JL.q (by first|(apply OQ.load;exact cX;rfl;exact .here;exact (Row.cell (v:=N z.st) rfl))|(apply OQ.ek (b:=1);rfl;rfl;exact h1)|(apply OQ.move;rfl)|(apply OQ.aV;rfl)|(apply OQ.bG;rfl;rfl;rfl;exact (by decide);rfl)) rfl ?_ | refine JC.seq ?_ | refine JC.region ?_ | refine JL.nil ?_ | refine JE.next ?_)
          refine JC.cond_false rfl rfl ?_
          repeat (first | refine JL.q (by first|(apply OQ.move;rfl)|(apply OQ.aV;rfl)|(apply OQ.bG;rfl;rfl;rfl;exact (by decide);rfl)) rfl ?_ | refine JC.seq ?_ | refine JC.region ?_)
          refine JL.B3 a rfl rfl ?_
          repeat (first | refine JL.q (by first|(apply OQ.move;rfl)|(apply OQ.aV;rfl)|(apply OQ.bG;rfl;rfl;rfl;exact (by decide);rfl)) rfl ?_ | refine JC.seq ?_ | refine JC.region ?_ | refine JL.nil ?_ | refine JE.next ?_)
          refine JL.BR (z:={ z with fr:=a }) 2 rfl rfl ?_
          repeat (first | refine JL.q (by (apply OQ.move;rfl)) rfl ?_ | refine JC.region ?_ | refine JL.nil ?_ | refine JE.next ?_)
          refine JL.qB (z:={ z with fr:=a,st:=2 }) fc (by show z.out.length+6<_;omega) rfl rfl rfl ?_
          repeat (first | refine JL.q (by (apply OQ.assign;rfl)) rfl ?_ | refine JC.seq ?_ | refine JC.region ?_ | refine JL.nil ?_ | refine JE.next ?_)
          refine JC.ret ?_
          repeat (refine JE.ah ?_)
          exact JE.aC rfl (RV.tmp rfl) fun w' hw=>⟨{ z with fr:=a,st:=2,out:=z.out++(fc++[13,10]) },⟨⟨ok.t,ok.m⟩,⟨congrArg (·++_) hs.out,hs.ms,hs.cl.trans c5,fun _=>⟨rfl,rfl,hto⟩⟩⟩,rfl,hw⟩
    | false=>
      simp only [hM] at cM
      cases hR : ax aK l with
      | true=>
        simp only [hR] at cR
        rw [show lS S l=dP S (l.drop 8) by unfold lS;rw [if_neg hl5,if_neg (by rw [hM];simp),if_pos hR]]
        have h8l : 8≤l.length:=by
          unfold ax at hR
          rw [Bool.and_eq_true,decide_eq_true_iff] at hR
          exact hR.1
        have cA:=fun w'=>gf (l.drop 8) (by rw [List.length_drop];omega) w'
        have hA:=s7 (l.drop 8)
        unfold dP
        cases ha : ep (l.drop 8) with
        | none=>
          rw [ha] at hA
          dsimp only at hA ⊢
          generalize (gN (l.drop 8)).1=x at cA
          rw [hA] at cA
          repeat (first | refine JL.q (by first|(apply OQ.an (vs:=[Z l,Z aP]);exact aY;rfl;exact (fun w' _=>cM w'))|(apply OQ.move;rfl)) rfl ?_ | refine JC.seq ?_ | refine JC.region ?_ | refine JC.skip ?_ | refine JL.nil ?_ | refine JE.next ?_)
          refine JC.cond_false rfl rfl ?_
          repeat (first | refine JL.q (by first|(apply OQ.an (vs:=[Z l,Z aK]);exact aY;rfl;exact (fun w' _=>cR w'))|(apply OQ.move;rfl)) rfl ?_ | refine JC.seq ?_ | refine JC.region ?_ | refine JC.skip ?_ | refine JL.nil ?_ | refine JE.next ?_)
          refine JC.cond_true rfl rfl ?_
          repeat (first | refine JL.q (by first|(apply OQ.cc (i:=8);exact Tryz.underlying9;rfl;rfl;exact h8l)|(apply OQ.an (vs:=[Z (l.drop 8)]);exact dc;rfl;exact (fun w' _=>cA w'))|(apply OQ.extract;rfl;rfl)|(apply OQ.not;rfl)|(apply OQ.move;rfl)|(apply OQ.assign;rfl)) rfl ?_ | refine JC.seq ?_ | refine JC.region ?_ | refine JL.nil ?_ | refine JE.next ?_)
          refine JC.cond_true rfl rfl ?_
          repeat (first | refine JL.q (by (apply OQ.move;rfl)) rfl ?_ | refine JC.region ?_)
          refine JL.qB dW (by show z.out.length+8<_;omega) rfl rfl rfl ?_
          repeat (first | refine JL.q (by (apply OQ.assign;rfl)) rfl ?_ | refine JC.seq ?_ | refine JC.region ?_ | refine JL.nil ?_ | refine JE.next ?_)
          refine JC.ret ?_
          repeat (refine JE.ah ?_)
          exact JE.aC rfl (RV.tmp rfl) fun w' hw=>⟨_,⟨ok1 dW,same dW⟩,(by rw [show decide (S.st=4)=false from c4]),hw⟩
        | some a=>
          rw [ha] at hA
          dsimp only at hA ⊢
          rw [hA] at cA
          cases h1 : decide ((z.st : Int)<2) with
          | true=>
            have h1' : z.st<2:=by have:=of_decide_eq_true h1;omega
            rw [if_neg (by omega)]
            repeat (first | refine JL.q (by first|(apply OQ.an (vs:=[Z l,Z aP]);exact aY;rfl;exact (fun w' _=>cM w'))|(apply OQ.move;rfl)) rfl ?_ | refine JC.seq ?_ | refine JC.region ?_ | refine JC.skip ?_ | refine JL.nil ?_ | refine JE.next ?_)
            refine JC.cond_false rfl rfl ?_
            repeat (first | refine JL.q (by first|(apply OQ.an (vs:=[Z l,Z aK]);exact aY;rfl;exact (fun w' _=>cR w'))|(apply OQ.move;rfl)) rfl ?_ | refine JC.seq ?_ | refine JC.region ?_ | refine JC.skip ?_ | refine JL.nil ?_ | refine JE.next ?_)
            refine JC.cond_true rfl rfl ?_
            repeat (first | refine JL.q (by first|(apply OQ.cc (i:=8);exact Tryz.underlying9;rfl;rfl;exact h8l)|(apply OQ.an (vs:=[Z (l.drop 8)]);exact dc;rfl;exact (fun w' _=>cA w'))|(apply OQ.extract;rfl;rfl)|(apply OQ.not;rfl)|(apply OQ.move;rfl)|(apply OQ.assign;rfl)) rfl ?_ | refine JC.seq ?_ | refine JC.region ?_ | refine JL.nil ?_ | refine JE.next ?_)
            refine JC.cond_false rfl rfl ?_
            repeat (first | refine JL.q (by first|(apply OQ.load;exact cX;rfl;exact .here;exact (Row.cell (v:=N z.st) rfl))|(apply OQ.dV (b:=2);rfl;rfl;exact h1)|(apply OQ.move;rfl)|(apply OQ.aV;rfl)|(apply OQ.bG;rfl;rfl;rfl;exact (by decide);rfl)) rfl ?_ | refine JC.seq ?_ | refine JC.region ?_ | refine JL.nil ?_ | refine JE.next ?_)
            refine JC.cond_true rfl rfl ?_
            repeat (first | refine JL.q (by (apply OQ.move;rfl)) rfl ?_ | refine JC.region ?_)
            refine JL.qB cy (by show z.out.length+9<_;omega) rfl rfl rfl ?_
            repeat (first | refine JL.q (by (apply OQ.assign;rfl)) rfl ?_ | refine JC.seq ?_ | refine JC.region ?_ | refine JL.nil ?_ | refine JE.next ?_)
            refine JC.ret ?_
            repeat (refine JE.ah ?_)
            exact JE.aC rfl (RV.tmp rfl) fun w' hw=>⟨_,⟨ok1 cy,same cy⟩,(by rw [show decide (S.st=4)=false from c4]),hw⟩
          | false=>
            have h1' : ¬ z.st<2:=by have:=of_decide_eq_false h1;omega
            rw [if_pos (by omega)]
            cases hten : decide (z.to.length=10) with
            | true=>
              rw [if_pos (by rw [← hto];exact of_decide_eq_true hten)]
              repeat (first | refine JL.q (by first|(apply OQ.an (vs:=[Z l,Z aP]);exact aY;rfl;exact (fun w' _=>cM w'))|(apply OQ.move;rfl)) rfl ?_ | refine JC.seq ?_ | refine JC.region ?_ | refine JC.skip ?_ | refine JL.nil ?_ | refine JE.next ?_)
              refine JC.cond_false rfl rfl ?_
              repeat (first | refine JL.q (by first|(apply OQ.an (vs:=[Z l,Z aK]);exact aY;rfl;exact (fun w' _=>cR w'))|(apply OQ.move;rfl)) rfl ?_ | refine JC.seq ?_ | refine JC.region ?_ | refine JC.skip ?_ | refine JL.nil ?_ | refine JE.next ?_)
              refine JC.cond_true rfl rfl ?_
              repeat (first | refine JL.q (by first|(apply OQ.cc (i:=8);exact Tryz.underlying9;rfl;rfl;exact h8l)|(apply OQ.an (vs:=[Z (l.drop 8)]);exact dc;rfl;exact (fun w' _=>cA w'))|(apply OQ.extract;rfl;rfl)|(apply OQ.not;rfl)|(apply OQ.move;rfl)|(apply OQ.assign;rfl)) rfl ?_ | refine JC.seq ?_ | refine JC.region ?_ | refine JL.nil ?_ | refine JE.next ?_)
              refine JC.cond_false rfl rfl ?_
              repeat (first | refine JL.q (by first|(apply OQ.load;exact cX;rfl;exact .here;exact (Row.cell (v:=N z.st) rfl))|(apply OQ.dV (b:=2);rfl;rfl;exact h1)|(apply OQ.move;rfl)|(apply OQ.aV;rfl)|(apply OQ.bG;rfl;rfl;rfl;exact (by decide);rfl)) rfl ?_ | refine JC.seq ?_ | refine JC.region ?_ | refine JL.nil ?_ | refine JE.next ?_)
              refine JC.cond_false rfl rfl ?_
              repeat (first | refine JL.q (by first|(apply OQ.load;exact b7;rfl;exact .here;exact (Row.cell (v:=ak z.qt z.to.length) rfl))|(apply OQ.ir;exact Tryz.underlying30;exact (fun h=>congrArg List.length (ok.t h));rfl)|(apply OQ.dB (b:=10);rfl;rfl;exact hten)|(apply OQ.move;rfl)|(apply OQ.aV;rfl)|(apply OQ.bG;rfl;rfl;rfl;exact (by decide);rfl)) rfl ?_ | refine JC.seq ?_ | refine JC.region ?_ | refine JL.nil ?_ | refine JE.next ?_)
              refine JC.cond_true rfl rfl ?_
              repeat (first | refine JL.q (by (apply OQ.move;rfl)) rfl ?_ | refine JC.region ?_)
              refine JL.qB rZ (by show z.out.length+8<_;omega) rfl rfl rfl ?_
              repeat (first | refine JL.q (by (apply OQ.assign;rfl)) rfl ?_ | refine JC.seq ?_ | refine JC.region ?_ | refine JL.nil ?_ | refine JE.next ?_)
              refine JC.ret ?_
              repeat (refine JE.ah ?_)
              exact JE.aC rfl (RV.tmp rfl) fun w' hw=>⟨_,⟨ok1 rZ,same rZ⟩,(by rw [show decide (S.st=4)=false from c4]),hw⟩
            | false=>
              rw [if_neg (by rw [← hto];exact of_decide_eq_false hten)]
              have htl : z.to.length≤10:=by rw [hto];exact h10
              repeat (first | refine JL.q (by first|(apply OQ.an (vs:=[Z l,Z aP]);exact aY;rfl;exact (fun w' _=>cM w'))|(apply OQ.move;rfl)) rfl ?_ | refine JC.seq ?_ | refine JC.region ?_ | refine JC.skip ?_ | refine JL.nil ?_ | refine JE.next ?_)
              refine JC.cond_false rfl rfl ?_
              repeat (first | refine JL.q (by first|(apply OQ.an (vs:=[Z l,Z aK]);exact aY;rfl;exact (fun w' _=>cR w'))|(apply OQ.move;rfl)) rfl ?_ | refine JC.seq ?_ | refine JC.region ?_ | refine JC.skip ?_ | refine JL.nil ?_ | refine JE.next ?_)
              refine JC.cond_true rfl rfl ?_
              repeat (first | refine JL.q (by first|(apply OQ.cc (i:=8);exact Tryz.underlying9;rfl;rfl;exact h8l)|(apply OQ.an (vs:=[Z (l.drop 8)]);exact dc;rfl;exact (fun w' _=>cA w'))|(apply OQ.extract;rfl;rfl)|(apply OQ.not;rfl)|(apply OQ.move;rfl)|(apply OQ.assign;rfl)) rfl ?_ | refine JC.seq ?_ | refine JC.region ?_ | refine JL.nil ?_ | refine JE.next ?_)
              refine JC.cond_false rfl rfl ?_
              repeat (first | refine JL.q (by first|(apply OQ.load;exact cX;rfl;exact .here;exact (Row.cell (v:=N z.st) rfl))|(apply OQ.dV (b:=2);rfl;rfl;exact h1)|(apply OQ.move;rfl)|(apply OQ.aV;rfl)|(apply OQ.bG;rfl;rfl;rfl;exact (by decide);rfl)) rfl ?_ | refine JC.seq ?_ | refine JC.region ?_ | refine JL.nil ?_ | refine JE.next ?_)
              refine JC.cond_false rfl rfl ?_
              repeat (first | refine JL.q (by first|(apply OQ.load;exact b7;rfl;exact .here;exact (Row.cell (v:=ak z.qt z.to.length) rfl))|(apply OQ.ir;exact Tryz.underlying30;exact (fun h=>congrArg List.length (ok.t h));rfl)|(apply OQ.dB (b:=10);rfl;rfl;exact hten)|(apply OQ.move;rfl)|(apply OQ.aV;rfl)|(apply OQ.bG;rfl;rfl;rfl;exact (by decide);rfl)) rfl ?_ | refine JC.seq ?_ | refine JC.region ?_ | refine JL.nil ?_ | refine JE.next ?_)
              refine JC.cond_false rfl rfl ?_
              repeat (first | refine JL.q (by first|(apply OQ.load;exact b7;rfl;exact .here;exact (Row.cell (v:=ak z.qt z.to.length) rfl))|(apply OQ.move;rfl)|(apply OQ.aV;rfl)|(apply OQ.bG;rfl;rfl;rfl;exact (by decide);rfl)) rfl ?_ | refine JC.seq ?_ | refine JC.region ?_)
              refine JL.lV (v:=Z a) Tryz.underlying30 kW rfl rfl rfl rfl fun bl _=>?_
              refine JL.perm (M':=⟨bl,Row 9 [Z a],true⟩::(z.T++(⟨b,Row 33 z.cs,true⟩::z.M))) ?_ (bg fun _ _ v=>by simp only [Tw.E,List.count_append,List.count_cons];omega)
              refine JL.nB (p:=a) z.qt Tryz.underlying30 kW ok.t rfl rfl rfl (by omega) (by omega) rfl fun b1 cap1=>?_
              refine JL.perm (M':=⟨b,Row 33 z.cs,true⟩::(aL 9 (some (b1,cap1)) ((z.to++[a]).map Z)++z.M)) ?_ (bg fun _ _ v=>by simp only [List.count_append,List.count_cons];omega)
              repeat (refine JL.q (by first|(apply OQ.aV;rfl)|(apply OQ.bG;rfl;rfl;rfl;exact (by decide);rfl)) rfl ?_)
              refine JL.B4 (some (b1,cap1)) (z.to++[a]) rfl rfl ?_
              repeat (first | refine JL.q (by first|(apply OQ.move;rfl)|(apply OQ.aV;rfl)|(apply OQ.bG;rfl;rfl;rfl;exact (by decide);rfl)) rfl ?_ | refine JC.seq ?_ | refine JC.region ?_ | refine JL.nil ?_ | refine JE.next ?_)
              refine JL.BR (z:={ z with qt:=some (b1,cap1),to:=z.to++[a] }) 3 rfl rfl ?_
              repeat (first | refine JL.q (by (apply OQ.move;rfl)) rfl ?_ | refine JC.region ?_ | refine JL.nil ?_ | refine JE.next ?_)
              refine JL.qB (z:={ z with qt:=some (b1,cap1),to:=z.to++[a],st:=3 }) fc (by show z.out.length+6<_;omega) rfl rfl rfl ?_
              repeat (first | refine JL.q (by (apply OQ.assign;rfl)) rfl ?_ | refine JC.seq ?_ | refine JC.region ?_ | refine JL.nil ?_ | refine JE.next ?_)
              refine JC.ret ?_
              repeat (refine JE.ah ?_)
              exact JE.aC rfl (RV.tmp rfl) fun w' hw=>⟨{ z with qt:=some (b1,cap1),to:=z.to++[a],st:=3,out:=z.out++(fc++[13,10]) },⟨⟨nofun,ok.m⟩,⟨congrArg (·++_) hs.out,hs.ms,hs.cl.trans c5,fun _=>⟨rfl,hfr,congrArg (·++[a]) hto⟩⟩⟩,rfl,hw⟩
      | false=>
        simp only [hR] at cR
        repeat (first | refine JL.q (by first|(apply OQ.an (vs:=[Z l,Z aP]);exact aY;rfl;exact (fun w' _=>cM w'))|(apply OQ.move;rfl)) rfl ?_ | refine JC.seq ?_ | refine JC.region ?_ | refine JC.skip ?_ | refine JL.nil ?_ | refine JE.next ?_)
        refine JC.cond_false rfl rfl ?_
        repeat (first | refine JL.q (by first|(apply OQ.an (vs:=[Z l,Z aK]);exact aY;rfl;exact (fun w' _=>cR w'))|(apply OQ.move;rfl)) rfl ?_ | refine JC.seq ?_ | refine JC.region ?_ | refine JC.skip ?_ | refine JL.nil ?_ | refine JE.next ?_)
        refine JC.cond_false rfl rfl ?_
        cases hHb : ax u7 l with
        | true=>
          simp only [hHb] at cHb
          rw [show lS S l=(cg S 1,fc) by unfold lS;rw [if_neg hl5,if_neg (by rw [hM];simp),if_neg (by rw [hR];simp),if_pos hHb]]
          repeat (first | refine JL.q (by first|(apply OQ.an (vs:=[Z l,Z u7]);exact aY;rfl;exact (fun w' _=>cHb w'))|(apply OQ.move;rfl)) rfl ?_ | refine JC.seq ?_ | refine JC.region ?_ | refine JC.skip ?_ | refine JL.nil ?_ | refine JE.next ?_)
          refine JC.cond_true rfl rfl ?_
          repeat (first | refine JL.q (by (apply OQ.move;rfl)) rfl ?_ | refine JC.seq ?_ | refine JC.region ?_)
          refine JL.s6 1 rfl rfl rfl fun b2=>?_
          repeat (first | refine JL.q (by (apply OQ.move;rfl)) rfl ?_ | refine JC.seq ?_ | refine JC.region ?_ | refine JL.nil ?_ | refine JE.next ?_)
          refine JL.qB (z:=z.cg 1 b2) fc (by show z.out.length+6<_;omega) rfl rfl rfl ?_
          repeat (first | refine JL.q (by (apply OQ.assign;rfl)) rfl ?_ | refine JC.seq ?_ | refine JC.region ?_ | refine JL.nil ?_ | refine JE.next ?_)
          refine JC.ret ?_
          repeat (refine JE.ah ?_)
          exact JE.aC rfl (RV.tmp rfl) fun w' hw=>⟨{ z.cg 1 b2 with out:=z.out++(fc++[13,10]) },⟨⟨nofun,ok.m⟩,⟨congrArg (·++_) hs.out,hs.ms,hs.cl.trans c5,fun _=>⟨rfl,rfl,rfl⟩⟩⟩,rfl,hw.weak (.keep _ _ _ _ _ _ (fun _ h=>h) (.keep _ _ _ _ _ _ (fun _ h=>h) (c7 _ (aq.refl _))))⟩
        | false=>
          simp only [hHb] at cHb
          repeat (first | refine JL.q (by first|(apply OQ.an (vs:=[Z l,Z u7]);exact aY;rfl;exact (fun w' _=>cHb w'))|(apply OQ.move;rfl)) rfl ?_ | refine JC.seq ?_ | refine JC.region ?_ | refine JC.skip ?_ | refine JL.nil ?_ | refine JE.next ?_)
          refine JC.cond_false rfl rfl ?_
          repeat (first | refine JL.q (by first|(apply OQ.an (vs:=[Z l]);exact mZ;rfl;exact (fun w' _=>cB w'))|(apply OQ.move;rfl)|(apply OQ.assign;rfl)) rfl ?_ | refine JC.seq ?_ | refine JC.region ?_ | refine JC.skip ?_ | refine JL.nil ?_ | refine JE.next ?_)
          obtain ⟨u,hu⟩ : ∃ u,l.map fA=u:=⟨_,rfl⟩
          rw [hu]
          have hR0 : lS S l=(if u=bu then (cg S 5,oA) else if u=dh then dj S [] else if u=bA then dy S [] else if ax bP l=true∨ax bu l=true∨ax dh l=true∨ax bA l=true then (S,dW) else (S,eX)):=by
            unfold lS
            rw [if_neg hl5,if_neg (by rw [hM];simp),if_neg (by rw [hR];simp),if_neg (by rw [hHb];simp),hu]
          rw [hR0]
          clear hR0 hu cB cM cR cHb
          cases uQ : decide (u=bu) with
          | true=>
            rw [if_pos (of_decide_eq_true uQ)]
            repeat (first | refine JL.q (by (apply OQ.fX (l:=u) (r:=bu);rfl;rfl;exact uQ)) rfl ?_ | refine JL.nil ?_ | refine JE.next ?_)
            refine JC.cond_true rfl rfl ?_
            repeat (first | refine JL.q (by first|(apply OQ.move;rfl)|(apply OQ.aV;rfl)|(apply OQ.bG;rfl;rfl;rfl;exact (by decide);rfl)) rfl ?_ | refine JC.seq ?_ | refine JC.region ?_)
            refine JL.Ci true rfl rfl ?_
            repeat (first | refine JL.q (by (apply OQ.move;rfl)) rfl ?_ | refine JC.region ?_ | refine JL.nil ?_ | refine JE.next ?_)
            refine JL.qB (z:={ z with cl:=true }) oA (by show z.out.length+7<_;omega) rfl rfl rfl ?_
            repeat (first | refine JL.q (by (apply OQ.assign;rfl)) rfl ?_ | refine JC.seq ?_ | refine JC.region ?_ | refine JL.nil ?_ | refine JE.next ?_)
            refine JC.ret ?_
            skip
            exact JE.aC rfl (RV.tmp rfl) fun w' hw=>⟨{ z with cl:=true,out:=z.out++(oA++[13,10]) },⟨⟨ok.t,ok.m⟩,⟨congrArg (·++_) hs.out,hs.ms,rfl,fun h=>absurd rfl h⟩⟩,rfl,hw⟩
          | false=>
            rw [if_neg (of_decide_eq_false uQ)]
            repeat (first | refine JL.q (by (apply OQ.fX (l:=u) (r:=bu);rfl;rfl;exact uQ)) rfl ?_ | refine JL.nil ?_ | refine JE.next ?_)
            refine JC.cond_false rfl rfl ?_
            cases uT : decide (u=dh) with
            | true=>
              rw [if_pos (of_decide_eq_true uT)]
              repeat (first | refine JL.q (by first|(apply OQ.fX (l:=u) (r:=dh);rfl;rfl;exact uT)|(apply OQ.move;rfl)) rfl ?_ | refine JC.seq ?_ | refine JC.region ?_ | refine JL.nil ?_ | refine JE.next ?_)
              refine JC.cond_true rfl rfl ?_
              repeat (first | refine JL.q (by first|(apply OQ.load;exact cX;rfl;exact .here;exact (Row.cell (v:=N z.st) rfl))|(apply OQ.AO (a:=z.st) (c:=1);rfl;rfl)|(apply OQ.move;rfl)|(apply OQ.aV;rfl)|(apply OQ.bG;rfl;rfl;rfl;exact (by decide);rfl)) rfl ?_ | refine JC.seq ?_ | refine JC.region ?_)
              refine JL.s6 (min z.st 1) rfl rfl rfl fun b2=>?_
              repeat (first | refine JL.q (by (apply OQ.move;rfl)) rfl ?_ | refine JC.region ?_ | refine JL.nil ?_ | refine JE.next ?_)
              refine JL.qB (z:=z.cg (min z.st 1) b2) fc (by show z.out.length+6<_;omega) rfl rfl rfl ?_
              repeat (first | refine JL.q (by (apply OQ.assign;rfl)) rfl ?_ | refine JC.seq ?_ | refine JC.region ?_ | refine JL.nil ?_ | refine JE.next ?_)
              refine JC.ret ?_
              skip
              have hrs : dj S []=(⟨min S.st 1,[],[],S.ln,(if S.st=0 then S.dt else []),S.ms⟩,fc):=by
                unfold dj
                rw [if_pos rfl]
                by_cases h00 : S.st=0
                · rw [if_pos h00,if_pos h00,h00]
                  obtain ⟨g1,g2⟩:=hcold h00
                  show (S,fc)=_
                  rw [← g1]
                  conv=>rhs;rw [g1]
                  cases S
                  simp_all
                · rw [if_neg h00,if_neg h00,show min S.st 1=1 by omega]
                  rfl
              rw [hrs]
              have hm5 : min S.st 1≠5:=by omega
              refine JE.aC rfl (RV.tmp rfl) fun w' hw=>⟨{ z.cg (min z.st 1) b2 with out:=z.out++(fc++[13,10]) },⟨⟨nofun,ok.m⟩,⟨congrArg (·++_) hs.out,hs.ms,hs.cl.trans (c5.trans (decide_eq_false hm5).symm),fun _=>⟨?_,rfl,rfl⟩⟩⟩,?_,hw.weak (.keep _ _ _ _ _ _ (fun _ h=>h) (.keep _ _ _ _ _ _ (fun _ h=>h) (c7 _ (aq.refl _))))⟩
              · show min z.st 1=(if min S.st 1=4 then 3 else min S.st 1)
                rw [if_neg (by omega),hst]
              · rw [show decide (min S.st 1=4)=false from decide_eq_false (by omega)]
            | false=>
              rw [if_neg (of_decide_eq_false uT)]
              repeat (first | refine JL.q (by first|(apply OQ.fX (l:=u) (r:=dh);rfl;rfl;exact uT)|(apply OQ.move;rfl)) rfl ?_ | refine JC.seq ?_ | refine JC.region ?_ | refine JL.nil ?_ | refine JE.next ?_)
              refine JC.cond_false rfl rfl ?_
              cases uD : decide (u=bA) with
              | true=>
                rw [if_pos (of_decide_eq_true uD)]
                unfold dy
                rw [if_pos rfl]
                cases h33 : decide (z.st=3) with
                | true=>
                  rw [if_pos (hst.symm.trans (of_decide_eq_true h33))]
                  repeat (first | refine JL.q (by first|(apply OQ.fX (l:=u) (r:=bA);rfl;rfl;exact uD)|(apply OQ.load;exact cX;rfl;exact .here;exact (Row.cell (v:=N z.st) rfl))|(apply OQ.dB (b:=3);rfl;rfl;exact h33)|(apply OQ.ay;rfl;rfl)|(apply OQ.move;rfl)|(apply OQ.aV;rfl)|(apply OQ.bG;rfl;rfl;rfl;exact (by decide);rfl)) rfl ?_ | refine JC.seq ?_ | refine JC.region ?_ | refine JL.nil ?_ | refine JE.next ?_ | refine JL.aU rfl rfl ?_)
                  refine JC.cond_true rfl rfl ?_
                  repeat (first | refine JL.q (by (apply OQ.move;rfl)) rfl ?_ | refine JC.seq ?_ | refine JC.region ?_)
                  refine JL.qB AD (by show z.out.length+6<_;omega) rfl rfl rfl ?_
                  repeat (first | refine JL.q (by (apply OQ.assign;rfl)) rfl ?_ | refine JC.seq ?_ | refine JC.region ?_ | refine JL.nil ?_ | refine JE.next ?_)
                  refine JC.ret ?_
                  repeat (refine JE.ah ?_)
                  exact JE.aC rfl (RV.tmp rfl) fun w' hw=>⟨{ z with out:=z.out++(AD++[13,10]) },⟨⟨ok.t,ok.m⟩,⟨congrArg (·++_) hs.out,hs.ms,hs.cl.trans c5,fun _=>⟨of_decide_eq_true h33,hfr,hto⟩⟩⟩,rfl,hw⟩
                | false=>
                  rw [if_neg (fun e=>of_decide_eq_false h33 (hst.trans e))]
                  repeat (first | refine JL.q (by first|(apply OQ.fX (l:=u) (r:=bA);rfl;rfl;exact uD)|(apply OQ.load;exact cX;rfl;exact .here;exact (Row.cell (v:=N z.st) rfl))|(apply OQ.dB (b:=3);rfl;rfl;exact h33)|(apply OQ.ay;rfl;rfl)|(apply OQ.move;rfl)|(apply OQ.aV;rfl)|(apply OQ.bG;rfl;rfl;rfl;exact (by decide);rfl)) rfl ?_ | refine JC.seq ?_ | refine JC.region ?_ | refine JL.nil ?_ | refine JE.next ?_ | refine JL.aU rfl rfl ?_)
                  refine JC.cond_false rfl rfl ?_
                  repeat (first | refine JL.q (by first|(apply OQ.fX (l:=u) (r:=bA);rfl;rfl;exact uD)|(apply OQ.move;rfl)) rfl ?_ | refine JC.seq ?_ | refine JC.region ?_ | refine JL.nil ?_ | refine JE.next ?_)
                  refine JC.cond_true rfl rfl ?_
                  repeat (first | refine JL.q (by (apply OQ.move;rfl)) rfl ?_ | refine JC.region ?_)
                  refine JL.qB cy (by show z.out.length+9<_;omega) rfl rfl rfl ?_
                  repeat (first | refine JL.q (by (apply OQ.assign;rfl)) rfl ?_ | refine JC.seq ?_ | refine JC.region ?_ | refine JL.nil ?_ | refine JE.next ?_)
                  refine JC.ret ?_
                  skip
                  exact JE.aC rfl (RV.tmp rfl) fun w' hw=>⟨_,⟨ok1 cy,same cy⟩,(by rw [show decide (S.st=4)=false from c4]),hw⟩
              | false=>
                rw [if_neg (of_decide_eq_false uD)]
                repeat (first | refine JL.q (by first|(apply OQ.fX (l:=u) (r:=bA);rfl;rfl;exact uD)|(apply OQ.au;rfl;rfl)|(apply OQ.move;rfl)) rfl ?_ | refine JC.seq ?_ | refine JC.region ?_ | refine JL.nil ?_ | refine JE.next ?_ | refine JL.aM rfl rfl rfl rfl ?_)
                refine JC.cond_false rfl rfl ?_
                repeat (first | refine JL.q (by first|(apply OQ.fX (l:=u) (r:=bA);rfl;rfl;exact uD)|(apply OQ.move;rfl)) rfl ?_ | refine JC.seq ?_ | refine JC.region ?_ | refine JL.nil ?_ | refine JE.next ?_)
                refine JC.cond_false rfl rfl ?_
                cases hH : ax bP l
                all_goals cases hQ : ax bu l
                all_goals cases hT : ax dh l
                all_goals cases hD : ax bA l
                all_goals simp only [hH,hQ,hT,hD] at cH cQ cT cD
                all_goals (repeat (first | refine JL.q (by first|(apply OQ.an (vs:=[Z l,Z bP]);exact aY;rfl;exact (fun w' _=>cH w'))|(apply OQ.an (vs:=[Z l,Z bu]);exact aY;rfl;exact (fun w' _=>cQ w'))|(apply OQ.an (vs:=[Z l,Z dh]);exact aY;rfl;exact (fun w' _=>cT w'))|(apply OQ.an (vs:=[Z l,Z bA]);exact aY;rfl;exact (fun w' _=>cD w'))|(apply OQ.ay;rfl;rfl)|(apply OQ.au;rfl;rfl)|(apply OQ.move;rfl)) rfl ?_ | refine JC.seq ?_ | refine JC.region ?_ | refine JL.nil ?_ | refine JE.next ?_ | refine JL.aU rfl rfl ?_ | refine JL.aM rfl rfl rfl rfl ?_))
                all_goals first
                  | (rw [if_pos (by simp)]
                     refine JC.cond_true rfl rfl ?_
                     (repeat (first | refine JL.q (by (apply OQ.move;rfl)) rfl ?_ | refine JC.region ?_))
                     refine JL.qB dW (by show z.out.length+8<_;omega) rfl rfl rfl ?_
                     (repeat (first | refine JL.q (by (apply OQ.assign;rfl)) rfl ?_ | refine JC.seq ?_ | refine JC.region ?_ | refine JL.nil ?_ | refine JE.next ?_))
                     refine JC.ret ?_
                     (skip)
                     exact JE.aC rfl (RV.tmp rfl) fun w' hw=>⟨_,⟨ok1 dW,same dW⟩,(by rw [show decide (S.st=4)=false from c4]),hw⟩)
                  | (rw [if_neg (by simp)]
                     refine JC.cond_false rfl rfl ?_
                     (repeat (first | refine JL.q (by (apply OQ.move;rfl)) rfl ?_ | refine JC.region ?_))
                     refine JL.qB eX (by show z.out.length+8<_;omega) rfl rfl rfl ?_
                     (repeat (first | refine JL.q (by (apply OQ.assign;rfl)) rfl ?_ | refine JC.seq ?_ | refine JC.region ?_ | refine JL.nil ?_ | refine JE.next ?_))
                     refine JC.ret ?_
                     (skip)
                     exact JE.aC rfl (RV.tmp rfl) fun w' hw=>⟨_,⟨ok1 eX,same eX⟩,(by rw [show decide (S.st=4)=false from c4]),hw⟩)
end dF
end
section
set_option maxRecDepth 10000
open Sl br
end
section
set_option maxRecDepth 10000
open Sl
namespace dF
open br (iA laidB fz)
theorem rR : aO Tryz.prog 15:=⟨_,Tryz.func15,rfl,by kernel_rfl⟩
theorem jY : aO Tryz.prog 17:=⟨_,Tryz.func17,rfl,by kernel_rfl⟩
theorem oq : aO Tryz.prog 43:=⟨_,Tryz.func43,rfl,by kernel_rfl⟩
theorem eW : aO Tryz.prog 42:=⟨_,Tryz.func42,rfl,by kernel_rfl⟩
theorem s8 (a : List Bt) : (gN ([60]++a++[62])).2=dX a:=by
  have e0 : ([60]++a++[62] : List Bt).length=a.length+2:=by simp
  have e1 : ([60]++a++[62] : List Bt).getD 0 0=60:=rfl
  have e2 : ([60]++a++[62] : List Bt).getD (a.length+1) 0=62:=by
    rw [List.getD_eq_getElem?_getD,List.getElem?_append_right (by simp)]
    simp
  have e3 : (([60]++a++[62] : List Bt).take (a.length+1)).drop 1=a:=by
    rw [List.take_left' (by simp)]
    rfl
  unfold gN
  rw [e0]
  rw [show a.length+2 - 1=a.length+1 from rfl,e1,e2,e3,if_neg (by simp)]
  rfl
def ot (fr : List Bt) (to : List (List Bt)) : Nat→List Bt
  | 0=>bP++[32]++jN++crlf
  | i+1=>preB fr++bU (to.take i)
def s9 (r : List Bt × Nat) (w : World) (e : Ending) (w' : World) : Prop:=∃ x : {x : aB // x.l=r.1∧(x.ad=none→x.l=[])},e=.returned (.tuple #[x.1.v,N r.2])∧aa w [] x.1.iS w'
theorem fO {c : Nat} {w w' : World} {M : List aN} (hw : aa w [] M w') : s9 ([],c) w (.returned (.tuple #[.slice none 0 0,N c])) w':=⟨⟨tJ,rfl,fun _=>rfl⟩,rfl,hw.weak (.nil _)⟩
structure Rs.good (m : Mr) (i : Nat) : Prop where
  le : i≤1+m.to.l.length
  f : 0<i→fits aP m.fr=true
  t : ∀ c ∈ m.to.l.take (i - 1),fits aK c=true
  o : (ot m.fr m.to.l i).length≤1100+1014 * i
set_option maxHeartbeats 32000000 in
theorem ve (m : Mr) (w : World) (hto : m.to.ok w) (hb : m.b.ok w) (hf : m.fr.length≤1000) (ht : m.to.l.length≤30) (h1k : ∀ s ∈ m.to.l,s.length≤1000) (hbl : m.b.l.length≤3000) :
    Calls Tryz.prog 15 [.agg m.cs.toArray].toArray w (s9 (cU m.fr m.to.l m.b.l) w):=by
  have hTl:=og m.b.l
  have hLl:=eP m.b.l
  refine enter (n:=83) Tryz.func15 rfl rfl rfl (aa.start w []) ?_
  repeat (first | refine JC.seq ?_ | refine JC.region ?_)
  refine JL.box (r:=m.cs) rfl rfl rfl fun b _=>?_
  repeat (first | refine JL.q (by first|(apply OQ.load;exact bJ;rfl;exact .here;exact (Row.cell (v:=Z m.fr) rfl))|(apply OQ.assign;rfl)|(apply OQ.bG;rfl;rfl;rfl;exact (by decide);rfl)) rfl ?_ | refine JC.seq ?_ | refine JC.region ?_ | refine JL.nil ?_ | refine JE.next ?_)
  refine JL.lX (xs:=[.tmp 12]) (vs:=[Z m.fr]) Tryz.underlying30 kW rfl rfl rfl rfl (by intro v hv;rw [List.mem_singleton.1 hv];rfl) rfl (by decide) (by decide) rfl fun b0 _=>?_
  repeat (refine JL.q (by first|(apply OQ.load;exact b7;rfl;exact (.there .here);exact (Row.cell (v:=m.to.v) rfl))|(apply OQ.bG;rfl;rfl;rfl;exact (by decide);rfl)) rfl ?_)
  refine JL.eY (M':=[⟨b0,Sl.aG 9 1 1 1 [Z m.fr],true⟩,⟨b,Row 38 m.cs,true⟩]) ?_ (.keep _ _ _ _ _ _ (fun o h=>⟨[],h,rfl,rfl,Nat.le_refl _⟩) (aq.refl _))
  refine JL.append (cs:=m.to.l.map Z) (m:=m.to.l.length) (ad:=m.to.ad) (sc:=m.to.cap) (fun b' cap'=>[⟨b',Sl.aG 9 1 (1+m.to.l.length) cap' ([Z m.fr]++m.to.l.map Z),true⟩,⟨b,Row 38 m.cs,true⟩]) Tryz.underlying30 kW rfl rfl (by intro _ _;repeat (first | exact az.here | apply az.there)) (by rw [List.length_map,Nat.mul_one]) (fun w' hw'=>(hto.holds hw' rfl).reads) (by intro v hv;obtain ⟨x,_,rfl⟩:=List.mem_map.1 hv;rfl) rfl (by decide) (by omega) (by omega) rfl fun bq cq=>?_
  have hcell0 : ([Z m.fr]++m.to.l.map Z)[0+0 * 1]?=some (Z m.fr):=rfl
  have hcellj : ∀ j (hj : j<m.to.l.length),([Z m.fr]++m.to.l.map Z)[0+(j+1) * 1]?=some (Z (m.to.l.getD j [])):=fun j hj=>by
    rw [Nat.zero_add,Nat.mul_one]
    show (m.to.l.map Z)[j]?=_
    exact cw Z [] hj
  repeat (first | refine JL.q (by (apply OQ.assign;rfl)) rfl ?_ | refine JC.seq ?_ | refine JC.region ?_ | refine JC.block ?_ | refine JL.nil ?_ | refine JE.next ?_)
  refine JC.loop (fun i : Nat=>[(1,Pt b 0),(4,Z (ot m.fr m.to.l i)),(5,.slice (some ⟨bq,0,none⟩) (1+m.to.l.length) cq),(6,N i)]) (fun _=>[⟨bq,Sl.aG 9 1 (1+m.to.l.length) cq ([Z m.fr]++m.to.l.map Z),true⟩,⟨b,Row 38 m.cs,true⟩]) (fun i=>1+m.to.l.length - i) (fun i=>Rs.good m i) 0 ⟨Nat.zero_le _,fun h=>by omega,by simp,by show 15≤_;omega⟩ (by repeat (first | exact af.nil | refine af.cons _ _ _ rfl ?_)) (aq.refl _) ?_
  rintro i ⟨hi,hff,htt,hol⟩
  repeat (first | refine JL.q (by first|(apply OQ.len (k:=1+m.to.l.length) (ad:=some ⟨bq,0,none⟩) (cap:=cq);exact Tryz.underlying30;rfl)|(apply OQ.dz (a:=i) (b:=1+m.to.l.length);rfl;rfl)|(apply OQ.move;rfl)) rfl ?_ | refine JC.seq ?_ | refine JC.region ?_ | refine JL.nil ?_ | refine JE.next ?_)
  refine JC.cond rfl (fun hh=>?_) (fun hh=>?_)
  · have hi' : i<1+m.to.l.length:=of_decide_eq_true hh
    clear hh hi
    cases i with
    | zero=>
      have ha : m.fr.length≤1000:=hf
      have hc:=hcell0
      have ho1 : ot m.fr m.to.l 0++(addressed aP m.fr++crlf)=ot m.fr m.to.l (0+1):=by
        show preB m.fr=preB m.fr++[]
        rw [List.append_nil]
      have cA:=fun w'=>gf ([60]++m.fr++[62]) (by simp only [List.length_append,List.length_cons,List.length_nil];omega) w'
      have hadr:=s8 m.fr
      generalize gN ([60]++m.fr++[62])=Y at cA hadr
      obtain ⟨y1,y2⟩:=Y
      dsimp only at cA hadr
      have k1 : (aK++[(60 : Bt)]).length=9:=rfl
      have k2 : (aK++[(60 : Bt)]++m.fr).length=9+(m.fr).length:=by rw [List.length_append,k1]
      have k3 : (aP++[(60 : Bt)]).length=11:=rfl
      have k4 : (aP++[(60 : Bt)]++m.fr).length=11+(m.fr).length:=by rw [List.length_append,k3]
      have k5 : ([60]++m.fr).length=1+(m.fr).length:=by rw [List.length_append];rfl
      have k6 : (addressed aP m.fr).length=10+(m.fr).length+2:=e8 _ _
      have k7 : (addressed aP m.fr++crlf).length=10+(m.fr).length+2+2:=by rw [List.length_append,k6];rfl
      cases hfs : fits aP m.fr with
      | false=>
        have hS : cU m.fr m.to.l m.b.l=([],3):=by unfold cU;rw [if_pos (.inl hfs)]
        rw [hS]
        cases hia : dX m.fr with
        | false=>
          rw [hia] at hadr
          subst hadr
          repeat (first | refine JL.q (by first|(apply OQ.bR (k:=.i64) (i:=0) (sz:=1);exact Tryz.underlying30;exact di;rfl;rfl;exact hi')|(apply OQ.load;exact bJ;rfl;exact .here;exact (Sl.aG.cell hc))|(apply OQ.bS (l:=aK++[60]) (r:=m.fr);rfl;rfl;exact (by rw [k1];omega))|(apply OQ.bS (l:=aK++[60]++m.fr) (r:=[62]);rfl;rfl;exact (by rw [k2];show _+1<_;omega))|(apply OQ.dB (b:=0);rfl;rfl;rfl)|(apply OQ.move;rfl)|(apply OQ.assign;rfl)) rfl ?_ | refine JC.seq ?_ | refine JC.region ?_ | refine JC.block ?_ | refine JC.skip ?_ | refine JL.nil ?_ | refine JE.next ?_)
          refine JC.cond_true rfl rfl ?_
          repeat (first | refine JL.q (by first|(apply OQ.bR (k:=.i64) (i:=0) (sz:=1);exact Tryz.underlying30;exact di;rfl;rfl;exact hi')|(apply OQ.load;exact bJ;rfl;exact .here;exact (Sl.aG.cell hc))|(apply OQ.bS (l:=aP++[60]) (r:=m.fr);rfl;rfl;exact (by rw [k3];omega))|(apply OQ.bS (l:=aP++[60]++m.fr) (r:=[62]);rfl;rfl;exact (by rw [k4];show _+1<_;omega))|(apply OQ.bS (l:=[60]) (r:=m.fr);rfl;rfl;exact (by show 1+_<_;omega))|(apply OQ.bS (l:=[60]++m.fr) (r:=[62]);rfl;rfl;exact (by rw [k5];show _+1<_;omega))|(apply OQ.an (vs:=[Z ([60]++m.fr++[62])]);exact eW;rfl;exact (fun w' _=>cA w'))|(apply OQ.extract;rfl;rfl)|(apply OQ.not;rfl)|(apply OQ.ay;rfl;rfl)|(apply OQ.move;rfl)|(apply OQ.assign;rfl)) rfl ?_ | refine JC.seq ?_ | refine JC.region ?_ | refine JL.nil ?_ | refine JE.next ?_ | refine JL.aM rfl rfl rfl rfl ?_)
          refine JC.cond_true rfl rfl ?_
          repeat (first | refine JL.q (by (apply OQ.assign;rfl)) rfl ?_ | refine JC.seq ?_ | refine JC.region ?_ | refine JL.nil ?_ | refine JE.next ?_)
          refine JC.ret ?_
          repeat (first | refine JE.ah ?_ | refine JE.aW ?_)
          exact JE.bI rfl (RV.tmp rfl) (RV.tmp rfl) fun w' hw=>fO hw
        | true=>
          rw [hia] at hadr
          subst hadr
          have h512 : decide ((512 : Int)<((addressed aP m.fr).length : Nat))=true:=by
            unfold fits at hfs
            rw [hia,Bool.and_true] at hfs
            have:=of_decide_eq_false hfs
            exact decide_eq_true (by omega)
          repeat (first | refine JL.q (by first|(apply OQ.bR (k:=.i64) (i:=0) (sz:=1);exact Tryz.underlying30;exact di;rfl;rfl;exact hi')|(apply OQ.load;exact bJ;rfl;exact .here;exact (Sl.aG.cell hc))|(apply OQ.bS (l:=aK++[60]) (r:=m.fr);rfl;rfl;exact (by rw [k1];omega))|(apply OQ.bS (l:=aK++[60]++m.fr) (r:=[62]);rfl;rfl;exact (by rw [k2];show _+1<_;omega))|(apply OQ.dB (b:=0);rfl;rfl;rfl)|(apply OQ.move;rfl)|(apply OQ.assign;rfl)) rfl ?_ | refine JC.seq ?_ | refine JC.region ?_ | refine JC.block ?_ | refine JC.skip ?_ | refine JL.nil ?_ | refine JE.next ?_)
          refine JC.cond_true rfl rfl ?_
          repeat (first | refine JL.q (by first|(apply OQ.bR (k:=.i64) (i:=0) (sz:=1);exact Tryz.underlying30;exact di;rfl;rfl;exact hi')|(apply OQ.load;exact bJ;rfl;exact .here;exact (Sl.aG.cell hc))|(apply OQ.bS (l:=aP++[60]) (r:=m.fr);rfl;rfl;exact (by rw [k3];omega))|(apply OQ.bS (l:=aP++[60]++m.fr) (r:=[62]);rfl;rfl;exact (by rw [k4];show _+1<_;omega))|(apply OQ.bS (l:=[60]) (r:=m.fr);rfl;rfl;exact (by show 1+_<_;omega))|(apply OQ.bS (l:=[60]++m.fr) (r:=[62]);rfl;rfl;exact (by rw [k5];show _+1<_;omega))|(apply OQ.an (vs:=[Z ([60]++m.fr++[62])]);exact eW;rfl;exact (fun w' _=>cA w'))|(apply OQ.extract;rfl;rfl)|(apply OQ.not;rfl)|(apply OQ.bC;exact Tryz.underlying9;rfl)|(apply OQ.cW (b:=512);rfl;rfl;exact h512)|(apply OQ.au;rfl;rfl)|(apply OQ.move;rfl)|(apply OQ.assign;rfl)) rfl ?_ | refine JC.seq ?_ | refine JC.region ?_ | refine JL.nil ?_ | refine JE.next ?_ | refine JL.aU rfl rfl ?_)
          refine JC.cond_true rfl rfl ?_
          repeat (first | refine JL.q (by (apply OQ.assign;rfl)) rfl ?_ | refine JC.seq ?_ | refine JC.region ?_ | refine JL.nil ?_ | refine JE.next ?_)
          refine JC.ret ?_
          repeat (first | refine JE.ah ?_ | refine JE.aW ?_)
          exact JE.bI rfl (RV.tmp rfl) (RV.tmp rfl) fun w' hw=>fO hw
      | true=>
        have hfs2:=hfs
        unfold fits at hfs2
        rw [Bool.and_eq_true] at hfs2
        have h512 : decide ((512 : Int)<((addressed aP m.fr).length : Nat))=false:=decide_eq_false (by have:=of_decide_eq_true hfs2.1;omega)
        rw [hfs2.2] at hadr
        subst hadr
        repeat (first | refine JL.q (by first|(apply OQ.bR (k:=.i64) (i:=0) (sz:=1);exact Tryz.underlying30;exact di;rfl;rfl;exact hi')|(apply OQ.load;exact bJ;rfl;exact .here;exact (Sl.aG.cell hc))|(apply OQ.bS (l:=aK++[60]) (r:=m.fr);rfl;rfl;exact (by rw [k1];omega))|(apply OQ.bS (l:=aK++[60]++m.fr) (r:=[62]);rfl;rfl;exact (by rw [k2];show _+1<_;omega))|(apply OQ.dB (b:=0);rfl;rfl;rfl)|(apply OQ.move;rfl)|(apply OQ.assign;rfl)) rfl ?_ | refine JC.seq ?_ | refine JC.region ?_ | refine JC.block ?_ | refine JC.skip ?_ | refine JL.nil ?_ | refine JE.next ?_)
        refine JC.cond_true rfl rfl ?_
        repeat (first | refine JL.q (by first|(apply OQ.bR (k:=.i64) (i:=0) (sz:=1);exact Tryz.underlying30;exact di;rfl;rfl;exact hi')|(apply OQ.load;exact bJ;rfl;exact .here;exact (Sl.aG.cell hc))|(apply OQ.bS (l:=aP++[60]) (r:=m.fr);rfl;rfl;exact (by rw [k3];omega))|(apply OQ.bS (l:=aP++[60]++m.fr) (r:=[62]);rfl;rfl;exact (by rw [k4];show _+1<_;omega))|(apply OQ.bS (l:=[60]) (r:=m.fr);rfl;rfl;exact (by show 1+_<_;omega))|(apply OQ.bS (l:=[60]++m.fr) (r:=[62]);rfl;rfl;exact (by rw [k5];show _+1<_;omega))|(apply OQ.an (vs:=[Z ([60]++m.fr++[62])]);exact eW;rfl;exact (fun w' _=>cA w'))|(apply OQ.extract;rfl;rfl)|(apply OQ.not;rfl)|(apply OQ.bC;exact Tryz.underlying9;rfl)|(apply OQ.cW (b:=512);rfl;rfl;exact h512)|(apply OQ.au;rfl;rfl)|(apply OQ.move;rfl)|(apply OQ.assign;rfl)) rfl ?_ | refine JC.seq ?_ | refine JC.region ?_ | refine JL.nil ?_ | refine JE.next ?_ | refine JL.aU rfl rfl ?_)
        refine JC.cond_false rfl rfl ?_
        repeat (first | refine JL.q (by first|(apply OQ.bS (l:=addressed aP m.fr) (r:=crlf);rfl;rfl;exact (by show _+2<_;omega))|(apply OQ.to;exact (OQ.bS (l:=ot m.fr m.to.l 0) (r:=addressed aP m.fr++crlf) rfl rfl (by rw [k7];omega));exact (congrArg Z ho1))|(apply OQ.move;rfl)|(apply OQ.assign;rfl)|(apply OQ.aT;rfl;rfl;exact (by (try simp only []);omega))) rfl ?_ | refine JC.region ?_ | refine JC.skip ?_ | refine JL.nil ?_ | refine JE.next ?_ | refine JE.ag ?_)
        refine JE.again (0+1) ⟨by omega,fun _=>hfs,by simp,by rw [← ho1,List.length_append,k7];omega⟩ (by omega) (by repeat (first | exact af.nil | refine af.cons _ _ _ rfl ?_)) (aq.refl _)
    | succ j=>
      have hj : j<m.to.l.length:=by omega
      have hmem : m.to.l.getD j [] ∈ m.to.l:=by rw [List.getD_eq_getElem?_getD,List.getElem?_eq_getElem hj];exact List.getElem_mem _
      have ha:=h1k _ hmem
      have hc:=hcellj j hj
      have hsn:=lR hj
      have htk:=fI (p:=fits aK) hj htt
      obtain ⟨s,hsd⟩ : ∃ s,m.to.l.getD j []=s:=⟨_,rfl⟩
      rw [hsd] at ha hc hmem hsn htk
      have ho1 : ot m.fr m.to.l (j+1)++(addressed aK s++crlf)=ot m.fr m.to.l (j+1+1):=by
        show preB m.fr++bU (m.to.l.take j)++_=preB m.fr++bU (m.to.l.take (j+1))
        rw [hsn,List.append_assoc]
      have hne : decide (j+1=0)=false:=rfl
      have cA:=fun w'=>gf ([60]++s++[62]) (by simp only [List.length_append,List.length_cons,List.length_nil];omega) w'
      have hadr:=s8 s
      generalize gN ([60]++s++[62])=Y at cA hadr
      obtain ⟨y1,y2⟩:=Y
      dsimp only at cA hadr
      have k1 : (aK++[(60 : Bt)]).length=9:=rfl
      have k2 : (aK++[(60 : Bt)]++s).length=9+(s).length:=by rw [List.length_append,k1]
      have k3 : (aP++[(60 : Bt)]).length=11:=rfl
      have k4 : (aP++[(60 : Bt)]++s).length=11+(s).length:=by rw [List.length_append,k3]
      have k5 : ([60]++s).length=1+(s).length:=by rw [List.length_append];rfl
      have k6 : (addressed aK s).length=8+(s).length+2:=e8 _ _
      have k7 : (addressed aK s++crlf).length=8+(s).length+2+2:=by rw [List.length_append,k6];rfl
      cases hfs : fits aK s with
      | false=>
        have hS : cU m.fr m.to.l m.b.l=([],3):=by
          have hna : m.to.l.all (fits aK)=false:=by
            rw [Bool.eq_false_iff]
            intro h
            rw [List.all_eq_true.1 h s hmem] at hfs
            cases hfs
          unfold cU
          rw [if_pos (.inr hna)]
        rw [hS]
        cases hia : dX s with
        | false=>
          rw [hia] at hadr
          subst hadr
          repeat (first | refine JL.q (by first|(apply OQ.bR (k:=.i64) (i:=(j+1)) (sz:=1);exact Tryz.underlying30;exact di;rfl;rfl;exact hi')|(apply OQ.load;exact bJ;rfl;exact .here;exact (Sl.aG.cell hc))|(apply OQ.bS (l:=aK++[60]) (r:=s);rfl;rfl;exact (by rw [k1];omega))|(apply OQ.bS (l:=aK++[60]++s) (r:=[62]);rfl;rfl;exact (by rw [k2];show _+1<_;omega))|(apply OQ.dB (b:=0);rfl;rfl;exact hne)|(apply OQ.move;rfl)|(apply OQ.assign;rfl)) rfl ?_ | refine JC.seq ?_ | refine JC.region ?_ | refine JC.block ?_ | refine JC.skip ?_ | refine JL.nil ?_ | refine JE.next ?_)
          refine JC.cond_false rfl rfl ?_
          repeat (first | refine JL.q (by first|(apply OQ.bR (k:=.i64) (i:=(j+1)) (sz:=1);exact Tryz.underlying30;exact di;rfl;rfl;exact hi')|(apply OQ.load;exact bJ;rfl;exact .here;exact (Sl.aG.cell hc))|(apply OQ.bS (l:=[60]) (r:=s);rfl;rfl;exact (by show 1+_<_;omega))|(apply OQ.bS (l:=[60]++s) (r:=[62]);rfl;rfl;exact (by rw [k5];show _+1<_;omega))|(apply OQ.an (vs:=[Z ([60]++s++[62])]);exact eW;rfl;exact (fun w' _=>cA w'))|(apply OQ.extract;rfl;rfl)|(apply OQ.not;rfl)|(apply OQ.ay;rfl;rfl)|(apply OQ.move;rfl)|(apply OQ.assign;rfl)) rfl ?_ | refine JC.seq ?_ | refine JC.region ?_ | refine JC.skip ?_ | refine JL.nil ?_ | refine JE.next ?_ | refine JL.aM rfl rfl rfl rfl ?_)
          refine JC.cond_true rfl rfl ?_
          repeat (first | refine JL.q (by (apply OQ.assign;rfl)) rfl ?_ | refine JC.seq ?_ | refine JC.region ?_ | refine JL.nil ?_ | refine JE.next ?_)
          refine JC.ret ?_
          repeat (first | refine JE.ah ?_ | refine JE.aW ?_)
          exact JE.bI rfl (RV.tmp rfl) (RV.tmp rfl) fun w' hw=>fO hw
        | true=>
          rw [hia] at hadr
          subst hadr
          have h512 : decide ((512 : Int)<((addressed aK s).length : Nat))=true:=by
            unfold fits at hfs
            rw [hia,Bool.and_true] at hfs
            have:=of_decide_eq_false hfs
            exact decide_eq_true (by omega)
          repeat (first | refine JL.q (by first|(apply OQ.bR (k:=.i64) (i:=(j+1)) (sz:=1);exact Tryz.underlying30;exact di;rfl;rfl;exact hi')|(apply OQ.load;exact bJ;rfl;exact .here;exact (Sl.aG.cell hc))|(apply OQ.bS (l:=aK++[60]) (r:=s);rfl;rfl;exact (by rw [k1];omega))|(apply OQ.bS (l:=aK++[60]++s) (r:=[62]);rfl;rfl;exact (by rw [k2];show _+1<_;omega))|(apply OQ.dB (b:=0);rfl;rfl;exact hne)|(apply OQ.move;rfl)|(apply OQ.assign;rfl)) rfl ?_ | refine JC.seq ?_ | refine JC.region ?_ | refine JC.block ?_ | refine JC.skip ?_ | refine JL.nil ?_ | refine JE.next ?_)
          refine JC.cond_false rfl rfl ?_
          repeat (first | refine JL.q (by first|(apply OQ.bR (k:=.i64) (i:=(j+1)) (sz:=1);exact Tryz.underlying30;exact di;rfl;rfl;exact hi')|(apply OQ.load;exact bJ;rfl;exact .here;exact (Sl.aG.cell hc))|(apply OQ.bS (l:=[60]) (r:=s);rfl;rfl;exact (by show 1+_<_;omega))|(apply OQ.bS (l:=[60]++s) (r:=[62]);rfl;rfl;exact (by rw [k5];show _+1<_;omega))|(apply OQ.an (vs:=[Z ([60]++s++[62])]);exact eW;rfl;exact (fun w' _=>cA w'))|(apply OQ.extract;rfl;rfl)|(apply OQ.not;rfl)|(apply OQ.bC;exact Tryz.underlying9;rfl)|(apply OQ.cW (b:=512);rfl;rfl;exact h512)|(apply OQ.au;rfl;rfl)|(apply OQ.move;rfl)|(apply OQ.assign;rfl)) rfl ?_ | refine JC.seq ?_ | refine JC.region ?_ | refine JC.skip ?_ | refine JL.nil ?_ | refine JE.next ?_ | refine JL.aU rfl rfl ?_)
          refine JC.cond_true rfl rfl ?_
          repeat (first | refine JL.q (by (apply OQ.assign;rfl)) rfl ?_ | refine JC.seq ?_ | refine JC.region ?_ | refine JL.nil ?_ | refine JE.next ?_)
          refine JC.ret ?_
          repeat (first | refine JE.ah ?_ | refine JE.aW ?_)
          exact JE.bI rfl (RV.tmp rfl) (RV.tmp rfl) fun w' hw=>fO hw
      | true=>
        have hfs2:=hfs
        unfold fits at hfs2
        rw [Bool.and_eq_true] at hfs2
        have h512 : decide ((512 : Int)<((addressed aK s).length : Nat))=false:=decide_eq_false (by have:=of_decide_eq_true hfs2.1;omega)
        rw [hfs2.2] at hadr
        subst hadr
        repeat (first | refine JL.q (by first|(apply OQ.bR (k:=.i64) (i:=(j+1)) (sz:=1);exact Tryz.underlying30;exact di;rfl;rfl;exact hi')|(apply OQ.load;exact bJ;rfl;exact .here;exact (Sl.aG.cell hc))|(apply OQ.bS (l:=aK++[60]) (r:=s);rfl;rfl;exact (by rw [k1];omega))|(apply OQ.bS (l:=aK++[60]++s) (r:=[62]);rfl;rfl;exact (by rw [k2];show _+1<_;omega))|(apply OQ.dB (b:=0);rfl;rfl;exact hne)|(apply OQ.move;rfl)|(apply OQ.assign;rfl)) rfl ?_ | refine JC.seq ?_ | refine JC.region ?_ | refine JC.block ?_ | refine JC.skip ?_ | refine JL.nil ?_ | refine JE.next ?_)
        refine JC.cond_false rfl rfl ?_
        repeat (first | refine JL.q (by first|(apply OQ.bR (k:=.i64) (i:=(j+1)) (sz:=1);exact Tryz.underlying30;exact di;rfl;rfl;exact hi')|(apply OQ.load;exact bJ;rfl;exact .here;exact (Sl.aG.cell hc))|(apply OQ.bS (l:=[60]) (r:=s);rfl;rfl;exact (by show 1+_<_;omega))|(apply OQ.bS (l:=[60]++s) (r:=[62]);rfl;rfl;exact (by rw [k5];show _+1<_;omega))|(apply OQ.an (vs:=[Z ([60]++s++[62])]);exact eW;rfl;exact (fun w' _=>cA w'))|(apply OQ.extract;rfl;rfl)|(apply OQ.not;rfl)|(apply OQ.bC;exact Tryz.underlying9;rfl)|(apply OQ.cW (b:=512);rfl;rfl;exact h512)|(apply OQ.au;rfl;rfl)|(apply OQ.move;rfl)|(apply OQ.assign;rfl)) rfl ?_ | refine JC.seq ?_ | refine JC.region ?_ | refine JC.skip ?_ | refine JL.nil ?_ | refine JE.next ?_ | refine JL.aU rfl rfl ?_)
        refine JC.cond_false rfl rfl ?_
        repeat (first | refine JL.q (by first|(apply OQ.bS (l:=addressed aK s) (r:=crlf);rfl;rfl;exact (by show _+2<_;omega))|(apply OQ.to;exact (OQ.bS (l:=ot m.fr m.to.l (j+1)) (r:=addressed aK s++crlf) rfl rfl (by rw [k7];omega));exact (congrArg Z ho1))|(apply OQ.move;rfl)|(apply OQ.assign;rfl)|(apply OQ.aT;rfl;rfl;exact (by (try simp only []);omega))) rfl ?_ | refine JC.region ?_ | refine JC.skip ?_ | refine JL.nil ?_ | refine JE.next ?_ | refine JE.ag ?_)
        refine JE.again (j+1+1) ⟨by omega,fun _=>hff (by omega),htk hfs,by rw [← ho1,List.length_append,k7];omega⟩ (by omega) (by repeat (first | exact af.nil | refine af.cons _ _ _ rfl ?_)) (aq.refl _)
  · have hi' : i=m.to.l.length+1:=by have:=of_decide_eq_false hh;omega
    subst hi'
    clear hh hi
    have hf1:=hff (by omega)
    rw [Nat.add_sub_cancel,List.take_length] at htt
    have hP2 : ¬ (fits aP m.fr=false∨m.to.l.all (fits aK)=false):=by
      rw [hf1,List.all_eq_true.2 htt]
      simp
    have ho1 : ot m.fr m.to.l (m.to.l.length+1)=preB m.fr++bU m.to.l:=by
      show preB m.fr++bU (m.to.l.take m.to.l.length)=_
      rw [List.take_length]
    rw [ho1] at hol
    rw [ho1]
    cases h0 : decide (m.to.l.length=0) with
    | true=>
      have hS : cU m.fr m.to.l m.b.l=([],2):=by
        unfold cU
        rw [if_neg hP2,if_pos (.inl (of_decide_eq_true h0))]
      rw [hS]
      repeat (first | refine JL.q (by first|(apply OQ.load;exact b7;rfl;exact (.there .here);exact (Row.cell (v:=m.to.v) rfl))|(apply OQ.len (k:=m.to.l.length) (ad:=m.to.ad) (cap:=m.to.cap);exact Tryz.underlying30;rfl)|(apply OQ.dB (b:=0);rfl;rfl;exact h0)|(apply OQ.ay;rfl;rfl)|(apply OQ.move;rfl)|(apply OQ.bG;rfl;rfl;rfl;exact (by decide);rfl)) rfl ?_ | refine JC.seq ?_ | refine JC.region ?_ | refine JC.exit ?_ | refine JL.nil ?_ | refine JE.next ?_ | refine JE.av ?_ | refine JE.aF ?_ | refine JL.aM rfl rfl rfl rfl ?_)
      refine JC.cond_true rfl rfl ?_
      repeat (first | refine JL.q (by (apply OQ.assign;rfl)) rfl ?_ | refine JC.seq ?_ | refine JC.region ?_ | refine JL.nil ?_ | refine JE.next ?_)
      refine JC.ret ?_
      repeat (refine JE.ah ?_)
      exact JE.bI rfl (RV.tmp rfl) (RV.tmp rfl) fun w' hw=>fO hw
    | false=>
      cases h10 : decide ((10 : Int)<(m.to.l.length : Nat)) with
      | true=>
        have hS : cU m.fr m.to.l m.b.l=([],2):=by
          unfold cU
          rw [if_neg hP2,if_pos (.inr (by have:=of_decide_eq_true h10;omega))]
        rw [hS]
        repeat (first | refine JL.q (by first|(apply OQ.load;exact b7;rfl;exact (.there .here);exact (Row.cell (v:=m.to.v) rfl))|(apply OQ.len (k:=m.to.l.length) (ad:=m.to.ad) (cap:=m.to.cap);exact Tryz.underlying30;rfl)|(apply OQ.dB (b:=0);rfl;rfl;exact h0)|(apply OQ.cW (b:=10);rfl;rfl;exact h10)|(apply OQ.au;rfl;rfl)|(apply OQ.move;rfl)|(apply OQ.bG;rfl;rfl;rfl;exact (by decide);rfl)) rfl ?_ | refine JC.seq ?_ | refine JC.region ?_ | refine JC.exit ?_ | refine JL.nil ?_ | refine JE.next ?_ | refine JE.av ?_ | refine JE.aF ?_ | refine JL.aU rfl rfl ?_)
        refine JC.cond_true rfl rfl ?_
        repeat (first | refine JL.q (by (apply OQ.assign;rfl)) rfl ?_ | refine JC.seq ?_ | refine JC.region ?_ | refine JL.nil ?_ | refine JE.next ?_)
        refine JC.ret ?_
        repeat (refine JE.ah ?_)
        exact JE.bI rfl (RV.tmp rfl) (RV.tmp rfl) fun w' hw=>fO hw
      | false=>
        have hS : cU m.fr m.to.l m.b.l=(gB m.fr m.to.l m.b.l,0):=by
          unfold cU
          rw [if_neg hP2,if_neg (fun h=>by have:=of_decide_eq_false h10;have:=of_decide_eq_false h0;omega)]
        rw [hS]
        have h10' : m.to.l.length≤10:=by have:=of_decide_eq_false h10;omega
        repeat (first | refine JL.q (by first|(apply OQ.load;exact b7;rfl;exact (.there .here);exact (Row.cell (v:=m.to.v) rfl))|(apply OQ.len (k:=m.to.l.length) (ad:=m.to.ad) (cap:=m.to.cap);exact Tryz.underlying30;rfl)|(apply OQ.dB (b:=0);rfl;rfl;exact h0)|(apply OQ.cW (b:=10);rfl;rfl;exact h10)|(apply OQ.au;rfl;rfl)|(apply OQ.move;rfl)|(apply OQ.bG;rfl;rfl;rfl;exact (by decide);rfl)) rfl ?_ | refine JC.seq ?_ | refine JC.region ?_ | refine JC.exit ?_ | refine JL.nil ?_ | refine JE.next ?_ | refine JE.av ?_ | refine JE.aF ?_ | refine JL.aU rfl rfl ?_)
        refine JC.cond_false rfl rfl ?_
        repeat (first | refine JL.q (by first|(apply OQ.load;exact qs;rfl;exact (.there .here);exact (Row.cell (v:=m.b.v) rfl))|(apply OQ.bG;rfl;rfl;rfl;exact (by decide);rfl)) rfl ?_ | refine JC.seq ?_ | refine JC.region ?_ | refine JC.skip ?_ | refine JE.next ?_)
        refine JL.cE (ι:=Nat × Nat) (vs:=[m.b.v]) (fun q=>.slice (some ⟨q.1,0,none⟩) (laidB m.b.l).length q.2) (fun q=>[⟨q.1,Sl.aG 5 1 (laidB m.b.l).length q.2 ((laidB m.b.l).map U8),true⟩]) jY rfl rfl (fun q e he=>by rw [List.mem_singleton.1 he]) (fun w' hw'=>jI m.b w' (hb.holds hw' rfl) (by omega)) ?_
        rintro ⟨bl,cl⟩
        dsimp only
        repeat (first | refine JL.q (by first|(apply OQ.len (k:=(laidB m.b.l).length) (ad:=some ⟨bl,0,none⟩) (cap:=cl);exact Tryz.underlying22;rfl)|(apply OQ.cW (b:=2097152);rfl;rfl;exact (decide_eq_false (by omega)))) rfl ?_ | refine JL.nil ?_ | refine JE.next ?_)
        refine JC.cond_false rfl rfl ?_
        repeat (first | refine JL.q (by (apply OQ.move;rfl)) rfl ?_ | refine JC.seq ?_ | refine JC.region ?_ | refine JC.skip ?_ | refine JE.next ?_)
        refine JL.eY (M':=[⟨b,Row 38 m.cs,true⟩]) ?_ (.drop _ _ _ (.drop _ _ _ (aq.refl _)))
        obtain ⟨H,hH⟩ : ∃ H,preB m.fr++bU m.to.l=H:=⟨_,rfl⟩
        obtain ⟨T,hTe⟩ : ∃ T,iA m.b.l=T:=⟨_,rfl⟩
        have eT : gB m.fr m.to.l m.b.l=((H++(bA++crlf))++T)++(bu++crlf):=by
          rw [← hH,← hTe]
          rfl
        rw [eT]
        rw [hTe] at hTl
        rw [hH] at hol
        rw [hH]
        refine JL.B2 (r:=H) Tryz.underlying9 rfl Tryz.underlying22 Tryz.underlying5 rfl rfl fun b1 cap1 _=>?_
        refine JL.od (v:=Z (bA++crlf)) (m:=6) (xs:=H.map U8) (news:=(bA++crlf).map U8) (fun b' cap'=>[⟨b',jJ 5 (H.length+6) cap' (H.map U8++(bA++crlf).map U8),true⟩,⟨b,Row 38 m.cs,true⟩]) Tryz.underlying22 bQ rfl rfl (fun _ _=>s3 Tryz.underlying9) (by intro _ _;repeat (first | exact az.here | apply az.there)) (by omega) rfl fun b2 cap2=>?_
        repeat (first | refine JL.q (by first|(apply OQ.load;exact qs;rfl;exact (.there .here);exact (Row.cell (v:=m.b.v) rfl))|(apply OQ.move;rfl)|(apply OQ.assign;rfl)|(apply OQ.bG;rfl;rfl;rfl;exact (by decide);rfl)) rfl ?_ | refine JC.seq ?_ | refine JC.region ?_ | refine JL.nil ?_ | refine JE.next ?_)
        refine JL.cE (ι:=Nat × Nat) (vs:=[m.b.v]) (fun q=>.slice (some ⟨q.1,0,none⟩) T.length q.2) (fun q=>[⟨q.1,Sl.aG 5 1 T.length q.2 (T.map U8),true⟩]) oq rfl rfl (fun q e he=>by rw [List.mem_singleton.1 he]) (fun w' hw'=>hTe ▸ rC m.b w' (hb.holds hw' rfl) (by omega)) ?_
        rintro ⟨bs,cs⟩
        dsimp only
        refine JL.od (v:=.slice (some ⟨bs,0,none⟩) T.length cs) (m:=T.length) (xs:=H.map U8++(bA++crlf).map U8) (news:=T.map U8) (fun b' cap'=>[⟨bs,Sl.aG 5 1 T.length cs (T.map U8),true⟩,⟨b',jJ 5 (H.length+6+T.length) cap' (H.map U8++(bA++crlf).map U8++T.map U8),true⟩,⟨b,Row 38 m.cs,true⟩]) Tryz.underlying22 bQ rfl rfl (fun w' hw'=>u0 Tryz.underlying22 (List.length_map _) (b8 (l:=T) hw' .here).reads (c8 _)) (by intro _ _;repeat (first | exact az.here | apply az.there)) (by omega) rfl fun b3 cap3=>?_
        repeat (first | refine JL.q (by first|(apply OQ.move;rfl)|(apply OQ.assign;rfl)) rfl ?_ | refine JC.seq ?_ | refine JC.region ?_ | refine JL.nil ?_ | refine JE.next ?_)
        refine JL.od (v:=Z (bu++crlf)) (m:=6) (xs:=H.map U8++(bA++crlf).map U8++T.map U8) (news:=(bu++crlf).map U8) (fun b' cap'=>[⟨bs,Sl.aG 5 1 T.length cs (T.map U8),true⟩,⟨b',jJ 5 (H.length+6+T.length+6) cap' (H.map U8++(bA++crlf).map U8++T.map U8++(bu++crlf).map U8),true⟩,⟨b,Row 38 m.cs,true⟩]) Tryz.underlying22 bQ rfl rfl (fun _ _=>s3 Tryz.underlying9) (by intro _ _;repeat (first | exact az.here | apply az.there)) (by omega) rfl fun b4 cap4=>?_
        repeat (first | refine JL.q (by (apply OQ.assign;rfl)) rfl ?_ | refine JL.nil ?_ | refine JE.next ?_)
        refine JC.ret ?_
        skip
        have eL : (((H++(bA++crlf))++T)++(bu++crlf)).length=H.length+6+T.length+6:=by
          rw [List.length_append,List.length_append,List.length_append]
          rfl
        have eM : H.map U8++(bA++crlf).map U8++T.map U8++(bu++crlf).map U8=(((H++(bA++crlf))++T)++(bu++crlf)).map U8:=by simp only [List.map_append]
        rw [eM]
        generalize ((H++(bA++crlf))++T)++(bu++crlf)=G at eL ⊢
        rw [← eL]
        exact JE.bI rfl (RV.tmp rfl) (RV.tmp rfl) fun w' hw=>⟨⟨⟨some ⟨b4,0,none⟩,cap4,G⟩,rfl,nofun⟩,rfl,(hw.weak (.drop _ _ _ (.keep _ _ _ _ _ _ (fun _ h=>h) (.nil _)))).weak (uZ rfl)⟩
end dF
end
end Go.Proofs.YtjeeilmkjjbonaaGreatDoor
