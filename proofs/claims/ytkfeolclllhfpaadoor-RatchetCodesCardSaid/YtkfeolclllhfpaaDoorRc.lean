/-
  Of no statement by itself: the texts StrM, StrO, StrT, StrU, StrV, SealB, CrvA, CrvB, CrvC, CrvD, CrvE, CrvG, CrvH, CurA, CrvJ, CurB, CurC, CrvK, CurD, CrvW, CurE, CrvM, CurF, CrvU, CrvV, CrvX, CrvY, CrvZ, CuvA, CuvB, CuvC in one.
  Conditions: each theorem's own.
-/
import Derived.Test.YtkfeolclllhfpaaDoorRb
import Init
import Derived.Test.YtkfeolclllhfpaaDoorProg
import Derived.KernelRfl
set_option linter.unusedSimpArgs false
set_option linter.unusedVariables false
namespace Go.Proofs.YtkfeolclllhfpaaDoor
section
set_option maxRecDepth 10000
open Sl ec gE
def GQ (w : World) : Prop:=∃ e fr,w.heap[0]?=some (.cells (mI.map N).toArray e fr)
theorem GQ.lt {w : World} (h : GQ w) : 0<w.heap.size:=by
  obtain ⟨e,fr,h⟩:=h
  exact (Array.getElem?_eq_some_iff.1 h).1
theorem GQ.cells {w : World} (h : GQ w) : ∀ i u,(mI.map N)[i]?=some u→w.cell? ⟨0,0+i,none⟩=some u:=by
  obtain ⟨e,fr,h⟩:=h
  intro i u hu
  simpa [World.cell?,h] using hu
theorem GQ.aH {S : List Nat} {w w' : World} (h : GQ w) (hc : kM S w w') (h0 : 0 ∉ S) : GQ w':=by
  have hl:=h.lt
  obtain ⟨e,fr,h⟩:=h
  exact ⟨e,fr,(hc.block _ hl h0).trans h⟩
theorem ug : aR Tryd.prog 83:=⟨_,Tryd.func83,rfl,by kernel_rfl⟩
theorem ED : dm Tryd.prog 3=some 1:=by kernel_rfl
theorem EE : fP Tryd.prog 3=true:=by kernel_rfl
theorem GO : dm Tryd.prog 74=some 4:=by kernel_rfl
theorem Hg : ei Tryd.prog 74=true:=by kernel_rfl
theorem Hh : zc Tryd.prog 74=some ((List.replicate 4 0).map N):=by kernel_rfl
theorem Hi : dm Tryd.prog 163=some 32:=by kernel_rfl
theorem Hj : ei Tryd.prog 163=true:=by kernel_rfl
theorem CT : zc Tryd.prog 125=some ((List.replicate 64 (0 : B)).map U8):=by kernel_rfl
theorem F0 (l : List Nat) : (l.map N).all Value.oneCell'=true:=by simp [Value.oneCell']
def o4 (q : Nat) : List Nat:=[oi q 0,oi q 1,oi q 2,oi q 3]
theorem CU : ∀ q<8,(mI.drop (q * 4)).take 4=o4 q:=by decide
theorem B3 (q : Nat) (h : q<8) : ((mI.map N).drop (q * 4)).take 4=(o4 q).map N:=by rw [← List.map_drop,← List.map_take,CU q h]
theorem vq {s : List W} {j : Nat} (h : j<s.length) : (s.map aV)[j]?=some (aV (s.getD j 0)):=dx aV 0 h
def Al (s : List W) (i : Nat) : List B:=bl s i++List.replicate (64 - 4 * i) 0
theorem F1 {l : List B} {k m : Nat} (hl : l.length=m) (h : 4≤k) (a b c d : B) : ((((((l++List.replicate k 0).map U8).set m (U8 a)).set (m+1) (U8 b)).set (m+2) (U8 c)).set (m+3) (U8 d))=(l++[a,b,c,d]++List.replicate (k - 4) 0).map U8:=by
  subst hl
  obtain ⟨k,rfl⟩ : ∃ j,k=j+4:=⟨k - 4,by omega⟩
  simp only [← List.map_set,Nat.add_sub_cancel,List.replicate_succ]
  congr 1
  rw [List.set_append_right _ _ (Nat.le_refl _),List.set_append_right _ _ (by omega),List.set_append_right _ _ (by omega),List.set_append_right _ _ (by omega)]
  simp [List.append_assoc,List.set_cons_succ,List.set_cons_zero]
theorem nJ (s : List W) (i : Nat) (h : i≤16) : ((Al s i).map U8).length=64:=by simp [Al,iL];omega
theorem AT (s : List W) (i : Nat) (h : i<16) (x : W) (hx : x=(st s 80).getD i 0+s.getD i 0) : (((((Al s i).map U8).set (4 * i) (U8 (x.setWidth 8))).set (4 * i+1) (U8 ((x >>> 8).setWidth 8))).set (4 * i+2) (U8 ((x >>> 16).setWidth 8))).set (4 * i+3) (U8 ((x >>> 24).setWidth 8))=(Al s (i+1)).map U8:=by
  subst hx
  rw [Al,F1 (iL s i) (by omega),Al,bl,show 64 - 4 * i - 4=64 - 4 * (i+1) by omega]
  rfl
def EG : Nat→List (Nat × Nat)
  | 1=>[(0,19)]
  | 2=>[(1,20)]
  | 3=>[(2,21)]
  | 5=>[(4,23)]
  | 6=>[(5,24)]
  | 7=>[(6,25)]
  | 9=>[(8,27)]
  | 10=>[(9,28)]
  | 11=>[(10,29)]
  | 13=>[(12,31)]
  | 14=>[(13,32)]
  | 15=>[(14,33)]
  | 16=>[(3,22),(7,26),(11,30),(15,34)]
  | 17=>[(16,35)]
  | 19=>[(18,6),(17,36)]
  | _=>[]
def F2 : Nat→List Nat
  | 1=>[20]
  | 3=>[21]
  | 5=>[20]
  | 7=>[21]
  | 9=>[20]
  | 11=>[21]
  | 13=>[20]
  | 15=>[21]
  | 19=>[18]
  | _=>[]
def F3 : Nat→List Nat
  | 19=>[18]
  | _=>[]
def F4 : Nat→Option Nat
  | 19=>some 18
  | _=>none
def EH : Nat→List (Nat × Nat)
  | 1=>[(0,37)]
  | 3=>[(2,39)]
  | 5=>[(4,41)]
  | 7=>[(6,43)]
  | 9=>[(8,45)]
  | 11=>[(10,47)]
  | 13=>[(12,49)]
  | 15=>[(14,51)]
  | 16=>[(1,38)]
  | 17=>[(16,53),(9,46)]
  | 18=>[(3,40)]
  | 19=>[(18,54),(11,48)]
  | 20=>[(5,42)]
  | 21=>[(20,55),(13,50)]
  | 22=>[(7,44)]
  | 23=>[(22,56),(15,52)]
  | _=>[]
def F5 : Nat→List Nat
  | 1=>[25]
  | 3=>[25]
  | 5=>[25]
  | 7=>[25]
  | 9=>[24]
  | 11=>[24]
  | 13=>[24]
  | 15=>[24]
  | 17=>[26]
  | 19=>[17]
  | 21=>[19]
  | 23=>[21]
  | _=>[]
def F6 : Nat→List Nat
  | 17=>[26]
  | 19=>[17]
  | 21=>[19]
  | 23=>[21]
  | _=>[]
set_option maxHeartbeats 16000000 in
set_option maxRecDepth 8000 in
theorem wF (s : List W) (hs : s.length=16) (w : World) (hQ : GQ w) : Calls Tryd.prog 83 [.agg (s.map aV).toArray].toArray w fun e w'=>e=.returned (.agg ((block s).map U8).toArray)∧Ext w w':=by
  have hsl : (s.map aV).length=16:=by simpa using hs
  refine enter (n:=97) Tryd.func83 rfl rfl rfl (ah.start w []) ?_
  repeat (first | refine JC.seq ?_ | refine JC.region ?_)
  refine JL.box (r:=s.map aV) rfl rfl rfl fun b1 _=>?_
  refine JL.alloc CT rfl fun b2 _=>?_
  repeat (first | refine JC.seq ?_ | refine JC.region ?_ | refine JL.nil ?_ | refine JE.next ?_)
  refine JL.alloc AO rfl fun b3 _=>?_
  repeat (first | refine JC.seq ?_ | refine JL.nil ?_ | refine JE.next ?_)
  refine JC.tail 2 AL (by kernel_rfl) ?_
  simp only [List.take_succ_cons,List.take_zero,List.drop_succ_cons,List.drop_zero]
  repeat (first | refine JQ.q (by (apply OQ.iT;exact Tryd.underlying128;exact qO;rfl)) rfl ?_ | refine JQ.cH ?_)
  refine JL.copy (cs:=s.map aV) (r':=(st s 0).map aV) Tryd.underlying162 qO rfl rfl .here hsl (fun w' hw'=>?_) (fun v hv=>List.all_eq_true.1 (lB s) v hv) (by simp) (by rw [List.take_of_length_le (l:=s.map aV) (by omega)];simp [st]) rfl ?_
  · obtain ⟨o,ho,hA⟩:=hw'.get (.there (.there .here))
    exact Reads.block ho (Row.all _ hA)
  repeat (first | refine JL.q (by (apply OQ.move;rfl)) rfl ?_ | refine JC.seq ?_ | refine JC.region ?_ | refine JC.block ?_ | refine JL.nil ?_ | refine JE.next ?_)
  refine JC.loop (fun r : Nat=>[(1,Pt b1 0),(2,Pt b2 0),(3,Pt b3 0),(13,N r)])
    (fun r=>[⟨b3,Row 128 ((st s (8 * r)).map aV),true⟩,⟨b2,Row 125 ((List.replicate 64 (0 : B)).map U8),true⟩,⟨b1,Row 128 (s.map aV),true⟩])
    (fun r=>10 - r) (fun r=>r≤10) 0 (by omega) (by repeat (first | exact aj.nil | refine aj.cons _ _ _ rfl ?_)) (ax.refl _) ?_
  intro r hr
  repeat (first | refine JL.q (by (apply OQ.cF;rfl;rfl)) rfl ?_ | refine JC.seq ?_ | refine JC.region ?_ | refine JL.nil ?_ | refine JE.next ?_)
  refine JC.cond rfl (fun h=>?_) (fun h=>?_)
  · have hr' : r<10:=of_decide_eq_true h
    clear h hr
    repeat (first | refine JL.q (by first|(apply OQ.bJ (cs:=mI.map N);exact Hj;rfl;exact Hi;exact hQ.lt;exact (by simp);exact hQ.cells)|(apply OQ.move;rfl)) rfl ?_ | refine JC.seq ?_ | refine JC.region ?_ | refine JC.block ?_ | refine JC.skip ?_ | refine JL.nil ?_ | refine JE.next ?_)
    refine JC.loop (fun q : Nat=>[(1,Pt b1 0),(2,Pt b2 0),(3,Pt b3 0),(13,N r),(15,.agg (mI.map N).toArray),(16,N q)])
      (fun q=>[⟨b3,Row 128 ((st s (8 * r+q)).map aV),true⟩,⟨b2,Row 125 ((List.replicate 64 (0 : B)).map U8),true⟩,⟨b1,Row 128 (s.map aV),true⟩])
      (fun q=>8 - q) (fun q=>q≤8) 0 (by omega) (by repeat (first | exact aj.nil | refine aj.cons _ _ _ rfl ?_)) (ax.refl _) ?_
    intro q hq
    repeat (first | refine JL.q (by (apply OQ.cF;rfl;rfl)) rfl ?_ | refine JC.seq ?_ | refine JC.region ?_ | refine JL.nil ?_ | refine JE.next ?_)
    refine JC.cond rfl (fun h=>?_) (fun h=>?_)
    · have hq' : q<8:=of_decide_eq_true h
      clear h hq
      have hv16 : (st s (8 * r+q)).length=16:=by rw [kW,hs]
      have hnext : st s (8 * r+(q+1))=jw (st s (8 * r+q)) q (q4 (st s (8 * r+q)) q) 4:=by
        rw [← Nat.add_assoc,st,qs,show (8 * r+q) % 8=q by omega]
      generalize st s (8 * r+q)=v at hv16 hnext
      have hlt:=fun k hk=>Ev q hq' k hk
      have hget : ∀ k,k<4→(v.map aV)[oi q k]?=some (aV (v.getD (oi q k) 0)):=fun k hk=>vq (by rw [hv16];exact hlt k hk)
      repeat (first | refine JL.q (by (apply OQ.xP;exact Tryd.underlying163;exact GO;exact Hg;rfl;rfl;exact hq';exact (B3 q hq'))) rfl ?_ | refine JC.seq ?_ | refine JC.region ?_ | refine JC.block ?_ | refine JC.skip ?_ | refine JE.next ?_)
      refine JL.alloc Hh rfl fun b5 _=>?_
      refine JL.ag GO rfl rfl rfl (F0 _) .here (by simp) ?_
      repeat (first | refine JC.seq ?_ | refine JL.nil ?_ | refine JE.next ?_)
      let vs : Nat→X→Value:=fun i x=>if i<16 then (match i % 4 with | 0=>Pt b5 (i / 4) | 1=>N (oi q (i / 4)) | 2=>Pt b3 (oi q (i / 4)) | _=>aV (v.getD (oi q (i / 4)) 0)) else match i with
        | 18=>Pt x.1 0
        | 16=>.agg (([v.getD (oi q 0) 0,v.getD (oi q 1) 0,v.getD (oi q 2) 0,v.getD (oi q 3) 0] : List W).map aV).toArray
        | _=>.agg ((q4 v q).map aV).toArray
      let Ms : Nat→X→List aJ:=fun i x=>match i with
        | 18=>[⟨x.1,Row 164 ((List.replicate 4 (0 : W)).map aV),true⟩]
        | 19=>[⟨x.1,Row 164 ((q4 v q).map aV),true⟩]
        | 20=>[⟨b5,Row 74 ((o4 q).map N),true⟩]
        | 21=>[⟨b3,Row 128 (v.map aV),true⟩]
        | 22=>[⟨b2,Row 125 ((List.replicate 64 (0 : B)).map U8),true⟩,⟨b1,Row 128 (s.map aV),true⟩]
        | _=>[]
      refine JC.grow (g:=⟨[(1,Pt b1 0),(2,Pt b2 0),(3,Pt b3 0),(5,Pt b5 0),(13,N r),(15,.agg (mI.map N).toArray),(16,N q)],23,vs,Ms,EG,F2,F3,F4⟩) [(18,6)] [19,20,21,22] AL (by repeat (first | exact aj.nil | refine aj.cons _ _ _ rfl ?_)) (ax.refl _) (by kernel_rfl) (by kernel_rfl) (by kernel_rfl) ?_ ?_
      · refine ⟨?_,?_,?_,?_,?_,?_,?_,?_,?_,?_,?_,?_,?_,?_,?_,?_,?_,?_,?_,?_,trivial⟩
        iterate 16 (focus (intro x EF MF Q kk;(try refine JL.bn rfl rfl ?_);exact JL.q (by first|(apply OQ.aW;exact Tryd.underlying74;exact ED;rfl;rfl;exact (by decide))|(apply OQ.load;exact EE;rfl;exact .here;exact (Row.cell rfl))|(apply OQ.aW;exact Tryd.underlying128;exact qO;rfl;rfl;exact (hlt _ (by decide)))|(apply OQ.load;exact Ea;rfl;exact .here;exact (Row.cell (hget _ (by decide))))) rfl (JL.nil (kk default nofun))))
        · intro x EF MF Q kk
          exact JL.q (OQ.pure (v:=.agg (([v.getD (oi q 0) 0,v.getD (oi q 1) 0,v.getD (oi q 2) 0,v.getD (oi q 3) 0] : List W).map aV).toArray) rfl rfl (by kernel_rfl)) rfl (JL.nil (kk (0,0) nofun))
        · intro x EF MF Q kk
          exact JL.q (OQ.an qe rfl fun w' _=>rV _ _ _ _ w') rfl (JL.nil (kk (0,0) nofun))
        · intro x EF MF Q kk
          exact JL.alloc GL rfl fun b _=>JL.nil (kk (b,0) nofun)
        · intro x EF MF Q kk
          exact JL.ag FX rfl rfl rfl (lB _) .here rfl (JL.nil (kk (x 18) (fun k h=>by cases h;rfl)))
      · intro x hx
        have h19:=hx 19 18 (by decide) rfl
        show JE _ _ _ _ _ [(6,Pt (x 18).1 0),(1,Pt b1 0),(2,Pt b2 0),(3,Pt b3 0),(5,Pt b5 0),(13,N r),(15,.agg (mI.map N).toArray),(16,N q)] [⟨(x 19).1,Row 164 ((q4 v q).map aV),true⟩,⟨b5,Row 74 ((o4 q).map N),true⟩,⟨b3,Row 128 (v.map aV),true⟩,⟨b2,Row 125 ((List.replicate 64 (0 : B)).map U8),true⟩,⟨b1,Row 128 (s.map aV),true⟩]
        rw [h19]
        generalize (x 18).1=b6
        clear hx h19 x vs Ms
        repeat (refine JE.next ?_)
        let vs : Nat→X→Value:=fun i _=>if i<8 then (match i % 2 with | 0=>Pt b5 (i / 2) | _=>N (oi q (i / 2))) else if i<16 then (match i % 2 with | 0=>Pt b6 ((i - 8) / 2) | _=>aV ((q4 v q).getD ((i - 8) / 2) 0)) else Pt b3 (oi q ((i - 16) / 2))
        let Ms : Nat→X→List aJ:=fun i _=>match i with
          | 17=>[⟨b3,Row 128 ((jw v q (q4 v q) 1).map aV),true⟩]
          | 19=>[⟨b3,Row 128 ((jw v q (q4 v q) 2).map aV),true⟩]
          | 21=>[⟨b3,Row 128 ((jw v q (q4 v q) 3).map aV),true⟩]
          | 23=>[⟨b3,Row 128 ((jw v q (q4 v q) 4).map aV),true⟩]
          | 24=>[⟨b6,Row 164 ((q4 v q).map aV),true⟩]
          | 25=>[⟨b5,Row 74 ((o4 q).map N),true⟩]
          | 26=>[⟨b3,Row 128 ((jw v q (q4 v q) 0).map aV),true⟩]
          | 27=>[⟨b2,Row 125 ((List.replicate 64 (0 : B)).map U8),true⟩,⟨b1,Row 128 (s.map aV),true⟩]
          | _=>[]
        have hput : ∀ k,((jw v q (q4 v q) k).map aV).length=16:=fun k=>by rw [List.length_map,hU,hv16]
        have hset : ∀ k,((jw v q (q4 v q) k).map aV).set (oi q k) (aV ((q4 v q).getD k 0))=(jw v q (q4 v q) (k+1)).map aV:=fun k=>by rw [jw,List.map_set]
        refine JC.grow (g:=⟨[(1,Pt b1 0),(2,Pt b2 0),(3,Pt b3 0),(5,Pt b5 0),(6,Pt b6 0),(13,N r),(15,.agg (mI.map N).toArray),(16,N q)],28,vs,Ms,EH,F5,F6,fun _=>none⟩) [] [23,27] AL (by repeat (first | exact aj.nil | refine aj.cons _ _ _ rfl ?_)) (ax.refl _) (by kernel_rfl) (by kernel_rfl) (by kernel_rfl) ?_ ?_
        · refine ⟨?_,?_,?_,?_,?_,?_,?_,?_,?_,?_,?_,?_,?_,?_,?_,?_,?_,?_,?_,?_,?_,?_,?_,?_,trivial⟩
          iterate 16 (focus (intro x EF MF Q kk;(try refine JL.bn rfl rfl ?_);exact JL.q (by first|(apply OQ.aW;exact Tryd.underlying74;exact ED;rfl;rfl;exact (by decide))|(apply OQ.load;exact EE;rfl;exact .here;exact (Row.cell rfl))|(apply OQ.aW;exact Tryd.underlying164;exact qO;rfl;rfl;exact (by decide))) rfl (JL.nil (kk default nofun))))
          iterate 4 ((focus (intro x EF MF Q kk;(try refine JL.bn rfl rfl ?_);exact JL.q (by (apply OQ.aW;exact Tryd.underlying128;exact qO;rfl;rfl;exact (hlt _ (by decide)))) rfl (JL.nil (kk default nofun))));(focus (intro x EF MF Q kk;exact JL.aU qO rfl rfl rfl rfl .here (by rw [hput];exact hlt _ (by decide)) (hset _) (JL.nil (kk (0,0) nofun)))))
        · intro x hx
          clear hx
          show JE _ _ _ _ _ [(1,Pt b1 0),(2,Pt b2 0),(3,Pt b3 0),(5,Pt b5 0),(6,Pt b6 0),(13,N r),(15,.agg (mI.map N).toArray),(16,N q)] [⟨b3,Row 128 ((jw v q (q4 v q) 4).map aV),true⟩,⟨b2,Row 125 ((List.replicate 64 (0 : B)).map U8),true⟩,⟨b1,Row 128 (s.map aV),true⟩]
          rw [← hnext]
          clear x vs Ms hput hset
          repeat (first | refine JL.q (by first|(apply OQ.move;rfl)|(apply OQ.bH;rfl;rfl;exact (by (try simp only []);omega))) rfl ?_ | refine JC.region ?_ | refine JL.nil ?_ | refine JE.next ?_ | refine JE.az ?_)
          exact JE.again (i:=q) (q+1) (by omega) (by omega) (by repeat (first | exact aj.nil | refine aj.cons _ _ _ rfl ?_)) (ax.refl _)
    · have hq' : ¬ q<8:=of_decide_eq_false h
      obtain rfl : q=8:=by omega
      clear h hq hq'
      repeat (first | refine JL.q (by first|(apply OQ.move;rfl)|(apply OQ.bH;rfl;rfl;exact (by (try simp only []);omega))) rfl ?_ | refine JC.region ?_ | refine JC.exit ?_ | refine JL.nil ?_ | refine JE.next ?_ | refine JE.az ?_ | refine JE.aB ?_ | refine JE.aG ?_)
      exact JE.again (i:=r) (r+1) (by omega) (by omega) (by repeat (first | exact aj.nil | refine aj.cons _ _ _ rfl ?_)) (ax.refl _)
  · have hr' : ¬ r<10:=of_decide_eq_false h
    obtain rfl : r=10:=by omega
    clear h hr hr'
    have hv16 : (st s (8 * 10)).length=16:=by rw [kW,hs]
    have hblA:=AT s
    rw [show st s (8 * 10)=st s 80 from rfl] at hv16 ⊢
    generalize hv : st s 80=v at hv16 hblA ⊢
    have hvl : (v.map aV).length=16:=by simpa using hv16
    repeat (first | refine JC.seq ?_ | refine JC.region ?_ | refine JC.exit ?_ | refine JE.next ?_ | refine JE.aB ?_ | refine JE.aG ?_)
    refine JL.alloc CT rfl fun b7 _=>?_
    repeat (first | refine JL.q (by first|(apply OQ.af (cs:=v.map aV);exact AN;exact uf;rfl;exact (.there .here);exact hvl;exact Row.all)|(apply OQ.move;rfl)) rfl ?_ | refine JC.seq ?_ | refine JC.region ?_ | refine JC.block ?_ | refine JL.nil ?_ | refine JE.next ?_)
    refine JC.loop (fun i : Nat=>[(1,Pt b1 0),(2,Pt b2 0),(7,Pt b7 0),(59,.agg (v.map aV).toArray),(60,N i)])
      (fun i=>[⟨b7,Row 125 ((Al s i).map U8),true⟩,⟨b2,Row 125 ((List.replicate 64 (0 : B)).map U8),true⟩,⟨b1,Row 128 (s.map aV),true⟩])
      (fun i=>16 - i) (fun i=>i≤16) 0 (by omega) (by repeat (first | exact aj.nil | refine aj.cons _ _ _ rfl ?_)) (.keep _ _ _ _ _ _ (fun _ h=>h) (.drop _ _ _ (ax.refl _))) ?_
    intro i hi
    repeat (first | refine JL.q (by (apply OQ.cF;rfl;rfl)) rfl ?_ | refine JC.seq ?_ | refine JC.region ?_ | refine JL.nil ?_ | refine JE.next ?_)
    refine JC.cond rfl (fun h=>?_) (fun h=>?_)
    · have hi' : i<16:=of_decide_eq_true h
      clear h hi
      have hbl:=nJ s i (by omega)
      have hset:=hblA i hi' _ rfl
      repeat (first | refine JL.q (by first|(apply OQ.index;exact Tryd.underlying128;exact qO;exact Ea;rfl;rfl;exact hi';exact (vq (by omega)))|(apply OQ.aW;exact Tryd.underlying128;exact qO;rfl;rfl;exact hi')|(apply OQ.load;exact Ea;rfl;exact (.there (.there .here));exact (Row.cell (vq (by omega))))|(apply OQ.move;rfl)|(apply OQ.assign;rfl)|(apply OQ.mh;rfl;rfl)|(apply OQ.oJ;rfl;rfl)|(apply OQ.bH;rfl;rfl;exact (by (try simp only []);omega))|(apply OQ.gN;rfl;rfl;exact (by (try simp only []);omega))|(apply OQ.qX;rfl;rfl;rfl)|(apply OQ.aW;rfl;rfl;rfl;rfl;exact (by (try simp only []);omega))) rfl ?_ | refine JC.seq ?_ | refine JC.region ?_ | refine JC.block ?_ | refine JC.skip ?_ | refine JL.nil ?_ | refine JE.next ?_)
      generalize (Al s i).map U8=r0 at hbl hset
      generalize v.getD i 0+s.getD i 0=z at hset
      skip
      refine JL.ej rfl rfl s5 rfl rfl .here (by (try simp only []);omega) ?_
      repeat (refine JL.q (by (apply OQ.aW;exact Tryd.underlying125;exact s5;rfl;rfl;exact (by (try simp only []);omega))) rfl ?_)
      refine JL.ej rfl rfl s5 rfl rfl .here (by rw [List.length_set];(try simp only []);omega) ?_
      repeat (refine JL.q (by (apply OQ.aW;exact Tryd.underlying125;exact s5;rfl;rfl;exact (by (try simp only []);omega))) rfl ?_)
      refine JL.ej rfl rfl s5 rfl rfl .here (by rw [List.length_set,List.length_set];(try simp only []);omega) ?_
      repeat (refine JL.q (by (apply OQ.aW;exact Tryd.underlying125;exact s5;rfl;rfl;exact (by (try simp only []);omega))) rfl ?_)
      refine JL.aU s5 rfl rfl rfl rfl .here (by rw [List.length_set,List.length_set,List.length_set];(try simp only []);omega) hset ?_
      repeat (first | refine JL.q (by first|(apply OQ.move;rfl)|(apply OQ.bH;rfl;rfl;exact (by (try simp only []);omega))) rfl ?_ | refine JC.region ?_ | refine JL.nil ?_ | refine JE.next ?_ | refine JE.az ?_)
      exact JE.again (i:=i) (i+1) (by omega) (by omega) (by repeat (first | exact aj.nil | refine aj.cons _ _ _ rfl ?_)) (ax.refl _)
    · have hi' : ¬ i<16:=of_decide_eq_false h
      obtain rfl : i=16:=by omega
      clear h hi hi'
      have hbl : Al s 16=block s:=by simp [Al,block]
      have hl:=nJ s 16 (by omega)
      rw [hbl] at hl ⊢
      repeat (first | refine JL.q (by (apply OQ.af (cs:=(block s).map U8);exact x9;exact s9;rfl;exact .here;exact hl;exact Row.all)) rfl ?_ | refine JC.seq ?_ | refine JC.region ?_ | refine JC.exit ?_ | refine JE.next ?_ | refine JE.aB ?_ | refine JE.aG ?_)
      refine JL.ag s9 rfl rfl hl (ee _) (.there .here) (by simp) ?_
      repeat (first | refine JL.nil ?_ | refine JE.next ?_)
      refine JC.ret (JE.aM rfl (RV.av x9 s9 rfl (.there .here) hl Row.all) ?_)
      exact fun w' hw=>⟨rfl,hw.aH⟩
end
section
set_option maxRecDepth 10000
open Sl ec gE
theorem Sl.ah.perm {w0 w : World} {S : List Nat} {M M' : List aJ} (h : ah w0 S M w) (hp : M.Perm M') : ah w0 S M' w:=
  ⟨h.aH,(hp.map aJ.b).nodup_iff.1 h.nodup,fun e he=>h.all e (hp.mem_iff.2 he)⟩
theorem JL.jk {P : Program} {n : Nat} {w0 : World} {S : List Nat} {ops : Array Oper} {Q : Exit→Act→World→Prop} {l : List Oper} {E : Env} {M M' : List aJ} (hp : M.Perm M') (h : JL P n w0 S ops Q l E M') : JL P n w0 S ops Q l E M:=⟨fun a w ha hw=>h.go a w ha (hw.perm hp)⟩
end
section
set_option maxRecDepth 10000
open Sl ec gE
theorem uh : aR Tryd.prog 50:=⟨_,Tryd.func50,rfl,by kernel_rfl⟩
theorem OQ.CV {P : Program} {n : Nat} {E : Env} {C : World→Prop} {dst : Option Tmp} {t ty e : TypeId} {pos : String} {aft : Array Edge} {g : Option (Nat × Bool)} {x y z : Operand} {len cap b j lo hi : Nat} (hu : P.underlying t=some (.slice e)) (hz : dm P e=some 1) (hx : ev E x=some (.slice (some ⟨b,j,none⟩) len cap)) (hl : ev E y=some (N lo)) (hh : ev E z=some (N hi)) (h : lo≤hi) (h' : hi≤cap) (h2 : lo<cap) :
    OQ P n E C ⟨dst,.slice t x (some y) (some z) none,ty,pos,aft,g⟩ (.slice (some ⟨b,j+lo,none⟩) (hi - lo) (cap - lo)):=by
  have:=OQ.gZ (P:=P) (n:=n) (E:=E) (C:=C) (dst:=dst) (ty:=ty) (pos:=pos) (aft:=aft) (g:=g) hu hz hx hl hh h h'
  rw [if_neg (by omega),Nat.mul_one] at this
  simpa [cG] using this
section
variable (key : List B) (ctr : W) (nonce l : List B)
def tz (j : Nat) : List B:=iU key ctr nonce (l.take j)++List.replicate (l.length - j) 0
theorem wG (j : Nat) (h : j≤l.length) : ((tz key ctr nonce l j).map U8).length=l.length:=by simp [tz,eD];omega
theorem AU : List.replicate (l.length * 1) (Value.int .u8 0)=(tz key ctr nonce l (min (64 * 0) l.length)).map U8:=by simp [tz,iU,fl,U8]
theorem CW : tz key ctr nonce l l.length=iU key ctr nonce l:=by simp [tz]
theorem CX (q i : Nat) (hi : i<64) (h : 64 * q+i<l.length) : ((tz key ctr nonce l (64 * q+i)).map U8).set (64 * q+i) (U8 (l.getD (64 * q+i) 0 ^^^ (ks key (ctr+BitVec.ofNat 32 q) nonce).getD i 0))=(tz key ctr nonce l (64 * q+i+1)).map U8:=by
  rw [← Ew key ctr nonce q i hi]
  generalize 64 * q+i=j at h ⊢
  have hl : (iU key ctr nonce (l.take j)).length=j:=by rw [eD,List.length_take];omega
  rw [← List.map_set,tz,List.set_append_right _ _ (by omega),hl,Nat.sub_self,tz,wm key ctr nonce l j h,show l.length - j=(l.length - (j+1))+1 by omega,List.replicate_succ,List.set_cons_zero]
  simp
theorem yx (q : Nat) : ctr+BitVec.ofNat 32 q+1#32=ctr+BitVec.ofNat 32 (q+1):=by rw [BitVec.add_assoc,BitVec.ofNat_add]
end
set_option maxHeartbeats 16000000 in
set_option maxRecDepth 4000 in
theorem wH (key : List B) (ctr : W) (nonce : List B) (s : aT) (hk : key.length=32) (hn : nonce.length=12) (w : World) (hQ : GQ w) (hs : s.ok w) (hsl : s.l.length<140737488355328) :
    Calls Tryd.prog 50 [.agg (key.map U8).toArray,aV ctr,.agg (nonce.map U8).toArray,s.v].toArray w fun e w'=>∃ b,e=.returned (.slice (some ⟨b,0,none⟩) s.l.length s.l.length)∧ah w [] [⟨b,Row 5 ((iU key ctr nonce s.l).map U8),true⟩] w':=by
  refine enter (n:=60) Tryd.func50 rfl rfl rfl (ah.start w []) ?_
  repeat (first | refine JC.seq ?_ | refine JC.region ?_)
  refine JL.box (r:=key.map U8) rfl rfl rfl fun b4 _=>?_
  refine JL.box (r:=nonce.map U8) rfl rfl rfl fun b6 _=>?_
  repeat (first | refine JL.q (by first|(apply OQ.af (cs:=key.map U8);exact ow;exact fA;rfl;exact (.there .here);exact (by simpa using hk);exact Row.all)|(apply OQ.af (cs:=nonce.map U8);exact FZ;exact FY;rfl;exact .here;exact (by simpa using hn);exact Row.all)|(apply OQ.an;exact nG;rfl;exact (fun w' _=>ox key ctr nonce hk hn w'))|(apply OQ.move;rfl)|(apply OQ.assign;rfl)) rfl ?_ | refine JC.seq ?_ | refine JC.region ?_ | refine JL.nil ?_ | refine JE.next ?_)
  refine JL.alloc AO rfl fun b9 _=>?_
  have hbl : ∀ c,((cO key c nonce).map aV).length=16:=fun c=>by rw [List.length_map,fT]
  refine JL.ag uf rfl rfl (hbl _) (lB _) .here (by simp) ?_
  repeat (first | refine JL.q (by first|(apply OQ.move;rfl)|(apply OQ.len;rfl;rfl)) rfl ?_ | refine JC.seq ?_ | refine JC.region ?_ | refine JL.nil ?_ | refine JE.next ?_)
  refine JL.make Tryd.underlying27 e5 rfl (by decide) (c:=s.l.length) rfl rfl (by omega) (by omega) rfl fun b10 _=>?_
  rw [AU key ctr nonce]
  repeat (first | refine JL.q (by (apply OQ.assign;rfl)) rfl ?_ | refine JC.seq ?_ | refine JC.region ?_ | refine JC.block ?_ | refine JL.nil ?_ | refine JE.next ?_)
  refine JC.loop (fun q : Nat=>[(3,s.v),(9,Pt b9 0),(10,.slice (some ⟨b10,0,none⟩) s.l.length s.l.length),(11,N (64 * q))])
    (fun q=>[⟨b10,Row 5 ((tz key ctr nonce s.l (min (64 * q) s.l.length)).map U8),true⟩,⟨b9,Row 128 ((cO key (ctr+BitVec.ofNat 32 q) nonce).map aV),true⟩])
    (fun q=>s.l.length+64 - 64 * q) (fun q=>64 * q<s.l.length+64) 0 (by omega) (by repeat (first | exact aj.nil | refine aj.cons _ _ _ rfl ?_)) (.keep _ _ _ _ _ _ (fun _ h=>h) (.keep _ _ _ _ _ _ (fun o ho=>by simpa using ho) (ax.nil _))) ?_
  intro q hq
  repeat (first | refine JL.q (by first|(apply OQ.move;rfl)|(apply OQ.len;rfl;rfl)|(apply OQ.cF;rfl;rfl)) rfl ?_ | refine JC.seq ?_ | refine JC.region ?_ | refine JL.nil ?_ | refine JE.next ?_)
  refine JC.cond rfl (fun h=>?_) (fun h=>?_)
  · have hq' : 64 * q<s.l.length:=of_decide_eq_true h
    clear h hq
    obtain ⟨bb,jb,hae,hcell⟩:=hs.reads.at (by simp;omega)
    have hav : s.v=.slice (some ⟨bb,jb,none⟩) s.l.length s.cap:=by rw [← hae];rfl
    have hcap:=hs.len
    have hksl : ((ks key (ctr+BitVec.ofNat 32 q) nonce).map U8).length=64:=by rw [List.length_map,oO]
    repeat (first | refine JL.q (by first|(apply OQ.af (cs:=(cO key (ctr+BitVec.ofNat 32 q) nonce).map aV);exact AN;exact uf;rfl;exact (.there .here);exact (hbl _);exact Row.all)|(apply OQ.an;exact ug;rfl;exact (fun w' hw'=>wF (cO key (ctr+BitVec.ofNat 32 q) nonce) (fT _ _ _) w' (hQ.aH hw'.aH (by simp))))) rfl ?_ | refine JC.seq ?_ | refine JC.region ?_ | refine JC.block ?_ | refine JC.skip ?_ | refine JE.next ?_)
    refine JL.alloc CT rfl fun b12 _=>?_
    refine JL.ag s9 rfl rfl hksl (ee _) .here (by simp) ?_
    rw [hav]
    obtain ⟨c,hc⟩ : ∃ c,c=min (64 * q+64) s.l.length - 64 * q:=⟨_,rfl⟩
    have hc1 : c≤64:=by omega
    have hc2 : 64 * q+c≤s.l.length:=by omega
    repeat (first | refine JL.q (by first|(apply OQ.FL;rfl;rfl)|(apply OQ.CV;exact Tryd.underlying27;exact s5;rfl;rfl;rfl;exact (by (try simp only []);omega);exact (by (try simp only []);omega);exact (by (try simp only []);omega))|(apply OQ.move;rfl)|(apply OQ.len;rfl;rfl)|(apply OQ.bH;rfl;rfl;exact (by (try simp only []);omega))) rfl ?_ | refine JC.seq ?_ | refine JC.region ?_ | refine JC.block ?_ | refine JL.nil ?_ | refine JE.next ?_)
    rw [← hc,Nat.min_eq_left (by omega : 64 * q≤s.l.length)]
    refine JC.loop (fun i : Nat=>[(3,.slice (some ⟨bb,jb,none⟩) s.l.length s.cap),(9,Pt b9 0),(10,.slice (some ⟨b10,0,none⟩) s.l.length s.l.length),(11,N (64 * q)),(12,Pt b12 0),(37,.slice (some ⟨bb,jb+64 * q,none⟩) c (s.cap - 64 * q)),(38,N c),(39,N i)])
      (fun i=>[⟨b12,Row 125 ((ks key (ctr+BitVec.ofNat 32 q) nonce).map U8),true⟩,⟨b10,Row 5 ((tz key ctr nonce s.l (64 * q+i)).map U8),true⟩,⟨b9,Row 128 ((cO key (ctr+BitVec.ofNat 32 q) nonce).map aV),true⟩])
      (fun i=>c - i) (fun i=>i≤c) 0 (by omega) (by repeat (first | exact aj.nil | refine aj.cons _ _ _ rfl ?_)) (ax.refl _) ?_
    intro i hi
    repeat (first | refine JL.q (by (apply OQ.cF;rfl;rfl)) rfl ?_ | refine JC.seq ?_ | refine JC.region ?_ | refine JL.nil ?_ | refine JE.next ?_)
    refine JC.cond rfl (fun h=>?_) (fun h=>?_)
    · have hi' : i<c:=of_decide_eq_true h
      clear h hi
      have hci : w.cell? ⟨bb,jb+64 * q+i,none⟩=some (U8 (s.l.getD (64 * q+i) 0)):=by
        rw [Nat.add_assoc]
        exact hcell _ _ (dx U8 0 (by omega))
      repeat (first | refine JL.q (by first|(apply OQ.eC;exact Tryd.underlying27;exact s5;rfl;rfl;exact hi')|(apply OQ.aL;exact c5;rfl;exact (block_lt_of_cell hci);exact (by simp);exact hci)|(apply OQ.aW;exact Tryd.underlying125;exact s5;rfl;rfl;exact (by (try simp only []);omega))|(apply OQ.load;exact c5;rfl;exact .here;exact (Row.cell (dx U8 0 (by rw [oO];omega))))|(apply OQ.Eh;exact Tryd.underlying27;exact s5;rfl;rfl;exact (show 64 * q+i<s.l.length by omega))|(apply OQ.move;rfl)|(apply OQ.assign;rfl)|(apply OQ.Eg;rfl;rfl)|(apply OQ.bH;rfl;rfl;exact (by (try simp only []);omega))) rfl ?_ | refine JC.seq ?_ | refine JC.region ?_ | refine JC.block ?_ | refine JC.skip ?_ | refine JL.nil ?_ | refine JE.next ?_)
      refine JL.aU s5 rfl rfl rfl rfl (.there .here) (by rw [wG _ _ _ _ _ (by omega)];omega) (CX key ctr nonce s.l q i (by omega) (by omega)) ?_
      repeat (first | refine JL.q (by first|(apply OQ.move;rfl)|(apply OQ.bH;rfl;rfl;exact (by (try simp only []);omega))) rfl ?_ | refine JC.region ?_ | refine JL.nil ?_ | refine JE.next ?_ | refine JE.az ?_)
      exact JE.again (i:=i) (i+1) (by omega) (by omega) (by repeat (first | exact aj.nil | refine aj.cons _ _ _ rfl ?_)) (ax.refl _)
    · have hi' : ¬ i<c:=of_decide_eq_false h
      obtain rfl : i=c:=by omega
      clear h hi hi'
      have hg : ((cO key (ctr+BitVec.ofNat 32 q) nonce).map aV)[12]?=some (aV (ctr+BitVec.ofNat 32 q)):=by
        have:=vq (s:=cO key (ctr+BitVec.ofNat 32 q) nonce) (j:=12) (by rw [fT];decide)
        rwa [tI] at this
      have hset : ((cO key (ctr+BitVec.ofNat 32 q) nonce).map aV).set 12 (aV (ctr+BitVec.ofNat 32 q+1#32))=(cO key (ctr+BitVec.ofNat 32 (q+1)) nonce).map aV:=by
        rw [← List.map_set,tH,yx]
      rw [← hav]
      repeat (first | refine JL.q (by first|(apply OQ.aW;exact Tryd.underlying128;exact qO;rfl;rfl;exact (by decide))|(apply OQ.load;exact Ea;rfl;exact (.there (.there .here));exact (Row.cell hg))|(apply OQ.mh (b:=1#32);rfl;rfl)) rfl ?_ | refine JC.region ?_ | refine JC.exit ?_ | refine JE.next ?_ | refine JE.aB ?_ | refine JE.aG ?_)
      refine JL.aU qO rfl rfl rfl rfl (.there (.there .here)) (by rw [hbl];decide) hset ?_
      repeat (first | refine JL.q (by first|(apply OQ.move;rfl)|(apply OQ.assign;rfl)|(apply OQ.bH;rfl;rfl;exact (by (try simp only []);omega))) rfl ?_ | refine JC.region ?_ | refine JL.nil ?_ | refine JE.next ?_ | refine JE.az ?_)
      rw [show 64 * q+64=64 * (q+1) by omega]
      exact JE.again (i:=q) (q+1) (by omega) (by omega) (by repeat (first | exact aj.nil | refine aj.cons _ _ _ rfl ?_)) (.drop _ _ _ (.keep _ _ _ _ _ _ (fun o ho=>by rw [show min (64 * (q+1)) s.l.length=64 * q+i by omega];exact ho) (ax.refl _)))
  · have hq' : ¬ 64 * q<s.l.length:=of_decide_eq_false h
    clear h
    repeat (first | refine JL.q (by first|(apply OQ.move;rfl)|(apply OQ.assign;rfl)) rfl ?_ | refine JC.seq ?_ | refine JC.region ?_ | refine JC.exit ?_ | refine JL.nil ?_ | refine JE.next ?_ | refine JE.aB ?_ | refine JE.aG ?_)
    refine JC.ret ?_
    skip
    refine JE.aM rfl (RV.tmp rfl) fun w' hw=>⟨b10,rfl,hw.weak (.keep _ _ _ _ _ _ (fun o ho=>?_) (ax.nil _))⟩
    rw [Nat.min_eq_right (by omega),CW] at ho
    exact ho
end
section
set_option maxRecDepth 10000
open Sl ec gE
end
section
set_option maxRecDepth 10000
open Sl ec gE
theorem wI (key : List B) (ctr : W) (nonce : List B) (s : aT) {va : Value} (hva : s.v=va) (hk : key.length=32) (hn : nonce.length=12) (w : World) (hQ : GQ w) (hs : s.ok w) (hsl : s.l.length<140737488355328) :
    Calls Tryd.prog 50 [.agg (key.map U8).toArray,aV ctr,.agg (nonce.map U8).toArray,va].toArray w fun e w'=>∃ b,e=.returned (.slice (some ⟨b,0,none⟩) s.l.length s.l.length)∧ah w [] [⟨b,Sl.cJ 5 1 s.l.length s.l.length ((iU key ctr nonce s.l).map U8),true⟩] w':=by
  subst hva
  exact (wH key ctr nonce s hk hn w hQ hs hsl).mono fun e w' ⟨b,h1,h2⟩=>⟨b,h1,h2.weak (.keep _ _ _ _ _ _ (AJ (by simp [eD])) (ax.nil _))⟩
end
section
set_option maxRecDepth 10000
open Sl ec gE
def mz (a1 a2 nonce side p : List B) : List B:=iU a1 1#32 nonce p++cY a2 (msg nonce side (iU a1 1#32 nonce p))
theorem B4 (k b : List B) : (cY k b).length=32:=rfl
theorem kf (a1 a2 nonce side p : List B) : (mz a1 a2 nonce side p).length=p.length+32:=by rw [mz,List.length_append,eD,B4]
theorem wJ : aR Tryd.prog 27:=⟨_,Tryd.func27,rfl,by kernel_rfl⟩
theorem yy {nonce : List B} {s c : aT} {vc : Value} (hvc : c.v=vc) (hn : nonce.length=12) {w : World} (hs : s.ok w) (hc : c.ok w) (hsl : s.l.length<35184372088832) (hcl : c.l.length<35184372088832) :
    Calls Tryd.prog 51 [.agg (nonce.map U8).toArray,s.v,vc].toArray w fun e w'=>∃ x : Nat × Nat,e=.returned (.slice (some ⟨x.1,0,none⟩) (msg nonce s.l c.l).length x.2)∧ah w [] [⟨x.1,Sl.cJ 5 1 (msg nonce s.l c.l).length x.2 ((msg nonce s.l c.l).map U8),true⟩] w':=by
  subst hvc
  exact rT nonce s c hn w hs hc hsl hcl
theorem CY {w0 w : World} {S : List Nat} {M : List aJ} {a2 m : List B} (ha : a2.length=32) (hml : m.length<1000000000) {b10 bL bm cm : Nat} (hw : ah w0 S M w) (hG : fI w) (h1 : Has M b10 (Row 23 (a2.map U8)) true) (h2 : Has M bL (Row 27 [.slice (some ⟨bm,0,none⟩) m.length cm]) true) (h3 : Has M bm (Sl.cJ 5 1 m.length cm (m.map U8)) true) :
    Calls Tryd.prog 48 [.slice (some ⟨b10,0,none⟩) 32 32,.slice (some ⟨bL,0,none⟩) 1 1].toArray w fun e w''=>e=.returned (.agg ((cY a2 m).map U8).toArray)∧Ext w w'':=by
  obtain ⟨o2,ho2,hA2⟩:=hw.get h2
  have:=ke ⟨some ⟨b10,0,none⟩,32,a2⟩ (some ⟨bL,0,none⟩) 1 [⟨some ⟨bm,0,none⟩,cm,m⟩] w hG (ju hw h1 rfl (Nat.le_of_eq ha)) (Reads.block ho2 (Row.all _ hA2)) (by simpa using dN hw h3) (show a2.length<4611686018427387904 by omega) (by simp) (by simp [total];omega)
  simpa [aT.v,ha] using this
def EJ : Nat→List (Nat × Nat)
  | 4=>[(1,24),(2,25),(3,26)]
  | 5=>[(4,27)]
  | 6=>[(0,23),(5,28)]
  | 8=>[(7,12),(6,29)]
  | _=>[]
def F7 : Nat→List Nat
  | 1=>[12]
  | 4=>[9]
  | 5=>[4]
  | 6=>[5,10]
  | 8=>[7]
  | _=>[]
def F8 : Nat→List Nat
  | 5=>[4]
  | 8=>[7]
  | _=>[]
def F9 : Nat→Option Nat
  | 8=>some 7
  | _=>none
set_option maxHeartbeats 4000000 in
set_option maxRecDepth 4000 in
theorem yz (key nonce : List B) (s p : aT) (hk : key.length=32) (hn : nonce.length=12) (w : World) (hG : fI w) (hQ : GQ w) (hs : s.ok w) (hp : p.ok w) (hsl : s.l.length<100000000) (hpl : p.l.length<100000000) :
    Calls Tryd.prog 27 [.agg (key.map U8).toArray,.agg (nonce.map U8).toArray,s.v,p.v].toArray w fun e w'=>∃ x : Nat × Nat,e=.returned (.slice (some ⟨x.1,0,none⟩) (p.l.length+32) x.2)∧ah w [] [⟨x.1,Sl.cJ 5 1 (p.l.length+32) x.2 ((mz (k1 key) (k2 key) nonce s.l p.l).map U8),true⟩] w':=by
  have hTwo:=AK key hk
  have h1:=lq key
  have h2:=lu key
  generalize k1 key=a1 at hTwo h1 ⊢
  generalize k2 key=a2 at hTwo h2 ⊢
  have hTl:=eD a1 1#32 nonce p.l
  have hT0:=fun w' (h : GQ w') (h' : p.ok w')=>wI a1 1#32 nonce p rfl h1 hn w' h h' (by omega)
  rw [mz]
  generalize iU a1 1#32 nonce p.l=T at hTl hT0 ⊢
  have hml:=nA nonce s.l T
  have hM0:=fun (w' : World) (b c : Nat) (hs' : s.ok w') (h : aT.ok w' ⟨some ⟨b,0,none⟩,c,T⟩)=>yy (c:=⟨some ⟨b,0,none⟩,c,T⟩) (vc:=.slice (some ⟨b,0,none⟩) p.l.length c) (by simp [aT.v,hTl]) hn hs' h (show s.l.length<35184372088832 by omega) (show T.length<35184372088832 by omega)
  simp only [] at hM0
  rw [hn,hTl] at hml
  generalize msg nonce s.l T=m at hml hM0 ⊢
  refine enter (n:=40) Tryd.func27 rfl rfl rfl (ah.start w []) ?_
  repeat (first | refine JC.seq ?_ | refine JC.region ?_)
  refine JL.box (r:=key.map U8) rfl rfl rfl fun b4 _=>?_
  refine JL.box (r:=nonce.map U8) rfl rfl rfl fun b5 _=>?_
  repeat (first | refine JL.q (by first|(apply OQ.af (cs:=key.map U8);exact ow;exact fA;rfl;exact (.there .here);exact (by simpa using hk);exact Row.all)|(apply OQ.an;exact yw;rfl;exact (fun w' hw'=>hTwo w' (hG.aH hw'.aH (by simp))))|(apply OQ.extract;rfl;rfl)|(apply OQ.move;rfl)|(apply OQ.assign;rfl)) rfl ?_ | refine JC.seq ?_ | refine JC.region ?_ | refine JL.nil ?_ | refine JE.next ?_)
  refine JL.alloc ie rfl fun b9 _=>?_
  refine JL.alloc ie rfl fun b10 _=>?_
  skip
  refine JL.ag fA rfl rfl (by simpa using h1) (ee _) (.there .here) (by simp) ?_
  refine JL.ag fA rfl rfl (by simpa using h2) (ee _) .here (by simp) ?_
  repeat (first | refine JL.q (by first|(apply OQ.af (cs:=a1.map U8);exact ow;exact fA;rfl;exact (.there .here);exact (by simpa using h1);exact Row.all)|(apply OQ.af (cs:=nonce.map U8);exact FZ;exact FY;rfl;exact (.there (.there .here));exact (by simpa using hn);exact Row.all)|(apply OQ.move;rfl)) rfl ?_ | refine JC.seq ?_ | refine JC.region ?_ | refine JL.nil ?_ | refine JE.next ?_)
  refine JL.dK (ι:=Nat) (fun b=>.slice (some ⟨b,0,none⟩) p.l.length p.l.length) (fun b=>[⟨b,Sl.cJ 5 1 p.l.length p.l.length (T.map U8),true⟩]) uh rfl rfl (fun i=>by simp) (fun w' hw'=>hT0 w' (hQ.aH hw'.aH (by simp)) (hp.holds hw' rfl)) fun b11=>?_
  try dsimp only
  repeat (first | refine JL.q (by (apply OQ.assign;rfl)) rfl ?_ | refine JC.seq ?_ | refine JL.nil ?_ | refine JE.next ?_)
  let vs : Nat→X3→Value:=fun j x=>match j with
    | 0=>.slice (some ⟨b10,0,none⟩) 32 32
    | 1=>.agg (nonce.map U8).toArray
    | 2=>s.v
    | 3=>.slice (some ⟨b11,0,none⟩) p.l.length p.l.length
    | 4=>.slice (some ⟨x.1,0,none⟩) m.length x.2.1
    | 5=>.slice (some ⟨x.1,0,none⟩) 1 1
    | 6=>.agg ((cY a2 m).map U8).toArray
    | _=>Pt x.1 0
  let Ms : Nat→X3→List aJ:=fun j x=>match j with
    | 4=>[⟨x.1,Sl.cJ 5 1 m.length x.2.1 (m.map U8),true⟩]
    | 5=>[⟨x.1,Row 27 [.slice (some ⟨x.2.1,0,none⟩) m.length x.2.2],true⟩,⟨x.2.1,Sl.cJ 5 1 m.length x.2.2 (m.map U8),true⟩]
    | 7=>[⟨x.1,Row 23 ((List.replicate 32 (0 : B)).map U8),true⟩]
    | 8=>[⟨x.1,Row 23 ((cY a2 m).map U8),true⟩]
    | 9=>[⟨b11,Sl.cJ 5 1 p.l.length p.l.length (T.map U8),true⟩]
    | 10=>[⟨b10,Row 23 (a2.map U8),true⟩]
    | 11=>[⟨b9,Row 23 (a1.map U8),true⟩]
    | 12=>[⟨b5,Row 67 (nonce.map U8),true⟩]
    | 13=>[⟨b4,Row 23 (key.map U8),true⟩]
    | _=>[]
  refine JC.grow (g:=⟨[(2,s.v),(5,Pt b5 0),(10,Pt b10 0),(11,.slice (some ⟨b11,0,none⟩) p.l.length p.l.length)],14,vs,Ms,EJ,F7,F8,F9⟩) [(7,12)] [8,9] mixed (by repeat (first | exact aj.nil | refine aj.cons _ _ _ rfl ?_)) (ax.refl _) (by kernel_rfl) (by kernel_rfl) (by kernel_rfl) ?_ ?_
  · refine ⟨?_,?_,?_,?_,?_,?_,?_,?_,?_,trivial⟩
    iterate 4 (focus (intro x EF MF Q kk;(try refine JL.bn rfl rfl ?_);exact JL.q (by first|(apply OQ.iT;exact Tryd.underlying23;exact s5;rfl)|(apply OQ.af (cs:=nonce.map U8);exact FZ;exact FY;rfl;exact .here;exact (by simpa using hn);exact Row.all)|(apply OQ.move;rfl)) rfl (JL.nil (kk default nofun))))
    · intro x EF MF Q kk
      exact JL.dK (ι:=Nat × Nat) (fun x=>.slice (some ⟨x.1,0,none⟩) m.length x.2) (fun x=>[⟨x.1,Sl.cJ 5 1 m.length x.2 (m.map U8),true⟩]) qd rfl rfl (fun i=>by simp) (fun w' hw'=>hM0 w' b11 p.l.length (hs.holds hw' rfl) (dN hw' .here)) fun i=>JL.nil (kk (i.1,i.2,0) nofun)
    · intro x EF MF Q kk
      exact JL.gy Tryd.underlying88 tV rfl rfl rfl rfl fun b _=>JL.nil (kk (b,(x 4).1,(x 4).2.1) nofun)
    · intro x EF MF Q kk
      exact JL.q (OQ.an (vs:=[.slice (some ⟨b10,0,none⟩) 32 32,.slice (some ⟨(x 5).1,0,none⟩) 1 1]) ep rfl fun w' hw'=>CY h2 (by omega) hw' (hG.aH hw'.aH (by simp)) (.there (.there .here)) .here (.there .here)) rfl (JL.nil (kk default nofun))
    · intro x EF MF Q kk
      exact JL.alloc ie rfl fun b _=>JL.nil (kk (b,0,0) nofun)
    · intro x EF MF Q kk
      exact JL.ag fA rfl rfl (dW _) (ee _) .here (by simp) (JL.nil (kk (x 7) (fun k h=>by cases h;rfl)))
  · intro x hx
    have h8:=hx 8 7 (by decide) rfl
    show JE _ _ _ _ _ [(12,Pt (x 7).1 0),(2,s.v),(5,Pt b5 0),(10,Pt b10 0),(11,.slice (some ⟨b11,0,none⟩) p.l.length p.l.length)] [⟨(x 8).1,Row 23 ((cY a2 m).map U8),true⟩,⟨b11,Sl.cJ 5 1 p.l.length p.l.length (T.map U8),true⟩]
    rw [h8]
    generalize (x 7).1=b12
    clear hx h8 x vs Ms
    repeat (first | refine JL.q (by first|(apply OQ.move;rfl)|(apply OQ.len;rfl;rfl)|(apply OQ.bH;rfl;rfl;exact (by (try simp only []);omega))) rfl ?_ | refine JC.seq ?_ | refine JC.region ?_ | refine JE.next ?_)
    refine JL.vi (c:=p.l.length+32) Tryd.underlying27 e5 rfl rfl (by omega) rfl fun b13 _=>?_
    repeat (first | refine JL.q (by first|(apply OQ.move;rfl)|(apply OQ.assign;rfl)) rfl ?_ | refine JC.seq ?_ | refine JC.region ?_ | refine JL.nil ?_ | refine JE.next ?_)
    refine JL.append (cs:=T.map U8) (fun b' cap'=>[⟨b',Sl.cJ 5 1 (0+p.l.length) cap' ([]++T.map U8),true⟩,⟨b12,Row 23 ((cY a2 m).map U8),true⟩,⟨b11,Sl.cJ 5 1 p.l.length p.l.length (T.map U8),true⟩]) Tryd.underlying27 e5 rfl rfl (by intro _ _;repeat (first | exact c9.here | apply c9.there)) (by simpa using hTl) (fun w' hw'=>(dN hw' (.there (.there .here))).reads) (ia _) rfl (by decide) (by omega) (by omega) rfl fun b13 cap13=>?_
    rw [List.nil_append,Nat.zero_add]
    repeat (first | refine JL.q (by first|(apply OQ.iT;exact Tryd.underlying23;exact s5;rfl)|(apply OQ.move;rfl)|(apply OQ.assign;rfl)) rfl ?_ | refine JC.seq ?_ | refine JC.region ?_ | refine JL.nil ?_ | refine JE.next ?_)
    refine JL.append (cs:=(cY a2 m).map U8) (fun b' cap'=>[⟨b',Sl.cJ 5 1 (p.l.length+32) cap' (T.map U8++(cY a2 m).map U8),true⟩,⟨b12,Row 23 ((cY a2 m).map U8),true⟩,⟨b11,Sl.cJ 5 1 p.l.length p.l.length (T.map U8),true⟩]) Tryd.underlying27 e5 rfl rfl (by intro _ _;repeat (first | exact c9.here | apply c9.there)) (dW _) (fun w' hw'=>(ju (cap:=32) hw' (.there .here) rfl (Nat.le_of_eq (B4 _ _))).reads) (ia _) rfl (by decide) (by omega) (by omega) rfl fun b13 cap13=>?_
    rw [← List.map_append]
    repeat (first | refine JL.q (by (apply OQ.assign;rfl)) rfl ?_ | refine JL.nil ?_ | refine JE.next ?_)
    refine JC.ret ?_
    skip
    exact JE.aM rfl (RV.tmp rfl) fun w' hw=>⟨(b13,cap13),rfl,hw.weak (.keep _ _ _ _ _ _ (fun _ h=>h) (ax.nil _))⟩
end
section
namespace cV
def Prim (n : Nat) : Prop:=1<n∧∀ m,m∣n→m=1∨m=n
def ch : Nat→Nat→Nat
  | _,0=>1
  | 0,_+1=>0
  | n+1,k+1=>ch n k+ch n (k+1)
theorem qg (n : Nat) : ch n 0=1:=by cases n <;> rfl
theorem mS : ∀ n k : Nat,n<k→ch n k=0
  | 0,0,h=>absurd h (by decide)
  | 0,_+1,_=>rfl
  | n+1,0,h=>absurd h (by omega)
  | n+1,k+1,h=>by
    show ch n k+ch n (k+1)=0
    rw [mS n k (by omega),mS n (k+1) (by omega)]
theorem vr : ∀ n : Nat,ch n n=1
  | 0=>rfl
  | n+1=>by
    show ch n n+ch n (n+1)=1
    rw [vr n,mS n (n+1) (by omega)]
theorem qi : ∀ n j : Nat,(j+1) * ch (n+1) (j+1)=(n+1) * ch n j
  | 0,0=>by decide
  | 0,j+1=>by
    show (j+1+1) * (ch 0 (j+1)+ch 0 (j+1+1))=(0+1) * ch 0 (j+1)
    simp [ch]
  | n+1,0=>by
    have h:=qi n 0
    show (0+1) * (ch (n+1) 0+ch (n+1) (0+1))=(n+1+1) * ch (n+1) 0
    rw [qg] at *
    omega
  | n+1,k+1=>by
    have h1:=qi n k
    have h2:=qi n (k+1)
    have h3 : ch (n+1) (k+1)=ch n k+ch n (k+1):=rfl
    show (k+1+1) * (ch (n+1) (k+1)+ch (n+1) (k+1+1))=(n+1+1) * ch (n+1) (k+1)
    have e1 : (k+1+1) * (ch (n+1) (k+1)+ch (n+1) (k+1+1))=(k+1) * ch (n+1) (k+1)+ch (n+1) (k+1)+(k+1+1) * ch (n+1) (k+1+1):=by
      rw [Nat.mul_add,Nat.add_mul (k+1) 1,Nat.one_mul]
    have e2 : (n+1+1) * ch (n+1) (k+1)=(n+1) * ch n k+(n+1) * ch n (k+1)+ch (n+1) (k+1):=by
      rw [Nat.add_mul (n+1) 1,Nat.one_mul,h3,Nat.mul_add]
    rw [e1,e2,h1,h2];omega
def bs (a n : Nat) : Nat→Nat
  | 0=>0
  | k+1=>bs a n k+ch n k * a ^ k
theorem vt (a n : Nat) : ∀ k,bs a (n+1) (k+1)=bs a n (k+1)+a * bs a n k
  | 0=>by simp [bs,qg]
  | k+1=>by
    have h:=vt a n k
    have e1 : bs a (n+1) (k+1+1)=bs a (n+1) (k+1)+(ch n k+ch n (k+1)) * a ^ (k+1):=rfl
    have e2 : bs a n (k+1+1)=bs a n (k+1)+ch n (k+1) * a ^ (k+1):=rfl
    have e3 : bs a n (k+1)=bs a n k+ch n k * a ^ k:=rfl
    have e4 : a * bs a n (k+1)=a * bs a n k+ch n k * a ^ (k+1):=by
      rw [e3,Nat.mul_add,Nat.pow_succ,Nat.mul_left_comm,Nat.mul_comm a (a ^ k)]
    rw [e1,h,e2,e4,Nat.add_mul];omega
theorem B5 (a : Nat) : ∀ n,(a+1) ^ n=bs a n (n+1)
  | 0=>by simp [bs,ch]
  | n+1=>by
    have h:=B5 a n
    rw [vt,Nat.pow_succ,h,Nat.mul_add,Nat.mul_one,Nat.mul_comm]
    have : bs a n (n+1+1)=bs a n (n+1)+ch n (n+1) * a ^ (n+1):=rfl
    rw [this,mS n (n+1) (by omega)];omega
theorem Prim.yA {p a b : Nat} (h : Prim p) (d : p∣a * b) : p∣a∨p∣b:=by
  cases h.2 (Nat.gcd p a) (Nat.gcd_dvd_left p a) with
  | inl e=>exact Or.inr (Nat.Coprime.dvd_of_dvd_mul_left e d)
  | inr e=>exact Or.inl (e ▸ Nat.gcd_dvd_right p a)
theorem Prim.ch {p : Nat} (h : Prim p) (j : Nat) (h0 : 0<j) (h1 : j<p) : p∣ch p j:=by
  obtain ⟨n,rfl⟩ : ∃ n,p=n+1:=⟨p - 1,by have:=h.1;omega⟩
  obtain ⟨k,rfl⟩ : ∃ k,j=k+1:=⟨j - 1,by omega⟩
  have e:=qi n k
  cases h.yA (a:=k+1) (b:=cV.ch (n+1) (k+1)) ⟨_,e⟩ with
  | inl d=>exact absurd (Nat.le_of_dvd (by omega) d) (by omega)
  | inr d=>exact d
theorem yB {p : Nat} (h : Prim p) (a : Nat) : ∀ k,k<p→bs a p (k+1) % p=1 % p
  | 0,_=>by simp [bs,qg]
  | k+1,hk=>by
    have e : bs a p (k+1+1)=bs a p (k+1)+cV.ch p (k+1) * a ^ (k+1):=rfl
    obtain ⟨c,hc⟩:=h.ch (k+1) (by omega) hk
    rw [e,hc,Nat.mul_assoc,Nat.add_mul_mod_self_left]
    exact yB h a k (by omega)
theorem Ga {p : Nat} (h : Prim p) (a : Nat) : (a+1) ^ p % p=(a ^ p+1) % p:=by
  obtain ⟨n,rfl⟩ : ∃ n,p=n+1:=⟨p - 1,by have:=h.1;omega⟩
  rw [B5]
  have e : bs a (n+1) (n+1+1)=bs a (n+1) (n+1)+cV.ch (n+1) (n+1) * a ^ (n+1):=rfl
  rw [e,vr,Nat.one_mul,Nat.add_mod,yB h a n (by omega),← Nat.add_mod,Nat.add_comm]
theorem vu {p : Nat} (h : Prim p) : ∀ a : Nat,a ^ p % p=a % p
  | 0=>by rw [Nat.zero_pow (by have:=h.1;omega)]
  | a+1=>by rw [Ga h,Nat.add_mod,vu h a,← Nat.add_mod]
theorem yC {p : Nat} (h : Prim p) (a : Nat) (ha : ¬ p∣a) : a ^ (p - 1) % p=1:=by
  have h1:=h.1
  have e:=vu h a
  have e2 : a ^ p=a * a ^ (p - 1):=by
    have : p=(p - 1)+1:=by omega
    rw [Nat.mul_comm,← Nat.pow_succ,Nat.succ_eq_add_one,← this]
  have pos : 0<a ^ (p - 1):=Nat.pow_pos (Nat.pos_of_ne_zero (fun h=>ha (h ▸ Nat.dvd_zero p)))
  have d : p∣a * (a ^ (p - 1) - 1):=by
    rw [Nat.mul_sub,Nat.mul_one,← e2]
    exact (Nat.dvd_of_mod_eq_zero (Nat.sub_mod_eq_zero_of_mod_eq e))
  cases h.yA d with
  | inl d=>exact absurd d ha
  | inr d=>
    obtain ⟨c,hc⟩:=d
    have : a ^ (p - 1)=1+p * c:=by omega
    rw [this,Nat.add_mul_mod_self_left,Nat.mod_eq_of_lt h1]
theorem AV {r c : Nat} : ∀ m n : Nat,c ^ m % r=1 % r→c ^ n % r=1 % r→c ^ Nat.gcd m n % r=1 % r:=by
  intro m n
  induction m,n using Nat.gcd.induction with
  | H0 n=>intro _ h;rw [Nat.gcd_zero_left];exact h
  | H1 m n hm ih=>
    intro h1 h2
    rw [Nat.gcd_rec]
    refine ih ?_ h1
    have e : c ^ n=(c ^ m) ^ (n / m) * c ^ (n % m):=by
      rw [← Nat.pow_mul,← Nat.pow_add,Nat.div_add_mod]
    rw [e,Nat.mul_mod,Nat.pow_mod,h1,← Nat.pow_mod,Nat.one_pow,← Nat.mul_mod,Nat.one_mul] at h2
    exact h2
theorem part (n : Nat) : 1<n→∃ r,Prim r∧r∣n:=by
  induction n using Nat.strongRecOn with
  | _ n ih=>
    intro h
    by_cases hp : Prim n
    · exact ⟨n,hp,Nat.dvd_refl n⟩
    · have : ∃ m,m∣n∧m≠1∧m≠n:=by
        refine Classical.byContradiction fun hn=>hp ⟨h,fun m hm=>?_⟩
        by_cases h1 : m=1
        · exact Or.inl h1
        · by_cases h2 : m=n
          · exact Or.inr h2
          · exact absurd ⟨m,hm,h1,h2⟩ hn
      obtain ⟨m,hm,h1,h2⟩:=this
      have hle:=Nat.le_of_dvd (by omega) hm
      have h0 : m≠0:=fun e=>by rw [e] at hm;have:=Nat.eq_zero_of_zero_dvd hm;omega
      obtain ⟨r,hr,hd⟩:=ih m (by omega) (by omega)
      exact ⟨r,hr,Nat.dvd_trans hd hm⟩
theorem small (n : Nat) (h : 1<n) (no : ∀ r,Prim r→r∣n→n<r * r) : Prim n:=by
  refine ⟨h,fun m hm=>?_⟩
  by_cases h1 : m=1
  · exact Or.inl h1
  by_cases h2 : m=n
  · exact Or.inr h2
  exfalso
  obtain ⟨k,hk⟩:=hm
  have m0 : m≠0:=fun e=>by rw [e,Nat.zero_mul] at hk;omega
  have k0 : k≠0:=fun e=>by rw [e,Nat.mul_zero] at hk;omega
  have k1 : k≠1:=fun e=>by rw [e,Nat.mul_one] at hk;exact h2 hk.symm
  have two : ∀ a b,n=a * b→1<a→a≤b→False:=fun a b e ha hab=>by
    obtain ⟨r,hr,hd⟩:=part a ha
    have q1:=no r hr (Nat.dvd_trans hd ⟨b,e⟩)
    have q2:=Nat.le_of_dvd (by omega) hd
    have q3:=Nat.mul_le_mul q2 (Nat.le_trans q2 hab)
    omega
  cases Nat.le_total m k with
  | inl hl=>exact two m k hk (by omega) hl
  | inr hl=>exact two k m (by rw [hk,Nat.mul_comm]) (by omega) hl
theorem CZ {N r q k a : Nat} (hr : Prim r) (hd : r∣N) (hN : 1<N) (hq : Prim q) (hk : N - 1=k * q)
    (h1 : a ^ (k * q) % N=1) (h2 : Nat.gcd (a ^ k % N+N - 1) N=1) : q∣r - 1:=by
  have r1:=hr.1
  have hp : ∀ x,x % N % r=x % r:=fun x=>Nat.mod_mod_of_dvd x hd
  have e1 : (a ^ k) ^ q % r=1 % r:=by rw [← Nat.pow_mul,← hp,h1]
  have na : ¬ r∣a ^ k:=fun d=>by
    obtain ⟨c,hc⟩:=d
    have : q≠0:=by have:=hq.1;omega
    obtain ⟨q',rfl⟩ : ∃ q',q=q'+1:=⟨q - 1,by omega⟩
    rw [Nat.pow_succ,hc,Nat.mul_comm,Nat.mul_assoc,Nat.mul_mod_right,Nat.mod_eq_of_lt r1] at e1
    exact absurd e1 (by decide)
  have e2 : (a ^ k) ^ (r - 1) % r=1 % r:=by rw [yC hr _ na,Nat.mod_eq_of_lt r1]
  have e3:=AV _ _ e1 e2
  cases hq.2 _ (Nat.gcd_dvd_left q (r - 1)) with
  | inr e=>rw [← e];exact Nat.gcd_dvd_right q (r - 1)
  | inl e=>
    exfalso
    rw [e,Nat.pow_one,← hp] at e3
    have d : r∣a ^ k % N+N - 1:=by
      have:=Nat.sub_mod_eq_zero_of_mod_eq e3
      have d1:=Nat.dvd_of_mod_eq_zero this
      have : a ^ k % N+N - 1=(a ^ k % N - 1)+N:=by
        have : a ^ k % N≠0:=fun z=>by rw [z,Nat.zero_mod,Nat.mod_eq_of_lt r1] at e3;exact absurd e3 (by decide)
        omega
      rw [this]
      exact Nat.dvd_add d1 hd
    have d2:=Nat.dvd_gcd d hd
    rw [h2] at d2
    have:=Nat.le_of_dvd (by decide) d2
    omega
theorem EK {N q k a : Nat} (hN : 1<N) (hq : Prim q) (hk : N - 1=k * q) (big : N<q * q)
    (h1 : a ^ (k * q) % N=1) (h2 : Nat.gcd (a ^ k % N+N - 1) N=1) : Prim N:=by
  refine small N hN fun r hr hd=>?_
  have d:=CZ hr hd hN hq hk h1 h2
  have:=hr.1
  have l:=Nat.le_of_dvd (by omega) d
  have:=Nat.mul_le_mul (Nat.le_trans l (Nat.sub_le r 1)) (Nat.le_trans l (Nat.sub_le r 1))
  omega
theorem EL {N q k q' k' a : Nat} (hN : 1<N) (hq : Prim q) (hk : N - 1=k * q) (hq' : Prim q') (hk' : N - 1=k' * q') (ne : Nat.gcd q q'=1) (big : N<q * q' * (q * q'))
    (h1 : a ^ (k * q) % N=1) (h2 : Nat.gcd (a ^ k % N+N - 1) N=1) (h3 : Nat.gcd (a ^ k' % N+N - 1) N=1) : Prim N:=by
  refine small N hN fun r hr hd=>?_
  have d:=Nat.Coprime.mul_dvd_of_dvd_of_dvd ne (CZ hr hd hN hq hk h1 h2) (CZ hr hd hN hq' hk' (by rw [← hk',hk];exact h1) h3)
  have:=hr.1
  have l:=Nat.le_of_dvd (by omega) d
  have:=Nat.mul_le_mul (Nat.le_trans l (Nat.sub_le r 1)) (Nat.le_trans l (Nat.sub_le r 1))
  omega
def pm (n : Nat) : Nat→Nat→Nat→Nat→Nat
  | 0,_,_,acc=>acc
  | f+1,b,e,acc=>pm n f (b * b % n) (e / 2) (if e % 2=1 then acc * b % n else acc)
theorem B6 (n : Nat) : ∀ f b e acc : Nat,e<2 ^ f→pm n f b e acc % n=acc * b ^ e % n
  | 0,b,e,acc,h=>by
    have : e=0:=by omega
    subst this;simp [pm]
  | f+1,b,e,acc,h=>by
    show pm n f (b * b % n) (e / 2) (if e % 2=1 then acc * b % n else acc) % n=_
    rw [B6 n f _ _ _ (by rw [Nat.pow_succ] at h;omega)]
    have eb : b ^ e=b ^ (e % 2) * (b * b) ^ (e / 2):=by
      rw [← Nat.pow_two,← Nat.pow_mul,← Nat.pow_add,Nat.mod_add_div]
    rw [Nat.mul_mod,← Nat.pow_mod,← Nat.mul_mod,eb]
    split
    next h1=>rw [h1,Nat.pow_one,Nat.mul_mod,Nat.mod_mod,← Nat.mul_mod,Nat.mul_assoc]
    next h1=>
      have : e % 2=0:=by omega
      rw [this,Nat.pow_zero,Nat.one_mul]
theorem oY {n f b e v : Nat} (h : e<2 ^ f) (hv : pm n f b e 1 % n=v) : b ^ e % n=v:=by
  rw [← hv,B6 n f b e 1 h,Nat.one_mul]
def vv (n : Nat) : Nat→Bool
  | 0=>true
  | k+1=>(n % (k+2) != 0) && vv n k
theorem rX (n : Nat) : ∀ k,vv n k=true→∀ d,2≤d→d<k+2→n % d≠0
  | 0,_,d,h,h2=>by omega
  | k+1,ht,d,h,h2=>by
    simp only [vv,Bool.and_eq_true,bne_iff_ne,ne_eq] at ht
    by_cases e : d=k+2
    · rw [e];exact ht.1
    · exact rX n k ht.2 d h (by omega)
theorem gG {n : Nat} (k : Nat) (h : 1<n) (ht : vv n k=true) (big : n<(k+2) * (k+2)) : Prim n:=by
  refine small n h fun r hr hd=>?_
  by_cases hk : r<k+2
  · exact absurd (Nat.mod_eq_zero_of_dvd hd) (rX n k ht r hr.1 hk)
  · have:=Nat.mul_le_mul (Nat.le_of_not_lt hk) (Nat.le_of_not_lt hk)
    omega
theorem uj {N q q' : Nat} (f a k k' v v' : Nat) (hq : Prim q) (hq' : Prim q') (hN : 1<N) (hk : N - 1=k * q) (hk' : N - 1=k' * q') (ne : Nat.gcd q q'=1) (big : N<q * q' * (q * q'))
    (hf : N≤2 ^ f) (e1 : pm N f a k 1 % N=v) (e2 : pm N f a k' 1 % N=v') (e3 : pm N f a (k * q) 1 % N=1)
    (g1 : Nat.gcd (v+N - 1) N=1) (g2 : Nat.gcd (v'+N - 1) N=1) : Prim N:=by
  have l1 : k≤k * q:=Nat.le_mul_of_pos_right k (Nat.lt_trans Nat.zero_lt_one hq.1)
  have l2 : k'≤k' * q':=Nat.le_mul_of_pos_right k' (Nat.lt_trans Nat.zero_lt_one hq'.1)
  refine EL hN hq hk hq' hk' ne big (a:=a) (oY (by omega) e3) ?_ ?_
  · rw [oY (by omega) e1];exact g1
  · rw [oY (by omega) e2];exact g2
theorem C0 {N q : Nat} (f a k v : Nat) (hq : Prim q) (hN : 1<N) (hk : N - 1=k * q) (big : N<q * q)
    (hf : N≤2 ^ f) (e1 : pm N f a k 1 % N=v) (e3 : pm N f a (k * q) 1 % N=1) (g1 : Nat.gcd (v+N - 1) N=1) : Prim N:=by
  have l1 : k≤k * q:=Nat.le_mul_of_pos_right k (Nat.lt_trans Nat.zero_lt_one hq.1)
  refine EK hN hq hk big (a:=a) (oY (by omega) e3) ?_
  rw [oY (by omega) e1];exact g1
theorem yD : Prim 127:=gG 10 (by decide) (by decide +kernel) (by decide)
theorem yE : Prim 353:=gG 17 (by decide) (by decide +kernel) (by decide)
theorem uk : Prim 75707:=gG 274 (by decide) (by decide +kernel) (by decide)
theorem C1 : Prim 8574133:=gG 2927 (by decide) (by decide +kernel) (by decide)
theorem C2 : Prim 1919519569386763:=
  uj (N:=1919519569386763) 51 2 223873314 15114327318006 1059928654987441 576774792492622 C1 yD (by decide +kernel) (by decide +kernel) (by decide +kernel) (by decide +kernel) (by decide +kernel) (by decide +kernel) (by decide +kernel) (by decide +kernel) (by decide +kernel) (by decide +kernel) (by decide +kernel)
theorem C3 : Prim 75445702479781427272750846543864801:=
  uj (N:=75445702479781427272750846543864801) 116 2 39304471641247389600 996548568557483816196003626400 56747016255153332959347766392083459 58781699294900834553279248901967638 C2 uk (by decide +kernel) (by decide +kernel) (by decide +kernel) (by decide +kernel) (by decide +kernel) (by decide +kernel) (by decide +kernel) (by decide +kernel) (by decide +kernel) (by decide +kernel) (by decide +kernel)
theorem C4 : Prim 74058212732561358302231226437062788676166966415465897661863160754340907:=
  uj (N:=74058212732561358302231226437062788676166966415465897661863160754340907) 236 2 981609426360740691344999861639072106 209796636636151156663544550813209033076960244803019540118592523383402 69490809710348678725736597923071784769591275419387514694139338586948360 8562916886866218785688304546164188478888058893729309188831496247839076 C3 yE (by decide +kernel) (by decide +kernel) (by decide +kernel) (by decide +kernel) (by decide +kernel) (by decide +kernel) (by decide +kernel) (by decide +kernel) (by decide +kernel) (by decide +kernel) (by decide +kernel)
abbrev P : Nat:=57896044618658097711785492504343953926634992332820282019728792003956564819949
theorem C5 : Prim P:=
  C0 (N:=P) 255 2 781764 427094198651976259540344842774561673889945192655078505504941250475370961481 C4 (by decide +kernel) (by decide +kernel) (by decide +kernel) (by decide +kernel) (by decide +kernel) (by decide +kernel) (by decide +kernel)
end cV
end
section
namespace cV
abbrev F:=Fin P
def pw (x : F) : Nat→F
  | 0=>1
  | n+1=>pw x n * x
theorem um (x : F) : ∀ n,(pw x n).val=x.val ^ n % P
  | 0=>rfl
  | n+1=>by
    show (pw x n * x).val=_
    rw [Fin.val_mul,um x n,Nat.pow_succ,Nat.mul_mod,Nat.mod_mod,← Nat.mul_mod]
theorem nK (x : F) (m : Nat) : ∀ n,pw x (m+n)=pw x m * pw x n
  | 0=>by show pw x m=pw x m * 1;grobner
  | n+1=>by
    show pw x (m+n) * x=pw x m * (pw x n * x)
    rw [nK x m n];grobner
theorem yF (x y : F) : ∀ n,pw (x * y) n=pw x n * pw y n
  | 0=>by show (1 : F)=1 * 1;grobner
  | n+1=>by
    show pw (x * y) n * (x * y)=pw x n * x * (pw y n * y)
    rw [yF x y n];grobner
theorem C6 {x : F} (h : x≠0) : ¬ P∣x.val:=fun d=>h (by
  apply Fin.ext
  have:=Nat.eq_zero_of_dvd_of_lt d x.isLt
  rw [this];rfl)
theorem vw {x : F} (h : x≠0) : pw x (P - 1)=1:=by
  apply Fin.ext
  rw [um,yC C5 _ (C6 h)];rfl
def inv (x : F) : F:=pw x (P - 2)
theorem dX {x : F} (h : x≠0) : x * inv x=1:=by
  have:=vw h
  have e : P - 1=(P - 2)+1:=by decide
  rw [e] at this
  have t : pw x (P - 2) * x=1:=this
  show x * pw x (P - 2)=1
  grobner
theorem mul_zero {x y : F} (h : x * y=0) : x=0∨y=0:=by
  by_cases hx : x=0
  · exact Or.inl hx
  · have:=dX hx
    exact Or.inr (by grobner)
theorem de {x y : F} (hx : x≠0) (hy : y≠0) : x * y≠0:=fun h=>by
  cases mul_zero h with
  | inl h=>exact hx h
  | inr h=>exact hy h
theorem cancel {c x y : F} (h : c≠0) (e : c * x=c * y) : x=y:=by
  have:=dX h
  grobner
theorem qj {x : F} (h : x * x=0) : x=0:=(mul_zero h).elim id id
theorem lD : (2 : F)≠0:=by decide
def B7 (x : F) : F:=pw x 28948022309329048855892746252171976963317496166410141009864396001978282409974
theorem C7 {x : F} (h : x≠0) : B7 x * B7 x=1:=by
  unfold B7
  rw [← nK,← vw h]
  exact congrArg (pw x) (by decide)
theorem AW (x y : F) : B7 (x * y)=B7 x * B7 y:=yF x y _
def im : F:=19681161376707505956807079304988542015446066515923890162744021073123829784752
theorem EM : im * im=-1:=by decide +kernel
theorem root {x : F} (hc : B7 x=1) : ∃ s,x=s * s:=by
  let q:=pw x 14474011154664524427946373126085988481658748083205070504932198000989141204987
  let s:=pw x 7237005577332262213973186563042994240829374041602535252466099000494570602494
  have e1 : q * q=1:=by
    rw [← hc];show pw x _ * pw x _=pw x _
    rw [← nK]
  have e2 : s * s=q * x:=by
    show pw x _ * pw x _=pw x (14474011154664524427946373126085988481658748083205070504932198000989141204987+1)
    rw [← nK]
  have e3 : (q - 1) * (q+1)=0:=by grobner
  cases mul_zero e3 with
  | inl h=>exact ⟨s,by grobner⟩
  | inr h=>
    have:=EM
    exact ⟨im * s,by grobner⟩
def ca : F:=486662
theorem EN (x : F) {e f v : Nat} (he : e<2 ^ f) (h : pm P f x.val e 1 % P=v) : (pw x e).val=v:=by
  rw [um];exact oY he h
theorem C8 : B7 (ca * ca - 4)=-1:=by
  apply Fin.ext
  exact EN (f:=255) _ (by decide) (by decide +kernel)
theorem AX (t : F) : t * t≠ca * ca - 4:=fun h=>by
  have h0 : t≠0:=fun e=>by
    rw [e] at h
    revert h
    decide +kernel
  have e:=C7 h0
  rw [← AW,h,C8] at e
  revert e
  decide +kernel
end cV
end
section
namespace cV
def B8 (d x1 y1 x2 y2 : F) : F:=(x2*x2*x2*x2)+(y2*y2*y2*y2)+(-2*x2*x2*y2*y2*y2*y2)+(-2*x2*x2*x2*x2*y2*y2)+(4*x2*x2*y2*y2)+(-d*d*x2*x2*x2*x2*y2*y2*y2*y2)+(-2*d*x2*x2*y2*y2)+(2*d*x2*x2*x2*x2*y2*y2*y2*y2)+(d*d*x1*x1*x2*x2*x2*x2*y2*y2*y2*y2)+(d*d*x2*x2*x2*x2*y1*y1*y2*y2*y2*y2)+(-d*x1*x1*x2*x2*y2*y2*y2*y2)+(-d*x1*x1*x2*x2*x2*x2*y2*y2)+(-d*x2*x2*y1*y1*y2*y2*y2*y2)+(-d*x2*x2*x2*x2*y1*y1*y2*y2)+(d*d*d*x1*x1*x2*x2*x2*x2*y1*y1*y2*y2*y2*y2)
def B9 (d x1 y1 x2 y2 : F) : F:=(1)+(x2*x2)+(y2*y2)+(-x1*x1*x2*x2)+(-x1*x1*y2*y2)+(-x2*x2*y1*y1)+(-y1*y1*y2*y2)+(-2*x2*x2*y2*y2)+(d*x2*x2*y2*y2)+(2*x1*x1*x2*x2*y2*y2)+(2*x2*x2*y1*y1*y2*y2)+(d*x1*x1*x1*x1*x2*x2*y2*y2)+(d*x2*x2*y1*y1*y1*y1*y2*y2)+(-2*d*x1*x1*x2*x2*y2*y2)+(-2*d*x2*x2*y1*y1*y2*y2)
theorem AY (d x1 y1 x2 y2 : F) : (x1*y2+x2*y1)*(x1*y2+x2*y1)*((1-d*x1*x2*y1*y2)*(1-d*x1*x2*y1*y2))+(y1*y2-x1*x2)*(y1*y2-x1*x2)*((1+d*x1*x2*y1*y2)*(1+d*x1*x2*y1*y2))-(1-d*x1*x2*y1*y2)*(1-d*x1*x2*y1*y2)*((1+d*x1*x2*y1*y2)*(1+d*x1*x2*y1*y2))-d*((x1*y2+x2*y1)*(x1*y2+x2*y1))*((y1*y2-x1*x2)*(y1*y2-x1*x2))
    = B8 d x1 y1 x2 y2*(-d*x1*x1*y1*y1+x1*x1+y1*y1 - 1)+B9 d x1 y1 x2 y2*(-d*x2*x2*y2*y2+x2*x2+y2*y2 - 1):=by
  unfold B8 B9
  grobner
def EO (d x1 y1 x2 y2 x3 y3 : F) : F:=(d*x1*x2*x2*x2*x3*y2*y2)+(d*x1*x2*x2*y2*y2*y2*y3*y3*y3)+(d*x2*x2*x3*x3*x3*y1*y2*y2*y2)+(d*x2*x2*x2*y1*y2*y2*y3*y3*y3)+(-d*x1*x2*x2*y2*y2*y2*y3)+(-d*x1*x2*x2*x2*x3*x3*x3*y2*y2)+(-d*x2*x2*x3*y1*y2*y2*y2)+(-d*x2*x2*x2*y1*y2*y2*y3)+(d*x1*x2*x3*y2*y2*y2*y2*y3*y3)+(d*d*x1*x2*x2*x2*x2*x3*x3*y2*y2*y2*y3)+(d*d*x2*x2*x2*x2*x3*y1*y2*y2*y2*y3*y3)+(d*d*x2*x2*x2*x3*x3*y1*y2*y2*y2*y2*y3)+(-d*x1*x2*x2*x2*x2*x3*x3*y2*y3)+(-d*x2*x3*x3*y1*y2*y2*y2*y2*y3)+(-d*x2*x2*x2*x2*x3*y1*y2*y3*y3)+(-d*d*x1*x2*x2*x2*x3*y2*y2*y2*y2*y3*y3)
def EP (d x1 y1 x2 y2 x3 y3 : F) : F:=(x1*x2*x3*x3*x3)+(x1*y2*y3)+(x1*x1*x1*x2*x3)+(x2*y1*y3)+(x2*y1*y1*y1*y3*y3*y3)+(x3*y1*y2)+(x1*x1*x1*y2*y3*y3*y3)+(x3*x3*x3*y1*y1*y1*y2)+(-x1*x2*x3)+(-x1*y2*y3*y3*y3)+(-x2*y1*y3*y3*y3)+(-x2*y1*y1*y1*y3)+(-x1*x1*x1*x2*x3*x3*x3)+(-x3*y1*y1*y1*y2)+(-x3*x3*x3*y1*y2)+(-x1*x1*x1*y2*y3)+(x1*x2*x3*y1*y1)+(x1*x2*x3*y3*y3)+(x1*y1*y1*y2*y3*y3*y3)+(x1*x1*x2*y1*y3*y3*y3)+(x2*x3*x3*y1*y1*y1*y3)+(x3*y1*y1*y1*y2*y3*y3)+(x1*x1*x3*x3*x3*y1*y2)+(x1*x1*x1*x3*x3*y2*y3)+(-x1*x2*x3*x3*x3*y1*y1)+(-x1*x3*x3*y2*y3)+(-x1*y1*y1*y2*y3)+(-x1*x1*x1*x2*x3*y3*y3)+(-x1*x1*x2*y1*y3)+(-x2*x3*x3*y1*y3)+(-x1*x1*x3*y1*y2)+(-x3*y1*y2*y3*y3)+(d*x1*x3*x3*y2*y3*y3*y3)+(d*x2*x3*x3*y1*y3*y3*y3)+(d*x1*x1*x1*x2*x3*x3*x3*y3*y3)+(d*x3*x3*x3*y1*y2*y3*y3)+(x1*x3*x3*y1*y1*y2*y3)+(x1*x1*x2*x3*x3*y1*y3)+(x1*x1*x3*y1*y2*y3*y3)+(-d*x1*x2*x3*x3*x3*y3*y3)+(-d*x2*x3*x3*y1*y1*y1*y3*y3*y3)+(-d*x1*x1*x1*x3*x3*y2*y3*y3*y3)+(-d*x3*x3*x3*y1*y1*y1*y2*y3*y3)+(-x1*x2*x3*y1*y1*y3*y3)+(d*x1*x2*x3*y2*y2*y3*y3)+(d*x1*x2*x3*x3*x3*y1*y1*y3*y3)+(d*x2*x3*x3*y1*y1*y1*y2*y2*y3)+(d*x2*x2*x3*y1*y1*y1*y2*y3*y3)+(d*x1*x1*x1*x2*x2*x3*x3*y2*y3)+(-d*x1*x2*x2*x3*x3*y2*y3)+(-d*x1*x3*x3*y1*y1*y2*y3*y3*y3)+(-d*x1*x1*x1*x2*x3*y2*y2*y3*y3)+(-d*x2*x3*x3*y1*y2*y2*y3)+(-d*x1*x1*x2*x3*x3*y1*y3*y3*y3)+(-d*x2*x2*x3*y1*y2*y3*y3)+(-d*x1*x1*x3*x3*x3*y1*y2*y3*y3)+(d*x1*x2*x2*x3*x3*y1*y1*y2*y3)+(d*x1*x1*x2*x3*x3*y1*y2*y2*y3)+(d*x1*x1*x2*x2*x3*y1*y2*y3*y3)+(d*d*x1*x2*x3*x3*x3*y1*y1*y2*y2*y3*y3)+(-d*x1*x2*x3*y1*y1*y2*y2*y3*y3)+(-d*d*x1*x2*x2*x3*x3*y1*y1*y2*y3*y3*y3)+(-d*d*x1*x1*x2*x3*x3*y1*y2*y2*y3*y3*y3)+(-d*d*x1*x1*x2*x2*x3*x3*x3*y1*y2*y3*y3)
def ER (d x1 y1 x2 y2 x3 y3 : F) : F:=(x1*x2*x3)+(x1*y2*y2*y2*y3)+(x2*y1*y1*y1*y3)+(x3*y1*y2*y2*y2)+(x3*y1*y1*y1*y2)+(x1*x1*x1*x2*x2*x2*x3)+(x2*x2*x2*y1*y3)+(x1*x1*x1*y2*y3)+(-x1*x2*x2*x2*x3)+(-x1*y2*y3)+(-x1*x1*x1*x2*x3)+(-x2*y1*y3)+(-x3*y1*y2)+(-x3*y1*y1*y1*y2*y2*y2)+(-x1*x1*x1*y2*y2*y2*y3)+(-x2*x2*x2*y1*y1*y1*y3)+(x1*x2*x2*x2*x3*y1*y1)+(x1*x2*x2*y2*y3)+(x1*y1*y1*y2*y3)+(x1*x1*x1*x2*x3*y2*y2)+(x1*x1*x2*y1*y3)+(x2*y1*y2*y2*y3)+(x1*x1*x3*y1*y2)+(x2*x2*x3*y1*y2)+(-x1*x2*x3*y1*y1)+(-x1*x2*x3*y2*y2)+(-x1*y1*y1*y2*y2*y2*y3)+(-x2*y1*y1*y1*y2*y2*y3)+(-x1*x1*x3*y1*y2*y2*y2)+(-x2*x2*x3*y1*y1*y1*y2)+(-x1*x1*x2*x2*x2*y1*y3)+(-x1*x1*x1*x2*x2*y2*y3)+(x1*x2*x3*y1*y1*y2*y2)+(-x1*x2*x2*y1*y1*y2*y3)+(-x1*x1*x2*y1*y2*y2*y3)+(-x1*x1*x2*x2*x3*y1*y2)+(d*x1*x2*x2*y1*y1*y2*y3)+(d*x1*x1*x2*y1*y2*y2*y3)+(d*x1*x1*x2*x2*x3*y1*y2)+(-d*x1*x2*x3*y1*y1*y2*y2)
theorem C9 (d x1 y1 x2 y2 x3 y3 : F) : ((x1*y2+x2*y1)*(1-d*x1*x2*y1*y2)*y3+x3*(y1*y2-x1*x2)*(1+d*x1*x2*y1*y2))*((1-d*x2*x3*y2*y3)*(1+d*x2*x3*y2*y3)+d*x1*(x2*y3+x3*y2)*y1*(y2*y3-x2*x3))-(x1*(y2*y3-x2*x3)*(1+d*x2*x3*y2*y3)+(x2*y3+x3*y2)*y1*(1-d*x2*x3*y2*y3))*((1-d*x1*x2*y1*y2)*(1+d*x1*x2*y1*y2)+d*(x1*y2+x2*y1)*x3*(y1*y2-x1*x2)*y3)
    = EO d x1 y1 x2 y2 x3 y3*(-d*x1*x1*y1*y1+x1*x1+y1*y1 - 1)+EP d x1 y1 x2 y2 x3 y3*(-d*x2*x2*y2*y2+x2*x2+y2*y2 - 1)+ER d x1 y1 x2 y2 x3 y3*(-d*x3*x3*y3*y3+x3*x3+y3*y3 - 1):=by
  unfold EO EP ER
  grobner
def ES (d x1 y1 x2 y2 x3 y3 : F) : F:=(d*x1*x2*x2*x3*y2*y2*y2)+(d*x1*x2*x2*x2*y2*y2*y3)+(d*x2*x2*x2*x3*y1*y2*y2)+(d*x2*x2*y1*y2*y2*y2*y3*y3*y3)+(-d*x1*x2*x2*x3*x3*x3*y2*y2*y2)+(-d*x1*x2*x2*x2*y2*y2*y3*y3*y3)+(-d*x2*x2*y1*y2*y2*y2*y3)+(-d*x2*x2*x2*x3*x3*x3*y1*y2*y2)+(d*x1*x2*x3*x3*y2*y2*y2*y2*y3)+(d*x1*x2*x2*x2*x2*x3*y2*y3*y3)+(d*x2*x3*y1*y2*y2*y2*y2*y3*y3)+(d*d*x2*x2*x2*x2*x3*x3*y1*y2*y2*y2*y3)+(-d*x2*x2*x2*x2*x3*x3*y1*y2*y3)+(-d*d*x1*x2*x2*x2*x2*x3*y2*y2*y2*y3*y3)+(-d*d*x1*x2*x2*x2*x3*x3*y2*y2*y2*y2*y3)+(-d*d*x2*x2*x2*x3*y1*y2*y2*y2*y2*y3*y3)
def ET (d x1 y1 x2 y2 x3 y3 : F) : F:=(x1*x2*y3*y3*y3)+(x1*x3*x3*x3*y2)+(x2*x3*y1*y1*y1)+(x2*x3*x3*x3*y1)+(x1*x1*x1*x2*y3)+(x1*x1*x1*x3*y2)+(y1*y2*y3)+(y1*y1*y1*y2*y3*y3*y3)+(-x1*x2*y3)+(-x1*x3*y2)+(-x2*x3*y1)+(-x1*x1*x1*x2*y3*y3*y3)+(-x2*x3*x3*x3*y1*y1*y1)+(-y1*y2*y3*y3*y3)+(-y1*y1*y1*y2*y3)+(-x1*x1*x1*x3*x3*x3*y2)+(x1*x2*x3*x3*y3)+(x1*x2*y1*y1*y3)+(x1*x3*y1*y1*y2)+(x1*x3*y2*y3*y3)+(x1*x1*x2*x3*y1)+(x2*x3*y1*y3*y3)+(x1*x1*y1*y2*y3*y3*y3)+(x3*x3*y1*y1*y1*y2*y3)+(-x1*x2*y1*y1*y3*y3*y3)+(-x1*x3*x3*x3*y1*y1*y2)+(-x2*x3*y1*y1*y1*y3*y3)+(-x1*x1*x2*x3*x3*x3*y1)+(-x1*x1*x1*x2*x3*x3*y3)+(-x1*x1*x1*x3*y2*y3*y3)+(-x1*x1*y1*y2*y3)+(-x3*x3*y1*y2*y3)+(d*x1*x1*x1*x2*x3*x3*y3*y3*y3)+(d*x2*x3*x3*x3*y1*y1*y1*y3*y3)+(d*x3*x3*y1*y2*y3*y3*y3)+(d*x1*x1*x1*x3*x3*x3*y2*y3*y3)+(x1*x1*x3*x3*y1*y2*y3)+(-d*x1*x2*x3*x3*y3*y3*y3)+(-d*x1*x3*x3*x3*y2*y3*y3)+(-d*x2*x3*x3*x3*y1*y3*y3)+(-d*x3*x3*y1*y1*y1*y2*y3*y3*y3)+(-x1*x2*x3*x3*y1*y1*y3)+(-x1*x3*y1*y1*y2*y3*y3)+(-x1*x1*x2*x3*y1*y3*y3)+(d*x1*x2*x3*x3*y2*y2*y3)+(d*x1*x2*x3*x3*y1*y1*y3*y3*y3)+(d*x1*x2*x2*x3*y2*y3*y3)+(d*x1*x3*x3*x3*y1*y1*y2*y3*y3)+(d*x2*x3*y1*y2*y2*y3*y3)+(d*x1*x1*x2*x3*x3*x3*y1*y3*y3)+(d*x2*x2*x3*x3*y1*y1*y1*y2*y3)+(-d*x2*x3*y1*y1*y1*y2*y2*y3*y3)+(-d*x1*x1*x1*x2*x3*x3*y2*y2*y3)+(-d*x1*x1*x1*x2*x2*x3*y2*y3*y3)+(-d*x2*x2*x3*x3*y1*y2*y3)+(-d*x1*x1*x3*x3*y1*y2*y3*y3*y3)+(d*x1*x1*x2*x2*x3*x3*y1*y2*y3)+(d*d*x1*x2*x3*x3*y1*y1*y2*y2*y3*y3*y3)+(d*d*x1*x2*x2*x3*x3*x3*y1*y1*y2*y3*y3)+(d*d*x1*x1*x2*x3*x3*x3*y1*y2*y2*y3*y3)+(-d*x1*x2*x3*x3*y1*y1*y2*y2*y3)+(-d*x1*x2*x2*x3*y1*y1*y2*y3*y3)+(-d*x1*x1*x2*x3*y1*y2*y2*y3*y3)+(-d*d*x1*x1*x2*x2*x3*x3*y1*y2*y3*y3*y3)
def EU (d x1 y1 x2 y2 x3 y3 : F) : F:=(x1*x2*y3)+(x1*x3*y2)+(x2*x3*y1)+(x1*x1*x1*x3*y2*y2*y2)+(x2*x2*x2*x3*y1*y1*y1)+(y1*y2*y2*y2*y3)+(y1*y1*y1*y2*y3)+(x1*x1*x1*x2*x2*x2*y3)+(-x1*x3*y2*y2*y2)+(-x1*x2*x2*x2*y3)+(-x2*x3*y1*y1*y1)+(-x1*x1*x1*x2*y3)+(-x2*x2*x2*x3*y1)+(-x1*x1*x1*x3*y2)+(-y1*y2*y3)+(-y1*y1*y1*y2*y2*y2*y3)+(x1*x3*y1*y1*y2*y2*y2)+(x1*x2*x2*x2*y1*y1*y3)+(x2*x3*y1*y1*y1*y2*y2)+(x1*x1*x1*x2*y2*y2*y3)+(x1*x1*x2*x2*x2*x3*y1)+(x1*x1*x1*x2*x2*x3*y2)+(x1*x1*y1*y2*y3)+(x2*x2*y1*y2*y3)+(-x1*x2*y1*y1*y3)+(-x1*x2*y2*y2*y3)+(-x1*x2*x2*x3*y2)+(-x1*x3*y1*y1*y2)+(-x1*x1*x2*x3*y1)+(-x2*x3*y1*y2*y2)+(-x1*x1*y1*y2*y2*y2*y3)+(-x2*x2*y1*y1*y1*y2*y3)+(x1*x2*y1*y1*y2*y2*y3)+(x1*x2*x2*x3*y1*y1*y2)+(x1*x1*x2*x3*y1*y2*y2)+(-x1*x1*x2*x2*y1*y2*y3)+(d*x1*x1*x2*x2*y1*y2*y3)+(-d*x1*x2*y1*y1*y2*y2*y3)+(-d*x1*x2*x2*x3*y1*y1*y2)+(-d*x1*x1*x2*x3*y1*y2*y2)
theorem Da (d x1 y1 x2 y2 x3 y3 : F) : ((y1*y2-x1*x2)*(1+d*x1*x2*y1*y2)*y3-(x1*y2+x2*y1)*x3*(1-d*x1*x2*y1*y2))*((1-d*x2*x3*y2*y3)*(1+d*x2*x3*y2*y3)-d*x1*(x2*y3+x3*y2)*y1*(y2*y3-x2*x3))-(y1*(y2*y3-x2*x3)*(1+d*x2*x3*y2*y3)-x1*(x2*y3+x3*y2)*(1-d*x2*x3*y2*y3))*((1-d*x1*x2*y1*y2)*(1+d*x1*x2*y1*y2)-d*(x1*y2+x2*y1)*x3*(y1*y2-x1*x2)*y3)
    = ES d x1 y1 x2 y2 x3 y3*(-d*x1*x1*y1*y1+x1*x1+y1*y1 - 1)+ET d x1 y1 x2 y2 x3 y3*(-d*x2*x2*y2*y2+x2*x2+y2*y2 - 1)+EU d x1 y1 x2 y2 x3 y3*(-d*x3*x3*y3*y3+x3*x3+y3*y3 - 1):=by
  unfold ES ET EU
  grobner
def vz (d y1 x2 y2 : F) : F:=(4*x2*x2*y1*y2)+(-4*d*x2*x2*y1*y2*y2*y2)
def vC (y1 y2 : F) : F:=(-4*y1*y1*y1*y2)+(4*y1*y2)
theorem wK (d x1 y1 x2 y2 : F) : ((1-d*x1*x2*y1*y2+y1*y2-x1*x2)*(1+d*x1*x2*y1*y2+y1*y2+x1*x2))*((y1-y2)*(y1-y2))-((1-d*x1*x2*y1*y2-y1*y2+x1*x2)*(1+d*x1*x2*y1*y2-y1*y2-x1*x2))*((y1+y2)*(y1+y2))
    = vz d y1 x2 y2*(-d*x1*x1*y1*y1+x1*x1+y1*y1 - 1)+vC y1 y2*(-d*x2*x2*y2*y2+x2*x2+y2*y2 - 1):=by
  unfold vz vC
  grobner
end cV
end
section
namespace cV
def NS (d : F) : Prop:=∀ t,t * t≠d
def On (d : F) (p : F × F) : Prop:=p.1 * p.1+p.2 * p.2=1+d * p.1 * p.1 * p.2 * p.2
def kk (d : F) (p q : F × F) : F:=d * p.1 * q.1 * p.2 * q.2
theorem den {d : F} {p q : F × F} (ns : NS d) (hp : On d p) (hq : On d q) {ε : F} (hε : ε * ε=1) : kk d p q≠ε:=by
  obtain ⟨x1,y1⟩:=p
  obtain ⟨x2,y2⟩:=q
  unfold kk On at *
  simp only at *
  intro h
  have e1 : (x1+ε * y1) * (x1+ε * y1)=d * (x1 * y1) * (x1 * y1) * ((x2+y2) * (x2+y2)):=by grobner
  have e2 : (x1 - ε * y1) * (x1 - ε * y1)=d * (x1 * y1) * (x1 * y1) * ((x2 - y2) * (x2 - y2)):=by grobner
  have one : (1 : F)≠0:=by decide
  have n0 : x1 * y1≠0:=fun z=>one (by grobner)
  have step : ∀ a b : F,a * a=d * (x1 * y1) * (x1 * y1) * (b * b)→b=0:=fun a b e=>by
    refine Classical.byContradiction fun hb=>?_
    have i:=dX (de n0 hb)
    exact ns (a * inv (x1 * y1 * b)) (by grobner)
  have z1:=step _ _ e1
  have z2:=step _ _ e2
  have z3 : (2 : F) * x2=0:=by grobner
  have z4 : x2=0:=(mul_zero z3).elim (fun h=>absurd h lD) id
  exact one (by grobner)
theorem nL {d : F} {p q : F × F} (ns : NS d) (hp : On d p) (hq : On d q) : 1+kk d p q≠0:=fun h=>
  den ns hp hq (ε:=-1) (by decide) (by grobner)
theorem jl {d : F} {p q : F × F} (ns : NS d) (hp : On d p) (hq : On d q) : 1 - kk d p q≠0:=fun h=>
  den ns hp hq (ε:=1) (by decide) (by grobner)
def add (d : F) (p q : F × F) : F × F:=((p.1 * q.2+q.1 * p.2) * inv (1+kk d p q),(p.2 * q.2 - p.1 * q.1) * inv (1 - kk d p q))
theorem oZ {d : F} {p q : F × F} (ns : NS d) (hp : On d p) (hq : On d q) : (add d p q).1 * (1+kk d p q)=p.1 * q.2+q.1 * p.2:=by
  have:=dX (nL ns hp hq)
  show (p.1 * q.2+q.1 * p.2) * inv (1+kk d p q) * (1+kk d p q)=_
  generalize inv (1+kk d p q)=i at *
  generalize kk d p q=k at *
  grobner
theorem jm {d : F} {p q : F × F} (ns : NS d) (hp : On d p) (hq : On d q) : (add d p q).2 * (1 - kk d p q)=p.2 * q.2 - p.1 * q.1:=by
  have:=dX (jl ns hp hq)
  show (p.2 * q.2 - p.1 * q.1) * inv (1 - kk d p q) * (1 - kk d p q)=_
  generalize inv (1 - kk d p q)=i at *
  generalize kk d p q=k at *
  grobner
theorem Db {a b c0 c1 z0 z1 : F} (h : a - b=c0 * z0+c1 * z1) (h0 : z0=0) (h1 : z1=0) : a=b:=by grobner
theorem AZ {a c0 c1 z0 z1 : F} (h : a=c0 * z0+c1 * z1) (h0 : z0=0) (h1 : z1=0) : a=0:=by grobner
theorem rY {a b c0 c1 c2 z0 z1 z2 : F} (h : a - b=c0 * z0+c1 * z1+c2 * z2) (h0 : z0=0) (h1 : z1=0) (h2 : z2=0) : a=b:=by grobner
theorem fU {d x y : F} (h : x * x+y * y=1+d * x * x * y * y) : -d*x*x*y*y+x*x+y*y - 1=0:=by grobner
theorem Dc {d k a b x y : F} (hx : x * (1+k)=a) (hy : y * (1 - k)=b)
    (c : a * a * ((1 - k) * (1 - k))+b * b * ((1+k) * (1+k)) - (1 - k) * (1 - k) * ((1+k) * (1+k)) - d * (a * a) * (b * b)=0) :
    (1+k) * (1 - k) * ((1+k) * (1 - k)) * (x * x+y * y)=(1+k) * (1 - k) * ((1+k) * (1 - k)) * (1+d * x * x * y * y):=by
  subst hx
  subst hy
  grobner
theorem uo {d : F} {p q : F × F} (ns : NS d) (hp : On d p) (hq : On d q) : On d (add d p q):=by
  have hx:=oZ ns hp hq
  have hy:=jm ns hp hq
  have nn:=de (nL ns hp hq) (jl ns hp hq)
  exact cancel (de nn nn) (Dc hx hy (AZ (AY d p.1 p.2 q.1 q.2) (fU hp) (fU hq)))
theorem Ca {d k a b x y u v : F} (h1 : x * (1+k)=a) (h2 : y * (1 - k)=b) : (1 - k) * (1+k)+d * a * u * b * v=(1 - k) * (1+k) * (1+d * x * u * y * v):=by
  subst h1
  subst h2
  grobner
theorem yG {d k a b x y u v l : F} (h1 : x * (1+k)=a) (h2 : y * (1 - k)=b) (hl : l * (1+d * x * u * y * v)=x * v+u * y) : l * ((1 - k) * (1+k)+d * a * u * b * v)=a * (1 - k) * v+u * b * (1+k):=by
  rw [Ca h1 h2]
  subst h1
  subst h2
  generalize 1+d * x * u * y * v=z at *
  grobner
theorem yH {d k a b x y u v l : F} (h1 : x * (1+k)=a) (h2 : y * (1 - k)=b) (hl : l * (1 - d * x * u * y * v)=y * v - x * u) : l * ((1 - k) * (1+k) - d * a * u * b * v)=b * (1+k) * v - a * u * (1 - k):=by
  have e : (1 - k) * (1+k) - d * a * u * b * v=(1 - k) * (1+k) * (1 - d * x * u * y * v):=by
    subst h1
    subst h2
    grobner
  rw [e]
  subst h1
  subst h2
  generalize 1 - d * x * u * y * v=z at *
  grobner
theorem Dd {d k a b x y u v l : F} (h1 : x * (1+k)=a) (h2 : y * (1 - k)=b) (hl : l * (1+d * u * x * v * y)=u * y+x * v) : l * ((1 - k) * (1+k)+d * u * a * v * b)=u * b * (1+k)+a * v * (1 - k):=by
  have e:=yG h1 h2 (l:=l) (d:=d) (u:=u) (v:=v) (by clear h1 h2;grobner)
  clear h1 h2 hl
  grobner
theorem De {d k a b x y u v l : F} (h1 : x * (1+k)=a) (h2 : y * (1 - k)=b) (hl : l * (1 - d * u * x * v * y)=v * y - u * x) : l * ((1 - k) * (1+k) - d * u * a * v * b)=v * b * (1+k) - u * a * (1 - k):=by
  have e:=yH h1 h2 (l:=l) (d:=d) (u:=u) (v:=v) (by clear h1 h2;grobner)
  clear h1 h2 hl
  grobner
theorem Cb {d k a b x y u v : F} (h1 : x * (1+k)=a) (h2 : y * (1 - k)=b) (n1 : 1+k≠0) (n2 : 1 - k≠0) (n3 : 1+d * x * u * y * v≠0) : (1 - k) * (1+k)+d * a * u * b * v≠0:=by
  rw [Ca h1 h2]
  exact de (de n2 n1) n3
theorem Cc {d k a b x y u v : F} (h1 : x * (1+k)=a) (h2 : y * (1 - k)=b) (n1 : 1+k≠0) (n2 : 1 - k≠0) (n3 : 1 - d * x * u * y * v≠0) : (1 - k) * (1+k) - d * a * u * b * v≠0:=by
  have e : (1 - k) * (1+k) - d * a * u * b * v=(1 - k) * (1+k) * (1 - d * x * u * y * v):=by
    subst h1
    subst h2
    clear n1 n2 n3
    grobner
  rw [e]
  exact de (de n2 n1) n3
theorem Df {d k a b x y u v : F} (h1 : x * (1+k)=a) (h2 : y * (1 - k)=b) (n1 : 1+k≠0) (n2 : 1 - k≠0) (n3 : 1+d * u * x * v * y≠0) : (1 - k) * (1+k)+d * u * a * v * b≠0:=by
  have e : ∀ x y : F,d * u * x * v * y=d * x * u * y * v:=fun x y=>by clear h1 h2 n1 n2 n3;grobner
  rw [e]
  exact Cb h1 h2 n1 n2 (by rw [← e];exact n3)
theorem Dg {d k a b x y u v : F} (h1 : x * (1+k)=a) (h2 : y * (1 - k)=b) (n1 : 1+k≠0) (n2 : 1 - k≠0) (n3 : 1 - d * u * x * v * y≠0) : (1 - k) * (1+k) - d * u * a * v * b≠0:=by
  have e : ∀ x y : F,d * u * x * v * y=d * x * u * y * v:=fun x y=>by clear h1 h2 n1 n2 n3;grobner
  rw [e]
  exact Cc h1 h2 n1 n2 (by rw [← e];exact n3)
theorem Cd {l r a b c e : F} (h1 : l * b=a) (h2 : r * e=c) (h : a * e=c * b) (n1 : b≠0) (n2 : e≠0) : l=r:=by
  refine cancel (de n1 n2) ?_
  subst h1
  subst h2
  grobner
theorem assoc {d : F} {p q r : F × F} (ns : NS d) (hp : On d p) (hq : On d q) (hr : On d r) : add d (add d p q) r=add d p (add d q r):=by
  have h12:=uo ns hp hq
  have h23:=uo ns hq hr
  have a1:=oZ ns hp hq
  have a2:=jm ns hp hq
  have b1:=oZ ns hq hr
  have b2:=jm ns hq hr
  have l1:=oZ ns h12 hr
  have l2:=jm ns h12 hr
  have r1:=oZ ns hp h23
  have r2:=jm ns hp h23
  have np:=nL ns hp hq
  have nm:=jl ns hp hq
  have mp:=nL ns hq hr
  have mm:=jl ns hq hr
  have lp:=nL ns h12 hr
  have lm:=jl ns h12 hr
  have rp:=nL ns hp h23
  have rm:=jl ns hp h23
  have cx:=rY (C9 d p.1 p.2 q.1 q.2 r.1 r.2) (fU hp) (fU hq) (fU hr)
  have cy:=rY (Da d p.1 p.2 q.1 q.2 r.1 r.2) (fU hp) (fU hq) (fU hr)
  generalize add d (add d p q) r=l at *
  generalize add d p (add d q r)=t at *
  generalize add d p q=s at *
  generalize add d q r=w at *
  obtain ⟨x1,y1⟩:=p
  obtain ⟨x2,y2⟩:=q
  obtain ⟨x3,y3⟩:=r
  obtain ⟨x12,y12⟩:=s
  obtain ⟨x23,y23⟩:=w
  obtain ⟨lx,ly⟩:=l
  obtain ⟨tx,ty⟩:=t
  unfold kk On at *
  simp only at *
  clear hp hq hr h12 h23
  generalize d * x1 * x2 * y1 * y2=k at *
  generalize d * x2 * x3 * y2 * y3=m at *
  generalize x1 * y2+x2 * y1=nx at *
  generalize y1 * y2 - x1 * x2=ny at *
  generalize x2 * y3+x3 * y2=mx at *
  generalize y2 * y3 - x2 * x3=my at *
  have ex : lx=tx:=Cd (yG a1 a2 l1) (Dd b1 b2 r1) cx (Cb a1 a2 np nm lp) (Df b1 b2 mp mm rp)
  have ey : ly=ty:=Cd (yH a1 a2 l2) (De b1 b2 r2) cy (Cc a1 a2 np nm lm) (Dg b1 b2 mp mm rm)
  rw [ex,ey]
theorem add_comm (d : F) (p q : F × F) : add d p q=add d q p:=by
  have e : kk d p q=kk d q p:=by unfold kk;grobner
  unfold add
  rw [e]
  apply Prod.ext
  · show (p.1 * q.2+q.1 * p.2) * _=(q.1 * p.2+p.1 * q.2) * _
    congr 1
    grobner
  · show (p.2 * q.2 - p.1 * q.1) * _=(q.2 * p.2 - q.1 * p.1) * _
    congr 1
    grobner
def O : F × F:=(0,1)
theorem Gb (d : F) : On d O:=by
  show (0 : F) * 0+1 * 1=1+d * 0 * 0 * 1 * 1
  grobner
theorem inv_one : inv 1=1:=by
  have:=dX (x:=1) (by decide)
  grobner
theorem Ce (d : F) (p : F × F) : add d O p=p:=by
  have e : kk d O p=0:=by show d * 0 * p.1 * 1 * p.2=0;grobner
  unfold add
  rw [e]
  have e1 : (1+0 : F)=1:=by decide
  have e2 : (1 - 0 : F)=1:=by decide
  rw [e1,e2,inv_one]
  apply Prod.ext
  · show (0 * p.2+p.1 * 1) * 1=p.1
    grobner
  · show (1 * p.2 - 0 * p.1) * 1=p.2
    grobner
def neg (p : F × F) : F × F:=(-p.1,p.2)
theorem ij {d : F} {p : F × F} (h : On d p) : On d (neg p):=by
  show -p.1 * -p.1+p.2 * p.2=1+d * -p.1 * -p.1 * p.2 * p.2
  unfold On at h
  grobner
theorem add_neg {d : F} {p : F × F} (ns : NS d) (h : On d p) : add d p (neg p)=O:=by
  have x:=oZ ns h (ij h)
  have y:=jm ns h (ij h)
  have n1:=nL ns h (ij h)
  have n2:=jl ns h (ij h)
  generalize add d p (neg p)=r at *
  obtain ⟨rx,ry⟩:=r
  obtain ⟨px,py⟩:=p
  unfold neg kk On at *
  simp only at *
  have ex : rx=0:=by
    refine cancel n1 ?_
    generalize 1+d * px * -px * py * py=z at *
    grobner
  have ey : ry=1:=by
    refine cancel n2 ?_
    have : 1 - d * px * -px * py * py=py * py - px * -px:=by clear x y n1 n2 ex;grobner
    rw [← this] at y
    generalize 1 - d * px * -px * py * py=z at *
    clear x n1 n2 this ex h
    grobner
  rw [ex,ey];rfl
def nP (d : F) (p : F × F) : Nat→F × F
  | 0=>O
  | n+1=>add d (nP d p n) p
theorem rZ {d : F} {p : F × F} (ns : NS d) (h : On d p) : ∀ n,On d (nP d p n)
  | 0=>Gb d
  | n+1=>uo ns (rZ ns h n) h
theorem uq {d : F} {p : F × F} (ns : NS d) (h : On d p) (m : Nat) : ∀ n,nP d p (m+n)=add d (nP d p m) (nP d p n)
  | 0=>by
    show nP d p m=add d (nP d p m) O
    rw [add_comm,Ce]
  | n+1=>by
    show add d (nP d p (m+n)) p=add d (nP d p m) (add d (nP d p n) p)
    rw [uq ns h m n,assoc ns (rZ ns h m) (rZ ns h n) h]
end cV
end
section
namespace cV
structure L4 where
  x2 : F
  z2 : F
  x3 : F
  z3 : F
def core (x1 : F) (s : L4) : L4:=
  let a:=s.x2+s.z2
  let b:=s.x2 - s.z2
  let c:=s.x3+s.z3
  let d:=s.x3 - s.z3
  let da:=d * a
  let cb:=c * b
  let aa:=a * a
  let bb:=b * b
  let e:=aa - bb
  ⟨aa * bb,e * (aa+121665 * e),(da+cb) * (da+cb),x1 * ((da - cb) * (da - cb))⟩
def swap (b : Bool) (s : L4) : L4:=if b then ⟨s.x3,s.z3,s.x2,s.z2⟩ else s
def A0 (x1 : F) (k : Nat) : Nat→L4→L4
  | 0,s=>s
  | n+1,s=>A0 x1 k n (swap (k.testBit n) (core x1 (swap (k.testBit n) s)))
def EV (k : Nat) (u : F) : F:=(A0 u k 255 ⟨1,0,u,1⟩).x2 * inv (A0 u k 255 ⟨1,0,u,1⟩).z2
def Am (σ y X Z : F) : Prop:=∃ l,l≠0∧X=l * (1+y)∧Z=l * (σ * (1 - y))
structure Dh (σ d : F) : Prop where
  one : σ * σ=1
  num : d * (σ * ca+2)=σ * ca - 2
  ns : NS d
theorem yI {σ y X Z : F} (h1 : σ * σ=1) (h : σ * (1+y) * Z=(1 - y) * X) (n : X=0→Z=0→False) : Am σ y X Z:=by
  have h2:=dX lD
  refine ⟨(X+σ * Z) * inv 2,fun z=>?_,?_,?_⟩
  · have z1 : X+σ * Z=0:=by
      refine (mul_zero z).elim id fun e=>?_
      rw [e] at h2
      have one : (1 : F)≠0:=by decide
      exact absurd (by grobner) one
    have e : (2 : F) * X=0:=by
      clear z h2 n
      grobner
    have e1 : X=0:=(mul_zero e).elim (fun h=>absurd h lD) id
    refine n e1 ?_
    clear z h2 n
    grobner
  · clear n
    generalize inv 2=i at *
    grobner
  · clear n
    generalize inv 2=i at *
    grobner
theorem Di {d : F} {p : F × F} (ns : NS d) (hp : On d p) : (1+(add d p p).2) * ((1 - p.2 * p.2) * (1 - d * p.2 * p.2))=(1 - (add d p p).2) * (p.2 * p.2 * (1 - d)):=by
  have hy:=jm ns hp hp
  have n:=jl ns hp hp
  generalize add d p p=r at *
  obtain ⟨rx,y2⟩:=r
  obtain ⟨x,y⟩:=p
  unfold kk On at *
  simp only at *
  have e : 1 - d * x * x * y * y=2 - x * x - y * y:=by clear hy n;grobner
  rw [e] at hy n
  refine cancel n ?_
  have e1 : (2 - x * x - y * y) * (1+y2)=2 - 2 * (x * x):=by clear n e;grobner
  have e2 : (2 - x * x - y * y) * (1 - y2)=2 - 2 * (y * y):=by clear n e e1;grobner
  have e3 : (2 - x * x - y * y) * ((1+y2) * ((1 - y * y) * (1 - d * y * y)))=(2 - 2 * (x * x)) * ((1 - y * y) * (1 - d * y * y)):=by rw [← e1];clear n e e1 e2 hy hp;grobner
  have e4 : (2 - x * x - y * y) * ((1 - y2) * (y * y * (1 - d)))=(2 - 2 * (y * y)) * (y * y * (1 - d)):=by rw [← e2];clear n e e1 e2 e3 hy hp;grobner
  rw [e3,e4]
  clear e3 e4 e1 e2 n e hy
  grobner
theorem A1 {d : F} {p q : F × F} (ns : NS d) (hp : On d p) (hq : On d q) :
    (1+(add d p q).2) * (1+(add d p (neg q)).2) * ((p.2 - q.2) * (p.2 - q.2))=(1 - (add d p q).2) * (1 - (add d p (neg q)).2) * ((p.2+q.2) * (p.2+q.2)):=by
  have a:=jm ns hp hq
  have b:=jm ns hp (ij hq)
  have n1:=jl ns hp hq
  have n2:=jl ns hp (ij hq)
  have c:=Db (wK d p.1 p.2 q.1 q.2) (fU hp) (fU hq)
  generalize add d p q=r at *
  generalize add d p (neg q)=t at *
  obtain ⟨rx,ry⟩:=r
  obtain ⟨tx,ty⟩:=t
  obtain ⟨x1,y1⟩:=p
  obtain ⟨x2,y2⟩:=q
  unfold neg kk On at *
  simp only at *
  clear hp hq
  have e : 1 - d * x1 * -x2 * y1 * y2=1+d * x1 * x2 * y1 * y2:=by clear a b n1 n2 c;grobner
  rw [e] at b n2
  generalize d * x1 * x2 * y1 * y2=k at *
  have e1 : (1 - k) * (1+ry)=1 - k+y1 * y2 - x1 * x2:=by clear b n1 n2 c e;grobner
  have e2 : (1 - k) * (1 - ry)=1 - k - y1 * y2+x1 * x2:=by clear b n1 n2 c e e1;grobner
  have e3 : (1+k) * (1+ty)=1+k+y1 * y2+x1 * x2:=by clear a n1 n2 c e e1 e2;grobner
  have e4 : (1+k) * (1 - ty)=1+k - y1 * y2 - x1 * x2:=by clear a n1 n2 c e e1 e2 e3;grobner
  rw [← e1,← e2,← e3,← e4] at c
  refine cancel (de n1 n2) ?_
  clear e1 e2 e3 e4 a b e n1 n2
  generalize 1+ry=r1 at *
  generalize 1 - ry=r2 at *
  generalize 1+ty=t1 at *
  generalize 1 - ty=t2 at *
  generalize 1+k=k1 at *
  generalize 1 - k=k2 at *
  generalize y1 - y2=f at *
  generalize y1+y2=g at *
  grobner
theorem A2 (d : F) (p q : F × F) : (add d p (neg q)).2=(add d q (neg p)).2:=by
  show (p.2 * q.2 - p.1 * -q.1) * inv (1 - d * p.1 * -q.1 * p.2 * q.2)=(q.2 * p.2 - q.1 * -p.1) * inv (1 - d * q.1 * -p.1 * q.2 * p.2)
  have e1 : p.2 * q.2 - p.1 * -q.1=q.2 * p.2 - q.1 * -p.1:=by grobner
  have e2 : 1 - d * p.1 * -q.1 * p.2 * q.2=1 - d * q.1 * -p.1 * q.2 * p.2:=by grobner
  rw [e1,e2]
theorem Dh.Gc {σ d : F} (h : Dh σ d) : 1 - d≠0:=fun z=>h.ns 1 (by grobner)
theorem vD {σ d : F} (hp : Dh σ d) {p : F × F} (h : On d p) {s : L4} (r : Am σ p.2 s.x2 s.z2) (x1 : F) : Am σ (add d p p).2 (core x1 s).x2 (core x1 s).z2:=by
  obtain ⟨l,l0,ex,ez⟩:=r
  have id:=Di hp.ns h
  have nd:=hp.Gc
  have h1:=hp.one
  have h2:=hp.num
  show Am σ (add d p p).2 ((s.x2+s.z2) * (s.x2+s.z2) * ((s.x2 - s.z2) * (s.x2 - s.z2))) (((s.x2+s.z2) * (s.x2+s.z2) - (s.x2 - s.z2) * (s.x2 - s.z2)) * ((s.x2+s.z2) * (s.x2+s.z2)+121665 * ((s.x2+s.z2) * (s.x2+s.z2) - (s.x2 - s.z2) * (s.x2 - s.z2))))
  rw [ex,ez]
  generalize p.2=y at *
  generalize (add d p p).2=y2 at *
  clear ex ez h hp
  have fx : (l * (1+y)+l * (σ * (1 - y))) * (l * (1+y)+l * (σ * (1 - y))) * ((l * (1+y) - l * (σ * (1 - y))) * (l * (1+y) - l * (σ * (1 - y))))=16 * (l * l * (l * l)) * (y * y):=by
    have e : (l * (1+y)+l * (σ * (1 - y))) * (l * (1+y) - l * (σ * (1 - y)))=l * l * (4 * y):=by clear id h2 nd l0;grobner
    clear id h1 h2 nd l0
    generalize l * (1+y)+l * (σ * (1 - y))=a at *
    generalize l * (1+y) - l * (σ * (1 - y))=b at *
    grobner
  have ge : (l * (1+y)+l * (σ * (1 - y))) * (l * (1+y)+l * (σ * (1 - y))) - (l * (1+y) - l * (σ * (1 - y))) * (l * (1+y) - l * (σ * (1 - y)))=4 * (l * l) * (σ * (1 - y * y)):=by clear id h1 h2 nd l0 fx;grobner
  have ga : (l * (1+y)+l * (σ * (1 - y))) * (l * (1+y)+l * (σ * (1 - y)))=l * l * (2+2 * (y * y)+2 * (σ * (1 - y * y))):=by clear id h2 nd l0 fx ge;grobner
  rw [fx,ge,ga]
  have ca4 : (121665 : F) * 4=ca - 2:=by decide +kernel
  have gz : (1 - d) * (4 * (l * l) * (σ * (1 - y * y)) * (l * l * (2+2 * (y * y)+2 * (σ * (1 - y * y)))+121665 * (4 * (l * l) * (σ * (1 - y * y)))))=16 * (l * l * (l * l)) * (σ * ((1 - y * y) * (1 - d * y * y))):=by
    have e1 : l * l * (2+2 * (y * y)+2 * (σ * (1 - y * y)))+121665 * (4 * (l * l) * (σ * (1 - y * y)))=l * l * (2+2 * (y * y)+σ * ca * (1 - y * y)):=by
      clear id h1 h2 nd l0 fx ge ga
      generalize ca=A at *
      grobner
    have e2 : (1 - d) * (2+2 * (y * y)+σ * ca * (1 - y * y))=4 * (1 - d * y * y):=by
      clear id h1 nd l0 fx ge ga e1 ca4
      generalize ca=A at *
      grobner
    rw [e1]
    clear id h1 h2 nd l0 fx ge ga e1 ca4
    generalize 2+2 * (y * y)+σ * ca * (1 - y * y)=w at *
    grobner
  generalize 4 * (l * l) * (σ * (1 - y * y)) * (l * l * (2+2 * (y * y)+2 * (σ * (1 - y * y)))+121665 * (4 * (l * l) * (σ * (1 - y * y))))=Z at *
  have n16 : 16 * (l * l * (l * l))≠0:=de (by decide) (de (de l0 l0) (de l0 l0))
  clear fx ge ga ca4 h2 l0
  generalize 16 * (l * l * (l * l))=K at *
  refine yI h1 (cancel nd ?_) fun z1 z2=>?_
  · have e : (1 - d) * (σ * (1+y2) * Z)=σ * (1+y2) * ((1 - d) * Z):=by clear id h1 gz nd n16;grobner
    rw [e,gz]
    clear e gz nd n16
    generalize (1 - y * y) * (1 - d * y * y)=w at *
    grobner
  · have y0 : y=0:=(mul_zero z1).elim (fun h=>absurd h n16) qj
    have s0 : σ≠0:=fun e=>by
      rw [e] at h1
      have : (0 : F) * 0≠1:=by decide
      exact this h1
    refine de n16 s0 ?_
    rw [y0,z2] at gz
    clear id h1 nd n16 z1 z2 y0 s0
    grobner
theorem vE {σ d u : F} (hp : Dh σ d) {p q : F × F} (h : On d p) (h' : On d q) {s : L4} (r : Am σ p.2 s.x2 s.z2) (r' : Am σ q.2 s.x3 s.z3)
    (hu : u≠0) (hd : u * (σ * (1 - (add d p (neg q)).2))=1+(add d p (neg q)).2) : Am σ (add d p q).2 (core u s).x3 (core u s).z3:=by
  obtain ⟨l,l0,ex,ez⟩:=r
  obtain ⟨m,m0,fx,fz⟩:=r'
  have id:=A1 hp.ns h h'
  have ty:=jm hp.ns h (ij h')
  have h1:=hp.one
  show Am σ (add d p q).2 (((s.x3 - s.z3) * (s.x2+s.z2)+(s.x3+s.z3) * (s.x2 - s.z2)) * ((s.x3 - s.z3) * (s.x2+s.z2)+(s.x3+s.z3) * (s.x2 - s.z2)))
    (u * (((s.x3 - s.z3) * (s.x2+s.z2) - (s.x3+s.z3) * (s.x2 - s.z2)) * ((s.x3 - s.z3) * (s.x2+s.z2) - (s.x3+s.z3) * (s.x2 - s.z2))))
  rw [ex,ez,fx,fz]
  generalize (add d p q).2=ry at *
  generalize add d p (neg q)=t at *
  obtain ⟨tx,t⟩:=t
  obtain ⟨x1,y1⟩:=p
  obtain ⟨x2,y2⟩:=q
  unfold neg kk On at *
  simp only at *
  clear ex ez fx fz hp
  have one : (1 : F)≠0:=by decide
  have ga : (m * (1+y2) - m * (σ * (1 - y2))) * (l * (1+y1)+l * (σ * (1 - y1)))+(m * (1+y2)+m * (σ * (1 - y2))) * (l * (1+y1) - l * (σ * (1 - y1)))=4 * (l * m) * (y1+y2):=by
    clear id ty h h' hu hd l0 m0 one
    grobner
  have gb : (m * (1+y2) - m * (σ * (1 - y2))) * (l * (1+y1)+l * (σ * (1 - y1))) - (m * (1+y2)+m * (σ * (1 - y2))) * (l * (1+y1) - l * (σ * (1 - y1)))=4 * (l * m) * (σ * (y2 - y1)):=by
    clear id ty h h' hu hd l0 m0 one ga h1
    grobner
  rw [ga,gb]
  have n4 : 4 * (l * m)≠0:=de (by decide) (de l0 m0)
  clear ga gb l0 m0
  generalize 4 * (l * m)=K at *
  have t1 : 1 - t≠0:=fun z=>by
    have e : (2 : F)=0:=by
      rw [z] at hd
      clear id ty h h' hu h1 one n4
      grobner
    exact lD e
  refine yI h1 (cancel t1 ?_) fun z1 z2=>?_
  · have e : (1 - t) * (σ * (1+ry) * (u * (K * (σ * (y2 - y1)) * (K * (σ * (y2 - y1))))))=K * K * (σ * σ) * ((1+ry) * (u * (σ * (1 - t))) * ((y1 - y2) * (y1 - y2))):=by
      clear id ty h h' hu hd h1 one n4 t1
      grobner
    rw [e,hd,id,h1]
    clear id ty h h' hu hd h1 one n4 t1 e
    grobner
  · have a1 : y1+y2=0:=(mul_zero (qj z1)).elim (fun h=>absurd h n4) (fun h=>h)
    have a2 : σ * (y2 - y1)=0:=(mul_zero ((mul_zero z2).elim (fun h=>absurd h hu) qj)).elim (fun h=>absurd h n4) (fun h=>h)
    have a3 : y2 - y1=0:=by clear id ty h h' hu hd one n4 t1 z1 z2 a1;grobner
    have a4 : (2 : F) * y1=0:=by clear id ty h h' hu hd one n4 t1 z1 z2 a2 h1;grobner
    have a5 : y1=0:=(mul_zero a4).elim (fun h=>absurd h lD) (fun h=>h)
    have a6 : y2=0:=by rw [a5] at a1;clear id ty h h' hu hd one n4 t1 z1 z2 a2 h1 a3 a4 a5;grobner
    rw [a5] at h ty
    rw [a6] at h' ty
    have b1 : x1 * x1=1:=by clear id ty h' hu hd one n4 t1 z1 z2 a1 a2 h1 a3 a4 a5 a6;grobner
    have b2 : x2 * x2=1:=by clear id ty h hu hd one n4 t1 z1 z2 a1 a2 h1 a3 a4 a5 a6 b1;grobner
    have b3 : t=x1 * x2:=by clear id h h' hu hd one n4 t1 z1 z2 a1 a2 h1 a3 a4 a5 a6 b1 b2;grobner
    have b4 : (1 - t) * (1+t)=0:=by clear id h h' hu hd one n4 t1 z1 z2 a1 a2 h1 a3 a4 a5 a6 ty;grobner
    have b5 : 1+t=0:=(mul_zero b4).elim (fun h=>absurd h t1) (fun h=>h)
    have s0 : σ≠0:=fun e=>by
      rw [e] at h1
      have : (0 : F) * 0≠1:=by decide
      exact this h1
    rw [b5] at hd
    exact de hu (de s0 t1) hd
end cV
end
section
namespace cV
theorem yJ {d : F} {p r : F × F} (ns : NS d) (hp : On d p) (hr : On d r) : add d (add d r p) (neg r)=p:=by
  rw [add_comm d r p,assoc ns hp hr (ij hr),add_neg ns hr,add_comm,Ce]
theorem yK {d : F} {p : F × F} (ns : NS d) (h : On d p) (m : Nat) : add d (nP d p m) (nP d p m)=nP d p (2 * m):=by
  rw [← uq ns h,Nat.two_mul]
theorem vF {d : F} {p : F × F} (ns : NS d) (h : On d p) (m : Nat) : add d (nP d p m) (nP d p (m+1))=nP d p (2 * m+1):=by
  rw [← uq ns h]
  congr 1
  omega
def Inv (σ d : F) (p : F × F) (m : Nat) (s : L4) : Prop:=Am σ (nP d p m).2 s.x2 s.z2∧Am σ (nP d p (m+1)).2 s.x3 s.z3
theorem Inv.step {σ d u : F} {p : F × F} (hp : Dh σ d) (h : On d p) (hu : u≠0) (hd : u * (σ * (1 - p.2))=1+p.2) {m : Nat} {s : L4} (i : Inv σ d p m s) (b : Bool) :
    Inv σ d p (2 * m+b.toNat) (swap b (core u (swap b s))):=by
  obtain ⟨i1,i2⟩:=i
  have o1:=rZ hp.ns h m
  have o2:=rZ hp.ns h (m+1)
  have df : add d (nP d p (m+1)) (neg (nP d p m))=p:=yJ hp.ns h o1
  have dg : (add d (nP d p m) (neg (nP d p (m+1)))).2=p.2:=by rw [A2,df]
  cases b with
  | false=>
    have a1:=vD hp o1 i1 u
    have a2:=vE hp o1 o2 i1 i2 hu (by rw [dg];exact hd)
    rw [yK hp.ns h] at a1
    rw [vF hp.ns h] at a2
    exact ⟨a1,a2⟩
  | true=>
    have a1:=vD hp o2 (s:=⟨s.x3,s.z3,s.x2,s.z2⟩) i2 u
    have a2:=vE hp o2 o1 (s:=⟨s.x3,s.z3,s.x2,s.z2⟩) i2 i1 hu (by rw [df];exact hd)
    rw [yK hp.ns h] at a1
    rw [add_comm,vF hp.ns h] at a2
    exact ⟨a2,a1⟩
theorem wL (k n : Nat) : k % 2 ^ (n+1)=(k.testBit n).toNat * 2 ^ n+k % 2 ^ n:=by
  rw [Nat.pow_succ,Nat.mod_mul,Nat.testBit_eq_decide_div_mod_eq,Nat.add_comm,Nat.mul_comm]
  congr 2
  by_cases h : k / 2 ^ n % 2=1
  · rw [h];rfl
  · have h0 : k / 2 ^ n % 2=0:=by omega
    rw [h0];rfl
theorem Inv.all {σ d u : F} {p : F × F} (hp : Dh σ d) (h : On d p) (hu : u≠0) (hd : u * (σ * (1 - p.2))=1+p.2) (k : Nat) :
    ∀ n m s,Inv σ d p m s→Inv σ d p (m * 2 ^ n+k % 2 ^ n) (A0 u k n s)
  | 0,m,s,i=>by
    have e : m * 2 ^ 0+k % 2 ^ 0=m:=by rw [Nat.pow_zero,Nat.mod_one,Nat.mul_one];rfl
    rw [e];exact i
  | n+1,m,s,i=>by
    have r:=Inv.all hp h hu hd k n _ _ (i.step hp h hu hd (k.testBit n))
    have e : m * 2 ^ (n+1)+k % 2 ^ (n+1)=(2 * m+(k.testBit n).toNat) * 2 ^ n+k % 2 ^ n:=by
      rw [wL,Nat.add_mul,Nat.pow_succ,Nat.mul_comm (2 ^ n) 2,← Nat.mul_assoc,Nat.mul_comm m 2,Nat.add_assoc]
    rw [e];exact r
def U (σ : F) (p : F × F) : F:=(1+p.2) * inv (σ * (1 - p.2))
theorem GP {σ u s : F} (h1 : σ * σ=1) (hs : σ * (σ * ca+2) * (u * (u * u+ca * u+1))=s * s) : ∃ d p,Dh σ d∧On d p∧U σ p=u:=by
  have nr:=AX
  have hc : σ * ca+2≠0:=fun z=>nr 0 (by
    generalize ca=A at *
    clear nr hs
    grobner)
  have hv : σ * u+1≠0:=fun z=>nr s (by
    rw [← hs]
    generalize ca=A at *
    clear nr hs hc
    grobner)
  have hD : u * u+ca * u+1≠0:=fun z=>nr (2 * u+ca) (by
    generalize ca=A at *
    clear nr hs hc hv
    grobner)
  have ic:=dX hc
  have iv:=dX hv
  have iD:=dX hD
  have num : (σ * ca - 2) * inv (σ * ca+2) * (σ * ca+2)=σ * ca - 2:=by
    clear hs hv hD iv iD nr h1
    generalize inv (σ * ca+2)=a at *
    generalize σ * ca+2=b at *
    generalize σ * ca - 2=c at *
    grobner
  have ns : NS ((σ * ca - 2) * inv (σ * ca+2)):=fun t e=>nr (t * (σ * ca+2)) (by
    rw [← e] at num
    clear hs hv hD iv iD nr e ic hc
    generalize ca=A at *
    grobner)
  have hx : s * inv (u * u+ca * u+1) * (u * u+ca * u+1)=s:=by
    clear hs hv ns iv nr ic hc num h1
    generalize inv (u * u+ca * u+1)=a at *
    generalize u * u+ca * u+1=b at *
    grobner
  have hy : (σ * u - 1) * inv (σ * u+1) * (σ * u+1)=σ * u - 1:=by
    clear hs hD ns iD nr ic hc num h1 hx
    generalize inv (σ * u+1)=a at *
    generalize σ * u+1=b at *
    generalize σ * u - 1=c at *
    grobner
  generalize s * inv (u * u+ca * u+1)=x at *
  generalize (σ * u - 1) * inv (σ * u+1)=y at *
  generalize (σ * ca - 2) * inv (σ * ca+2)=d at *
  refine ⟨d,(x,y),⟨h1,num,ns⟩,?_,?_⟩
  · show x * x+y * y=1+d * x * x * y * y
    have e1 : x * x * (u * u+ca * u+1)=(σ * ca+2) * (σ * u):=by
      refine cancel hD ?_
      clear nr hc hv hD ic iv iD num ns hy
      have e : (u * u+ca * u+1) * (x * x * (u * u+ca * u+1))=s * s:=by
        rw [← hx]
        clear hx hs h1
        generalize u * u+ca * u+1=D at *
        grobner
      rw [e,← hs]
      clear e hx hs
      generalize u * u+ca * u+1=D at *
      generalize ca=A at *
      grobner
    refine cancel hD (cancel (de hv hv) ?_)
    have l : (σ * u+1) * (σ * u+1) * ((u * u+ca * u+1) * (x * x+y * y))=(σ * ca+2) * (σ * u) * ((σ * u+1) * (σ * u+1))+(u * u+ca * u+1) * ((σ * u - 1) * (σ * u - 1)):=by
      rw [← e1,← hy]
      clear e1 hy hx hs nr hc hv hD ic iv iD num ns h1
      generalize σ * u+1=E at *
      generalize u * u+ca * u+1=D at *
      grobner
    have r : (σ * u+1) * (σ * u+1) * ((u * u+ca * u+1) * (1+d * x * x * y * y))=(u * u+ca * u+1) * ((σ * u+1) * (σ * u+1))+d * (σ * ca+2) * (σ * u) * ((σ * u - 1) * (σ * u - 1)):=by
      have e2 : d * (σ * ca+2) * (σ * u)=d * (x * x * (u * u+ca * u+1)):=by
        rw [e1]
        clear l e1 hy hx hs nr hc hv hD ic iv iD num ns h1
        generalize σ * ca+2=C at *
        generalize σ * u=v at *
        grobner
      rw [e2,← hy]
      clear l e1 e2 hy hx hs nr hc hv hD ic iv iD num ns h1
      generalize σ * u+1=E at *
      generalize u * u+ca * u+1=D at *
      grobner
    rw [l,r,num]
    clear l r e1 hy hx hs nr hc hv hD ic iv iD num ns
    generalize ca=A at *
    grobner
  · show (1+y) * inv (σ * (1 - y))=u
    have e1 : (σ * u+1) * (1+y)=2 * (σ * u):=by
      clear hx hs nr hc hv hD ic iv iD num ns h1
      grobner
    have e2 : (σ * u+1) * (1 - y)=2:=by
      clear hx hs nr hc hv hD ic iv iD num ns h1 e1
      grobner
    have e3 : u * (σ * (1 - y))=1+y:=by
      refine cancel hv ?_
      rw [e1]
      clear hx hs nr hc hv hD ic iv iD num ns h1 e1 hy
      grobner
    have n : σ * (1 - y)≠0:=fun z=>by
      have e4 : (2 : F)=0:=by
        clear hx hs nr hc hv hD ic iv iD num ns e1 hy e3
        grobner
      exact lD e4
    have i:=dX n
    rw [← e3]
    clear hx hs nr hc hv hD ic iv iD num ns e1 hy e3 e2 n h1
    generalize inv (σ * (1 - y))=a at *
    generalize σ * (1 - y)=b at *
    grobner
end cV
end
section
namespace cV
def val : List Int→Int
  | []=>0
  | a::l=>a+65536 * val l
def nth (l : List Int) (i : Nat) : Int:=l.getD i 0
theorem cn (l : List Int) (i j : Nat) (x : Int) (h : i<l.length) : nth (l.set i x) j=if i=j then x else nth l j:=by
  unfold nth
  simp only [List.getD_eq_getElem?_getD,List.getElem?_set]
  by_cases e : i=j
  · subst e
    simp [h]
  · simp [e]
theorem iO : ∀ (l : List Int) (i : Nat) (x : Int),i<l.length→val (l.set i x)=val l+(x - nth l i) * 65536 ^ i
  | [],i,x,h=>absurd h (by simp)
  | a::l,0,x,_=>by
    show x+65536 * val l=a+65536 * val l+(x - a) * 65536 ^ 0
    rw [Int.pow_zero];omega
  | a::l,i+1,x,h=>by
    have ih:=iO l i x (by simpa using h)
    show a+65536 * val (l.set i x)=a+65536 * val l+(x - nth l i) * 65536 ^ (i+1)
    rw [ih,Int.pow_succ,Int.mul_add,Int.mul_comm (65536 ^ i) 65536,Int.mul_left_comm,Int.add_assoc]
def eP (l : List Int) (i : Nat) : List Int:=
  let q:=nth l i / 65536
  let m:=l.set i (nth l i - q * 65536)
  if i<15 then m.set (i+1) (nth m (i+1)+q) else m.set 0 (nth m 0+38 * q)
def qP (l : List Int) : Nat→List Int
  | 0=>l
  | i+1=>eP (qP l i) i
def GR (l : List Int) : List Int:=qP l 16
theorem wM (l : List Int) (i : Nat) : (eP l i).length=l.length:=by
  unfold eP
  simp only
  split <;> simp
theorem vG (l : List Int) : ∀ i,(qP l i).length=l.length
  | 0=>rfl
  | i+1=>by show (eP (qP l i) i).length=_;rw [wM,vG l i]
theorem wN {l : List Int} (hl : l.length=16) {i : Nat} (h : i<15) : val (eP l i)=val l:=by
  unfold eP
  simp only [h,if_true]
  rw [iO _ _ _ (by simp [hl];omega),iO _ _ _ (by omega),Int.pow_succ]
  have e : nth (l.set i (nth l i - nth l i / 65536 * 65536)) (i+1)+nth l i / 65536 - nth (l.set i (nth l i - nth l i / 65536 * 65536)) (i+1)=nth l i / 65536:=by omega
  have e2 : nth l i - nth l i / 65536 * 65536 - nth l i=-(nth l i / 65536 * 65536):=by omega
  rw [e,e2]
  generalize nth l i / 65536=q
  rw [Int.neg_mul,Int.mul_assoc q,Int.mul_comm 65536 (65536 ^ i)]
  omega
theorem A3 {l : List Int} (hl : l.length=16) : ∀ i,i≤15→val (qP l i)=val l
  | 0,_=>rfl
  | i+1,h=>by
    show val (eP (qP l i) i)=val l
    rw [wN (by rw [vG,hl]) (by omega),A3 hl i (by omega)]
def fV (lo : List Int) : Nat→Int
  | 0=>0
  | i+1=>(nth lo i+fV lo i) / 65536
def GS (lo hi l : List Int) : Prop:=∀ j,j<16→nth lo j≤nth l j∧nth l j≤nth hi j
structure yL (lo hi : List Int) (i : Nat) (l : List Int) : Prop where
  len : l.length=16
  done : ∀ j,j<i→0≤nth l j∧nth l j≤65535
  here : nth lo i+fV lo i≤nth l i∧nth l i≤nth hi i+fV hi i
  rest : ∀ j,i<j→j<16→nth lo j≤nth l j∧nth l j≤nth hi j
theorem yL.step {lo hi l : List Int} {i : Nat} (h : i<15) (c : yL lo hi i l) : yL lo hi (i+1) (eP l i):=by
  obtain ⟨len,done,here,rest⟩:=c
  unfold eP
  simp only [h,if_true]
  have l1 : (l.set i (nth l i - nth l i / 65536 * 65536)).length=16:=by simp [len]
  refine ⟨by simp [len],fun j hj=>?_,?_,fun j hj hj2=>?_⟩
  · rw [cn _ _ _ _ (by omega),if_neg (by omega),cn _ _ _ _ (by omega)]
    split
    next e=>omega
    next e=>exact done j (by omega)
  · rw [cn _ _ _ _ (by omega),if_pos rfl,cn _ _ _ _ (by omega),if_neg (by omega)]
    have r:=rest (i+1) (by omega) (by omega)
    have e1 : fV lo (i+1)=(nth lo i+fV lo i) / 65536:=rfl
    have e2 : fV hi (i+1)=(nth hi i+fV hi i) / 65536:=rfl
    rw [e1,e2]
    omega
  · rw [cn _ _ _ _ (by omega),if_neg (by omega),cn _ _ _ _ (by omega),if_neg (by omega)]
    exact rest j (by omega) hj2
theorem yL.all {lo hi l : List Int} (hl : l.length=16) (b : GS lo hi l) : ∀ i,i≤15→yL lo hi i (qP l i)
  | 0,_=>⟨hl,fun j h=>absurd h (by omega),by have:=b 0 (by omega);show nth lo 0+0≤nth l 0∧nth l 0≤nth hi 0+0;omega,fun j _ h=>b j h⟩
  | i+1,h=>(yL.all hl b i (by omega)).step (by omega)
structure Small (l0 h0 : Int) (l : List Int) : Prop where
  len : l.length=16
  first : l0≤nth l 0∧nth l 0≤h0
  rest : ∀ j,0<j→j<16→0≤nth l j∧nth l j≤65535
theorem yL.last {lo hi l : List Int} (c : yL lo hi 15 l) : Small (38 * fV lo 16) (65535+38 * fV hi 16) (eP l 15):=by
  obtain ⟨len,done,here,rest⟩:=c
  unfold eP
  simp only [show ¬ (15 : Nat)<15 by decide,if_false]
  have l1 : (l.set 15 (nth l 15 - nth l 15 / 65536 * 65536)).length=16:=by simp [len]
  have d0:=done 0 (by omega)
  have e1 : fV lo 16=(nth lo 15+fV lo 15) / 65536:=rfl
  have e2 : fV hi 16=(nth hi 15+fV hi 15) / 65536:=rfl
  refine ⟨by simp [len],?_,fun j hj hj2=>?_⟩
  · rw [cn _ _ _ _ (by omega),if_pos rfl,cn _ _ _ _ (by omega),if_neg (by omega),e1,e2]
    omega
  · rw [cn _ _ _ _ (by omega),if_neg (by omega),cn _ _ _ _ (by omega)]
    split
    next e=>omega
    next e=>exact done j (by omega)
theorem Small.weak {a b c d : Int} {l : List Int} (h : Small a b l) (h1 : c≤a) (h2 : b≤d) : Small c d l:=
  ⟨h.len,by have:=h.first;omega,h.rest⟩
end cV
end
section
set_option maxRecDepth 10000
open Sl cV
theorem eG : Tryd.prog.follows .mixedOrders=true:=by kernel_rfl
def Fit (l : List Int) : Prop:=∀ j,j<16→-288230376151711744≤nth l j∧nth l j≤288230376151711744
def wlo : List Int:=List.replicate 16 (-288230376151711744)
def whi : List Int:=List.replicate 16 288230376151711744
theorem fJ (x : Int) (j : Nat) (h : j<16) : nth (List.replicate 16 x) j=x:=by
  unfold nth
  rw [List.getD_eq_getElem?_getD,List.getElem?_replicate,if_pos h];rfl
theorem Fit.Gd {l : List Int} (h : Fit l) : GS wlo whi l:=fun j hj=>by
  rw [wlo,whi,fJ _ _ hj,fJ _ _ hj];exact h j hj
theorem vH : ∀ i,i≤16→-8796093022208≤fV wlo i∧fV wlo i≤0
  | 0,_=>by decide
  | i+1,h=>by
    have ih:=vH i (by omega)
    have e : fV wlo (i+1)=(nth wlo i+fV wlo i) / 65536:=rfl
    rw [e,wlo,fJ _ _ (by omega),← wlo]
    omega
theorem vI : ∀ i,i≤16→0≤fV whi i∧fV whi i≤8796093022208
  | 0,_=>by decide
  | i+1,h=>by
    have ih:=vI i (by omega)
    have e : fV whi (i+1)=(nth whi i+fV whi i) / 65536:=rfl
    rw [e,whi,fJ _ _ (by omega),← whi]
    omega
theorem Fit.here {l : List Int} (hl : l.length=16) (h : Fit l) {i : Nat} (hi : i<16) : -297237575406452736≤nth (qP l i) i∧nth (qP l i) i≤297237575406452736:=by
  have c:=(yL.all hl h.Gd i (by omega)).here
  have a:=vH i (by omega)
  have b:=vI i (by omega)
  rw [wlo,whi,fJ _ _ hi,fJ _ _ hi,← wlo,← whi] at c
  omega
theorem Fit.next {l : List Int} (hl : l.length=16) (h : Fit l) {i : Nat} (hi : i<15) : -288230376151711744≤nth (qP l i) (i+1)∧nth (qP l i) (i+1)≤288230376151711744:=by
  have c:=(yL.all hl h.Gd i (by omega)).rest (i+1) (by omega) (by omega)
  rw [wlo,whi,fJ _ _ (by omega),fJ _ _ (by omega)] at c
  exact c
theorem Fit.zero {l : List Int} (hl : l.length=16) (h : Fit l) : 0≤nth (qP l 15) 0∧nth (qP l 15) 0≤65535:=(yL.all hl h.Gd 15 (by omega)).done 0 (by omega)
end
section
namespace cV
def fi (x : Int) : F:=⟨(x % (P : Int)).toNat,by
  have h1 : 0≤x % (P : Int):=Int.emod_nonneg _ (by decide)
  have h2 : x % (P : Int)<(P : Int):=Int.emod_lt_of_pos _ (by decide)
  omega⟩
theorem iq (x : Int) : ((fi x).val : Int)=x % (P : Int):=Int.toNat_of_nonneg (Int.emod_nonneg _ (by decide))
theorem yM {a b : F} (h : (a.val : Int)=(b.val : Int)) : a=b:=Fin.ext (by omega)
theorem yN (x y : Int) : fi (x+y)=fi x+fi y:=yM (by
  rw [iq,Fin.val_add,Int.natCast_emod,Int.natCast_add,iq,iq,← Int.add_emod])
theorem Dj (x y : Int) : fi (x * y)=fi x * fi y:=yM (by
  rw [iq,Fin.val_mul,Int.natCast_emod,Int.natCast_mul,iq,iq,← Int.mul_emod])
theorem Ge (q : Int) : fi (q * P)=0:=yM (by rw [iq,Int.mul_emod_left];rfl)
theorem Dl {x y q : Int} (h : x=y+q * P) : fi x=fi y:=by
  rw [h,yN,Ge]
  generalize fi y=a
  clear h
  grobner
def fv (l : List Int) : F:=fi (val l)
def ps (l : List Int) : Nat→Int
  | 0=>0
  | k+1=>ps l k+nth l k * 65536 ^ k
theorem vJ (a : Int) (l : List Int) : ∀ k,ps (a::l) (k+1)=a+65536 * ps l k
  | 0=>by
    show 0+nth (a::l) 0 * 65536 ^ 0=a+65536 * 0
    rw [Int.pow_zero]
    show 0+a * 1=a+65536 * 0
    omega
  | k+1=>by
    show ps (a::l) (k+1)+nth (a::l) (k+1) * 65536 ^ (k+1)=a+65536 * (ps l k+nth l k * 65536 ^ k)
    rw [vJ a l k,Int.pow_succ,Int.mul_comm (65536 ^ k) 65536,Int.mul_add,Int.mul_left_comm]
    show a+65536 * ps l k+65536 * (nth l k * 65536 ^ k)=_
    rw [Int.add_assoc]
theorem yO : ∀ k,ps [] k=0
  | 0=>rfl
  | k+1=>by show ps [] k+0 * 65536 ^ k=0;rw [yO k,Int.zero_mul];rfl
theorem yP : ∀ (l : List Int) (k : Nat),l.length≤k→val l=ps l k
  | [],k,_=>(yO k).symm
  | a::l,0,h=>absurd h (by simp)
  | a::l,k+1,h=>by rw [vJ,← yP l k (by simpa using h)];rfl
abbrev Good (l : List Int) : Prop:=Small (-128) 65663 l
theorem r8 (n j : Nat) : nth (List.replicate n 0) j=0:=by
  unfold nth
  rw [List.getD_eq_getElem?_getD,List.getElem?_replicate]
  split <;> rfl
def fold (t : List Int) : Nat→List Int
  | 0=>List.replicate 16 0
  | i+1=>if i<15 then ((fold t i).set i (nth t i)).set i (nth ((fold t i).set i (nth t i)) i+38 * nth t (i+16)) else (fold t i).set i (nth t i)
end cV
end
section
set_option maxRecDepth 10000
open Sl cV
end
section
set_option maxRecDepth 10000
open Sl cV
end
section
namespace cV
abbrev By:=BitVec 8
def le : List By→Nat
  | []=>0
  | b::l=>b.toNat+256 * le l
def top : Nat:=32768 * 65536 ^ 15
def pt (u : List By) : F:=fi ((le u % top : Nat) : Int)
end cV
end
section
set_option maxRecDepth 10000
open Sl cV
theorem aO : dm Tryd.prog 23=some 32:=by kernel_rfl
theorem bB : ei Tryd.prog 23=true:=by kernel_rfl
theorem Cf : dm Tryd.prog 5=some 1:=by kernel_rfl
theorem Ft : fP Tryd.prog 5=true:=by kernel_rfl
theorem qk {l : List By} {i : Nat} (h : i<l.length) : (l.map U8)[i]?=some (U8 (l.getD i 0)):=by
  simp [h]
section
variable {P : Program} {n : Nat} {E : Env} {C : World→Prop} {dst : Option Tmp} {ty t t' : TypeId} {pos : String} {aft : Array Edge} {g : Option (Nat × Bool)} {x y : Operand}
end
end
section
namespace cV
structure Norm (l : List Int) : Prop where
  len : l.length=16
  all : ∀ j,j<16→0≤nth l j∧nth l j≤65535
theorem Norm.wO {l : List Int} (h : Norm l) : Good l:=⟨h.len,by have:=h.all 0 (by omega);omega,fun j _ hj=>h.all j hj⟩
theorem nM (l : List Int) (i : Nat) (h : i<l.length) : l.set i (nth l i)=l:=by
  unfold nth
  rw [List.getD_eq_getElem?_getD,List.getElem?_eq_getElem h]
  exact List.set_getElem_self h
theorem Norm.eP {l : List Int} (h : Norm l) {i : Nat} (hi : i<16) : cV.eP l i=l:=by
  have a:=h.all i hi
  have q : nth l i / 65536=0:=by omega
  have e : l.set i (nth l i - nth l i / 65536 * 65536)=l:=by
    rw [q,Int.zero_mul,Int.sub_zero,nM _ _ (by rw [h.len];omega)]
  unfold cV.eP
  simp only
  rw [e,q,Int.mul_zero,Int.add_zero,Int.add_zero]
  split
  · exact nM _ _ (by rw [h.len];omega)
  · exact nM _ _ (by rw [h.len];omega)
theorem Norm.qP {l : List Int} (h : Norm l) : ∀ i,i≤16→cV.qP l i=l
  | 0,_=>rfl
  | i+1,hi=>by
    show cV.eP (cV.qP l i) i=l
    rw [h.qP i (by omega),h.eP (by omega)]
theorem Norm.GR {l : List Int} (h : Norm l) : cV.GR l=l:=h.qP 16 (by omega)
theorem Cg (l : List Int) : ∀ k,(∀ j,j<k→0≤nth l j∧nth l j≤65535)→0≤ps l k∧ps l k≤65536 ^ k - 1
  | 0,_=>by show (0 : Int)≤0∧(0 : Int)≤65536 ^ 0 - 1;rw [Int.pow_zero];omega
  | k+1,h=>by
    have ih:=Cg l k fun j hj=>h j (by omega)
    have a:=h k (by omega)
    have m : (0 : Int)<65536 ^ k:=Int.pow_pos (by decide)
    show 0≤ps l k+nth l k * 65536 ^ k∧ps l k+nth l k * 65536 ^ k≤65536 ^ (k+1) - 1
    rw [Int.pow_succ]
    generalize (65536 : Int) ^ k=M at *
    have p0:=Int.mul_nonneg a.1 (Int.le_of_lt m)
    have p1:=Int.mul_le_mul_of_nonneg_right a.2 (Int.le_of_lt m)
    omega
def oy (i : Nat) : Int:=if i=15 then 32767 else 65535
def pl (i : Nat) : Int:=if i=0 then 65517 else oy i
def sb (a : List Int) : Nat→List Int
  | 0=>(List.replicate 16 0).set 0 (nth a 0 - 65517)
  | k+1=>((sb a k).set (k+1) (nth a (k+1) - oy (k+1) - nth (sb a k) k / 65536 % 2)).set k (nth ((sb a k).set (k+1) (nth a (k+1) - oy (k+1) - nth (sb a k) k / 65536 % 2)) k % 65536)
structure Gf (a : List Int) (k : Nat) (m : List Int) : Prop where
  len : m.length=16
  done : ∀ j,j<k→0≤nth m j∧nth m j≤65535
  here : -65536≤nth m k∧nth m k≤65535
  zero : ∀ j,k<j→nth m j=0
  sum : val m=ps a (k+1) - ps ((List.range 16).map pl) (k+1)
theorem yQ (j : Nat) (h : j<16) : nth ((List.range 16).map pl) j=pl j:=by
  unfold nth
  rw [List.getD_eq_getElem?_getD,List.getElem?_map,List.getElem?_range h];rfl
theorem Gf.all {a : List Int} (h : Norm a) : ∀ k,k≤15→Gf a k (sb a k)
  | 0,_=>by
    have a0:=h.all 0 (by omega)
    refine ⟨rfl,fun j hj=>absurd hj (by omega),?_,fun j hj=>?_,?_⟩
    · show -65536≤nth a 0 - 65517∧nth a 0 - 65517≤65535
      omega
    · rw [sb,cn _ _ _ _ (by simp),if_neg (by omega),r8]
    · rw [sb,iO _ _ _ (by simp),r8,show val (List.replicate 16 0)=0 by decide]
      show 0+(nth a 0 - 65517 - 0) * 65536 ^ 0=0+nth a 0 * 65536 ^ 0 - (0+nth ((List.range 16).map pl) 0 * 65536 ^ 0)
      rw [yQ 0 (by omega),Int.pow_zero,show pl 0=65517 from rfl]
      omega
  | k+1,hk=>by
    have c:=Gf.all h k (by omega)
    obtain ⟨len,done,here,zero,sum⟩:=c
    have ak:=h.all (k+1) (by omega)
    have tp : 32767≤oy (k+1)∧oy (k+1)≤65535:=by unfold oy;split <;> omega
    have z1:=zero (k+1) (by omega)
    rw [sb]
    have n1 : nth ((sb a k).set (k+1) (nth a (k+1) - oy (k+1) - nth (sb a k) k / 65536 % 2)) k=nth (sb a k) k:=by rw [cn _ _ _ _ (by omega),if_neg (by omega)]
    have l1 : ((sb a k).set (k+1) (nth a (k+1) - oy (k+1) - nth (sb a k) k / 65536 % 2)).length=16:=by rw [List.length_set];exact len
    rw [n1]
    refine ⟨by rw [List.length_set];exact l1,fun j hj=>?_,?_,fun j hj=>?_,?_⟩
    · rw [cn _ _ _ _ (by omega),cn _ _ _ _ (by omega)]
      split
      · omega
      · rw [if_neg (by omega)];exact done j (by omega)
    · rw [cn _ _ _ _ (by omega),if_neg (by omega),cn _ _ _ _ (by omega),if_pos rfl]
      omega
    · rw [cn _ _ _ _ (by omega),if_neg (by omega),cn _ _ _ _ (by omega),if_neg (by omega)]
      exact zero j (by omega)
    · rw [iO _ _ _ (by omega),iO _ _ _ (by omega),sum,z1,n1]
      show _=ps a (k+1)+nth a (k+1) * 65536 ^ (k+1) - (ps ((List.range 16).map pl) (k+1)+nth ((List.range 16).map pl) (k+1) * 65536 ^ (k+1))
      rw [yQ (k+1) (by omega),show pl (k+1)=oy (k+1) by unfold pl;rw [if_neg (by omega)]]
      have b : nth (sb a k) k % 65536 - nth (sb a k) k=(nth (sb a k) k / 65536 % 2) * 65536:=by omega
      rw [b]
      generalize nth (sb a k) k / 65536 % 2=q
      generalize nth a (k+1)=x
      generalize oy (k+1)=y
      rw [Int.pow_succ,Int.sub_zero,Int.mul_assoc q,Int.mul_comm 65536 (65536 ^ k),Int.sub_mul,Int.sub_mul]
      omega
def off (a : List Int) : List Int:=if 0≤nth (sb a 15) 15 then sb a 15 else a
theorem Norm.val {a : List Int} (h : Norm a) : 0≤cV.val a∧cV.val a≤65536 ^ 16 - 1:=by
  rw [yP a 16 (by rw [h.len];omega)]
  exact Cg a 16 fun j hj=>h.all j hj
def ur : Nat→Nat→List By
  | 0,_=>[]
  | k+1,n=>BitVec.ofNat 8 n::ur k (n / 256)
theorem r9 : ∀ k n,(ur k n).length=k
  | 0,_=>rfl
  | k+1,n=>by rw [ur,List.length_cons,r9 k]
theorem vK : ∀ b : List By,ur b.length (le b)=b
  | []=>rfl
  | x::b=>by
    have h:=x.isLt
    show BitVec.ofNat 8 (x.toNat+256 * le b)::ur b.length ((x.toNat+256 * le b) / 256)=x::b
    have e1 : (x.toNat+256 * le b) / 256=le b:=by omega
    have e2 : BitVec.ofNat 8 (x.toNat+256 * le b)=x:=by
      apply BitVec.eq_of_toNat_eq
      rw [BitVec.toNat_ofNat]
      omega
    rw [e1,e2,vK b]
def lb : List Int→List By
  | []=>[]
  | x::l=>BitVec.ofInt 8 x::BitVec.ofInt 8 (x / 256)::lb l
def Dm (x : F) : List By:=ur 32 x.val
end cV
end
section
set_option maxRecDepth 10000
open Sl cV
theorem iW : zc Tryd.prog 23=some ((List.replicate 32 (0 : By)).map U8):=by kernel_rfl
theorem cQ (l : List By) : (l.map U8).all Value.oneCell'=true:=by simp [Value.oneCell']
theorem yR (l : List By) (i : Nat) (x : By) : (l.map U8).set i (U8 x)=(l.set i x).map U8:=by rw [List.map_set]
section
variable {P : Program} {n : Nat} {E : Env} {C : World→Prop} {dst : Option Tmp} {ty t t' : TypeId} {pos : String} {aft : Array Edge} {g : Option (Nat × Bool)} {x y : Operand}
end
end
section
namespace cV
theorem kg (x : F) : (Dm x).length=32:=r9 32 _
def dB (k : List By) : List By:=(k.set 0 (k.getD 0 0 / 8 * 8)).set 31 ((k.set 0 (k.getD 0 0 / 8 * 8)).getD 31 0 % 64+64)
theorem nN (k : List By) : (dB k).length=k.length:=by rw [dB,List.length_set,List.length_set]
theorem Fu : ∀ b : List By,le b % 2=(b.getD 0 0).toNat % 2
  | []=>rfl
  | x::b=>by
    show (x.toNat+256 * le b) % 2=x.toNat % 2
    omega
theorem Ch : ∀ b : List By,le b<256 ^ b.length
  | []=>by show 0<256 ^ 0;decide
  | x::b=>by
    have ih:=Ch b
    have h:=x.isLt
    show x.toNat+256 * le b<256 ^ (b.length+1)
    rw [Nat.pow_succ]
    omega
theorem e8 : ∀ a b : List By,le (a++b)=le a+256 ^ a.length * le b
  | [],b=>by show le b=0+256 ^ 0 * le b;rw [Nat.pow_zero];omega
  | x::a,b=>by
    show x.toNat+256 * le (a++b)=x.toNat+256 * le a+256 ^ (a.length+1) * le b
    rw [e8 a b,Nat.pow_succ,Nat.mul_add,Nat.mul_comm (256 ^ a.length) 256,Nat.mul_assoc,Nat.add_assoc]
def cu (k u : List By) : List By:=Dm (EV (le (dB k)) (pt u))
theorem yS : ∀ (b : List By) (i : Nat),(le b).testBit i=(b.getD (i / 8) 0).toNat.testBit (i % 8)
  | [],i=>by
    rw [show le []=0 from rfl,Nat.zero_testBit]
    show false=(0 : By).toNat.testBit (i % 8)
    rw [show (0 : By).toNat=0 from rfl,Nat.zero_testBit]
  | x::b,i=>by
    have ih:=yS b
    have h:=x.isLt
    have e : le (x::b)=2 ^ 8 * le b+x.toNat:=by show x.toNat+256 * le b=256 * le b+x.toNat;omega
    rw [e,Nat.testBit_two_pow_mul_add _ h]
    by_cases hi : i<8
    · rw [if_pos hi,Nat.div_eq_of_lt hi,Nat.mod_eq_of_lt hi]
      rfl
    · rw [if_neg hi,ih,show i / 8=(i - 8) / 8+1 by omega,show i % 8=(i - 8) % 8 by omega]
      rfl
structure N4 where
  x2 : List Int
  z2 : List Int
  x3 : List Int
  z3 : List Int
def N4.f (s : N4) : L4:=⟨fv s.x2,fv s.z2,fv s.x3,fv s.z3⟩
structure N4.ok (s : N4) : Prop where
  x2 : Good s.x2
  z2 : Good s.z2
  x3 : Good s.x3
  z3 : Good s.z3
end cV
end
section
set_option maxRecDepth 10000
open Sl cV
end
section
namespace cV
abbrev cU:=BitVec 64
structure N5 where
  a0 : cU
  a1 : cU
  a2 : cU
  a3 : cU
  a4 : cU
@[reducible] def N5.l (n : N5) : List cU:=[n.a0,n.a1,n.a2,n.a3,n.a4]
def fB (n : N5) : Nat:=n.a0.toNat+2251799813685248 * (n.a1.toNat+2251799813685248 * (n.a2.toNat+2251799813685248 * (n.a3.toNat+2251799813685248 * n.a4.toNat)))
structure cv (n : N5) : Prop where
  a0 : n.a0.toNat<2251799813947392
  a1 : n.a1.toNat<2251799813947392
  a2 : n.a2.toNat<2251799813947392
  a3 : n.a3.toNat<2251799813947392
  a4 : n.a4.toNat<2251799813947392
theorem Dn : P=57896044618658097711785492504343953926634992332820282019728792003956564819949:=rfl
def fn (x : Nat) : F:=fi (x : Int)
theorem fm (x y : Nat) : fn (x+y)=fn x+fn y:=by
  unfold fn
  rw [Int.natCast_add,yN]
theorem gH (x y : Nat) : fn (x * y)=fn x * fn y:=by
  unfold fn
  rw [Int.natCast_mul,Dj]
theorem ql {x y q : Nat} (h : x+q * P=y) : fn x=fn y:=by
  unfold fn
  refine (Dl (q:=(q : Int)) ?_).symm
  rw [← h,Int.natCast_add,Int.natCast_mul]
theorem EW {x : Nat} (h : x<P) : (fn x).val=x:=by
  have:=iq (x : Int)
  rw [Int.emod_eq_of_lt (by omega) (by omega)] at this
  unfold fn
  omega
def e9 (n : N5) : F:=fn (fB n)
def rr : F:=2251799813685248
theorem Hl : rr * rr * rr * rr * rr=19:=by decide +kernel
theorem Ci : fn 2251799813685248=rr:=by decide +kernel
theorem EX : fn 19=19:=by decide +kernel
theorem yT (n : N5) : e9 n=fn n.a0.toNat+rr * (fn n.a1.toNat+rr * (fn n.a2.toNat+rr * (fn n.a3.toNat+rr * fn n.a4.toNat))):=by
  unfold e9 fB
  rw [fm,gH,fm,gH,fm,gH,fm,gH,Ci]
theorem bE (x : cU) : (x &&& 2251799813685247#64).toNat=x.toNat % 2251799813685248:=by
  rw [BitVec.toNat_and,show (2251799813685247#64).toNat=2 ^ 51 - 1 from rfl,Nat.and_two_pow_sub_one_eq_mod]
theorem bY (x : cU) (k : Nat) : (x >>> k).toNat=x.toNat / 2 ^ k:=by rw [BitVec.toNat_ushiftRight,Nat.shiftRight_eq_div_pow]
theorem dD (x : cU) : (x >>> 51).toNat=x.toNat / 2251799813685248:=bY x 51
theorem toNat_add {x y : cU} (h : x.toNat+y.toNat<18446744073709551616) : (x+y).toNat=x.toNat+y.toNat:=by
  rw [BitVec.toNat_add]
  exact Nat.mod_eq_of_lt h
theorem dF {y : cU} (h : 19 * y.toNat<18446744073709551616) : (19#64 * y).toNat=19 * y.toNat:=by
  rw [BitVec.toNat_mul]
  exact Nat.mod_eq_of_lt h
def oz (n : N5) : N5:=
  ⟨(n.a0 &&& 2251799813685247#64)+19#64 * (n.a4 >>> 51),(n.a1 &&& 2251799813685247#64)+n.a0 >>> 51,(n.a2 &&& 2251799813685247#64)+n.a1 >>> 51,
   (n.a3 &&& 2251799813685247#64)+n.a2 >>> 51,(n.a4 &&& 2251799813685247#64)+n.a3 >>> 51⟩
structure Gg (n m : N5) : Prop where
  a0 : m.a0.toNat=n.a0.toNat % 2251799813685248+19 * (n.a4.toNat / 2251799813685248)
  a1 : m.a1.toNat=n.a1.toNat % 2251799813685248+n.a0.toNat / 2251799813685248
  a2 : m.a2.toNat=n.a2.toNat % 2251799813685248+n.a1.toNat / 2251799813685248
  a3 : m.a3.toNat=n.a3.toNat % 2251799813685248+n.a2.toNat / 2251799813685248
  a4 : m.a4.toNat=n.a4.toNat % 2251799813685248+n.a3.toNat / 2251799813685248
theorem vL (n : N5) : Gg n (oz n):=by
  have h0:=n.a0.isLt
  have h1:=n.a1.isLt
  have h2:=n.a2.isLt
  have h3:=n.a3.isLt
  have h4:=n.a4.isLt
  have m0:=bE n.a0
  have m1:=bE n.a1
  have m2:=bE n.a2
  have m3:=bE n.a3
  have m4:=bE n.a4
  have s0:=dD n.a0
  have s1:=dD n.a1
  have s2:=dD n.a2
  have s3:=dD n.a3
  have s4:=dD n.a4
  have f:=dF (y:=n.a4 >>> 51) (by omega)
  exact ⟨(toNat_add (by omega)).trans (by omega),(toNat_add (by omega)).trans (by omega),(toNat_add (by omega)).trans (by omega),(toNat_add (by omega)).trans (by omega),(toNat_add (by omega)).trans (by omega)⟩
theorem lE (n : N5) : cv (oz n):=by
  have c:=vL n
  have h0:=n.a0.isLt
  have h1:=n.a1.isLt
  have h2:=n.a2.isLt
  have h3:=n.a3.isLt
  have h4:=n.a4.isLt
  exact ⟨by rw [c.a0];omega,by rw [c.a1];omega,by rw [c.a2];omega,by rw [c.a3];omega,by rw [c.a4];omega⟩
theorem yU (n : N5) : fB (oz n)+n.a4.toNat / 2251799813685248 * P=fB n:=by
  have c:=vL n
  unfold fB
  rw [c.a0,c.a1,c.a2,c.a3,c.a4,Dn]
  omega
theorem qm (n : N5) : e9 (oz n)=e9 n:=ql (yU n)
def lF (a b : N5) : N5:=oz ⟨a.a0+b.a0,a.a1+b.a1,a.a2+b.a2,a.a3+b.a3,a.a4+b.a4⟩
def jB (a b : N5) : N5:=oz ⟨a.a0+4503599627370458#64 - b.a0,a.a1+4503599627370494#64 - b.a1,a.a2+4503599627370494#64 - b.a2,a.a3+4503599627370494#64 - b.a3,a.a4+4503599627370494#64 - b.a4⟩
theorem gk (a b : N5) : cv (lF a b):=lE _
theorem fc (a b : N5) : cv (jB a b):=lE _
theorem mT {a b : N5} (ha : cv a) (hb : cv b) : e9 (lF a b)=e9 a+e9 b:=by
  obtain ⟨p0,p1,p2,p3,p4⟩:=ha
  obtain ⟨q0,q1,q2,q3,q4⟩:=hb
  have e0:=toNat_add (x:=a.a0) (y:=b.a0) (by omega)
  have e1:=toNat_add (x:=a.a1) (y:=b.a1) (by omega)
  have e2:=toNat_add (x:=a.a2) (y:=b.a2) (by omega)
  have e3:=toNat_add (x:=a.a3) (y:=b.a3) (by omega)
  have e4:=toNat_add (x:=a.a4) (y:=b.a4) (by omega)
  unfold lF
  rw [qm]
  unfold e9
  rw [← fm]
  congr 1
  unfold fB
  rw [e0,e1,e2,e3,e4]
  omega
theorem fo {x y : cU} {c : Nat} (h : x.toNat+c<18446744073709551616) (hy : y.toNat≤c) : (x+BitVec.ofNat 64 c - y).toNat+y.toNat=x.toNat+c:=by
  rw [BitVec.toNat_sub,BitVec.toNat_add,BitVec.toNat_ofNat]
  have:=y.isLt
  omega
theorem mU {a b : N5} (ha : cv a) (hb : cv b) : e9 (jB a b)=e9 a - e9 b:=by
  obtain ⟨p0,p1,p2,p3,p4⟩:=ha
  obtain ⟨q0,q1,q2,q3,q4⟩:=hb
  have e0:=fo (x:=a.a0) (y:=b.a0) (c:=4503599627370458) (by omega) (by omega)
  have e1:=fo (x:=a.a1) (y:=b.a1) (c:=4503599627370494) (by omega) (by omega)
  have e2:=fo (x:=a.a2) (y:=b.a2) (c:=4503599627370494) (by omega) (by omega)
  have e3:=fo (x:=a.a3) (y:=b.a3) (c:=4503599627370494) (by omega) (by omega)
  have e4:=fo (x:=a.a4) (y:=b.a4) (c:=4503599627370494) (by omega) (by omega)
  unfold jB
  rw [qm]
  have k : fn (fB ⟨a.a0+4503599627370458#64 - b.a0,a.a1+4503599627370494#64 - b.a1,a.a2+4503599627370494#64 - b.a2,a.a3+4503599627370494#64 - b.a3,a.a4+4503599627370494#64 - b.a4⟩+fB b)=fn (fB a):=by
    refine (ql (q:=2) ?_).symm
    unfold fB
    simp only
    rw [Dn]
    omega
  rw [fm] at k
  unfold e9
  rw [← k]
  generalize fn (fB b)=y
  generalize fn (fB _)=x
  clear k
  grobner
structure W2 where
  hi : cU
  lo : cU
@[reducible] def W2.l (w : W2) : List cU:=[w.hi,w.lo]
def W2.v (w : W2) : Nat:=w.hi.toNat * 18446744073709551616+w.lo.toNat
def nO (a b : cU) : cU:=BitVec.ofNat 64 (a.toNat * b.toNat / 18446744073709551616)
def Cj (a b : cU) : cU:=BitVec.ofNat 64 ((a.toNat+b.toNat) / 18446744073709551616)
def ta (a b : cU) : W2:=⟨nO a b,a * b⟩
def gI (w : W2) (a b : cU) : W2:=⟨w.hi+nO a b+Cj w.lo (a * b),w.lo+a * b⟩
def mV (w : W2) : cU:=w.hi <<< 13 ||| w.lo >>> 51
theorem nQ (a b : cU) : (nO a b).toNat=a.toNat * b.toNat / 18446744073709551616:=by
  unfold nO
  rw [BitVec.toNat_ofNat]
  apply Nat.mod_eq_of_lt
  have h:=Nat.mul_lt_mul'' a.isLt b.isLt
  omega
theorem uu (a b : cU) : (Cj a b).toNat=(a.toNat+b.toNat) / 18446744073709551616:=by
  unfold Cj
  rw [BitVec.toNat_ofNat]
  have:=a.isLt
  have:=b.isLt
  omega
theorem EY (a b : cU) : (ta a b).v=a.toNat * b.toNat:=by
  unfold ta W2.v
  simp only
  rw [nQ,BitVec.toNat_mul]
  omega
theorem vM {w : W2} {a b : cU} (h : w.v+a.toNat * b.toNat<340282366920938463463374607431768211456) : (gI w a b).v=w.v+a.toNat * b.toNat:=by
  unfold gI W2.v at *
  simp only at *
  rw [BitVec.toNat_add,BitVec.toNat_add,BitVec.toNat_add,uu,nQ,BitVec.toNat_mul]
  generalize a.toNat * b.toNat=p at *
  have:=w.lo.isLt
  have:=w.hi.isLt
  omega
theorem tG (x y : cU) {k : Nat} (hk : k≤64) (hx : x.toNat<2 ^ k) : (y <<< k ||| x).toNat=y.toNat * 2 ^ k % 2 ^ 64+x.toNat:=by
  have e : (y.toNat * 2 ^ k % 2 ^ 64)=(y.toNat % 2 ^ (64 - k)) <<< k:=by
    rw [Nat.shiftLeft_eq,← Nat.mul_mod_mul_right,← Nat.pow_add,Nat.sub_add_cancel hk]
  rw [BitVec.toNat_or,BitVec.toNat_shiftLeft,Nat.shiftLeft_eq,e,← Nat.shiftLeft_add_eq_or_of_lt hx]
theorem nR {w : W2} (h : w.v<41538374868278621028243970633760768) : (mV w).toNat=w.v / 2251799813685248:=by
  unfold mV
  have hs:=dD w.lo
  have l:=w.lo.isLt
  rw [tG _ _ (k:=13) (by omega) (by omega),hs]
  unfold W2.v at *
  omega
def EZ (w0 w1 w2 w3 w4 : W2) : N5:=
  oz ⟨(w0.lo &&& 2251799813685247#64)+19#64 * mV w4,(w1.lo &&& 2251799813685247#64)+mV w0,(w2.lo &&& 2251799813685247#64)+mV w1,(w3.lo &&& 2251799813685247#64)+mV w2,(w4.lo &&& 2251799813685247#64)+mV w3⟩
def bQ (a b : N5) : N5:=
  let f1:=19#64 * b.a1
  let f2:=19#64 * b.a2
  let f3:=19#64 * b.a3
  let f4:=19#64 * b.a4
  EZ (gI (gI (gI (gI (ta a.a0 b.a0) a.a1 f4) a.a2 f3) a.a3 f2) a.a4 f1)
    (gI (gI (gI (gI (ta a.a0 b.a1) a.a1 b.a0) a.a2 f4) a.a3 f3) a.a4 f2)
    (gI (gI (gI (gI (ta a.a0 b.a2) a.a1 b.a1) a.a2 b.a0) a.a3 f4) a.a4 f3)
    (gI (gI (gI (gI (ta a.a0 b.a3) a.a1 b.a2) a.a2 b.a1) a.a3 b.a0) a.a4 f4)
    (gI (gI (gI (gI (ta a.a0 b.a4) a.a1 b.a3) a.a2 b.a2) a.a3 b.a1) a.a4 b.a0)
theorem bF (a b : N5) : cv (bQ a b):=lE _
theorem Dp {w0 w1 w2 w3 w4 : W2} (h0 : w0.v<5192296858534827628530496329220096) (h1 : w1.v<5192296858534827628530496329220096) (h2 : w2.v<5192296858534827628530496329220096) (h3 : w3.v<5192296858534827628530496329220096) (h4 : w4.v<324518553658426726783156020576256) :
    e9 (EZ w0 w1 w2 w3 w4)=fn w0.v+rr * (fn w1.v+rr * (fn w2.v+rr * (fn w3.v+rr * fn w4.v))):=by
  have r0:=nR (w:=w0) (by omega)
  have r1:=nR (w:=w1) (by omega)
  have r2:=nR (w:=w2) (by omega)
  have r3:=nR (w:=w3) (by omega)
  have r4:=nR (w:=w4) (by omega)
  have lo : ∀ w : W2,w.lo.toNat % 2251799813685248=w.v % 2251799813685248:=fun w=>by
    unfold W2.v
    omega
  have m0:=(bE w0.lo).trans (lo w0)
  have m1:=(bE w1.lo).trans (lo w1)
  have m2:=(bE w2.lo).trans (lo w2)
  have m3:=(bE w3.lo).trans (lo w3)
  have m4:=(bE w4.lo).trans (lo w4)
  clear lo
  have f:=dF (y:=mV w4) (by omega)
  have e0:=toNat_add (x:=w0.lo &&& 2251799813685247#64) (y:=19#64 * mV w4) (by omega)
  have e1:=toNat_add (x:=w1.lo &&& 2251799813685247#64) (y:=mV w0) (by omega)
  have e2:=toNat_add (x:=w2.lo &&& 2251799813685247#64) (y:=mV w1) (by omega)
  have e3:=toNat_add (x:=w3.lo &&& 2251799813685247#64) (y:=mV w2) (by omega)
  have e4:=toNat_add (x:=w4.lo &&& 2251799813685247#64) (y:=mV w3) (by omega)
  unfold EZ
  rw [qm,← Ci,← gH,← fm,← gH,← fm,← gH,← fm,← gH,← fm]
  refine ql (q:=w4.v / 2251799813685248) ?_
  unfold fB
  simp only
  rw [e0,e1,e2,e3,e4,f,m0,m1,m2,m3,m4,r0,r1,r2,r3,r4,Dn]
  clear e0 e1 e2 e3 e4 f m0 m1 m2 m3 m4 r0 r1 r2 r3 r4
  generalize w0.v=v0 at *
  generalize w1.v=v1 at *
  generalize w2.v=v2 at *
  generalize w3.v=v3 at *
  generalize w4.v=v4 at *
  omega
theorem E2 {x y : Nat} {c d : Nat} (hx : x<c) (hy : y<d) : x * y≤c * d:=Nat.mul_le_mul (Nat.le_of_lt hx) (Nat.le_of_lt hy)
theorem yV {a0 a1 a2 a3 a4 b0 b1 b2 b3 b4 : cU} (h0 : a0.toNat<2251799813947392) (h1 : a1.toNat<2251799813947392) (h2 : a2.toNat<2251799813947392) (h3 : a3.toNat<2251799813947392) (h4 : a4.toNat<2251799813947392)
    {d : Nat} (hd : d≤42784196465000448) (k0 : b0.toNat<d) (k1 : b1.toNat<d) (k2 : b2.toNat<d) (k3 : b3.toNat<d) (k4 : b4.toNat<d) :
    (gI (gI (gI (gI (ta a0 b0) a1 b1) a2 b2) a3 b3) a4 b4).v=a0.toNat * b0.toNat+a1.toNat * b1.toNat+a2.toNat * b2.toNat+a3.toNat * b3.toNat+a4.toNat * b4.toNat∧
    (gI (gI (gI (gI (ta a0 b0) a1 b1) a2 b2) a3 b3) a4 b4).v≤11258999069736960 * d:=by
  have p0:=E2 h0 k0
  have p1:=E2 h1 k1
  have p2:=E2 h2 k2
  have p3:=E2 h3 k3
  have p4:=E2 h4 k4
  have e0:=EY a0 b0
  have e1:=vM (w:=ta a0 b0) (a:=a1) (b:=b1) (by rw [e0];omega)
  rw [e0] at e1
  have e2:=vM (w:=gI (ta a0 b0) a1 b1) (a:=a2) (b:=b2) (by rw [e1];omega)
  rw [e1] at e2
  have e3:=vM (w:=gI (gI (ta a0 b0) a1 b1) a2 b2) (a:=a3) (b:=b3) (by rw [e2];omega)
  rw [e2] at e3
  have e4:=vM (w:=gI (gI (gI (ta a0 b0) a1 b1) a2 b2) a3 b3) (a:=a4) (b:=b4) (by rw [e3];omega)
  rw [e3] at e4
  refine ⟨e4,?_⟩
  rw [e4]
  omega
theorem dO {a b : N5} (ha : cv a) (hb : cv b) : e9 (bQ a b)=e9 a * e9 b:=by
  obtain ⟨p0,p1,p2,p3,p4⟩:=ha
  obtain ⟨q0,q1,q2,q3,q4⟩:=hb
  have f1:=dF (y:=b.a1) (by omega)
  have f2:=dF (y:=b.a2) (by omega)
  have f3:=dF (y:=b.a3) (by omega)
  have f4:=dF (y:=b.a4) (by omega)
  have v0:=yV p0 p1 p2 p3 p4 (b0:=b.a0) (b1:=19#64 * b.a4) (b2:=19#64 * b.a3) (b3:=19#64 * b.a2) (b4:=19#64 * b.a1) (d:=42784196465000448) (by omega) (by omega) (by omega) (by omega) (by omega) (by omega)
  have v1:=yV p0 p1 p2 p3 p4 (b0:=b.a1) (b1:=b.a0) (b2:=19#64 * b.a4) (b3:=19#64 * b.a3) (b4:=19#64 * b.a2) (d:=42784196465000448) (by omega) (by omega) (by omega) (by omega) (by omega) (by omega)
  have v2:=yV p0 p1 p2 p3 p4 (b0:=b.a2) (b1:=b.a1) (b2:=b.a0) (b3:=19#64 * b.a4) (b4:=19#64 * b.a3) (d:=42784196465000448) (by omega) (by omega) (by omega) (by omega) (by omega) (by omega)
  have v3:=yV p0 p1 p2 p3 p4 (b0:=b.a3) (b1:=b.a2) (b2:=b.a1) (b3:=b.a0) (b4:=19#64 * b.a4) (d:=42784196465000448) (by omega) (by omega) (by omega) (by omega) (by omega) (by omega)
  have v4:=yV p0 p1 p2 p3 p4 (b0:=b.a4) (b1:=b.a3) (b2:=b.a2) (b3:=b.a1) (b4:=b.a0) (d:=2251799813947392) (by omega) q4 q3 q2 q1 q0
  unfold bQ
  simp only
  rw [Dp (by have:=v0.2;omega) (by have:=v1.2;omega) (by have:=v2.2;omega) (by have:=v3.2;omega) (by have:=v4.2;omega),v0.1,v1.1,v2.1,v3.1,v4.1,f1,f2,f3,f4,yT,yT]
  simp only [fm,gH,EX]
  have h:=Hl
  generalize rr=r at *
  generalize fn a.a0.toNat=x0
  generalize fn a.a1.toNat=x1
  generalize fn a.a2.toNat=x2
  generalize fn a.a3.toNat=x3
  generalize fn a.a4.toNat=x4
  generalize fn b.a0.toNat=y0
  generalize fn b.a1.toNat=y1
  generalize fn b.a2.toNat=y2
  generalize fn b.a3.toNat=y3
  generalize fn b.a4.toNat=y4
  clear v0 v1 v2 v3 v4 f1 f2 f3 f4 p0 p1 p2 p3 p4 q0 q1 q2 q3 q4
  grobner
end cV
end
section
namespace cV
def iX (n : N5) : Nat→N5
  | 0=>n
  | k+1=>bQ (iX n k) (iX n k)
theorem E3 {n : N5} (h : cv n) : ∀ k,cv (iX n k)
  | 0=>h
  | _+1=>bF _ _
structure Pow (x : F) (n : N5) (e : Nat) : Prop where
  wO : cv n
  fv : e9 n=pw x e
theorem Pow.mul {x : F} {a b : N5} {d e : Nat} (ha : Pow x a d) (hb : Pow x b e) : Pow x (bQ a b) (d+e):=
  ⟨bF _ _,by rw [dO ha.wO hb.wO,ha.fv,hb.fv,nK]⟩
theorem Pow.sq {x : F} {a : N5} {d : Nat} (ha : Pow x a d) : ∀ k,Pow x (iX a k) (d * 2 ^ k)
  | 0=>by rw [Nat.pow_zero,Nat.mul_one];exact ha
  | k+1=>by
    have:=(ha.sq k).mul (ha.sq k)
    rw [show d * 2 ^ (k+1)=d * 2 ^ k+d * 2 ^ k by rw [Nat.pow_succ,← Nat.mul_assoc];omega]
    exact this
theorem Pow.to {x : F} {a : N5} {d e : Nat} (h : Pow x a d) (he : Nat.beq d e=true) : Pow x a e:=Nat.eq_of_beq_eq_true he ▸ h
structure Gh where
  two : N5
  nine : N5
  jC : N5
  o5 : N5
  gm : N5
  jn : N5
  nS : N5
  ir : N5
  eH : N5
  iu : N5
  ki : N5
  all : N5
def Gi (n : N5) : Gh:=
  let two:=iX n 1
  let nine:=bQ (iX two 2) n
  let jC:=bQ nine two
  let o5:=bQ (iX jC 1) nine
  let gm:=bQ (iX o5 5) o5
  let jn:=bQ (iX gm 10) gm
  let nS:=bQ (iX jn 20) jn
  let ir:=bQ (iX nS 10) gm
  let eH:=bQ (iX ir 50) ir
  let iu:=bQ (iX eH 100) eH
  let ki:=bQ (iX iu 50) ir
  ⟨two,nine,jC,o5,gm,jn,nS,ir,eH,iu,ki,bQ (iX ki 5) jC⟩
def nT (n : N5) : N5:=(Gi n).all
theorem sg {n : N5} (h : cv n) : Pow (e9 n) (nT n) (P - 2):=by
  have h1 : Pow (e9 n) n 1:=⟨h,by show e9 n=1 * e9 n;grobner⟩
  have two:=h1.sq 1
  have nine:=(two.sq 2).mul h1
  have jC:=nine.mul two
  have o5:=(jC.sq 1).mul nine
  have gm:=(o5.sq 5).mul o5
  have jn:=(gm.sq 10).mul gm
  have nS:=(jn.sq 20).mul jn
  have ir:=(nS.sq 10).mul gm
  have eH:=(ir.sq 50).mul ir
  have iu:=(eH.sq 100).mul eH
  have ki:=(iu.sq 50).mul ir
  have all:=(ki.sq 5).mul jC
  have r:=all.to (e:=P - 2) (by decide +kernel)
  exact r
theorem A4 {n : N5} (h : cv n) : e9 (nT n)=inv (e9 n):=(sg h).fv
theorem wP {n : N5} (h : cv n) : cv (nT n):=(sg h).wO
end cV
end
section
namespace cV
def eZ (l : List cU) (c : cU) : Nat→cU
  | 0=>c
  | i+1=>(l.getD i 0+eZ l c i) >>> 51
def An (l : List cU) (c : cU) : Nat→List cU
  | 0=>l
  | i+1=>(An l c i).set i ((l.getD i 0+eZ l c i) &&& 2251799813685247#64)
theorem vN (l : List cU) (c : cU) : ∀ i,(An l c i).length=l.length
  | 0=>rfl
  | i+1=>by rw [An,List.length_set,vN l c i]
def qn (n : N5) : N5:=
  let c:=19#64 * eZ n.l 19#64 5
  ⟨(n.a0+eZ n.l c 0) &&& 2251799813685247#64,(n.a1+eZ n.l c 1) &&& 2251799813685247#64,(n.a2+eZ n.l c 2) &&& 2251799813685247#64,(n.a3+eZ n.l c 3) &&& 2251799813685247#64,(n.a4+eZ n.l c 4) &&& 2251799813685247#64⟩
theorem A5 (n : N5) : An n.l (19#64 * eZ n.l 19#64 5) 5=(qn n).l:=rfl
theorem yW (l : List cU) (c : cU) (i : Nat) (h : (l.getD i 0).toNat<2251799813947392) (hc : (eZ l c i).toNat<2251799813947392) : (eZ l c (i+1)).toNat=((l.getD i 0).toNat+(eZ l c i).toNat) / 2251799813685248:=by
  rw [eZ,dD,toNat_add (by omega)]
structure E4 (n : N5) : Prop where
  a0 : n.a0.toNat<2251799813685248
  a1 : n.a1.toNat<2251799813685248
  a2 : n.a2.toNat<2251799813685248
  a3 : n.a3.toNat<2251799813685248
  a4 : n.a4.toNat<2251799813685248
theorem yX {n0 n1 n2 n3 n4 r0 r1 r2 r3 r4 r5 : Nat} (e1 : r1=(n0+r0) / 2251799813685248) (e2 : r2=(n1+r1) / 2251799813685248) (e3 : r3=(n2+r2) / 2251799813685248) (e4 : r4=(n3+r3) / 2251799813685248) (e5 : r5=(n4+r4) / 2251799813685248) :
    ∃ s,s<57896044618658097711785492504343953926634992332820282019728792003956564819968∧
      s=(n0+r0) % 2251799813685248+2251799813685248 * ((n1+r1) % 2251799813685248+2251799813685248 * ((n2+r2) % 2251799813685248+2251799813685248 * ((n3+r3) % 2251799813685248+2251799813685248 * ((n4+r4) % 2251799813685248))))∧
      n0+2251799813685248 * (n1+2251799813685248 * (n2+2251799813685248 * (n3+2251799813685248 * n4)))+r0=s+57896044618658097711785492504343953926634992332820282019728792003956564819968 * r5:=by
  have d0:=Nat.div_add_mod (n0+r0) 2251799813685248
  have d1:=Nat.div_add_mod (n1+r1) 2251799813685248
  have d2:=Nat.div_add_mod (n2+r2) 2251799813685248
  have d3:=Nat.div_add_mod (n3+r3) 2251799813685248
  have d4:=Nat.div_add_mod (n4+r4) 2251799813685248
  have b0:=Nat.mod_lt (n0+r0) (show 2251799813685248>0 by decide)
  have b1:=Nat.mod_lt (n1+r1) (show 2251799813685248>0 by decide)
  have b2:=Nat.mod_lt (n2+r2) (show 2251799813685248>0 by decide)
  have b3:=Nat.mod_lt (n3+r3) (show 2251799813685248>0 by decide)
  have b4:=Nat.mod_lt (n4+r4) (show 2251799813685248>0 by decide)
  rw [← e1] at d0
  rw [← e2] at d1
  rw [← e3] at d2
  rw [← e4] at d3
  rw [← e5] at d4
  clear e1 e2 e3 e4 e5
  refine ⟨_,?_,rfl,?_⟩
  · clear d0 d1 d2 d3 d4
    generalize (n0+r0) % 2251799813685248=s0 at *
    generalize (n1+r1) % 2251799813685248=s1 at *
    generalize (n2+r2) % 2251799813685248=s2 at *
    generalize (n3+r3) % 2251799813685248=s3 at *
    generalize (n4+r4) % 2251799813685248=s4 at *
    omega
  · clear b0 b1 b2 b3 b4
    generalize (n0+r0) % 2251799813685248=s0 at *
    generalize (n1+r1) % 2251799813685248=s1 at *
    generalize (n2+r2) % 2251799813685248=s2 at *
    generalize (n3+r3) % 2251799813685248=s3 at *
    generalize (n4+r4) % 2251799813685248=s4 at *
    omega
theorem wQ {v o s S r : Nat} (hv : v<115792089237316195423570985008687907853269984665640564039457584007913129639898)
    (hs : s<57896044618658097711785492504343953926634992332820282019728792003956564819968) (h1 : v+19=s+57896044618658097711785492504343953926634992332820282019728792003956564819968 * o)
    (hS : S<57896044618658097711785492504343953926634992332820282019728792003956564819968) (h2 : v+19 * o=S+57896044618658097711785492504343953926634992332820282019728792003956564819968 * r) :
    S+o * 57896044618658097711785492504343953926634992332820282019728792003956564819949=v∧S<57896044618658097711785492504343953926634992332820282019728792003956564819949:=by
  have : o=0∨o=1:=by omega
  rcases this with rfl | rfl
  · omega
  · omega
theorem uv {l : List cU} {c : cU} (h : ∀ i,(l.getD i 0).toNat<2251799813947392) (hc : c.toNat<2251799813947392) : ∀ i,(eZ l c i).toNat<2251799813947392
  | 0=>hc
  | i+1=>by
    have h1:=h i
    have h2:=uv h hc i
    rw [yW l c i h1 h2]
    omega
theorem yY {n : N5} (h : cv n) : ∀ i,(n.l.getD i 0).toNat<2251799813947392
  | 0=>h.a0
  | 1=>h.a1
  | 2=>h.a2
  | 3=>h.a3
  | 4=>h.a4
  | i+5=>by
    show (0 : cU).toNat<_
    decide
theorem A6 {n : N5} (h : cv n) : E4 (qn n)∧fB (qn n)=(e9 n).val:=by
  have ll:=yY h
  have hr : ∀ c : cU,c.toNat<2251799813947392→∀ i,(eZ n.l c (i+1)).toNat=((n.l.getD i 0).toNat+(eZ n.l c i).toNat) / 2251799813685248:=fun c hc i=>yW n.l c i (ll i) (uv ll hc i)
  have hm : ∀ (c : cU) (x : cU) (i : Nat),c.toNat<2251799813947392→x.toNat<2251799813947392→((x+eZ n.l c i) &&& 2251799813685247#64).toNat=(x.toNat+(eZ n.l c i).toNat) % 2251799813685248:=fun c x i hc hx=>by
    have h2:=uv ll hc i
    rw [bE,toNat_add (by omega)]
  obtain ⟨p0,p1,p2,p3,p4⟩:=h
  have hb : (19#64 : cU).toNat<2251799813947392:=by decide
  obtain ⟨s,hs,_,h1⟩:=yX (n0:=n.a0.toNat) (n1:=n.a1.toNat) (n2:=n.a2.toNat) (n3:=n.a3.toNat) (n4:=n.a4.toNat) (hr _ hb 0) (hr _ hb 1) (hr _ hb 2) (hr _ hb 3) (hr _ hb 4)
  have t0 : (eZ n.l 19#64 0).toNat=19:=rfl
  rw [t0] at h1
  have hv : n.a0.toNat+2251799813685248 * (n.a1.toNat+2251799813685248 * (n.a2.toNat+2251799813685248 * (n.a3.toNat+2251799813685248 * n.a4.toNat)))<115792089237316195423570985008687907853269984665640564039457584007913129639898:=by
    clear h1 hr hm ll
    omega
  have ho : (eZ n.l 19#64 (4+1)).toNat≤1:=by
    clear hr hm ll
    omega
  have c:=dF (y:=eZ n.l 19#64 (4+1)) (by omega)
  have hC : (19#64 * eZ n.l 19#64 (4+1)).toNat<2251799813947392:=by omega
  obtain ⟨S,hS,eS,h2⟩:=yX (n0:=n.a0.toNat) (n1:=n.a1.toNat) (n2:=n.a2.toNat) (n3:=n.a3.toNat) (n4:=n.a4.toNat) (hr _ hC 0) (hr _ hC 1) (hr _ hC 2) (hr _ hC 3) (hr _ hC 4)
  have t1 : (eZ n.l (19#64 * eZ n.l 19#64 (4+1)) 0).toNat=19 * (eZ n.l 19#64 (4+1)).toNat:=c
  have hh2:=h2
  rw [t1] at hh2
  obtain ⟨f1,f2⟩:=wQ hv hs h1 hS hh2
  have m0:=hm (19#64 * eZ n.l 19#64 (4+1)) n.a0 0 hC p0
  have m1:=hm (19#64 * eZ n.l 19#64 (4+1)) n.a1 1 hC p1
  have m2:=hm (19#64 * eZ n.l 19#64 (4+1)) n.a2 2 hC p2
  have m3:=hm (19#64 * eZ n.l 19#64 (4+1)) n.a3 3 hC p3
  have m4:=hm (19#64 * eZ n.l 19#64 (4+1)) n.a4 4 hC p4
  refine ⟨⟨?_,?_,?_,?_,?_⟩,?_⟩
  · exact m0 ▸ Nat.mod_lt _ (by decide)
  · exact m1 ▸ Nat.mod_lt _ (by decide)
  · exact m2 ▸ Nat.mod_lt _ (by decide)
  · exact m3 ▸ Nat.mod_lt _ (by decide)
  · exact m4 ▸ Nat.mod_lt _ (by decide)
  · have ev : fB (qn n)=S:=by
      rw [eS]
      unfold fB
      show ((n.a0+eZ n.l (19#64 * eZ n.l 19#64 (4+1)) 0) &&& 2251799813685247#64).toNat+2251799813685248 * (((n.a1+eZ n.l (19#64 * eZ n.l 19#64 (4+1)) 1) &&& 2251799813685247#64).toNat+2251799813685248 * (((n.a2+eZ n.l (19#64 * eZ n.l 19#64 (4+1)) 2) &&& 2251799813685247#64).toNat+2251799813685248 * (((n.a3+eZ n.l (19#64 * eZ n.l 19#64 (4+1)) 3) &&& 2251799813685247#64).toNat+2251799813685248 * ((n.a4+eZ n.l (19#64 * eZ n.l 19#64 (4+1)) 4) &&& 2251799813685247#64).toNat)))=_
      rw [m0,m1,m2,m3,m4]
    have hf : e9 n=fn S:=by
      unfold e9 fB
      exact (ql (q:=(eZ n.l 19#64 (4+1)).toNat) f1).symm
    rw [ev,hf,EW f2]
end cV
end
section
namespace cV
theorem fK (x y : cU) {k : Nat} (hk : k≤64) (hx : x.toNat<2 ^ k) : (x ||| y <<< k).toNat=y.toNat * 2 ^ k % 2 ^ 64+x.toNat:=by
  rw [BitVec.or_comm,tG x y hk hx]
def si (n : N5) : List cU:=[n.a0 ||| n.a1 <<< 51,n.a1 >>> 13 ||| n.a2 <<< 38,n.a2 >>> 26 ||| n.a3 <<< 25,n.a3 >>> 39 ||| n.a4 <<< 12]
def uw (w : cU) : List By:=[(w >>> 0).setWidth 8,(w >>> 8).setWidth 8,(w >>> 16).setWidth 8,(w >>> 24).setWidth 8,(w >>> 32).setWidth 8,(w >>> 40).setWidth 8,(w >>> 48).setWidth 8,(w >>> 56).setWidth 8]
theorem Ho (w : cU) (k : Nat) : ((w >>> k).setWidth 8).toNat=w.toNat / 2 ^ k % 256:=by
  rw [BitVec.toNat_setWidth,bY]
theorem qo (w : cU) : le (uw w)=w.toNat:=by
  unfold uw
  simp only [le,Ho]
  have:=w.isLt
  omega
def vO (w : List cU) : Nat→List By
  | 0=>List.replicate 32 0
  | i+1=>(vO w i).set i ((w.getD (i / 8) 0 >>> (i % 8 * 8)).setWidth 8)
theorem vP (w : List cU) : ∀ i,(vO w i).length=32
  | 0=>rfl
  | i+1=>by rw [vO,List.length_set,vP w i]
theorem A7 (a b c d : cU) : vO [a,b,c,d] 32=uw a++(uw b++(uw c++uw d)):=by kernel_rfl
theorem Dq {n : N5} (h : E4 n) : vO (si n) 32=ur 32 (fB n):=by
  obtain ⟨p0,p1,p2,p3,p4⟩:=h
  have e0:=fK n.a0 n.a1 (k:=51) (by omega) (by omega)
  have s1:=bY n.a1 13
  have s2:=bY n.a2 26
  have s3:=bY n.a3 39
  have e1:=fK (n.a1 >>> 13) n.a2 (k:=38) (by omega) (by omega)
  have e2:=fK (n.a2 >>> 26) n.a3 (k:=25) (by omega) (by omega)
  have e3:=fK (n.a3 >>> 39) n.a4 (k:=12) (by omega) (by omega)
  unfold si
  rw [A7]
  have l8 : ∀ w,(uw w).length=8:=fun _=>rfl
  have el : le (uw (n.a0 ||| n.a1 <<< 51)++(uw (n.a1 >>> 13 ||| n.a2 <<< 38)++(uw (n.a2 >>> 26 ||| n.a3 <<< 25)++uw (n.a3 >>> 39 ||| n.a4 <<< 12))))=fB n:=by
    rw [e8,e8,e8,l8,l8,l8,qo,qo,qo,qo,e0,e1,e2,e3,s1,s2,s3]
    unfold fB
    omega
  rw [← el]
  have:=vK (uw (n.a0 ||| n.a1 <<< 51)++(uw (n.a1 >>> 13 ||| n.a2 <<< 38)++(uw (n.a2 >>> 26 ||| n.a3 <<< 25)++uw (n.a3 >>> 39 ||| n.a4 <<< 12))))
  exact this.symm
def Eb (n : N5) : List By:=vO (si (qn n)) 32
theorem Dr {n : N5} (h : cv n) : Eb n=Dm (e9 n):=by
  have:=A6 h
  rw [Eb,Dq this.1,this.2];rfl
def oo (k : List By) (p : Nat) : Nat→cU
  | 0=>0
  | i+1=>oo k p i ||| ((k.getD (8 * p+i) 0).setWidth 64) <<< (8 * i)
theorem nU (k : List By) (p : Nat) : ∀ i,i≤8→8 * p+i≤k.length→(oo k p i).toNat=le ((k.drop (8 * p)).take i)
  | 0,_,_=>rfl
  | i+1,hi,hl=>by
    have ih:=nU k p i (by omega) (by omega)
    have lt:=Ch ((k.drop (8 * p)).take i)
    have ln : ((k.drop (8 * p)).take i).length=i:=by rw [List.length_take,List.length_drop];omega
    rw [ln,show 256 ^ i=2 ^ (8 * i) by rw [Nat.pow_mul]] at lt
    have hb : (k.drop (8 * p))[i]?=some (k.getD (8 * p+i) 0):=by
      rw [List.getElem?_drop,List.getD_eq_getElem?_getD,List.getElem?_eq_getElem (by omega)];rfl
    rw [oo,fK _ _ (k:=8 * i) (by omega) (by rw [ih];exact lt),ih,List.take_add_one,hb,e8,ln,show 256 ^ i=2 ^ (8 * i) by rw [Nat.pow_mul]]
    generalize k.getD (8 * p+i) 0=x
    have hx:=x.isLt
    have hs : (x.setWidth 64).toNat=x.toNat:=by rw [BitVec.toNat_setWidth];exact Nat.mod_eq_of_lt (by omega)
    have hp : 2 ^ (8 * i)≤2 ^ 56:=Nat.pow_le_pow_right (by omega) (by omega)
    have hm : x.toNat * 2 ^ (8 * i)≤255 * 2 ^ 56:=Nat.mul_le_mul (by omega) hp
    rw [hs,Nat.mod_eq_of_lt (by omega)]
    show _=_+2 ^ (8 * i) * (x.toNat+256 * 0)
    rw [Nat.mul_zero,Nat.add_zero,Nat.mul_comm]
    omega
def ux (w0 w1 w2 w3 : cU) : N5:=⟨w0 &&& 2251799813685247#64,(w0 >>> 51 ||| w1 <<< 13) &&& 2251799813685247#64,(w1 >>> 38 ||| w2 <<< 26) &&& 2251799813685247#64,(w2 >>> 25 ||| w3 <<< 39) &&& 2251799813685247#64,w3 >>> 12 &&& 2251799813685247#64⟩
theorem vQ (w0 w1 w2 w3 : cU) : E4 (ux w0 w1 w2 w3)∧fB (ux w0 w1 w2 w3)=(w0.toNat+18446744073709551616 * (w1.toNat+18446744073709551616 * (w2.toNat+18446744073709551616 * w3.toNat))) % 57896044618658097711785492504343953926634992332820282019728792003956564819968:=by
  have h0:=w0.isLt
  have h1:=w1.isLt
  have h2:=w2.isLt
  have h3:=w3.isLt
  have s0:=bY w0 51
  have s1:=bY w1 38
  have s2:=bY w2 25
  have s3:=bY w3 12
  have e1:=fK (w0 >>> 51) w1 (k:=13) (by omega) (by omega)
  have e2:=fK (w1 >>> 38) w2 (k:=26) (by omega) (by omega)
  have e3:=fK (w2 >>> 25) w3 (k:=39) (by omega) (by omega)
  have m0:=bE w0
  have m1:=bE (w0 >>> 51 ||| w1 <<< 13)
  have m2:=bE (w1 >>> 38 ||| w2 <<< 26)
  have m3:=bE (w2 >>> 25 ||| w3 <<< 39)
  have m4:=bE (w3 >>> 12)
  rw [e1,s0] at m1
  rw [e2,s1] at m2
  rw [e3,s2] at m3
  rw [s3] at m4
  refine ⟨⟨?_,?_,?_,?_,?_⟩,?_⟩
  · show (w0 &&& 2251799813685247#64).toNat<_;rw [m0];omega
  · show ((w0 >>> 51 ||| w1 <<< 13) &&& 2251799813685247#64).toNat<_;rw [m1];omega
  · show ((w1 >>> 38 ||| w2 <<< 26) &&& 2251799813685247#64).toNat<_;rw [m2];omega
  · show ((w2 >>> 25 ||| w3 <<< 39) &&& 2251799813685247#64).toNat<_;rw [m3];omega
  · show (w3 >>> 12 &&& 2251799813685247#64).toNat<_;rw [m4];omega
  · unfold fB ux
    simp only
    rw [m0,m1,m2,m3,m4]
    clear e1 e2 e3 s0 s1 s2 s3 m0 m1 m2 m3 m4
    generalize w0.toNat=x0 at *
    generalize w1.toNat=x1 at *
    generalize w2.toNat=x2 at *
    generalize w3.toNat=x3 at *
    omega
theorem E4.wO {n : N5} (h : E4 n) : cv n:=by
  obtain ⟨p0,p1,p2,p3,p4⟩:=h
  exact ⟨by omega,by omega,by omega,by omega,by omega⟩
def bP (u : List By) : N5:=ux (oo u 0 8) (oo u 1 8) (oo u 2 8) (oo u 3 8)
theorem wR (u : List By) : cv (bP u):=(vQ _ _ _ _).1.wO
theorem A8 {u : List By} (hu : u.length=32) : e9 (bP u)=pt u:=by
  have e:=(vQ (oo u 0 8) (oo u 1 8) (oo u 2 8) (oo u 3 8)).2
  rw [nU u 0 8 (by omega) (by omega),nU u 1 8 (by omega) (by omega),nU u 2 8 (by omega) (by omega),nU u 3 8 (by omega) (by omega)] at e
  have c : ∀ l : List By,8≤l.length→le l=le (l.take 8)+18446744073709551616 * le (l.drop 8):=fun l hl=>by
    have:=e8 (l.take 8) (l.drop 8)
    rw [List.take_append_drop,List.length_take,Nat.min_eq_left hl] at this
    exact this
  have c0:=c u (by omega)
  have c1:=c (u.drop 8) (by rw [List.length_drop];omega)
  have c2:=c (u.drop 16) (by rw [List.length_drop];omega)
  have c3 : le (u.drop 24)=le ((u.drop 24).take 8):=by rw [List.take_of_length_le (by rw [List.length_drop];omega)]
  rw [List.drop_drop] at c1 c2
  have hl : le u=le ((u.drop (8 * 0)).take 8)+18446744073709551616 * (le ((u.drop (8 * 1)).take 8)+18446744073709551616 * (le ((u.drop (8 * 2)).take 8)+18446744073709551616 * le ((u.drop (8 * 3)).take 8))):=by
    rw [c0]
    show _=le ((u.drop 0).take 8)+18446744073709551616 * (le ((u.drop 8).take 8)+18446744073709551616 * (le ((u.drop 16).take 8)+18446744073709551616 * le ((u.drop 24).take 8)))
    rw [← c3,← c2,← c1];rfl
  rw [← hl] at e
  unfold e9 pt
  show fn _=fn _
  congr 1
end cV
end
section
namespace cV
structure L5 where
  x2 : N5
  z2 : N5
  x3 : N5
  z3 : N5
@[reducible] def L5.l (s : L5) : List cU:=s.x2.l++s.z2.l++s.x3.l++s.z3.l
def L5.f (s : L5) : L4:=⟨e9 s.x2,e9 s.z2,e9 s.x3,e9 s.z3⟩
structure L5.ok (s : L5) : Prop where
  x2 : cv s.x2
  z2 : cv s.z2
  x3 : cv s.x3
  z3 : cv s.z3
def sj : N5:=⟨1,0,0,0,0⟩
def aX : N5:=⟨0,0,0,0,0⟩
def cN : N5:=⟨121665,0,0,0,0⟩
theorem o9 : cv sj:=⟨by decide,by decide,by decide,by decide,by decide⟩
theorem uy : cv aX:=⟨by decide,by decide,by decide,by decide,by decide⟩
theorem A9 : cv cN:=⟨by decide,by decide,by decide,by decide,by decide⟩
theorem Ba : e9 sj=1:=by decide +kernel
theorem yZ : e9 aX=0:=by decide +kernel
theorem E5 : e9 cN=121665:=by decide +kernel
structure E6 where
  a : N5
  b : N5
  c : N5
  d : N5
  aa : N5
  bb : N5
  da : N5
  cb : N5
  e : N5
  m : N5
  s : N5
def E7 (s : L5) : E6:=
  let a:=lF s.x2 s.z2
  let b:=jB s.x2 s.z2
  let c:=lF s.x3 s.z3
  let d:=jB s.x3 s.z3
  let aa:=bQ a a
  let bb:=bQ b b
  let da:=bQ d a
  let cb:=bQ c b
  let e:=jB aa bb
  ⟨a,b,c,d,aa,bb,da,cb,e,lF da cb,jB da cb⟩
def E8 (x1 : N5) (t : E6) : L5:=⟨bQ t.aa t.bb,bQ t.e (lF t.aa (bQ cN t.e)),bQ t.m t.m,bQ x1 (bQ t.s t.s)⟩
def qp (x1 : N5) (s : L5) : L5:=E8 x1 (E7 s)
def za (b : Bool) (s : L5) : L5:=if b then ⟨s.x3,s.z3,s.x2,s.z2⟩ else s
theorem zd {s : L5} (h : s.ok) (b : Bool) : (za b s).ok:=by
  cases b
  · exact h
  · exact ⟨h.x3,h.z3,h.x2,h.z2⟩
theorem Ck (s : L5) (b : Bool) : (za b s).f=swap b s.f:=by cases b <;> rfl
theorem Bb (x1 : N5) (s : L5) : (qp x1 s).ok:=⟨bF _ _,bF _ _,bF _ _,bF _ _⟩
theorem Ds {x1 : N5} {s : L5} (h1 : cv x1) (h : s.ok) : (qp x1 s).f=core (e9 x1) s.f:=by
  have ga:=gk s.x2 s.z2
  have gb:=fc s.x2 s.z2
  have gc:=gk s.x3 s.z3
  have gd:=fc s.x3 s.z3
  unfold L5.f qp E8 E7 core
  simp only
  rw [dO (bF _ _) (bF _ _),dO (fc _ _) (gk _ _),mT (bF _ _) (bF _ _),dO A9 (fc _ _),mU (bF _ _) (bF _ _),
    dO (gk (bQ _ _) _) (gk _ _),mT (bF (jB _ _) _) (bF _ _),dO h1 (bF _ _),dO (fc (bQ _ _) _) (fc _ _),mU (bF (jB _ _) _) (bF _ _),
    dO gd ga,dO gc gb,dO ga ga,dO gb gb,mT h.x2 h.z2,mU h.x2 h.z2,mT h.x3 h.z3,mU h.x3 h.z3,E5]
def fW (x1 : N5) (k : Nat) : Nat→L5
  | 0=>⟨sj,aX,x1,sj⟩
  | n+1=>za (k.testBit (254 - n)) (qp x1 (za (k.testBit (254 - n)) (fW x1 k n)))
theorem vR {x1 : N5} (h : cv x1) (k : Nat) : ∀ n,(fW x1 k n).ok
  | 0=>⟨o9,uy,h,o9⟩
  | _+1=>zd (Bb _ _) _
theorem ze {x1 : N5} (h : cv x1) (k : Nat) : ∀ n,n≤255→A0 (e9 x1) k (255 - n) (fW x1 k n).f=A0 (e9 x1) k 255 (fW x1 k 0).f
  | 0,_=>rfl
  | n+1,hn=>by
    rw [← ze h k n (by omega)]
    have e : 255 - n=(255 - (n+1))+1:=by omega
    have e2 : 254 - n=255 - (n+1):=by omega
    rw [e]
    show A0 (e9 x1) k (255 - (n+1)) (za (k.testBit (254 - n)) (qp x1 (za (k.testBit (254 - n)) (fW x1 k n)))).f=A0 (e9 x1) k (255 - (n+1)) (swap (k.testBit (255 - (n+1))) (core (e9 x1) (swap (k.testBit (255 - (n+1))) (fW x1 k n).f)))
    rw [Ck,Ds h (zd (vR h k n) _),Ck,e2]
def Dt (k u : List By) : List By:=Eb (bQ (fW (bP u) (le (dB k)) 255).x2 (nT (fW (bP u) (le (dB k)) 255).z2))
theorem Bc (k u : List By) (hu : u.length=32) : Dt k u=cu k u:=by
  have h:=wR u
  have g:=vR h (le (dB k)) 255
  have e : (fW (bP u) (le (dB k)) 255).f=A0 (e9 (bP u)) (le (dB k)) 255 (fW (bP u) (le (dB k)) 0).f:=ze h _ 255 (by omega)
  have e0 : (fW (bP u) (le (dB k)) 0).f=⟨1,0,e9 (bP u),1⟩:=by
    show (⟨e9 sj,e9 aX,e9 (bP u),e9 sj⟩ : L4)=_
    rw [Ba,yZ]
  rw [e0] at e
  unfold Dt
  rw [Dr (bF _ _),dO g.x2 (wP g.z2),A4 g.z2]
  unfold cu EV
  rw [← A8 hu,← e]
  rfl
def fC (c : Bool) (x y : List cU) (i : Nat) : List cU:=if c then y.take i++x.drop i else x
theorem sk (c : Bool) {x y : List cU} (h : x.length=y.length) (i : Nat) : (fC c x y i).length=x.length:=by
  cases c
  · rfl
  · show (y.take i++x.drop i).length=_
    rw [List.length_append,List.length_take,List.length_drop];omega
theorem sn (c : Bool) {x y : List cU} (h : x.length=y.length) {i : Nat} (hi : i<x.length) : (fC c x y i)[i]?=some (x.getD i 0):=by
  have e : x[i]?=some (x.getD i 0):=by rw [List.getD_eq_getElem?_getD,List.getElem?_eq_getElem hi];rfl
  cases c
  · exact e
  · show (y.take i++x.drop i)[i]?=_
    rw [List.getElem?_append_right (by rw [List.length_take];omega),List.length_take,List.getElem?_drop,← e]
    congr 1;omega
theorem so (c : Bool) {x y : List cU} (h : x.length=y.length) {i : Nat} (hi : i<x.length) {v : cU} (hv : v=if c then y.getD i 0 else x.getD i 0) : (fC c x y i).set i v=fC c x y (i+1):=by
  subst hv
  cases c
  · show x.set i (x.getD i 0)=x
    rw [List.getD_eq_getElem?_getD,List.getElem?_eq_getElem hi]
    simp
  · show (y.take i++x.drop i).set i (y.getD i 0)=y.take (i+1)++x.drop (i+1)
    have e : y[i]?=some (y.getD i 0):=by rw [List.getD_eq_getElem?_getD,List.getElem?_eq_getElem (by omega)];rfl
    rw [List.set_append_right _ _ (by rw [List.length_take];omega),List.length_take,Nat.min_eq_left (by omega),Nat.sub_self,List.drop_eq_getElem_cons hi,List.set_cons_zero,List.take_add_one,e]
    simp
def bt (c : Bool) : By:=if c then 1#8 else 0#8
def wS (c : Bool) : cU:=if c then BitVec.allOnes 64 else 0
theorem Bd (c : Bool) : -((bt c).setWidth 64 : cU)=wS c:=by cases c <;> decide
theorem E9 (x : By) (k : Nat) (h : k<8) : (x >>> k) &&& 1#8=bt (x.toNat.testBit k):=by
  have h8 : ∀ k : Fin 8,∀ x : By,(x >>> k.val) &&& 1#8=bt (x.toNat.testBit k.val):=by decide +kernel
  exact h8 ⟨k,h⟩ x
theorem zf (c : Bool) (a b : cU) : a ^^^ (wS c &&& (a ^^^ b))=if c then b else a:=by
  cases c
  · show a ^^^ (0 &&& (a ^^^ b))=a
    simp
  · show a ^^^ (BitVec.allOnes 64 &&& (a ^^^ b))=b
    rw [BitVec.allOnes_and,← BitVec.xor_assoc,BitVec.xor_self,BitVec.zero_xor]
theorem Du (c : Bool) (a b : cU) : b ^^^ (wS c &&& (a ^^^ b))=if c then a else b:=by
  rw [BitVec.xor_comm a b]
  exact zf c b a
end cV
end
section
set_option maxRecDepth 10000
open Sl cV
theorem sr : dm Tryd.prog 76=some 1:=by kernel_rfl
theorem dU : fP Tryd.prog 76=true:=by kernel_rfl
theorem bM : dm Tryd.prog 117=some 5:=by kernel_rfl
theorem dh : ei Tryd.prog 117=true:=by kernel_rfl
theorem iP : zc Tryd.prog 117=some (aX.l.map ai):=by kernel_rfl
theorem aP (l : List cU) : (l.map ai).all Value.oneCell'=true:=by simp [Value.oneCell']
theorem dV : aR Tryd.prog 99:=⟨_,Tryd.func99,rfl,by kernel_rfl⟩
theorem gJ : aR Tryd.prog 119:=⟨_,Tryd.func119,rfl,by kernel_rfl⟩
theorem ko : aR Tryd.prog 101:=⟨_,Tryd.func101,rfl,by kernel_rfl⟩
theorem dP : aR Tryd.prog 102:=⟨_,Tryd.func102,rfl,by kernel_rfl⟩
set_option maxHeartbeats 8000000 in
theorem iw (n : N5) (w : World) : Calls Tryd.prog 119 [.agg (n.l.map ai).toArray].toArray w fun e w'=>e=.returned (.agg ((oz n).l.map ai).toArray)∧Ext w w':=by
  have c0 : (n.l.map ai)[0]?=some (ai n.a0):=rfl
  have c1 : (n.l.map ai)[1]?=some (ai n.a1):=rfl
  have c2 : (n.l.map ai)[2]?=some (ai n.a2):=rfl
  have c3 : (n.l.map ai)[3]?=some (ai n.a3):=rfl
  have c4 : (n.l.map ai)[4]?=some (ai n.a4):=rfl
  refine enter (n:=40) Tryd.func119 rfl rfl rfl (ah.start w []) ?_
  repeat (first | refine JC.seq ?_ | refine JC.region ?_)
  refine JL.box (r:=n.l.map ai) rfl rfl rfl fun b1 _=>?_
  refine JL.alloc iP rfl fun b2 _=>?_
  repeat (first | refine JL.q (by first|(apply OQ.aW;exact Tryd.underlying117;exact sr;rfl;rfl;exact (by decide))|(apply OQ.load;exact dU;rfl;exact (.there .here);exact (Row.cell c0))|(apply OQ.load;exact dU;rfl;exact (.there .here);exact (Row.cell c1))|(apply OQ.load;exact dU;rfl;exact (.there .here);exact (Row.cell c2))|(apply OQ.load;exact dU;rfl;exact (.there .here);exact (Row.cell c3))|(apply OQ.load;exact dU;rfl;exact (.there .here);exact (Row.cell c4))|(apply OQ.jd (b:=2251799813685247#64);rfl;rfl)|(apply OQ.jR (a:=19#64);rfl;rfl)|(apply OQ.gU;rfl;rfl)|(apply OQ.gV;rfl;rfl)) rfl ?_ | refine JC.seq ?_ | refine JC.region ?_ | refine JL.nil ?_ | refine JE.next ?_)
  refine JL.q (OQ.pure (v:=.agg ((oz n).l.map ai).toArray) rfl rfl (by kernel_rfl)) rfl ?_
  refine JL.ag (cs:=(oz n).l.map ai) bM rfl rfl rfl (aP _) .here rfl ?_
  repeat (first | refine JL.nil ?_ | refine JE.next ?_)
  refine JC.ret (JE.aM rfl (RV.av dh bM rfl .here rfl Row.all) ?_)
  exact fun w' hw=>⟨rfl,hw.aH⟩
set_option maxHeartbeats 8000000 in
theorem mW (a b : N5) (w : World) : Calls Tryd.prog 101 [.agg (a.l.map ai).toArray,.agg (b.l.map ai).toArray].toArray w fun e w'=>e=.returned (.agg ((lF a b).l.map ai).toArray)∧Ext w w':=by
  have c0 : (a.l.map ai)[0]?=some (ai a.a0):=rfl
  have c1 : (a.l.map ai)[1]?=some (ai a.a1):=rfl
  have c2 : (a.l.map ai)[2]?=some (ai a.a2):=rfl
  have c3 : (a.l.map ai)[3]?=some (ai a.a3):=rfl
  have c4 : (a.l.map ai)[4]?=some (ai a.a4):=rfl
  have d0 : (b.l.map ai)[0]?=some (ai b.a0):=rfl
  have d1 : (b.l.map ai)[1]?=some (ai b.a1):=rfl
  have d2 : (b.l.map ai)[2]?=some (ai b.a2):=rfl
  have d3 : (b.l.map ai)[3]?=some (ai b.a3):=rfl
  have d4 : (b.l.map ai)[4]?=some (ai b.a4):=rfl
  have cc:=iw ⟨a.a0+b.a0,a.a1+b.a1,a.a2+b.a2,a.a3+b.a3,a.a4+b.a4⟩
  refine enter (n:=32) Tryd.func101 rfl rfl rfl (ah.start w []) ?_
  repeat (first | refine JC.seq ?_ | refine JC.region ?_)
  refine JL.box (r:=a.l.map ai) rfl rfl rfl fun b2 _=>?_
  refine JL.box (r:=b.l.map ai) rfl rfl rfl fun b3 _=>?_
  refine JL.alloc iP rfl fun b4 _=>?_
  repeat (first | refine JL.q (by first|(apply OQ.aW;exact Tryd.underlying117;exact sr;rfl;rfl;exact (by decide))|(apply OQ.load;exact dU;rfl;exact (.there (.there .here));exact (Row.cell c0))|(apply OQ.load;exact dU;rfl;exact (.there (.there .here));exact (Row.cell c1))|(apply OQ.load;exact dU;rfl;exact (.there (.there .here));exact (Row.cell c2))|(apply OQ.load;exact dU;rfl;exact (.there (.there .here));exact (Row.cell c3))|(apply OQ.load;exact dU;rfl;exact (.there (.there .here));exact (Row.cell c4))|(apply OQ.load;exact dU;rfl;exact (.there .here);exact (Row.cell d0))|(apply OQ.load;exact dU;rfl;exact (.there .here);exact (Row.cell d1))|(apply OQ.load;exact dU;rfl;exact (.there .here);exact (Row.cell d2))|(apply OQ.load;exact dU;rfl;exact (.there .here);exact (Row.cell d3))|(apply OQ.load;exact dU;rfl;exact (.there .here);exact (Row.cell d4))|(apply OQ.gU;rfl;rfl)) rfl ?_ | refine JC.seq ?_ | refine JC.region ?_ | refine JL.nil ?_ | refine JE.next ?_)
  refine JL.q (OQ.pure (v:=.agg ((⟨a.a0+b.a0,a.a1+b.a1,a.a2+b.a2,a.a3+b.a3,a.a4+b.a4⟩ : N5).l.map ai).toArray) rfl rfl (by kernel_rfl)) rfl ?_
  refine JL.q (OQ.an gJ rfl fun w' _=>cc w') rfl ?_
  refine JL.ag (cs:=(lF a b).l.map ai) bM rfl rfl rfl (aP _) .here rfl ?_
  repeat (first | refine JL.nil ?_ | refine JE.next ?_)
  refine JC.ret (JE.aM rfl (RV.av dh bM rfl .here rfl Row.all) ?_)
  exact fun w' hw=>⟨rfl,hw.aH⟩
set_option maxHeartbeats 8000000 in
theorem dY (a b : N5) (w : World) : Calls Tryd.prog 102 [.agg (a.l.map ai).toArray,.agg (b.l.map ai).toArray].toArray w fun e w'=>e=.returned (.agg ((jB a b).l.map ai).toArray)∧Ext w w':=by
  have c0 : (a.l.map ai)[0]?=some (ai a.a0):=rfl
  have c1 : (a.l.map ai)[1]?=some (ai a.a1):=rfl
  have c2 : (a.l.map ai)[2]?=some (ai a.a2):=rfl
  have c3 : (a.l.map ai)[3]?=some (ai a.a3):=rfl
  have c4 : (a.l.map ai)[4]?=some (ai a.a4):=rfl
  have d0 : (b.l.map ai)[0]?=some (ai b.a0):=rfl
  have d1 : (b.l.map ai)[1]?=some (ai b.a1):=rfl
  have d2 : (b.l.map ai)[2]?=some (ai b.a2):=rfl
  have d3 : (b.l.map ai)[3]?=some (ai b.a3):=rfl
  have d4 : (b.l.map ai)[4]?=some (ai b.a4):=rfl
  have cc:=iw ⟨a.a0+4503599627370458#64 - b.a0,a.a1+4503599627370494#64 - b.a1,a.a2+4503599627370494#64 - b.a2,a.a3+4503599627370494#64 - b.a3,a.a4+4503599627370494#64 - b.a4⟩
  refine enter (n:=37) Tryd.func102 rfl rfl rfl (ah.start w []) ?_
  repeat (first | refine JC.seq ?_ | refine JC.region ?_)
  refine JL.box (r:=a.l.map ai) rfl rfl rfl fun b2 _=>?_
  refine JL.box (r:=b.l.map ai) rfl rfl rfl fun b3 _=>?_
  refine JL.alloc iP rfl fun b4 _=>?_
  repeat (first | refine JL.q (by first|(apply OQ.aW;exact Tryd.underlying117;exact sr;rfl;rfl;exact (by decide))|(apply OQ.load;exact dU;rfl;exact (.there (.there .here));exact (Row.cell c0))|(apply OQ.load;exact dU;rfl;exact (.there (.there .here));exact (Row.cell c1))|(apply OQ.load;exact dU;rfl;exact (.there (.there .here));exact (Row.cell c2))|(apply OQ.load;exact dU;rfl;exact (.there (.there .here));exact (Row.cell c3))|(apply OQ.load;exact dU;rfl;exact (.there (.there .here));exact (Row.cell c4))|(apply OQ.load;exact dU;rfl;exact (.there .here);exact (Row.cell d0))|(apply OQ.load;exact dU;rfl;exact (.there .here);exact (Row.cell d1))|(apply OQ.load;exact dU;rfl;exact (.there .here);exact (Row.cell d2))|(apply OQ.load;exact dU;rfl;exact (.there .here);exact (Row.cell d3))|(apply OQ.load;exact dU;rfl;exact (.there .here);exact (Row.cell d4))|(apply OQ.gU (b:=4503599627370458#64);rfl;rfl)|(apply OQ.gU (b:=4503599627370494#64);rfl;rfl)|(apply OQ.CG;rfl;rfl)) rfl ?_ | refine JC.seq ?_ | refine JC.region ?_ | refine JL.nil ?_ | refine JE.next ?_)
  refine JL.q (OQ.pure (v:=.agg ((⟨a.a0+4503599627370458#64 - b.a0,a.a1+4503599627370494#64 - b.a1,a.a2+4503599627370494#64 - b.a2,a.a3+4503599627370494#64 - b.a3,a.a4+4503599627370494#64 - b.a4⟩ : N5).l.map ai).toArray) rfl rfl (by kernel_rfl)) rfl ?_
  refine JL.q (OQ.an gJ rfl fun w' _=>cc w') rfl ?_
  refine JL.ag (cs:=(jB a b).l.map ai) bM rfl rfl rfl (aP _) .here rfl ?_
  repeat (first | refine JL.nil ?_ | refine JE.next ?_)
  refine JC.ret (JE.aM rfl (RV.av dh bM rfl .here rfl Row.all) ?_)
  exact fun w' hw=>⟨rfl,hw.aH⟩
set_option maxHeartbeats 8000000 in
theorem kr (k : List By) (hk : k.length=32) (p : Nat) (hp : p<4) (w : World) : Calls Tryd.prog 99 [.agg (k.map U8).toArray,N p].toArray w fun e w'=>e=.returned (ai (oo k p 8))∧Ext w w':=by
  refine enter (n:=24) Tryd.func99 rfl rfl rfl (ah.start w []) ?_
  repeat (first | refine JC.seq ?_ | refine JC.region ?_)
  refine JL.box (r:=k.map U8) rfl rfl rfl fun b2 _=>?_
  repeat (first | refine JL.q (by first|(apply OQ.move;rfl)|(apply OQ.assign;rfl)) rfl ?_ | refine JC.seq ?_ | refine JC.region ?_ | refine JC.block ?_ | refine JL.nil ?_ | refine JE.next ?_)
  refine JC.loop (fun i : Nat=>[(1,N p),(2,Pt b2 0),(5,ai (oo k p i)),(7,N i)]) (fun _=>[⟨b2,Row 23 (k.map U8),true⟩])
    (fun i=>8 - i) (fun i=>i≤8) 0 (by omega) (by repeat (first | exact aj.nil | refine aj.cons _ _ _ rfl ?_)) (ax.refl _) ?_
  intro i hi
  repeat (first | refine JL.q (by (apply OQ.cF;rfl;rfl)) rfl ?_ | refine JC.seq ?_ | refine JC.region ?_ | refine JL.nil ?_ | refine JE.next ?_)
  refine JC.cond rfl (fun h=>?_) (fun h=>?_)
  · have hi' : i<8:=of_decide_eq_true h
    clear h hi
    have hc:=qk (l:=k) (i:=8 * p+i) (by omega)
    repeat (first | refine JL.q (by first|(apply OQ.aW;exact Tryd.underlying23;exact Cf;rfl;rfl;exact (by (try simp only []);omega))|(apply OQ.load;exact Ft;rfl;exact .here;exact (Row.cell hc))|(apply OQ.nu;rfl;rfl;rfl)|(apply OQ.oM;rfl;rfl)|(apply OQ.v9;rfl;rfl)|(apply OQ.move;rfl)|(apply OQ.assign;rfl)|(apply OQ.bH;rfl;rfl;exact (by (try simp only []);omega))|(apply OQ.gN;rfl;rfl;exact (by (try simp only []);omega))) rfl ?_ | refine JC.seq ?_ | refine JC.region ?_ | refine JC.block ?_ | refine JC.skip ?_ | refine JL.nil ?_ | refine JE.next ?_ | refine JE.az ?_)
    exact JE.again (i:=i) (i+1) (by omega) (by omega) (by repeat (first | exact aj.nil | refine aj.cons _ _ _ rfl ?_)) (ax.refl _)
  · have hi' : ¬ i<8:=of_decide_eq_false h
    obtain rfl : i=8:=by omega
    clear h hi hi'
    generalize oo k p 8=X
    repeat (first | refine JL.q (by first|(apply OQ.move;rfl)|(apply OQ.assign;rfl)) rfl ?_ | refine JC.seq ?_ | refine JC.region ?_ | refine JC.exit ?_ | refine JL.nil ?_ | refine JE.next ?_ | refine JE.aB ?_ | refine JE.aG ?_)
    refine JC.ret (JE.aM rfl (RV.tmp rfl) ?_)
    exact fun w' hw=>⟨rfl,hw.aH⟩
theorem oA : aR Tryd.prog 73:=⟨_,Tryd.func73,rfl,by kernel_rfl⟩
set_option maxHeartbeats 8000000 in
theorem qq (u : List By) (hu : u.length=32) (w : World) : Calls Tryd.prog 73 [.agg (u.map U8).toArray].toArray w fun e w'=>e=.returned (.agg ((bP u).l.map ai).toArray)∧Ext w w':=by
  have hlu : (u.map U8).length=32:=by rw [List.length_map];exact hu
  have c0:=kr u hu 0 (by decide)
  have c1:=kr u hu 1 (by decide)
  have c2:=kr u hu 2 (by decide)
  have c3:=kr u hu 3 (by decide)
  have e : bP u=ux (oo u 0 8) (oo u 1 8) (oo u 2 8) (oo u 3 8):=rfl
  rw [e]
  generalize oo u 0 8=W0 at *
  generalize oo u 1 8=W1 at *
  generalize oo u 2 8=W2 at *
  generalize oo u 3 8=W3 at *
  clear e
  refine enter (n:=39) Tryd.func73 rfl rfl rfl (ah.start w []) ?_
  repeat (first | refine JC.seq ?_ | refine JC.region ?_)
  refine JL.box (r:=u.map U8) rfl rfl rfl fun b1 _=>?_
  refine JL.alloc iP rfl fun b2 _=>?_
  repeat (first | refine JC.seq ?_ | refine JL.nil ?_ | refine JE.next ?_)
  refine JC.quiet eG (by kernel_rfl) ?_
  repeat (first | refine JL.q (by first|(apply OQ.af (cs:=u.map U8);exact bB;exact aO;rfl;exact (.there .here);exact hlu;exact Row.all)|(apply OQ.an (vs:=[.agg (u.map U8).toArray,N 0]);exact dV;rfl;exact (fun w' _=>c0 w'))|(apply OQ.an (vs:=[.agg (u.map U8).toArray,N 1]);exact dV;rfl;exact (fun w' _=>c1 w'))|(apply OQ.an (vs:=[.agg (u.map U8).toArray,N 2]);exact dV;rfl;exact (fun w' _=>c2 w'))|(apply OQ.an (vs:=[.agg (u.map U8).toArray,N 3]);exact dV;rfl;exact (fun w' _=>c3 w'))|(apply OQ.jd (b:=2251799813685247#64);rfl;rfl)|(apply OQ.oM;rfl;rfl)|(apply OQ.v9;rfl;rfl)|(apply OQ.move;rfl)|(apply OQ.assign;rfl)|(apply OQ.gV;rfl;rfl)) rfl ?_ | refine JQ.q (by first|(apply OQ.af (cs:=u.map U8);exact bB;exact aO;rfl;exact (.there .here);exact hlu;exact Row.all)|(apply OQ.an (vs:=[.agg (u.map U8).toArray,N 0]);exact dV;rfl;exact (fun w' _=>c0 w'))|(apply OQ.an (vs:=[.agg (u.map U8).toArray,N 1]);exact dV;rfl;exact (fun w' _=>c1 w'))|(apply OQ.an (vs:=[.agg (u.map U8).toArray,N 2]);exact dV;rfl;exact (fun w' _=>c2 w'))|(apply OQ.an (vs:=[.agg (u.map U8).toArray,N 3]);exact dV;rfl;exact (fun w' _=>c3 w'))|(apply OQ.jd (b:=2251799813685247#64);rfl;rfl)|(apply OQ.oM;rfl;rfl)|(apply OQ.v9;rfl;rfl)|(apply OQ.move;rfl)|(apply OQ.assign;rfl)|(apply OQ.gV;rfl;rfl)) rfl ?_ | refine JC.seq ?_ | refine JC.region ?_ | refine JQ.nil ?_ | refine JE.next ?_)
  refine JL.q (OQ.pure (v:=.agg ((ux W0 W1 W2 W3).l.map ai).toArray) rfl rfl (by kernel_rfl)) rfl ?_
  refine JL.ag (cs:=(ux W0 W1 W2 W3).l.map ai) bM rfl rfl rfl (aP _) .here rfl ?_
  repeat (first | refine JL.nil ?_ | refine JE.next ?_)
  refine JC.ret (JE.aM rfl (RV.av dh bM rfl .here rfl Row.all) ?_)
  exact fun w' hw=>⟨rfl,hw.aH⟩
end
section
set_option maxRecDepth 10000
open Sl cV
def mulC (a b : cU) : cU:=
  (a >>> 32) * (b >>> 32)+((a >>> 32) * (b &&& 4294967295#64)+((a &&& 4294967295#64) * (b &&& 4294967295#64)) >>> 32) >>> 32 +
    ((((a >>> 32) * (b &&& 4294967295#64)+((a &&& 4294967295#64) * (b &&& 4294967295#64)) >>> 32) &&& 4294967295#64)+(a &&& 4294967295#64) * (b >>> 32)) >>> 32
theorem uz (x : cU) : (x &&& 4294967295#64).toNat=x.toNat % 4294967296:=by
  rw [BitVec.toNat_and,show (4294967295#64).toNat=2 ^ 32 - 1 from rfl,Nat.and_two_pow_sub_one_eq_mod]
theorem qt {x y : cU} (hx : x.toNat<4294967296) (hy : y.toNat<4294967296) : (x * y).toNat=x.toNat * y.toNat∧x.toNat * y.toNat≤18446744065119617025:=by
  have h : x.toNat * y.toNat≤4294967295 * 4294967295:=Nat.mul_le_mul (by omega) (by omega)
  refine ⟨?_,by omega⟩
  rw [BitVec.toNat_mul]
  exact Nat.mod_eq_of_lt (by omega)
theorem Dv (x1 x0 y1 y0 : Nat) : (x1 * 4294967296+x0) * (y1 * 4294967296+y0)=x1 * y1 * 18446744073709551616+(x1 * y0+x0 * y1) * 4294967296+x0 * y0:=by
  grind
theorem Be (a b : cU) : mulC a b=nO a b:=by
  apply BitVec.eq_of_toNat_eq
  rw [nQ]
  have ha:=a.isLt
  have hb:=b.isLt
  have a1:=bY a 32
  have b1:=bY b 32
  have a0:=uz a
  have b0:=uz b
  have ea : a.toNat=a.toNat / 4294967296 * 4294967296+a.toNat % 4294967296:=by omega
  have eb : b.toNat=b.toNat / 4294967296 * 4294967296+b.toNat % 4294967296:=by omega
  have e:=Dv (a.toNat / 4294967296) (a.toNat % 4294967296) (b.toNat / 4294967296) (b.toNat % 4294967296)
  rw [← ea,← eb] at e
  unfold mulC
  have h1 : (a >>> 32).toNat<4294967296:=by omega
  have h2 : (b >>> 32).toNat<4294967296:=by omega
  have h3 : (a &&& 4294967295#64).toNat<4294967296:=by omega
  have h4 : (b &&& 4294967295#64).toNat<4294967296:=by omega
  have p11:=qt h1 h2
  have p10:=qt h1 h4
  have p01:=qt h3 h2
  have p00:=qt h3 h4
  rw [a1,b1] at p11
  rw [a1,b0] at p10
  rw [a0,b1] at p01
  rw [a0,b0] at p00
  clear ha hb ea eb h1 h2 h3 h4 a1 b1 a0 b0
  rw [show (2 : Nat) ^ 32=4294967296 from rfl] at *
  generalize (a >>> 32) * (b >>> 32)=q11 at *
  generalize (a >>> 32) * (b &&& 4294967295#64)=q10 at *
  generalize (a &&& 4294967295#64) * (b >>> 32)=q01 at *
  generalize (a &&& 4294967295#64) * (b &&& 4294967295#64)=q00 at *
  generalize a.toNat * b.toNat=pr at *
  generalize a.toNat / 4294967296 * (b.toNat / 4294967296)=n11 at *
  generalize a.toNat / 4294967296 * (b.toNat % 4294967296)=n10 at *
  generalize a.toNat % 4294967296 * (b.toNat / 4294967296)=n01 at *
  generalize a.toNat % 4294967296 * (b.toNat % 4294967296)=n00 at *
  have s1:=bY q00 32
  have t1:=toNat_add (x:=q10) (y:=q00 >>> 32) (by omega)
  have s2:=bY (q10+q00 >>> 32) 32
  have m1:=uz (q10+q00 >>> 32)
  have t2:=toNat_add (x:=(q10+q00 >>> 32) &&& 4294967295#64) (y:=q01) (by omega)
  have s3:=bY (((q10+q00 >>> 32) &&& 4294967295#64)+q01) 32
  have hbd : pr<18446744073709551616 * 18446744073709551616:=by omega
  have u1:=toNat_add (x:=q11) (y:=(q10+q00 >>> 32) >>> 32) (by omega)
  have u2:=toNat_add (x:=q11+(q10+q00 >>> 32) >>> 32) (y:=(((q10+q00 >>> 32) &&& 4294967295#64)+q01) >>> 32) (by omega)
  rw [u2,u1,s3,t2,m1,s2,t1,s1]
  omega
theorem nV : aR Tryd.prog 121:=⟨_,Tryd.func121,rfl,by kernel_rfl⟩
theorem zg : B0 Tryd.prog 122:=⟨_,Tryd.func122,by kernel_rfl,by kernel_rfl,by kernel_rfl,by kernel_rfl⟩
set_option maxHeartbeats 8000000 in
theorem pe (a b : cU) (w : World) : Calls Tryd.prog 121 [ai a,ai b].toArray w fun e w'=>e=.returned (.tuple #[ai (nO a b),ai (a * b)])∧Ext w w':=by
  rw [← Be]
  refine enter (n:=51) Tryd.func121 rfl rfl rfl (ah.start w []) ?_
  repeat (first | refine JL.q (by first|(apply OQ.jd (b:=4294967295#64);rfl;rfl)|(apply OQ.jR;rfl;rfl)|(apply OQ.move;rfl)|(apply OQ.assign;rfl)|(apply OQ.gU;rfl;rfl)|(apply OQ.gV;rfl;rfl)) rfl ?_ | refine JC.seq ?_ | refine JC.region ?_ | refine JL.nil ?_ | refine JE.next ?_)
  refine JC.ret ?_
  refine JE.fQ rfl (RV.tmp rfl) (RV.tmp rfl) ?_
  exact fun w' hw=>⟨rfl,hw.aH⟩
theorem Bf : dm Tryd.prog 152=some 2:=by kernel_rfl
theorem Dw : ei Tryd.prog 152=true:=by kernel_rfl
theorem GU : zc Tryd.prog 152=some ((⟨0,0⟩ : W2).l.map ai):=by kernel_rfl
theorem qu : aR Tryd.prog 104:=⟨_,Tryd.func104,rfl,by kernel_rfl⟩
theorem wT : aR Tryd.prog 105:=⟨_,Tryd.func105,rfl,by kernel_rfl⟩
theorem wU : aR Tryd.prog 120:=⟨_,Tryd.func120,rfl,by kernel_rfl⟩
theorem su : aR Tryd.prog 103:=⟨_,Tryd.func103,rfl,by kernel_rfl⟩
theorem aF : aR Tryd.prog 76:=⟨_,Tryd.func76,rfl,by kernel_rfl⟩
set_option maxHeartbeats 8000000 in
theorem sv (a b : cU) (w : World) : Calls Tryd.prog 104 [ai a,ai b].toArray w fun e w'=>e=.returned (.agg ((ta a b).l.map ai).toArray)∧Ext w w':=by
  refine enter (n:=16) Tryd.func104 rfl rfl rfl (ah.start w []) ?_
  repeat (first | refine JC.seq ?_ | refine JC.region ?_)
  refine JL.alloc GU rfl fun b4 _=>?_
  repeat (first | refine JL.q (by first|(apply OQ.an;exact nV;rfl;exact (fun w' _=>pe a b w'))|(apply OQ.extract;rfl;rfl)|(apply OQ.move;rfl)|(apply OQ.assign;rfl)) rfl ?_ | refine JC.seq ?_ | refine JC.region ?_ | refine JL.nil ?_ | refine JE.next ?_)
  refine JL.q (OQ.pure (v:=.agg ((ta a b).l.map ai).toArray) rfl rfl (by kernel_rfl)) rfl ?_
  refine JL.ag (cs:=(ta a b).l.map ai) Bf rfl rfl rfl (aP _) .here rfl ?_
  repeat (first | refine JL.nil ?_ | refine JE.next ?_)
  refine JC.ret (JE.aM rfl (RV.av Dw Bf rfl .here rfl Row.all) ?_)
  exact fun w' hw=>⟨rfl,hw.aH⟩
theorem Dx (a b : cU) : (Cj a b).toNat≤1:=by
  rw [uu]
  have:=a.isLt
  have:=b.isLt
  omega
theorem Dy (a b : cU) : (a+b).toNat=(a.toNat+b.toNat+(0#64 : cU).toNat) % 18446744073709551616:=by
  rw [BitVec.toNat_add];rfl
theorem Dz (a b : cU) : (Cj a b).toNat=(a.toNat+b.toNat+(0#64 : cU).toNat) / 18446744073709551616:=uu a b
theorem DB (a b c : cU) : (a+b+c).toNat=(a.toNat+b.toNat+c.toNat) % 18446744073709551616:=by
  rw [BitVec.toNat_add,BitVec.toNat_add]
  omega
theorem DC (a b c : cU) : (BitVec.ofNat 64 ((a.toNat+b.toNat+c.toNat) / 18446744073709551616)).toNat=(a.toNat+b.toNat+c.toNat) / 18446744073709551616:=by
  rw [BitVec.toNat_ofNat]
  have:=a.isLt
  have:=b.isLt
  have:=c.isLt
  omega
set_option maxHeartbeats 8000000 in
theorem zh (v : W2) (a b : cU) (w : World) : Calls Tryd.prog 105 [.agg (v.l.map ai).toArray,ai a,ai b].toArray w fun e w'=>e=.returned (.agg ((gI v a b).l.map ai).toArray)∧Ext w w':=by
  have c0 : (v.l.map ai)[0]?=some (ai v.hi):=rfl
  have c1 : (v.l.map ai)[1]?=some (ai v.lo):=rfl
  refine enter (n:=34) Tryd.func105 rfl rfl rfl (ah.start w []) ?_
  repeat (first | refine JC.seq ?_ | refine JC.region ?_)
  refine JL.box (r:=v.l.map ai) rfl rfl rfl fun b3 _=>?_
  refine JL.alloc GU rfl fun b6 _=>?_
  repeat (first | refine JL.q (by first|(apply OQ.an;exact nV;rfl;exact (fun w' _=>pe a b w'))|(apply OQ.extract;rfl;rfl)|(apply OQ.load;exact dU;rfl;exact (.there .here);exact (Row.cell c1))|(apply OQ.load;exact dU;rfl;exact (.there .here);exact (Row.cell c0))|(apply OQ.xT (c:=0#64) (s:=v.lo+a * b) (o:=Cj v.lo (a * b));exact zg;rfl;rfl;rfl;exact (by decide);exact (Dy _ _);exact (Dz _ _))|(apply OQ.xT (c:=Cj v.lo (a * b)) (s:=v.hi+nO a b+Cj v.lo (a * b));exact zg;rfl;rfl;rfl;exact (Dx _ _);exact (DB _ _ _);exact (DC _ _ _))|(apply OQ.move;rfl)|(apply OQ.assign;rfl)|(apply OQ.cw;rfl;rfl;rfl;exact (by decide);rfl)) rfl ?_ | refine JC.seq ?_ | refine JC.region ?_ | refine JL.nil ?_ | refine JE.next ?_)
  refine JL.q (OQ.pure (v:=.agg ((gI v a b).l.map ai).toArray) rfl rfl (by kernel_rfl)) rfl ?_
  refine JL.ag (cs:=(gI v a b).l.map ai) Bf rfl rfl rfl (aP _) .here rfl ?_
  repeat (first | refine JL.nil ?_ | refine JE.next ?_)
  refine JC.ret (JE.aM rfl (RV.av Dw Bf rfl .here rfl Row.all) ?_)
  exact fun w' hw=>⟨rfl,hw.aH⟩
set_option maxHeartbeats 8000000 in
theorem zi (v : W2) (w : World) : Calls Tryd.prog 120 [.agg (v.l.map ai).toArray].toArray w fun e w'=>e=.returned (ai (mV v))∧Ext w w':=by
  have c0 : (v.l.map ai)[0]?=some (ai v.hi):=rfl
  have c1 : (v.l.map ai)[1]?=some (ai v.lo):=rfl
  refine enter (n:=10) Tryd.func120 rfl rfl rfl (ah.start w []) ?_
  repeat (first | refine JC.seq ?_ | refine JC.region ?_)
  refine JL.box (r:=v.l.map ai) rfl rfl rfl fun b1 _=>?_
  repeat (first | refine JL.q (by first|(apply OQ.load;exact dU;rfl;exact .here;exact (Row.cell c1))|(apply OQ.load;exact dU;rfl;exact .here;exact (Row.cell c0))|(apply OQ.oM;rfl;rfl)|(apply OQ.v9;rfl;rfl)|(apply OQ.assign;rfl)|(apply OQ.gV;rfl;rfl)|(apply OQ.cw;rfl;rfl;rfl;exact (by decide);rfl)) rfl ?_ | refine JC.seq ?_ | refine JC.region ?_ | refine JL.nil ?_ | refine JE.next ?_)
  refine JC.ret (JE.aM rfl (RV.tmp rfl) ?_)
  exact fun w' hw=>⟨rfl,hw.aH⟩
set_option maxHeartbeats 16000000 in
theorem uA (v0 v1 v2 v3 v4 : W2) (w : World) : Calls Tryd.prog 103 [.agg (v0.l.map ai).toArray,.agg (v1.l.map ai).toArray,.agg (v2.l.map ai).toArray,.agg (v3.l.map ai).toArray,.agg (v4.l.map ai).toArray].toArray w
    fun e w'=>e=.returned (.agg ((EZ v0 v1 v2 v3 v4).l.map ai).toArray)∧Ext w w':=by
  have c0 : (v0.l.map ai)[1]?=some (ai v0.lo):=rfl
  have c1 : (v1.l.map ai)[1]?=some (ai v1.lo):=rfl
  have c2 : (v2.l.map ai)[1]?=some (ai v2.lo):=rfl
  have c3 : (v3.l.map ai)[1]?=some (ai v3.lo):=rfl
  have c4 : (v4.l.map ai)[1]?=some (ai v4.lo):=rfl
  have cc:=iw ⟨(v0.lo &&& 2251799813685247#64)+19#64 * mV v4,(v1.lo &&& 2251799813685247#64)+mV v0,(v2.lo &&& 2251799813685247#64)+mV v1,(v3.lo &&& 2251799813685247#64)+mV v2,(v4.lo &&& 2251799813685247#64)+mV v3⟩
  refine enter (n:=44) Tryd.func103 rfl rfl rfl (ah.start w []) ?_
  repeat (first | refine JC.seq ?_ | refine JC.region ?_)
  refine JL.box (r:=v0.l.map ai) rfl rfl rfl fun b5 _=>?_
  refine JL.box (r:=v1.l.map ai) rfl rfl rfl fun b6 _=>?_
  refine JL.box (r:=v2.l.map ai) rfl rfl rfl fun b7 _=>?_
  refine JL.box (r:=v3.l.map ai) rfl rfl rfl fun b8 _=>?_
  refine JL.box (r:=v4.l.map ai) rfl rfl rfl fun b9 _=>?_
  refine JL.alloc iP rfl fun b10 _=>?_
  repeat (first | refine JC.seq ?_ | refine JL.nil ?_ | refine JE.next ?_)
  refine JC.tail 33 eG (by kernel_rfl) ?_
  simp only [List.take_succ_cons,List.take_zero,List.drop_succ_cons,List.drop_zero]
  repeat (refine JQ.q (by first|(apply OQ.load;exact dU;rfl;exact (by repeat (first | exact Has.here | apply Has.there));exact (Row.cell c0))|(apply OQ.load;exact dU;rfl;exact (by repeat (first | exact Has.here | apply Has.there));exact (Row.cell c1))|(apply OQ.load;exact dU;rfl;exact (by repeat (first | exact Has.here | apply Has.there));exact (Row.cell c2))|(apply OQ.load;exact dU;rfl;exact (by repeat (first | exact Has.here | apply Has.there));exact (Row.cell c3))|(apply OQ.load;exact dU;rfl;exact (by repeat (first | exact Has.here | apply Has.there));exact (Row.cell c4))|(apply OQ.af (cs:=v0.l.map ai);exact Dw;exact Bf;rfl;exact (by repeat (first | exact Has.here | apply Has.there));rfl;exact Row.all)|(apply OQ.af (cs:=v1.l.map ai);exact Dw;exact Bf;rfl;exact (by repeat (first | exact Has.here | apply Has.there));rfl;exact Row.all)|(apply OQ.af (cs:=v2.l.map ai);exact Dw;exact Bf;rfl;exact (by repeat (first | exact Has.here | apply Has.there));rfl;exact Row.all)|(apply OQ.af (cs:=v3.l.map ai);exact Dw;exact Bf;rfl;exact (by repeat (first | exact Has.here | apply Has.there));rfl;exact Row.all)|(apply OQ.af (cs:=v4.l.map ai);exact Dw;exact Bf;rfl;exact (by repeat (first | exact Has.here | apply Has.there));rfl;exact Row.all)|(apply OQ.an;exact wU;rfl;exact (fun w' _=>zi _ w'))|(apply OQ.jd (b:=2251799813685247#64);rfl;rfl)|(apply OQ.jR (a:=19#64);rfl;rfl)|(apply OQ.gU;rfl;rfl)|(apply OQ.cw;rfl;rfl;rfl;exact (by decide);rfl)) rfl ?_)
  refine JQ.q (OQ.pure (v:=.agg ((⟨(v0.lo &&& 2251799813685247#64)+19#64 * mV v4,(v1.lo &&& 2251799813685247#64)+mV v0,(v2.lo &&& 2251799813685247#64)+mV v1,(v3.lo &&& 2251799813685247#64)+mV v2,(v4.lo &&& 2251799813685247#64)+mV v3⟩ : N5).l.map ai).toArray) rfl rfl (by kernel_rfl)) rfl ?_
  refine JQ.q (OQ.an gJ rfl fun w' _=>cc w') rfl ?_
  repeat (refine JQ.cH ?_)
  refine JL.ag (cs:=(EZ v0 v1 v2 v3 v4).l.map ai) bM rfl rfl rfl (aP _) .here rfl ?_
  repeat (first | refine JL.nil ?_ | refine JE.next ?_)
  refine JC.ret (JE.aM rfl (RV.av dh bM rfl .here rfl Row.all) ?_)
  exact fun w' hw=>⟨rfl,hw.aH⟩
end
section
set_option maxRecDepth 10000
open Sl cV
set_option maxHeartbeats 32000000 in
set_option maxRecDepth 4000 in
theorem aK (a b : N5) (w : World) : Calls Tryd.prog 76 [.agg (a.l.map ai).toArray,.agg (b.l.map ai).toArray].toArray w fun e w'=>e=.returned (.agg ((bQ a b).l.map ai).toArray)∧Ext w w':=by
  have c0 : (a.l.map ai)[0]?=some (ai a.a0):=rfl
  have c1 : (a.l.map ai)[1]?=some (ai a.a1):=rfl
  have c2 : (a.l.map ai)[2]?=some (ai a.a2):=rfl
  have c3 : (a.l.map ai)[3]?=some (ai a.a3):=rfl
  have c4 : (a.l.map ai)[4]?=some (ai a.a4):=rfl
  have d0 : (b.l.map ai)[0]?=some (ai b.a0):=rfl
  have d1 : (b.l.map ai)[1]?=some (ai b.a1):=rfl
  have d2 : (b.l.map ai)[2]?=some (ai b.a2):=rfl
  have d3 : (b.l.map ai)[3]?=some (ai b.a3):=rfl
  have d4 : (b.l.map ai)[4]?=some (ai b.a4):=rfl
  refine enter (n:=123) Tryd.func76 rfl rfl rfl (ah.start w []) ?_
  repeat (first | refine JC.seq ?_ | refine JC.region ?_)
  refine JL.box (r:=a.l.map ai) rfl rfl rfl fun b2 _=>?_
  refine JL.box (r:=b.l.map ai) rfl rfl rfl fun b3 _=>?_
  refine JL.alloc iP rfl fun b4 _=>?_
  repeat (first | refine JC.seq ?_ | refine JL.nil ?_ | refine JE.next ?_)
  refine JC.quiet eG (by kernel_rfl) ?_
  repeat (first | refine JQ.q (by first|(apply OQ.aW;exact Tryd.underlying117;exact sr;rfl;rfl;exact (by decide))|(apply OQ.load;exact dU;rfl;exact (.there (.there .here));exact (Row.cell c0))|(apply OQ.load;exact dU;rfl;exact (.there (.there .here));exact (Row.cell c1))|(apply OQ.load;exact dU;rfl;exact (.there (.there .here));exact (Row.cell c2))|(apply OQ.load;exact dU;rfl;exact (.there (.there .here));exact (Row.cell c3))|(apply OQ.load;exact dU;rfl;exact (.there (.there .here));exact (Row.cell c4))|(apply OQ.assign;rfl)) rfl ?_ | refine JC.seq ?_ | refine JQ.nil ?_ | refine JE.next ?_)
  refine JC.quiet eG (by kernel_rfl) ?_
  repeat (first | refine JL.q (by first|(apply OQ.aW;exact Tryd.underlying117;exact sr;rfl;rfl;exact (by decide))|(apply OQ.load;exact dU;rfl;exact (.there .here);exact (Row.cell d0))|(apply OQ.load;exact dU;rfl;exact (.there .here);exact (Row.cell d1))|(apply OQ.load;exact dU;rfl;exact (.there .here);exact (Row.cell d2))|(apply OQ.load;exact dU;rfl;exact (.there .here);exact (Row.cell d3))|(apply OQ.load;exact dU;rfl;exact (.there .here);exact (Row.cell d4))|(apply OQ.jR (a:=19#64);rfl;rfl)|(apply OQ.move;rfl)|(apply OQ.assign;rfl)) rfl ?_ | refine JQ.q (by first|(apply OQ.aW;exact Tryd.underlying117;exact sr;rfl;rfl;exact (by decide))|(apply OQ.load;exact dU;rfl;exact (.there .here);exact (Row.cell d0))|(apply OQ.load;exact dU;rfl;exact (.there .here);exact (Row.cell d1))|(apply OQ.load;exact dU;rfl;exact (.there .here);exact (Row.cell d2))|(apply OQ.load;exact dU;rfl;exact (.there .here);exact (Row.cell d3))|(apply OQ.load;exact dU;rfl;exact (.there .here);exact (Row.cell d4))|(apply OQ.jR (a:=19#64);rfl;rfl)|(apply OQ.move;rfl)|(apply OQ.assign;rfl)) rfl ?_ | refine JC.seq ?_ | refine JC.region ?_ | refine JL.nil ?_ | refine JQ.nil ?_ | refine JE.next ?_)
  simp only [List.append]
  repeat (refine JL.q (by first|(apply OQ.an;exact qu;rfl;exact (fun w' _=>sv _ _ w'))|(apply OQ.an;exact wT;rfl;exact (fun w' _=>zh _ _ _ w'))|(apply OQ.move;rfl)) rfl ?_)
  refine JL.q (OQ.an su rfl fun w' _=>uA _ _ _ _ _ w') rfl ?_
  refine JL.ag (cs:=(bQ a b).l.map ai) bM rfl rfl rfl (aP _) .here rfl ?_
  repeat (first | refine JL.nil ?_ | refine JE.next ?_)
  refine JC.ret (JE.aM rfl (RV.av dh bM rfl .here rfl Row.all) ?_)
  exact fun w' hw=>⟨rfl,hw.aH⟩
theorem bN : aR Tryd.prog 106:=⟨_,Tryd.func106,rfl,by kernel_rfl⟩
theorem qv : aR Tryd.prog 77:=⟨_,Tryd.func77,rfl,by kernel_rfl⟩
set_option maxHeartbeats 8000000 in
theorem bX (a : N5) (k : Nat) (hk : k<1000) (w : World) : Calls Tryd.prog 106 [.agg (a.l.map ai).toArray,N k].toArray w fun e w'=>e=.returned (.agg ((iX a k).l.map ai).toArray)∧Ext w w':=by
  refine enter (n:=13) Tryd.func106 rfl rfl rfl (ah.start w []) ?_
  repeat (first | refine JC.seq ?_ | refine JC.region ?_)
  refine JL.box (r:=a.l.map ai) rfl rfl rfl fun b2 _=>?_
  refine JL.alloc iP rfl fun b4 _=>?_
  repeat (first | refine JL.q (by (apply OQ.move;rfl)) rfl ?_ | refine JC.seq ?_ | refine JC.region ?_ | refine JC.block ?_ | refine JL.nil ?_ | refine JE.next ?_)
  refine JC.loop (fun i : Nat=>[(2,Pt b2 0),(4,Pt b4 0),(5,N k),(6,N i)]) (fun i=>[⟨b4,Row 117 (aX.l.map ai),true⟩,⟨b2,Row 117 ((iX a i).l.map ai),true⟩])
    (fun i=>k - i) (fun i=>i≤k) 0 (by omega) (by repeat (first | exact aj.nil | refine aj.cons _ _ _ rfl ?_)) (ax.refl _) ?_
  intro i hi
  repeat (first | refine JL.q (by (apply OQ.cF;rfl;rfl)) rfl ?_ | refine JC.seq ?_ | refine JC.region ?_ | refine JL.nil ?_ | refine JE.next ?_)
  refine JC.cond rfl (fun h=>?_) (fun h=>?_)
  · have hi' : i<k:=of_decide_eq_true h
    clear h hi
    have c:=aK (iX a i) (iX a i)
    repeat (first | refine JL.q (by first|(apply OQ.af (cs:=(iX a i).l.map ai);exact dh;exact bM;rfl;exact (.there .here);rfl;exact Row.all)|(apply OQ.an;exact aF;rfl;exact (fun w' _=>c w'))) rfl ?_ | refine JC.seq ?_ | refine JC.region ?_ | refine JC.block ?_ | refine JC.skip ?_ | refine JE.next ?_)
    refine JL.ag (cs:=(iX a (i+1)).l.map ai) bM rfl rfl rfl (aP _) (.there .here) rfl ?_
    repeat (first | refine JL.q (by first|(apply OQ.move;rfl)|(apply OQ.bH;rfl;rfl;exact (by (try simp only []);omega))) rfl ?_ | refine JC.region ?_ | refine JL.nil ?_ | refine JE.next ?_ | refine JE.az ?_)
    exact JE.again (i:=i) (i+1) (by omega) (by omega) (by repeat (first | exact aj.nil | refine aj.cons _ _ _ rfl ?_)) (ax.refl _)
  · have hi' : ¬ i<k:=of_decide_eq_false h
    obtain rfl : i=k:=by omega
    clear h hi hi'
    generalize iX a i=X
    repeat (first | refine JL.q (by (apply OQ.af (cs:=X.l.map ai);exact dh;exact bM;rfl;exact (.there .here);rfl;exact Row.all)) rfl ?_ | refine JC.seq ?_ | refine JC.region ?_ | refine JC.exit ?_ | refine JE.next ?_ | refine JE.aB ?_ | refine JE.aG ?_)
    refine JL.ag (cs:=X.l.map ai) bM rfl rfl rfl (aP _) .here rfl ?_
    repeat (first | refine JL.nil ?_ | refine JE.next ?_)
    refine JC.ret (JE.aM rfl (RV.av dh bM rfl .here rfl Row.all) ?_)
    exact fun w' hw=>⟨rfl,hw.aH⟩
end
end Go.Proofs.YtkfeolclllhfpaaDoor
