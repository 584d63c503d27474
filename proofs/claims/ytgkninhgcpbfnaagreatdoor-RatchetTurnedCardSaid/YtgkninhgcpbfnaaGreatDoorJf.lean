/-
  Of no statement by itself: the texts RatN, Slin, RatD, RatE, RatF, RatG, LinB, RatH, SealC, SealO, RatI, RatJ in one.
  Conditions: each theorem's own.
-/
import Derived.Test.YtgkninhgcpbfnaaGreatDoorJe
import Derived.Laws.Tables
import Derived.Laws.Cover3
set_option linter.unusedSimpArgs false
set_option linter.unusedVariables false
namespace Go.Proofs.YtgkninhgcpbfnaaGreatDoor
section
set_option maxRecDepth 10000
open Sl ij mF dW ng
open qv (Bk)
theorem LD {a : Bk} (h : a.length=64) : ((a.map U8).drop (0+0 * 32)).take ((a.take 32).map U8).length=(a.take 32).map U8:=by
  rw [List.length_map,List.length_take,h,List.map_take]
  rfl
theorem Is {a : Bk} (h : a.length=64) : ((a.map U8).drop (0+1 * 32)).take ((a.drop 32).map U8).length=(a.drop 32).map U8:=by
  rw [List.length_map,List.length_drop,h,← List.map_drop,Nat.zero_add,Nat.one_mul,List.take_of_length_le (by simp [h])]
theorem sM : aL Tryz.prog 34:=⟨_,Tryz.func34,rfl,by kernel_rfl⟩
set_option maxHeartbeats 8000000 in
theorem wk (root sh : Bk) (h1 : root.length=32) (h2 : sh.length=32) (w : World) (hG : g9 w) :
    Calls Tryz.prog 34 [.agg (root.map U8).toArray,.agg (sh.map U8).toArray].toArray w fun e w'=>e=.returned (.tuple #[.agg ((cr root sh).map U8).toArray,.agg ((dO root sh).map U8).toArray])∧Ext w w':=by
  have hk : ∀ (b1 b2 : Nat) (w : World),g9 w→aJ.ok w ⟨some ⟨b1,0,none⟩,32,root⟩→aJ.ok w ⟨some ⟨b2,0,none⟩,32,sh⟩→Calls Tryz.prog 55 [.slice (some ⟨b1,0,none⟩) 32 32,.slice (some ⟨b2,0,none⟩) 32 32,.string Ab,N 2].toArray w fun e w'=>∃ bq,e=.returned (.tuple #[.slice (some ⟨bq,0,none⟩) 2 2,N 0])∧ah w [] [⟨bq,Row 23 ((l7 root sh).map U8),true⟩] w':=fun b1 b2 w hG ho1 ho2=>by
    have:=xd ⟨some ⟨b1,0,none⟩,32,root⟩ ⟨some ⟨b2,0,none⟩,32,sh⟩ Ab 2 (by decide) w hG ho1 ho2 (by rw [h1];decide) (by rw [h2];decide) (by decide)
    rwa [show aJ.v ⟨some ⟨b1,0,none⟩,32,root⟩=.slice (some ⟨b1,0,none⟩) 32 32 by simp [aJ.v,h1],show aJ.v ⟨some ⟨b2,0,none⟩,32,sh⟩=.slice (some ⟨b2,0,none⟩) 32 32 by simp [aJ.v,h2]] at this
  have hlT:=mS root sh
  have hlA : ((cr root sh).map U8).length=32:=by rw [List.length_map];exact fG _ _
  have hlC : ((dO root sh).map U8).length=32:=by rw [List.length_map];exact eV _ _
  have r0 : (((l7 root sh).map U8).drop (0+0 * 32)).take ((cr root sh).map U8).length=(cr root sh).map U8:=LD hlT
  have r1 : (((l7 root sh).map U8).drop (0+1 * 32)).take ((dO root sh).map U8).length=(dO root sh).map U8:=Is hlT
  generalize cr root sh=tA at *
  generalize dO root sh=tC at *
  generalize l7 root sh=tB at *
  have hl1 : (root.map U8).length=32:=by rw [List.length_map];exact h1
  have hl2 : (sh.map U8).length=32:=by rw [List.length_map];exact h2
  refine enter (n:=20) Tryz.func34 rfl rfl rfl (ah.start w []) ?_
  repeat (first | refine JC.seq ?_ | refine JC.region ?_)
  refine JL.box (r:=root.map U8) rfl rfl rfl fun b2 _=>?_
  refine JL.box (r:=sh.map U8) rfl rfl rfl fun b3 _=>?_
  refine JL.alloc hU rfl fun b4 _=>?_
  refine JL.alloc hU rfl fun b5 _=>?_
  repeat (first | refine JC.seq ?_ | refine JL.nil ?_ | refine JE.next ?_)
  let vs : Nat→Nat→Value:=fun j y=>match j with
    | 0=>.slice (some ⟨b2,0,none⟩) 32 32
    | 1=>.slice (some ⟨b3,0,none⟩) 32 32
    | 2=>.tuple #[.slice (some ⟨y,0,none⟩) 2 2,N 0]
    | 3=>.tuple #[.slice (some ⟨y,0,none⟩) 2 2,N 0]
    | 4=>.slice (some ⟨y,0,none⟩) 2 2
    | 5=>N 0
    | 6=>.slice (some ⟨y,0,none⟩) 2 2
    | 7=>N 0
    | _=>N 0
  let Ms : Nat→Nat→List aG:=fun j y=>match j with
    | 2=>[⟨y,Row 23 (tB.map U8),true⟩]
    | 8=>[⟨b5,Row 23 ((List.replicate 32 (0 : B)).map U8),true⟩]
    | 9=>[⟨b4,Row 23 ((List.replicate 32 (0 : B)).map U8),true⟩]
    | 10=>[⟨b3,Row 23 (sh.map U8),true⟩]
    | 11=>[⟨b2,Row 23 (root.map U8),true⟩]
    | _=>[]
  refine JC.grow (g:=⟨[(2,Pt b2 0),(3,Pt b3 0),(4,Pt b4 0),(5,Pt b5 0)],12,vs,Ms,(fun j=>match j with | 2=>[(0,9),(1,10)] | 3=>[(2,11)] | 4=>[(3,8)] | 5=>[(3,8)] | 6=>[(4,12)] | 7=>[(5,13)] | _=>[]),(fun j=>match j with | 2=>[11,10] | _=>[]),(fun j=>match j with | _=>[]),(fun j=>match j with | 3=>some 2 | 4=>some 3 | 6=>some 4 | _=>none)⟩) [(6,6)] [2,9,8] gK (by repeat (first | exact ai.nil | refine ai.cons _ _ _ rfl ?_)) ?_ (by kernel_rfl) (by kernel_rfl) (by kernel_rfl) ?_ ?_
  · exact an.refl _
  · refine ⟨?_,?_,?_,?_,?_,?_,?_,?_,trivial⟩
    · (intro xx EF MF Q kk;(try refine JL.aV rfl rfl ?_);exact JL.q (OQ.jZ Tryz.underlying23 j6 rfl) rfl (JL.nil (kk default nofun)))
    · (intro xx EF MF Q kk;(try refine JL.aV rfl rfl ?_);exact JL.q (OQ.jZ Tryz.underlying23 j6 rfl) rfl (JL.nil (kk default nofun)))
    · (intro xx EF MF Q kk;exact JL.bV (ι:=Nat) (vs:=[.slice (some ⟨b2,0,none⟩) 32 32,.slice (some ⟨b3,0,none⟩) 32 32,.string Ab,N 2]) (fun b=>.tuple #[.slice (some ⟨b,0,none⟩) 2 2,N 0]) (fun b=>[⟨b,Row 23 (tB.map U8),true⟩]) ug rfl rfl (fun i=>by simp) (fun w' hw'=>hk b2 b3 w' (hG.aM hw'.aM (by simp)) (fQ hw' .here rfl (Nat.le_of_eq h1)) (fQ hw' (.there .here) rfl (Nat.le_of_eq h2))) fun b=>JL.nil (kk b nofun))
    · (intro xx EF MF Q kk;(try refine JL.aV rfl rfl ?_);exact JL.q (OQ.move rfl) rfl (JL.nil (kk (xx 2) (fun k h=>by cases h;rfl))))
    · (intro xx EF MF Q kk;(try refine JL.aV rfl rfl ?_);exact JL.q (OQ.extract rfl rfl) rfl (JL.nil (kk (xx 3) (fun k h=>by cases h;rfl))))
    · (intro xx EF MF Q kk;(try refine JL.aV rfl rfl ?_);exact JL.q (OQ.extract rfl rfl) rfl (JL.nil (kk default nofun)))
    · (intro xx EF MF Q kk;(try refine JL.aV rfl rfl ?_);exact JL.q (OQ.assign rfl) rfl (JL.nil (kk (xx 4) (fun k h=>by cases h;rfl))))
    · (intro xx EF MF Q kk;(try refine JL.aV rfl rfl ?_);exact JL.q (OQ.assign rfl) rfl (JL.nil (kk default nofun)))
  · intro xx hx
    have e1:=hx 6 4 (by decide) rfl
    have e2:=hx 4 3 (by decide) rfl
    have e3:=hx 3 2 (by decide) rfl
    show JE _ _ _ _ _ [(6,.slice (some ⟨xx 6,0,none⟩) 2 2),(2,Pt b2 0),(3,Pt b3 0),(4,Pt b4 0),(5,Pt b5 0)] [⟨xx 2,Row 23 (tB.map U8),true⟩,⟨b4,Row 23 ((List.replicate 32 (0 : B)).map U8),true⟩,⟨b5,Row 23 ((List.replicate 32 (0 : B)).map U8),true⟩]
    rw [e1,e2,e3]
    generalize xx 2=bk
    clear hx e1 e2 e3 xx vs Ms
    repeat (first | refine JC.seq ?_ | refine JE.next ?_)
    let vs : Nat→Nat→Value:=fun j y=>match j with
      | 0=>.slice (some ⟨bk,0,none⟩) 2 2
      | 1=>Pt bk 0
      | 2=>.agg (tA.map U8).toArray
      | 3=>.slice (some ⟨bk,0,none⟩) 2 2
      | 4=>Pt bk (0+1 * 32)
      | 5=>.agg (tC.map U8).toArray
      | _=>N 0
    let Ms : Nat→Nat→List aG:=fun j y=>match j with
      | 6=>[⟨b4,Row 23 (tA.map U8),true⟩]
      | 7=>[⟨b5,Row 23 (tC.map U8),true⟩]
      | 8=>[⟨bk,Row 23 (tB.map U8),true⟩]
      | 9=>[⟨b4,Row 23 ((List.replicate 32 (0 : B)).map U8),true⟩]
      | 10=>[⟨b5,Row 23 ((List.replicate 32 (0 : B)).map U8),true⟩]
      | _=>[]
    refine JC.grow (g:=⟨[(4,Pt b4 0),(5,Pt b5 0),(6,.slice (some ⟨bk,0,none⟩) 2 2)],11,vs,Ms,(fun j=>match j with | 1=>[(0,14)] | 2=>[(1,15)] | 4=>[(3,17)] | 5=>[(4,18)] | 6=>[(2,16)] | 7=>[(5,19)] | _=>[]),(fun j=>match j with | 2=>[8] | 5=>[8] | 6=>[9] | 7=>[10] | _=>[]),(fun j=>match j with | 6=>[9] | 7=>[10] | _=>[]),(fun j=>match j with | _=>none)⟩) [] [6,7] gK (by repeat (first | exact ai.nil | refine ai.cons _ _ _ rfl ?_)) ?_ (by kernel_rfl) (by kernel_rfl) (by kernel_rfl) ?_ ?_
    · exact an.refl _
    · refine ⟨?_,?_,?_,?_,?_,?_,?_,?_,trivial⟩
      · (intro xx EF MF Q kk;(try refine JL.aV rfl rfl ?_);exact JL.q (OQ.move rfl) rfl (JL.nil (kk default nofun)))
      · (intro xx EF MF Q kk;(try refine JL.aV rfl rfl ?_);exact JL.q (OQ.kU (sz:=32) (i:=0) Tryz.underlying90 aB rfl rfl (by decide)) rfl (JL.nil (kk default nofun)))
      · (intro xx EF MF Q kk;(try refine JL.aV rfl rfl ?_);exact JL.q (OQ.af (cs:=tA.map U8) aQ aB rfl .here hlA (Row.cells r0)) rfl (JL.nil (kk default nofun)))
      · (intro xx EF MF Q kk;(try refine JL.aV rfl rfl ?_);exact JL.q (OQ.move rfl) rfl (JL.nil (kk default nofun)))
      · (intro xx EF MF Q kk;(try refine JL.aV rfl rfl ?_);exact JL.q (OQ.kU (sz:=32) (i:=1) Tryz.underlying90 aB rfl rfl (by decide)) rfl (JL.nil (kk default nofun)))
      · (intro xx EF MF Q kk;(try refine JL.aV rfl rfl ?_);exact JL.q (OQ.af (cs:=tC.map U8) aQ aB rfl .here hlC (Row.cells r1)) rfl (JL.nil (kk default nofun)))
      · (intro xx EF MF Q kk;exact JL.ag (cs:=tA.map U8) aB rfl rfl hlA (aU _) .here (by simp) (JL.nil (kk default nofun)))
      · (intro xx EF MF Q kk;exact JL.ag (cs:=tC.map U8) aB rfl rfl hlC (aU _) .here (by simp) (JL.nil (kk default nofun)))
    · intro xx hx
      show JE _ _ _ _ _ [(4,Pt b4 0),(5,Pt b5 0),(6,.slice (some ⟨bk,0,none⟩) 2 2)] [⟨b4,Row 23 (tA.map U8),true⟩,⟨b5,Row 23 (tC.map U8),true⟩]
      repeat (refine JE.next ?_)
      refine JC.ret (JE.gI rfl (RV.av aQ aB rfl .here hlA Row.all) (RV.av aQ aB rfl (.there .here) hlC Row.all) ?_)
      exact fun w' hw=>⟨rfl,hw.aM⟩
theorem yg : aL Tryz.prog 41:=⟨_,Tryz.func41,rfl,by kernel_rfl⟩
theorem iH (l : List Kp) : ∀ v ∈ (aX l).flatten,v.oneCell'=true:=by
  intro v hv
  obtain ⟨c,hc,hv⟩:=List.mem_flatten.1 hv
  obtain ⟨k,_,rfl⟩:=List.mem_map.1 hc
  exact List.all_eq_true.1 (qF k) v hv
theorem uI {l : List Kp} (h : ∀ k ∈ l,k.ok) : (aX l).flatten.length=l.length * 65:=by rw [dX (fM h),ec]
abbrev pX (l : List Kp):={ q : Acc // q=none→l=[] }
set_option maxHeartbeats 4000000 in
theorem Ai (s : nF) (w : World) (hs : s.ok w) (hl : s.l.length≤1000000) : Calls Tryz.prog 41 [s.v].toArray w fun e w'=>∃ q : pX s.l,e=.returned (aC q.1 s.l.length)∧ah w [] (fV q.1 s.l) w':=by
  refine enter (n:=8) Tryz.func41 rfl rfl rfl (ah.start w []) ?_
  have hfl:=uI hs.all
  obtain ⟨ad,cap,l⟩:=s
  cases ad with
  | none=>
    have h0 : l=[]:=by
      cases l with
      | nil=>rfl
      | cons c l=>
        obtain ⟨b,j,h1,_⟩:=hs.reads.at (by simp only [] at hfl;rw [hfl];simp)
        cases h1
    subst h0
    repeat (first | refine JL.q (by first|(apply OQ.Fq (ad:=none) (k:=0) (cap:=cap);exact Tryz.underlying24;rfl;rfl)|(apply OQ.move;rfl)|(apply OQ.assign;rfl)) rfl ?_ | refine JC.seq ?_ | refine JC.region ?_ | refine JL.nil ?_ | refine JE.next ?_)
    refine JC.cond_true rfl rfl ?_
    repeat (first | refine JL.q (by (apply OQ.assign;rfl)) rfl ?_ | refine JC.seq ?_ | refine JC.region ?_ | refine JL.nil ?_ | refine JE.next ?_)
    refine JC.ret ?_
    repeat (refine JE.aK ?_)
    exact JE.aR rfl (RV.tmp rfl) fun w' hw=>⟨⟨none,fun _=>rfl⟩,rfl,hw⟩
  | some ad=>
    repeat (first | refine JL.q (by first|(apply OQ.Fq (ad:=some ad) (k:=l.length) (cap:=cap);exact Tryz.underlying24;rfl;rfl)|(apply OQ.move;rfl)|(apply OQ.assign;rfl)) rfl ?_ | refine JC.seq ?_ | refine JC.region ?_ | refine JL.nil ?_ | refine JE.next ?_)
    refine JC.cond_false rfl rfl ?_
    repeat (first | refine JC.seq ?_ | refine JC.region ?_ | refine JC.skip ?_ | refine JE.next ?_)
    refine JL.uZ Tryz.underlying24 CJ rfl fun b0 _=>?_
    repeat (refine JL.q (by (apply OQ.move;rfl)) rfl ?_)
    refine JL.append (cs:=(aX l).flatten) (m:=l.length) (ad:=some ad) (sc:=cap) (xs:=[]) (fun b' cap'=>[⟨b',Sl.aE 57 65 (0+l.length) cap' ([]++(aX l).flatten),true⟩]) Tryz.underlying24 CJ rfl rfl (by intro _ _;repeat (first | exact aZ.here | apply aZ.there)) hfl (fun w' hw'=>(hs.holds hw' rfl).reads) (iH l) rfl (by decide) (by simp only [] at hl;omega) (by simp only [] at hl;omega) rfl fun b1 cap1=>?_
    rw [Nat.zero_add,List.nil_append]
    repeat (first | refine JL.q (by (apply OQ.assign;rfl)) rfl ?_ | refine JL.nil ?_ | refine JE.next ?_)
    refine JC.ret (JE.aR rfl (RV.tmp rfl) fun w' hw=>⟨⟨some (b1,cap1),nofun⟩,rfl,?_⟩)
    show ah w [] [⟨b1,Sl.aE 57 65 (aX l).length cap1 (aX l).flatten,true⟩] w'
    rw [ec]
    exact hw
theorem mq : aL Tryz.prog 25:=⟨_,Tryz.func25,rfl,by kernel_rfl⟩
set_option maxHeartbeats 4000000 in
theorem n5 (s : bA) (k : nF) (hs : s.ok) (w : World) (hk : k.ok w) (he : k.l=s.kept) (hl : s.kept.length≤1000000) : Calls Tryz.prog 25 [.agg (sec s k.v).toArray].toArray w fun e w'=>∃ q : pX s.kept,e=.returned (.agg (sec s (aC q.1 s.kept.length)).toArray)∧ah w [] (fV q.1 s.kept) w':=by
  have hv1 : k.v.oneCell'=true:=rfl
  have hl1:=ay hs k.v
  refine enter (n:=8) Tryz.func25 rfl rfl rfl (ah.start w []) ?_
  repeat (first | refine JC.seq ?_ | refine JC.region ?_)
  refine JL.box (r:=sec s k.v) rfl rfl rfl fun b1 _=>?_
  refine JL.alloc uH rfl fun b2 _=>?_
  repeat (first | refine JL.q (by first|(apply OQ.load;exact jc;rfl;exact (.there .here);exact (Row.cell (g7 hs k.v)))|(apply OQ.bM;rfl;rfl;rfl;exact (by decide);rfl)) rfl ?_ | refine JC.seq ?_ | refine JC.region ?_ | refine JL.nil ?_ | refine JE.next ?_)
  rw [← he] at hl
  refine JL.bV (ι:=pX k.l) (vs:=[k.v]) (fun q=>aC q.1 k.l.length) (fun q=>fV q.1 k.l) yg rfl rfl (fun q=>jC _ _) (fun w' hw'=>Ai k w' (hk.holds hw' rfl) hl) ?_
  rintro ⟨q,hq⟩
  try dsimp only
  rw [he] at hq ⊢
  have hl2:=ay hs (aC q s.kept.length)
  refine JL.perm (M':=⟨b2,Row 26 (sec dm (.slice none 0 0)),true⟩::⟨b1,Row 26 (sec s k.v),true⟩::fV q s.kept) ?_ (by exact List.perm_append_comm (l₂:=[_,_]))
  repeat (refine JL.q (by (apply OQ.bM;rfl;rfl;rfl;exact (by decide);rfl)) rfl ?_)
  refine JL.az (r:=sec s k.v) (r':=sec s (aC q s.kept.length)) CK rfl rfl (gw _ _) (kN _ _) (.there .here) (by rw [hl1];decide) (fD hs _ _ _) ?_
  repeat (first | refine JL.q (by (apply OQ.af (cs:=sec s (aC q s.kept.length));exact iy;exact dV;rfl;exact (.there .here);exact hl2;exact Row.all)) rfl ?_ | refine JC.seq ?_ | refine JC.region ?_ | refine JL.nil ?_ | refine JE.next ?_)
  refine JL.ag (cs:=sec s (aC q s.kept.length)) dV rfl rfl hl2 (bw (gw _ _)) .here (ay br _) ?_
  repeat (first | refine JL.nil ?_ | refine JE.next ?_)
  refine JC.ret (JE.aR rfl (RV.av iy dV rfl .here hl2 Row.all) ?_)
  exact fun w' hw=>⟨⟨q,hq⟩,rfl,hw.weak (.drop _ _ _ (.drop _ _ _ (an.refl _)))⟩
theorem sN : aL Tryz.prog 67:=⟨_,Tryz.func67,rfl,by kernel_rfl⟩
set_option maxHeartbeats 8000000 in
theorem uJ (b : Nat) (q : Acc) (s : bA) (hs : s.ok) (ht : s.taken<9000000000000000000) (w : World) (hT : Tb (keys (ff b q s)) w) (h0 : ah w (keys (ff b q s)) (ff b q s) w) :
    Calls Tryz.prog 67 [Pt b 0].toArray w fun e w'=>e=.returned (.agg ((jX s.take).map U8).toArray)∧ah w (keys (ff b q s)) (ff b q (ef s)) w':=by
  generalize keys (ff b q s)=S at h0 hT ⊢
  have hlt : (s.take.map U8).length=32:=by rw [List.length_map];exact hs.take
  have hst:=fun (w' : World) (M : List aG) (hw : ah w S M w')=>uG s.take hs.take w' (hT.g hw)
  have hs1 : ({ s with take:=m5 s.take } : bA).ok:=⟨hs.root,hs.own,hs.other,hs.send,rfl,hs.kept⟩
  have hl0:=ay hs (aC q s.kept.length)
  have hl1:=ay hs1 (aC q s.kept.length)
  have p1:=gj hs (aC q s.kept.length) (m5 s.take) rfl
  have p2:=fN hs1 (aC q s.kept.length) (s.taken+1)
  have hln : ((m5 s.take).map U8).length=32:=rfl
  have hlm : ((jX s.take).map U8).length=32:=rfl
  have hst2 : ∀ (w' : World) (M : List aG) (hw : ah w S M w'),Calls Tryz.prog 37 [.agg (s.take.map U8).toArray].toArray w' fun e w''=>e=.returned (.tuple #[.agg ((m5 s.take).map U8).toArray,.agg ((jX s.take).map U8).toArray])∧Ext w' w'':=hst
  clear hst
  have hR : ff b q (ef s)=⟨b,Row 26 (sec { s with take:=m5 s.take,taken:=s.taken+1 } (aC q s.kept.length)),true⟩::fV q s.kept:=rfl
  rw [hR]
  generalize m5 s.take=nx at *
  generalize jX s.take=ms at *
  refine enter (n:=23) Tryz.func67 rfl rfl rfl h0 ?_
  refine JC.seq (JC.region (JL.alloc hU rfl fun b2 _=>?_))
  repeat (first | refine JC.seq ?_ | refine JC.region ?_ | refine JL.nil ?_ | refine JE.next ?_)
  refine JL.alloc hU rfl fun b3 _=>?_
  unfold ff
  repeat (first | refine JL.q (by first|(apply OQ.af (cs:=s.take.map U8);exact aQ;exact aB;rfl;exact (.there (.there .here));exact hlt;exact (Row.cells (lI hs _)))|(apply OQ.au (vs:=[.agg (s.take.map U8).toArray]);exact rK;rfl;exact (fun w' hw'=>hst2 w' _ hw'))|(apply OQ.extract;rfl;rfl)|(apply OQ.move;rfl)|(apply OQ.cU;rfl)|(apply OQ.bM;rfl;rfl;rfl;exact (by decide);rfl)) rfl ?_ | refine JC.seq ?_ | refine JC.region ?_ | refine JL.nil ?_ | refine JE.next ?_)
  refine JL.aW (r:=sec s (aC q s.kept.length)) (r':=sec { s with take:=nx } (aC q s.kept.length)) aB rfl rfl hln (aU _) (.there (.there .here)) (by rw [hl0,hln];decide) p1 ?_
  refine JL.ag (cs:=ms.map U8) aB rfl rfl hlm (aU _) .here (by simp) ?_
  repeat (first | refine JL.q (by first|(apply OQ.load;exact bB;rfl;exact (.there (.there .here));exact (Row.cell (dL hs1 _)))|(apply OQ.aY (a:=s.taken) (b:=1);rfl;rfl;exact (by omega))|(apply OQ.move;rfl)|(apply OQ.cU;rfl)|(apply OQ.bM;rfl;rfl;rfl;exact (by decide);rfl)) rfl ?_ | refine JC.seq ?_ | refine JC.region ?_ | refine JL.nil ?_ | refine JE.next ?_)
  refine JL.az (r:=sec { s with take:=nx } (aC q s.kept.length)) (r':=sec { s with take:=nx,taken:=s.taken+1 } (aC q s.kept.length)) nE rfl rfl rfl rfl (.there (.there .here)) (by rw [hl1];decide) p2 ?_
  repeat (first | refine JL.q (by (apply OQ.af (cs:=ms.map U8);exact aQ;exact aB;rfl;exact .here;exact hlm;exact Row.all)) rfl ?_ | refine JC.seq ?_ | refine JC.region ?_ | refine JL.nil ?_ | refine JE.next ?_)
  refine JL.ag (cs:=ms.map U8) aB rfl rfl hlm (aU _) (.there .here) (by simp) ?_
  repeat (first | refine JL.nil ?_ | refine JE.next ?_)
  refine JC.ret (JE.aR rfl (RV.av aQ aB rfl (.there .here) hlm Row.all) ?_)
  exact fun w' hw=>⟨rfl,hw.weak (.drop _ _ _ (.drop _ _ _ (an.refl _)))⟩
end
section
set_option maxRecDepth 10000
open Sl
namespace Sl
section
variable {P : Program} {n : Nat} {w0 : World} {S : List Nat} {ops : Array Oper} {Q : Exit→Act→World→Prop} {l : List Oper} {E : Env} {M M' : List aG} {C : World→Prop}
variable {dst : Option Tmp} {d b : Nat} {t e ty : TypeId} {pos : String} {aft : Array Edge} {g : Option (Nat × Bool)} {x y z u : Operand} {cs : List Value}
theorem OQ.Fu {len cap lo hi mx sz : Nat} {ad : Option Addr} (hu : P.underlying t=some (.slice e)) (hz : dP P e=some sz) (hx : ev E x=some (.slice ad len cap)) (hl : ev E y=some (N lo)) (hh : ev E z=some (N hi)) (hm : ev E u=some (N mx)) (h : lo≤hi) (h2 : hi≤mx) (h' : mx≤cap) :
    OQ P n E C ⟨dst,.slice t x (some y) (some z) (some u),ty,pos,aft,g⟩ (.slice (if mx=lo then ad else ad.map (·.add (lo * sz))) (hi - lo) (mx - lo)):=
  OQ.run fun a ha w _=>by
    have h1:=ha.eval hx
    have h4:=ha.eval hl
    have h5:=ha.eval hh
    have h6:=ha.eval hm
    have h3 : (underlying t).run P w=.ok (.slice e) w:=run_underlying hu w
    simp [execOp,h1,h4,h5,h6,Instr.sliceAt,Sem.run_bind,h3,Instr.slice,Instr.sliceBounds,Instr.sliceBound,asIntOf,h,h2,h',aN hz]
theorem JL.Fv {zv : Value} {ad : Option Addr} {sz by' i k m cap sc : Nat} {xs xs' : List Value} (hu : P.underlying t=some (.slice e)) (hi : EI P e zv sz by') (hx : ev E x=some (.slice (some ⟨b,0,none⟩) i cap)) (hy : ev E y=some (.slice ad m sc))
    (hup : e9 M b (Sl.aE e sz k cap xs) (Sl.aE e sz k cap xs') M') (hl : cs.length=m * sz) (hr : ∀ w,ah w0 S M w→Reads w ad cs) (h1 : ∀ v ∈ cs,v.oneCell'=true) (h0 : 0<sz) (hroom : i+m≤k) (he : xs.take (i * sz)++cs++xs.drop (i * sz+m * sz)=xs') (hd : Nat.blt d n=true)
    (kk : JL P n w0 S ops Q l ((d,.slice (some ⟨b,0,none⟩) (i+m) cap)::E) M') : JL P n w0 S ops Q (⟨some d,.call ⟨.builtin .append,#[x,y],#[t,t]⟩,ty,pos,aft,none⟩::l) E M:=
  ⟨fun a w ha hw=>wpList_plain rfl fun K hK=>by
    obtain ⟨inf,hi1,hi2,hi3,hi4⟩:=hi.get
    obtain ⟨o,ho,sp,rfl,hc1,hc2,hc3⟩:=hw.get hup.has
    have hru:=hr w hw
    have hle : i * sz+m * sz≤k * sz:=by rw [← Nat.add_mul];exact Nat.mul_le_mul_right _ hroom
    unfold Oper.wp
    simp only [execOp,resolve,invoke,builtin,Sem.run_bind,Sem.run_pure,Result.andThen_ok,List.map_toArray,List.map_cons,List.map_nil,ha.eval hx,ha.eval hy]
    by_cases hm : m=0
    · subst hm
      have hcs : cs=[]:=List.eq_nil_of_length_eq_zero (by simpa using hl)
      subst hcs
      rw [lH (_t':=t) hu hi1 (by omega)]
      refine hK _ _ (kk.go _ _ (ha.put d _ hd) (hw.write hup (o':=.cells (xs++sp).toArray e (0,0)) ?_ ho rfl (fun _ _=>rfl) rfl rfl rfl))
      rw [← he]
      refine ⟨sp,?_,?_,?_,hc3⟩
      · simp
      · simpa using hc1
      · simpa using hc2
    · have hpos : 0<cs.length:=by rw [hl];exact Nat.mul_pos (Nat.pos_of_ne_zero hm) h0
      obtain ⟨b2,j2,rfl,hcell⟩:=hru.at hpos
      have hfit : i * inf.size+cs.length≤(xs++sp).toArray.size:=by
        rw [hl,hi3,List.size_toArray,List.length_append];omega
      rw [run_append_room (P:=P) w t ty e inf hu hi1 b i cap (xs++sp).toArray ho ⟨b2,j2,none⟩ m sc cs (by rw [hl,hi3]) (fun u v hv=>by rw [dh];exact hcell u v hv) h1 (by omega) hfit]
      refine hK _ _ (kk.go _ _ (ha.put d _ hd) (hw.write hup (o':=.cells ((xs++sp).take (i * inf.size)++cs++(xs++sp).drop (i * inf.size+cs.length)).toArray e (0,0)) ?_ (setRow_heap w b _ _ e _ ho) (by simp) (fun q hq=>setRow_other w b q _ hq) rfl rfl rfl))
      rw [hi3,hl,List.take_append_of_le_length (by omega),List.drop_append_of_le_length (by omega),← List.append_assoc,he]
      have hxl : xs'.length=xs.length:=by rw [← he];simp only [List.length_append,List.length_take,List.length_drop,hl];omega
      exact ⟨sp,rfl,by rw [List.length_append] at hc1 ⊢;omega,by omega,hc3⟩⟩
theorem zip_map {a : Act} (hk : bK n E a) : ∀ {is : List Nat} {xs : List Operand} {vs : List Value},m7 E xs=some vs→(is.zip xs).map (fun p=>(p.1,a.eval p.2))=is.zip vs
  | [],xs,vs,_=>by simp
  | i::is,[],vs,h=>by
    simp only [m7,Option.some.injEq] at h
    subst h
    rfl
  | i::is,x::xs,vs,h=>by
    simp only [m7] at h
    cases h1 : ev E x with
    | none=>simp [h1] at h
    | some v=>
      cases h2 : m7 E xs with
      | none=>simp [h1,h2] at h
      | some us=>
        simp only [h1,h2,Option.some.injEq] at h
        subst h
        simp [hk.eval h1,zip_map hk h2]
theorem OQ.mu {ps : Array (Nat × Operand)} (is : List Nat) (xs : List Operand) {vs : List Value} (hps : ps=(is.zip xs).toArray) (hx : m7 E xs=some vs) (h : P.built t (is.zip vs)=some cs.toArray) : OQ P n E C ⟨dst,.build t ps,ty,pos,aft,g⟩ (.agg cs.toArray):=
  OQ.run fun a ha w _=>by
    have hm : ps.map (fun (i,x)=>(i,a.eval x))=(is.zip vs).toArray:=by
      rw [hps,List.map_toArray,← zip_map ha hx]
    have r:=run_build w t (is.zip vs).toArray cs.toArray (by simpa using h)
    simp only [execOp,hm,Sem.run_bind,r,Result.andThen_ok]
    rfl
end
theorem OQ.JY {P : Program} {n : Nat} {E : Env} {C : World→Prop} {dst : Option Tmp} {t t' ty e : TypeId} {x y : Operand} {pos : String} {aft : Array Edge} {g : Option (Nat × Bool)} {m : Nat} {r q : List (BitVec 8)} (hu : P.underlying t=some (.array m e)) (he : P.underlying e=some (.int .u8)) (hz : dP P e=some 1) (hgd : P.eqGuardType P.depth t=false) (hx : ev E x=some (.agg (r.map U8).toArray)) (hy : ev E y=some (.agg (q.map U8).toArray)) (hr : r.length=m) (hq : q.length=m) (h : ¬ r=q) :
    OQ P n E C ⟨dst,.binOp .eql t x y t',ty,pos,aft,g⟩ (.bool false):=(decide_eq_false h : decide (r=q)=false) ▸ OQ.L7 hu he hz hgd hx hy hr hq
theorem OQ.LF {P : Program} {n : Nat} {E : Env} {C : World→Prop} {dst : Option Tmp} {t ty e : TypeId} {pos : String} {aft : Array Edge} {g : Option (Nat × Bool)} {x : Operand} {q : Acc} {k : Nat} (hu : P.underlying t=some (.slice e)) (hq : q=none→k=0) (hx : ev E x=some (aC q k)) : OQ P n E C ⟨dst,.call ⟨.builtin .len,#[x],#[t]⟩,ty,pos,aft,g⟩ (N k):=by
  cases q with
  | none=>obtain rfl:=hq rfl;exact OQ.len hu hx
  | some r=>exact OQ.len hu hx
theorem OQ.Fw {P : Program} {n : Nat} {w0 : World} {S : List Nat} {M : List aG} {E : Env} {dst : Option Tmp} {ty : TypeId} {pos : String} {aft : Array Edge} {g : Option (Nat × Bool)} {x : Operand} {ats : Array TypeId} {f : FuncId} {caps vs : List Value} {xs : List Operand} {v : Value} (hg : aL P f) (hx : ev E x=some (.func (.func f) #[] caps.toArray)) (hy : m7 E xs=some vs)
    (hc : ∀ w,ah w0 S M w→Calls P f (vs++caps).toArray w fun e w'=>e=.returned v∧Ext w w') : OQ P n E (ah w0 S M) ⟨dst,.call ⟨.value x,xs.toArray,ats⟩,ty,pos,aft,g⟩ v:=by
  refine ⟨fun a hk w hw=>?_⟩
  unfold Oper.quietAt
  rw [yY (xs:=xs) hg hk hx hy w]
  exact ⟨rfl,(hc w hw).mono fun e w' ⟨k1,k2⟩=>⟨k1,hw.ext k2⟩⟩
end Sl
end
section
set_option maxRecDepth 10000
open Sl ij mF dW ng
open qv (Bk)
theorem Sl.Reads.LG {w : World} {ad : Option Addr} {xs : List Value} {cap j sz : Nat} (h : Reads w ad xs) (h0 : cap=j→xs.drop (j * sz)=[]) : Reads w (if cap=j then ad else ad.map (·.add (j * sz))) (xs.drop (j * sz)):=by
  intro i v hv
  by_cases e : cap=j
  · rw [h0 e] at hv
    cases hv
  · rw [List.getElem?_drop] at hv
    obtain ⟨b,o,h1,h2⟩:=h _ v hv
    rw [if_neg e,h1]
    exact ⟨b,o+j * sz,by rw [Option.map_some,dh],by rw [Nat.add_assoc];exact h2⟩
theorem uK : aL Tryz.prog 64:=⟨_,Tryz.func64,rfl,by kernel_rfl⟩
theorem CN {L : List (List Value)} (h : ∀ c ∈ L,c.length=65) {i j : Nat} (hij : i≤j) (hj : j≤L.length) :
    (L.flatten.take (i * 65)++L.flatten.drop (j * 65)++L.flatten.drop (i * 65+(L.length - j) * 65)).take ((i+(L.length - j)) * 65)=(L.take i++L.drop j).flatten:=by
  have h1 : (L.take i).flatten.length=i * 65:=by rw [dX fun c hc=>h c (List.mem_of_mem_take hc),List.length_take,Nat.min_eq_left (by omega)]
  have h2 : (L.drop j).flatten.length=(L.length - j) * 65:=by rw [dX fun c hc=>h c (List.mem_of_mem_drop hc),List.length_drop]
  rw [rq h,fR h,List.take_left' (by rw [List.length_append,h1,h2,← Nat.add_mul]),List.flatten_append]
set_option maxHeartbeats 8000000 in
theorem yh (b cap : Nat) (l : List Kp) (i j : Nat) (hij : i<j) (hj : j≤l.length) (hl : ∀ k ∈ l,k.ok) (hs : l.length<1000000) (w : World) (h0 : ah w [b] (fV (some (b,cap)) l) w) :
    Calls Tryz.prog 64 [.slice (some ⟨b,0,none⟩) l.length cap,N i,N j].toArray w fun e w'=>e=.returned (.slice (some ⟨b,0,none⟩) (l.take i++l.drop j).length cap)∧ah w [b] (fV (some (b,cap)) (l.take i++l.drop j)) w':=by
  have hL:=fM hl
  have hLl:=ec l
  have hdc:=CN hL (i:=i) (j:=j) (by omega) (by rw [hLl];exact hj)
  have hR : aX (l.take i++l.drop j)=(aX l).take i++(aX l).drop j:=by simp [aX,List.map_take,List.map_drop]
  have hRl : (l.take i++l.drop j).length=i+(l.length - j):=by simp only [List.length_append,List.length_take,List.length_drop];omega
  have hfl:=dX hL
  have hone:=iH l
  have hGl : fV (some (b,cap)) (l.take i++l.drop j)=[⟨b,Sl.aE 57 65 (i+(l.length - j)) cap ((aX l).take i++(aX l).drop j).flatten,true⟩]:=by
    show [_]=_
    rw [hR,← hRl,← hR,ec]
  rw [hGl,hRl]
  have hdr:=fR hL j
  have hS : fV (some (b,cap)) l=[⟨b,Sl.aE 57 65 l.length cap (aX l).flatten,true⟩]:=by
    show [_]=_
    rw [hLl]
  rw [hS] at h0
  rw [hLl] at hfl hdc
  have hcap : l.length≤cap:=by
    obtain ⟨o,_,sp,_,_,_,h3⟩:=h0.get .here
    exact h3
  generalize (aX l).flatten=xs at *
  generalize ((aX l).take i++(aX l).drop j).flatten=ys at *
  generalize hmm : l.length=n at *
  have hne : decide ((i : Int)=(j : Int))=false:=decide_eq_false (by omega)
  refine enter (n:=33) Tryz.func64 rfl rfl rfl h0 ?_
  repeat (first | refine JL.q (by first|(apply OQ.len (k:=n) (cap:=cap) (ad:=some ⟨b,0,none⟩);exact Tryz.underlying24;rfl)|(apply OQ.Fu (lo:=i) (hi:=j) (mx:=n) (len:=n) (cap:=cap) (ad:=some ⟨b,0,none⟩);exact Tryz.underlying24;exact tE;rfl;rfl;rfl;rfl;exact (by omega);exact (by omega);exact (by omega))|(apply OQ.Kg (a:=(i : Int)) (b:=(j : Int));rfl;rfl;exact hne)|(apply OQ.move;rfl)|(apply OQ.assign;rfl)) rfl ?_ | refine JC.seq ?_ | refine JC.region ?_ | refine JL.nil ?_ | refine JE.next ?_)
  refine JC.cond_false rfl rfl ?_
  repeat (first | refine JL.q (by first|(apply OQ.len (k:=n) (cap:=cap) (ad:=some ⟨b,0,none⟩);exact Tryz.underlying24;rfl)|(apply OQ.move;rfl)|(apply OQ.assign;rfl)) rfl ?_ | refine JC.seq ?_ | refine JC.region ?_ | refine JC.skip ?_ | refine JL.nil ?_ | refine JE.next ?_)
  refine JC.tail 6 gK (by kernel_rfl) ?_
  simp only [List.take_succ_cons,List.take_zero,List.drop_succ_cons,List.drop_zero]
  repeat (first | refine JQ.q (by first|(apply OQ.to;exact (OQ.nI (ad:=some ⟨b,0,none⟩) (len:=n) (cap:=cap) (hi:=i) Tryz.underlying24 tE rfl rfl (by omega));exact wP)|(apply OQ.nH (ad:=some ⟨b,0,none⟩) (len:=n) (cap:=cap) (lo:=j);exact Tryz.underlying24;exact tE;rfl;rfl;exact hj)|(apply OQ.move;rfl)) rfl ?_ | refine JQ.bC ?_)
  refine JL.Fv (k:=n) (cs:=xs.drop (j * 65)) (m:=n - j) (i:=i) (xs:=xs) (xs':=xs.take (i * 65)++xs.drop (j * 65)++xs.drop (i * 65+(n - j) * 65)) Tryz.underlying24 CJ rfl rfl .here (by rw [List.length_drop,hfl,← Nat.sub_mul]) (fun w' hw'=>?_) (fun v hv=>hone v (List.mem_of_mem_drop hv)) (by decide) (by omega) rfl rfl ?_
  · obtain ⟨o,ho,hA⟩:=hw'.get .here
    exact (Reads.block ho (Sl.aE.cells _ hA)).LG fun e=>List.drop_of_length_le (by rw [hfl];exact Nat.mul_le_mul_right _ (by omega))
  repeat (first | refine JL.q (by first|(apply OQ.len (k:=i+(n - j)) (cap:=cap) (ad:=some ⟨b,0,none⟩);exact Tryz.underlying24;rfl)|(apply OQ.ot (lo:=i+(n - j)) (hi:=n) (len:=i+(n - j)) (cap:=cap) (ad:=some ⟨b,0,none⟩);exact Tryz.underlying24;exact tE;rfl;rfl;rfl;exact (by omega);exact hcap)|(apply OQ.move;rfl)|(apply OQ.assign;rfl)) rfl ?_ | refine JC.seq ?_ | refine JC.region ?_ | refine JL.nil ?_ | refine JE.next ?_)
  refine JL.IG (k:=n) (lo:=i+(n - j)) (xs:=xs.take (i * 65)++xs.drop (j * 65)++xs.drop (i * 65+(n - j) * 65)) (M':=[⟨b,Sl.aE 57 65 (i+(n - j)) cap ys,true⟩]) Tryz.underlying24 CJ rfl (fun v hv=>List.all_eq_true.1 (qF mW) v hv) (by decide) rfl (by omega) (by rw [hdc];exact .here) ?_
  repeat (first | refine JL.q (by first|(apply OQ.move;rfl)|(apply OQ.assign;rfl)) rfl ?_ | refine JC.seq ?_ | refine JC.region ?_ | refine JL.nil ?_ | refine JE.next ?_)
  refine JC.ret ?_
  skip
  exact JE.aR rfl (RV.tmp rfl) fun w' hw=>⟨rfl,hw⟩
theorem yj : aL Tryz.prog 62:=⟨_,Tryz.func62,rfl,by kernel_rfl⟩
theorem uL : aL Tryz.prog 63:=⟨_,Tryz.func63,rfl,by kernel_rfl⟩
theorem pY {k : Kp} (h : k.ok) : ((dZ k).drop 0).take (k.chain.map U8).length=k.chain.map U8:=by simp [dZ]
theorem Bx {k : Kp} (h : k.ok) : (dZ k)[32]?=some (N k.num):=by simp [dZ,h.c]
theorem Bz {k : Kp} (h : k.ok) : ((dZ k).drop 33).take (k.key.map U8).length=k.key.map U8:=by
  rw [dZ,show (33 : Nat)=(k.chain.map U8).length+1 by simp [h.c],← List.drop_drop,List.drop_left,List.drop_one,List.tail_cons,List.take_of_length_le (Nat.le_refl _)]
set_option maxHeartbeats 8000000 in
theorem Fx (k : Kp) (hk : k.ok) (bh : Nat) (h : Hd) (hh : h.chain.length=32) (w : World) (hw : ∃ o,w.heap[bh]?=some o∧Row 32 (hdc h) o) :
    Calls Tryz.prog 63 [.agg (dZ k).toArray,Pt bh 0].toArray w fun e w'=>e=.returned (.bool (sH h k))∧Ext w w':=by
  obtain ⟨o,ho,hA⟩:=hw
  have l1 : (k.chain.map U8).length=32:=by rw [List.length_map];exact hk.c
  have l2 : (h.chain.map U8).length=32:=by rw [List.length_map];exact hh
  refine enter (n:=16) Tryz.func63 rfl rfl rfl (ah.seen (S:=[]) ho hA) ?_
  unfold sH
  obtain ⟨c2,h2⟩ : ∃ c,decide ((k.num : Int)=(h.num : Int))=c:=⟨_,rfl⟩
  have h2' : decide (k.num=h.num)=c2:=by rw [← h2];exact decide_eq_decide.2 ⟨fun e=>by rw [e],fun e=>by omega⟩
  rw [h2']
  refine JC.seq (JC.region (JL.box (r:=dZ k) rfl rfl rfl fun b1 _=>?_))
  by_cases h1 : k.chain=h.chain
  · rw [decide_eq_true h1]
    repeat (first | refine JL.q (by first|(apply OQ.af (cs:=k.chain.map U8);exact aQ;exact aB;rfl;exact .here;exact l1;exact (Row.cells (pY hk)))|(apply OQ.af (cs:=h.chain.map U8);exact aQ;exact aB;rfl;exact (.there .here);exact l2;exact (Row.cells (eU hh)))|(apply OQ.KA (r:=k.chain) (q:=h.chain);exact Tryz.underlying23;exact Tryz.underlying5;exact j6;exact mo;rfl;rfl;exact hk.c;exact hh;exact h1)|(apply OQ.load;exact bB;rfl;exact .here;exact (Row.cell (Bx hk)))|(apply OQ.load;exact bB;rfl;exact (.there .here);exact (Row.cell (ke hh)))|(apply OQ.Kg;rfl;rfl;exact h2)|(apply OQ.fJ;rfl;rfl)|(apply OQ.move;rfl)|(apply OQ.assign;rfl)|(apply OQ.bM;rfl;rfl;rfl;exact (by decide);rfl)) rfl ?_ | refine JC.seq ?_ | refine JC.region ?_ | refine JL.nil ?_ | refine JE.next ?_ | refine JL.aV rfl rfl ?_)
    exact JC.ret (JE.aR rfl (RV.tmp rfl) fun w' hw=>⟨rfl,hw.aM⟩)
  · rw [decide_eq_false h1]
    repeat (first | refine JL.q (by first|(apply OQ.af (cs:=k.chain.map U8);exact aQ;exact aB;rfl;exact .here;exact l1;exact (Row.cells (pY hk)))|(apply OQ.af (cs:=h.chain.map U8);exact aQ;exact aB;rfl;exact (.there .here);exact l2;exact (Row.cells (eU hh)))|(apply OQ.JY (r:=k.chain) (q:=h.chain);exact Tryz.underlying23;exact Tryz.underlying5;exact j6;exact mo;rfl;rfl;exact hk.c;exact hh;exact h1)|(apply OQ.fl;rfl;rfl)|(apply OQ.move;rfl)|(apply OQ.assign;rfl)|(apply OQ.bM;rfl;rfl;rfl;exact (by decide);rfl)) rfl ?_ | refine JC.seq ?_ | refine JC.region ?_ | refine JL.nil ?_ | refine JE.next ?_ | refine JL.lu rfl rfl rfl rfl ?_)
    exact JC.ret (JE.aR rfl (RV.tmp rfl) fun w' hw=>⟨rfl,hw.aM⟩)
end
section
set_option maxRecDepth 10000
open Sl ij mF dW ng
open qv (Bk)
theorem nF.ok.at {w : World} {s : nF} (h : s.ok w) {i : Nat} (hi : i<s.l.length) : ∃ b j,s.ad=some ⟨b,j,none⟩∧b<w.heap.size∧∀ k u,(dZ (s.l.getD i mW))[k]?=some u→w.cell? ⟨b,j+i * 65+k,none⟩=some u:=by
  have hl:=uI h.all
  have h0 : 0<(aX s.l).flatten.length:=by omega
  obtain ⟨b,j,e,hc⟩:=h.reads.at h0
  refine ⟨b,j,e,?_,fun k u hu=>?_⟩
  · obtain ⟨v,hv⟩ : ∃ v,(aX s.l).flatten[0]?=some v:=⟨_,List.getElem?_eq_getElem h0⟩
    exact block_lt_of_cell (hc 0 v hv)
  · have hat:=ru (i:=i) (fM h.all) (by rw [ec];exact hi)
    rw [AE _ hi] at hat
    rw [← hat,List.getElem?_take] at hu
    split at hu
    · rw [List.getElem?_drop] at hu
      rw [Nat.add_assoc]
      exact hc _ u hu
    · cases hu
theorem nF.mem {s : nF} {i : Nat} (hi : i<s.l.length) : s.l.getD i mW ∈ s.l:=by
  rw [List.getD_eq_getElem?_getD,List.getElem?_eq_getElem hi]
  exact List.getElem_mem hi
def M8 : Option Nat→Int
  | none=>-1
  | some i=>(i : Int)
theorem Hg (h : Hd) : sI h []=none:=rfl
theorem Fy (h : Hd) (k : Kp) (l : List Kp) : sI h (k::l)=if sH h k=true then some 0 else (sI h l).map (·+1):=by
  rw [sI,List.findIdx?_cons]
  rfl
theorem Hh {l : List Kp} {i : Nat} (h : i<l.length) : l.drop i=l.getD i mW::l.drop (i+1):=by
  rw [List.drop_eq_getElem_cons h,List.getD_eq_getElem?_getD,List.getElem?_eq_getElem h]
  rfl
set_option maxHeartbeats 8000000 in
theorem Hi (s : nF) (bh : Nat) (h : Hd) (hh : h.chain.length=32) (w : World) (hs : s.ok w) (hw : ∃ o,w.heap[bh]?=some o∧Row 32 (hdc h) o) (hl : s.l.length<9223372036854775807) :
    Calls Tryz.prog 62 [s.v,.func (.func 63) #[] [Pt bh 0].toArray].toArray w fun e w'=>e=.returned (.int .i64 (M8 (sI h s.l)))∧Ext w w':=by
  obtain ⟨o,ho,hA⟩:=hw
  have hbh:=(Array.getElem?_eq_some_iff.1 ho).1
  refine enter (n:=19) Tryz.func62 rfl rfl rfl (ah.seen (S:=[]) ho hA) ?_
  repeat (first | refine JL.q (by first|(apply OQ.len (k:=s.l.length) (ad:=s.ad) (cap:=s.cap);exact Tryz.underlying24;rfl)|(apply OQ.move;rfl)|(apply OQ.assign;rfl)) rfl ?_ | refine JC.seq ?_ | refine JC.region ?_ | refine JC.block ?_ | refine JL.nil ?_ | refine JE.next ?_)
  refine JC.loop (fun i : Nat=>[(0,s.v),(1,.func (.func 63) #[] [Pt bh 0].toArray),(7,N s.l.length),(8,N i)]) (fun _=>[⟨bh,Row 32 (hdc h),false⟩]) (fun i=>s.l.length - i) (fun i=>i≤s.l.length∧sI h s.l=(sI h (s.l.drop i)).map (·+i)) 0 ⟨Nat.zero_le _,by rw [List.drop_zero];cases sI h s.l <;> rfl⟩ (by repeat (first | exact ai.nil | refine ai.cons _ _ _ rfl ?_)) (an.refl _) ?_
  rintro i ⟨hi,hp⟩
  repeat (first | refine JL.q (by (apply OQ.bN;rfl;rfl)) rfl ?_ | refine JC.seq ?_ | refine JC.region ?_ | refine JL.nil ?_ | refine JE.next ?_)
  refine JC.cond rfl (fun hc=>?_) (fun hc=>?_)
  · have hi' : i<s.l.length:=of_decide_eq_true (by assumption)
    obtain ⟨ba,ja,eA,la,cA⟩:=hs.at hi'
    have hok:=hs.all _ (nF.mem hi')
    have vA : s.v=.slice (some ⟨ba,ja,none⟩) s.l.length s.cap:=by rw [← eA];rfl
    rw [Hh hi',Fy] at hp
    generalize s.l.getD i mW=c at hp cA hok
    rw [vA]
    have hl65:=iz hok
    have hcl:=fun (w' : World) (M : List aG) (hw' : ah w [] (⟨bh,Row 32 (hdc h),false⟩::M) w')=>Fx c hok bh h hh w' (hw'.get .here)
    cases h1 : sH h c
    · rw [h1] at hp hcl
      repeat (first | refine JL.q (by first|(apply OQ.kU;exact Tryz.underlying24;exact tE;rfl;rfl;exact hi')|(apply OQ.cQ (cs:=dZ c);exact LA;rfl;exact (hl65 ▸ tE);exact la;exact (by simp);exact cA)|(apply OQ.Fw (caps:=[Pt bh 0]) (vs:=[.agg (dZ c).toArray]);exact uL;rfl;rfl;exact (fun w' hw'=>hcl w' _ hw'))|(apply OQ.move;rfl)|(apply OQ.assign;rfl)) rfl ?_ | refine JC.seq ?_ | refine JC.region ?_ | refine JC.block ?_ | refine JC.skip ?_ | refine JL.nil ?_ | refine JE.next ?_)
      refine JC.cond_false rfl rfl ?_
      repeat (first | refine JL.q (by first|(apply OQ.move;rfl)|(apply OQ.aY;rfl;rfl;exact (by (try simp only []);omega))) rfl ?_ | refine JC.region ?_ | refine JC.skip ?_ | refine JL.nil ?_ | refine JE.next ?_ | refine JE.aq ?_)
      rw [← vA]
      refine JE.again (i:=i) (i+1) ⟨hi',?_⟩ (by omega) (by repeat (first | exact ai.nil | refine ai.cons _ _ _ rfl ?_)) (an.refl _)
      rw [hp,if_neg (by decide),Option.map_map]
      congr 1
      funext z
      show z+1+i=z+(i+1)
      omega
    · rw [h1] at hp hcl
      rw [if_pos rfl] at hp
      rw [hp]
      repeat (first | refine JL.q (by first|(apply OQ.kU;exact Tryz.underlying24;exact tE;rfl;rfl;exact hi')|(apply OQ.cQ (cs:=dZ c);exact LA;rfl;exact (hl65 ▸ tE);exact la;exact (by simp);exact cA)|(apply OQ.Fw (caps:=[Pt bh 0]) (vs:=[.agg (dZ c).toArray]);exact uL;rfl;rfl;exact (fun w' hw'=>hcl w' _ hw'))|(apply OQ.move;rfl)|(apply OQ.assign;rfl)) rfl ?_ | refine JC.seq ?_ | refine JC.region ?_ | refine JC.block ?_ | refine JC.skip ?_ | refine JL.nil ?_ | refine JE.next ?_)
      refine JC.cond_true rfl rfl ?_
      repeat (first | refine JL.q (by first|(apply OQ.move;rfl)|(apply OQ.assign;rfl)) rfl ?_ | refine JC.seq ?_ | refine JC.region ?_ | refine JL.nil ?_ | refine JE.next ?_)
      refine JC.ret ?_
      repeat (first | refine JE.aK ?_ | refine JE.qA ?_)
      exact JE.aR rfl (RV.tmp rfl) fun w' hw=>⟨by rw [show M8 (Option.map (·+i) (some 0))=((i : Nat) : Int) by show ((0+i : Nat) : Int)=_;rw [Nat.zero_add]],hw.aM⟩
  · have hi' : ¬ i<s.l.length:=of_decide_eq_false (by assumption)
    rw [List.drop_eq_nil_of_le (by omega),Hg] at hp
    rw [hp]
    repeat (first | refine JL.q (by (apply OQ.assign;rfl)) rfl ?_ | refine JC.seq ?_ | refine JC.region ?_ | refine JC.exit ?_ | refine JL.nil ?_ | refine JE.next ?_ | refine JE.ax ?_ | refine JE.aA ?_)
    refine JC.ret ?_
    skip
    exact JE.aR rfl (RV.tmp rfl) fun w' hw=>⟨rfl,hw.aM⟩
structure Ko (o : Option bA) where
  q : Acc
  s : bA
  code : Nat
  ok : s.ok
  nil : q=none→s.kept=[]
  is : (o=none∧code=12)∨(o=some s∧code=0)
theorem Fz (c : Bk) (m : Nat) (hc : c.length=32) : Tryz.prog.built 57 ([0,1].zip [.agg (c.map U8).toArray,N m])=some (dZ ⟨c,m,dU⟩).toArray:=by
  have h : Tryz.prog.built 57 ([0,1].zip [.agg (c.map U8).toArray,N m])=Instr.fill (fun i=>#[(0,32),(32,1),(33,32)][i]?) (dZ mW).toArray [(0,.agg (c.map U8).toArray),(1,N m)]:=by kernel_rfl
  rw [h,dF (off:=0) (sz:=32) (cs:=c.map U8) rfl rfl (by simp [hc]) (by simp [dZ,mW]),dF (off:=32) (sz:=1) (cs:=[N m]) rfl rfl rfl (by simp [dZ,mW,hc])]
  have hp:=tg (a:=c.map U8) (b:=[N 0]) (c:=dU.map U8) (j:=32) (k:=1) [N m] (by simp [hc]) rfl
  exact congrArg (fun l : List Value=>some l.toArray) hp
theorem FA {c k : Bk} {m : Nat} (hc : c.length=32) (hk : k.length=32) : (dZ ⟨c,m,dU⟩).take 33++k.map U8++(dZ ⟨c,m,dU⟩).drop (33+(k.map U8).length)=dZ ⟨c,m,k⟩:=by
  have:=tg (a:=c.map U8++[N m]) (b:=dU.map U8) (c:=[]) (j:=33) (k:=32) (k.map U8) (by simp [hc]) rfl
  rw [List.length_map,hk]
  simpa [dZ,List.append_assoc] using this
theorem BA (s : bA) (i : Nat) : kZ s (i+1)={ ef (kZ s i) with kept:=(kZ s i).kept++[⟨(kZ s i).other,(kZ s i).taken,jX (kZ s i).take⟩] }:=by
  show kZ s (i+1)={ ef (kZ s i) with kept:=(s.kept++CE s.other i s.taken s.take)++[⟨s.other,s.taken+i,jX (Fe i s.take)⟩] }
  unfold kZ ef
  rw [sF,yb,List.append_assoc]
  rfl
theorem LH (e : aG) (A M : List aG) : ([e]++(A++[]))++M=e::(A++M):=by simp
theorem FB : aL Tryz.prog 66:=⟨_,Tryz.func66,rfl,by kernel_rfl⟩
set_option maxHeartbeats 32000000 in
theorem Hj (b : Nat) (q0 : Acc) (s0 : bA) (hs0 : s0.ok) (hq0 : q0=none→s0.kept=[]) (hk0 : s0.kept.length≤2000) (to : Nat) (hto : to≤2147483647) (ht0 : s0.taken≤2147483648) (w : World) (hT : Tb (keys (ff b q0 s0)) w) (h0 : ah w (keys (ff b q0 s0)) (ff b q0 s0) w) :
    Calls Tryz.prog 66 [Pt b 0,N to].toArray w fun e w'=>∃ r : Ko (leave s0 to),e=.returned (N r.code)∧ah w (keys (ff b q0 s0)) (ff b r.q r.s) w':=by
  generalize keys (ff b q0 s0)=S at h0 hT ⊢
  have htk : ∀ o,Row 26 (sec s0 (aC q0 s0.kept.length)) o→cellAt o 163=some (N s0.taken):=Row.cell (dL hs0 _)
  refine enter (n:=67) Tryz.func66 rfl rfl rfl h0 ?_
  unfold ff
  by_cases h1 : to≤s0.taken
  · repeat (first | refine JL.q (by first|(apply OQ.load;exact bB;rfl;exact .here;exact htk)|(apply OQ.yR (a:=to) (b:=s0.taken);rfl;rfl;exact h1)|(apply OQ.move;rfl)|(apply OQ.assign;rfl)|(apply OQ.cU;rfl)|(apply OQ.bM;rfl;rfl;rfl;exact (by decide);rfl)) rfl ?_ | refine JC.seq ?_ | refine JC.region ?_ | refine JL.nil ?_ | refine JE.next ?_)
    refine JC.cond_true rfl rfl ?_
    repeat (first | refine JL.q (by (apply OQ.assign;rfl)) rfl ?_ | refine JC.seq ?_ | refine JC.region ?_ | refine JL.nil ?_ | refine JE.next ?_)
    refine JC.ret ?_
    repeat (refine JE.aK ?_)
    exact JE.aR rfl (RV.tmp rfl) fun w' hw=>⟨⟨q0,s0,0,hs0,hq0,.inr ⟨Fi h1 hk0,rfl⟩⟩,rfl,hw⟩
  repeat (first | refine JL.q (by first|(apply OQ.load;exact bB;rfl;exact .here;exact htk)|(apply OQ.Dz (a:=to) (b:=s0.taken);rfl;rfl;exact h1)|(apply OQ.move;rfl)|(apply OQ.assign;rfl)|(apply OQ.cU;rfl)|(apply OQ.bM;rfl;rfl;rfl;exact (by decide);rfl)) rfl ?_ | refine JC.seq ?_ | refine JC.region ?_ | refine JL.nil ?_ | refine JE.next ?_)
  refine JC.cond_false rfl rfl ?_
  have hsb : ((BitVec.ofNat 64 to) - (BitVec.ofNat 64 s0.taken) : BitVec 64).toNat=to - s0.taken:=by
    rw [BitVec.toNat_sub_of_le (by rw [BitVec.le_def,BitVec.toNat_ofNat,BitVec.toNat_ofNat];omega),BitVec.toNat_ofNat,BitVec.toNat_ofNat]
    omega
  by_cases h2 : 1000<to - s0.taken
  · have h3 : decide ((1000 : Int)<((((BitVec.ofNat 64 to) - (BitVec.ofNat 64 s0.taken) : BitVec 64).toNat : Nat) : Int))=true:=decide_eq_true (by rw [hsb];omega)
    repeat (first | refine JL.q (by first|(apply OQ.load;exact bB;rfl;exact .here;exact htk)|(apply OQ.gZ;exact Tryz.underlying3;exact Tryz.underlying106;rfl)|(apply OQ.yV;rfl;rfl)|(apply OQ.pA (b:=1000);rfl;rfl;exact h3)|(apply OQ.move;rfl)|(apply OQ.cU;rfl)|(apply OQ.bM;rfl;rfl;rfl;exact (by decide);rfl)) rfl ?_ | refine JC.seq ?_ | refine JC.region ?_ | refine JC.skip ?_ | refine JL.nil ?_ | refine JE.next ?_)
    refine JC.cond_true rfl rfl ?_
    repeat (first | refine JL.q (by (apply OQ.assign;rfl)) rfl ?_ | refine JC.seq ?_ | refine JC.region ?_ | refine JL.nil ?_ | refine JE.next ?_)
    refine JC.ret ?_
    repeat (refine JE.aK ?_)
    exact JE.aR rfl (RV.tmp rfl) fun w' hw=>⟨⟨q0,s0,12,hs0,hq0,.inl ⟨sG h2,rfl⟩⟩,rfl,hw⟩
  have h3 : decide ((1000 : Int)<((((BitVec.ofNat 64 to) - (BitVec.ofNat 64 s0.taken) : BitVec 64).toNat : Nat) : Int))=false:=decide_eq_false (by rw [hsb];omega)
  repeat (first | refine JL.q (by first|(apply OQ.load;exact bB;rfl;exact .here;exact htk)|(apply OQ.gZ;exact Tryz.underlying3;exact Tryz.underlying106;rfl)|(apply OQ.yV;rfl;rfl)|(apply OQ.pA (b:=1000);rfl;rfl;exact h3)|(apply OQ.move;rfl)|(apply OQ.cU;rfl)|(apply OQ.bM;rfl;rfl;rfl;exact (by decide);rfl)) rfl ?_ | refine JC.seq ?_ | refine JC.region ?_ | refine JC.skip ?_ | refine JL.nil ?_ | refine JE.next ?_)
  refine JC.cond_false rfl rfl ?_
  repeat (first | refine JC.seq ?_ | refine JC.block ?_ | refine JC.skip ?_ | refine JE.next ?_)
  obtain ⟨k0,hk0e⟩ : ∃ k,to - s0.taken=k:=⟨_,rfl⟩
  refine JC.loop (fun z : Nat × Acc=>[(0,Pt b 0),(1,N to)]) (fun z=>⟨b,Row 26 (sec (kZ s0 z.1) (aC z.2 (kZ s0 z.1).kept.length)),true⟩::fV z.2 (kZ s0 z.1).kept) (fun z=>k0 - z.1) (fun z=>z.1≤k0∧(z.2=none→(kZ s0 z.1).kept=[])) (0,q0) ⟨Nat.zero_le _,by rw [l9];exact hq0⟩ (by repeat (first | exact ai.nil | refine ai.cons _ _ _ rfl ?_)) (by dsimp only;rw [l9];exact an.refl _) ?_
  rintro ⟨i,q⟩ ⟨hi,hq⟩
  dsimp only at hi hq ⊢
  have hs:=Ac hs0 i
  have hst:=BA s0 i
  have htn : (kZ s0 i).taken=s0.taken+i:=rfl
  have hot : (kZ s0 i).other=s0.other:=rfl
  have hkl : (kZ s0 i).kept.length=s0.kept.length+i:=by show (s0.kept++CE _ i _ _).length=_;rw [List.length_append,v9]
  obtain ⟨s,hse⟩ : ∃ s,kZ s0 i=s:=⟨_,rfl⟩
  rw [hse] at hs hst htn hot hkl hq ⊢
  have htk : ∀ o,Row 26 (sec s (aC q s.kept.length)) o→cellAt o 163=some (N s.taken):=Row.cell (dL hs _)
  repeat (first | refine JL.q (by first|(apply OQ.load;exact bB;rfl;exact .here;exact htk)|(apply OQ.move;rfl)|(apply OQ.cU;rfl)|(apply OQ.bN;rfl;rfl)|(apply OQ.bM;rfl;rfl;rfl;exact (by decide);rfl)) rfl ?_ | refine JC.seq ?_ | refine JC.region ?_ | refine JL.nil ?_ | refine JE.next ?_)
  refine JC.cond rfl (fun hc=>?_) (fun hc=>?_)
  · have hi' : s.taken<to:=of_decide_eq_true hc
    clear hc
    have hlo : (s.other.map U8).length=32:=by rw [List.length_map];exact hs.other
    have hkb:=Fz s.other s.taken hs.other
    have hko : (⟨s.other,s.taken,dU⟩ : Kp).ok:=⟨hs.other,rfl⟩
    have hkl65:=iz hko
    repeat (first | refine JC.seq ?_ | refine JC.block ?_ | refine JC.skip ?_ | refine JE.next ?_)
    let vs : Nat→Nat→Value:=fun j y=>match j with
      | 0=>Pt b 0
      | 1=>Pt b 0
      | 2=>Pt b 64
      | 3=>.agg (s.other.map U8).toArray
      | 4=>Pt b 0
      | 5=>Pt b 0
      | 6=>Pt b 163
      | 7=>N s.taken
      | 8=>.agg (dZ ⟨s.other,s.taken,dU⟩).toArray
      | 9=>Pt y 0
      | _=>N 0
    let Ms : Nat→Nat→List aG:=fun j y=>match j with
      | 9=>[⟨y,Row 57 (dZ mW),true⟩]
      | 10=>[⟨y,Row 57 (dZ ⟨s.other,s.taken,dU⟩),true⟩]
      | 11=>[⟨b,Row 26 (sec s (aC q s.kept.length)),true⟩]
      | 12=>fV q s.kept
      | _=>[]
    refine JC.grow (g:=⟨[(0,Pt b 0),(1,N to)],13,vs,Ms,(fun j=>match j with | 1=>[(0,28)] | 2=>[(1,29)] | 3=>[(2,30)] | 5=>[(4,32)] | 6=>[(5,33)] | 7=>[(6,34)] | 8=>[(3,31),(7,35)] | 10=>[(9,5),(8,36)] | _=>[]),(fun j=>match j with | 3=>[11] | 7=>[11] | 10=>[9] | _=>[]),(fun j=>match j with | 10=>[9] | _=>[]),(fun j=>match j with | 10=>some 9 | _=>none)⟩) [(9,5)] [11,12,10] gK (by repeat (first | exact ai.nil | refine ai.cons _ _ _ rfl ?_)) ?_ (by kernel_rfl) (by kernel_rfl) (by kernel_rfl) ?_ ?_
    · show an ([_]++(fV q s.kept++[])) _;rw [List.append_nil];exact an.refl _
    · refine ⟨?_,?_,?_,?_,?_,?_,?_,?_,?_,?_,?_,trivial⟩
      · (intro xx EF MF Q kk;(try refine JL.aV rfl rfl ?_);exact JL.q (OQ.move rfl) rfl (JL.nil (kk default nofun)))
      · (intro xx EF MF Q kk;(try refine JL.aV rfl rfl ?_);exact JL.q (OQ.cU rfl) rfl (JL.nil (kk default nofun)))
      · (intro xx EF MF Q kk;(try refine JL.aV rfl rfl ?_);exact JL.q (OQ.bM rfl rfl rfl (by decide) rfl) rfl (JL.nil (kk default nofun)))
      · (intro xx EF MF Q kk;(try refine JL.aV rfl rfl ?_);exact JL.q (OQ.af (cs:=s.other.map U8) aQ aB rfl .here hlo (Row.cells (ee hs _))) rfl (JL.nil (kk default nofun)))
      · (intro xx EF MF Q kk;(try refine JL.aV rfl rfl ?_);exact JL.q (OQ.move rfl) rfl (JL.nil (kk default nofun)))
      · (intro xx EF MF Q kk;(try refine JL.aV rfl rfl ?_);exact JL.q (OQ.cU rfl) rfl (JL.nil (kk default nofun)))
      · (intro xx EF MF Q kk;(try refine JL.aV rfl rfl ?_);exact JL.q (OQ.bM rfl rfl rfl (by decide) rfl) rfl (JL.nil (kk default nofun)))
      · (intro xx EF MF Q kk;(try refine JL.aV rfl rfl ?_);exact JL.q (OQ.load bB rfl .here htk) rfl (JL.nil (kk default nofun)))
      · (intro xx EF MF Q kk;(try refine JL.aV rfl rfl ?_);exact JL.q (OQ.mu [0,1] [.tmp 31,.tmp 35] rfl rfl hkb) rfl (JL.nil (kk default nofun)))
      · (intro xx EF MF Q kk;exact JL.alloc NY rfl fun b9 _=>JL.nil (kk b9 nofun))
      · (intro xx EF MF Q kk;exact JL.ag (cs:=dZ ⟨s.other,s.taken,dU⟩) tE rfl rfl hkl65 (qF _) .here (iz ⟨rfl,rfl⟩) (JL.nil (kk (xx 9) (fun k h=>by cases h;rfl))))
    · intro xx hx
      have e1:=hx 10 9 (by decide) rfl
      show JE _ _ _ _ _ [(5,Pt (xx 9) 0),(0,Pt b 0),(1,N to)] (ff b q s++[⟨xx 10,Row 57 (dZ ⟨s.other,s.taken,dU⟩),true⟩])
      rw [e1]
      generalize xx 9=b5
      clear hx e1 xx vs Ms
      repeat (first | refine JL.q (by (apply OQ.move;rfl)) rfl ?_ | refine JC.seq ?_ | refine JC.region ?_ | refine JE.next ?_)
      refine JL.mj (ι:=Unit) (vs:=[Pt b 0]) (fun _=>.agg ((jX s.take).map U8).toArray) (fun _=>ff b q (ef s)) sN rfl rfl (eg _ _ _) (fun _=>eg _ _ _) (fun w' hw' hx'=>(uJ b q s hs (by omega) w' (hT.own hw' (eg _ _ _)) hx').mono fun e w2 ⟨g1,g2⟩=>⟨(),g1,g2⟩) fun _=>?_
      have hsn:=oU hs
      have hlm : ((jX s.take).map U8).length=32:=rfl
      refine JL.dG (M':=⟨b5,Row 57 (dZ ⟨s.other,s.taken,dU⟩),true⟩::⟨b,Row 26 (sec (ef s) (aC q s.kept.length)),true⟩::fV q s.kept) (by exact List.perm_append_comm (l₂:=[_])) ?_
      repeat (refine JL.q (by (apply OQ.bM;rfl;rfl;rfl;exact (by decide);rfl)) rfl ?_)
      refine JL.aW (r:=dZ ⟨s.other,s.taken,dU⟩) (r':=dZ ⟨s.other,s.taken,jX s.take⟩) aB rfl rfl hlm (aU _) .here (by rw [hkl65,hlm];decide) (FA hs.other rfl) ?_
      have hkl66:=iz (k:=⟨s.other,s.taken,jX s.take⟩) ⟨hs.other,rfl⟩
      have hk1:=qF ⟨s.other,s.taken,jX s.take⟩
      have hrr : kZ s0 (i+1)={ ef s with kept:=s.kept++[⟨s.other,s.taken,jX s.take⟩] }:=hst
      generalize (⟨s.other,s.taken,jX s.take⟩ : Kp)=kp1 at *
      have hkp : ∀ o,Row 26 (sec (ef s) (aC q s.kept.length)) o→cellAt o 165=some (aC q (aX s.kept).length):=by rw [ec];exact Row.cell (g7 hsn _)
      have hset : ∀ v',(sec (ef s) (aC q s.kept.length)).set 165 v'=sec { ef s with kept:=s.kept++[kp1] } v':=fun v'=>fD hsn _ _ v'
      have hl166:=ay hsn (aC q s.kept.length)
      have hqL : q=none→aX s.kept=[]:=fun e=>by rw [hq e];rfl
      have hLl : (aX s.kept).length<10000:=by rw [ec];omega
      repeat (first | refine JL.nil ?_ | refine JE.next ?_)
      let vs : Nat→Nat × Nat→Value:=fun j y=>match j with
        | 0=>Pt b 0
        | 1=>Pt b 0
        | 2=>Pt b 0
        | 3=>Pt b 165
        | 4=>aC q (aX s.kept).length
        | 5=>.agg (dZ kp1).toArray
        | 6=>.slice (some ⟨y.1,0,none⟩) 1 1
        | 7=>aC (some y) (aX s.kept++[dZ kp1]).length
        | 8=>Pt b 0
        | 9=>Pt b 165
        | _=>N 0
      let Ms : Nat→Nat × Nat→List aG:=fun j y=>match j with
        | 6=>[⟨y.1,Row 57 (dZ kp1),true⟩]
        | 7=>u9 57 65 (some y) (aX s.kept++[dZ kp1])
        | 10=>[⟨b,Row 26 (sec { ef s with kept:=s.kept++[kp1] } (aC (some y) (aX s.kept++[dZ kp1]).length)),true⟩]
        | 11=>[⟨b5,Row 57 (dZ kp1),true⟩]
        | 12=>[⟨b,Row 26 (sec (ef s) (aC q s.kept.length)),true⟩]
        | 13=>fV q s.kept
        | _=>[]
      refine JC.grow (g:=⟨[(0,Pt b 0),(1,N to),(5,Pt b5 0)],14,vs,Ms,(fun j=>match j with | 2=>[(1,41)] | 3=>[(2,42)] | 4=>[(3,43)] | 6=>[(5,45)] | 7=>[(4,44),(6,46)] | 8=>[(0,40)] | 9=>[(8,48)] | 10=>[(9,49),(7,47)] | _=>[]),(fun j=>match j with | 4=>[12] | 5=>[11] | 7=>[6,13] | 10=>[12] | _=>[]),(fun j=>match j with | 7=>[6,13] | 10=>[12] | _=>[]),(fun j=>match j with | 10=>some 7 | _=>none)⟩) [] [10,7] gK (by repeat (first | exact ai.nil | refine ai.cons _ _ _ rfl ?_)) ?_ (by kernel_rfl) (by kernel_rfl) (by kernel_rfl) ?_ ?_
      · show an ([_]++([_]++(fV q s.kept++[]))) _;rw [List.append_nil];exact an.refl _
      · refine ⟨?_,?_,?_,?_,?_,?_,?_,?_,?_,?_,?_,trivial⟩
        · (intro xx EF MF Q kk;(try refine JL.aV rfl rfl ?_);exact JL.q (OQ.move rfl) rfl (JL.nil (kk default nofun)))
        · (intro xx EF MF Q kk;(try refine JL.aV rfl rfl ?_);exact JL.q (OQ.move rfl) rfl (JL.nil (kk default nofun)))
        · (intro xx EF MF Q kk;(try refine JL.aV rfl rfl ?_);exact JL.q (OQ.cU rfl) rfl (JL.nil (kk default nofun)))
        · (intro xx EF MF Q kk;(try refine JL.aV rfl rfl ?_);exact JL.q (OQ.bM rfl rfl rfl (by decide) rfl) rfl (JL.nil (kk default nofun)))
        · (intro xx EF MF Q kk;(try refine JL.aV rfl rfl ?_);exact JL.q (OQ.load jc rfl .here hkp) rfl (JL.nil (kk default nofun)))
        · (intro xx EF MF Q kk;(try refine JL.aV rfl rfl ?_);exact JL.q (OQ.af (cs:=dZ kp1) LA tE rfl .here hkl66 Row.all) rfl (JL.nil (kk default nofun)))
        · (intro xx EF MF Q kk;exact JL.IC Tryz.underlying24 CJ rfl (by decide) (by decide) rfl hkl66 rfl fun b9 _=>JL.nil (kk (b9,0) nofun))
        · (intro xx EF MF Q kk;refine JL.dG (M':=⟨(xx 6).1,Row 57 (dZ kp1),true⟩::(u9 57 65 q (aX s.kept)++MF)) (List.Perm.of_eq (LH _ _ MF)) ?_;exact JL.F3 (z:=.agg (dZ mW).toArray) (c:=dZ kp1) (L:=aX s.kept) q Tryz.underlying24 CJ hqL rfl rfl hkl66 (fun v hv=>List.all_eq_true.1 hk1 v hv) rfl (by decide) (by omega) (by omega) rfl fun b9 cap9=>JL.nil (kk (b9,cap9) nofun))
        · (intro xx EF MF Q kk;(try refine JL.aV rfl rfl ?_);exact JL.q (OQ.cU rfl) rfl (JL.nil (kk default nofun)))
        · (intro xx EF MF Q kk;(try refine JL.aV rfl rfl ?_);exact JL.q (OQ.bM rfl rfl rfl (by decide) rfl) rfl (JL.nil (kk default nofun)))
        · (intro xx EF MF Q kk;exact JL.az (r:=sec (ef s) (aC q s.kept.length)) (r':=sec { ef s with kept:=s.kept++[kp1] } (aC (some (xx 7)) (aX s.kept++[dZ kp1]).length)) (v:=aC (some (xx 7)) (aX s.kept++[dZ kp1]).length) CK rfl rfl (gw _ _) (kN _ _) .here (by rw [hl166];decide) (hset _) (JL.nil (kk (xx 7) (fun k h=>by cases h;rfl))))
      · intro xx hx
        have e1:=hx 10 7 (by decide) rfl
        show JE _ _ _ _ _ [(0,Pt b 0),(1,N to),(5,Pt b5 0)] ([⟨b,Row 26 (sec { ef s with kept:=s.kept++[kp1] } (aC (some (xx 10)) (aX s.kept++[dZ kp1]).length)),true⟩]++(u9 57 65 (some (xx 7)) (aX s.kept++[dZ kp1])++[]))
        rw [e1,List.append_nil]
        generalize xx 7=r
        clear hx e1 xx vs Ms
        rw [show aX s.kept++[dZ kp1]=aX (s.kept++[kp1]) by simp [aX],ec]
        repeat (refine JE.aq ?_)
        exact JE.again (ι:=Nat × Acc) (i:=(i,q)) (i+1,some r) ⟨by dsimp only;omega,nofun⟩ (by dsimp only;omega) (by repeat (first | exact ai.nil | refine ai.cons _ _ _ rfl ?_)) (by dsimp only;rw [hrr];exact an.refl _)
  · have hi' : i=k0:=by have:=of_decide_eq_false hc;omega
    subst hi'
    clear hc
    have hl : leave s0 to=some (trim s):=by rw [kL h2,hk0e,hse]
    have hto:=Bn hs
    have hkp : ∀ o,Row 26 (sec s (aC q s.kept.length)) o→cellAt o 165=some (aC q s.kept.length):=Row.cell (g7 hs _)
    by_cases hm : 2000<s.kept.length
    · cases q with
      | none=>rw [hq rfl] at hm;exact absurd hm (by decide)
      | some r=>
      have hcu : fV (some r) s.kept=fV (some (r.1,r.2)) s.kept:=rfl
      have htr : trim s={ s with kept:=s.kept.take 0++s.kept.drop (s.kept.length - 2000) }:=by rw [trim,oT];rfl
      have hset : ∀ l v',(sec s (aC (some r) s.kept.length)).set 165 v'=sec { s with kept:=l } v':=fun l v'=>fD hs _ _ v'
      have hl166:=ay hs (aC (some r) s.kept.length)
      have hdl:=fun (w' : World) (hx' : ah w' [r.1] (fV (some (r.1,r.2)) s.kept) w')=>yh r.1 r.2 s.kept 0 (s.kept.length - 2000) (by omega) (by omega) hs.kept (by omega) w' hx'
      repeat (first | refine JL.q (by first|(apply OQ.load;exact jc;rfl;exact .here;exact hkp)|(apply OQ.LF (q:=some r) (k:=s.kept.length);exact Tryz.underlying24;exact nofun;rfl)|(apply OQ.jq (a:=s.kept.length) (b:=2000);rfl;rfl;exact (by omega);exact (by omega))|(apply OQ.Du (a:=s.kept.length - 2000) (b:=0);rfl;rfl;exact (by omega))|(apply OQ.move;rfl)|(apply OQ.assign;rfl)|(apply OQ.cU;rfl)|(apply OQ.bM;rfl;rfl;rfl;exact (by decide);rfl)) rfl ?_ | refine JC.seq ?_ | refine JC.region ?_ | refine JC.exit ?_ | refine JL.nil ?_ | refine JE.next ?_ | refine JE.ax ?_ | refine JE.aA ?_)
      refine JC.cond_true rfl rfl ?_
      repeat (first | refine JL.q (by first|(apply OQ.load;exact jc;rfl;exact .here;exact hkp)|(apply OQ.move;rfl)|(apply OQ.cU;rfl)|(apply OQ.bM;rfl;rfl;rfl;exact (by decide);rfl)) rfl ?_ | refine JC.region ?_)
      refine JL.dG (M':=fV (some r) s.kept++[⟨b,Row 26 (sec s (aC (some r) s.kept.length)),true⟩]) (by exact List.perm_append_comm (l₁:=[_])) ?_
      refine JL.mj (ι:=Unit) (vs:=[.slice (some ⟨r.1,0,none⟩) s.kept.length r.2,N 0,N (s.kept.length - 2000)]) (fun _=>.slice (some ⟨r.1,0,none⟩) (s.kept.take 0++s.kept.drop (s.kept.length - 2000)).length r.2) (fun _=>fV (some (r.1,r.2)) (s.kept.take 0++s.kept.drop (s.kept.length - 2000))) uK rfl rfl (jC _ _) (fun _=>jC _ _) (fun w' hw' hx'=>(hdl w' hx').mono fun e w2 ⟨g1,g2⟩=>⟨(),g1,g2⟩) fun _=>?_
      generalize s.kept.take 0++s.kept.drop (s.kept.length - 2000)=lk at *
      refine JL.dG (M':=⟨b,Row 26 (sec s (aC (some r) s.kept.length)),true⟩::fV (some (r.1,r.2)) lk) (by exact List.perm_append_comm (l₂:=[_])) ?_
      repeat (refine JL.q (by first|(apply OQ.cU;rfl)|(apply OQ.bM;rfl;rfl;rfl;exact (by decide);rfl)) rfl ?_)
      refine JL.az (r:=sec s (aC (some r) s.kept.length)) (r':=sec { s with kept:=lk } (aC (some r) lk.length)) (v:=aC (some (r.1,r.2)) lk.length) CK rfl rfl (gw _ _) (kN _ _) .here (by rw [hl166];decide) (hset lk _) ?_
      repeat (first | refine JL.q (by (apply OQ.assign;rfl)) rfl ?_ | refine JC.seq ?_ | refine JC.region ?_ | refine JL.nil ?_ | refine JE.next ?_)
      refine JC.ret ?_
      skip
      exact JE.aR rfl (RV.tmp rfl) fun w' hw=>⟨⟨some r,{ s with kept:=lk },0,htr ▸ hto,nofun,.inr ⟨by rw [hl,htr],rfl⟩⟩,rfl,hw⟩
    · have htr : trim s=s:=Bo (by omega)
      have hgt : decide ((0 : Int)<((s.kept.length : Nat) : Int) - (2000 : Int))=false:=decide_eq_false (by omega)
      have hne : q=none→s.kept.length=0:=fun e=>by rw [hq e];rfl
      repeat (first | refine JL.q (by first|(apply OQ.load;exact jc;rfl;exact .here;exact hkp)|(apply OQ.LF (q:=q) (k:=s.kept.length);exact Tryz.underlying24;exact hne;rfl)|(apply OQ.om (a:=((s.kept.length : Nat) : Int)) (b:=2000);rfl;rfl;exact (by omega);exact (by omega))|(apply OQ.pA (a:=((s.kept.length : Nat) : Int) - (2000 : Int)) (b:=0);rfl;rfl;exact hgt)|(apply OQ.move;rfl)|(apply OQ.assign;rfl)|(apply OQ.cU;rfl)|(apply OQ.bM;rfl;rfl;rfl;exact (by decide);rfl)) rfl ?_ | refine JC.seq ?_ | refine JC.region ?_ | refine JC.exit ?_ | refine JL.nil ?_ | refine JE.next ?_ | refine JE.ax ?_ | refine JE.aA ?_)
      refine JC.cond_false rfl rfl ?_
      repeat (first | refine JL.q (by (apply OQ.assign;rfl)) rfl ?_ | refine JC.seq ?_ | refine JC.region ?_ | refine JC.skip ?_ | refine JL.nil ?_ | refine JE.next ?_)
      refine JC.ret ?_
      skip
      exact JE.aR rfl (RV.tmp rfl) fun w' hw=>⟨⟨q,s,0,hs,hq,.inr ⟨by rw [hl,htr],rfl⟩⟩,rfl,hw⟩
end
section
set_option maxRecDepth 10000
open Sl ij mF dW ng
open qv (Bk)
structure M9 (o : Option bA) (ch fresh : Bk) where
  q : Acc
  s : bA
  ok : s.ok
  nil : q=none→s.kept=[]
  is : o=some (ir s ch fresh)
theorem JL.NF {n : Nat} {w0 : World} {S : List Nat} {ops : Array Oper} {Q : Exit→Act→World→Prop} {l : List Oper} {E : Env} {M : List aG} {d : Nat} {ty : TypeId} {pos : String} {aft : Array Edge} {x1 x2 : Operand} {ats : Array TypeId} {b : Nat} {q : Acc} {s : bA} {to : Nat} (hs : s.ok) (hq : q=none→s.kept=[]) (hk : s.kept.length≤2000) (hto : to≤2147483647) (ht : s.taken≤2147483648) (hT : Tb S w0) (e1 : ev E x1=some (Pt b 0)) (e2 : ev E x2=some (N to)) (hd : Nat.blt d n=true)
    (kk : ∀ r : Ko (leave s to),JL Tryz.prog n w0 S ops Q l ((d,N r.code)::E) (ff b r.q r.s++M)) : JL Tryz.prog n w0 S ops Q (⟨some d,.call ⟨.value (.func 66),#[x1,x2],ats⟩,ty,pos,aft,none⟩::l) E (ff b q s++M):=
  JL.mj (ι:=Ko (leave s to)) (xs:=[x1,x2]) (vs:=[Pt b 0,N to]) (fun r=>N r.code) (fun r=>ff b r.q r.s) FB (by simp [m7,e1,e2]) hd (eg _ _ _) (fun _=>eg _ _ _)
    (fun w' hw' hx'=>Hj b q s hs hq hk to hto ht w' (hT.own hw' (eg _ _ _)) hx') kk
theorem CO : aL Tryz.prog 65:=⟨_,Tryz.func65,rfl,by kernel_rfl⟩
set_option maxHeartbeats 32000000 in
theorem FC (b : Nat) (q0 : Acc) (s0 : bA) (hs0 : s0.ok) (hq0 : q0=none→s0.kept=[]) (hk0 : s0.kept.length≤2000) (h : Hd) (hh : h.chain.length=32) (hpv : h.prev≤2147483647) (fresh : Bk) (hf : fresh.length=32) (ht0 : s0.taken≤2147483648) (w : World) (hT : Tb (keys (ff b q0 s0)) w) (h0 : ah w (keys (ff b q0 s0)) (ff b q0 s0) w) :
    Calls Tryz.prog 65 [Pt b 0,.agg (hdc h).toArray,.agg (fresh.map U8).toArray].toArray w fun e w'=>∃ r : Ko (m6 s0 h fresh),e=.returned (N r.code)∧ah w (keys (ff b q0 s0)) (ff b r.q r.s) w':=by
  generalize keys (ff b q0 s0)=S at h0 hT ⊢
  have hlc : (h.chain.map U8).length=32:=by rw [List.length_map];exact hh
  have hlf : (fresh.map U8).length=32:=by rw [List.length_map];exact hf
  have hl34:=j9 hh
  refine enter (n:=93) Tryz.func65 rfl rfl rfl h0 ?_
  repeat (first | refine JC.seq ?_ | refine JC.region ?_)
  refine JL.box (r:=hdc h) rfl rfl rfl fun b4 _=>?_
  refine JL.box (r:=fresh.map U8) rfl rfl rfl fun b5 _=>?_
  repeat (refine JL.q (by (apply OQ.assign;rfl)) rfl ?_)
  refine JL.nil (JE.next ?_)
  refine JC.mid (ι:=M9 (m6 s0 h fresh) h.chain fresh) (fun _=>[(0,Pt b 0),(4,Pt b4 0),(5,Pt b5 0),(6,N 0)]) (fun z=>⟨b5,Row 23 (fresh.map U8),true⟩::⟨b4,Row 32 (hdc h),true⟩::ff b z.q z.s) (fun _=>True) ?_ ?_
  · unfold ff
    cases htk : s0.takes
    · have hld : ∀ o,Row 26 (sec s0 (aC q0 s0.kept.length)) o→cellAt o 97=some (.bool false):=by rw [← htk];exact Row.cell (gN hs0 _)
      repeat (first | refine JL.q (by first|(apply OQ.load;exact gv;rfl;exact (.there (.there .here));exact hld)|(apply OQ.move;rfl)|(apply OQ.cU;rfl)|(apply OQ.bM;rfl;rfl;rfl;exact (by decide);rfl)) rfl ?_ | refine JC.seq ?_ | refine JC.region ?_ | refine JL.nil ?_ | refine JE.next ?_)
      refine JC.cond_false rfl rfl ?_
      repeat (refine JC.skip ?_)
      exact JE.mid ⟨q0,s0,hs0,hq0,by rw [m6,if_neg (by rw [htk];decide)]⟩ trivial (by repeat (first | exact ai.nil | refine ai.cons _ _ _ rfl ?_)) (an.refl _)
    · have hld : ∀ o,Row 26 (sec s0 (aC q0 s0.kept.length)) o→cellAt o 97=some (.bool true):=by rw [← htk];exact Row.cell (gN hs0 _)
      have hpr : ∀ o,Row 32 (hdc h) o→cellAt o 32=some (N h.prev):=Row.cell (lJ hh)
      repeat (first | refine JL.q (by first|(apply OQ.load;exact gv;rfl;exact (.there (.there .here));exact hld)|(apply OQ.move;rfl)|(apply OQ.cU;rfl)|(apply OQ.bM;rfl;rfl;rfl;exact (by decide);rfl)) rfl ?_ | refine JC.seq ?_ | refine JC.region ?_ | refine JL.nil ?_ | refine JE.next ?_)
      refine JC.cond_true rfl rfl ?_
      repeat (first | refine JL.q (by first|(apply OQ.load;exact bB;rfl;exact (.there .here);exact hpr)|(apply OQ.move;rfl)|(apply OQ.bM;rfl;rfl;rfl;exact (by decide);rfl)) rfl ?_ | refine JC.seq ?_ | refine JC.region ?_)
      refine JL.dG (M':=ff b q0 s0++[⟨b5,Row 23 (fresh.map U8),true⟩,⟨b4,Row 32 (hdc h),true⟩]) (by exact List.perm_append_comm (l₁:=[_,_])) ?_
      refine JL.NF hs0 hq0 hk0 hpv ht0 hT rfl rfl rfl fun r=>?_
      obtain ⟨q,s,cd,hs,hq,his⟩:=r
      dsimp only
      rcases his with ⟨hn,rfl⟩ | ⟨hn,rfl⟩
      · repeat (first | refine JL.q (by first|(apply OQ.ta (a:=12) (b:=0) (c:=false);rfl;rfl;rfl)|(apply OQ.move;rfl)|(apply OQ.assign;rfl)) rfl ?_ | refine JC.seq ?_ | refine JC.region ?_ | refine JL.nil ?_ | refine JE.next ?_)
        refine JC.cond_true rfl rfl ?_
        repeat (first | refine JL.q (by first|(apply OQ.move;rfl)|(apply OQ.assign;rfl)) rfl ?_ | refine JC.seq ?_ | refine JC.region ?_ | refine JL.nil ?_ | refine JE.next ?_)
        refine JC.ret ?_
        repeat (refine JE.aK ?_)
        exact JE.aR rfl (RV.tmp rfl) fun w' hw=>⟨⟨q,s,12,hs,hq,.inl ⟨by rw [m6,if_pos htk,hn];rfl,rfl⟩⟩,rfl,hw.weak (dN _ _)⟩
      · repeat (first | refine JL.q (by first|(apply OQ.ta (a:=0) (b:=0) (c:=true);rfl;rfl;rfl)|(apply OQ.move;rfl)|(apply OQ.assign;rfl)) rfl ?_ | refine JC.seq ?_ | refine JC.region ?_ | refine JL.nil ?_ | refine JE.next ?_)
        refine JC.cond_false rfl rfl ?_
        repeat (refine JC.skip ?_)
        refine JE.perm (M':=⟨b5,Row 23 (fresh.map U8),true⟩::⟨b4,Row 32 (hdc h),true⟩::ff b q s) (by exact List.perm_append_comm (l₂:=[_,_])) ?_
        exact JE.mid ⟨q,s,hs,hq,by rw [m6,if_pos htk,hn];rfl⟩ trivial (by repeat (first | exact ai.nil | refine ai.cons _ _ _ rfl ?_)) (an.refl _)
  rintro ⟨q,s,hs,hq,his⟩ _
  dsimp only
  obtain ⟨ch,hce⟩ : ∃ ch,h.chain=ch:=⟨_,rfl⟩
  have hcc:=eU hh
  rw [hce] at hcc hh his hlc
  obtain ⟨kv,hkv⟩ : ∃ kv,aC q s.kept.length=kv:=⟨_,rfl⟩
  unfold ff
  rw [hkv]
  have hlm:=v7 s.own ch
  have hla:=fG s.root (aH s.own ch)
  have hlt:=eV s.root (aH s.own ch)
  have hlm2:=v7 fresh ch
  have hla2:=fG (cr s.root (aH s.own ch)) (aH fresh ch)
  have hlt2:=eV (cr s.root (aH s.own ch)) (aH fresh ch)
  have cM:=fun (w' : World)=>mR s.own ch hs.own hh w'
  have cM2:=fun (w' : World)=>mR fresh ch hf hh w'
  have cT:=fun (w' : World) (hG : g9 w')=>wk s.root (aH s.own ch) hs.root hlm w' hG
  have cT2:=fun (w' : World) (hG : g9 w')=>wk (cr s.root (aH s.own ch)) (aH fresh ch) hla hlm2 w' hG
  have hfin : ir s ch fresh=⟨cr (cr s.root (aH s.own ch)) (aH fresh ch),fresh,ch,true,true,dO (cr s.root (aH s.own ch)) (aH fresh ch),dO s.root (aH s.own ch),0,0,s.sent,s.kept⟩:=rfl
  rw [hfin] at his
  clear hfin
  generalize dO (cr s.root (aH s.own ch)) (aH fresh ch)=c2 at *
  generalize cr (cr s.root (aH s.own ch)) (aH fresh ch)=a2 at *
  generalize dO s.root (aH s.own ch)=c1 at *
  generalize cr s.root (aH s.own ch)=a1 at *
  generalize aH s.own ch=m1 at *
  generalize aH fresh ch=m2 at *
  have l1 : (a1.map U8).length=32:=by rw [List.length_map];exact hla
  have l2 : (c1.map U8).length=32:=by rw [List.length_map];exact hlt
  have l3 : (a2.map U8).length=32:=by rw [List.length_map];exact hla2
  have l4 : (c2.map U8).length=32:=by rw [List.length_map];exact hlt2
  have l5 : (s.root.map U8).length=32:=by rw [List.length_map];exact hs.root
  have l6 : (s.own.map U8).length=32:=by rw [List.length_map];exact hs.own
  have k1 : ({ s with other:=ch } : bA).ok:=⟨hs.root,hs.own,hh,hs.send,hs.take,hs.kept⟩
  have p1:=jr hs kv ch hh
  obtain ⟨s1,hs1⟩ : ∃ s1,({ s with other:=ch } : bA)=s1:=⟨_,rfl⟩
  have g1 : s1.root=s.root∧s1.own=s.own∧s1.other=ch:=by rw [← hs1];exact ⟨rfl,rfl,rfl⟩
  rw [hs1] at k1 p1
  have k2 : ({ s1 with root:=a1 } : bA).ok:=⟨hla,k1.own,k1.other,k1.send,k1.take,k1.kept⟩
  have p2:=fC k1 kv a1 hla
  obtain ⟨s2,hs2⟩ : ∃ s2,({ s1 with root:=a1 } : bA)=s2:=⟨_,rfl⟩
  rw [hs2] at k2 p2
  have k3 : ({ s2 with take:=c1 } : bA).ok:=⟨k2.root,k2.own,k2.other,k2.send,hlt,k2.kept⟩
  have p3:=gj k2 kv c1 hlt
  obtain ⟨s3,hs3⟩ : ∃ s3,({ s2 with take:=c1 } : bA)=s3:=⟨_,rfl⟩
  rw [hs3] at k3 p3
  have k4 : ({ s3 with own:=fresh } : bA).ok:=⟨k3.root,hf,k3.other,k3.send,k3.take,k3.kept⟩
  have p4:=jg k3 kv fresh hf
  obtain ⟨s4,hs4⟩ : ∃ s4,({ s3 with own:=fresh } : bA)=s4:=⟨_,rfl⟩
  have g4 : s4.root=a1∧s4.own=fresh∧s4.other=ch:=by rw [← hs4,← hs3,← hs2];exact ⟨rfl,rfl,g1.2.2⟩
  rw [hs4] at k4 p4
  have k5 : ({ s4 with root:=a2 } : bA).ok:=⟨hla2,k4.own,k4.other,k4.send,k4.take,k4.kept⟩
  have p5:=fC k4 kv a2 hla2
  obtain ⟨s5,hs5⟩ : ∃ s5,({ s4 with root:=a2 } : bA)=s5:=⟨_,rfl⟩
  rw [hs5] at k5 p5
  have k6 : ({ s5 with send:=c2 } : bA).ok:=⟨k5.root,k5.own,k5.other,hlt2,k5.take,k5.kept⟩
  have p6:=iA k5 kv c2 hlt2
  obtain ⟨s6,hs6⟩ : ∃ s6,({ s5 with send:=c2 } : bA)=s6:=⟨_,rfl⟩
  have g6 : s6.sent=s.sent:=by rw [← hs6,← hs5,← hs4,← hs3,← hs2,← hs1]
  rw [hs6] at k6 p6
  have k7 : ({ s6 with takes:=true } : bA).ok:=⟨k6.root,k6.own,k6.other,k6.send,k6.take,k6.kept⟩
  have p7:=nh k6 kv true
  obtain ⟨s7,hs7⟩ : ∃ s7,({ s6 with takes:=true } : bA)=s7:=⟨_,rfl⟩
  rw [hs7] at k7 p7
  have k8 : ({ s7 with bZ:=true } : bA).ok:=⟨k7.root,k7.own,k7.other,k7.send,k7.take,k7.kept⟩
  have p8:=js k7 kv true
  obtain ⟨s8,hs8⟩ : ∃ s8,({ s7 with bZ:=true } : bA)=s8:=⟨_,rfl⟩
  have g8 : s8.sent=s.sent:=by rw [← hs8,← hs7];exact g6
  rw [hs8] at k8 p8
  have k9 : ({ s8 with prev:=s.sent } : bA).ok:=⟨k8.root,k8.own,k8.other,k8.send,k8.take,k8.kept⟩
  have p9:=ow k8 kv s.sent
  obtain ⟨s9,hs9⟩ : ∃ s9,({ s8 with prev:=s.sent } : bA)=s9:=⟨_,rfl⟩
  rw [hs9] at k9 p9
  have k10 : ({ s9 with sent:=0 } : bA).ok:=⟨k9.root,k9.own,k9.other,k9.send,k9.take,k9.kept⟩
  have p10:=j8 k9 kv 0
  obtain ⟨s10,hs10⟩ : ∃ s10,({ s9 with sent:=0 } : bA)=s10:=⟨_,rfl⟩
  rw [hs10] at k10 p10
  have k11 : ({ s10 with taken:=0 } : bA).ok:=⟨k10.root,k10.own,k10.other,k10.send,k10.take,k10.kept⟩
  have p11:=fN k10 kv 0
  have hend : (⟨a2,fresh,ch,true,true,c2,c1,0,0,s.sent,s.kept⟩ : bA)={ s10 with taken:=0 }:=by rw [← hs10,← hs9,← hs8,← hs7,← hs6,← hs5,← hs4,← hs3,← hs2,← hs1]
  have hkl : ({ s10 with taken:=0 } : bA).kept=s.kept:=by rw [← hend]
  have hn0:=ay hs kv
  have hn1:=ay k1 kv
  have hn2:=ay k2 kv
  have hn3:=ay k3 kv
  have hn4:=ay k4 kv
  have hn5:=ay k5 kv
  have hn6:=ay k6 kv
  have hn7:=ay k7 kv
  have hn8:=ay k8 kv
  have hn9:=ay k9 kv
  have hn10:=ay k10 kv
  have r1:=jH k1 kv
  have o1:=j7 k1 kv
  have t1:=ee k1 kv
  rw [g1.1] at r1
  rw [g1.2.1] at o1
  rw [g1.2.2] at t1
  have r4:=jH k4 kv
  have o4:=j7 k4 kv
  have t4:=ee k4 kv
  rw [g4.1] at r4
  rw [g4.2.1] at o4
  rw [g4.2.2] at t4
  have e8:=jI k8 kv
  rw [g8] at e8
  generalize hs11 : ({ s10 with taken:=0 } : bA)=s11 at *
  clear hs1 hs2 hs3 hs4 hs5 hs6 hs7 hs8 hs9 hs10 g1 g4 g6 g8
  repeat (first | refine JL.q (by first|(apply OQ.af (cs:=ch.map U8);exact aQ;exact aB;rfl;exact (.there .here);exact hlc;exact (Row.cells hcc))|(apply OQ.move;rfl)|(apply OQ.cU;rfl)|(apply OQ.bM;rfl;rfl;rfl;exact (by decide);rfl)) rfl ?_ | refine JC.seq ?_ | refine JC.region ?_)
  refine JL.aW (r:=sec s kv) (r':=sec s1 kv) aB rfl rfl hlc (aU _) (.there (.there .here)) (by rw [hn0,hlc];decide) p1 ?_
  repeat (first | refine JC.seq ?_ | refine JL.nil ?_ | refine JE.next ?_)
  let vs : Nat→Nat→Value:=fun j y=>match j with
    | 0=>Pt b 0
    | 1=>Pt b 0
    | 2=>Pt b 0
    | 3=>Pt b 0
    | 4=>Pt b 0
    | 5=>.agg (s.root.map U8).toArray
    | 6=>Pt b 0
    | 7=>Pt b 0
    | 8=>Pt b 32
    | 9=>.agg (s.own.map U8).toArray
    | 10=>Pt b 0
    | 11=>Pt b 0
    | 12=>Pt b 64
    | 13=>.agg (ch.map U8).toArray
    | 14=>.agg (m1.map U8).toArray
    | 15=>.tuple #[.agg (a1.map U8).toArray,.agg (c1.map U8).toArray]
    | 16=>.tuple #[.agg (a1.map U8).toArray,.agg (c1.map U8).toArray]
    | 17=>.agg (a1.map U8).toArray
    | 18=>.agg (c1.map U8).toArray
    | 19=>Pt b 0
    | 20=>Pt b 0
    | 22=>Pt b 0
    | 23=>Pt b 130
    | _=>N 0
  let Ms : Nat→Nat→List aG:=fun j y=>match j with
    | 21=>[⟨b,Row 26 (sec s2 kv),true⟩]
    | 24=>[⟨b,Row 26 (sec s3 kv),true⟩]
    | 25=>[⟨b5,Row 23 (fresh.map U8),true⟩]
    | 26=>[⟨b4,Row 32 (hdc h),true⟩]
    | 27=>[⟨b,Row 26 (sec s1 kv),true⟩]
    | 28=>fV q s.kept
    | _=>[]
  refine JC.grow (g:=⟨[(0,Pt b 0),(4,Pt b4 0),(5,Pt b5 0)],29,vs,Ms,(fun j=>match j with | 3=>[(2,27)] | 4=>[(3,28)] | 5=>[(4,29)] | 7=>[(6,31)] | 8=>[(7,32)] | 9=>[(8,33)] | 11=>[(10,35)] | 12=>[(11,36)] | 13=>[(12,37)] | 14=>[(9,34),(13,38)] | 15=>[(5,30),(14,39)] | 16=>[(15,40)] | 17=>[(16,24)] | 18=>[(16,24)] | 19=>[(0,25)] | 20=>[(19,43)] | 21=>[(20,44),(17,41)] | 22=>[(1,26)] | 23=>[(22,45)] | 24=>[(23,46),(18,42)] | _=>[]),(fun j=>match j with | 5=>[27] | 9=>[27] | 13=>[27] | 21=>[27] | 24=>[21] | _=>[]),(fun j=>match j with | 21=>[27] | 24=>[21] | _=>[]),(fun j=>match j with | _=>none)⟩) [] [25,26,24,28] gK (by repeat (first | exact ai.nil | refine ai.cons _ _ _ rfl ?_)) ?_ (by kernel_rfl) (by kernel_rfl) (by kernel_rfl) ?_ ?_
  · show an ([_]++([_]++([_]++(fV q s.kept++[])))) _;rw [List.append_nil];exact an.refl _
  · refine ⟨?_,?_,?_,?_,?_,?_,?_,?_,?_,?_,?_,?_,?_,?_,?_,?_,?_,?_,?_,?_,?_,?_,?_,?_,?_,trivial⟩
    · (intro xx EF MF Q kk;(try refine JL.aV rfl rfl ?_);exact JL.q (OQ.move rfl) rfl (JL.nil (kk default nofun)))
    · (intro xx EF MF Q kk;(try refine JL.aV rfl rfl ?_);exact JL.q (OQ.move rfl) rfl (JL.nil (kk default nofun)))
    · (intro xx EF MF Q kk;(try refine JL.aV rfl rfl ?_);exact JL.q (OQ.move rfl) rfl (JL.nil (kk default nofun)))
    · (intro xx EF MF Q kk;(try refine JL.aV rfl rfl ?_);exact JL.q (OQ.cU rfl) rfl (JL.nil (kk default nofun)))
    · (intro xx EF MF Q kk;(try refine JL.aV rfl rfl ?_);exact JL.q (OQ.bM rfl rfl rfl (by decide) rfl) rfl (JL.nil (kk default nofun)))
    · (intro xx EF MF Q kk;(try refine JL.aV rfl rfl ?_);exact JL.q (OQ.af (cs:=s.root.map U8) aQ aB rfl .here l5 (Row.cells r1)) rfl (JL.nil (kk default nofun)))
    · (intro xx EF MF Q kk;(try refine JL.aV rfl rfl ?_);exact JL.q (OQ.move rfl) rfl (JL.nil (kk default nofun)))
    · (intro xx EF MF Q kk;(try refine JL.aV rfl rfl ?_);exact JL.q (OQ.cU rfl) rfl (JL.nil (kk default nofun)))
    · (intro xx EF MF Q kk;(try refine JL.aV rfl rfl ?_);exact JL.q (OQ.bM rfl rfl rfl (by decide) rfl) rfl (JL.nil (kk default nofun)))
    · (intro xx EF MF Q kk;(try refine JL.aV rfl rfl ?_);exact JL.q (OQ.af (cs:=s.own.map U8) aQ aB rfl .here l6 (Row.cells o1)) rfl (JL.nil (kk default nofun)))
    · (intro xx EF MF Q kk;(try refine JL.aV rfl rfl ?_);exact JL.q (OQ.move rfl) rfl (JL.nil (kk default nofun)))
    · (intro xx EF MF Q kk;(try refine JL.aV rfl rfl ?_);exact JL.q (OQ.cU rfl) rfl (JL.nil (kk default nofun)))
    · (intro xx EF MF Q kk;(try refine JL.aV rfl rfl ?_);exact JL.q (OQ.bM rfl rfl rfl (by decide) rfl) rfl (JL.nil (kk default nofun)))
    · (intro xx EF MF Q kk;(try refine JL.aV rfl rfl ?_);exact JL.q (OQ.af (cs:=ch.map U8) aQ aB rfl .here hlc (Row.cells t1)) rfl (JL.nil (kk default nofun)))
    · (intro xx EF MF Q kk;(try refine JL.aV rfl rfl ?_);exact JL.q (OQ.au (vs:=[.agg (s.own.map U8).toArray,.agg (ch.map U8).toArray]) kK rfl fun w' _=>cM w') rfl (JL.nil (kk default nofun)))
    · (intro xx EF MF Q kk;(try refine JL.aV rfl rfl ?_);exact JL.q (OQ.au (vs:=[.agg (s.root.map U8).toArray,.agg (m1.map U8).toArray]) sM rfl fun w' hw'=>cT w' (hT.g hw')) rfl (JL.nil (kk default nofun)))
    · (intro xx EF MF Q kk;(try refine JL.aV rfl rfl ?_);exact JL.q (OQ.move rfl) rfl (JL.nil (kk default nofun)))
    · (intro xx EF MF Q kk;(try refine JL.aV rfl rfl ?_);exact JL.q (OQ.extract rfl rfl) rfl (JL.nil (kk default nofun)))
    · (intro xx EF MF Q kk;(try refine JL.aV rfl rfl ?_);exact JL.q (OQ.extract rfl rfl) rfl (JL.nil (kk default nofun)))
    · (intro xx EF MF Q kk;(try refine JL.aV rfl rfl ?_);exact JL.q (OQ.cU rfl) rfl (JL.nil (kk default nofun)))
    · (intro xx EF MF Q kk;(try refine JL.aV rfl rfl ?_);exact JL.q (OQ.bM rfl rfl rfl (by decide) rfl) rfl (JL.nil (kk default nofun)))
    · (intro xx EF MF Q kk;exact JL.aW (r:=sec s1 kv) (r':=sec s2 kv) aB rfl rfl l1 (aU _) .here (by rw [hn1,l1];decide) p2 (JL.nil (kk default nofun)))
    · (intro xx EF MF Q kk;(try refine JL.aV rfl rfl ?_);exact JL.q (OQ.cU rfl) rfl (JL.nil (kk default nofun)))
    · (intro xx EF MF Q kk;(try refine JL.aV rfl rfl ?_);exact JL.q (OQ.bM rfl rfl rfl (by decide) rfl) rfl (JL.nil (kk default nofun)))
    · (intro xx EF MF Q kk;exact JL.aW (r:=sec s2 kv) (r':=sec s3 kv) aB rfl rfl l2 (aU _) .here (by rw [hn2,l2];decide) p3 (JL.nil (kk default nofun)))
  · intro xx hx
    show JE _ _ _ _ _ [(0,Pt b 0),(4,Pt b4 0),(5,Pt b5 0)] ([⟨b5,Row 23 (fresh.map U8),true⟩]++([⟨b4,Row 32 (hdc h),true⟩]++([⟨b,Row 26 (sec s3 kv),true⟩]++(fV q s.kept++[]))))
    rw [List.append_nil]
    clear hx xx vs Ms
    repeat (first | refine JL.q (by first|(apply OQ.af (cs:=fresh.map U8);exact aQ;exact aB;rfl;exact .here;exact hlf;exact Row.all)|(apply OQ.move;rfl)|(apply OQ.cU;rfl)|(apply OQ.bM;rfl;rfl;rfl;exact (by decide);rfl)) rfl ?_ | refine JC.seq ?_ | refine JC.region ?_ | refine JE.next ?_)
    refine JL.aW (r:=sec s3 kv) (r':=sec s4 kv) aB rfl rfl hlf (aU _) (.there (.there .here)) (by rw [hn3,hlf];decide) p4 ?_
    repeat (first | refine JC.seq ?_ | refine JL.nil ?_ | refine JE.next ?_)
    let vs : Nat→Nat→Value:=fun j y=>match j with
      | 0=>Pt b 0
      | 1=>Pt b 0
      | 2=>Pt b 0
      | 3=>Pt b 0
      | 4=>Pt b 0
      | 5=>.agg (a1.map U8).toArray
      | 6=>Pt b 0
      | 7=>Pt b 0
      | 8=>Pt b 32
      | 9=>.agg (fresh.map U8).toArray
      | 10=>Pt b 0
      | 11=>Pt b 0
      | 12=>Pt b 64
      | 13=>.agg (ch.map U8).toArray
      | 14=>.agg (m2.map U8).toArray
      | 15=>.tuple #[.agg (a2.map U8).toArray,.agg (c2.map U8).toArray]
      | 16=>.tuple #[.agg (a2.map U8).toArray,.agg (c2.map U8).toArray]
      | 17=>.agg (a2.map U8).toArray
      | 18=>.agg (c2.map U8).toArray
      | 19=>Pt b 0
      | 20=>Pt b 0
      | 22=>Pt b 0
      | 23=>Pt b 98
      | _=>N 0
    let Ms : Nat→Nat→List aG:=fun j y=>match j with
      | 21=>[⟨b,Row 26 (sec s5 kv),true⟩]
      | 24=>[⟨b,Row 26 (sec s6 kv),true⟩]
      | 25=>[⟨b5,Row 23 (fresh.map U8),true⟩]
      | 26=>[⟨b4,Row 32 (hdc h),true⟩]
      | 27=>[⟨b,Row 26 (sec s4 kv),true⟩]
      | 28=>fV q s.kept
      | _=>[]
    refine JC.grow (g:=⟨[(0,Pt b 0),(4,Pt b4 0),(5,Pt b5 0)],29,vs,Ms,(fun j=>match j with | 3=>[(2,54)] | 4=>[(3,55)] | 5=>[(4,56)] | 7=>[(6,58)] | 8=>[(7,59)] | 9=>[(8,60)] | 11=>[(10,62)] | 12=>[(11,63)] | 13=>[(12,64)] | 14=>[(9,61),(13,65)] | 15=>[(5,57),(14,66)] | 16=>[(15,67)] | 17=>[(16,51)] | 18=>[(16,51)] | 19=>[(0,52)] | 20=>[(19,70)] | 21=>[(20,71),(17,68)] | 22=>[(1,53)] | 23=>[(22,72)] | 24=>[(23,73),(18,69)] | _=>[]),(fun j=>match j with | 5=>[27] | 9=>[27] | 13=>[27] | 21=>[27] | 24=>[21] | _=>[]),(fun j=>match j with | 21=>[27] | 24=>[21] | _=>[]),(fun j=>match j with | _=>none)⟩) [] [25,26,24,28] gK (by repeat (first | exact ai.nil | refine ai.cons _ _ _ rfl ?_)) ?_ (by kernel_rfl) (by kernel_rfl) (by kernel_rfl) ?_ ?_
    · show an ([_]++([_]++([_]++(fV q s.kept++[])))) _;rw [List.append_nil];exact an.refl _
    · refine ⟨?_,?_,?_,?_,?_,?_,?_,?_,?_,?_,?_,?_,?_,?_,?_,?_,?_,?_,?_,?_,?_,?_,?_,?_,?_,trivial⟩
      · (intro xx EF MF Q kk;(try refine JL.aV rfl rfl ?_);exact JL.q (OQ.move rfl) rfl (JL.nil (kk default nofun)))
      · (intro xx EF MF Q kk;(try refine JL.aV rfl rfl ?_);exact JL.q (OQ.move rfl) rfl (JL.nil (kk default nofun)))
      · (intro xx EF MF Q kk;(try refine JL.aV rfl rfl ?_);exact JL.q (OQ.move rfl) rfl (JL.nil (kk default nofun)))
      · (intro xx EF MF Q kk;(try refine JL.aV rfl rfl ?_);exact JL.q (OQ.cU rfl) rfl (JL.nil (kk default nofun)))
      · (intro xx EF MF Q kk;(try refine JL.aV rfl rfl ?_);exact JL.q (OQ.bM rfl rfl rfl (by decide) rfl) rfl (JL.nil (kk default nofun)))
      · (intro xx EF MF Q kk;(try refine JL.aV rfl rfl ?_);exact JL.q (OQ.af (cs:=a1.map U8) aQ aB rfl .here l1 (Row.cells r4)) rfl (JL.nil (kk default nofun)))
      · (intro xx EF MF Q kk;(try refine JL.aV rfl rfl ?_);exact JL.q (OQ.move rfl) rfl (JL.nil (kk default nofun)))
      · (intro xx EF MF Q kk;(try refine JL.aV rfl rfl ?_);exact JL.q (OQ.cU rfl) rfl (JL.nil (kk default nofun)))
      · (intro xx EF MF Q kk;(try refine JL.aV rfl rfl ?_);exact JL.q (OQ.bM rfl rfl rfl (by decide) rfl) rfl (JL.nil (kk default nofun)))
      · (intro xx EF MF Q kk;(try refine JL.aV rfl rfl ?_);exact JL.q (OQ.af (cs:=fresh.map U8) aQ aB rfl .here hlf (Row.cells o4)) rfl (JL.nil (kk default nofun)))
      · (intro xx EF MF Q kk;(try refine JL.aV rfl rfl ?_);exact JL.q (OQ.move rfl) rfl (JL.nil (kk default nofun)))
      · (intro xx EF MF Q kk;(try refine JL.aV rfl rfl ?_);exact JL.q (OQ.cU rfl) rfl (JL.nil (kk default nofun)))
      · (intro xx EF MF Q kk;(try refine JL.aV rfl rfl ?_);exact JL.q (OQ.bM rfl rfl rfl (by decide) rfl) rfl (JL.nil (kk default nofun)))
      · (intro xx EF MF Q kk;(try refine JL.aV rfl rfl ?_);exact JL.q (OQ.af (cs:=ch.map U8) aQ aB rfl .here hlc (Row.cells t4)) rfl (JL.nil (kk default nofun)))
      · (intro xx EF MF Q kk;(try refine JL.aV rfl rfl ?_);exact JL.q (OQ.au (vs:=[.agg (fresh.map U8).toArray,.agg (ch.map U8).toArray]) kK rfl fun w' _=>cM2 w') rfl (JL.nil (kk default nofun)))
      · (intro xx EF MF Q kk;(try refine JL.aV rfl rfl ?_);exact JL.q (OQ.au (vs:=[.agg (a1.map U8).toArray,.agg (m2.map U8).toArray]) sM rfl fun w' hw'=>cT2 w' (hT.g hw')) rfl (JL.nil (kk default nofun)))
      · (intro xx EF MF Q kk;(try refine JL.aV rfl rfl ?_);exact JL.q (OQ.move rfl) rfl (JL.nil (kk default nofun)))
      · (intro xx EF MF Q kk;(try refine JL.aV rfl rfl ?_);exact JL.q (OQ.extract rfl rfl) rfl (JL.nil (kk default nofun)))
      · (intro xx EF MF Q kk;(try refine JL.aV rfl rfl ?_);exact JL.q (OQ.extract rfl rfl) rfl (JL.nil (kk default nofun)))
      · (intro xx EF MF Q kk;(try refine JL.aV rfl rfl ?_);exact JL.q (OQ.cU rfl) rfl (JL.nil (kk default nofun)))
      · (intro xx EF MF Q kk;(try refine JL.aV rfl rfl ?_);exact JL.q (OQ.bM rfl rfl rfl (by decide) rfl) rfl (JL.nil (kk default nofun)))
      · (intro xx EF MF Q kk;exact JL.aW (r:=sec s4 kv) (r':=sec s5 kv) aB rfl rfl l3 (aU _) .here (by rw [hn4,l3];decide) p5 (JL.nil (kk default nofun)))
      · (intro xx EF MF Q kk;(try refine JL.aV rfl rfl ?_);exact JL.q (OQ.cU rfl) rfl (JL.nil (kk default nofun)))
      · (intro xx EF MF Q kk;(try refine JL.aV rfl rfl ?_);exact JL.q (OQ.bM rfl rfl rfl (by decide) rfl) rfl (JL.nil (kk default nofun)))
      · (intro xx EF MF Q kk;exact JL.aW (r:=sec s5 kv) (r':=sec s6 kv) aB rfl rfl l4 (aU _) .here (by rw [hn5,l4];decide) p6 (JL.nil (kk default nofun)))
    · intro xx hx
      show JE _ _ _ _ _ [(0,Pt b 0),(4,Pt b4 0),(5,Pt b5 0)] ([⟨b5,Row 23 (fresh.map U8),true⟩]++([⟨b4,Row 32 (hdc h),true⟩]++([⟨b,Row 26 (sec s6 kv),true⟩]++(fV q s.kept++[]))))
      rw [List.append_nil]
      clear hx xx vs Ms
      repeat (first | refine JL.q (by first|(apply OQ.move;rfl)|(apply OQ.cU;rfl)|(apply OQ.bM;rfl;rfl;rfl;exact (by decide);rfl)) rfl ?_ | refine JC.seq ?_ | refine JC.region ?_ | refine JE.next ?_)
      refine JL.az (r:=sec s6 kv) (r':=sec s7 kv) wh rfl rfl rfl rfl (.there (.there .here)) (by rw [hn6];decide) p7 ?_
      repeat (refine JL.q (by first|(apply OQ.cU;rfl)|(apply OQ.bM;rfl;rfl;rfl;exact (by decide);rfl)) rfl ?_)
      refine JL.az (r:=sec s7 kv) (r':=sec s8 kv) wh rfl rfl rfl rfl (.there (.there .here)) (by rw [hn7];decide) p8 ?_
      repeat (first | refine JL.q (by first|(apply OQ.load;exact bB;rfl;exact (.there (.there .here));exact (Row.cell e8))|(apply OQ.move;rfl)|(apply OQ.cU;rfl)|(apply OQ.bM;rfl;rfl;rfl;exact (by decide);rfl)) rfl ?_ | refine JC.seq ?_ | refine JC.region ?_ | refine JL.nil ?_ | refine JE.next ?_)
      refine JL.az (r:=sec s8 kv) (r':=sec s9 kv) nE rfl rfl rfl rfl (.there (.there .here)) (by rw [hn8];decide) p9 ?_
      repeat (refine JL.q (by first|(apply OQ.cU;rfl)|(apply OQ.bM;rfl;rfl;rfl;exact (by decide);rfl)) rfl ?_)
      refine JL.az (r:=sec s9 kv) (r':=sec s10 kv) nE rfl rfl rfl rfl (.there (.there .here)) (by rw [hn9];decide) p10 ?_
      repeat (refine JL.q (by first|(apply OQ.cU;rfl)|(apply OQ.bM;rfl;rfl;rfl;exact (by decide);rfl)) rfl ?_)
      refine JL.az (r:=sec s10 kv) (r':=sec s11 kv) nE rfl rfl rfl rfl (.there (.there .here)) (by rw [hn10];decide) p11 ?_
      repeat (first | refine JL.q (by (apply OQ.assign;rfl)) rfl ?_ | refine JC.seq ?_ | refine JC.region ?_ | refine JL.nil ?_ | refine JE.next ?_)
      refine JC.ret ?_
      skip
      refine JE.aR rfl (RV.tmp rfl) fun w' hw=>⟨⟨q,s11,0,k11,by rw [hkl];exact hq,.inr ⟨by rw [his,hend],rfl⟩⟩,rfl,?_⟩
      show ah w S (⟨b,Row 26 (sec s11 (aC q s11.kept.length)),true⟩::fV q s11.kept) w'
      rw [hkl,hkv]
      exact hw.weak (.drop _ _ _ (.drop _ _ _ (an.refl _)))
end
section
set_option maxRecDepth 10000
open Sl ij mF dW ng
open qv (Bk)
theorem Hl {q : Nat × Nat} {l : List Kp} {i : Nat} (hl : ∀ k ∈ l,k.ok) (hi : i<l.length) : ∀ o,Sl.aE 57 65 (aX l).length q.2 (aX l).flatten o→bD o (0+i * 65+33) ((l.getD i mW).key.map U8):=by
  intro o ho
  have hk : l.getD i mW ∈ l:=by
    rw [List.getD_eq_getElem?_getD,List.getElem?_eq_getElem hi]
    exact List.getElem_mem hi
  have hkk:=hl _ hk
  have h1:=Sl.aE.chunk (fM hl) (by rw [ec];exact hi) o ho
  rw [AE _ hi] at h1
  have h2:=ri (k:=33) (t:=32) h1 (by rw [iz hkk];decide)
  have h3:=Bz hkk
  rw [List.length_map,hkk.k] at h3
  rw [h3] at h2
  rw [Nat.zero_add]
  exact h2
section
variable {n : Nat} {w0 : World} {S : List Nat} {ops : Array Oper} {Q : Exit→Act→World→Prop} {l : List Oper} {E : Env} {M : List aG} {d : Nat} {ty : TypeId} {pos : String} {aft : Array Edge} {x1 x2 x3 : Operand} {ats : Array TypeId} {b : Nat} {q : Acc} {s : bA}
theorem JL.LI {h : Hd} {fresh : Bk} (hs : s.ok) (hq : q=none→s.kept=[]) (hk : s.kept.length≤2000) (hh : h.chain.length=32) (hpv : h.prev≤2147483647) (hf : fresh.length=32) (ht : s.taken≤2147483648) (hT : Tb S w0) (e1 : ev E x1=some (Pt b 0)) (e2 : ev E x2=some (.agg (hdc h).toArray)) (e3 : ev E x3=some (.agg (fresh.map U8).toArray)) (hd : Nat.blt d n=true)
    (kk : ∀ r : Ko (m6 s h fresh),JL Tryz.prog n w0 S ops Q l ((d,N r.code)::E) (ff b r.q r.s++M)) : JL Tryz.prog n w0 S ops Q (⟨some d,.call ⟨.value (.func 65),#[x1,x2,x3],ats⟩,ty,pos,aft,none⟩::l) E (ff b q s++M):=
  JL.mj (ι:=Ko (m6 s h fresh)) (xs:=[x1,x2,x3]) (vs:=[Pt b 0,.agg (hdc h).toArray,.agg (fresh.map U8).toArray]) (fun r=>N r.code) (fun r=>ff b r.q r.s) CO (by simp [m7,e1,e2,e3]) hd (eg _ _ _) (fun _=>eg _ _ _)
    (fun w' hw' hx'=>FC b q s hs hq hk h hh hpv fresh hf ht w' (hT.own hw' (eg _ _ _)) hx') kk
theorem JL.LJ (hs : s.ok) (ht : s.taken<9000000000000000000) (hT : Tb S w0) (e1 : ev E x1=some (Pt b 0)) (hd : Nat.blt d n=true)
    (kk : JL Tryz.prog n w0 S ops Q l ((d,.agg ((jX s.take).map U8).toArray)::E) (ff b q (ef s)++M)) : JL Tryz.prog n w0 S ops Q (⟨some d,.call ⟨.value (.func 67),#[x1],ats⟩,ty,pos,aft,none⟩::l) E (ff b q s++M):=
  JL.mj (ι:=Unit) (xs:=[x1]) (vs:=[Pt b 0]) (fun _=>.agg ((jX s.take).map U8).toArray) (fun _=>ff b q (ef s)) sN (by simp [m7,e1]) hd (eg _ _ _) (fun _=>eg _ _ _)
    (fun w' hw' hx'=>(uJ b q s hs ht w' (hT.own hw' (eg _ _ _)) hx').mono fun e w2 ⟨g1,g2⟩=>⟨(),g1,g2⟩) fun _=>kk
end
structure NG (o : Nat ⊕ (bA × Bk)) where
  q : Acc
  s : bA
  key : Bk
  code : Nat
  ok : s.ok
  nil : q=none→s.kept=[]
  kl : key.length=32
  is : (o=.inl code∧(code=11∨code=12))∨(o=.inr (s,key)∧code=0)
structure NZ (o : Option bA) where
  q : Acc
  s : bA
  ok : s.ok
  nil : q=none→s.kept=[]
  is : o=some s
  kl : s.kept.length≤2000
  tk : s.taken≤2147483648
theorem CP : aL Tryz.prog 42:=⟨_,Tryz.func42,rfl,by kernel_rfl⟩
theorem CQ {q : Acc} {l : List Kp} (hq : q=none→l=[]) {i : Nat} (hi : i<l.length) : ∃ r,q=some r:=by
  cases q with
  | none=>rw [hq rfl] at hi;cases hi
  | some r=>exact ⟨r,rfl⟩
set_option maxHeartbeats 64000000 in
theorem FD (b : Nat) (q0 : Acc) (s0 : bA) (hs0 : s0.ok) (hq0 : q0=none→s0.kept=[]) (hk0 : s0.kept.length≤2000) (h : Hd) (hh : h.chain.length=32) (hpv : h.prev≤2147483647) (hnm : h.num≤2147483647) (fresh : Bk) (hf : fresh.length=32) (ht0 : s0.taken≤2147483648) (w : World) (hT : Tb (keys (ff b q0 s0)) w) (h0 : ah w (keys (ff b q0 s0)) (ff b q0 s0) w) :
    Calls Tryz.prog 42 [Pt b 0,.agg (hdc h).toArray,.agg (fresh.map U8).toArray].toArray w fun e w'=>∃ r : NG (jU s0 h fresh),e=.returned (.tuple #[.agg (r.key.map U8).toArray,N r.code])∧ah w (keys (ff b q0 s0)) (ff b r.q r.s) w':=by
  generalize keys (ff b q0 s0)=S at h0 hT ⊢
  have hlc : (h.chain.map U8).length=32:=by rw [List.length_map];exact hh
  have hlf : (fresh.map U8).length=32:=by rw [List.length_map];exact hf
  have hl34:=j9 hh
  have hlz : (dU.map U8).length=32:=rfl
  have hx0 : ∀ {h0b : Nat} (w' : World) (M : List aG),ah w S (M++fV q0 s0.kept) w'→(∃ o,w'.heap[h0b]?=some o∧Row 32 (hdc h) o)→Calls Tryz.prog 62 [aC q0 s0.kept.length,.func (.func 63) #[] [Pt h0b 0].toArray].toArray w' fun e w''=>e=.returned (.int .i64 (M8 (sI h s0.kept)))∧Ext w' w'':=fun {h0b} w' M hw' hb=>by
    have:=Hi (tF q0 s0.kept) h0b h hh w' (Bv hs0.kept (hw'.weak (M':=fV q0 s0.kept++[]) (by rw [List.append_nil];exact fm M (an.refl _)))) hb (by rw [wj hq0];omega)
    rwa [Ah,wj hq0] at this
  refine enter (n:=80) Tryz.func42 rfl rfl rfl h0 ?_
  repeat (first | refine JC.seq ?_ | refine JC.region ?_)
  refine JL.box (r:=hdc h) rfl rfl rfl fun b4 _=>?_
  refine JL.box (r:=fresh.map U8) rfl rfl rfl fun b5 _=>?_
  refine JL.alloc hU rfl fun b6 _=>?_
  unfold ff
  have hkp : ∀ o,Row 26 (sec s0 (aC q0 s0.kept.length)) o→cellAt o 165=some (aC q0 s0.kept.length):=Row.cell (g7 hs0 _)
  have hx:=fun (w' : World) (hw' : ah w S (⟨b6,Row 23 ((List.replicate 32 (0 : B)).map U8),true⟩::⟨b5,Row 23 (fresh.map U8),true⟩::⟨b4,Row 32 (hdc h),true⟩::⟨b,Row 26 (sec s0 (aC q0 s0.kept.length)),true⟩::fV q0 s0.kept) w')=>hx0 (h0b:=b4) w' [_,_,_,_] hw' (hw'.get (.there (.there .here)))
  clear hx0
  cases hix : sI h s0.kept with
  | some i=>
    rw [hix] at hx
    have hmk:=yc (fresh:=fresh) hix
    have hi : i<s0.kept.length:=by
      rw [sI,List.findIdx?_eq_some_iff_getElem] at hix
      exact hix.1
    obtain ⟨r,rfl⟩:=CQ hq0 hi
    have hge : decide ((0 : Int)≤((i : Nat) : Int))=true:=decide_eq_true (by omega)
    have hmem : s0.kept.getD i mW ∈ s0.kept:=by
      rw [List.getD_eq_getElem?_getD,List.getElem?_eq_getElem hi]
      exact List.getElem_mem hi
    have hkey:=(hs0.kept _ hmem).k
    have hkc:=Hl (q:=r) hs0.kept hi
    generalize (s0.kept.getD i mW).key=ky at hkey hkc hmk
    have hlk : (ky.map U8).length=32:=by rw [List.length_map];exact hkey
    have hav : aC (some r) s0.kept.length=.slice (some ⟨r.1,0,none⟩) s0.kept.length r.2:=rfl
    repeat (first | refine JL.q (by first|(apply OQ.load;exact jc;rfl;exact (.there (.there (.there .here)));exact hkp)|(apply OQ.Nv (caps:=[Pt b4 0]);rfl)|(apply OQ.au (vs:=[aC (some r) s0.kept.length,.func (.func 63) #[] [Pt b4 0].toArray]);exact yj;rfl;exact hx)|(apply OQ.BL (a:=((i : Nat) : Int)) (b:=0);rfl;rfl;exact hge)|(apply OQ.move;rfl)|(apply OQ.assign;rfl)|(apply OQ.cU;rfl)|(apply OQ.bM;rfl;rfl;rfl;exact (by decide);rfl)) rfl ?_ | refine JC.seq ?_ | refine JC.region ?_ | refine JL.nil ?_ | refine JE.next ?_)
    refine JC.cond_true rfl rfl ?_
    repeat (first | refine JL.q (by first|(apply OQ.load;exact jc;rfl;exact (.there (.there (.there .here)));exact hkp)|(apply OQ.kU (i:=i) (len:=s0.kept.length) (cap:=r.2) (b:=r.1) (j:=0);exact Tryz.underlying24;exact tE;rfl;rfl;exact hi)|(apply OQ.af (cs:=ky.map U8);exact aQ;exact aB;rfl;exact (.there (.there (.there (.there .here))));exact hlk;exact hkc)|(apply OQ.move;rfl)|(apply OQ.cU;rfl)|(apply OQ.bM;rfl;rfl;rfl;exact (by decide);rfl)) rfl ?_ | refine JC.seq ?_ | refine JC.region ?_)
    refine JL.alloc hU rfl fun b9 _=>?_
    refine JL.ag (cs:=ky.map U8) aB rfl rfl hlk (aU _) .here (by simp) ?_
    have hdl:=fun (w' : World) (hx' : ah w' [r.1] (fV (some (r.1,r.2)) s0.kept) w')=>yh r.1 r.2 s0.kept i (i+1) (by omega) (by omega) hs0.kept (by omega) w' hx'
    have her : s0.kept.take i++s0.kept.drop (i+1)=s0.kept.eraseIdx i:=(List.eraseIdx_eq_take_drop_succ ..).symm
    rw [her] at hdl
    have hok:=qq hs0 i
    have hset:=fun v'=>fD hs0 (aC (some r) s0.kept.length) (s0.kept.eraseIdx i) v'
    have hl166:=ay hs0 (aC (some r) s0.kept.length)
    generalize s0.kept.eraseIdx i=lk at *
    repeat (first | refine JL.q (by first|(apply OQ.load;exact jc;rfl;exact (.there (.there (.there (.there .here))));exact hkp)|(apply OQ.move;rfl)|(apply OQ.cU;rfl)|(apply OQ.aY;rfl;rfl;exact (by (try simp only []);omega))|(apply OQ.bM;rfl;rfl;rfl;exact (by decide);rfl)) rfl ?_ | refine JC.seq ?_ | refine JC.region ?_ | refine JL.nil ?_ | refine JE.next ?_)
    refine JL.dG (M':=fV (some r) s0.kept++[⟨b9,Row 23 (ky.map U8),true⟩,⟨b6,Row 23 ((List.replicate 32 (0 : B)).map U8),true⟩,⟨b5,Row 23 (fresh.map U8),true⟩,⟨b4,Row 32 (hdc h),true⟩,⟨b,Row 26 (sec s0 (aC (some r) s0.kept.length)),true⟩]) (by exact List.perm_append_comm (l₁:=[_,_,_,_,_])) ?_
    refine JL.mj (ι:=Unit) (vs:=[.slice (some ⟨r.1,0,none⟩) s0.kept.length r.2,N i,N (i+1)]) (fun _=>.slice (some ⟨r.1,0,none⟩) lk.length r.2) (fun _=>fV (some (r.1,r.2)) lk) uK rfl rfl (jC _ _) (fun _=>jC _ _) (fun w' hw' hx'=>(hdl w' hx').mono fun e w2 ⟨g1,g2⟩=>⟨(),g1,g2⟩) fun _=>?_
    refine JL.dG (M':=⟨b9,Row 23 (ky.map U8),true⟩::⟨b6,Row 23 ((List.replicate 32 (0 : B)).map U8),true⟩::⟨b5,Row 23 (fresh.map U8),true⟩::⟨b4,Row 32 (hdc h),true⟩::⟨b,Row 26 (sec s0 (aC (some r) s0.kept.length)),true⟩::fV (some (r.1,r.2)) lk) (by exact List.perm_append_comm (l₂:=[_,_,_,_,_])) ?_
    repeat (refine JL.q (by first|(apply OQ.cU;rfl)|(apply OQ.bM;rfl;rfl;rfl;exact (by decide);rfl)) rfl ?_)
    refine JL.az (r:=sec s0 (aC (some r) s0.kept.length)) (r':=sec { s0 with kept:=lk } (aC (some (r.1,r.2)) lk.length)) (v:=aC (some (r.1,r.2)) lk.length) CK rfl rfl (gw _ _) (kN _ _) (.there (.there (.there (.there .here)))) (by rw [hl166];decide) (hset _) ?_
    repeat (first | refine JL.q (by (apply OQ.af (cs:=ky.map U8);exact aQ;exact aB;rfl;exact .here;exact hlk;exact Row.all)) rfl ?_ | refine JC.seq ?_ | refine JC.region ?_ | refine JL.nil ?_ | refine JE.next ?_)
    refine JL.ag (cs:=ky.map U8) aB rfl rfl hlk (aU _) (.there .here) (by simp) ?_
    repeat (first | refine JL.q (by (apply OQ.assign;rfl)) rfl ?_ | refine JL.nil ?_ | refine JE.next ?_)
    refine JC.ret ?_
    repeat (refine JE.aK ?_)
    exact JE.gI rfl (RV.av aQ aB rfl (.there .here) hlk Row.all) (RV.tmp rfl) fun w' hw=>⟨⟨some r,{ s0 with kept:=lk },ky,0,hok,nofun,hkey,.inr ⟨hmk,rfl⟩⟩,rfl,hw.weak (.drop _ _ _ (.drop _ _ _ (.drop _ _ _ (.drop _ _ _ (an.refl _)))))⟩
  | none=>
    rw [hix] at hx
    have hge : decide ((0 : Int)≤(-1 : Int))=false:=rfl
    repeat (first | refine JL.q (by first|(apply OQ.load;exact jc;rfl;exact (.there (.there (.there .here)));exact hkp)|(apply OQ.Nv (caps:=[Pt b4 0]);rfl)|(apply OQ.au (vs:=[aC q0 s0.kept.length,.func (.func 63) #[] [Pt b4 0].toArray]);exact yj;rfl;exact hx)|(apply OQ.BL (a:=-1) (b:=0);rfl;rfl;exact hge)|(apply OQ.move;rfl)|(apply OQ.assign;rfl)|(apply OQ.cU;rfl)|(apply OQ.bM;rfl;rfl;rfl;exact (by decide);rfl)) rfl ?_ | refine JC.seq ?_ | refine JC.region ?_ | refine JL.nil ?_ | refine JE.next ?_)
    refine JC.cond_false rfl rfl ?_
    refine JC.skip (JE.next ?_)
    clear hx hkp
    refine JC.mid (ι:=NZ (jB s0 h fresh)) (fun _=>[(0,Pt b 0),(4,Pt b4 0),(5,Pt b5 0),(6,Pt b6 0)]) (fun z=>⟨b6,Row 23 ((List.replicate 32 (0 : B)).map U8),true⟩::⟨b5,Row 23 (fresh.map U8),true⟩::⟨b4,Row 32 (hdc h),true⟩::ff b z.q z.s) (fun _=>True) ?_ ?_
    · have hoc:=ee hs0 (aC q0 s0.kept.length)
      have hlo : (s0.other.map U8).length=32:=by rw [List.length_map];exact hs0.other
      have hcn:=eU hh
      by_cases he : h.chain=s0.other
      · cases htk : s0.takes
        case' false=>have hon : jB s0 h fresh=m6 s0 h fresh:=by rw [jB,if_neg (by rw [htk];intro x;cases x.2)]
        case' true=>have hon : jB s0 h fresh=some s0:=by rw [jB,if_pos ⟨he,htk⟩]
        case' true=>have hld : ∀ o,Row 26 (sec s0 (aC q0 s0.kept.length)) o→cellAt o 97=some (.bool true):=by rw [← htk];exact Row.cell (gN hs0 _)
        case' false=>have hld : ∀ o,Row 26 (sec s0 (aC q0 s0.kept.length)) o→cellAt o 97=some (.bool false):=by rw [← htk];exact Row.cell (gN hs0 _)
        all_goals
          refine JC.seq ?_
          refine JC.quiet gK (by kernel_rfl) ?_
          repeat (first | refine JQ.q (by first|(apply OQ.af (cs:=h.chain.map U8);exact aQ;exact aB;rfl;exact (.there (.there .here));exact hlc;exact (Row.cells hcn))|(apply OQ.af (cs:=s0.other.map U8);exact aQ;exact aB;rfl;exact (.there (.there (.there .here)));exact hlo;exact (Row.cells hoc))|(apply OQ.tQ (r:=h.chain) (q:=s0.other);exact Tryz.underlying23;exact Tryz.underlying5;exact j6;exact mo;rfl;rfl;exact hh;exact hs0.other;exact he)|(apply OQ.load;exact gv;rfl;exact (.there (.there (.there .here)));exact hld)|(apply OQ.not;rfl)|(apply OQ.fl;rfl;rfl)|(apply OQ.move;rfl)|(apply OQ.cU;rfl)|(apply OQ.bM;rfl;rfl;rfl;exact (by decide);rfl)) rfl ?_ | refine JQ.nil ?_ | refine JE.next ?_ | refine JQ.aV rfl rfl ?_)
        · refine JC.cond_true rfl rfl ?_
          repeat (first | refine JL.q (by first|(apply OQ.af (cs:=hdc h);exact CI;exact qt;rfl;exact (.there (.there .here));exact hl34;exact Row.all)|(apply OQ.af (cs:=fresh.map U8);exact aQ;exact aB;rfl;exact (.there .here);exact hlf;exact Row.all)|(apply OQ.move;rfl)) rfl ?_ | refine JC.seq ?_ | refine JC.region ?_)
          refine JL.dG (M':=ff b q0 s0++[⟨b6,Row 23 ((List.replicate 32 (0 : B)).map U8),true⟩,⟨b5,Row 23 (fresh.map U8),true⟩,⟨b4,Row 32 (hdc h),true⟩]) (by exact List.perm_append_comm (l₁:=[_,_,_])) ?_
          refine JL.LI hs0 hq0 hk0 hh hpv hf ht0 hT rfl rfl rfl rfl fun r=>?_
          obtain ⟨q2,s2,cd,hs2,hq2,his⟩:=r
          dsimp only
          refine JL.dG (M':=[⟨b6,Row 23 ((List.replicate 32 (0 : B)).map U8),true⟩,⟨b5,Row 23 (fresh.map U8),true⟩,⟨b4,Row 32 (hdc h),true⟩]++ff b q2 s2) (by exact List.perm_append_comm) ?_
          rcases his with ⟨hn,rfl⟩ | ⟨hn,rfl⟩
          · repeat (first | refine JL.q (by first|(apply OQ.ta (a:=12) (b:=0) (c:=false);rfl;rfl;rfl)|(apply OQ.move;rfl)|(apply OQ.assign;rfl)) rfl ?_ | refine JC.seq ?_ | refine JC.region ?_ | refine JL.nil ?_ | refine JE.next ?_)
            refine JC.cond_true rfl rfl ?_
            repeat (first | refine JC.seq ?_ | refine JC.region ?_)
            refine JL.q (OQ.pure (v:=.agg (dU.map U8).toArray) rfl rfl (by kernel_rfl)) rfl ?_
            repeat (refine JL.q (by (apply OQ.move;rfl)) rfl ?_)
            refine JL.ag (cs:=dU.map U8) aB rfl rfl hlz (aU _) .here (by simp) ?_
            repeat (first | refine JL.q (by (apply OQ.assign;rfl)) rfl ?_ | refine JL.nil ?_ | refine JE.next ?_)
            refine JC.ret ?_
            repeat (refine JE.aK ?_)
            exact JE.gI rfl (RV.av aQ aB rfl .here hlz Row.all) (RV.tmp rfl) fun w' hw=>⟨⟨q2,s2,dU,12,hs2,hq2,rfl,.inl ⟨sK hix (hon.trans hn),.inr rfl⟩⟩,rfl,hw.weak (.drop _ _ _ (.drop _ _ _ (.drop _ _ _ (an.refl _))))⟩
          · have hnk:=we hs0 hh hf hk0 hn
            repeat (first | refine JL.q (by first|(apply OQ.ta (a:=0) (b:=0) (c:=true);rfl;rfl;rfl)|(apply OQ.move;rfl)|(apply OQ.assign;rfl)) rfl ?_ | refine JC.seq ?_ | refine JC.region ?_ | refine JL.nil ?_ | refine JE.next ?_)
            refine JC.cond_false rfl rfl ?_
            repeat (refine JC.skip ?_)
            exact JE.mid ⟨q2,s2,hs2,hq2,hon.trans hn,hnk.2.1,by rw [hnk.2.2];exact Nat.zero_le _⟩ trivial (by repeat (first | exact ai.nil | refine ai.cons _ _ _ rfl ?_)) (an.refl _)
        · refine JC.cond_false rfl rfl ?_
          repeat (refine JC.skip ?_)
          exact JE.mid ⟨q0,s0,hs0,hq0,hon,hk0,ht0⟩ trivial (by repeat (first | exact ai.nil | refine ai.cons _ _ _ rfl ?_)) (an.refl _)
      · have hon : jB s0 h fresh=m6 s0 h fresh:=by rw [jB,if_neg (fun x=>he x.1)]
        refine JC.seq ?_
        refine JC.quiet gK (by kernel_rfl) ?_
        repeat (first | refine JQ.q (by first|(apply OQ.af (cs:=h.chain.map U8);exact aQ;exact aB;rfl;exact (.there (.there .here));exact hlc;exact (Row.cells hcn))|(apply OQ.af (cs:=s0.other.map U8);exact aQ;exact aB;rfl;exact (.there (.there (.there .here)));exact hlo;exact (Row.cells hoc))|(apply OQ.KC (r:=h.chain) (q:=s0.other);exact Tryz.underlying23;exact Tryz.underlying5;exact j6;exact mo;rfl;rfl;exact hh;exact hs0.other;exact he)|(apply OQ.fJ;rfl;rfl)|(apply OQ.move;rfl)|(apply OQ.cU;rfl)|(apply OQ.bM;rfl;rfl;rfl;exact (by decide);rfl)) rfl ?_ | refine JQ.nil ?_ | refine JE.next ?_ | refine JQ.lu rfl rfl rfl rfl ?_)
        refine JC.cond_true rfl rfl ?_
        repeat (first | refine JL.q (by first|(apply OQ.af (cs:=hdc h);exact CI;exact qt;rfl;exact (.there (.there .here));exact hl34;exact Row.all)|(apply OQ.af (cs:=fresh.map U8);exact aQ;exact aB;rfl;exact (.there .here);exact hlf;exact Row.all)|(apply OQ.move;rfl)) rfl ?_ | refine JC.seq ?_ | refine JC.region ?_)
        refine JL.dG (M':=ff b q0 s0++[⟨b6,Row 23 ((List.replicate 32 (0 : B)).map U8),true⟩,⟨b5,Row 23 (fresh.map U8),true⟩,⟨b4,Row 32 (hdc h),true⟩]) (by exact List.perm_append_comm (l₁:=[_,_,_])) ?_
        refine JL.LI hs0 hq0 hk0 hh hpv hf ht0 hT rfl rfl rfl rfl fun r=>?_
        obtain ⟨q2,s2,cd,hs2,hq2,his⟩:=r
        dsimp only
        refine JL.dG (M':=[⟨b6,Row 23 ((List.replicate 32 (0 : B)).map U8),true⟩,⟨b5,Row 23 (fresh.map U8),true⟩,⟨b4,Row 32 (hdc h),true⟩]++ff b q2 s2) (by exact List.perm_append_comm) ?_
        rcases his with ⟨hn,rfl⟩ | ⟨hn,rfl⟩
        · repeat (first | refine JL.q (by first|(apply OQ.ta (a:=12) (b:=0) (c:=false);rfl;rfl;rfl)|(apply OQ.move;rfl)|(apply OQ.assign;rfl)) rfl ?_ | refine JC.seq ?_ | refine JC.region ?_ | refine JL.nil ?_ | refine JE.next ?_)
          refine JC.cond_true rfl rfl ?_
          repeat (first | refine JC.seq ?_ | refine JC.region ?_)
          refine JL.q (OQ.pure (v:=.agg (dU.map U8).toArray) rfl rfl (by kernel_rfl)) rfl ?_
          repeat (refine JL.q (by (apply OQ.move;rfl)) rfl ?_)
          refine JL.ag (cs:=dU.map U8) aB rfl rfl hlz (aU _) .here (by simp) ?_
          repeat (first | refine JL.q (by (apply OQ.assign;rfl)) rfl ?_ | refine JL.nil ?_ | refine JE.next ?_)
          refine JC.ret ?_
          repeat (refine JE.aK ?_)
          exact JE.gI rfl (RV.av aQ aB rfl .here hlz Row.all) (RV.tmp rfl) fun w' hw=>⟨⟨q2,s2,dU,12,hs2,hq2,rfl,.inl ⟨sK hix (hon.trans hn),.inr rfl⟩⟩,rfl,hw.weak (.drop _ _ _ (.drop _ _ _ (.drop _ _ _ (an.refl _))))⟩
        · have hnk:=we hs0 hh hf hk0 hn
          repeat (first | refine JL.q (by first|(apply OQ.ta (a:=0) (b:=0) (c:=true);rfl;rfl;rfl)|(apply OQ.move;rfl)|(apply OQ.assign;rfl)) rfl ?_ | refine JC.seq ?_ | refine JC.region ?_ | refine JL.nil ?_ | refine JE.next ?_)
          refine JC.cond_false rfl rfl ?_
          repeat (refine JC.skip ?_)
          exact JE.mid ⟨q2,s2,hs2,hq2,hon.trans hn,hnk.2.1,by rw [hnk.2.2];exact Nat.zero_le _⟩ trivial (by repeat (first | exact ai.nil | refine ai.cons _ _ _ rfl ?_)) (an.refl _)
    rintro ⟨q,s,hs,hq,hon,hk,htk⟩ _
    dsimp only
    have hnum : ∀ o,Row 32 (hdc h) o→cellAt o 33=some (N h.num):=Row.cell (ke hh)
    have htkn : ∀ o,Row 26 (sec s (aC q s.kept.length)) o→cellAt o 163=some (N s.taken):=Row.cell (dL hs _)
    unfold ff
    refine JC.seq ?_
    try refine JC.seq ?_
    refine JC.quiet gK (by kernel_rfl) ?_
    by_cases hold : h.num<s.taken
    · repeat (first | refine JQ.q (by first|(apply OQ.load;exact bB;rfl;exact (.there (.there .here));exact hnum)|(apply OQ.load;exact bB;rfl;exact (.there (.there (.there .here)));exact htkn)|(apply OQ.ig (a:=h.num) (b:=s.taken);rfl;rfl;exact hold)|(apply OQ.move;rfl)|(apply OQ.cU;rfl)|(apply OQ.bM;rfl;rfl;rfl;exact (by decide);rfl)) rfl ?_ | refine JQ.nil ?_ | refine JE.next ?_)
      refine JC.cond_true rfl rfl ?_
      repeat (first | refine JC.seq ?_ | refine JC.region ?_)
      refine JL.q (OQ.pure (v:=.agg (dU.map U8).toArray) rfl rfl (by kernel_rfl)) rfl ?_
      refine JL.ag (cs:=dU.map U8) aB rfl rfl hlz (aU _) .here (by simp) ?_
      repeat (first | refine JL.q (by (apply OQ.assign;rfl)) rfl ?_ | refine JL.nil ?_ | refine JE.next ?_)
      refine JC.ret ?_
      repeat (refine JE.aK ?_)
      exact JE.gI rfl (RV.av aQ aB rfl .here hlz Row.all) (RV.tmp rfl) fun w' hw=>⟨⟨q,s,dU,11,hs,hq,rfl,.inl ⟨Bp hix hon hold,.inl rfl⟩⟩,rfl,hw.weak (.drop _ _ _ (.drop _ _ _ (.drop _ _ _ (an.refl _))))⟩
    · repeat (first | refine JQ.q (by first|(apply OQ.load;exact bB;rfl;exact (.there (.there .here));exact hnum)|(apply OQ.load;exact bB;rfl;exact (.there (.there (.there .here)));exact htkn)|(apply OQ.gM (a:=h.num) (b:=s.taken);rfl;rfl;exact hold)|(apply OQ.move;rfl)|(apply OQ.cU;rfl)|(apply OQ.bM;rfl;rfl;rfl;exact (by decide);rfl)) rfl ?_ | refine JQ.nil ?_ | refine JE.next ?_)
      refine JC.cond_false rfl rfl ?_
      repeat (first | refine JL.q (by first|(apply OQ.load;exact bB;rfl;exact (.there (.there .here));exact hnum)|(apply OQ.move;rfl)|(apply OQ.bM;rfl;rfl;rfl;exact (by decide);rfl)) rfl ?_ | refine JC.seq ?_ | refine JC.region ?_ | refine JC.skip ?_ | refine JE.next ?_)
      refine JL.dG (M':=ff b q s++[⟨b6,Row 23 ((List.replicate 32 (0 : B)).map U8),true⟩,⟨b5,Row 23 (fresh.map U8),true⟩,⟨b4,Row 32 (hdc h),true⟩]) (by exact List.perm_append_comm (l₁:=[_,_,_])) ?_
      refine JL.NF hs hq hk hnm htk hT rfl rfl rfl fun r=>?_
      obtain ⟨q2,s2,cd,hs2,hq2,his⟩:=r
      dsimp only
      refine JL.dG (M':=[⟨b6,Row 23 ((List.replicate 32 (0 : B)).map U8),true⟩,⟨b5,Row 23 (fresh.map U8),true⟩,⟨b4,Row 32 (hdc h),true⟩]++ff b q2 s2) (by exact List.perm_append_comm) ?_
      rcases his with ⟨hn,rfl⟩ | ⟨hn,rfl⟩
      · repeat (first | refine JL.q (by first|(apply OQ.ta (a:=12) (b:=0) (c:=false);rfl;rfl;rfl)|(apply OQ.move;rfl)|(apply OQ.assign;rfl)) rfl ?_ | refine JC.seq ?_ | refine JC.region ?_ | refine JL.nil ?_ | refine JE.next ?_)
        refine JC.cond_true rfl rfl ?_
        repeat (first | refine JC.seq ?_ | refine JC.region ?_)
        refine JL.q (OQ.pure (v:=.agg (dU.map U8).toArray) rfl rfl (by kernel_rfl)) rfl ?_
        repeat (refine JL.q (by (apply OQ.move;rfl)) rfl ?_)
        refine JL.ag (cs:=dU.map U8) aB rfl rfl hlz (aU _) .here (by simp) ?_
        repeat (first | refine JL.q (by (apply OQ.assign;rfl)) rfl ?_ | refine JL.nil ?_ | refine JE.next ?_)
        refine JC.ret ?_
        repeat (refine JE.aK ?_)
        exact JE.gI rfl (RV.av aQ aB rfl .here hlz Row.all) (RV.tmp rfl) fun w' hw=>⟨⟨q2,s2,dU,12,hs2,hq2,rfl,.inl ⟨Bq hix hon hold hn,.inr rfl⟩⟩,rfl,hw.weak (.drop _ _ _ (.drop _ _ _ (.drop _ _ _ (an.refl _))))⟩
      · have htk2 : s2.taken=max s.taken h.num:=(me hs hn).2.2
        repeat (first | refine JL.q (by first|(apply OQ.ta (a:=0) (b:=0) (c:=true);rfl;rfl;rfl)|(apply OQ.move;rfl)|(apply OQ.assign;rfl)) rfl ?_ | refine JC.seq ?_ | refine JC.region ?_ | refine JL.nil ?_ | refine JE.next ?_)
        refine JC.cond_false rfl rfl ?_
        repeat (first | refine JL.q (by (apply OQ.move;rfl)) rfl ?_ | refine JC.seq ?_ | refine JC.region ?_ | refine JC.skip ?_ | refine JE.next ?_)
        refine JL.dG (M':=ff b q2 s2++[⟨b6,Row 23 ((List.replicate 32 (0 : B)).map U8),true⟩,⟨b5,Row 23 (fresh.map U8),true⟩,⟨b4,Row 32 (hdc h),true⟩]) (by exact List.perm_append_comm (l₁:=[_,_,_])) ?_
        refine JL.LJ hs2 (by omega) hT rfl rfl ?_
        refine JL.dG (M':=[⟨b6,Row 23 ((List.replicate 32 (0 : B)).map U8),true⟩,⟨b5,Row 23 (fresh.map U8),true⟩,⟨b4,Row 32 (hdc h),true⟩]++ff b q2 (ef s2)) (by exact List.perm_append_comm) ?_
        have hlm : ((jX s2.take).map U8).length=32:=rfl
        refine JL.ag (cs:=(jX s2.take).map U8) aB rfl rfl hlm (aU _) .here (by simp) ?_
        repeat (first | refine JL.q (by (apply OQ.assign;rfl)) rfl ?_ | refine JL.nil ?_ | refine JE.next ?_)
        refine JC.ret ?_
        skip
        exact JE.gI rfl (RV.av aQ aB rfl .here hlm Row.all) (RV.tmp rfl) fun w' hw=>⟨⟨q2,ef s2,jX s2.take,0,oU hs2,hq2,rfl,.inr ⟨wg hix hon hold hn,rfl⟩⟩,rfl,hw.weak (.drop _ _ _ (.drop _ _ _ (.drop _ _ _ (an.refl _))))⟩
end
section
set_option maxRecDepth 10000
open Sl
theorem OQ.isNil {P : Program} {n : Nat} {E : Env} {C : World→Prop} {dst : Option Tmp} {t t' ty e : TypeId} {pos : String} {aft : Array Edge} {g : Option (Nat × Bool)} {x y : Operand} {ad : Option Addr} {k cap : Nat} (hu : P.underlying t=some (.slice e)) (hx : ev E x=some (.slice ad k cap)) (hy : ev E y=some (.slice none 0 0)) :
    OQ P n E C ⟨dst,.binOp .eql t x y t',ty,pos,aft,g⟩ (.bool ad.isNone):=
  OQ.run fun c ha w _=>by
    have h1:=ha.eval hx
    have h2:=ha.eval hy
    have h4 : (binOp .eql t (.slice ad k cap) (.slice none 0 0)).run P w=.ok (.bool ad.isNone) w:=by
      show (do pure (.bool (← Op.equal t (.slice ad k cap) (.slice none 0 0))) : Sem Value).run P w=_
      simp [Sem.run_bind,run_equal_slice_nil w t e ad k cap hu]
    simp [execOp,h1,h2,eqGuard,h4]
theorem Aj : aL Tryz.prog 23:=⟨_,Tryz.func23,rfl,by kernel_rfl⟩
set_option maxHeartbeats 4000000 in
theorem CR (s : aJ) (w : World) (hs : s.ok w) (hl : s.l.length≤4294967296) : Calls Tryz.prog 23 [s.v].toArray w fun e w'=>∃ q : Acc,e=.returned (aC q s.l.length)∧(q=none→s.l=[])∧ah w [] (bS 5 q (s.l.map U8)) w':=by
  refine enter (n:=8) Tryz.func23 rfl rfl rfl (ah.start w []) ?_
  obtain ⟨ad,cap,l⟩:=s
  cases ad with
  | none=>
    have h0 : l=[]:=by
      cases l with
      | nil=>rfl
      | cons c l=>
        obtain ⟨b,j,h1,_⟩:=hs.reads.at (by simp)
        cases h1
    repeat (first | refine JL.q (by first|(apply OQ.isNil;exact Tryz.underlying27;rfl;rfl)|(apply OQ.move;rfl)|(apply OQ.assign;rfl)) rfl ?_ | refine JC.seq ?_ | refine JC.region ?_ | refine JL.nil ?_ | refine JE.next ?_)
    refine JC.cond_true rfl rfl ?_
    repeat (first | refine JL.q (by (apply OQ.assign;rfl)) rfl ?_ | refine JC.seq ?_ | refine JC.region ?_ | refine JL.nil ?_ | refine JE.next ?_)
    refine JC.ret ?_
    repeat (refine JE.aK ?_)
    exact JE.aR rfl (RV.tmp rfl) fun w' hw=>⟨none,rfl,fun _=>h0,hw⟩
  | some ad=>
    repeat (first | refine JL.q (by first|(apply OQ.isNil;exact Tryz.underlying27;rfl;rfl)|(apply OQ.move;rfl)|(apply OQ.assign;rfl)) rfl ?_ | refine JC.seq ?_ | refine JC.region ?_ | refine JL.nil ?_ | refine JE.next ?_)
    refine JC.cond_false rfl rfl ?_
    repeat (first | refine JC.seq ?_ | refine JC.region ?_ | refine JC.skip ?_ | refine JE.next ?_)
    refine JL.Aw Tryz.underlying27 tW rfl fun b0 _=>?_
    repeat (refine JL.q (by (apply OQ.move;rfl)) rfl ?_)
    refine JL.append (cs:=l.map U8) (m:=l.length) (ad:=some ad) (sc:=cap) (xs:=[]) (fun b' cap'=>[⟨b',Sl.aE 5 1 (0+l.length) cap' ([]++l.map U8),true⟩]) Tryz.underlying27 tW rfl rfl (by intro _ _;repeat (first | exact aZ.here | apply aZ.there)) (by simp) (fun w' hw'=>(hs.holds hw' rfl).reads) (KI _) rfl (by decide) (by simp only [] at hl;omega) (by simp only [] at hl;omega) rfl fun b1 cap1=>?_
    rw [Nat.zero_add,List.nil_append]
    repeat (first | refine JL.q (by (apply OQ.assign;rfl)) rfl ?_ | refine JL.nil ?_ | refine JE.next ?_)
    refine JC.ret (JE.aR rfl (RV.tmp rfl) fun w' hw=>⟨some (b1,cap1),rfl,(fun h=>by cases h),?_⟩)
    show ah w [] [⟨b1,Sl.aE 5 1 (l.map U8).length cap1 (l.map U8),true⟩] w'
    rw [List.length_map]
    exact hw
end
section
set_option maxRecDepth 10000
open Sl ij mF dW ng
open qv (Bk)
def CS (s : aJ) (S : List Nat) : Prop:=s.l≠[]→∀ a,s.ad=some a→a.block ∉ S
theorem aJ.ok.off {w0 w : World} {S : List Nat} {M : List aG} {s : aJ} (h : s.ok w0) (hw : ah w0 S M w) (ha : CS s S) : s.ok w:=
  ⟨h.len,hw.reads h.reads fun h0 a e=>ha (fun h1=>h0 (by rw [h1];rfl)) a e⟩
theorem BC {w0 w : World} {S : List Nat} {X M : List aG} {s : aJ} (hw : ah w0 S (X++M) w) (hX : ∀ e ∈ X,e.wr=true) (hs : s.ok w0) (ho : CS s S) : CS s (keys X):=by
  intro h0 a ha hm
  obtain ⟨e,he,hb⟩:=List.mem_map.1 hm
  have h1:=hs.lt h0 a ha
  rcases (hw.all e (List.mem_append_left _ he)).2 (hX e he) with h | h
  · rw [hb] at h;exact ho h0 a ha h
  · omega
theorem BD (s : aJ) : CS s []:=fun _ _ _=>by simp
theorem CS.snd {s : aJ} {S : List Nat} (h : CS s S) (m : Nat) : CS (s.snd m) S:=by
  intro h0 a ha
  have h1 : s.l≠[]:=fun e=>h0 (by show s.l.drop m=[];rw [e,List.drop_nil])
  cases hs : s.ad with
  | none=>
    simp only [aJ.snd,hs] at ha
    split at ha <;> cases ha
  | some p=>
    have h2:=h h1 p hs
    simp only [aJ.snd,hs] at ha
    split at ha
    · cases ha;exact h2
    · cases ha
      obtain ⟨pb,po,ps⟩:=p
      by_cases hm : m=0 <;> cases ps <;> simpa [Addr.add,hm] using h2
theorem OQ.JZ {n : Nat} {w0 : World} {S : List Nat} {M : List aG} {E : Env} {dst : Option Tmp} {ty t : TypeId} {pos : String} {aft : Array Edge} {g : Option (Nat × Bool)} {x : Operand} {s : aJ} {m : Nat} (hs : s.ok w0) (ho : CS s S) (hl : m≤s.l.length) (h0 : 0<m) (hz : dP Tryz.prog t=some m) (ha : gy Tryz.prog t=true) (hx : ev E x=some (.pointer s.ad)) :
    OQ Tryz.prog n E (ah w0 S M) ⟨dst,.load t x,ty,pos,aft,g⟩ (.agg ((s.l.take m).map U8).toArray):=by
  obtain ⟨b,j,hae,hca⟩:=hs.reads.at (by simp;omega)
  rw [hae] at hx
  have hlm : ((s.l.take m).map U8).length=m:=by rw [List.length_map,List.length_take,Nat.min_eq_left hl]
  refine OQ.cQ ha hx (by rw [hlm];exact hz) (block_lt_of_cell (hca 0 _ (dr U8 0 (by omega)))) (ho (fun e=>by rw [e] at hl;simp at hl;omega) _ hae) fun i u hu=>?_
  rw [List.map_take,List.getElem?_take] at hu
  split at hu
  · exact hca i u hu
  · cases hu
theorem J0 (s : aJ) (m : Nat) : (s.fst m).ad=s.ad:=by
  unfold aJ.fst
  dsimp only
  split
  · rfl
  · cases s.ad with
    | none=>rfl
    | some a=>rw [Option.map_some,Addr.add_zero']
theorem Ho : iI Tryz.prog 27=true:=by kernel_rfl
theorem Na : dP Tryz.prog 59=some 1:=by kernel_rfl
theorem Nb : zc Tryz.prog 59=some [.slice none 0 0]:=by kernel_rfl
theorem CT : aL Tryz.prog 20:=⟨_,Tryz.func20,rfl,by kernel_rfl⟩
theorem uM : aL Tryz.prog 21:=⟨_,Tryz.func21,rfl,by kernel_rfl⟩
set_option maxHeartbeats 8000000 in
theorem FE (bc : Nat) (s : aJ) (hl : 32≤s.l.length) (w : World) (hs : s.ok w) (ho : CS s [bc]) (h0 : ah w [bc] [⟨bc,Row 59 [s.v],true⟩] w) :
    Calls Tryz.prog 20 [Pt bc 0].toArray w fun e w'=>e=.returned (.agg ((s.l.take 32).map U8).toArray)∧ah w [bc] [⟨bc,Row 59 [(s.snd 32).v],true⟩] w':=by
  have hlm : ((s.l.take 32).map U8).length=32:=by rw [List.length_map,List.length_take,Nat.min_eq_left hl]
  have had:=J0 s 32
  refine enter (n:=20) Tryz.func20 rfl rfl rfl h0 ?_
  refine JC.seq (JC.region (JL.alloc hU rfl fun b2 _=>?_))
  repeat (first | refine JL.q (by first|(apply OQ.load (v:=s.v);exact Ho;rfl;exact (.there .here);exact (Row.cell rfl))|(apply OQ.fst (s:=s) (m:=32);exact Tryz.underlying27;exact j6;rfl;rfl;exact hl;exact hs.len)|(apply OQ.arr (k:=32) (ad:=(s.fst 32).ad) (len:=(s.fst 32).l.length) (cap:=(s.fst 32).cap);exact Tryz.underlying23;rfl;exact (by show 32≤(s.l.take 32).length;rw [List.length_take];omega))|(apply OQ.move;rfl)|(apply OQ.cU;rfl)|(apply OQ.bM;rfl;rfl;rfl;exact (by decide);rfl)) rfl ?_ | refine JC.seq ?_ | refine JC.region ?_ | refine JL.nil ?_ | refine JE.next ?_)
  rw [had]
  repeat (refine JL.q (by (apply OQ.JZ (s:=s) (m:=32);exact hs;exact ho;exact hl;exact (by decide);exact aB;exact aQ;rfl)) rfl ?_)
  refine JL.alloc hU rfl fun b3 _=>?_
  refine JL.ag (cs:=(s.l.take 32).map U8) aB rfl rfl hlm (aU _) .here (by simp) ?_
  repeat (first | refine JL.q (by first|(apply OQ.load (v:=s.v);exact Ho;rfl;exact (.there (.there .here));exact (Row.cell rfl))|(apply OQ.snd (s:=s) (m:=32);exact Tryz.underlying27;exact j6;rfl;rfl;exact hl)|(apply OQ.move;rfl)|(apply OQ.cU;rfl)|(apply OQ.bM;rfl;rfl;rfl;exact (by decide);rfl)) rfl ?_ | refine JC.seq ?_ | refine JC.region ?_ | refine JL.nil ?_ | refine JE.next ?_)
  refine JL.az (r:=[s.v]) (r':=[(s.snd 32).v]) He rfl rfl rfl rfl (.there (.there .here)) (show 0<1 from Nat.zero_lt_one) rfl ?_
  repeat (first | refine JL.q (by (apply OQ.af (cs:=(s.l.take 32).map U8);exact aQ;exact aB;rfl;exact .here;exact hlm;exact Row.all)) rfl ?_ | refine JC.seq ?_ | refine JC.region ?_ | refine JL.nil ?_ | refine JE.next ?_)
  refine JL.ag (cs:=(s.l.take 32).map U8) aB rfl rfl hlm (aU _) (.there .here) (by simp) ?_
  repeat (first | refine JL.nil ?_ | refine JE.next ?_)
  refine JC.ret (JE.aR rfl (RV.av aQ aB rfl (.there .here) hlm Row.all) ?_)
  exact fun w' hw=>⟨rfl,hw.weak (.drop _ _ _ (.drop _ _ _ (an.refl _)))⟩
set_option maxHeartbeats 8000000 in
theorem yl (bc : Nat) (s : aJ) (hl : 4≤s.l.length) (w : World) (hs : s.ok w) (ho : CS s [bc]) (h0 : ah w [bc] [⟨bc,Row 59 [s.v],true⟩] w) :
    Calls Tryz.prog 21 [Pt bc 0].toArray w fun e w'=>e=.returned (N (iu.cv (s.l.take 4)))∧ah w [bc] [⟨bc,Row 59 [(s.snd 4).v],true⟩] w':=by
  have hlt : (s.l.take 4).length=4:=by rw [List.length_take,Nat.min_eq_left hl]
  have hn:=iu.wD (l:=s.l.take 4) (by omega)
  have hlt2:=iu.qQ (l:=s.l.take 4) (by omega)
  rw [hlt] at hlt2
  have cN:=fun (w' : World) (M : List aG) (hw' : ah w [bc] M w')=>xe (s.fst 4) w' ((hs.off hw' ho).fst 4) (by show (s.l.take 4).length≤_;omega)
  rw [show (s.fst 4).l=s.l.take 4 from rfl] at cN
  refine enter (n:=20) Tryz.func21 rfl rfl rfl h0 ?_
  repeat (first | refine JL.q (by first|(apply OQ.load (v:=s.v);exact Ho;rfl;exact .here;exact (Row.cell rfl))|(apply OQ.fst (s:=s) (m:=4);exact Tryz.underlying27;exact j6;rfl;rfl;exact hl;exact hs.len)|(apply OQ.au (vs:=[(s.fst 4).v]);exact vn;rfl;exact (fun w' hw'=>cN w' _ hw'))|(apply OQ.snd (s:=s) (m:=4);exact Tryz.underlying27;exact j6;rfl;rfl;exact hl)|(apply OQ.move;rfl)|(apply OQ.assign;rfl)|(apply OQ.cU;rfl)|(apply OQ.bM;rfl;rfl;rfl;exact (by decide);rfl)) rfl ?_ | refine JC.seq ?_ | refine JC.region ?_ | refine JL.nil ?_ | refine JE.next ?_)
  refine JL.az (r:=[s.v]) (r':=[(s.snd 4).v]) He rfl rfl rfl rfl .here (show 0<1 from Nat.zero_lt_one) rfl ?_
  repeat (first | refine JL.q (by first|(apply OQ.to;exact (OQ.qV Tryz.underlying84 Tryz.underlying3 rfl (by rw [hn];omega));exact (congrArg N hn))|(apply OQ.move;rfl)|(apply OQ.assign;rfl)) rfl ?_ | refine JC.seq ?_ | refine JC.region ?_ | refine JL.nil ?_ | refine JE.next ?_)
  refine JC.ret (JE.aR rfl (RV.tmp rfl) ?_)
  exact fun w' hw=>⟨rfl,hw⟩
theorem ym (c : Bk) (p m : Nat) (hc : c.length=32) : Tryz.prog.built 32 ([0,1,2].zip [.agg (c.map U8).toArray,N p,N m])=some (hdc ⟨c,p,m⟩).toArray:=by
  have h : Tryz.prog.built 32 ([0,1,2].zip [.agg (c.map U8).toArray,N p,N m])=Instr.fill (fun i=>#[(0,32),(32,1),(33,1)][i]?) (hdc bO).toArray [(0,.agg (c.map U8).toArray),(1,N p),(2,N m)]:=by kernel_rfl
  rw [h,dF (off:=0) (sz:=32) (cs:=c.map U8) rfl rfl (by simp [hc]) (by simp [hdc,bO,dU]),dF (off:=32) (sz:=1) (cs:=[N p]) rfl rfl rfl (by simp [hdc,bO,dU,hc]),dF (off:=33) (sz:=1) (cs:=[N m]) rfl rfl rfl (by simp [hdc,bO,dU,hc])]
  have h1:=tg (a:=c.map U8) (b:=[N 0]) (c:=[N 0]) (j:=32) (k:=1) [N p] (by simp [hc]) rfl
  have h2:=tg (a:=c.map U8++[N p]) (b:=[N 0]) (c:=[]) (j:=33) (k:=1) [N m] (by simp [hc]) rfl
  have h3 : ((hdc bO).take 0++c.map U8++(hdc bO).drop (0+32))=c.map U8++([N 0]++[N 0]):=rfl
  rw [h3,h1,← List.append_assoc]
  show some _=some _
  rw [show (c.map U8++[N p]++[N 0] : List Value)=c.map U8++[N p]++([N 0]++[]) from rfl,h2]
  simp [hdc]
def ej (z : Bk) : Hd:=match dy z with | none=>bO | some (h,_)=>h
def dj (z : Bk) : Bk:=match dy z with | none=>[] | some (_,r)=>r
def en (z : Bk) : Nat:=match dy z with | none=>3 | some _=>0
theorem CU : aL Tryz.prog 9:=⟨_,Tryz.func9,rfl,by kernel_rfl⟩
abbrev yo (l : Bk):={q : Acc // q=none→l=[]}
instance {l : Bk} : Inhabited (yo l):=⟨⟨some (0,0),nofun⟩⟩
set_option maxHeartbeats 16000000 in
theorem FF (z : aJ) (w : World) (hz : z.ok w) (hl : z.l.length≤1000000) :
    Calls Tryz.prog 9 [z.v].toArray w fun e w'=>∃ q : yo (dj z.l),e=.returned (.tuple #[.agg (hdc (ej z.l)).toArray,aC q.1 (dj z.l).length,N (en z.l)])∧ah w [] (bS 5 q.1 ((dj z.l).map U8)) w':=by
  have hz34 : (hdc bO).length=34:=rfl
  refine enter (n:=31) Tryz.func9 rfl rfl rfl (ah.start w []) ?_
  repeat (first | refine JC.seq ?_ | refine JC.region ?_)
  refine JL.alloc JX rfl fun b2 _=>?_
  by_cases h40 : z.l.length<40
  · have hv : dy z.l=none:=by rw [dy,if_pos h40]
    have e1 : ej z.l=bO:=by rw [ej,hv]
    have e2 : dj z.l=[]:=by rw [dj,hv]
    have e3 : en z.l=3:=by rw [en,hv]
    rw [e1,e2,e3]
    repeat (first | refine JL.q (by first|(apply OQ.len (k:=z.l.length) (ad:=z.ad) (cap:=z.cap);exact Tryz.underlying27;rfl)|(apply OQ.ig (a:=z.l.length) (b:=40);rfl;rfl;exact h40)|(apply OQ.move;rfl)|(apply OQ.assign;rfl)) rfl ?_ | refine JC.seq ?_ | refine JC.region ?_ | refine JL.nil ?_ | refine JE.next ?_)
    refine JC.cond_true rfl rfl ?_
    repeat (first | refine JC.seq ?_ | refine JC.region ?_)
    refine JL.q (OQ.pure (v:=.agg (hdc bO).toArray) rfl rfl (by kernel_rfl)) rfl ?_
    refine JL.ag (cs:=hdc bO) qt rfl rfl hz34 (fE _) .here hz34 ?_
    repeat (first | refine JL.q (by (apply OQ.assign;rfl)) rfl ?_ | refine JL.nil ?_ | refine JE.next ?_)
    refine JC.ret ?_
    repeat (refine JE.aK ?_)
    exact JE.jG rfl (RV.av CI qt rfl .here hz34 Row.all) (RV.tmp rfl) (RV.tmp rfl) fun w' hw=>⟨⟨none,fun _=>rfl⟩,rfl,hw.weak (.nil _)⟩
  repeat (first | refine JL.q (by first|(apply OQ.len (k:=z.l.length) (ad:=z.ad) (cap:=z.cap);exact Tryz.underlying27;rfl)|(apply OQ.gM (a:=z.l.length) (b:=40);rfl;rfl;exact h40)|(apply OQ.move;rfl)|(apply OQ.assign;rfl)) rfl ?_ | refine JC.seq ?_ | refine JC.region ?_ | refine JL.nil ?_ | refine JE.next ?_)
  refine JC.cond_false rfl rfl ?_
  repeat (first | refine JL.q (by (apply OQ.move;rfl)) rfl ?_ | refine JC.seq ?_ | refine JC.region ?_ | refine JC.skip ?_ | refine JE.next ?_)
  refine JL.q (OQ.mu (cs:=[z.v]) [0] [.tmp 10] (vs:=[z.v]) rfl rfl (by unfold aJ.v;kernel_rfl)) rfl ?_
  refine JL.alloc Nb rfl fun b5 hb5=>?_
  refine JL.ag (cs:=[z.v]) Na rfl rfl rfl rfl .here rfl ?_
  have hoff : ∀ s : aJ,s.ok w→CS s [b5]:=fun s hs h0 a ha hm=>by
    have h1:=hs.lt h0 a ha
    rw [List.mem_singleton] at hm
    omega
  have z1:=hz.snd 32 (by omega)
  have z2:=z1.snd 4 (by show 4≤(z.l.drop 32).length;rw [List.length_drop];omega)
  have z3:=z2.snd 4 (by show 4≤((z.l.drop 32).drop 4).length;rw [List.length_drop,List.length_drop];omega)
  have l1 : (z.snd 32).l=z.l.drop 32:=rfl
  have l2 : ((z.snd 32).snd 4).l=z.l.drop 36:=by show (z.l.drop 32).drop 4=_;rw [List.drop_drop]
  have l3 : (((z.snd 32).snd 4).snd 4).l=z.l.drop 40:=by show ((z.l.drop 32).drop 4).drop 4=_;rw [List.drop_drop,List.drop_drop]
  have c0:=fun (w' : World) (M : List aG) (hw' : ah w [] (⟨b5,Row 59 [z.v],true⟩::M) w') (hx : ah w' [b5] [⟨b5,Row 59 [z.v],true⟩] w')=>FE b5 z (by omega) w' (hz.holds hw' rfl) (hoff z hz) hx
  have c1:=fun (w' : World) (M : List aG) (hw' : ah w [] (⟨b5,Row 59 [(z.snd 32).v],true⟩::M) w') (hx : ah w' [b5] [⟨b5,Row 59 [(z.snd 32).v],true⟩] w')=>yl b5 (z.snd 32) (by rw [l1,List.length_drop];omega) w' (z1.holds hw' rfl) (hoff _ z1) hx
  have c2:=fun (w' : World) (M : List aG) (hw' : ah w [] (⟨b5,Row 59 [((z.snd 32).snd 4).v],true⟩::M) w') (hx : ah w' [b5] [⟨b5,Row 59 [((z.snd 32).snd 4).v],true⟩] w')=>yl b5 ((z.snd 32).snd 4) (by rw [l2,List.length_drop];omega) w' (z2.holds hw' rfl) (hoff _ z2) hx
  rw [l1] at c1
  rw [l2] at c2
  have hlc : (z.l.take 32).length=32:=by rw [List.length_take,Nat.min_eq_left (by omega)]
  repeat (first | refine JC.seq ?_ | refine JC.region ?_ | refine JL.nil ?_ | refine JE.next ?_)
  refine JL.mj (ι:=Unit) (vs:=[Pt b5 0]) (X:=[⟨b5,Row 59 [z.v],true⟩]) (M0:=[⟨b2,Row 32 (hdc bO),true⟩]) (fun _=>.agg ((z.l.take 32).map U8).toArray) (fun _=>[⟨b5,Row 59 [(z.snd 32).v],true⟩]) CT rfl rfl (by simp) (by simp) (fun w' hw' hx'=>(c0 w' _ hw' hx').mono fun e w2 ⟨g1,g2⟩=>⟨(),g1,g2⟩) fun _=>?_
  refine JL.mj (ι:=Unit) (vs:=[Pt b5 0]) (X:=[⟨b5,Row 59 [(z.snd 32).v],true⟩]) (M0:=[⟨b2,Row 32 (hdc bO),true⟩]) (fun _=>N (iu.cv ((z.l.drop 32).take 4))) (fun _=>[⟨b5,Row 59 [((z.snd 32).snd 4).v],true⟩]) uM rfl rfl (by simp) (by simp) (fun w' hw' hx'=>(c1 w' _ hw' hx').mono fun e w2 ⟨g1,g2⟩=>⟨(),g1,g2⟩) fun _=>?_
  refine JL.mj (ι:=Unit) (vs:=[Pt b5 0]) (X:=[⟨b5,Row 59 [((z.snd 32).snd 4).v],true⟩]) (M0:=[⟨b2,Row 32 (hdc bO),true⟩]) (fun _=>N (iu.cv ((z.l.drop 36).take 4))) (fun _=>[⟨b5,Row 59 [(((z.snd 32).snd 4).snd 4).v],true⟩]) uM rfl rfl (by simp) (by simp) (fun w' hw' hx'=>(c2 w' _ hw' hx').mono fun e w2 ⟨g1,g2⟩=>⟨(),g1,g2⟩) fun _=>?_
  clear c0 c1 c2 z1 z2
  have hn1:=iu.qQ (l:=(z.l.drop 32).take 4) (by simp;omega)
  have hn2:=iu.qQ (l:=(z.l.drop 36).take 4) (by simp;omega)
  have hv : dy z.l=if 2147483647<iu.cv ((z.l.drop 32).take 4)∨2147483647<iu.cv ((z.l.drop 36).take 4) then none else some (⟨z.l.take 32,iu.cv ((z.l.drop 32).take 4),iu.cv ((z.l.drop 36).take 4)⟩,z.l.drop 40):=by rw [dy,if_neg h40]
  have hhb:=ym (z.l.take 32) (iu.cv ((z.l.drop 32).take 4)) (iu.cv ((z.l.drop 36).take 4)) hlc
  have hr1 : ∀ o,Row 32 (hdc ⟨z.l.take 32,iu.cv ((z.l.drop 32).take 4),iu.cv ((z.l.drop 36).take 4)⟩) o→cellAt o 32=some (I (iu.cv ((z.l.drop 32).take 4))):=Row.cell (lJ hlc)
  have hr2 : ∀ o,Row 32 (hdc ⟨z.l.take 32,iu.cv ((z.l.drop 32).take 4),iu.cv ((z.l.drop 36).take 4)⟩) o→cellAt o 33=some (I (iu.cv ((z.l.drop 36).take 4))):=Row.cell (ke hlc)
  have hl34:=j9 (h:=⟨z.l.take 32,iu.cv ((z.l.drop 32).take 4),iu.cv ((z.l.drop 36).take 4)⟩) hlc
  generalize hp : iu.cv ((z.l.drop 32).take 4)=p at *
  generalize hm : iu.cv ((z.l.drop 36).take 4)=m at *
  generalize hcc : z.l.take 32=c at *
  have cp:=fun (w' : World)=>ye (p : Int) w'
  have cm:=fun (w' : World)=>ye (m : Int) w'
  have mp : CL (p : Int)=decide (p≤2147483647):=by
    unfold CL
    rw [decide_eq_true (by omega),Bool.true_and]
    exact decide_eq_decide.2 (by omega)
  have mm : CL (m : Int)=decide (m≤2147483647):=by
    unfold CL
    rw [decide_eq_true (by omega),Bool.true_and]
    exact decide_eq_decide.2 (by omega)
  rw [mp] at cp
  rw [mm] at cm
  refine JL.q (OQ.mu (cs:=hdc ⟨c,p,m⟩) [0,1,2] [.tmp 12,.tmp 13,.tmp 14] (vs:=[.agg (c.map U8).toArray,N p,N m]) rfl rfl hhb) rfl ?_
  refine JL.ag (cs:=hdc ⟨c,p,m⟩) qt rfl rfl hl34 (fE _) (.there .here) hz34 ?_
  obtain ⟨g1,hg1⟩ : ∃ g,decide (p≤2147483647)=g:=⟨_,rfl⟩
  obtain ⟨g2,hg2⟩ : ∃ g,decide (m≤2147483647)=g:=⟨_,rfl⟩
  rw [hg1] at cp
  rw [hg2] at cm
  cases g1
  case false=>
    have hv2 : dy z.l=none:=by rw [hv,if_pos (.inl (by have:=of_decide_eq_false hg1;omega))]
    have e1 : ej z.l=bO:=by rw [ej,hv2]
    have e2 : dj z.l=[]:=by rw [dj,hv2]
    have e3 : en z.l=3:=by rw [en,hv2]
    rw [e1,e2,e3]
    repeat (first | refine JL.q (by first|(apply OQ.load;exact bB;rfl;exact (.there .here);exact hr1)|(apply OQ.au (vs:=[I (p : Int)]);exact jV;rfl;exact (fun w' _=>cp w'))|(apply OQ.IF;rfl;rfl)|(apply OQ.fJ;rfl;rfl)|(apply OQ.move;rfl)|(apply OQ.bM;rfl;rfl;rfl;exact (by decide);rfl)) rfl ?_ | refine JC.seq ?_ | refine JC.region ?_ | refine JL.nil ?_ | refine JE.next ?_ | refine JL.lu rfl rfl rfl rfl ?_)
    refine JC.cond_true rfl rfl ?_
    repeat (first | refine JC.seq ?_ | refine JC.region ?_)
    refine JL.q (OQ.pure (v:=.agg (hdc bO).toArray) rfl rfl (by kernel_rfl)) rfl ?_
    refine JL.ag (cs:=hdc bO) qt rfl rfl hz34 (fE _) (.there .here) hl34 ?_
    repeat (first | refine JL.q (by (apply OQ.assign;rfl)) rfl ?_ | refine JL.nil ?_ | refine JE.next ?_)
    refine JC.ret ?_
    repeat (refine JE.aK ?_)
    exact JE.jG rfl (RV.av CI qt rfl (.there .here) hz34 Row.all) (RV.tmp rfl) (RV.tmp rfl) fun w' hw=>⟨⟨none,fun _=>rfl⟩,rfl,hw.weak (.nil _)⟩
  cases g2
  case false=>
    have hv2 : dy z.l=none:=by rw [hv,if_pos (.inr (by have:=of_decide_eq_false hg2;omega))]
    have e1 : ej z.l=bO:=by rw [ej,hv2]
    have e2 : dj z.l=[]:=by rw [dj,hv2]
    have e3 : en z.l=3:=by rw [en,hv2]
    rw [e1,e2,e3]
    repeat (first | refine JL.q (by first|(apply OQ.load;exact bB;rfl;exact (.there .here);exact hr1)|(apply OQ.load;exact bB;rfl;exact (.there .here);exact hr2)|(apply OQ.au (vs:=[I (p : Int)]);exact jV;rfl;exact (fun w' _=>cp w'))|(apply OQ.au (vs:=[I (m : Int)]);exact jV;rfl;exact (fun w' _=>cm w'))|(apply OQ.IF;rfl;rfl)|(apply OQ.fl;rfl;rfl)|(apply OQ.move;rfl)|(apply OQ.bM;rfl;rfl;rfl;exact (by decide);rfl)) rfl ?_ | refine JC.seq ?_ | refine JC.region ?_ | refine JL.nil ?_ | refine JE.next ?_ | refine JL.aV rfl rfl ?_)
    refine JC.cond_true rfl rfl ?_
    repeat (first | refine JC.seq ?_ | refine JC.region ?_)
    refine JL.q (OQ.pure (v:=.agg (hdc bO).toArray) rfl rfl (by kernel_rfl)) rfl ?_
    refine JL.ag (cs:=hdc bO) qt rfl rfl hz34 (fE _) (.there .here) hl34 ?_
    repeat (first | refine JL.q (by (apply OQ.assign;rfl)) rfl ?_ | refine JL.nil ?_ | refine JE.next ?_)
    refine JC.ret ?_
    repeat (refine JE.aK ?_)
    exact JE.jG rfl (RV.av CI qt rfl (.there .here) hz34 Row.all) (RV.tmp rfl) (RV.tmp rfl) fun w' hw=>⟨⟨none,fun _=>rfl⟩,rfl,hw.weak (.nil _)⟩
  have hv2 : dy z.l=some (⟨c,p,m⟩,z.l.drop 40):=by rw [hv,if_neg (by have:=of_decide_eq_true hg1;have:=of_decide_eq_true hg2;omega)]
  have e1 : ej z.l=⟨c,p,m⟩:=by rw [ej,hv2]
  have e2 : dj z.l=z.l.drop 40:=by rw [dj,hv2]
  have e3 : en z.l=0:=by rw [en,hv2]
  rw [e1,e2,e3,← l3]
  have hlz : (((z.snd 32).snd 4).snd 4).l.length≤4294967296:=by rw [l3,List.length_drop];omega
  generalize ((z.snd 32).snd 4).snd 4=zz at *
  repeat (first | refine JL.q (by first|(apply OQ.load;exact bB;rfl;exact (.there .here);exact hr1)|(apply OQ.load;exact bB;rfl;exact (.there .here);exact hr2)|(apply OQ.au (vs:=[I (p : Int)]);exact jV;rfl;exact (fun w' _=>cp w'))|(apply OQ.au (vs:=[I (m : Int)]);exact jV;rfl;exact (fun w' _=>cm w'))|(apply OQ.IF (c:=false);rfl;rfl)|(apply OQ.fl;rfl;rfl)|(apply OQ.move;rfl)|(apply OQ.bM;rfl;rfl;rfl;exact (by decide);rfl)) rfl ?_ | refine JC.seq ?_ | refine JC.region ?_ | refine JL.nil ?_ | refine JE.next ?_ | refine JL.aV rfl rfl ?_)
  refine JC.cond_false rfl rfl ?_
  repeat (first | refine JC.seq ?_ | refine JC.skip ?_ | refine JE.next ?_)
  let vs : Nat→yo zz.l→Value:=fun j y=>match j with
    | 0=>.agg (hdc ⟨c,p,m⟩).toArray
    | 1=>Pt b5 0
    | 2=>zz.v
    | 3=>aC y.1 zz.l.length
    | 5=>aC y.1 zz.l.length
    | 6=>N 0
    | _=>N 0
  let Ms : Nat→yo zz.l→List aG:=fun j y=>match j with
    | 3=>bS 5 y.1 (zz.l.map U8)
    | 4=>[⟨b2,Row 32 (hdc ⟨c,p,m⟩),true⟩]
    | 7=>[⟨b5,Row 59 [zz.v],true⟩]
    | 8=>[⟨b2,Row 32 (hdc ⟨c,p,m⟩),true⟩]
    | _=>[]
  refine JC.grow (g:=⟨[(2,Pt b2 0),(5,Pt b5 0)],9,vs,Ms,(fun j=>match j with | 2=>[(1,28)] | 3=>[(2,29)] | 4=>[(0,27)] | 5=>[(3,30)] | _=>[]),(fun j=>match j with | 0=>[8] | 2=>[7] | 4=>[8] | _=>[]),(fun j=>match j with | 4=>[8] | _=>[]),(fun j=>match j with | 5=>some 3 | _=>none)⟩) [(5,3),(6,4)] [4,3] gK (by repeat (first | exact ai.nil | refine ai.cons _ _ _ rfl ?_)) ?_ (by kernel_rfl) (by kernel_rfl) (by kernel_rfl) ?_ ?_
  · exact an.refl _
  · refine ⟨?_,?_,?_,?_,?_,?_,?_,trivial⟩
    · (intro xx EF MF Q kk;(try refine JL.aV rfl rfl ?_);exact JL.q (OQ.af (cs:=hdc ⟨c,p,m⟩) CI qt rfl .here hl34 Row.all) rfl (JL.nil (kk default nofun)))
    · (intro xx EF MF Q kk;(try refine JL.aV rfl rfl ?_);exact JL.q (OQ.bM rfl rfl rfl (by decide) rfl) rfl (JL.nil (kk default nofun)))
    · (intro xx EF MF Q kk;(try refine JL.aV rfl rfl ?_);exact JL.q (OQ.load (v:=zz.v) Ho rfl .here (Row.cell rfl)) rfl (JL.nil (kk default nofun)))
    · (intro xx EF MF Q kk;exact JL.bV (ι:=yo zz.l) (vs:=[zz.v]) (fun q=>aC q.1 zz.l.length) (fun q=>bS 5 q.1 (zz.l.map U8)) Aj rfl rfl (fun q=>j5 _ _ _) (fun w' hw'=>(CR zz w' (z3.holds hw' rfl) hlz).mono fun e w2 ⟨q,g1,g2,g3⟩=>⟨⟨q,g2⟩,g1,g3⟩) fun q=>JL.nil (kk q nofun))
    · (intro xx EF MF Q kk;exact JL.ag (cs:=hdc ⟨c,p,m⟩) qt rfl rfl hl34 (fE _) .here hl34 (JL.nil (kk default nofun)))
    · (intro xx EF MF Q kk;(try refine JL.aV rfl rfl ?_);exact JL.q (OQ.assign rfl) rfl (JL.nil (kk (xx 3) (fun k h=>by cases h;rfl))))
    · (intro xx EF MF Q kk;(try refine JL.aV rfl rfl ?_);exact JL.q (OQ.assign rfl) rfl (JL.nil (kk default nofun)))
  · intro xx hx
    have e5:=hx 5 3 (by decide) rfl
    show JE _ _ _ _ _ [(3,aC (xx 5).1 zz.l.length),(4,N 0),(2,Pt b2 0),(5,Pt b5 0)] ([⟨b2,Row 32 (hdc ⟨c,p,m⟩),true⟩]++(bS 5 (xx 3).1 (zz.l.map U8)++[]))
    rw [e5,List.append_nil]
    generalize xx 3=q
    clear hx e5 xx vs Ms
    repeat (refine JE.next ?_)
    refine JC.ret ?_
    skip
    exact JE.jG rfl (RV.av CI qt rfl .here hl34 Row.all) (RV.tmp rfl) (RV.tmp rfl) fun w' hw=>⟨q,rfl,hw.weak (.drop _ _ _ (an.refl _))⟩
end
section
set_option maxRecDepth 10000
open Sl ij mF
theorem sO : aL Tryz.prog 28:=⟨_,Tryz.func28,rfl,by kernel_rfl⟩
theorem oW {e : TypeId} {sz n cap k : Nat} {xs ys : List Value} (h : (xs.drop (0+k)).take ys.length=ys) (hk : k+ys.length≤xs.length) : ∀ o,Sl.aE e sz n cap xs o→bD o (0+k) ys:=fun o ho=>by
  have:=ri (t:=ys.length) (Sl.aE.cells o ho) hk
  rw [Nat.zero_add] at h
  rwa [h] at this
theorem Ak (key : List B) (hk : key.length=32) (b12 b1 : Nat) (w : World) (hr : aJ.ok w ⟨some ⟨b1,0,none⟩,32,key⟩) :
    Calls Tryz.prog 44 [.slice (some ⟨b12,0,none⟩) 0 0,.slice (some ⟨b1,0,none⟩) 32 32,.string iw,N 2].toArray w fun e w'=>∃ x : Nat × Nat,e=.returned (.slice (some ⟨x.1,0,none⟩) 2 x.2)∧ah w [] [⟨x.1,Sl.aE 23 32 2 x.2 ((qx key).map U8),true⟩] w':=by
  have:=uj ⟨some ⟨b12,0,none⟩,0,[]⟩ ⟨some ⟨b1,0,none⟩,32,key⟩ iw 2 (by decide) w ⟨Nat.le_refl _,Reads.nil _ _⟩ hr (by simp) (show key.length<35184372088000 by omega) (by decide)
  rw [show aJ.v ⟨some ⟨b1,0,none⟩,32,key⟩=.slice (some ⟨b1,0,none⟩) 32 32 by simp [aJ.v,hk]] at this
  rw [qx]
  exact this
theorem Hp {w0 w : World} {S : List Nat} {M : List aG} {a2 m : List B} {xs : List Value} (ha : (a2.map U8).length=32) (hml : m.length<1000000000) {bk ck bm cm : Nat} (hw : ah w0 S M w) (hx : xs.length=64) (c2 : (xs.drop (0+1 * 32)).take (a2.map U8).length=a2.map U8) (h1 : Has M bk (Sl.aE 23 32 2 ck xs) true) (h3 : Has M bm (Sl.aE 5 1 m.length cm (m.map U8)) true) :
    Calls Tryz.prog 45 [.slice (some ⟨bk,0+1 * 32,none⟩) 32 32,.slice (some ⟨bm,0,none⟩) m.length cm].toArray w fun e w''=>e=.returned (.agg ((bT a2 m).map U8).toArray)∧Ext w w'':=by
  obtain ⟨o1,ho1,hA1⟩:=hw.get h1
  have hl : a2.length=32:=by simpa using ha
  have:=jM ⟨some ⟨bk,0+1 * 32,none⟩,32,a2⟩ ⟨some ⟨bm,0,none⟩,cm,m⟩ w ⟨Nat.le_of_eq hl,Reads.block ho1 (oW c2 (by rw [ha,hx];decide) _ hA1)⟩ (ep hw h3) (show a2.length<35184372088000 by omega) (show m.length<35184372088000 by omega)
  simpa [aJ.v,hl] using this
def N0 : Nat→List Nat
  | 2=>[7]
  | 3=>[9]
  | _=>[]
def LK : Nat→List (Nat × Nat)
  | 1=>[(0,22)]
  | 2=>[(1,23)]
  | 7=>[(5,27),(6,28)]
  | 8=>[(3,25),(4,26),(7,29)]
  | 9=>[(2,24),(8,30)]
  | 11=>[(10,12),(9,31)]
  | _=>[]
def Nc : Nat→List Nat
  | 3=>[14]
  | 9=>[12,8]
  | 11=>[10]
  | _=>[]
def Nd : Nat→List Nat
  | 11=>[10]
  | _=>[]
def Nf : Nat→Option Nat
  | 11=>some 10
  | _=>none
def LL : Nat→List (Nat × Nat)
  | 1=>[(0,38)]
  | 2=>[(1,39)]
  | 6=>[(4,42),(5,43)]
  | 7=>[(2,40),(3,41),(6,44)]
  | 8=>[(7,45)]
  | _=>[]
def Ng : Nat→List Nat
  | 2=>[11]
  | 3=>[12]
  | _=>[]
def Nh : Nat→Option Nat
  | 8=>some 7
  | _=>none
set_option maxHeartbeats 4000000 in
set_option maxRecDepth 4000 in
theorem CV (key nonce : List B) (s z : aJ) (hk : key.length=32) (hn : nonce.length=12) (w : World) (hs : s.ok w) (hz : z.ok w) (hsl : s.l.length<100000000) (hzl : z.l.length<100000000) :
    Calls Tryz.prog 28 [.agg (key.map U8).toArray,.agg (nonce.map U8).toArray,s.v,z.v].toArray w fun e w'=>∃ s' : aJ,e=.returned (.tuple #[s'.v,N (gk (k1 key) (k2 key) nonce s.l z.l).2])∧uY s' (gk (k1 key) (k2 key) nonce s.l z.l).1 s'.cap∧ah w [] s'.bW w':=by
  have hKeys:=Ak key hk
  have h1 : ((k1 key).map U8).length=32:=by rw [List.length_map,jN]
  have h2 : ((k2 key).map U8).length=32:=by rw [List.length_map,jO]
  have c1:=xj key
  have c2:=xo key
  have hek : ((qx key).map U8).length=64:=by rw [List.length_map,ji]
  generalize qx key=ek at hKeys c1 c2 hek
  generalize k1 key=a1 at h1 c1 ⊢
  generalize k2 key=a2 at h2 c2 ⊢
  refine enter (n:=46) Tryz.func28 rfl rfl rfl (ah.start w []) ?_
  repeat (first | refine JC.seq ?_ | refine JC.region ?_)
  refine JL.box (r:=key.map U8) rfl rfl rfl fun b4 _=>?_
  refine JL.box (r:=nonce.map U8) rfl rfl rfl fun b5 _=>?_
  by_cases hlt : z.l.length<32
  · rw [gk,if_pos hlt]
    repeat (first | refine JL.q (by first|(apply OQ.ig;rfl;rfl;exact hlt)|(apply OQ.move;rfl)|(apply OQ.assign;rfl)|(apply OQ.len;rfl;rfl)) rfl ?_ | refine JC.seq ?_ | refine JC.region ?_ | refine JL.nil ?_ | refine JE.next ?_)
    refine JC.cond_true rfl rfl ?_
    repeat (first | refine JL.q (by (apply OQ.assign;rfl)) rfl ?_ | refine JC.seq ?_ | refine JC.region ?_ | refine JL.nil ?_ | refine JE.next ?_)
    refine JC.ret ?_
    repeat (refine JE.aK ?_)
    exact JE.gI rfl (RV.tmp rfl) (RV.tmp rfl) fun w' hw=>⟨iW,rfl,⟨rfl,rfl,fun _=>rfl⟩,hw.weak (an.nil _)⟩
  repeat (first | refine JL.q (by first|(apply OQ.gM;rfl;rfl;exact hlt)|(apply OQ.move;rfl)|(apply OQ.assign;rfl)|(apply OQ.len;rfl;rfl)) rfl ?_ | refine JC.seq ?_ | refine JC.region ?_ | refine JL.nil ?_ | refine JE.next ?_)
  refine JC.cond_false rfl rfl ?_
  rw [gk,if_neg hlt]
  have hle : z.l.length - 32≤z.l.length:=Nat.sub_le _ _
  have hT0:=fun w' (h' : (z.fst (z.l.length - 32)).ok w')=>zD a1 1#32 nonce (z.fst (z.l.length - 32)) rfl (by simpa using h1) hn w' h' (show (z.l.take (z.l.length - 32)).length<35184372088832 by rw [List.length_take];omega)
  have hM0:=fun (w' : World) (hs' : s.ok w') (h : (z.fst (z.l.length - 32)).ok w')=>vo nonce s (z.fst (z.l.length - 32)) hn w' hs' h (show s.l.length<35184372088832 by omega) (show (z.l.take (z.l.length - 32)).length<35184372088832 by rw [List.length_take];omega)
  rw [show (z.fst (z.l.length - 32)).l=z.l.take (z.l.length - 32) from rfl] at hT0
  simp only [show (z.fst (z.l.length - 32)).l=z.l.take (z.l.length - 32) from rfl] at hM0
  have hml:=iM nonce s.l (z.l.take (z.l.length - 32))
  rw [hn,List.length_take] at hml
  generalize msg nonce s.l (z.l.take (z.l.length - 32))=m at hml hM0 ⊢
  have hTl:=c6 a1 1#32 nonce (z.l.take (z.l.length - 32))
  generalize dQ a1 1#32 nonce (z.l.take (z.l.length - 32))=T at hTl hT0 ⊢
  repeat (first | refine JL.q (by first|(apply OQ.move;rfl)|(apply OQ.assign;rfl)|(apply OQ.len;rfl;rfl)|(apply OQ.jq;rfl;rfl;exact (by (try simp only []);omega);exact (by (try simp only []);omega))) rfl ?_ | refine JC.seq ?_ | refine JC.region ?_ | refine JC.skip ?_ | refine JL.nil ?_ | refine JE.next ?_)
  refine JL.uZ Tryz.underlying27 e5 rfl fun b19 _=>?_
  repeat (refine JL.q (by (apply OQ.jZ;exact Tryz.underlying23;exact s5;rfl)) rfl ?_)
  refine JL.bV (ι:=Nat × Nat) (vs:=[.slice (some ⟨b19,0,none⟩) 0 0,.slice (some ⟨b4,0,none⟩) 32 32,.string iw,N 2]) (fun x=>.slice (some ⟨x.1,0,none⟩) 2 x.2) (fun x=>[⟨x.1,Sl.aE 23 32 2 x.2 (ek.map U8),true⟩]) rL rfl rfl (fun i=>by simp) (fun w' hw'=>hKeys b19 b4 w' (fQ hw' (.there (.there .here)) rfl (Nat.le_of_eq hk))) ?_
  rintro ⟨bk,ck⟩
  try dsimp only
  repeat (first | refine JL.q (by (apply OQ.assign;rfl)) rfl ?_ | refine JC.seq ?_ | refine JL.nil ?_ | refine JE.next ?_)
  let vs : Nat→X→Value:=fun j x=>match j with
    | 0=>.slice (some ⟨bk,0,none⟩) 2 ck
    | 1=>Pt bk (0+1 * 32)
    | 2=>.slice (some ⟨bk,0+1 * 32,none⟩) 32 32
    | 3=>.agg (nonce.map U8).toArray
    | 4=>s.v
    | 5=>z.v
    | 6=>N (z.l.length - 32)
    | 7=>(z.fst (z.l.length - 32)).v
    | 8=>.slice (some ⟨x.1,0,none⟩) m.length x.2
    | 9=>.agg ((bT a2 m).map U8).toArray
    | _=>Pt x.1 0
  let Ms : Nat→X→List aG:=fun j x=>match j with
    | 8=>[⟨x.1,Sl.aE 5 1 m.length x.2 (m.map U8),true⟩]
    | 10=>[⟨x.1,Row 23 ((List.replicate 32 (0 : B)).map U8),true⟩]
    | 11=>[⟨x.1,Row 23 ((bT a2 m).map U8),true⟩]
    | 12=>[⟨bk,Sl.aE 23 32 2 ck (ek.map U8),true⟩]
    | 13=>[⟨b19,Sl.aE 5 1 0 0 [],true⟩]
    | 14=>[⟨b5,Row 72 (nonce.map U8),true⟩]
    | 15=>[⟨b4,Row 23 (key.map U8),true⟩]
    | _=>[]
  refine JC.grow (g:=⟨[(2,s.v),(3,z.v),(5,Pt b5 0),(10,N (z.l.length - 32)),(11,.slice (some ⟨bk,0,none⟩) 2 ck)],16,vs,Ms,LK,Nc,Nd,Nf⟩) [(10,12)] [11,12,14] mixed (by repeat (first | exact ai.nil | refine ai.cons _ _ _ rfl ?_)) (an.refl _) (by kernel_rfl) (by kernel_rfl) (by kernel_rfl) ?_ ?_
  · refine ⟨?_,?_,?_,?_,?_,?_,?_,?_,?_,?_,?_,?_,trivial⟩
    iterate 8 (focus (intro x EF MF Q kk;(try refine JL.aV rfl rfl ?_);exact JL.q (by first|(apply OQ.kU;exact Tryz.underlying90;exact fe;rfl;rfl;exact (by decide))|(apply OQ.jZ;exact Tryz.underlying23;exact s5;rfl)|(apply OQ.af (cs:=nonce.map U8);exact HV;exact HU;rfl;exact .here;exact (by simpa using hn);exact Row.all)|(apply OQ.fst (s:=z);exact Tryz.underlying27;exact s5;rfl;rfl;exact hle;exact hz.len)|(apply OQ.move;rfl)) rfl (JL.nil (kk default nofun))))
    · intro x EF MF Q kk
      exact JL.bV (ι:=Nat × Nat) (fun x=>.slice (some ⟨x.1,0,none⟩) m.length x.2) (fun x=>[⟨x.1,Sl.aE 5 1 m.length x.2 (m.map U8),true⟩]) tn rfl rfl (fun i=>by simp) (fun w' hw'=>hM0 w' (hs.holds hw' rfl) ((hz.holds hw' rfl).fst _)) fun i=>JL.nil (kk i nofun)
    · intro x EF MF Q kk
      exact JL.q (OQ.au (vs:=[.slice (some ⟨bk,0+1 * 32,none⟩) 32 32,.slice (some ⟨(x 8).1,0,none⟩) m.length (x 8).2]) gO rfl fun w' hw'=>Hp h2 (by omega) hw' hek c2 .here (.there .here)) rfl (JL.nil (kk default nofun))
    · intro x EF MF Q kk
      exact JL.alloc fT rfl fun b _=>JL.nil (kk (b,0) nofun)
    · intro x EF MF Q kk
      exact JL.ag fe rfl rfl (dK _) (dR _) .here (by simp) (JL.nil (kk (x 10) (fun k h=>by cases h;rfl)))
  · intro x hx
    have h11:=hx 11 10 (by decide) rfl
    show JE _ _ _ _ _ [(12,Pt (x 10).1 0),(2,s.v),(3,z.v),(5,Pt b5 0),(10,N (z.l.length - 32)),(11,.slice (some ⟨bk,0,none⟩) 2 ck)] [⟨(x 11).1,Row 23 ((bT a2 m).map U8),true⟩,⟨bk,Sl.aE 23 32 2 ck (ek.map U8),true⟩,⟨b5,Row 72 (nonce.map U8),true⟩]
    rw [h11]
    generalize (x 10).1=b12
    clear hx h11 x vs Ms
    have hgl:=AM a2 m
    generalize bT a2 m=g at hgl ⊢
    by_cases hg : g=z.l.drop (z.l.length - 32)
    · rw [if_pos hg]
      repeat (first | refine JC.seq ?_ | refine JE.next ?_)
      refine JC.quiet mixed (by kernel_rfl) ?_
      repeat (first | refine JQ.q (by first|(apply OQ.jZ;exact Tryz.underlying23;exact s5;rfl)|(apply OQ.snd (s:=z);exact Tryz.underlying27;exact s5;rfl;rfl;exact hle)|(apply OQ.au;exact mH;rfl;exact (fun w' hw'=>D8 (a:=⟨some ⟨b12,0,none⟩,32,g⟩) (b:=z.snd (z.l.length - 32)) (c:=true) (by simp [aJ.v,hgl]) rfl (fQ hw' .here rfl (Nat.le_of_eq hgl)) ((hz.holds hw' rfl).snd _ hle) (show g.length<4611686018427387904 by omega) (decide_eq_true hg)))|(apply OQ.not;rfl)|(apply OQ.move;rfl)) rfl ?_ | refine JQ.nil ?_ | refine JE.next ?_)
      refine JC.cond_false rfl rfl ?_
      repeat (first | refine JC.seq ?_ | refine JC.skip ?_ | refine JE.next ?_)
      let vs : Nat→X→Value:=fun j x=>match j with
        | 0=>.slice (some ⟨bk,0,none⟩) 2 ck
        | 1=>Pt bk (0+0 * 32)
        | 2=>.agg (a1.map U8).toArray
        | 3=>.agg (nonce.map U8).toArray
        | 4=>z.v
        | 5=>N (z.l.length - 32)
        | 6=>(z.fst (z.l.length - 32)).v
        | 9=>N 0
        | _=>.slice (some ⟨x.1,0,none⟩) (z.l.take (z.l.length - 32)).length x.2
      let Ms : Nat→X→List aG:=fun j x=>match j with
        | 7=>[⟨x.1,Sl.aE 5 1 (z.l.take (z.l.length - 32)).length x.2 (T.map U8),true⟩]
        | 10=>[⟨b12,Row 23 (g.map U8),true⟩]
        | 11=>[⟨bk,Sl.aE 23 32 2 ck (ek.map U8),true⟩]
        | 12=>[⟨b5,Row 72 (nonce.map U8),true⟩]
        | _=>[]
      refine JC.grow (g:=⟨[(3,z.v),(5,Pt b5 0),(10,N (z.l.length - 32)),(11,.slice (some ⟨bk,0,none⟩) 2 ck)],13,vs,Ms,LL,Ng,fun _=>[],Nh⟩) [(8,8),(9,9)] [7] mixed (by repeat (first | exact ai.nil | refine ai.cons _ _ _ rfl ?_)) (an.refl _) (by kernel_rfl) (by kernel_rfl) (by kernel_rfl) ?_ ?_
      · refine ⟨?_,?_,?_,?_,?_,?_,?_,?_,?_,?_,trivial⟩
        iterate 7 (focus (intro x EF MF Q kk;(try refine JL.aV rfl rfl ?_);exact JL.q (by first|(apply OQ.kU;exact Tryz.underlying90;exact fe;rfl;rfl;exact (by decide))|(apply OQ.af (cs:=a1.map U8);exact mY;exact fe;rfl;exact .here;exact h1;exact (oW c1 (by rw [h1,hek];decide)))|(apply OQ.af (cs:=nonce.map U8);exact HV;exact HU;rfl;exact .here;exact (by simpa using hn);exact Row.all)|(apply OQ.fst (s:=z);exact Tryz.underlying27;exact s5;rfl;rfl;exact hle;exact hz.len)|(apply OQ.move;rfl)) rfl (JL.nil (kk default nofun))))
        · intro x EF MF Q kk
          exact JL.bV (ι:=Nat × Nat) (fun x=>.slice (some ⟨x.1,0,none⟩) (z.l.take (z.l.length - 32)).length x.2) (fun x=>[⟨x.1,Sl.aE 5 1 (z.l.take (z.l.length - 32)).length x.2 (T.map U8),true⟩]) zC rfl rfl (fun i=>by simp) (fun w' hw'=>hT0 w' ((hz.holds hw' rfl).fst _)) fun i=>JL.nil (kk i nofun)
        · intro x EF MF Q kk
          exact JL.q (OQ.assign rfl) rfl (JL.nil (kk (x 7) (fun k h=>by cases h;rfl)))
        · intro x EF MF Q kk
          exact JL.q (OQ.assign rfl) rfl (JL.nil (kk default nofun))
      · intro x hx
        have h8:=hx 8 7 (by decide) rfl
        show JE _ _ _ _ _ [(8,.slice (some ⟨(x 8).1,0,none⟩) (z.l.take (z.l.length - 32)).length (x 8).2),(9,N 0),(3,z.v),(5,Pt b5 0),(10,N (z.l.length - 32)),(11,.slice (some ⟨bk,0,none⟩) 2 ck)] [⟨(x 7).1,Sl.aE 5 1 (z.l.take (z.l.length - 32)).length (x 7).2 (T.map U8),true⟩]
        rw [h8]
        obtain ⟨b45,c45⟩:=x 7
        clear hx h8 x vs Ms
        dsimp only
        repeat (refine JE.next ?_)
        refine JC.ret ?_
        skip
        refine JE.gI rfl (RV.tmp rfl) (RV.tmp rfl) fun w' hw=>⟨⟨some ⟨b45,0,none⟩,c45,T⟩,by simp only [aJ.v,hTl],⟨rfl,rfl,fun h=>by cases h⟩,hw.weak (.keep _ _ _ _ _ _ (fun o ho=>?_) (an.nil _))⟩
        refine ⟨Sl.aE.cells _ ho,?_,rfl⟩
        obtain ⟨sp,rfl,q2,q3,q4⟩:=ho
        show T.length≤c45
        omega
    · rw [if_neg hg]
      repeat (first | refine JC.seq ?_ | refine JE.next ?_)
      refine JC.quiet mixed (by kernel_rfl) ?_
      repeat (first | refine JQ.q (by first|(apply OQ.jZ;exact Tryz.underlying23;exact s5;rfl)|(apply OQ.snd (s:=z);exact Tryz.underlying27;exact s5;rfl;rfl;exact hle)|(apply OQ.au;exact mH;rfl;exact (fun w' hw'=>D8 (a:=⟨some ⟨b12,0,none⟩,32,g⟩) (b:=z.snd (z.l.length - 32)) (c:=false) (by simp [aJ.v,hgl]) rfl (fQ hw' .here rfl (Nat.le_of_eq hgl)) ((hz.holds hw' rfl).snd _ hle) (show g.length<4611686018427387904 by omega) (decide_eq_false hg)))|(apply OQ.not;rfl)|(apply OQ.move;rfl)) rfl ?_ | refine JQ.nil ?_ | refine JE.next ?_)
      refine JC.cond_true rfl rfl ?_
      repeat (first | refine JL.q (by (apply OQ.assign;rfl)) rfl ?_ | refine JC.seq ?_ | refine JC.region ?_ | refine JL.nil ?_ | refine JE.next ?_)
      refine JC.ret ?_
      repeat (refine JE.aK ?_)
      exact JE.gI rfl (RV.tmp rfl) (RV.tmp rfl) fun w' hw=>⟨iW,rfl,⟨rfl,rfl,fun _=>rfl⟩,hw.weak (an.nil _)⟩
end
section
set_option maxRecDepth 10000
open Sl ij mF
theorem CW {key nonce : List B} {s z : aJ} {vs vz : Value} {o : List B × Nat} (hvs : s.v=vs) (hvz : z.v=vz) (ho : gk (k1 key) (k2 key) nonce s.l z.l=o) (hk : key.length=32) (hn : nonce.length=12) {w : World} (hG : g9 w) (hQ : GQ w) (hs : s.ok w) (hz : z.ok w) (hsl : s.l.length<100000000) (hzl : z.l.length<100000000) :
    Calls Tryz.prog 43 [.agg (key.map U8).toArray,.agg (nonce.map U8).toArray,vs,vz].toArray w fun e w'=>∃ i : { s' : aJ // uY s' o.1 s'.cap },e=.returned (.tuple #[i.1.v,N o.2])∧ah w [] i.1.bW w':=by
  subst hvs hvz ho
  exact (Eh key nonce s z hk hn w hG hQ hs hz hsl hzl).mono fun e w' ⟨s',h1,h2,h3⟩=>⟨⟨s',h2⟩,h1,h3⟩
theorem sP {key nonce : List B} {s z : aJ} {vs vz : Value} {o : List B × Nat} (hvs : s.v=vs) (hvz : z.v=vz) (ho : gk (k1 key) (k2 key) nonce s.l z.l=o) (hk : key.length=32) (hn : nonce.length=12) {w : World} (hs : s.ok w) (hz : z.ok w) (hsl : s.l.length<100000000) (hzl : z.l.length<100000000) :
    Calls Tryz.prog 28 [.agg (key.map U8).toArray,.agg (nonce.map U8).toArray,vs,vz].toArray w fun e w'=>∃ i : { s' : aJ // uY s' o.1 s'.cap },e=.returned (.tuple #[i.1.v,N o.2])∧ah w [] i.1.bW w':=by
  subst hvs hvz ho
  exact (CV key nonce s z hk hn w hs hz hsl hzl).mono fun e w' ⟨s',h1,h2,h3⟩=>⟨⟨s',h2⟩,h1,h3⟩
theorem CX {key nonce : List B} {s p : aJ} {vs vp : Value} {m : Nat} {o : List B} (hvs : s.v=vs) (hvp : p.v=vp) (ho : jk (k1 key) (k2 key) nonce s.l p.l=o) (hm : p.l.length=m) (hk : key.length=32) (hn : nonce.length=12) {w : World} (hG : g9 w) (hQ : GQ w) (hs : s.ok w) (hp : p.ok w) (hsl : s.l.length<100000000) (hpl : p.l.length<100000000) :
    Calls Tryz.prog 38 [.agg (key.map U8).toArray,.agg (nonce.map U8).toArray,vs,vp].toArray w fun e w'=>∃ x : Nat × Nat,e=.returned (.slice (some ⟨x.1,0,none⟩) (m+32) x.2)∧ah w [] [⟨x.1,Sl.aE 5 1 (m+32) x.2 (o.map U8),true⟩] w':=by
  subst hvs hvp ho hm
  exact Eg key nonce s p hk hn w hG hQ hs hp hsl hpl
end
section
set_option maxRecDepth 10000
open Sl ij mF dW ng
open qv (Bk)
theorem kO {z r : Bk} {h : Hd} (e : dy z=some (h,r)) : h.chain.length=32∧h.prev≤2147483647∧h.num≤2147483647∧r=z.drop 40∧40≤z.length∧h.chain=z.take 32:=by
  rw [dy] at e
  split at e
  · cases e
  · split at e
    · cases e
    · cases e
      refine ⟨by rw [List.length_take];omega,by dsimp only;omega,by dsimp only;omega,rfl,by omega,rfl⟩
theorem sQ {B : List aG} {b : Nat} {P : Obj→Prop} {wr : Bool} (A : List aG) (h : Has B b P wr) : Has (A++B) b P wr:=by
  induction A with
  | nil=>exact h
  | cons e A ih=>exact .there ih
theorem LM (e f : aG) (A X : List aG) : (e::(A++(f::X))).Perm (X++(e::(A++[f]))):=
  (List.perm_middle.trans (((List.perm_append_comm_assoc X A [f]).trans (List.Perm.append_left A List.perm_append_comm)).cons e)).symm
theorem J1 (e f : aG) (A X : List aG) : (X++(e::(A++[f]))).Perm (e::(A++(X++[f]))):=
  List.perm_middle.trans ((List.perm_append_comm_assoc X A [f]).cons e)
theorem J2 (e : aG) (A M : List aG) : an (A++M) (([e]++(A++[]))++M):=by
  rw [List.append_nil]
  exact .drop _ _ _ (an.refl _)
abbrev Hq (l : Bk):={s : aJ // uY s l s.cap}
instance {l : Bk} : Inhabited (Hq l):=⟨⟨⟨some ⟨0,0,none⟩,l.length,l⟩,⟨rfl,rfl,fun e=>by cases e⟩⟩⟩
structure NH (o : bA × Bk × Nat) where
  q : Acc
  s : bA
  x : Hq o.2.1
  ok : s.ok
  nil : q=none→s.kept=[]
  is : o.2.2=0→s=o.1
theorem Hr {v : Value} {c c' : Nat} (h : c'=c) : Ending.returned (Value.tuple #[v,N c])=.returned (.tuple #[v,N c']):=by rw [h]
def J3 {l : Bk} (h : l=[]) : Hq l:=⟨iW,⟨h.symm,rfl,fun _=>rfl⟩⟩
theorem CY : aL Tryz.prog 26:=⟨_,Tryz.func26,rfl,by kernel_rfl⟩
set_option maxHeartbeats 64000000 in
theorem FG (b : Nat) (q0 : Acc) (s0 : bA) (hs0 : s0.ok) (hq0 : q0=none→s0.kept=[]) (hk0 : s0.kept.length≤2000) (ht0 : s0.taken≤2147483648) (side z : aJ) (hsl : side.l.length≤1000000) (hzl : z.l.length≤1000000) (fresh : Bk) (hf : fresh.length=32) (w : World) (hT : Tb (keys (ff b q0 s0)) w) (hside : side.ok w) (hos : CS side (keys (ff b q0 s0))) (hz : z.ok w) (hoz : CS z (keys (ff b q0 s0))) (h0 : ah w (keys (ff b q0 s0)) (ff b q0 s0) w) :
    Calls Tryz.prog 26 [Pt b 0,side.v,z.v,.agg (fresh.map U8).toArray].toArray w fun e w'=>∃ r : NH (fH s0 side.l z.l fresh),e=.returned (.tuple #[r.x.1.v,N (fH s0 side.l z.l fresh).2.2])∧ah w (keys (ff b q0 s0)) (r.x.1.bW++ff b r.q r.s) w':=by
  generalize keys (ff b q0 s0)=S at h0 hT hos hoz ⊢
  have hlf : (fresh.map U8).length=32:=by rw [List.length_map];exact hf
  have hhd:=fun (w' : World) (M : List aG) (hw' : ah w S M w')=>FF z w' (hz.off hw' hoz) hzl
  refine enter (n:=44) Tryz.func26 rfl rfl rfl h0 ?_
  repeat (first | refine JC.seq ?_ | refine JC.region ?_)
  refine JL.box (r:=fresh.map U8) rfl rfl rfl fun b7 _=>?_
  repeat (first | refine JL.q (by first|(apply OQ.move;rfl)|(apply OQ.assign;rfl)) rfl ?_ | refine JC.seq ?_ | refine JC.region ?_ | refine JL.nil ?_ | refine JE.next ?_)
  refine JL.bV (ι:=yo (dj z.l)) (vs:=[z.v]) (fun q=>.tuple #[.agg (hdc (ej z.l)).toArray,aC q.1 (dj z.l).length,N (en z.l)]) (fun q=>bS 5 q.1 ((dj z.l).map U8)) CU rfl rfl (fun q=>j5 _ _ _) (fun w' hw'=>hhd w' _ hw') ?_
  rintro ⟨qh,hqh⟩
  try dsimp only
  clear hhd
  cases hv : dy z.l with
  | none=>
    have e1 : ej z.l=bO:=by rw [ej,hv]
    have e2 : dj z.l=[]:=by rw [dj,hv]
    have e3 : en z.l=3:=by rw [en,hv]
    have hl34 : (hdc bO).length=34:=rfl
    have hd:=oV (s:=s0) (side:=side.l) (fresh:=fresh) hv
    rw [e1,e2,e3]
    repeat (refine JL.q (by first|(apply OQ.extract;rfl;rfl)|(apply OQ.move;rfl)) rfl ?_)
    refine JL.alloc JX rfl fun b10 _=>?_
    refine JL.ag (cs:=hdc bO) qt rfl rfl hl34 (fE _) .here hl34 ?_
    repeat (first | refine JL.q (by first|(apply OQ.ta (a:=3) (b:=0) (c:=false);rfl;rfl;rfl)|(apply OQ.move;rfl)|(apply OQ.assign;rfl)) rfl ?_ | refine JC.seq ?_ | refine JC.region ?_ | refine JL.nil ?_ | refine JE.next ?_)
    refine JC.cond_true rfl rfl ?_
    repeat (first | refine JL.q (by first|(apply OQ.move;rfl)|(apply OQ.assign;rfl)) rfl ?_ | refine JC.seq ?_ | refine JC.region ?_ | refine JL.nil ?_ | refine JE.next ?_)
    refine JC.ret ?_
    repeat (refine JE.aK ?_)
    exact JE.gI rfl (RV.tmp rfl) (RV.tmp rfl) fun w' hw=>⟨⟨q0,s0,J3 (by rw [hd]),hs0,hq0,fun e=>by rw [hd] at e;cases e⟩,Hr (by rw [hd]),hw.weak (.drop _ _ _ (fm _ (.drop _ _ _ (an.refl _))))⟩
  | some hr=>
  obtain ⟨h,rest⟩:=hr
  have e1 : ej z.l=h:=by rw [ej,hv]
  have e2 : dj z.l=rest:=by rw [dj,hv]
  have e3 : en z.l=0:=by rw [en,hv]
  obtain ⟨hc,hp,hm,hre,hz40,_⟩:=kO hv
  have hrl : rest.length≤1000000:=by rw [hre,List.length_drop];omega
  have hl34:=j9 hc
  have hz34 : (hdc bO).length=34:=rfl
  have hBl:=kf hc
  rw [e1,e2,e3]
  rw [e2] at hqh
  clear e1 e2 e3
  repeat (refine JL.q (by first|(apply OQ.extract;rfl;rfl)|(apply OQ.move;rfl)) rfl ?_)
  refine JL.alloc JX rfl fun b10 _=>?_
  refine JL.ag (cs:=hdc h) qt rfl rfl hl34 (fE _) .here hz34 ?_
  repeat (first | refine JL.q (by first|(apply OQ.ta (a:=0) (b:=0) (c:=true);rfl;rfl;rfl)|(apply OQ.move;rfl)|(apply OQ.assign;rfl)) rfl ?_ | refine JC.seq ?_ | refine JC.region ?_ | refine JL.nil ?_ | refine JE.next ?_)
  refine JC.cond_false rfl rfl ?_
  have hH7 : ∀ (e : aG) (A : List aG),Has (e::(A++((⟨b7,Row 23 (fresh.map U8),true⟩ : aG)::ff b q0 s0))) b7 (Row 23 (fresh.map U8)) true:=fun e A=>.there (sQ A .here)
  repeat (first | refine JL.q (by first|(apply OQ.af (cs:=hdc h);exact CI;exact qt;rfl;exact .here;exact hl34;exact Row.all)|(apply OQ.af (cs:=fresh.map U8);exact aQ;exact aB;rfl;exact (hH7 _ _);exact hlf;exact Row.all)|(apply OQ.move;rfl)) rfl ?_ | refine JC.seq ?_ | refine JC.region ?_ | refine JC.skip ?_ | refine JE.next ?_)
  refine JL.dG (M':=ff b q0 s0++(⟨b10,Row 32 (hdc h),true⟩::(bS 5 qh (rest.map U8)++[⟨b7,Row 23 (fresh.map U8),true⟩]))) (LM _ _ _ _) ?_
  refine JL.mj (ι:=NG (jU s0 h fresh)) (vs:=[Pt b 0,.agg (hdc h).toArray,.agg (fresh.map U8).toArray]) (fun r=>.tuple #[.agg (r.key.map U8).toArray,N r.code]) (fun r=>ff b r.q r.s) CP rfl rfl (eg _ _ _) (fun _=>eg _ _ _) (fun w' hw' hx'=>FD b q0 s0 hs0 hq0 hk0 h hc hp hm fresh hf ht0 w' (hT.own hw' (eg _ _ _)) hx') fun r=>?_
  obtain ⟨q,s,key,cd,hs,hq,hkl,his⟩:=r
  dsimp only
  have hlk : (key.map U8).length=32:=by rw [List.length_map];exact hkl
  refine JL.dG (M':=⟨b10,Row 32 (hdc h),true⟩::(bS 5 qh (rest.map U8)++(ff b q s++[⟨b7,Row 23 (fresh.map U8),true⟩]))) (J1 _ _ _ _) ?_
  repeat (refine JL.q (by first|(apply OQ.extract;rfl;rfl)|(apply OQ.move;rfl)) rfl ?_)
  refine JL.alloc hU rfl fun b13 _=>?_
  refine JL.ag (cs:=key.map U8) aB rfl rfl hlk (aU _) .here (by simp) ?_
  rcases his with ⟨hmk,hcd⟩ | ⟨hmk,rfl⟩
  · have hd:=mT (side:=side.l) hv hmk
    have hne : decide ((cd : Int)=0)=false:=decide_eq_false (by omega)
    repeat (first | refine JL.q (by first|(apply OQ.ta (a:=(cd : Int)) (b:=0);rfl;rfl;exact hne)|(apply OQ.move;rfl)|(apply OQ.assign;rfl)) rfl ?_ | refine JC.seq ?_ | refine JC.region ?_ | refine JL.nil ?_ | refine JE.next ?_)
    refine JC.cond_true rfl rfl ?_
    repeat (first | refine JL.q (by first|(apply OQ.move;rfl)|(apply OQ.assign;rfl)) rfl ?_ | refine JC.seq ?_ | refine JC.region ?_ | refine JL.nil ?_ | refine JE.next ?_)
    refine JC.ret ?_
    repeat (refine JE.aK ?_)
    exact JE.gI rfl (RV.tmp rfl) (RV.tmp rfl) fun w' hw=>⟨⟨q,s,J3 (by rw [hd]),hs,hq,fun e=>by rw [hd] at e;dsimp only at e;omega⟩,Hr (by rw [hd]),hw.weak (.drop _ _ _ (.drop _ _ _ (fm _ (dN _ _))))⟩
  repeat (first | refine JL.q (by first|(apply OQ.ta (a:=0) (b:=0) (c:=true);rfl;rfl;rfl)|(apply OQ.move;rfl)|(apply OQ.assign;rfl)) rfl ?_ | refine JC.seq ?_ | refine JC.region ?_ | refine JL.nil ?_ | refine JE.next ?_)
  refine JC.cond_false rfl rfl ?_
  repeat (first | refine JC.seq ?_ | refine JC.skip ?_ | refine JE.next ?_)
  have hdy:=mU (side:=side.l) (fresh:=fresh) hv hmk
  have hdn:=sJ (side:=side.l) (fresh:=fresh) hv hmk
  have hbad:=fun hh=>CF (key:=key) (side:=side.l++dH h) (z:=rest) hh
  obtain ⟨o,hoe⟩ : ∃ o,gL key (side.l++dH h) rest=o:=⟨_,rfl⟩
  rw [hoe] at hdy hdn hbad
  have hoK : gk (k1 key) (k2 key) x9 (side.l++dH h) rest=o:=hoe
  have hWl : (side.l++dH h).length=side.l.length+40:=by rw [List.length_append,hBl]
  have hzS:=u5 qh rest
  have hzl2:=u6 hqh
  have cB:=fun (w' : World)=>Bw h hc (by omega) (by omega) w'
  have cC:=fun (bs bh ch : Nat) (w' : World) (M : List aG) (hw' : ah w S M w') (hb : aJ.ok w' ⟨some ⟨bh,0,none⟩,ch,dH h⟩) (hrow : ∃ ob,w'.heap[bs]?=some ob∧Row 27 [side.v,aJ.v ⟨some ⟨bh,0,none⟩,ch,dH h⟩] ob)=>mh side ⟨some ⟨bh,0,none⟩,ch,dH h⟩ bs w' (hside.off hw' hos) hb hrow (by show 0<side.l.length+(dH h).length;omega) (by show side.l.length+(dH h).length≤_;omega)
  let vs : Nat→((Nat × Nat × Nat) × Hq o.1)→Value:=fun j y=>match j with
    | 0=>.agg (key.map U8).toArray
    | 1=>.agg (x9.map U8).toArray
    | 2=>side.v
    | 3=>.agg (hdc h).toArray
    | 4=>.slice (some ⟨y.1.1,0,none⟩) 40 y.1.2.1
    | 5=>.slice (some ⟨y.1.1,0,none⟩) 2 2
    | 6=>.slice (some ⟨y.1.1,0,none⟩) (side.l++dH h).length y.1.2.1
    | 7=>aC qh rest.length
    | 8=>.tuple #[y.2.1.v,N o.2]
    | 9=>y.2.1.v
    | 10=>N o.2
    | 11=>y.2.1.v
    | 12=>N o.2
    | _=>N 0
  let Ms : Nat→((Nat × Nat × Nat) × Hq o.1)→List aG:=fun j y=>match j with
    | 4=>[⟨y.1.1,Sl.aE 5 1 40 y.1.2.1 ((dH h).map U8),true⟩]
    | 5=>[⟨y.1.1,Row 27 [side.v,.slice (some ⟨y.1.2.1,0,none⟩) 40 y.1.2.2],true⟩,⟨y.1.2.1,Sl.aE 5 1 40 y.1.2.2 ((dH h).map U8),true⟩]
    | 6=>[⟨y.1.1,Sl.aE 5 1 (side.l++dH h).length y.1.2.1 ((side.l++dH h).map U8),true⟩]
    | 8=>y.2.1.bW
    | 13=>[⟨b13,Row 23 (key.map U8),true⟩]
    | 14=>[⟨b10,Row 32 (hdc h),true⟩]
    | 15=>bS 5 qh (rest.map U8)
    | 16=>ff b q s
    | _=>[]
  refine JC.grow (g:=⟨[(0,Pt b 0),(1,side.v),(10,Pt b10 0),(11,aC qh rest.length),(13,Pt b13 0)],17,vs,Ms,(fun j=>match j with | 4=>[(3,36)] | 5=>[(2,35),(4,37)] | 6=>[(5,38)] | 8=>[(0,33),(1,34),(6,39),(7,40)] | 9=>[(8,41)] | 10=>[(8,41)] | 11=>[(9,42)] | 12=>[(10,43)] | _=>[]),(fun j=>match j with | 0=>[13] | 3=>[14] | 5=>[4] | 6=>[5] | 8=>[6,15] | _=>[]),(fun j=>match j with | 5=>[4] | _=>[]),(fun j=>match j with | 9=>some 8 | 11=>some 9 | _=>none)⟩) [(11,8),(12,9)] [8,16] gK (by repeat (first | exact ai.nil | refine ai.cons _ _ _ rfl ?_)) ?_ (by kernel_rfl) (by kernel_rfl) (by kernel_rfl) ?_ ?_
  · show an (_::_::(bS 5 qh (rest.map U8)++(ff b q s++[]))) _;exact .keep _ _ _ _ _ _ (fun _ h=>h) (.keep _ _ _ _ _ _ (fun _ h=>h) (mD (mD (.nil _) _) _))
  · refine ⟨?_,?_,?_,?_,?_,?_,?_,?_,?_,?_,?_,?_,?_,trivial⟩
    · (intro xx EF MF Q kk;(try refine JL.aV rfl rfl ?_);exact JL.q (OQ.af (cs:=key.map U8) aQ aB rfl .here hlk Row.all) rfl (JL.nil (kk default nofun)))
    · (intro xx EF MF Q kk;exact JL.q (OQ.pure (v:=.agg (x9.map U8).toArray) rfl rfl (by kernel_rfl)) rfl (JL.nil (kk default nofun)))
    · (intro xx EF MF Q kk;(try refine JL.aV rfl rfl ?_);exact JL.q (OQ.move rfl) rfl (JL.nil (kk default nofun)))
    · (intro xx EF MF Q kk;(try refine JL.aV rfl rfl ?_);exact JL.q (OQ.af (cs:=hdc h) CI qt rfl .here hl34 Row.all) rfl (JL.nil (kk default nofun)))
    · (intro xx EF MF Q kk;exact JL.bV (ι:=Nat × Nat) (vs:=[.agg (hdc h).toArray]) (fun x=>.slice (some ⟨x.1,0,none⟩) 40 x.2) (fun x=>[⟨x.1,Sl.aE 5 1 40 x.2 ((dH h).map U8),true⟩]) yf rfl rfl (fun i=>by simp) (fun w' hw'=>cB w') fun x=>JL.nil (kk ((x.1,x.2,0),default) nofun))
    · (intro xx EF MF Q kk;exact JL.ou (xs:=[.tmp 35,.tmp 37]) (vs:=[side.v,.slice (some ⟨(xx 4).1.1,0,none⟩) 40 (xx 4).1.2.1]) Tryz.underlying53 wY rfl rfl rfl rfl (by intro v hv;simp only [List.mem_cons,List.mem_nil_iff,or_false] at hv;rcases hv with rfl | rfl <;> rfl) rfl (by decide) (by decide) rfl fun b9 _=>JL.nil (kk ((b9,(xx 4).1.1,(xx 4).1.2.1),default) nofun))
    · (intro xx EF MF Q kk;exact JL.bV (ι:=Nat × Nat) (vs:=[.slice (some ⟨(xx 5).1.1,0,none⟩) 2 2]) (fun x=>.slice (some ⟨x.1,0,none⟩) (side.l++dH h).length x.2) (fun x=>[⟨x.1,Sl.aE 5 1 (side.l++dH h).length x.2 ((side.l++dH h).map U8),true⟩]) kM rfl rfl (fun i=>by simp) (fun w' hw'=>cC (xx 5).1.1 (xx 5).1.2.1 (xx 5).1.2.2 w' _ hw' (ep hw' (.there .here)) (by rw [show aJ.v ⟨some ⟨(xx 5).1.2.1,0,none⟩,(xx 5).1.2.2,dH h⟩=.slice (some ⟨(xx 5).1.2.1,0,none⟩) 40 (xx 5).1.2.2 by simp [aJ.v,hBl]];exact hw'.get .here)) fun x=>JL.nil (kk ((x.1,x.2,0),default) nofun))
    · (intro xx EF MF Q kk;(try refine JL.aV rfl rfl ?_);exact JL.q (OQ.move rfl) rfl (JL.nil (kk default nofun)))
    · (intro xx EF MF Q kk;exact JL.bV (ι:=Hq o.1) (vs:=[.agg (key.map U8).toArray,.agg (x9.map U8).toArray,.slice (some ⟨(xx 6).1.1,0,none⟩) (side.l++dH h).length (xx 6).1.2.1,aC qh rest.length]) (fun i=>.tuple #[i.1.v,N o.2]) (fun i=>i.1.bW) Ch rfl rfl (fun i=>aJ.gS _) (fun w' hw'=>CW (s:=⟨some ⟨(xx 6).1.1,0,none⟩,(xx 6).1.2.1,side.l++dH h⟩) (z:=u0 qh rest) rfl hzS (by rw [hzl2];exact hoK) hkl rfl (hT.g hw') (hT.q hw') (ep hw' .here) (u7 (e:=5) (M:=MF) (hw'.weak (J2 _ _ MF))) (by show (side.l++dH h).length<_;omega) (by rw [hzl2];omega)) fun i=>JL.nil (kk ((0,0,0),i) nofun))
    · (intro xx EF MF Q kk;(try refine JL.aV rfl rfl ?_);exact JL.q (OQ.extract rfl rfl) rfl (JL.nil (kk (xx 8) (fun k h=>by cases h;rfl))))
    · (intro xx EF MF Q kk;(try refine JL.aV rfl rfl ?_);exact JL.q (OQ.extract rfl rfl) rfl (JL.nil (kk default nofun)))
    · (intro xx EF MF Q kk;(try refine JL.aV rfl rfl ?_);exact JL.q (OQ.assign rfl) rfl (JL.nil (kk (xx 9) (fun k h=>by cases h;rfl))))
    · (intro xx EF MF Q kk;(try refine JL.aV rfl rfl ?_);exact JL.q (OQ.assign rfl) rfl (JL.nil (kk default nofun)))
  · intro xx hx
    have e1:=hx 11 9 (by decide) rfl
    have e2:=hx 9 8 (by decide) rfl
    show JE _ _ _ _ _ [(8,(xx 11).2.1.v),(9,N o.2),(0,Pt b 0),(1,side.v),(10,Pt b10 0),(11,aC qh rest.length),(13,Pt b13 0)] ((xx 8).2.1.bW++(ff b q s++[]))
    rw [e1,e2,List.append_nil]
    generalize (xx 8).2=x
    clear hx e1 e2 xx vs Ms
    repeat (refine JE.next ?_)
    refine JC.ret ?_
    skip
    by_cases ho : o.2=0
    · have hd:=hdy ho
      refine JE.gI rfl (RV.tmp rfl) (RV.tmp rfl) fun w' hw=>⟨⟨q,s,⟨x.1,by rw [hd];exact x.2⟩,hs,hq,fun _=>by rw [hd]⟩,Hr (by rw [hd,ho]),hw⟩
    · have hd:=hdn ho
      refine JE.gI rfl (RV.tmp rfl) (RV.tmp rfl) fun w' hw=>⟨⟨q,s,⟨x.1,by rw [hd,← hbad ho];exact x.2⟩,hs,hq,fun e=>absurd (by rw [hd] at e;exact e) ho⟩,Hr (by rw [hd]),hw⟩
structure Ni (o : bA × Bk × Nat) where
  q : Acc
  x : Hq o.2.1
  nil : q=none→o.1.kept=[]
theorem uN : aL Tryz.prog 12:=⟨_,Tryz.func12,rfl,by kernel_rfl⟩
theorem BE {s : bA} {side z fresh : Bk} (h : ¬ (fH s side z fresh).2.2=0) : (fH s side z fresh).1=s∧(fH s side z fresh).2.1=[]:=by
  cases hv : dy z with
  | none=>rw [oV hv];exact ⟨rfl,rfl⟩
  | some hr=>
    obtain ⟨hd,r⟩:=hr
    cases hm : jU s hd fresh with
    | inl c=>rw [mT hv hm];exact ⟨rfl,rfl⟩
    | inr nk=>
      obtain ⟨n,key⟩:=nk
      by_cases ho : (gL key (side++dH hd) r).2=0
      · rw [mU hv hm ho] at h
        exact absurd rfl h
      · rw [sJ hv hm ho]
        exact ⟨rfl,rfl⟩
set_option maxHeartbeats 32000000 in
theorem yp (s : bA) (k : nF) (hs : s.ok) (he : k.l=s.kept) (hk0 : s.kept.length≤2000) (ht0 : s.taken≤2147483648) (side z : aJ) (hsl : side.l.length≤1000000) (hzl : z.l.length≤1000000) (fresh : Bk) (hf : fresh.length=32) (w : World) (hG : g9 w) (hQ : GQ w) (hk : k.ok w) (hside : side.ok w) (hz : z.ok w) :
    Calls Tryz.prog 12 [.agg (sec s k.v).toArray,side.v,z.v,.agg (fresh.map U8).toArray].toArray w fun e w'=>∃ r : Ni (fH s side.l z.l fresh),e=.returned (.tuple #[.agg (sec (fH s side.l z.l fresh).1 (aC r.q (fH s side.l z.l fresh).1.kept.length)).toArray,r.x.1.v,N (fH s side.l z.l fresh).2.2])∧ah w [] (r.x.1.bW++fV r.q (fH s side.l z.l fresh).1.kept) w':=by
  have hlf : (fresh.map U8).length=32:=by rw [List.length_map];exact hf
  have hT:=Tb.nil hG hQ
  have hn:=ay hs k.v
  have hderr:=BE (s:=s) (side:=side.l) (z:=z.l) (fresh:=fresh)
  refine enter (n:=27) Tryz.func12 rfl rfl rfl (ah.start w []) ?_
  repeat (first | refine JC.seq ?_ | refine JC.region ?_)
  refine JL.box (r:=sec s k.v) rfl rfl rfl fun b4 _=>?_
  refine JL.box (r:=fresh.map U8) rfl rfl rfl fun b7 _=>?_
  refine JL.alloc uH rfl fun b8 _=>?_
  repeat (first | refine JL.q (by first|(apply OQ.af (cs:=sec s k.v);exact iy;exact dV;rfl;exact (.there (.there .here));exact hn;exact Row.all)|(apply OQ.assign;rfl)) rfl ?_ | refine JC.seq ?_ | refine JC.region ?_ | refine JL.nil ?_ | refine JE.next ?_)
  refine JL.bV (ι:=pX s.kept) (vs:=[.agg (sec s k.v).toArray]) (fun q=>.agg (sec s (aC q.1 s.kept.length)).toArray) (fun q=>fV q.1 s.kept) mq rfl rfl (fun q=>jC _ _) (fun w' hw'=>n5 s k hs w' (hk.holds hw' rfl) he (by omega)) ?_
  rintro ⟨q,hq⟩
  try dsimp only
  have hn2:=ay hs (aC q s.kept.length)
  refine JL.dG (M':=⟨b8,Row 26 (sec dm (.slice none 0 0)),true⟩::(fV q s.kept++[⟨b7,Row 23 (fresh.map U8),true⟩,⟨b4,Row 26 (sec s k.v),true⟩])) (by exact List.perm_middle) ?_
  refine JL.ag (cs:=sec s (aC q s.kept.length)) dV rfl rfl hn2 (bw (gw _ _)) .here (ay br _) ?_
  have hH7 : ∀ (e : aG) (A : List aG),Has (e::(A++[(⟨b7,Row 23 (fresh.map U8),true⟩ : aG),⟨b4,Row 26 (sec s k.v),true⟩])) b7 (Row 23 (fresh.map U8)) true:=fun e A=>.there (sQ A .here)
  repeat (first | refine JL.q (by first|(apply OQ.af (cs:=fresh.map U8);exact aQ;exact aB;rfl;exact (hH7 _ _);exact hlf;exact Row.all)|(apply OQ.move;rfl)) rfl ?_ | refine JC.seq ?_ | refine JC.region ?_ | refine JL.nil ?_ | refine JE.next ?_)
  refine JL.xh (M':=ff b8 q s++[⟨b7,Row 23 (fresh.map U8),true⟩,⟨b4,Row 26 (sec s k.v),true⟩]) (an.refl _) ?_
  refine JL.mj (ι:=NH (fH s side.l z.l fresh)) (vs:=[Pt b8 0,side.v,z.v,.agg (fresh.map U8).toArray]) (fun r=>.tuple #[r.x.1.v,N (fH s side.l z.l fresh).2.2]) (fun r=>r.x.1.bW++ff b8 r.q r.s) CY rfl rfl (eg _ _ _) (fun r e he=>?_) (fun w' hw' hx'=>FG b8 q s hs hq hk0 ht0 side z hsl hzl fresh hf w' (hT.own hw' (eg _ _ _)) (hside.holds hw' rfl) (BC hw' (eg _ _ _) hside (BD _)) (hz.holds hw' rfl) (BC hw' (eg _ _ _) hz (BD _)) hx') fun r=>?_
  · rcases List.mem_append.1 he with he | he
    · exact aJ.gS _ e he
    · exact eg _ _ _ e he
  obtain ⟨q2,s2,x,hs2,hq2,his⟩:=r
  dsimp only
  revert x
  revert his
  revert hderr
  generalize fH s side.l z.l fresh=o
  intro hderr his x
  repeat (first | refine JL.q (by first|(apply OQ.extract;rfl;rfl)|(apply OQ.move;rfl)|(apply OQ.assign;rfl)) rfl ?_ | refine JC.seq ?_ | refine JC.region ?_ | refine JL.nil ?_ | refine JE.next ?_)
  by_cases hc : o.2.2=0
  · have h1:=his hc
    subst h1
    have hn3:=ay hs2 (aC q2 o.1.kept.length)
    have hne : decide ((o.2.2 : Int)=0)=true:=decide_eq_true (by omega)
    have hH8 : Has ((x.1.bW++ff b8 q2 o.1)++[(⟨b7,Row 23 (fresh.map U8),true⟩ : aG),⟨b4,Row 26 (sec s k.v),true⟩]) b8 (Row 26 (sec o.1 (aC q2 o.1.kept.length))) true:=by
      rw [List.append_assoc]
      exact sQ _ .here
    repeat (first | refine JL.q (by (apply OQ.ta (a:=(o.2.2 : Int)) (b:=0);rfl;rfl;exact hne)) rfl ?_ | refine JL.nil ?_ | refine JE.next ?_)
    refine JC.cond_false rfl rfl ?_
    repeat (first | refine JL.q (by first|(apply OQ.af (cs:=sec o.1 (aC q2 o.1.kept.length));exact iy;exact dV;rfl;exact hH8;exact hn3;exact Row.all)|(apply OQ.move;rfl)) rfl ?_ | refine JC.seq ?_ | refine JC.region ?_ | refine JC.skip ?_ | refine JE.next ?_)
    refine JL.dG (M':=⟨b8,Row 26 (sec o.1 (aC q2 o.1.kept.length)),true⟩::(x.1.bW++(fV q2 o.1.kept++[⟨b7,Row 23 (fresh.map U8),true⟩,⟨b4,Row 26 (sec s k.v),true⟩]))) (by rw [List.append_assoc];exact List.perm_middle) ?_
    refine JL.ag (cs:=sec o.1 (aC q2 o.1.kept.length)) dV rfl rfl hn3 (bw (gw _ _)) .here hn3 ?_
    repeat (first | refine JL.q (by (apply OQ.assign;rfl)) rfl ?_ | refine JL.nil ?_ | refine JE.next ?_)
    refine JC.ret ?_
    skip
    refine JE.jG rfl (RV.av iy dV rfl .here hn3 Row.all) (RV.tmp rfl) (RV.tmp rfl) fun w' hw=>⟨⟨q2,x,hq2⟩,by rw [hc];rfl,hw.weak (.drop _ _ _ (mD (dN _ _) _))⟩
  · obtain ⟨h1,h2⟩:=hderr hc
    obtain ⟨o1,o2,o3⟩:=o
    dsimp only at h1 h2 hc his x ⊢
    have h1':=h1.symm
    subst h1' h2
    clear hderr his
    have hne : decide ((o3 : Int)=0)=false:=decide_eq_false (by omega)
    have hH4 : Has ((x.1.bW++ff b8 q2 s2)++[(⟨b7,Row 23 (fresh.map U8),true⟩ : aG),⟨b4,Row 26 (sec s k.v),true⟩]) b4 (Row 26 (sec s k.v)) true:=sQ _ (.there .here)
    have hn3:=ay hs2 (aC q2 s2.kept.length)
    repeat (first | refine JL.q (by (apply OQ.ta (a:=(o3 : Int)) (b:=0);rfl;rfl;exact hne)) rfl ?_ | refine JL.nil ?_ | refine JE.next ?_)
    refine JC.cond_true rfl rfl ?_
    repeat (first | refine JL.q (by (apply OQ.af (cs:=sec s k.v);exact iy;exact dV;rfl;exact hH4;exact hn;exact Row.all)) rfl ?_ | refine JC.seq ?_ | refine JC.region ?_)
    refine JL.bV (ι:=pX s.kept) (vs:=[.agg (sec s k.v).toArray]) (fun q=>.agg (sec s (aC q.1 s.kept.length)).toArray) (fun q=>fV q.1 s.kept) mq rfl rfl (fun q=>jC _ _) (fun w' hw'=>n5 s k hs w' (hk.holds hw' rfl) he (by omega)) ?_
    rintro ⟨q3,hq3⟩
    try dsimp only
    have hn4:=ay hs (aC q3 s.kept.length)
    refine JL.dG (M':=⟨b8,Row 26 (sec s2 (aC q2 s2.kept.length)),true⟩::(fV q3 s.kept++(x.1.bW++(fV q2 s2.kept++[⟨b7,Row 23 (fresh.map U8),true⟩,⟨b4,Row 26 (sec s k.v),true⟩])))) (by rw [List.append_assoc,← List.append_assoc];refine List.perm_middle.trans ?_;rw [List.append_assoc];exact List.Perm.refl _) ?_
    repeat (refine JL.q (by (apply OQ.move;rfl)) rfl ?_)
    refine JL.ag (cs:=sec s (aC q3 s.kept.length)) dV rfl rfl hn4 (bw (gw _ _)) .here hn3 ?_
    repeat (first | refine JL.q (by (apply OQ.assign;rfl)) rfl ?_ | refine JL.nil ?_ | refine JE.next ?_)
    refine JC.ret ?_
    repeat (refine JE.aK ?_)
    refine JE.jG rfl (RV.av iy dV rfl .here hn4 Row.all) (RV.tmp rfl) (RV.tmp rfl) fun w' hw=>⟨⟨q3,J3 rfl,hq3⟩,rfl,hw.weak (.drop _ _ _ (dN _ _))⟩
end
section
set_option maxRecDepth 10000
open Sl ij mF dW ng
open qv (Bk)
abbrev aP : Value:=.slice none 0 0
theorem Hs {l : List Value} {i : Nat} {v : Value} (h : i<l.length) : l.take i++[v]++l.drop (i+1)=l.set i v:=by
  rw [List.set_eq_take_append_cons_drop,if_pos h,List.append_assoc]
  rfl
theorem CZ (own other : Bk) (h1 : own.length=32) (h2 : other.length=32) : Tryz.prog.built 26 ([1,2,3].zip [.agg (own.map U8).toArray,.agg (other.map U8).toArray,.bool true])=some (sec ⟨dU,own,other,true,false,dU,dU,0,0,0,[]⟩ aP).toArray:=by
  have h : Tryz.prog.built 26 ([1,2,3].zip [.agg (own.map U8).toArray,.agg (other.map U8).toArray,.bool true])=Instr.fill (fun i=>#[(0,32),(32,32),(64,32),(96,1),(97,1),(98,32),(130,32),(162,1),(163,1),(164,1),(165,1)][i]?) (sec dm aP).toArray [(1,.agg (own.map U8).toArray),(2,.agg (other.map U8).toArray),(3,.bool true)]:=by kernel_rfl
  have k1 : ({ dm with own:=own } : bA).ok:=⟨rfl,h1,rfl,rfl,rfl,nofun⟩
  have k2 : ({ dm with own:=own,other:=other } : bA).ok:=⟨rfl,h1,h2,rfl,rfl,nofun⟩
  have p1:=jg br aP own h1
  have p2:=jr k1 aP other h2
  have p3:=js k2 aP true
  rw [List.length_map,h1] at p1
  rw [List.length_map,h2] at p2
  rw [h,dF (off:=32) (sz:=32) (cs:=own.map U8) rfl rfl (by simp [h1]) (by rw [ay br];decide),p1,dF (off:=64) (sz:=32) (cs:=other.map U8) rfl rfl (by simp [h2]) (by rw [ay k1];decide),p2,dF (off:=96) (sz:=1) (cs:=[.bool true]) rfl rfl rfl (by rw [ay k2];decide),Hs (by rw [ay k2];decide),p3]
  rfl
theorem Al (root own : Bk) (h1 : root.length=32) (h2 : own.length=32) : Tryz.prog.built 26 ([0,1].zip [.agg (root.map U8).toArray,.agg (own.map U8).toArray])=some (sec (dI root own) aP).toArray:=by
  have h : Tryz.prog.built 26 ([0,1].zip [.agg (root.map U8).toArray,.agg (own.map U8).toArray])=Instr.fill (fun i=>#[(0,32),(32,32),(64,32),(96,1),(97,1),(98,32),(130,32),(162,1),(163,1),(164,1),(165,1)][i]?) (sec dm aP).toArray [(0,.agg (root.map U8).toArray),(1,.agg (own.map U8).toArray)]:=by kernel_rfl
  have k1 : ({ dm with root:=root } : bA).ok:=⟨h1,rfl,rfl,rfl,rfl,nofun⟩
  have p1:=fC br aP root h1
  have p2:=jg k1 aP own h2
  rw [List.length_map,h1] at p1
  rw [List.length_map,h2] at p2
  rw [h,dF (off:=0) (sz:=32) (cs:=root.map U8) rfl rfl (by simp [h1]) (by rw [ay br];decide),p1,dF (off:=32) (sz:=32) (cs:=own.map U8) rfl rfl (by simp [h2]) (by rw [ay k1];decide),p2]
  rfl
theorem sR : aL Tryz.prog 16:=⟨_,Tryz.func16,rfl,by kernel_rfl⟩
theorem qu : aL Tryz.prog 17:=⟨_,Tryz.func17,rfl,by kernel_rfl⟩
set_option maxHeartbeats 8000000 in
theorem sS (root own Y : Bk) (h1 : root.length=32) (h2 : own.length=32) (h3 : Y.length=32) (w : World) : Calls Tryz.prog 17 [.agg (root.map U8).toArray,.agg ((own++Y).map U8).toArray].toArray w fun e w'=>e=.returned (.agg (sec (dI root own) aP).toArray)∧Ext w w':=by
  have l1 : (root.map U8).length=32:=by rw [List.length_map];exact h1
  have l2 : (own.map U8).length=32:=by rw [List.length_map];exact h2
  have i0:=Fc (b:=Y) h2
  have hb:=Al root own h1 h2
  have hn:=ay (nZ root own h1 h2) aP
  refine enter (n:=9) Tryz.func17 rfl rfl rfl (ah.start w []) ?_
  repeat (first | refine JC.seq ?_ | refine JC.region ?_)
  refine JL.box (r:=root.map U8) rfl rfl rfl fun b2 _=>?_
  refine JL.box (r:=(own++Y).map U8) rfl rfl rfl fun b3 _=>?_
  refine JL.alloc uH rfl fun b4 _=>?_
  repeat (first | refine JL.q (by first|(apply OQ.af (cs:=root.map U8);exact aQ;exact aB;rfl;exact (.there (.there .here));exact l1;exact Row.all)|(apply OQ.af (cs:=own.map U8);exact aQ;exact aB;rfl;exact (.there .here);exact l2;exact (Row.cells i0))|(apply OQ.bM;rfl;rfl;rfl;exact (by decide);rfl)) rfl ?_ | refine JC.seq ?_ | refine JC.region ?_ | refine JL.nil ?_ | refine JE.next ?_)
  refine JL.q (OQ.mu (cs:=sec (dI root own) aP) [0,1] [.tmp 5,.tmp 7] (vs:=[.agg (root.map U8).toArray,.agg (own.map U8).toArray]) rfl rfl hb) rfl ?_
  refine JL.ag (cs:=sec (dI root own) aP) dV rfl rfl hn (bw rfl) .here (ay br _) ?_
  repeat (first | refine JL.nil ?_ | refine JE.next ?_)
  refine JC.ret (JE.aR rfl (RV.av iy dV rfl .here hn Row.all) ?_)
  exact fun w' hw=>⟨rfl,hw.aM⟩
set_option maxHeartbeats 16000000 in
theorem uO (root own Y other : Bk) (h1 : root.length=32) (h2 : own.length=32) (h3 : Y.length=32) (h4 : other.length=32) (w : World) (hG : g9 w) : Calls Tryz.prog 16 [.agg (root.map U8).toArray,.agg ((own++Y).map U8).toArray,.agg (other.map U8).toArray].toArray w fun e w'=>e=.returned (.agg (sec (de root own other) aP).toArray)∧Ext w w':=by
  have l1 : (root.map U8).length=32:=by rw [List.length_map];exact h1
  have l2 : (own.map U8).length=32:=by rw [List.length_map];exact h2
  have l4 : (other.map U8).length=32:=by rw [List.length_map];exact h4
  have lp : ((own++Y).map U8).length=64:=by rw [List.length_map,List.length_append,h2,h3]
  have i0:=Fc (b:=Y) h2
  have hb:=CZ own other h2 h4
  have hok:=pT root own other h2 h4
  have hn:=ay hok aP
  have hm:=v7 own other
  have cS:=fun (w' : World)=>x8 own Y other h2 h3 h4 w'
  have cT:=fun (w' : World) (hG : g9 w')=>wk root (aH own other) h1 hm w' hG
  have hfd : de root own other=⟨cr root (aH own other),own,other,true,false,dO root (aH own other),dU,0,0,0,[]⟩:=rfl
  have la:=fG root (aH own other)
  have lc:=eV root (aH own other)
  rw [hfd] at hn hok ⊢
  clear hfd
  generalize cr root (aH own other)=tA at *
  generalize dO root (aH own other)=tC at *
  generalize aH own other=m at *
  have lA : (tA.map U8).length=32:=by rw [List.length_map];exact la
  have lC : (tC.map U8).length=32:=by rw [List.length_map];exact lc
  have k0 : (⟨dU,own,other,true,false,dU,dU,0,0,0,[]⟩ : bA).ok:=⟨rfl,h2,h4,rfl,rfl,nofun⟩
  have k1 : (⟨tA,own,other,true,false,dU,dU,0,0,0,[]⟩ : bA).ok:=⟨la,h2,h4,rfl,rfl,nofun⟩
  have p0:=fC k0 aP tA la
  have p1:=iA k1 aP tC lc
  have n0:=ay k0 aP
  have n1:=ay k1 aP
  refine enter (n:=23) Tryz.func16 rfl rfl rfl (ah.start w []) ?_
  repeat (first | refine JC.seq ?_ | refine JC.region ?_)
  refine JL.box (r:=root.map U8) rfl rfl rfl fun b3 _=>?_
  refine JL.box (r:=(own++Y).map U8) rfl rfl rfl fun b4 _=>?_
  refine JL.box (r:=other.map U8) rfl rfl rfl fun b5 _=>?_
  refine JL.alloc uH rfl fun b6 _=>?_
  repeat (first | refine JL.q (by first|(apply OQ.af (cs:=own.map U8);exact aQ;exact aB;rfl;exact (.there (.there .here));exact l2;exact (Row.cells i0))|(apply OQ.af (cs:=other.map U8);exact aQ;exact aB;rfl;exact (.there .here);exact l4;exact Row.all)|(apply OQ.bM;rfl;rfl;rfl;exact (by decide);rfl)) rfl ?_ | refine JC.seq ?_ | refine JC.region ?_ | refine JL.nil ?_ | refine JE.next ?_)
  refine JL.q (OQ.mu (cs:=sec ⟨dU,own,other,true,false,dU,dU,0,0,0,[]⟩ aP) [1,2,3] [.tmp 9,.tmp 10,.const (.bool true)] (vs:=[.agg (own.map U8).toArray,.agg (other.map U8).toArray,.bool true]) rfl rfl hb) rfl ?_
  refine JL.alloc uH rfl fun b7 _=>?_
  refine JL.ag (cs:=sec ⟨dU,own,other,true,false,dU,dU,0,0,0,[]⟩ aP) dV rfl rfl n0 (bw rfl) .here (ay br _) ?_
  repeat (first | refine JC.seq ?_ | refine JL.nil ?_ | refine JE.next ?_)
  let vs : Nat→Nat→Value:=fun j y=>match j with
    | 0=>.agg (root.map U8).toArray
    | 1=>.agg ((own++Y).map U8).toArray
    | 2=>.agg (other.map U8).toArray
    | 3=>.agg (m.map U8).toArray
    | 4=>.tuple #[.agg (tA.map U8).toArray,.agg (tC.map U8).toArray]
    | 5=>.tuple #[.agg (tA.map U8).toArray,.agg (tC.map U8).toArray]
    | 6=>.agg (tA.map U8).toArray
    | 7=>.agg (tC.map U8).toArray
    | 8=>Pt b7 0
    | 10=>Pt b7 98
    | _=>N 0
  let Ms : Nat→Nat→List aG:=fun j y=>match j with
    | 9=>[⟨b7,Row 26 (sec ⟨tA,own,other,true,false,dU,dU,0,0,0,[]⟩ aP),true⟩]
    | 11=>[⟨b7,Row 26 (sec ⟨tA,own,other,true,false,tC,dU,0,0,0,[]⟩ aP),true⟩]
    | 12=>[⟨b7,Row 26 (sec ⟨dU,own,other,true,false,dU,dU,0,0,0,[]⟩ aP),true⟩]
    | 13=>[⟨b6,Row 26 (sec dm aP),true⟩]
    | 14=>[⟨b5,Row 23 (other.map U8),true⟩]
    | 15=>[⟨b4,Row 46 ((own++Y).map U8),true⟩]
    | 16=>[⟨b3,Row 23 (root.map U8),true⟩]
    | _=>[]
  refine JC.grow (g:=⟨[(3,Pt b3 0),(4,Pt b4 0),(5,Pt b5 0),(6,Pt b6 0),(7,Pt b7 0)],17,vs,Ms,(fun j=>match j with | 3=>[(1,14),(2,15)] | 4=>[(0,13),(3,16)] | 5=>[(4,17)] | 6=>[(5,12)] | 7=>[(5,12)] | 9=>[(8,20),(6,18)] | 11=>[(10,21),(7,19)] | _=>[]),(fun j=>match j with | 0=>[16] | 1=>[15] | 2=>[14] | 9=>[12] | 11=>[9] | _=>[]),(fun j=>match j with | 9=>[12] | 11=>[9] | _=>[]),(fun j=>match j with | _=>none)⟩) [] [11,13] gK (by repeat (first | exact ai.nil | refine ai.cons _ _ _ rfl ?_)) ?_ (by kernel_rfl) (by kernel_rfl) (by kernel_rfl) ?_ ?_
  · exact an.refl _
  · refine ⟨?_,?_,?_,?_,?_,?_,?_,?_,?_,?_,?_,?_,trivial⟩
    · (intro xx EF MF Q kk;(try refine JL.aV rfl rfl ?_);exact JL.q (OQ.af (cs:=root.map U8) aQ aB rfl .here l1 Row.all) rfl (JL.nil (kk default nofun)))
    · (intro xx EF MF Q kk;(try refine JL.aV rfl rfl ?_);exact JL.q (OQ.af (cs:=(own++Y).map U8) Fb x7 rfl .here lp Row.all) rfl (JL.nil (kk default nofun)))
    · (intro xx EF MF Q kk;(try refine JL.aV rfl rfl ?_);exact JL.q (OQ.af (cs:=other.map U8) aQ aB rfl .here l4 Row.all) rfl (JL.nil (kk default nofun)))
    · (intro xx EF MF Q kk;(try refine JL.aV rfl rfl ?_);exact JL.q (OQ.au (vs:=[.agg ((own++Y).map U8).toArray,.agg (other.map U8).toArray]) vY rfl fun w' _=>cS w') rfl (JL.nil (kk default nofun)))
    · (intro xx EF MF Q kk;(try refine JL.aV rfl rfl ?_);exact JL.q (OQ.au (vs:=[.agg (root.map U8).toArray,.agg (m.map U8).toArray]) sM rfl fun w' hw'=>cT w' (hG.aM hw'.aM (by simp))) rfl (JL.nil (kk default nofun)))
    · (intro xx EF MF Q kk;(try refine JL.aV rfl rfl ?_);exact JL.q (OQ.move rfl) rfl (JL.nil (kk default nofun)))
    · (intro xx EF MF Q kk;(try refine JL.aV rfl rfl ?_);exact JL.q (OQ.extract rfl rfl) rfl (JL.nil (kk default nofun)))
    · (intro xx EF MF Q kk;(try refine JL.aV rfl rfl ?_);exact JL.q (OQ.extract rfl rfl) rfl (JL.nil (kk default nofun)))
    · (intro xx EF MF Q kk;(try refine JL.aV rfl rfl ?_);exact JL.q (OQ.bM rfl rfl rfl (by decide) rfl) rfl (JL.nil (kk default nofun)))
    · (intro xx EF MF Q kk;exact JL.aW (r:=sec ⟨dU,own,other,true,false,dU,dU,0,0,0,[]⟩ aP) (r':=sec ⟨tA,own,other,true,false,dU,dU,0,0,0,[]⟩ aP) aB rfl rfl lA (aU _) .here (by rw [n0,lA];decide) p0 (JL.nil (kk default nofun)))
    · (intro xx EF MF Q kk;(try refine JL.aV rfl rfl ?_);exact JL.q (OQ.bM rfl rfl rfl (by decide) rfl) rfl (JL.nil (kk default nofun)))
    · (intro xx EF MF Q kk;exact JL.aW (r:=sec ⟨tA,own,other,true,false,dU,dU,0,0,0,[]⟩ aP) (r':=sec ⟨tA,own,other,true,false,tC,dU,0,0,0,[]⟩ aP) aB rfl rfl lC (aU _) .here (by rw [n1,lC];decide) p1 (JL.nil (kk default nofun)))
  · intro xx hx
    show JE _ _ _ _ _ [(3,Pt b3 0),(4,Pt b4 0),(5,Pt b5 0),(6,Pt b6 0),(7,Pt b7 0)] [⟨b7,Row 26 (sec ⟨tA,own,other,true,false,tC,dU,0,0,0,[]⟩ aP),true⟩,⟨b6,Row 26 (sec dm aP),true⟩]
    clear hx xx vs Ms
    repeat (first | refine JL.q (by (apply OQ.af (cs:=sec ⟨tA,own,other,true,false,tC,dU,0,0,0,[]⟩ aP);exact iy;exact dV;rfl;exact .here;exact hn;exact Row.all)) rfl ?_ | refine JC.seq ?_ | refine JC.region ?_ | refine JE.next ?_)
    refine JL.ag (cs:=sec ⟨tA,own,other,true,false,tC,dU,0,0,0,[]⟩ aP) dV rfl rfl hn (bw rfl) (.there .here) (ay br _) ?_
    repeat (first | refine JL.nil ?_ | refine JE.next ?_)
    refine JC.ret (JE.aR rfl (RV.av iy dV rfl (.there .here) hn Row.all) ?_)
    exact fun w' hw=>⟨rfl,hw.aM⟩
structure LN (o : bA × Bk × Nat) where
  q : Acc
  x : Acc
  nil : q=none→o.1.kept=[]
  xn : x=none→o.2.1=[]
theorem pZ : aL Tryz.prog 18:=⟨_,Tryz.func18,rfl,by kernel_rfl⟩
theorem FH {s : bA} (h : s.bZ=false) (side p : Bk) : jA s side p=(s,[],13):=by rw [jA,if_pos h]
theorem Ht {s : bA} (h : s.bZ=true) (h2 : 2147483647≤s.sent) (side p : Bk) : jA s side p=(s,[],12):=by rw [jA,if_neg (by rw [h];decide),if_pos h2]
theorem wm {s : bA} (h : s.bZ=true) (h2 : ¬ 2147483647≤s.sent) (side p : Bk) : jA s side p=(ya s,sD s side p,0):=by rw [jA,if_neg (by rw [h];decide),if_neg h2]
set_option maxHeartbeats 32000000 in
theorem yq (s : bA) (k : nF) (hs : s.ok) (he : k.l=s.kept) (hk0 : s.kept.length≤1000000) (hst : s.sent≤2147483648) (hpv : s.prev≤2147483648) (side p : aJ) (hsl : side.l.length≤1000000) (hpl : p.l.length≤1000000) (w : World) (hG : g9 w) (hQ : GQ w) (hk : k.ok w) (hside : side.ok w) (hp : p.ok w) :
    Calls Tryz.prog 18 [.agg (sec s k.v).toArray,side.v,p.v].toArray w fun e w'=>∃ r : LN (jA s side.l p.l),e=.returned (.tuple #[.agg (sec (jA s side.l p.l).1 (aC r.q (jA s side.l p.l).1.kept.length)).toArray,aC r.x (jA s side.l p.l).2.1.length,N (jA s side.l p.l).2.2])∧ah w [] (bS 5 r.x ((jA s side.l p.l).2.1.map U8)++fV r.q (jA s side.l p.l).1.kept) w':=by
  have hn:=ay hs k.v
  refine enter (n:=55) Tryz.func18 rfl rfl rfl (ah.start w []) ?_
  repeat (first | refine JC.seq ?_ | refine JC.region ?_)
  refine JL.box (r:=sec s k.v) rfl rfl rfl fun b3 _=>?_
  refine JL.alloc uH rfl fun b6 _=>?_
  repeat (first | refine JL.q (by first|(apply OQ.af (cs:=sec s k.v);exact iy;exact dV;rfl;exact (.there .here);exact hn;exact Row.all)|(apply OQ.assign;rfl)) rfl ?_ | refine JC.seq ?_ | refine JC.region ?_ | refine JL.nil ?_ | refine JE.next ?_)
  refine JL.bV (ι:=pX s.kept) (vs:=[.agg (sec s k.v).toArray]) (fun q=>.agg (sec s (aC q.1 s.kept.length)).toArray) (fun q=>fV q.1 s.kept) mq rfl rfl (fun q=>jC _ _) (fun w' hw'=>n5 s k hs w' (hk.holds hw' rfl) he hk0) ?_
  rintro ⟨q,hq⟩
  try dsimp only
  obtain ⟨kv,hkv⟩ : ∃ kv,aC q s.kept.length=kv:=⟨_,rfl⟩
  have hkv1 : kv.oneCell'=true:=by rw [← hkv];exact gw _ _
  rw [hkv]
  have hn2:=ay hs kv
  refine JL.dG (M':=⟨b6,Row 26 (sec dm (.slice none 0 0)),true⟩::⟨b3,Row 26 (sec s k.v),true⟩::fV q s.kept) (by exact List.perm_append_comm (l₂:=[_,_])) ?_
  refine JL.ag (cs:=sec s kv) dV rfl rfl hn2 (bw hkv1) .here (ay br _) ?_
  cases hse : s.bZ
  · have hd:=FH hse side.l p.l
    have hld : ∀ o,Row 26 (sec s k.v) o→cellAt o 96=some (.bool false):=by rw [← hse];exact Row.cell (mE hs _)
    rw [hd]
    repeat (first | refine JL.q (by first|(apply OQ.load;exact gv;rfl;exact (.there .here);exact hld)|(apply OQ.not;rfl)|(apply OQ.bM;rfl;rfl;rfl;exact (by decide);rfl)) rfl ?_ | refine JC.seq ?_ | refine JC.region ?_ | refine JL.nil ?_ | refine JE.next ?_)
    refine JC.cond_true rfl rfl ?_
    repeat (first | refine JL.q (by (apply OQ.af (cs:=sec s kv);exact iy;exact dV;rfl;exact .here;exact hn2;exact Row.all)) rfl ?_ | refine JC.seq ?_ | refine JC.region ?_)
    refine JL.ag (cs:=sec s kv) dV rfl rfl hn2 (bw hkv1) .here hn2 ?_
    repeat (first | refine JL.q (by (apply OQ.assign;rfl)) rfl ?_ | refine JL.nil ?_ | refine JE.next ?_)
    refine JC.ret ?_
    repeat (refine JE.aK ?_)
    exact JE.jG rfl (RV.av iy dV rfl .here hn2 Row.all) (RV.tmp rfl) (RV.tmp rfl) fun w' hw=>⟨⟨q,none,hq,fun _=>rfl⟩,by rw [← hkv];rfl,hw.weak (.drop _ _ _ (.drop _ _ _ (an.refl _)))⟩
  have hld : ∀ o,Row 26 (sec s k.v) o→cellAt o 96=some (.bool true):=by rw [← hse];exact Row.cell (mE hs _)
  have hsn : ∀ o,Row 26 (sec s k.v) o→cellAt o 162=some (N s.sent):=Row.cell (jI hs _)
  by_cases hmx : 2147483647≤s.sent
  · have hd:=Ht hse hmx side.l p.l
    have hge : decide ((2147483647 : Int)≤((s.sent : Nat) : Int))=true:=decide_eq_true (by omega)
    rw [hd]
    repeat (first | refine JL.q (by first|(apply OQ.load;exact gv;rfl;exact (.there .here);exact hld)|(apply OQ.not;rfl)|(apply OQ.bM;rfl;rfl;rfl;exact (by decide);rfl)) rfl ?_ | refine JC.seq ?_ | refine JC.region ?_ | refine JL.nil ?_ | refine JE.next ?_)
    refine JC.cond_false rfl rfl ?_
    repeat (first | refine JL.q (by first|(apply OQ.load;exact bB;rfl;exact (.there .here);exact hsn)|(apply OQ.BL (a:=((s.sent : Nat) : Int)) (b:=2147483647);rfl;rfl;exact hge)|(apply OQ.bM;rfl;rfl;rfl;exact (by decide);rfl)) rfl ?_ | refine JC.seq ?_ | refine JC.region ?_ | refine JC.skip ?_ | refine JL.nil ?_ | refine JE.next ?_)
    refine JC.cond_true rfl rfl ?_
    repeat (first | refine JL.q (by (apply OQ.af (cs:=sec s kv);exact iy;exact dV;rfl;exact .here;exact hn2;exact Row.all)) rfl ?_ | refine JC.seq ?_ | refine JC.region ?_)
    refine JL.ag (cs:=sec s kv) dV rfl rfl hn2 (bw hkv1) .here hn2 ?_
    repeat (first | refine JL.q (by (apply OQ.assign;rfl)) rfl ?_ | refine JL.nil ?_ | refine JE.next ?_)
    refine JC.ret ?_
    repeat (refine JE.aK ?_)
    exact JE.jG rfl (RV.av iy dV rfl .here hn2 Row.all) (RV.tmp rfl) (RV.tmp rfl) fun w' hw=>⟨⟨q,none,hq,fun _=>rfl⟩,by rw [← hkv];rfl,hw.weak (.drop _ _ _ (.drop _ _ _ (an.refl _)))⟩
  have hd:=wm hse hmx side.l p.l
  have hge : decide ((2147483647 : Int)≤((s.sent : Nat) : Int))=false:=decide_eq_false (by omega)
  rw [hd]
  repeat (first | refine JL.q (by first|(apply OQ.load;exact gv;rfl;exact (.there .here);exact hld)|(apply OQ.not;rfl)|(apply OQ.bM;rfl;rfl;rfl;exact (by decide);rfl)) rfl ?_ | refine JC.seq ?_ | refine JC.region ?_ | refine JL.nil ?_ | refine JE.next ?_)
  refine JC.cond_false rfl rfl ?_
  repeat (first | refine JL.q (by first|(apply OQ.load;exact bB;rfl;exact (.there .here);exact hsn)|(apply OQ.BL (a:=((s.sent : Nat) : Int)) (b:=2147483647);rfl;rfl;exact hge)|(apply OQ.bM;rfl;rfl;rfl;exact (by decide);rfl)) rfl ?_ | refine JC.seq ?_ | refine JC.region ?_ | refine JC.skip ?_ | refine JL.nil ?_ | refine JE.next ?_)
  refine JC.cond_false rfl rfl ?_
  have hlo : (s.own.map U8).length=32:=by rw [List.length_map];exact hs.own
  have hls : (s.send.map U8).length=32:=by rw [List.length_map];exact hs.send
  have hpl1:=sE s
  have hH:=sE s
  have hBl:=kf hH
  have hhb:=ym (fj s.own) s.prev s.sent (ie _)
  have cP:=fun (w' : World)=>qp s.own hs.own w'
  have cB:=fun (w' : World)=>Bw (sC s) hH (show s.prev<_ by omega) (show s.sent<_ by omega) w'
  have hpr : ∀ o,Row 26 (sec s k.v) o→cellAt o 164=some (N s.prev):=Row.cell (rA hs _)
  have cP2 : ∀ w',Calls Tryz.prog 33 [.agg (s.own.map U8).toArray].toArray w' fun e w''=>e=.returned (.agg ((fj s.own).map U8).toArray)∧Ext w' w'':=cP
  clear cP
  have hEe : sD s side.l p.l=dH (sC s)++ng.iw (jX s.send) (side.l++dH (sC s)) p.l:=rfl
  rw [hEe]
  have hEq : sC s=⟨fj s.own,s.prev,s.sent⟩:=rfl
  rw [← hEq] at hhb
  generalize fj s.own=pk at *
  generalize hHe : sC s=h at *
  repeat (first | refine JC.seq ?_ | refine JC.skip ?_ | refine JE.next ?_)
  refine JC.tail 8 gK (by kernel_rfl) ?_
  simp only [List.take_succ_cons,List.take_zero,List.drop_succ_cons,List.drop_zero]
  repeat (refine JQ.q (by first|(apply OQ.af (cs:=s.own.map U8);exact aQ;exact aB;rfl;exact (.there .here);exact hlo;exact (Row.cells (j7 hs _)))|(apply OQ.au (vs:=[.agg (s.own.map U8).toArray]);exact oS;rfl;exact (fun w' _=>cP2 w'))|(apply OQ.load;exact bB;rfl;exact (.there .here);exact hpr)|(apply OQ.load;exact bB;rfl;exact (.there .here);exact hsn)|(apply OQ.bM;rfl;rfl;rfl;exact (by decide);rfl)) rfl ?_)
  refine JQ.q (OQ.mu (cs:=hdc h) [0,1,2] [.tmp 24,.tmp 26,.tmp 28] (vs:=[.agg (pk.map U8).toArray,N s.prev,N s.sent]) rfl rfl hhb) rfl ?_
  repeat (refine JQ.bC ?_)
  refine JL.bV (ι:=Nat × Nat) (vs:=[.agg (hdc h).toArray]) (fun x=>.slice (some ⟨x.1,0,none⟩) 40 x.2) (fun x=>[⟨x.1,Sl.aE 5 1 40 x.2 ((dH h).map U8),true⟩]) yf rfl rfl (fun i=>by simp) (fun w' hw'=>cB w') ?_
  rintro ⟨bh,ch⟩
  try dsimp only
  repeat (first | refine JL.q (by (apply OQ.assign;rfl)) rfl ?_ | refine JC.seq ?_ | refine JC.region ?_ | refine JL.nil ?_ | refine JE.next ?_)
  refine JL.alloc hU rfl fun b10 _=>?_
  have hst2 : ∀ (w' : World) (M : List aG) (hw : ah w [] M w'),Calls Tryz.prog 37 [.agg (s.send.map U8).toArray].toArray w' fun e w''=>e=.returned (.tuple #[.agg ((m5 s.send).map U8).toArray,.agg ((jX s.send).map U8).toArray])∧Ext w' w'':=fun w' M hw=>uG s.send hs.send w' (hG.aM hw.aM (by simp))
  have k1 : ({ s with send:=m5 s.send } : bA).ok:=⟨hs.root,hs.own,hs.other,rfl,hs.take,hs.kept⟩
  have p1:=iA hs kv (m5 s.send) rfl
  have k2:=v8 hs
  have p2:=j8 k1 kv (s.sent+1)
  have hn3:=ay k1 kv
  have hn4:=ay k2 kv
  have hR : ya s={ s with send:=m5 s.send,sent:=s.sent+1 }:=rfl
  rw [hR] at hn4 ⊢
  have hl5 : ((m5 s.send).map U8).length=32:=rfl
  have hl6 : ((jX s.send).map U8).length=32:=rfl
  have hkm : (jX s.send).length=32:=rfl
  clear hR k2
  generalize m5 s.send=nx at *
  generalize jX s.send=ms at *
  have hse2 : ∀ o,Row 26 (sec { s with send:=nx } kv) o→cellAt o 162=some (N s.sent):=Row.cell (jI k1 _)
  repeat (first | refine JL.q (by first|(apply OQ.af (cs:=s.send.map U8);exact aQ;exact aB;rfl;exact (.there (.there (.there .here)));exact hls;exact (Row.cells (rz hs _)))|(apply OQ.au (vs:=[.agg (s.send.map U8).toArray]);exact rK;rfl;exact (fun w' hw'=>hst2 w' _ hw'))|(apply OQ.extract;rfl;rfl)|(apply OQ.move;rfl)|(apply OQ.bM;rfl;rfl;rfl;exact (by decide);rfl)) rfl ?_ | refine JC.seq ?_ | refine JC.region ?_ | refine JL.nil ?_ | refine JE.next ?_)
  refine JL.aW (r:=sec s kv) (r':=sec { s with send:=nx } kv) aB rfl rfl hl5 (aU _) (.there (.there .here)) (by rw [hn2,hl5];decide) p1 ?_
  refine JL.ag (cs:=ms.map U8) aB rfl rfl hl6 (aU _) .here (by simp) ?_
  repeat (first | refine JL.q (by first|(apply OQ.load;exact bB;rfl;exact (.there (.there .here));exact hse2)|(apply OQ.aY (a:=s.sent) (b:=1);rfl;rfl;exact (by omega))|(apply OQ.bM;rfl;rfl;rfl;exact (by decide);rfl)) rfl ?_ | refine JC.seq ?_ | refine JC.region ?_ | refine JL.nil ?_ | refine JE.next ?_)
  refine JL.az (r:=sec { s with send:=nx } kv) (r':=sec { s with send:=nx,sent:=s.sent+1 } kv) nE rfl rfl rfl rfl (.there (.there .here)) (by rw [hn3];decide) p2 ?_
  repeat (first | refine JC.seq ?_ | refine JL.nil ?_ | refine JE.next ?_)
  have hsK : jk (Go.Proofs.YtgkninhgcpbfnaaGreatDoor.k1 ms) (Go.Proofs.YtgkninhgcpbfnaaGreatDoor.k2 ms) x9 (side.l++dH h) p.l=ng.iw ms (side.l++dH h) p.l:=rfl
  have hsKl : (ng.iw ms (side.l++dH h) p.l).length=p.l.length+32:=iB _ _ _ _ _
  have hWl : (side.l++dH h).length=side.l.length+40:=by rw [List.length_append,hBl]
  have cC:=fun (bs : Nat) (w' : World) (M : List aG) (hw' : ah w [] M w') (hb : aJ.ok w' ⟨some ⟨bh,0,none⟩,ch,dH h⟩) (hrow : ∃ ob,w'.heap[bs]?=some ob∧Row 27 [side.v,aJ.v ⟨some ⟨bh,0,none⟩,ch,dH h⟩] ob)=>mh side ⟨some ⟨bh,0,none⟩,ch,dH h⟩ bs w' (hside.holds hw' rfl) hb hrow (by show 0<side.l.length+(dH h).length;omega) (by show side.l.length+(dH h).length≤_;omega)
  have hbv : aJ.v ⟨some ⟨bh,0,none⟩,ch,dH h⟩=.slice (some ⟨bh,0,none⟩) 40 ch:=by simp [aJ.v,hBl]
  rw [hbv] at cC
  generalize ng.iw ms (side.l++dH h) p.l=Z at *
  let vs : Nat→(Nat × Nat)→Value:=fun j y=>match j with
    | 0=>.agg (ms.map U8).toArray
    | 1=>.agg (x9.map U8).toArray
    | 2=>side.v
    | 3=>.slice (some ⟨bh,0,none⟩) 40 ch
    | 4=>.slice (some ⟨y.1,0,none⟩) 2 2
    | 5=>.slice (some ⟨y.1,0,none⟩) (side.l++dH h).length y.2
    | 6=>p.v
    | 7=>.slice (some ⟨y.1,0,none⟩) (p.l.length+32) y.2
    | 8=>.slice (some ⟨y.1,0,none⟩) (p.l.length+32) y.2
    | _=>N 0
  let Ms : Nat→(Nat × Nat)→List aG:=fun j y=>match j with
    | 4=>[⟨y.1,Row 27 [side.v,.slice (some ⟨bh,0,none⟩) 40 ch],true⟩]
    | 5=>[⟨y.1,Sl.aE 5 1 (side.l++dH h).length y.2 ((side.l++dH h).map U8),true⟩]
    | 7=>[⟨y.1,Sl.aE 5 1 (p.l.length+32) y.2 (Z.map U8),true⟩]
    | 9=>[⟨b10,Row 23 (ms.map U8),true⟩]
    | 10=>[⟨bh,Sl.aE 5 1 40 ch ((dH h).map U8),true⟩]
    | 11=>[⟨b6,Row 26 (sec { s with send:=nx,sent:=s.sent+1 } kv),true⟩]
    | 12=>[⟨b3,Row 26 (sec s k.v),true⟩]
    | 13=>fV q s.kept
    | _=>[]
  refine JC.grow (g:=⟨[(1,side.v),(2,p.v),(6,Pt b6 0),(9,.slice (some ⟨bh,0,none⟩) 40 ch),(10,Pt b10 0)],14,vs,Ms,(fun j=>match j with | 4=>[(2,44),(3,45)] | 5=>[(4,46)] | 7=>[(0,42),(1,43),(5,47),(6,48)] | 8=>[(7,49)] | _=>[]),(fun j=>match j with | 0=>[9] | 5=>[4,10] | 7=>[5] | _=>[]),(fun j=>match j with | _=>[]),(fun j=>match j with | 8=>some 7 | _=>none)⟩) [(8,11)] [7,10,11,13] gK (by repeat (first | exact ai.nil | refine ai.cons _ _ _ rfl ?_)) ?_ (by kernel_rfl) (by kernel_rfl) (by kernel_rfl) ?_ ?_
  · show an (_::_::_::_::(fV q s.kept++[])) _;rw [List.append_nil];exact an.refl _
  · refine ⟨?_,?_,?_,?_,?_,?_,?_,?_,?_,trivial⟩
    · (intro xx EF MF Q kk;(try refine JL.aV rfl rfl ?_);exact JL.q (OQ.af (cs:=ms.map U8) aQ aB rfl .here hl6 Row.all) rfl (JL.nil (kk default nofun)))
    · (intro xx EF MF Q kk;exact JL.q (OQ.pure (v:=.agg (x9.map U8).toArray) rfl rfl (by kernel_rfl)) rfl (JL.nil (kk default nofun)))
    · (intro xx EF MF Q kk;(try refine JL.aV rfl rfl ?_);exact JL.q (OQ.move rfl) rfl (JL.nil (kk default nofun)))
    · (intro xx EF MF Q kk;(try refine JL.aV rfl rfl ?_);exact JL.q (OQ.move rfl) rfl (JL.nil (kk default nofun)))
    · (intro xx EF MF Q kk;exact JL.ou (xs:=[.tmp 44,.tmp 45]) (vs:=[side.v,.slice (some ⟨bh,0,none⟩) 40 ch]) Tryz.underlying53 wY rfl rfl rfl rfl (by intro v hv;simp only [List.mem_cons,List.mem_nil_iff,or_false] at hv;rcases hv with rfl | rfl <;> rfl) rfl (by decide) (by decide) rfl fun b9 _=>JL.nil (kk (b9,0) nofun))
    · (intro xx EF MF Q kk;exact JL.bV (ι:=Nat × Nat) (vs:=[.slice (some ⟨(xx 4).1,0,none⟩) 2 2]) (fun x=>.slice (some ⟨x.1,0,none⟩) (side.l++dH h).length x.2) (fun x=>[⟨x.1,Sl.aE 5 1 (side.l++dH h).length x.2 ((side.l++dH h).map U8),true⟩]) kM rfl rfl (fun i=>by simp) (fun w' hw'=>cC (xx 4).1 w' _ hw' (ep hw' (.there .here)) (hw'.get .here)) fun x=>JL.nil (kk (x.1,x.2) nofun))
    · (intro xx EF MF Q kk;(try refine JL.aV rfl rfl ?_);exact JL.q (OQ.move rfl) rfl (JL.nil (kk default nofun)))
    · (intro xx EF MF Q kk;exact JL.bV (ι:=Nat × Nat) (vs:=[.agg (ms.map U8).toArray,.agg (x9.map U8).toArray,.slice (some ⟨(xx 5).1,0,none⟩) (side.l++dH h).length (xx 5).2,p.v]) (fun x=>.slice (some ⟨x.1,0,none⟩) (p.l.length+32) x.2) (fun x=>[⟨x.1,Sl.aE 5 1 (p.l.length+32) x.2 (Z.map U8),true⟩]) Cg rfl rfl (fun i=>by simp) (fun w' hw'=>CX (s:=⟨some ⟨(xx 5).1,0,none⟩,(xx 5).2,side.l++dH h⟩) (p:=p) rfl rfl hsK rfl hkm rfl (hG.aM hw'.aM (by simp)) (hQ.aM hw'.aM (by simp)) (ep hw' .here) (hp.holds hw' rfl) (by show (side.l++dH h).length<_;omega) (by omega)) fun x=>JL.nil (kk (x.1,x.2) nofun))
    · (intro xx EF MF Q kk;(try refine JL.aV rfl rfl ?_);exact JL.q (OQ.assign rfl) rfl (JL.nil (kk (xx 7) (fun k h=>by cases h;rfl))))
  · intro xx hx
    have e1:=hx 8 7 (by decide) rfl
    show JE _ _ _ _ _ [(11,.slice (some ⟨(xx 8).1,0,none⟩) (p.l.length+32) (xx 8).2),(1,side.v),(2,p.v),(6,Pt b6 0),(9,.slice (some ⟨bh,0,none⟩) 40 ch),(10,Pt b10 0)] (⟨(xx 7).1,Sl.aE 5 1 (p.l.length+32) (xx 7).2 (Z.map U8),true⟩::⟨bh,Sl.aE 5 1 40 ch ((dH h).map U8),true⟩::⟨b6,Row 26 (sec { s with send:=nx,sent:=s.sent+1 } kv),true⟩::(fV q s.kept++[]))
    rw [e1,List.append_nil]
    generalize xx 7=xz
    obtain ⟨bz,cz⟩:=xz
    clear hx e1 xx vs Ms
    try dsimp only
    repeat (first | refine JC.seq ?_ | refine JE.next ?_)
    have cD:=fun (bs : Nat) (w' : World) (hb : aJ.ok w' ⟨some ⟨bh,0,none⟩,ch,dH h⟩) (hb2 : aJ.ok w' ⟨some ⟨bz,0,none⟩,cz,Z⟩) (hrow : ∃ ob,w'.heap[bs]?=some ob∧Row 27 [aJ.v ⟨some ⟨bh,0,none⟩,ch,dH h⟩,aJ.v ⟨some ⟨bz,0,none⟩,cz,Z⟩] ob)=>mh ⟨some ⟨bh,0,none⟩,ch,dH h⟩ ⟨some ⟨bz,0,none⟩,cz,Z⟩ bs w' hb hb2 hrow (by show 0<(dH h).length+Z.length;omega) (by show (dH h).length+Z.length≤_;omega)
    have hzv : aJ.v ⟨some ⟨bz,0,none⟩,cz,Z⟩=.slice (some ⟨bz,0,none⟩) (p.l.length+32) cz:=by simp [aJ.v,hsKl]
    rw [hbv,hzv] at cD
    let vs : Nat→(Nat × Nat)→Value:=fun j y=>match j with
      | 0=>.agg (sec { s with send:=nx,sent:=s.sent+1 } kv).toArray
      | 1=>.slice (some ⟨bh,0,none⟩) 40 ch
      | 2=>.slice (some ⟨bz,0,none⟩) (p.l.length+32) cz
      | 3=>.slice (some ⟨y.1,0,none⟩) 2 2
      | 4=>.slice (some ⟨y.1,0,none⟩) (dH h++Z).length y.2
      | 6=>.slice (some ⟨y.1,0,none⟩) (dH h++Z).length y.2
      | 7=>N 0
      | _=>N 0
    let Ms : Nat→(Nat × Nat)→List aG:=fun j y=>match j with
      | 3=>[⟨y.1,Row 27 [.slice (some ⟨bh,0,none⟩) 40 ch,.slice (some ⟨bz,0,none⟩) (p.l.length+32) cz],true⟩]
      | 4=>[⟨y.1,Sl.aE 5 1 (dH h++Z).length y.2 ((dH h++Z).map U8),true⟩]
      | 5=>[⟨b6,Row 26 (sec { s with send:=nx,sent:=s.sent+1 } kv),true⟩]
      | 8=>[⟨bz,Sl.aE 5 1 (p.l.length+32) cz (Z.map U8),true⟩]
      | 9=>[⟨bh,Sl.aE 5 1 40 ch ((dH h).map U8),true⟩]
      | 10=>[⟨b6,Row 26 (sec { s with send:=nx,sent:=s.sent+1 } kv),true⟩]
      | 11=>fV q s.kept
      | _=>[]
    refine JC.grow (g:=⟨[(6,Pt b6 0),(9,.slice (some ⟨bh,0,none⟩) 40 ch),(11,.slice (some ⟨bz,0,none⟩) (p.l.length+32) cz)],12,vs,Ms,(fun j=>match j with | 3=>[(1,51),(2,52)] | 4=>[(3,53)] | 5=>[(0,50)] | 6=>[(4,54)] | _=>[]),(fun j=>match j with | 0=>[10] | 4=>[3,9,8] | 5=>[10] | _=>[]),(fun j=>match j with | 5=>[10] | _=>[]),(fun j=>match j with | 6=>some 4 | _=>none)⟩) [(6,7),(7,8)] [5,4,11] gK (by repeat (first | exact ai.nil | refine ai.cons _ _ _ rfl ?_)) ?_ (by kernel_rfl) (by kernel_rfl) (by kernel_rfl) ?_ ?_
    · show an (_::_::_::(fV q s.kept++[])) _;rw [List.append_nil];exact an.refl _
    · refine ⟨?_,?_,?_,?_,?_,?_,?_,?_,trivial⟩
      · (intro xx EF MF Q kk;(try refine JL.aV rfl rfl ?_);exact JL.q (OQ.af (cs:=sec { s with send:=nx,sent:=s.sent+1 } kv) iy dV rfl .here hn4 Row.all) rfl (JL.nil (kk default nofun)))
      · (intro xx EF MF Q kk;(try refine JL.aV rfl rfl ?_);exact JL.q (OQ.move rfl) rfl (JL.nil (kk default nofun)))
      · (intro xx EF MF Q kk;(try refine JL.aV rfl rfl ?_);exact JL.q (OQ.move rfl) rfl (JL.nil (kk default nofun)))
      · (intro xx EF MF Q kk;exact JL.ou (xs:=[.tmp 51,.tmp 52]) (vs:=[.slice (some ⟨bh,0,none⟩) 40 ch,.slice (some ⟨bz,0,none⟩) (p.l.length+32) cz]) Tryz.underlying53 wY rfl rfl rfl rfl (by intro v hv;simp only [List.mem_cons,List.mem_nil_iff,or_false] at hv;rcases hv with rfl | rfl <;> rfl) rfl (by decide) (by decide) rfl fun b9 _=>JL.nil (kk (b9,0) nofun))
      · (intro xx EF MF Q kk;exact JL.bV (ι:=Nat × Nat) (vs:=[.slice (some ⟨(xx 3).1,0,none⟩) 2 2]) (fun x=>.slice (some ⟨x.1,0,none⟩) (dH h++Z).length x.2) (fun x=>[⟨x.1,Sl.aE 5 1 (dH h++Z).length x.2 ((dH h++Z).map U8),true⟩]) kM rfl rfl (fun i=>by simp) (fun w' hw'=>cD (xx 3).1 w' (ep hw' (.there .here)) (ep hw' (.there (.there .here))) (hw'.get .here)) fun x=>JL.nil (kk (x.1,x.2) nofun))
      · (intro xx EF MF Q kk;exact JL.ag (cs:=sec { s with send:=nx,sent:=s.sent+1 } kv) dV rfl rfl hn4 (bw hkv1) .here hn4 (JL.nil (kk default nofun)))
      · (intro xx EF MF Q kk;(try refine JL.aV rfl rfl ?_);exact JL.q (OQ.assign rfl) rfl (JL.nil (kk (xx 4) (fun k h=>by cases h;rfl))))
      · (intro xx EF MF Q kk;(try refine JL.aV rfl rfl ?_);exact JL.q (OQ.assign rfl) rfl (JL.nil (kk default nofun)))
    · intro xx hx
      have e1:=hx 6 4 (by decide) rfl
      show JE _ _ _ _ _ [(7,.slice (some ⟨(xx 6).1,0,none⟩) (dH h++Z).length (xx 6).2),(8,N 0),(6,Pt b6 0),(9,.slice (some ⟨bh,0,none⟩) 40 ch),(11,.slice (some ⟨bz,0,none⟩) (p.l.length+32) cz)] (⟨b6,Row 26 (sec { s with send:=nx,sent:=s.sent+1 } kv),true⟩::⟨(xx 4).1,Sl.aE 5 1 (dH h++Z).length (xx 4).2 ((dH h++Z).map U8),true⟩::(fV q s.kept++[]))
      rw [e1,List.append_nil]
      generalize xx 4=xz
      obtain ⟨bx,cx⟩:=xz
      clear hx e1 xx vs Ms
      try dsimp only
      repeat (refine JE.next ?_)
      refine JC.ret ?_
      skip
      refine JE.jG rfl (RV.av iy dV rfl .here hn4 Row.all) (RV.tmp rfl) (RV.tmp rfl) fun w' hw=>⟨⟨q,some (bx,cx),hq,nofun⟩,by rw [← hkv];rfl,?_⟩
      show ah w [] (⟨bx,Sl.aE 5 1 ((dH h++Z).map U8).length cx ((dH h++Z).map U8),true⟩::fV q s.kept) w'
      rw [List.length_map]
      exact hw.weak (.drop _ _ _ (an.refl _))
end
end Go.Proofs.YtgkninhgcpbfnaaGreatDoor
