/-
  Of no statement by itself: the texts RwM, RwW, RwX, LinA, Slcv, RwY, RwS, RwT, RwL, RwZ, Same, RwE, Plain, FraW in one.
  Conditions: each theorem's own.
-/
import Derived.Test.YtbmagnpmfpfckaaDoorZb
import Derived.Laws.Cover3
import Derived.Test.YtbmagnpmfpfckaaDoorProg
import Derived.Test.YtbmagnpmfpfckaaDoorRows
import Derived.ProofKit
import Derived.OpenShut
import Derived.Below
import Derived.Stop.Joined
import Derived.ChangeMaps5
import Derived.Test.YtbmagnpmfpfckaaDoorTie
import Derived.SevenTiedAt
import Derived.LaidMore
import Derived.Lay
import Derived.Handed
import Derived.HandedShaped
set_option linter.unusedSimpArgs false
set_option linter.unusedVariables false
namespace Go.Proofs.YtbmagnpmfpfckaaDoor
section
set_option maxRecDepth 10000
open Sl c6 jr
namespace Rw
theorem dm (d : List Bt) : aA d=if (d.takeWhile (· != 10)).length<d.length then (d.takeWhile (· != 10)).length+1 else d.length:=rfl
theorem mT (d : List Bt) (m : Nat) (h : aA d≤m) : (d.take m).takeWhile (· != 10)=d.takeWhile (· != 10)∨d.length≤m:=by
  by_cases hd : d.length≤m
  · exact .inr hd
  left
  have key : ∀ (d : List Bt) (m : Nat),(d.takeWhile (· != 10)).length<m→(d.take m).takeWhile (· != 10)=d.takeWhile (· != 10):=by
    intro d
    induction d with
    | nil=>intro m _;simp
    | cons c r ih=>
      intro m hm
      cases m with
      | zero=>cases hm
      | succ m=>
        rw [List.take_succ_cons,List.takeWhile_cons,List.takeWhile_cons]
        rw [List.takeWhile_cons] at hm
        by_cases hc : (c != 10)=true
        · rw [if_pos hc] at hm ⊢
          rw [if_pos hc,ih m (by simp at hm;omega)]
        · rw [if_neg hc,if_neg hc]
  refine key d m ?_
  rw [dm] at h
  split at h
  · omega
  · omega
theorem fK {d : List Bt} {m : Nat} (h : aA d≤m) : aA (d.take m)=aA d:=by
  by_cases hd : d.length≤m
  · rw [List.take_of_length_le hd]
  · have h1:=(mT d m h).resolve_right hd
    have h2 : (d.take m).length=m:=by rw [List.length_take];omega
    rw [dm] at h
    rw [dm,dm,h1,h2]
    split at h
    · rw [if_pos (by omega)]
      rename_i h3
      rw [if_pos h3]
    · omega
theorem nD (l : List Bt) {j k : Nat} (h : j≤k) : aC l j≤aC l k:=by
  induction h with
  | refl=>exact Nat.le_refl _
  | step _ ih=>exact Nat.le_trans ih (gb l _)
theorem ff (l : List Bt) (a x : Nat) : (l.take a).drop x=(l.drop x).take (a - x):=List.drop_take
theorem gd (l : List Bt) (k : Nat) : ∀ j,j≤k→aC (l.take (aC l k)) j=aC l j:=by
  intro j
  induction j with
  | zero=>exact fun _=>rfl
  | succ j ih=>
    intro hj
    have h1:=nD l hj
    have hd : aC l (j+1)=aC l j+aA (l.drop (aC l j)):=rfl
    show aC (l.take (aC l k)) j+aA ((l.take (aC l k)).drop (aC (l.take (aC l k)) j))=_
    rw [ih (by omega),ff,fK (by omega),hd]
theorem lN (l : List Bt) {k : Nat} (hk : k≤(aR l).length) : (aR (l.take (aC l k))).length=k:=by
  have hl : (l.take (aC l k)).length=aC l k:=by rw [List.length_take];exact Nat.min_eq_left (cP l k)
  have h1:=eZ (l.take (aC l k)) k
  rw [gd l k k (Nat.le_refl _),hl] at h1
  rcases Nat.eq_zero_or_pos k with h0 | h0
  · subst h0;omega
  · have h2:=eZ (l.take (aC l k)) (k - 1)
    rw [gd l k (k - 1) (by omega),hl] at h2
    have h3 : aC l (k - 1)<aC l k:=by
      have h4:=(eZ l (k - 1)).1 (by omega)
      have h5 : 0<aA (l.drop (aC l (k - 1))):=gM (by rw [ne_eq,List.drop_eq_nil_iff];omega)
      have h6 : aC l (k - 1+1)=aC l (k - 1)+aA (l.drop (aC l (k - 1))):=rfl
      rw [show k - 1+1=k by omega] at h6
      omega
    omega
theorem lO (l : List Bt) {j k : Nat} (h : j<k) : cc (l.take (aC l k)) j=cc l j:=by
  have h1:=nD l (show j+1≤k from h)
  have hd : aC l (j+1)=aC l j+aA (l.drop (aC l j)):=rfl
  unfold cc
  rw [gd l k j (by omega),ff,fK (by omega),List.take_take,Nat.min_eq_left (by omega)]
def ef (l : List Bt) (k : Nat) : Prop:=k<(aR l).length∧cc l k=[]∧∀ j,j<k→cc l j≠[]
def nE (l : List Bt) : Prop:=∀ j,j<(aR l).length→cc l j≠[]
theorem mU {l : List Bt} {j k : Nat} (h : ef l j) (h' : ef l k) : j=k:=by
  rcases Nat.lt_trichotomy j k with h1 | h1 | h1
  · exact absurd h.2.1 (h'.2.2 j h1)
  · exact h1
  · exact absurd h'.2.1 (h.2.2 k h1)
theorem oc {l : List Bt} {k : Nat} (h : ef l k) : ¬ nE l:=fun h'=>h' k h.1 h.2.1
def mh (l : List Bt) (k : Nat) : List (Nat × Nat):=bg (l.take (aC l k))
def FQ (F : List (Nat × Nat)) : Type:={q : Acc // q=none→F=[]}
instance (F : List (Nat × Nat)) : Inhabited (FQ F):=⟨⟨some (0,0),nofun⟩⟩
def gh (h : ai) (k : Nat) : ai:=h.fst (aC h.l k)
def bQ (h : ai) (k : Nat) (q : Acc) : List Value:=[aE q (mh h.l k).length,(aI h k).v,(h.snd (aC h.l (k+1))).v]
def dL : List Value:=[.slice none 0 0,.slice none 0 0,.slice none 0 0]
theorem j8 : aM Tryd.prog 10:=⟨_,Tryd.func10,rfl,by kernel_rfl⟩
theorem gU : bX Tryd.prog 33=some 3:=by kernel_rfl
theorem lP : ij Tryd.prog 33=true:=by kernel_rfl
theorem nF : bX Tryd.prog 4=some 1:=by kernel_rfl
theorem nG : dy Tryd.prog 4=true:=by kernel_rfl
theorem gV (q : Acc) (k : Nat) : (aE q k).oneCell'=true:=by cases q <;> rfl
theorem fL (h : ai) (k : Nat) (q : Acc) : (bQ h k q).all Value.oneCell'=true:=by
  simp only [bQ,List.all_cons,List.all_nil,gV,Bool.true_and,Bool.and_true,ai.v]
  rfl
theorem KL.cE {P : Program} {D n : Nat} {w0 : World} {S : List Nat} {ops : Array Oper} {Q : Exit→Act→World→Prop} {os : List Oper} {E : Env} {M M' : List ah} {pos : String} {aft : Array Edge} {ty : TypeId} {r cs : List Value} {e t : TypeId} {x y : Operand} {b m : Nat} (hz' : bX P t=some m) (hx : ev E x=some (.pointer (some ⟨b,0,none⟩))) (hy : ev E y=some (.agg cs.toArray)) (hc : cs.length=m) (hv : cs.all Value.oneCell'=true) (hu : eE M b (Row e r) (Row e cs) M') (hr : r.length=m)
    (k : KL P D n w0 S ops Q os E M') : KL P D n w0 S ops Q (⟨none,.store t x y,ty,pos,aft,none⟩::os) E M:=
  ⟨fun a w ha hw=>wpList_plain rfl fun K hK=>by
    have hz : bX P t=some cs.length:=hc ▸ hz'
    obtain ⟨o,ho,hAo⟩:=hw.get hu.has
    cases hAo
    obtain ⟨w',r1,r2,r3,r4,r5,r6,r7⟩:=aW (P:=P) (j:=0) cs 0 w r (fun v hv'=>List.all_eq_true.1 hv v hv') ho (by omega)
    have hA' : Row e cs (.cells (r.take 0++cs++r.drop (0+cs.length)).toArray e (0,0)):=by simp [Row,hc,← hr]
    have h1 : (execOp a.eval ⟨none,.store t x y,ty,pos,aft,none⟩).run P w=.ok .skip w':=by
      simp [execOp,ha.eval hx,ha.eval hy,Instr.storeAt,Instr.sureAddr,Sem.run_bind,storeVar,ax hz,Value.cells,r1]
    unfold Oper.wp
    rw [h1]
    exact hK _ _ (k.go _ _ ⟨ha.defers,ha.base⟩ (hw.write hu hA' (by simpa using r2) r3 r4 r5 r6 r7))⟩
theorem pV (q : Acc) (n : Nat) (b c : ai) : Tryd.prog.built 33 ([0,1,2].zip [aE q n,b.v,c.v])=some [aE q n,b.v,c.v].toArray:=by cases q <;> (unfold ai.v aE;kernel_rfl)
abbrev oR (b1 b2 b3 b4 : Nat) (h : ai) (k : Nat) : List ah:=[⟨b1,Row 22 [h.v],true⟩,⟨b2,Row 33 dL,true⟩,⟨b3,Row 4 [.bool false],true⟩,⟨b4,Row 3 [N (aC h.l k)],true⟩]
abbrev o8 (b2 b3 : Nat) (h : ai) (s : Nat × Acc) : List ah:=⟨b2,Row 33 (bQ h s.1 s.2),true⟩::⟨b3,Row 4 [.bool true],true⟩::aQ 22 s.2 ((mh h.l s.1).map (aB (gh h s.1)))
theorem oS {b2 b3 : Nat} {h : ai} {k A : Nat} {q : Acc} {F : List (Nat × Nat)} (hF : mh h.l k=F) (hA : aC h.l k=A) : av (⟨b2,Row 33 (bQ h k q),true⟩::⟨b3,Row 4 [.bool true],true⟩::aQ 22 q (F.map (aB (h.fst A)))) (⟨b2,Row 33 (bQ h k q),true⟩::⟨b3,Row 4 [.bool true],true⟩::aQ 22 q (F.map (aB (h.fst A))))→av (o8 b2 b3 h (k,q)) (⟨b2,Row 33 (bQ h k q),true⟩::⟨b3,Row 4 [.bool true],true⟩::aQ 22 q (F.map (aB (h.fst A)))):=by subst hF hA;exact id
theorem lQ {b1 b2 b3 b4 : Nat} {h : ai} {k : Nat} : ∀ e ∈ oR b1 b2 b3 b4 h k,e.wr=true:=by
  intro e he
  simp only [List.mem_cons,List.mem_nil_iff,or_false] at he
  rcases he with rfl | rfl | rfl | rfl <;> rfl
theorem fM {b1 b2 b3 b4 : Nat} {h : ai} {k : Nat} : ∀ e ∈ oR b1 b2 b3 b4 h k,∀ o,e.A o→o.isCells=true:=by
  intro e he o hA
  simp only [List.mem_cons,List.mem_nil_iff,or_false] at he
  rcases he with rfl | rfl | rfl | rfl <;> exact aZ o hA
theorem od {b2 b3 : Nat} {h : ai} {s : Nat × Acc} : ∀ e ∈ o8 b2 b3 h s,e.wr=true:=by
  intro e he
  simp only [List.mem_cons] at he
  rcases he with rfl | rfl | he
  · rfl
  · rfl
  · exact cl _ _ _ e he
theorem j9 {b2 b3 : Nat} {h : ai} {s : Nat × Acc} : ∀ e ∈ o8 b2 b3 h s,∀ o,e.A o→o.isCells=true:=by
  intro e he o hA
  simp only [List.mem_cons] at he
  rcases he with rfl | rfl | he
  · exact aZ o hA
  · exact aZ o hA
  · exact ec e he o hA
set_option maxHeartbeats 16000000 in
theorem lR (h : ai) (w : World) (hs : h.ok w) (hl : h.l.length≤1000000000) :
    Calls Tryd.prog 10 [h.v].toArray w fun e w'=>(∃ s : Nat × Acc,(ef h.l s.1∧(s.2=none→mh h.l s.1=[]))∧e=.returned (.tuple #[.agg (bQ h s.1 s.2).toArray,.bool true])∧aa w [] (aQ 22 s.2 ((mh h.l s.1).map (aB (gh h s.1)))) w')∨(nE h.l∧e=.returned (.tuple #[.agg dL.toArray,.bool false])∧Ext w w'):=by
  refine kY (n:=34) Tryd.func10 rfl rfl rfl (aa.start w []) ?_
  refine JC.seq (JC.region ?_)
  refine JL.box (r:=[h.v]) rfl rfl rfl fun b1 _=>?_
  refine JL.alloc (r:=dL) (by kernel_rfl) rfl fun b2 _=>?_
  skip
  refine JL.alloc (r:=[.bool false]) (by kernel_rfl) rfl fun b3 _=>?_
  repeat (first | refine JC.seq ?_ | refine JC.region ?_ | refine JL.nil ?_ | refine JE.next ?_)
  refine JL.alloc (r:=[.int .i64 0]) (by kernel_rfl) rfl fun b4 _=>?_
  refine JL.bf (v:=.int .i64 0) (r':=[.int .i64 0]) jC rfl rfl rfl rfl .here (by decide) rfl ?_
  repeat (first | refine JL.q (by (apply OQ.load;exact e6;rfl;exact (.there (.there (.there .here)));exact (Row.cell (v:=h.v) rfl))) rfl ?_ | refine JC.seq ?_ | refine JC.region ?_ | refine JL.nil ?_ | refine JE.next ?_)
  refine JL.cH (ι:=Nat) (vs:=[h.v]) (fun b=>iN b) (fun b=>[⟨b,Row 22 [h.v],true⟩]) eX rfl rfl (fun b e he=>by rw [List.mem_singleton.1 he]) (fun w' _=>fG h w') fun be=>?_
  repeat (first | refine JC.block ?_ | refine JL.nil ?_ | refine JE.next ?_)
  refine JC.lf (ι:=Nat) (κ:=Nat × Acc) (τ:=Nat) (fun k=>#[(aD h k).v,(aI h k).v]) [⟨be,Row 22 [h.v],true⟩] (cF h) (aR h.l).length (fun k=>(10,(aI h k).v)::(9,(aD h k).v)::[(0,h.v),(1,Pt b1 0),(2,Pt b2 0),(3,Pt b3 0),(4,Pt b4 0)])
    (oR b1 b2 b3 b4 h) (fun k s=>s=k∧∀ j,j<k→cc h.l j≠[]) (oR b1 b2 b3 b4 h) (fun k _=>[(5,(aD h k).v),(6,(aI h k).v),(0,h.v),(1,Pt b1 0),(2,Pt b2 0),(3,Pt b3 0),(4,Pt b4 0)]) (fun k s=>s=k∧∀ j,j<k→cc h.l j≠[])
    (o8 b2 b3 h) (fun s=>ef h.l s.1∧(s.2=none→mh h.l s.1=[]))
    ?hput (fun _=>rfl) rfl (enters_of Tryd.func29 (by kernel_rfl) rfl) (dY h hs (by omega) .here) (fun e he=>by rw [List.mem_singleton.1 he]) (fun _=>lQ) (fun _=>lQ) (fun _=>od) (fun _=>fM) (fun _=>fM) (fun _=>j9)
    (fun b hb=>⟨bT hs b hb,by simp⟩) 0 ⟨rfl,fun _ h=>absurd h (Nat.not_lt_zero _)⟩ ?hMz ?hasg ?hbody ?hdone ?hstop
  case hput=>
    intro k a ha
    rw [jo a 9 10 _ _ ha.defers]
    exact (((ha.put 9 _ rfl).put 10 _ rfl)).sub (by repeat (first | exact aj.nil | refine aj.cons _ _ _ rfl ?_))
  case hMz=>
    intro w' hw'
    refine hw'.perm ?_
    exact .cons _ (List.reverse_perm [(⟨b1,Row 22 [h.v],true⟩ : ah),⟨b2,Row 33 dL,true⟩,⟨b3,Row 4 [.bool false],true⟩,⟨b4,Row 3 [N 0],true⟩])
  case hasg=>
    intro r k s w1 hi hk hH
    exact JR.seq (JR.region rfl (ag eA) (JL.q (OQ.assign rfl) rfl (JL.nil (JE.cr (JR.region rfl eA (JL.q (OQ.assign rfl) rfl (JL.nil (JE.mg s hi (by repeat (first | exact aj.nil | refine aj.cons _ _ _ rfl ?_)) (av.refl _)))))))))
  case hdone=>
    rintro D k ⟨hk,hno⟩
    subst hk
    repeat (first | refine KC.seq ?_ | refine KC.region ?_ | refine KE.next ?_ | refine KE.au ?_)
    refine KL.q (OQ.cQ (cs:=dL) [] [] (vs:=[]) rfl rfl (by kernel_rfl)) rfl ?_
    refine KL.cE (cs:=dL) (r:=dL) gU rfl rfl rfl (by decide) (.there (.there .here)) rfl ?_
    refine KL.bf (v:=.bool false) (r':=[.bool false]) nF rfl rfl rfl rfl (.there (.there (.there .here))) (by decide) rfl ?_
    repeat (first | refine KL.nil ?_ | refine KE.next ?_)
    refine KC.ret ?_
    exact KE.nu rfl (RV.gz (cs:=dL) lP gU rfl (.there .here) rfl Row.all) (RV.cell rfl nG (.there (.there .here)) (Row.cell rfl)) fun w' hw=>.inr ⟨hno,rfl,hw.aq⟩
  case hstop=>
    rintro D ⟨k,q⟩ ⟨hg,hq⟩
    exact KE.aU (KE.az (KE.nu rfl (RV.gz (cs:=bQ h k q) lP gU rfl .here rfl Row.all) (RV.cell rfl nG (.there .here) (Row.cell rfl)) fun w' hw=>.inl ⟨(k,q),⟨hg,hq⟩,rfl,hw.weak (.drop _ _ _ (.drop _ _ _ (av.refl _)))⟩))
  case hbody=>
    rintro r k k' w1 ⟨hk',hno⟩ hk hH
    subst hk'
    have tok:=ga (hs.holds hH rfl) k'
    have htl:=lI h k'
    have hel:=jz h k'
    have hat:=gb h.l k'
    have hatl:=cP h.l (k'+1)
    have hats : aC h.l (k'+1)=aC h.l k'+aA (h.l.drop (aC h.l k')):=rfl
    have hcap : h.l.length≤h.cap:=hs.len
    by_cases htx : cc h.l k'=[]
    · have ht0 : (aD h k').l.length=0:=by rw [htl,htx];rfl
      rw [ht0,Nat.zero_add] at hel
      have hg9 : decide ((((aD h k').l.length : Nat) : Int)=0)=true:=by rw [ht0];rfl
      repeat (first | refine JL.q (by first|(apply OQ.len (k:=(aD h k').l.length) (ad:=(aD h k').ad) (cap:=(aD h k').cap);exact Tryd.underlying22;rfl)|(apply OQ.eo (b:=0);rfl;rfl;exact hg9)|(apply OQ.move;rfl)) rfl ?_ | refine JR.seq ?_ | refine JR.block ?_ | refine JL.nil ?_ | with_reducible refine JE.cr ?_ | refine JR.region rfl (by first | with_reducible exact ak | with_reducible exact ag ak | with_reducible exact ay ak | with_reducible exact ag (ay ak) | with_reducible exact af | with_reducible exact ag af | with_reducible exact ay af | with_reducible exact ag (ay af) | with_reducible exact ag (ag (ay af))) ?_)
      refine JR.cond rfl (fun _=>?_) (fun h=>by cases h)
      refine JR.seq ?_
      obtain ⟨A,hA⟩ : ∃ A,aC h.l k'=A:=⟨_,rfl⟩
      have hA1 : aC h.l (k'+1)=A+(aI h k').l.length:=by rw [hats,hA,hel,hA]
      rw [hA] at hat
      have hAl : A≤h.l.length:=by omega
      obtain ⟨F,hF⟩ : ∃ F,mh h.l k'=F:=⟨_,rfl⟩
      have hne : ∀ j,j<(aR (h.fst A).l).length→cc (h.fst A).l j≠[]:=by
        intro j hj
        show cc (h.l.take A) j≠[]
        have hj : j<(aR (h.l.take A)).length:=hj
        rw [← hA] at hj ⊢
        rw [lN h.l (by omega)] at hj
        rw [lO h.l hj]
        exact hno j hj
      have hFA : bg (h.fst A).l=F:=by rw [← hF,← hA];rfl
      have hcall : ∀ w',h.ok w'→Calls Tryd.prog 17 [(h.fst A).v].toArray w' fun e w2=>∃ q : FQ F,e=.returned (aE q.1 F.length)∧aa w' [] (aQ 22 q.1 (F.map (aB (h.fst A)))) w2:=by
        intro w' hw'
        have:=iW (h.fst A) w' (hw'.fst A) (by show (h.l.take A).length≤_;rw [List.length_take];omega) hne
        rw [hFA] at this
        exact this
      have hok' : ∀ {M : List ah} {w' : World},aa w1 (eS (oR b1 b2 b3 b4 h k')) M w'→h.ok w':=fun hw'=>hs.holds (hH.de hw') rfl
      have hmv : ∀ q : Acc,[aE q F.length,(aI h k').v,(h.snd (A+(aI h k').l.length)).v]=bQ h k' q:=fun q=>by unfold bQ;rw [hF,hA1]
      show JR _ _ _ _ _ _ _ _ _ [⟨b1,Row 22 [h.v],true⟩,⟨b2,Row 33 dL,true⟩,⟨b3,Row 4 [.bool false],true⟩,⟨b4,Row 3 [N (aC h.l k')],true⟩]
      rw [hA]
      obtain ⟨EE,hEE⟩ : ∃ EE,aI h k'=EE:=⟨_,rfl⟩
      rw [hEE] at hmv hA1 hel ⊢
      let vs : Nat→FQ F→Value:=fun j y=>match j with
        | 0=>h.v
        | 1=>N A
        | 2=>(h.fst A).v
        | 3=>aE y.1 F.length
        | 4=>EE.v
        | 5=>h.v
        | 6=>N A
        | 7=>EE.v
        | 8=>N EE.l.length
        | 9=>N (A+EE.l.length)
        | 10=>(h.snd (A+EE.l.length)).v
        | 11=>.agg [aE y.1 F.length,EE.v,(h.snd (A+EE.l.length)).v].toArray
        | _=>N 0
      let Ms : Nat→FQ F→List ah:=fun j y=>match j with
        | 3=>aQ 22 y.1 (F.map (aB (h.fst A)))
        | 12=>[⟨b2,Row 33 [aE y.1 F.length,EE.v,(h.snd (A+EE.l.length)).v],true⟩]
        | 13=>[⟨b3,Row 4 [.bool true],true⟩]
        | 14=>[⟨b1,Row 22 [h.v],true⟩]
        | 15=>[⟨b2,Row 33 dL,true⟩]
        | 16=>[⟨b3,Row 4 [.bool false],true⟩]
        | 17=>[⟨b4,Row 3 [N A],true⟩]
        | _=>[]
      refine JR.gK (g:=⟨[(5,(aD h k').v),(6,EE.v),(0,h.v),(1,Pt b1 0),(2,Pt b2 0),(3,Pt b3 0),(4,Pt b4 0)],18,vs,Ms,(fun j=>match j with | 2=>[(0,14),(1,15)] | 3=>[(2,16)] | 8=>[(7,21)] | 9=>[(6,20),(8,22)] | 10=>[(5,19),(9,23)] | 11=>[(3,17),(4,18),(10,24)] | 12=>[(11,25)] | _=>[]),(fun j=>match j with | 0=>[14] | 1=>[17] | 5=>[14] | 6=>[17] | 12=>[15] | 13=>[16] | _=>[]),(fun j=>match j with | 12=>[15] | 13=>[16] | _=>[]),(fun j=>match j with | 11=>some 3 | 12=>some 11 | _=>none),fun _=>[],fun _ a b=>a=b⟩) [] [12,13,3] rfl (by repeat (first | with_reducible exact af | with_reducible apply ag | with_reducible apply ay)) fk (by repeat (first | exact aj.nil | refine aj.cons _ _ _ rfl ?_)) (fun _ _=>.nil) ?_ (by kernel_rfl) (by kernel_rfl) (by kernel_rfl) ?_ ?_
      · exact av.refl _
      · refine ⟨?_,?_,?_,?_,?_,?_,?_,?_,?_,?_,?_,?_,?_,?_,trivial⟩
        · (intro xx EF MF Q kk;(try refine JL.aT rfl rfl ?_);exact JL.q (OQ.load e6 rfl .here (Row.cell (v:=h.v) rfl)) rfl (JL.nil (kk default nofun)))
        · (intro xx EF MF Q kk;(try refine JL.aT rfl rfl ?_);exact JL.q (OQ.load bP rfl .here (Row.cell (v:=N A) rfl)) rfl (JL.nil (kk default nofun)))
        · (intro xx EF MF Q kk;(try refine JL.aT rfl rfl ?_);exact JL.q (OQ.fst (s:=h) (m:=A) Tryd.underlying22 bG rfl rfl hAl hcap) rfl (JL.nil (kk default nofun)))
        · (intro xx EF MF Q kk;exact JL.cH (ι:=FQ F) (vs:=[(h.fst A).v]) (fun q=>aE q.1 F.length) (fun q=>aQ 22 q.1 (F.map (aB (h.fst A)))) gT rfl rfl (fun q e he=>cl _ _ _ e he) (fun w' hw'=>hcall w' (hok' hw')) fun q=>JL.nil (kk q nofun))
        · (intro xx EF MF Q kk;(try refine JL.aT rfl rfl ?_);exact JL.q (OQ.move rfl) rfl (JL.nil (kk default nofun)))
        · (intro xx EF MF Q kk;(try refine JL.aT rfl rfl ?_);exact JL.q (OQ.load e6 rfl .here (Row.cell (v:=h.v) rfl)) rfl (JL.nil (kk default nofun)))
        · (intro xx EF MF Q kk;(try refine JL.aT rfl rfl ?_);exact JL.q (OQ.load bP rfl .here (Row.cell (v:=N A) rfl)) rfl (JL.nil (kk default nofun)))
        · (intro xx EF MF Q kk;(try refine JL.aT rfl rfl ?_);exact JL.q (OQ.move rfl) rfl (JL.nil (kk default nofun)))
        · (intro xx EF MF Q kk;(try refine JL.aT rfl rfl ?_);exact JL.q (OQ.len (k:=EE.l.length) (ad:=EE.ad) (cap:=EE.cap) Tryd.underlying22 rfl) rfl (JL.nil (kk default nofun)))
        · (intro xx EF MF Q kk;(try refine JL.aT rfl rfl ?_);exact JL.q (OQ.bn (a:=A) (b:=EE.l.length) rfl rfl (by omega)) rfl (JL.nil (kk default nofun)))
        · (intro xx EF MF Q kk;(try refine JL.aT rfl rfl ?_);exact JL.q (OQ.snd (s:=h) (m:=A+EE.l.length) Tryd.underlying22 bG rfl rfl (by omega)) rfl (JL.nil (kk default nofun)))
        · (intro xx EF MF Q kk;(try refine JL.aT rfl rfl ?_);exact JL.q (OQ.cQ (cs:=[aE (xx 3).1 F.length,EE.v,(h.snd (A+EE.l.length)).v]) [0,1,2] [.tmp 17,.tmp 18,.tmp 24] (vs:=[aE (xx 3).1 F.length,EE.v,(h.snd (A+EE.l.length)).v]) rfl rfl (pV _ _ _ _)) rfl (JL.nil (kk (xx 3) (fun k h=>by cases h;rfl))))
        · (intro xx EF MF Q kk;exact JL.cE (cs:=[aE (xx 11).1 F.length,EE.v,(h.snd (A+EE.l.length)).v]) (r:=dL) gU rfl rfl rfl ((congrArg (List.all · Value.oneCell') (hmv (xx 11).1)).trans (fL _ _ _)) .here rfl (JL.nil (kk (xx 11) (fun k h=>by cases h;rfl))))
        · (intro xx EF MF Q kk;exact JL.bf (v:=.bool true) (r':=[.bool true]) nF rfl rfl rfl rfl .here (Nat.zero_lt_one) rfl (JL.nil (kk default nofun)))
      · intro xx hx
        have e1 : xx 12=xx 11:=hx 12 11 (by decide) rfl
        have e2 : xx 11=xx 3:=hx 11 3 (by decide) rfl
        refine JE.cr (JR.ret ?_)
        repeat (first | with_reducible refine JE.az ?_ | with_reducible refine JE.aU ?_)
        refine JE.cM (k',(xx 3).1) ⟨⟨hk,htx,hno⟩,fun e=>hF.trans ((xx 3).2 e)⟩ ?_
        show av _ (⟨b2,Row 33 [aE (xx 12).1 F.length,EE.v,(h.snd (A+EE.l.length)).v],true⟩::⟨b3,Row 4 [.bool true],true⟩::(aQ 22 (xx 3).1 (F.map (aB (h.fst A)))++[]))
        rw [e1,e2,List.append_nil,hmv (xx 3).1]
        exact oS hF hA (av.refl _)
    · have ht0 : 0<(aD h k').l.length:=by rw [htl];exact List.length_pos_iff.2 htx
      have hg9 : decide ((((aD h k').l.length : Nat) : Int)=0)=false:=decide_eq_false (by omega)
      repeat (first | refine JL.q (by first|(apply OQ.len (k:=(aD h k').l.length) (ad:=(aD h k').ad) (cap:=(aD h k').cap);exact Tryd.underlying22;rfl)|(apply OQ.eo (b:=0);rfl;rfl;exact hg9)|(apply OQ.move;rfl)) rfl ?_ | refine JR.seq ?_ | refine JR.block ?_ | refine JL.nil ?_ | with_reducible refine JE.cr ?_ | refine JR.region rfl (by first | with_reducible exact ak | with_reducible exact ag ak | with_reducible exact ay ak | with_reducible exact ag (ay ak) | with_reducible exact af | with_reducible exact ag af | with_reducible exact ay af | with_reducible exact ag (ay af) | with_reducible exact ag (ag (ay af))) ?_)
      refine JR.cond rfl (fun h=>by cases h) (fun _=>?_)
      have hN1 : N (aC h.l k'+((aD h k').l.length+(aI h k').l.length))=N (aC h.l (k'+1)):=by rw [hel];rfl
      repeat (first | refine JL.q (by first|(apply OQ.load;exact bP;rfl;exact (.there (.there (.there .here)));exact (Row.cell (v:=N (aC h.l k')) rfl))|(apply OQ.len (k:=(aD h k').l.length) (ad:=(aD h k').ad) (cap:=(aD h k').cap);exact Tryd.underlying22;rfl)|(apply OQ.len (k:=(aI h k').l.length) (ad:=(aI h k').ad) (cap:=(aI h k').cap);exact Tryd.underlying22;rfl)|(apply OQ.bn (a:=(aD h k').l.length) (b:=(aI h k').l.length);rfl;rfl;exact (by omega))|(apply OQ.to;exact (OQ.bn (a:=aC h.l k') (b:=(aD h k').l.length+(aI h k').l.length) rfl rfl (by omega));exact hN1)|(apply OQ.move;rfl)) rfl ?_ | with_reducible refine JE.cr ?_ | refine JR.skip ?_ | refine JR.region rfl (by first | with_reducible exact ak | with_reducible exact ag ak | with_reducible exact ay ak | with_reducible exact ag (ay ak) | with_reducible exact af | with_reducible exact ag af | with_reducible exact ay af | with_reducible exact ag (ay af) | with_reducible exact ag (ag (ay af))) ?_)
      refine JL.bf (v:=N (aC h.l (k'+1))) (r':=[N (aC h.l (k'+1))]) jC rfl rfl rfl rfl (.there (.there (.there .here))) Nat.zero_lt_one rfl ?_
      repeat (first | refine JL.nil ?_ | with_reducible refine JE.au ?_)
      refine JE.kZ (k'+1) ⟨rfl,fun j hj=>?_⟩ (av.refl _)
      rcases Nat.lt_or_ge j k' with h1 | h1
      · exact hno j h1
      · rw [show j=k' by omega]
        exact htx
end Rw
end
section
set_option maxRecDepth 10000
open Sl c6 jr
namespace Rw
theorem gi : aM Tryd.prog 13:=⟨_,Tryd.func13,rfl,by kernel_rfl⟩
def iX (s : jl) : List Bt:=aY s.rs s.rs.length
theorem oT (a b c : ai) : aY [a,b,c] 3=a.l++(b.l++c.l):=by simp [aY]
theorem nH (a b c : ai) : (aY [a,b,c] 3).length=a.l.length+(b.l.length+c.l.length):=by rw [oT,List.length_append,List.length_append]
abbrev WY:=Nat × Nat × Nat
theorem iY {w0 : World} {T : List Bt} {g c : ai} {z : WY} {MF : List ah} (w' : World) (hg : g.ok w') (hc : c.ok w') (hl : T.length+(g.l.length+c.l.length)≤1000000000) (h0 : 0<T.length)
    (hw : aa w0 [] ([⟨z.2.2,Row 22 [(⟨some ⟨z.1,0,none⟩,z.2.1,T⟩ : ai).v,g.v,c.v],true⟩,⟨z.1,Sl.Own 5 1 T.length z.2.1 (T.map U8),true⟩]++MF) w') :
    Calls Tryd.prog 20 [.slice (some ⟨z.2.2,0,none⟩) 3 3].toArray w' fun e w2=>∃ x : Nat × Nat,e=.returned (.slice (some ⟨x.1,0,none⟩) (T++(g.l++c.l)).length x.2)∧aa w' [] [⟨x.1,Sl.Own 5 1 (T++(g.l++c.l)).length x.2 ((T++(g.l++c.l)).map U8),true⟩] w2:=by
  obtain ⟨o,ho,hA⟩:=hw.get (b:=z.2.2) .here
  have ok : jl.ok w' ⟨some ⟨z.2.2,0,none⟩,3,[⟨some ⟨z.1,0,none⟩,z.2.1,T⟩,g,c]⟩:=by
    refine ⟨Nat.le_refl _,Reads.block ho (Row.all _ hA),fun y hy=>?_⟩
    simp only [List.mem_cons,List.mem_nil_iff,or_false] at hy
    rcases hy with rfl | rfl | rfl
    · exact fS hw (.there .here)
    · exact hg
    · exact hc
  have:=e8 _ w' ok (by show 0<(aY [_,g,c] 3).length;rw [nH];dsimp only;omega) (by show (aY [_,g,c] 3).length≤_;rw [nH];dsimp only;omega) (show 3≤1000000000 by decide)
  rw [show aY (⟨some ⟨z.2.2,0,none⟩,3,[⟨some ⟨z.1,0,none⟩,z.2.1,T⟩,g,c]⟩ : jl).rs (⟨some ⟨z.2.2,0,none⟩,3,[⟨some ⟨z.1,0,none⟩,z.2.1,T⟩,g,c]⟩ : jl).rs.length=T++(g.l++c.l) from oT _ _ _] at this
  exact this
set_option maxHeartbeats 8000000 in
theorem gW (s : jl) (g c : ai) (p : Nat) (t : TypeId) (w : World) (hp : w.heap[p]?=some (.cells #[s.v,g.v,c.v] t (0,0))) (hs : s.ok w) (hg : g.ok w) (hc : c.ok w) (h0 : 0<(iX s).length) (hn : s.rs.length≤1000000000) (hl : (iX s).length+(g.l.length+c.l.length)≤1000000000) :
    Calls Tryd.prog 13 [Pt p 0].toArray w fun e w'=>∃ x : Nat × Nat,e=.returned (.slice (some ⟨x.1,0,none⟩) (iX s++(g.l++c.l)).length x.2)∧aa w [] [⟨x.1,Sl.Own 5 1 (iX s++(g.l++c.l)).length x.2 ((iX s++(g.l++c.l)).map U8),true⟩] w':=by
  refine enter (n:=18) Tryd.func13 rfl rfl rfl (aa.start w []) ?_
  have hlt : p<w.heap.size:=(Array.getElem?_eq_some_iff.1 hp).1
  have hx : ∀ {M : List ah} {w' : World},aa w [] M w'→w'.heap[p]?=some (.cells #[s.v,g.v,c.v] t (0,0)):=fun hw=>(hw.aq.block p hlt (by simp)).trans hp
  obtain ⟨T,hT⟩ : ∃ T,iX s=T:=⟨_,rfl⟩
  have c1 : ∀ {M : List ah} {w' : World},aa w [] M w'→Calls Tryd.prog 20 [s.v].toArray w' fun e w2=>∃ x : Nat × Nat,e=.returned (.slice (some ⟨x.1,0,none⟩) T.length x.2)∧aa w' [] [⟨x.1,Sl.Own 5 1 T.length x.2 (T.map U8),true⟩] w2:=fun {M w'} hw=>by
    have:=e8 s w' (hs.holds hw rfl) (by rw [show aY s.rs s.rs.length=_ from hT,← hT];exact h0) (by rw [show aY s.rs s.rs.length=_ from hT,← hT];omega) hn
    rwa [show aY s.rs s.rs.length=T from hT] at this
  rw [hT] at h0 hl ⊢
  clear hT
  repeat (first | refine JL.q (by (apply OQ.assign;rfl)) rfl ?_ | refine JC.seq ?_ | refine JC.region ?_ | refine JL.nil ?_ | refine JE.next ?_)
  let vs : Nat→WY→Value:=fun j y=>match j with
    | 0=>Pt p 0
    | 1=>Pt p 0
    | 2=>Pt p 0
    | 3=>s.v
    | 4=>(.slice (some ⟨y.1,0,none⟩) T.length y.2.1)
    | 5=>Pt p 0
    | 6=>Pt p 0
    | 7=>Pt p 1
    | 8=>g.v
    | 9=>Pt p 0
    | 10=>Pt p 0
    | 11=>Pt p 2
    | 12=>c.v
    | 13=>.slice (some ⟨y.2.2,0,none⟩) 3 3
    | 14=>.slice (some ⟨y.1,0,none⟩) (T++(g.l++c.l)).length y.2.1
    | 15=>.slice (some ⟨y.1,0,none⟩) (T++(g.l++c.l)).length y.2.1
    | _=>N 0
  let Ms : Nat→WY→List ah:=fun j y=>match j with
    | 4=>[⟨y.1,Sl.Own 5 1 T.length y.2.1 (T.map U8),true⟩]
    | 13=>[⟨y.2.2,Row 22 [(⟨some ⟨y.1,0,none⟩,y.2.1,T⟩ : ai).v,g.v,c.v],true⟩,⟨y.1,Sl.Own 5 1 T.length y.2.1 (T.map U8),true⟩]
    | 14=>[⟨y.1,Sl.Own 5 1 (T++(g.l++c.l)).length y.2.1 ((T++(g.l++c.l)).map U8),true⟩]
    | _=>[]
  refine JC.gK (g:=⟨[(0,Pt p 0)],16,vs,Ms,(fun j=>match j with | 1=>[(0,3)] | 2=>[(1,4)] | 3=>[(2,5)] | 4=>[(3,6)] | 6=>[(5,8)] | 7=>[(6,9)] | 8=>[(7,10)] | 10=>[(9,12)] | 11=>[(10,13)] | 12=>[(11,14)] | 13=>[(4,7),(8,11),(12,15)] | 14=>[(13,16)] | 15=>[(14,17)] | _=>[]),(fun j=>match j with | 13=>[4] | 14=>[13] | _=>[]),(fun j=>match j with | 13=>[4] | _=>[]),(fun j=>match j with | 13=>some 4 | 15=>some 14 | _=>none),fun _=>[],fun j a b=>j=15→a=b⟩) [(15,2)] [14] fk (by repeat (first | exact aj.nil | refine aj.cons _ _ _ rfl ?_)) (fun _ _=>.nil) ?_ (by kernel_rfl) (by kernel_rfl) (by kernel_rfl) ?_ ?_
  · exact .nil _
  · refine ⟨?_,?_,?_,?_,?_,?_,?_,?_,?_,?_,?_,?_,?_,?_,?_,?_,trivial⟩
    · (intro xx EF MF Q kk;(try refine JL.aT rfl rfl ?_);exact JL.q (OQ.move rfl) rfl (JL.nil (kk default nofun)))
    · (intro xx EF MF Q kk;(try refine JL.aT rfl rfl ?_);exact JL.q (OQ.ir rfl) rfl (JL.nil (kk default nofun)))
    · (intro xx EF MF Q kk;(try refine JL.aT rfl rfl ?_);exact JL.q (OQ.jK rfl rfl rfl (by decide) rfl) rfl (JL.nil (kk default nofun)))
    · (intro xx EF MF Q kk;(try refine JL.aT rfl rfl ?_);exact JL.q (OQ.cg (fun w' hw'=>aS j7 (cell_of (hx hw') rfl)) rfl) rfl (JL.nil (kk default nofun)))
    · (intro xx EF MF Q kk;exact JL.cH (ι:=Nat × Nat) (vs:=[s.v]) (fun x=>(.slice (some ⟨x.1,0,none⟩) T.length x.2)) (fun x=>[⟨x.1,Sl.Own 5 1 T.length x.2 (T.map U8),true⟩]) dj rfl rfl (fun x e he=>by rw [List.mem_singleton.1 he]) (fun w' hw'=>c1 hw') fun x=>JL.nil (kk (x.1,x.2,0) nofun))
    · (intro xx EF MF Q kk;(try refine JL.aT rfl rfl ?_);exact JL.q (OQ.move rfl) rfl (JL.nil (kk default nofun)))
    · (intro xx EF MF Q kk;(try refine JL.aT rfl rfl ?_);exact JL.q (OQ.ir rfl) rfl (JL.nil (kk default nofun)))
    · (intro xx EF MF Q kk;(try refine JL.aT rfl rfl ?_);exact JL.q (OQ.jK rfl rfl rfl (by decide) rfl) rfl (JL.nil (kk default nofun)))
    · (intro xx EF MF Q kk;(try refine JL.aT rfl rfl ?_);exact JL.q (OQ.cg (fun w' hw'=>aS e6 (cell_of (hx hw') rfl)) rfl) rfl (JL.nil (kk default nofun)))
    · (intro xx EF MF Q kk;(try refine JL.aT rfl rfl ?_);exact JL.q (OQ.move rfl) rfl (JL.nil (kk default nofun)))
    · (intro xx EF MF Q kk;(try refine JL.aT rfl rfl ?_);exact JL.q (OQ.ir rfl) rfl (JL.nil (kk default nofun)))
    · (intro xx EF MF Q kk;(try refine JL.aT rfl rfl ?_);exact JL.q (OQ.jK rfl rfl rfl (by decide) rfl) rfl (JL.nil (kk default nofun)))
    · (intro xx EF MF Q kk;(try refine JL.aT rfl rfl ?_);exact JL.q (OQ.cg (fun w' hw'=>aS e6 (cell_of (hx hw') rfl)) rfl) rfl (JL.nil (kk default nofun)))
    · (intro xx EF MF Q kk;exact JL.pE (v1:=(⟨some ⟨(xx 4).1,0,none⟩,(xx 4).2.1,T⟩ : ai).v) (v2:=g.v) (v3:=c.v) Tryd.underlying31 pT rfl rfl rfl rfl rfl rfl rfl rfl fun b0 _=>JL.nil (kk ((xx 4).1,(xx 4).2.1,b0) (fun k h hh=>by cases hh)))
    · (intro xx EF MF Q kk;exact JL.cH (ι:=Nat × Nat) (vs:=[.slice (some ⟨(xx 13).2.2,0,none⟩) 3 3]) (fun x=>.slice (some ⟨x.1,0,none⟩) (T++(g.l++c.l)).length x.2) (fun x=>[⟨x.1,Sl.Own 5 1 (T++(g.l++c.l)).length x.2 ((T++(g.l++c.l)).map U8),true⟩]) dj rfl rfl (fun x e he=>by rw [List.mem_singleton.1 he]) (fun w' hw'=>iY w' (hg.holds hw' rfl) (hc.holds hw' rfl) hl h0 hw') fun x=>JL.nil (kk (x.1,x.2,0) nofun))
    · (intro xx EF MF Q kk;(try refine JL.aT rfl rfl ?_);exact JL.q (OQ.assign rfl) rfl (JL.nil (kk (xx 14) (fun k h hh=>by cases h;rfl))))
  · intro xx hx
    have e1 : xx 15=xx 14:=hx 15 14 (by decide) rfl rfl
    refine JE.next ?_
    skip
    refine JC.ret (JE.aN rfl (RV.tmp rfl) fun w2 hw=>⟨((xx 15).1,(xx 15).2.1),rfl,?_⟩)
    rw [e1]
    exact hw
end Rw
end
section
set_option maxRecDepth 10000
open Sl c6 jr
namespace Rw
theorem lS (q : Acc) (k : Nat) : (aE q k).cells=#[aE q k]:=by cases q <;> rfl
theorem gX : aM Tryd.prog 12:=⟨_,Tryd.func12,rfl,by kernel_rfl⟩
def lT (s : ai) (S : List Nat) : Prop:=s.l≠[]→∀ a,s.ad=some a→a.block ∉ S
theorem mV {w0 w : World} {S : List Nat} {M : List ah} {s : ai} (h : s.ok w0) (hw : aa w0 S M w) (ha : lT s S) : s.ok w:=
  ⟨h.len,hw.reads h.reads fun h0 a e=>ha (fun h1=>h0 (by rw [h1];rfl)) a e⟩
def ei (k n m : Int) (tx : List Bt) : List Value:=[I k,I n,I m,Z tx]
abbrev nI (p b cap : Nat) (gv cv : Value) (fs : List Value) : List ah:=[⟨p,Row 33 [.slice (some ⟨b,0,none⟩) fs.length cap,gv,cv],true⟩,⟨b,Sl.Own 22 1 fs.length cap fs,true⟩]
def iZ (n : Int) (k : Nat) : Nat:=(n % (k : Int)).toNat
theorem oe {n : Int} {k : Nat} (h : 0<k) : iZ n k<k:=by
  unfold iZ
  have h1:=Int.emod_nonneg n (b:=(k : Int)) (by omega)
  have h2:=Int.emod_lt_of_pos n (b:=(k : Int)) (by omega)
  omega
theorem oU {n : Int} {k : Nat} (h : 0<k) : I (n % (k : Int))=N (iZ n k):=by
  unfold iZ
  have h1:=Int.emod_nonneg n (b:=(k : Int)) (by omega)
  show I _=I _
  rw [Int.toNat_of_nonneg h1]
set_option maxHeartbeats 8000000 in
theorem gY (p b cap : Nat) (gv cv : Value) (fs : List Value) (R : ai) (xn xm : Int) (tx : List Bt) (w : World) (S : List Nat) (h0 : aa w S (nI p b cap gv cv fs) w) (hn : 0<fs.length) (hn2 : fs.length<4611686018427387904) (hR : fs[iZ xn fs.length]?=some R.v) (hok : R.ok w) (haw : lT R S) (hl : R.l.length≤4294967296) :
    Calls Tryd.prog 12 [Pt p 0,.agg (ei 4 xn xm tx).toArray].toArray w fun e w'=>∃ q : {q : Acc // q=none→R.l=[]},e=.returned (.tuple #[])∧aa w S (nI p b cap gv cv (fs.set (iZ xn fs.length) (aE q.1 R.l.length))++aQ 5 q.1 ((bH xm R.l).map U8)) w':=by
  refine enter (n:=87) Tryd.func12 rfl rfl rfl h0 ?_
  obtain ⟨n,hnn⟩ : ∃ n,fs.length=n:=⟨_,rfl⟩
  obtain ⟨at_,hat⟩ : ∃ a,iZ xn n=a:=⟨_,rfl⟩
  have hlt : at_<n:=hat ▸ oe (hnn ▸ hn)
  have hav : I (xn % (n : Int))=N at_:=hat ▸ oU (hnn ▸ hn)
  show JC _ _ _ _ _ _ _ [⟨p,Row 33 [.slice (some ⟨b,0,none⟩) fs.length cap,gv,cv],true⟩,⟨b,Sl.Own 22 1 fs.length cap fs,true⟩]
  rw [hnn] at hn hn2 hR ⊢
  rw [hat] at hR ⊢
  have hcl : ∀ o,Sl.Own 22 1 n cap fs o→cellAt o (0+at_)=some R.v:=by rw [Nat.zero_add];exact Sl.Own.cell hR
  have hzp : Pt b (0+at_)=Pt b at_:=by rw [Nat.zero_add]
  have hg3 : decide ((4 : Int)=3)=false:=rfl
  have hg4 : decide ((4 : Int)=4)=true:=rfl
  refine JC.seq (JC.region ?_)
  refine JL.box (r:=ei 4 xn xm tx) rfl rfl rfl fun b3 _=>?_
  refine JL.nil (JE.next ?_)
  refine JC.seq ?_
  refine JC.quiet fk (by kernel_rfl) ?_
  repeat (first | refine JL.q (by first|(apply OQ.load;exact bP;rfl;exact .here;exact (Row.cell (v:=I xn) rfl))|(apply OQ.load;exact j7;rfl;exact (.there .here);exact (Row.cell (v:=.slice (some ⟨b,0,none⟩) n cap) rfl))|(apply OQ.len (k:=n) (ad:=some ⟨b,0,none⟩) (cap:=cap);exact Tryd.underlying31;rfl)|(apply OQ.to;exact (OQ.aH (vs:=[I xn,N n]) dX rfl (fun w' _=>e9 xn n hn hn2 w'));exact hav)|(apply OQ.load;exact bP;rfl;exact .here;exact (Row.cell (v:=I 4) rfl))|(apply OQ.eo (a:=4) (b:=3);rfl;rfl;exact hg3)|(apply OQ.move;rfl)|(apply OQ.assign;rfl)|(apply OQ.ir;rfl)|(apply OQ.jK;rfl;rfl;rfl;exact (by decide);rfl)) rfl ?_ | refine JQ.q (by first|(apply OQ.load;exact bP;rfl;exact .here;exact (Row.cell (v:=I xn) rfl))|(apply OQ.load;exact j7;rfl;exact (.there .here);exact (Row.cell (v:=.slice (some ⟨b,0,none⟩) n cap) rfl))|(apply OQ.len (k:=n) (ad:=some ⟨b,0,none⟩) (cap:=cap);exact Tryd.underlying31;rfl)|(apply OQ.to;exact (OQ.aH (vs:=[I xn,N n]) dX rfl (fun w' _=>e9 xn n hn hn2 w'));exact hav)|(apply OQ.load;exact bP;rfl;exact .here;exact (Row.cell (v:=I 4) rfl))|(apply OQ.eo (a:=4) (b:=3);rfl;rfl;exact hg3)|(apply OQ.move;rfl)|(apply OQ.assign;rfl)|(apply OQ.ir;rfl)|(apply OQ.jK;rfl;rfl;rfl;exact (by decide);rfl)) rfl ?_ | refine JC.seq ?_ | refine JC.region ?_ | refine JC.block ?_ | refine JL.nil ?_ | refine JQ.nil ?_ | refine JE.next ?_)
  refine JC.cond_false rfl rfl ?_
  repeat (first | refine JL.q (by first|(apply OQ.eo (a:=4) (b:=4);rfl;rfl;exact hg4)|(apply OQ.assign;rfl)) rfl ?_ | refine JC.seq ?_ | refine JC.region ?_ | refine JL.nil ?_ | refine JE.next ?_)
  refine JC.cond_true rfl rfl ?_
  haveI : Inhabited {q : Acc // q=none→R.l=[]}:=⟨⟨some (0,0),nofun⟩⟩
  let vs : Nat→{q : Acc // q=none→R.l=[]}→Value:=fun j y=>match j with
    | 0=>Pt p 0
    | 1=>Pt p 0
    | 2=>Pt p 0
    | 3=>.slice (some ⟨b,0,none⟩) n cap
    | 4=>N at_
    | 5=>Pt p 0
    | 6=>Pt p 0
    | 7=>Pt p 0
    | 8=>.slice (some ⟨b,0,none⟩) n cap
    | 9=>N at_
    | 10=>Pt b (0+at_)
    | 11=>R.v
    | 12=>Pt b3 2
    | 13=>I xm
    | 14=>aE y.1 R.l.length
    | 15=>Pt b at_
    | _=>N 0
  let Ms : Nat→{q : Acc // q=none→R.l=[]}→List ah:=fun j y=>match j with
    | 14=>aQ 5 y.1 ((bH xm R.l).map U8)
    | 16=>[⟨b,Sl.Own 22 1 n cap (fs.set at_ (aE y.1 R.l.length)),true⟩]
    | 17=>[⟨b3,Row 26 (ei 4 xn xm tx),true⟩]
    | 18=>[⟨p,Row 33 [.slice (some ⟨b,0,none⟩) n cap,gv,cv],true⟩]
    | 19=>[⟨b,Sl.Own 22 1 n cap fs,true⟩]
    | _=>[]
  refine JC.gK (g:=⟨[(0,Pt p 0),(3,Pt b3 0),(4,N at_)],20,vs,Ms,(fun j=>match j with | 1=>[(0,35)] | 2=>[(1,36)] | 3=>[(2,37)] | 6=>[(5,40)] | 7=>[(6,41)] | 8=>[(7,42)] | 10=>[(8,43),(9,44)] | 11=>[(10,45)] | 13=>[(12,47)] | 14=>[(11,46),(13,48)] | 15=>[(3,38),(4,39)] | 16=>[(15,50),(14,49)] | _=>[]),(fun j=>match j with | 3=>[18] | 8=>[18] | 11=>[19] | 13=>[17] | 16=>[19] | _=>[]),(fun j=>match j with | 16=>[19] | _=>[]),(fun j=>match j with | 16=>some 14 | _=>none),fun _=>[],fun _ a b=>a=b⟩) [] [18,16,14] fk (by repeat (first | exact aj.nil | refine aj.cons _ _ _ rfl ?_)) (fun _ _=>.nil) ?_ (by kernel_rfl) (by kernel_rfl) (by kernel_rfl) ?_ ?_
  · exact av.refl _
  · refine ⟨?_,?_,?_,?_,?_,?_,?_,?_,?_,?_,?_,?_,?_,?_,?_,?_,?_,trivial⟩
    · (intro xx EF MF Q kk;(try refine JL.aT rfl rfl ?_);exact JL.q (OQ.move rfl) rfl (JL.nil (kk default nofun)))
    · (intro xx EF MF Q kk;(try refine JL.aT rfl rfl ?_);exact JL.q (OQ.ir rfl) rfl (JL.nil (kk default nofun)))
    · (intro xx EF MF Q kk;(try refine JL.aT rfl rfl ?_);exact JL.q (OQ.jK rfl rfl rfl (by decide) rfl) rfl (JL.nil (kk default nofun)))
    · (intro xx EF MF Q kk;(try refine JL.aT rfl rfl ?_);exact JL.q (OQ.load j7 rfl .here (Row.cell (v:=.slice (some ⟨b,0,none⟩) n cap) rfl)) rfl (JL.nil (kk default nofun)))
    · (intro xx EF MF Q kk;(try refine JL.aT rfl rfl ?_);exact JL.q (OQ.move rfl) rfl (JL.nil (kk default nofun)))
    · (intro xx EF MF Q kk;(try refine JL.aT rfl rfl ?_);exact JL.q (OQ.move rfl) rfl (JL.nil (kk default nofun)))
    · (intro xx EF MF Q kk;(try refine JL.aT rfl rfl ?_);exact JL.q (OQ.ir rfl) rfl (JL.nil (kk default nofun)))
    · (intro xx EF MF Q kk;(try refine JL.aT rfl rfl ?_);exact JL.q (OQ.jK rfl rfl rfl (by decide) rfl) rfl (JL.nil (kk default nofun)))
    · (intro xx EF MF Q kk;(try refine JL.aT rfl rfl ?_);exact JL.q (OQ.load j7 rfl .here (Row.cell (v:=.slice (some ⟨b,0,none⟩) n cap) rfl)) rfl (JL.nil (kk default nofun)))
    · (intro xx EF MF Q kk;(try refine JL.aT rfl rfl ?_);exact JL.q (OQ.move rfl) rfl (JL.nil (kk default nofun)))
    · (intro xx EF MF Q kk;(try refine JL.aT rfl rfl ?_);exact JL.q (OQ.bI (i:=at_) (b:=b) (j:=0) (len:=n) (cap:=cap) Tryd.underlying31 iQ rfl rfl hlt) rfl (JL.nil (kk default nofun)))
    · (intro xx EF MF Q kk;(try refine JL.aT rfl rfl ?_);exact JL.q (OQ.load (v:=R.v) e6 rfl .here hcl) rfl (JL.nil (kk default nofun)))
    · (intro xx EF MF Q kk;(try refine JL.aT rfl rfl ?_);exact JL.q (OQ.jK rfl rfl rfl (by decide) rfl) rfl (JL.nil (kk default nofun)))
    · (intro xx EF MF Q kk;(try refine JL.aT rfl rfl ?_);exact JL.q (OQ.load bP rfl .here (Row.cell (v:=I xm) rfl)) rfl (JL.nil (kk default nofun)))
    · (intro xx EF MF Q kk;exact JL.cH (ι:={q : Acc // q=none→R.l=[]}) (vs:=[R.v,I xm]) (fun q=>aE q.1 R.l.length) (fun q=>aQ 5 q.1 ((bH xm R.l).map U8)) iU rfl rfl (fun q e he=>cl _ _ _ e he) (fun w' hw'=>j5 R xm w' (mV hok hw' haw) hl) fun q=>JL.nil (kk q nofun))
    · (intro xx EF MF Q kk;(try refine JL.aT rfl rfl ?_);exact JL.q (OQ.to (OQ.bI (i:=at_) (b:=b) (j:=0) (len:=n) (cap:=cap) Tryd.underlying31 iQ rfl rfl hlt) hzp) rfl (JL.nil (kk default nofun)))
    · (intro xx EF MF Q kk;exact JL.cq (j:=at_) (xs':=fs.set at_ (aE (xx 14).1 R.l.length)) iQ rfl rfl (gV _ _) (lS _ _) .here (by rw [hnn];exact hlt) rfl (JL.nil (kk (xx 14) (fun k h=>by cases h;rfl))))
  · intro xx hx
    have e1 : xx 16=xx 14:=hx 16 14 (by decide) rfl
    repeat (refine JE.au ?_)
    refine JE.nK rfl fun w2 hw=>⟨xx 14,rfl,?_⟩
    have hw : aa w S (⟨p,Row 33 [.slice (some ⟨b,0,none⟩) n cap,gv,cv],true⟩::⟨b,Sl.Own 22 1 n cap (fs.set at_ (aE (xx 16).1 R.l.length)),true⟩::(aQ 5 (xx 14).1 ((bH xm R.l).map U8)++[])) w2:=hw
    rw [e1,List.append_nil] at hw
    unfold nI
    rw [List.length_set,hnn]
    exact hw
end Rw
end
section
set_option maxRecDepth 10000
open Sl jP
def lU (l : List jP.By) (w : World) (e : Ending) (w' : World) : Prop:=∃ x : ai,e=.returned x.v∧Ext w w'∧x.l=l∧x.ok w'
theorem JL.oV {P : Program} {n : Nat} {w0 : World} {S S' : List Nat} {ops : Array Oper} {Q : Exit→Act→World→Prop} {l : List Oper} {E : Env} {M : List ah} {d : Nat} {ty : TypeId} {pos : String} {aft : Array Edge} {r : List Bt} (M' : List ah)
    {f : FuncId} {xs : List Operand} {ats : Array TypeId} {vs : List Value} (hg : aM P f) (hx : dx E xs=some vs) (hd : Nat.blt d n=true)
    (hc : ∀ w1,aa w0 S M w1→Calls P f vs.toArray w1 (lU r w1))
    (hM : av M' M) (hS : ∀ e ∈ M',e.wr=true→e.b ∈ S')
    (k : ∀ x : ai,x.l=r→∀ w1,aa w0 S M w1→x.ok w1→JL P n w1 S' ops Q l ((d,x.v)::E) M') : JL P n w0 S ops Q (⟨some d,.call ⟨.value (.func f),xs.toArray,ats⟩,ty,pos,aft,none⟩::l) E M:=
  JL.nq (ι:={ x : ai // x.l=r }) (fun x=>x.1.v) (fun x w=>x.1.ok w) M' hg hx hd (fun w1 h1=>(hc w1 h1).mono fun e w2 ⟨x,e1,e2,e3,e4⟩=>⟨⟨x,e3⟩,e1,e2,e4⟩) hM hS fun x w1 h1 h2=>k x.1 x.2 w1 h1 h2
end
section
set_option maxRecDepth 10000
open Sl
section
variable {P : Program} {n : Nat} {w0 : World} {S : List Nat} {ops : Array Oper} {Q : Exit→Act→World→Prop} {l : List Oper} {E : Env} {M : List ah} {C : World→Prop}
variable {dst : Option Tmp} {d : Nat} {t t' e ty : TypeId} {pos : String} {aft : Array Edge} {g : Option (Nat × Bool)} {x y : Operand}
theorem JL.oW {ι : Type} {X M0 : List ah} (vf : ι→Value) (Yf : ι→List ah) {f : FuncId} {xs : List Operand} {ats : Array TypeId} {vs : List Value} (hg : aM P f) (hx : dx E xs=some vs) (hd : Nat.blt d n=true) (hX : ∀ e ∈ X,e.wr=true) (hY : ∀ i,∀ e ∈ Yf i,e.wr=true)
    (hc : ∀ w,aa w0 S (X++M0) w→aa w (keys X) X w→Calls P f vs.toArray w fun e w'=>∃ i,e=.returned (vf i)∧aa w (keys X) (Yf i) w')
    (k : ∀ i,JL P n w0 S ops Q l ((d,vf i)::E) (Yf i++M0)) : JL P n w0 S ops Q (⟨some d,.call ⟨.value (.func f),xs.toArray,ats⟩,ty,pos,aft,none⟩::l) E (X++M0):=
  JL.call (ι:=ι) vf (fun i=>Yf i++M0) hg hx hd (fun w hw=>(hc w hw (hw.own.weak (kE _ _))).mono fun _ _ ⟨i,h1,h2⟩=>⟨i,h1,hw.oL h2 hX (hY i)⟩) k
end
end
section
set_option maxRecDepth 10000
open Sl c6 jr
namespace Rw
def gZ (l : List Bt) (p : Nat × Nat) : List Bt:=(l.drop p.1).take p.2
def cR (h : ai) (p : Nat × Nat) : ai:=⟨(h.snd p.1).ad,(h.snd p.1).cap,gZ h.l p⟩
theorem jc {h : ai} {p : Nat × Nat} (hp : p.1+p.2≤h.l.length) : (cR h p).v=aB h p:=by
  have : (gZ h.l p).length=p.2:=by unfold gZ;rw [List.length_take,List.length_drop];omega
  unfold cR ai.v aB
  rw [this]
theorem eC {h : ai} {p : Nat × Nat} {w : World} (hs : h.ok w) (hp : p.1+p.2≤h.l.length) : (cR h p).ok w:=by
  have:=(hs.snd p.1 (by omega)).fst p.2
  rw [cO] at this
  exact this
theorem mW (l : List Bt) : ∀ p ∈ bg l,p.1+p.2≤l.length:=by
  intro p hp
  unfold bg at hp
  split at hp
  · cases hp
  · exact Nat.le_trans (lJ _ _ p hp) (cP _ _)
theorem lV (l : List Bt) : (bg l).length≤l.length:=by
  unfold bg
  split
  · exact Nat.zero_le _
  · exact Nat.le_trans (iV _ _) (jA l)
def lW (l : List Bt) (k : Nat) : List Bt:=((l.drop (aC l k)).take (aA (l.drop (aC l k)))).drop (cc l k).length
theorem nJ (h : ai) (k : Nat) : (aI h k).l=lW h.l k:=by
  show ((bw h k).l.take (aA (bw h k).l)).drop (aD h k).l.length=_
  rw [dJ,lI]
  rfl
theorem mX {h : ai} {w : World} (hs : h.ok w) (k : Nat) : (aI h k).ok w:=(eY (di hs k)).snd _ (iP h k)
theorem mY (l : List Bt) (k : Nat) : (lW l k).length≤l.length:=by
  unfold lW
  rw [List.length_drop,List.length_take,List.length_drop]
  omega
theorem lX (h : ai) (w : World) (hs : h.ok w) (hl : h.l.length≤1000000000) {k : Nat} (hg : ef h.l k) {F : List (Nat × Nat)} (hF : mh h.l k=F) :
    Calls Tryd.prog 10 [h.v].toArray w fun e w'=>∃ q : FQ F,e=.returned (.tuple #[.agg (bQ h k q.1).toArray,.bool true])∧aa w [] (aQ 22 q.1 (F.map (aB (gh h k)))) w':=
  (lR h w hs hl).mono fun e w' he=>by
    rcases he with ⟨⟨k',q⟩,⟨h1,h2⟩,h3,h4⟩ | ⟨h1,_⟩
    · obtain rfl : k'=k:=mU h1 hg
      subst hF
      exact ⟨⟨q,h2⟩,h3,h4⟩
    · exact absurd h1 (oc hg)
theorem lY {w0 w : World} {X M : List ah} {s : ai} (hw : aa w0 [] (X++M) w) (hX : ∀ e ∈ X,e.wr=true) (hs : s.ok w0) : lT s (keys X):=by
  intro h0 a ha hm
  obtain ⟨e,he,hb⟩:=List.mem_map.1 hm
  have h1:=hs.lt h0 a ha
  rcases (hw.all e (List.mem_append_left _ he)).2 (hX e he) with h | h
  · simp at h
  · omega
theorem jd {p b cap : Nat} {gv cv : Value} {fs : List Value} : ∀ e ∈ nI p b cap gv cv fs,e.wr=true:=by
  intro e he
  simp only [List.mem_cons,List.mem_nil_iff,or_false] at he
  rcases he with rfl | rfl <;> rfl
theorem mZ {p b cap : Nat} {gv cv : Value} {fs cs : List Value} {q : Acc} : ∀ e ∈ nI p b cap gv cv fs++aQ 5 q cs,e.wr=true:=by
  intro e he
  rcases List.mem_append.1 he with he | he
  · exact jd e he
  · exact cl _ _ _ e he
theorem bR : aM Tryd.prog 6:=⟨_,Tryd.func6,rfl,by kernel_rfl⟩
theorem pW : ij Tryd.prog 26=true:=by kernel_rfl
theorem qm : bX Tryd.prog 26=some 4:=by kernel_rfl
set_option maxHeartbeats 8000000 in
theorem je (h : ai) (xn xm : Int) (tx : List Bt) (w : World) (hs : h.ok w) (hl : h.l.length≤100000000) {k : Nat} (hg : ef h.l k) {F : List (Nat × Nat)} (hF : mh h.l k=F) (hne : F≠[]) {p : Nat × Nat} (hp : F[iZ xn F.length]?=some p) {T : List Bt}
    (hT : ((F.map (gZ (gh h k).l)).set (iZ xn F.length) (bH xm (gZ (gh h k).l p))).flatten=T) (h0 : 0<T.length) (ht : T.length≤100000000) :
    Calls Tryd.prog 6 [h.v,.agg (ei 4 xn xm tx).toArray].toArray w (lU (T++(lW h.l k++h.l.drop (aC h.l (k+1)))) w):=by
  refine enter (n:=45) Tryd.func6 rfl rfl rfl (aa.start w []) ?_
  have hFn : 0<F.length:=List.length_pos_iff.2 hne
  have hdl : (gh h k).l=h.l.take (aC h.l k):=rfl
  have hFl : F.length≤100000000:=by
    have:=lV (h.l.take (aC h.l k))
    rw [show bg (h.l.take (aC h.l k))=F from hF,List.length_take] at this
    omega
  have hFb : ∀ p ∈ F,p.1+p.2≤(gh h k).l.length:=by
    have:=mW (h.l.take (aC h.l k))
    rw [show bg (h.l.take (aC h.l k))=F from hF] at this
    exact this
  have hpm : p ∈ F:=List.mem_of_getElem? hp
  have hg1 : decide ((4 : Int)=1)=false:=rfl
  have hg2 : decide ((4 : Int)=2)=false:=rfl
  have hg6 : decide ((4 : Int)=6)=false:=rfl
  refine JC.seq (JC.region ?_)
  refine JL.box (r:=ei 4 xn xm tx) rfl rfl rfl fun b3 _=>?_
  repeat (first | refine JL.q (by first|(apply OQ.load;exact bP;rfl;exact .here;exact (Row.cell (v:=I 4) rfl))|(apply OQ.eo (a:=4) (b:=1);rfl;rfl;exact hg1)|(apply OQ.assign;rfl)|(apply OQ.jK;rfl;rfl;rfl;exact (by decide);rfl)) rfl ?_ | refine JC.seq ?_ | refine JC.region ?_ | refine JC.block ?_ | refine JL.nil ?_ | refine JE.next ?_)
  refine JC.cond_false rfl rfl ?_
  repeat (first | refine JL.q (by first|(apply OQ.eo (a:=4) (b:=2);rfl;rfl;exact hg2)|(apply OQ.assign;rfl)) rfl ?_ | refine JC.seq ?_ | refine JC.region ?_ | refine JL.nil ?_ | refine JE.next ?_)
  refine JC.cond_false rfl rfl ?_
  repeat (first | refine JL.q (by (apply OQ.move;rfl)) rfl ?_ | refine JC.seq ?_ | refine JC.region ?_ | refine JC.skip ?_ | refine JE.next ?_ | refine JE.au ?_)
  refine JL.cH (ι:=FQ F) (vs:=[h.v]) (fun q=>.tuple #[.agg (bQ h k q.1).toArray,.bool true]) (fun q=>aQ 22 q.1 (F.map (aB (gh h k)))) j8 rfl rfl (fun q e he=>cl _ _ _ e he) (fun w' hw'=>lX h w' (hs.holds hw' rfl) (by omega) hg hF) ?_
  rintro ⟨q,hq⟩
  obtain ⟨⟨b,cap⟩,rfl⟩ : ∃ x : Nat × Nat,q=some x:=by
    cases q with
    | none=>exact absurd (hq rfl) hne
    | some x=>exact ⟨x,rfl⟩
  dsimp only
  repeat (refine JL.q (by first|(apply OQ.extract;rfl;rfl)|(apply OQ.move;rfl)) rfl ?_)
  refine JL.alloc (r:=dL) (by kernel_rfl) rfl fun b5 _=>?_
  refine JL.cE (cs:=bQ h k (some (b,cap))) (r:=dL) gU rfl rfl rfl (fL _ _ _) .here rfl ?_
  have hmv : bQ h k (some (b,cap))=[.slice (some ⟨b,0,none⟩) F.length cap,(aI h k).v,(h.snd (aC h.l (k+1))).v]:=by unfold bQ;rw [hF];rfl
  rw [hmv]
  repeat (first | refine JL.q (by first|(apply OQ.load;exact bP;rfl;exact (.there (.there .here));exact (Row.cell (v:=I 4) rfl))|(apply OQ.eo (a:=4) (b:=6);rfl;rfl;exact hg6)|(apply OQ.bA;rfl;rfl)|(apply OQ.move;rfl)|(apply OQ.assign;rfl)|(apply OQ.jK;rfl;rfl;rfl;exact (by decide);rfl)) rfl ?_ | refine JC.seq ?_ | refine JC.region ?_ | refine JC.block ?_ | refine JL.nil ?_ | refine JE.next ?_ | refine JL.aT rfl rfl ?_)
  refine JC.cond_false rfl rfl ?_
  have hgt : decide ((F.length : Int)>0)=true:=decide_eq_true (by omega)
  repeat (first | refine JL.q (by first|(apply OQ.load;exact j7;rfl;exact .here;exact (Row.cell (v:=.slice (some ⟨b,0,none⟩) F.length cap) rfl))|(apply OQ.len (k:=F.length) (ad:=some ⟨b,0,none⟩) (cap:=cap);exact Tryd.underlying31;rfl)|(apply OQ.iF (b:=0);rfl;rfl;exact hgt)|(apply OQ.bA;rfl;rfl)|(apply OQ.move;rfl)|(apply OQ.assign;rfl)|(apply OQ.jK;rfl;rfl;rfl;exact (by decide);rfl)) rfl ?_ | refine JC.seq ?_ | refine JC.region ?_ | refine JL.nil ?_ | refine JE.next ?_ | refine JL.aT rfl rfl ?_)
  refine JC.cond_true rfl rfl ?_
  repeat (first | refine JL.q (by (apply OQ.ko (cs:=ei 4 xn xm tx);exact pW;exact qm;rfl;exact (.there (.there .here));rfl;exact Row.all)) rfl ?_ | refine JC.seq ?_ | refine JC.region ?_)
  obtain ⟨fs,hfs⟩ : ∃ fs,F.map (aB (gh h k))=fs:=⟨_,rfl⟩
  have hfl : fs.length=F.length:=by rw [← hfs,List.length_map]
  have hhd : ∀ {w' : World},h.ok w'→(gh h k).ok w':=fun h=>h.fst _
  have hRl : (cR (gh h k) p).l.length≤4294967296:=by
    show (((h.l.take _).drop _).take _).length≤_
    rw [List.length_take,List.length_drop,List.length_take]
    omega
  have hRv : fs[iZ xn fs.length]?=some (cR (gh h k) p).v:=by
    rw [hfl,← hfs,List.getElem?_map,hp,jc (hFb p hpm)]
    rfl
  rw [hfs]
  show JL _ _ _ _ _ _ _ _ (⟨b5,Row 33 [.slice (some ⟨b,0,none⟩) F.length cap,(aI h k).v,(h.snd (aC h.l (k+1))).v],true⟩::⟨b,Sl.Own 22 1 fs.length cap fs,true⟩::[⟨b3,Row 26 (ei 4 xn xm tx),true⟩])
  rw [← hfl]
  show JL _ _ _ _ _ _ _ _ (nI b5 b cap (aI h k).v (h.snd (aC h.l (k+1))).v fs++[⟨b3,Row 26 (ei 4 xn xm tx),true⟩])
  refine JL.oW (ι:={q : Acc // q=none→(cR (gh h k) p).l=[]}) (X:=nI b5 b cap (aI h k).v (h.snd (aC h.l (k+1))).v fs) (M0:=[⟨b3,Row 26 (ei 4 xn xm tx),true⟩]) (vs:=[Pt b5 0,.agg (ei 4 xn xm tx).toArray]) (fun _=>.tuple #[]) (fun q=>nI b5 b cap (aI h k).v (h.snd (aC h.l (k+1))).v (fs.set (iZ xn fs.length) (aE q.1 (cR (gh h k) p).l.length))++aQ 5 q.1 ((bH xm (cR (gh h k) p).l).map U8)) gX rfl rfl jd (fun _=>mZ)
    (fun w' hw' hx'=>gY b5 b cap _ _ fs (cR (gh h k) p) xn xm tx w' _ hx' (by omega) (by omega) hRv (eC (hhd (hs.holds hw' rfl)) (hFb p hpm)) (lY hw' jd (eC (hhd hs) (hFb p hpm))) hRl) ?_
  rintro ⟨q,hq2⟩
  dsimp only
  repeat (first | refine JC.seq ?_ | refine JC.region ?_ | refine JL.nil ?_ | refine JE.next ?_)
  obtain ⟨R,hR⟩ : ∃ R,cR (gh h k) p=R:=⟨_,rfl⟩
  have hRb : R.l=gZ (gh h k).l p:=by rw [← hR];rfl
  rw [hR] at hq2 ⊢
  have hcl : (bH xm R.l).length=R.l.length:=fe _ _ _
  have hq3 : q=none→bH xm R.l=[]:=fun e=>List.length_eq_zero_iff.1 (by rw [hcl,hq2 e];rfl)
  obtain ⟨rs,hrs⟩ : ∃ rs,(F.map (cR (gh h k))).set (iZ xn fs.length) (iG q (bH xm R.l))=rs:=⟨_,rfl⟩
  have hrv : rs.map ai.v=fs.set (iZ xn fs.length) (aE q R.l.length):=by
    rw [← hrs,List.map_set,kG,hcl,List.map_map,← hfs]
    congr 1
    exact List.map_congr_left fun p hp=>jc (hFb p hp)
  have hrl : (rs.map ai.l).flatten=T:=by
    rw [← hT,← hrs,List.map_set,kH hq3,List.map_map,hRb,hfl]
    rfl
  have hrn : (fs.set (iZ xn fs.length) (aE q R.l.length)).length=rs.length:=by rw [← hrv,List.length_map]
  have hrn2 : rs.length=F.length:=by rw [← hrs,List.length_set,List.length_map]
  have hcA : iX ⟨some ⟨b,0,none⟩,cap,rs⟩=T:=by
    show ((rs.take rs.length).map ai.l).flatten=T
    rw [List.take_length,hrl]
  rw [← nJ,show h.l.drop (aC h.l (k+1))=(h.snd (aC h.l (k+1))).l from rfl]
  rw [← hrv] at hrn ⊢
  have hel : (aI h k).l.length≤h.l.length:=by rw [nJ];exact mY _ _
  have hdr : (h.snd (aC h.l (k+1))).l.length≤h.l.length:=by show (h.l.drop _).length≤_;rw [List.length_drop];omega
  refine JL.cH (ι:=Nat × Nat) (vs:=[Pt b5 0]) (fun x=>.slice (some ⟨x.1,0,none⟩) (T++((aI h k).l++(h.snd (aC h.l (k+1))).l)).length x.2) (fun x=>[⟨x.1,Sl.Own 5 1 (T++((aI h k).l++(h.snd (aC h.l (k+1))).l)).length x.2 ((T++((aI h k).l++(h.snd (aC h.l (k+1))).l)).map U8),true⟩]) gi rfl rfl (fun x e he=>by rw [List.mem_singleton.1 he]) (fun w' hw'=>?_) fun x=>?_
  · have ok:=hs.holds hw' rfl
    have hw2 : aa w [] (⟨b5,Row 33 [.slice (some ⟨b,0,none⟩) (rs.map ai.v).length cap,(aI h k).v,(h.snd (aC h.l (k+1))).v],true⟩::⟨b,Sl.Own 22 1 (rs.map ai.v).length cap (rs.map ai.v),true⟩::(aQ 5 q ((bH xm R.l).map U8)++[⟨b3,Row 26 (ei 4 xn xm tx),true⟩])) w':=hw'
    rw [List.length_map] at hw2
    obtain ⟨o,ho,hA⟩:=hw2.get (b:=b5) .here
    obtain ⟨o2,ho2,hA2⟩:=hw2.get (b:=b) (.there .here)
    have hh:=Sl.Own.cells _ hA2
    have o7 : jl.ok w' ⟨some ⟨b,0,none⟩,cap,rs⟩:=by
      refine ⟨?_,Reads.block ho2 hh,fun y hy=>?_⟩
      · obtain ⟨sp,_,_,_,h4⟩:=hA2
        exact h4
      · rw [← hrs] at hy
        rcases List.mem_or_eq_of_mem_set hy with hy | rfl
        · obtain ⟨p',hp',rfl⟩:=List.mem_map.1 hy
          exact eC (hhd ok) (hFb p' hp')
        · exact kI (hw2.weak (.drop _ _ _ (.drop _ _ _ (av.refl _))))
    have:=gW ⟨some ⟨b,0,none⟩,cap,rs⟩ (aI h k) (h.snd (aC h.l (k+1))) b5 33 w' (by rw [ho];exact congrArg some hA) o7 (mX ok k) (ok.snd _ (cP _ _)) (by rw [hcA];exact h0) (by show rs.length≤_;omega) (by rw [hcA];omega)
    rw [hcA] at this
    exact this
  · repeat (first | refine JL.q (by (apply OQ.assign;rfl)) rfl ?_ | refine JL.nil ?_ | refine JE.next ?_)
    refine JC.ret ?_
    repeat (first | refine JE.az ?_ | refine JE.aU ?_)
    exact JE.aN rfl (RV.tmp rfl) fun w' hw=>⟨⟨some ⟨x.1,0,none⟩,x.2,_⟩,rfl,hw.aq,rfl,fS hw .here⟩
end Rw
end
section
set_option maxRecDepth 10000
open Sl jP
namespace Rw
def buf (T : Nat) (o : List Bt) : List Value:=o.map U8++List.replicate (T - o.length) (.int .u8 0)
def lZ (b T k : Nat) : Value:=.slice (some ⟨b,if T=k then 0 else k,none⟩) (T - k) (T - k)
theorem ng {T : Nat} {o : List Bt} (h : o.length≤T) : (buf T o).length=T:=by
  unfold buf
  rw [List.length_append,List.length_map,List.length_replicate]
  omega
theorem nh {T j : Nat} {o p : List Bt} (h : o.length+p.length≤T) (hj : j=o.length∨p=[]∧j≤T) : (buf T o).take j++p.map U8++(buf T o).drop (j+p.length * 1)=buf T (o++p):=by
  rcases hj with rfl | ⟨rfl,_⟩
  · unfold buf
    rw [List.take_append_of_le_length (by simp),List.take_of_length_le (by simp),List.drop_append,List.drop_of_length_le (by simp),List.map_append,List.length_append,List.length_map,List.nil_append,List.drop_replicate]
    congr 2
    omega
  · simp
theorem OQ.gj {P : Program} {n : Nat} {E : Env} {C : World→Prop} {dst : Option Tmp} {t ty e : TypeId} {pos : String} {aft : Array Edge} {g : Option (Nat × Bool)} {x y : Operand} {b T k : Nat} (hu : P.underlying t=some (.slice e)) (hz : bX P e=some 1) (hx : ev E x=some (.slice (some ⟨b,0,none⟩) T T)) (hl : ev E y=some (N k)) (h : k≤T) :
    OQ P n E C ⟨dst,.slice t x (some y) none none,ty,pos,aft,g⟩ (lZ b T k):=by
  refine OQ.to (OQ.ku hu hz hx hl h) ?_
  unfold lZ
  congr 1
  by_cases hk : T=k
  · rw [if_pos hk,if_pos hk]
  · rw [if_neg hk,if_neg hk]
    simp only [Option.map_some,Addr.add,Nat.mul_one]
    split <;> simp_all
theorem OQ.cR {P : Program} {n : Nat} {E : Env} {C : World→Prop} {dst : Option Tmp} {t ty e : TypeId} {pos : String} {aft : Array Edge} {g : Option (Nat × Bool)} {x y z : Operand} {s : ai} {lo k : Nat} (hu : P.underlying t=some (.slice e)) (hz : bX P e=some 1) (hx : ev E x=some s.v) (hl : ev E y=some (N lo)) (hh : ev E z=some (N (lo+k))) (h : lo+k≤s.l.length) (hc : s.l.length≤s.cap) :
    OQ P n E C ⟨dst,.slice t x (some y) (some z) none,ty,pos,aft,g⟩ (cR s (lo,k)).v:=by
  rw [jc h]
  refine OQ.to (OQ.eN (ad:=s.ad) (len:=s.l.length) (cap:=s.cap) hu hz hx hl hh (Nat.le_add_right _ _) (by omega)) ?_
  unfold aB ai.snd
  rw [Nat.add_sub_cancel_left]
theorem JL.l5 {P : Program} {n : Nat} {w0 : World} {S : List Nat} {ops : Array Oper} {Q : Exit→Act→World→Prop} {l : List Oper} {E : Env} {M M' : List ah} {d : Nat} {t t' e te ty : TypeId} {pos : String} {aft : Array Edge} {x y : Operand} {b T : Nat} {o : List Bt} {pc : ai}
    (hu : P.underlying t=some (.slice e)) (hz : bX P e=some 1) (hx : ev E x=some (lZ b T o.length)) (hy : ev E y=some pc.v) (hup : eE M b (Row te (buf T o)) (Row te (buf T (o++pc.l))) M') (hr : ∀ w,aa w0 S M w→pc.ok w) (hT : o.length+pc.l.length≤T) (hd : Nat.blt d n=true)
    (k : JL P n w0 S ops Q l ((d,N pc.l.length)::E) M') : JL P n w0 S ops Q (⟨some d,.call ⟨.builtin .copy,#[x,y],#[t,t']⟩,ty,pos,aft,none⟩::l) E M:=by
  refine JL.oM (m:=pc.l.length) (sz:=1) (cs:=pc.l.map U8) (A:=Row te (buf T o)) (A':=Row te (buf T (o++pc.l))) hu hz hx hy hup (by omega) (by rw [List.length_map,Nat.mul_one]) (fun w hw=>(hr w hw).reads) (fun v hv=>by obtain ⟨c,_,rfl⟩:=List.mem_map.1 hv;rfl) (fun ob hob=>?_) hd k
  have hbl:=ng (T:=T) (o:=o) (by omega)
  refine ⟨buf T o,te,hob,?_,?_⟩
  · rw [hbl]
    split <;> omega
  · have:=nh (T:=T) (o:=o) (p:=pc.l) (j:=if T=o.length then 0 else o.length) hT (by
      split
      · exact .inr ⟨List.length_eq_zero_iff.1 (by omega),Nat.zero_le _⟩
      · exact .inl rfl)
    rw [this]
    exact rfl
theorem oX (b T : Nat) : (.slice (if T=0 then some ⟨b,0,none⟩ else (some (⟨b,0,none⟩ : Addr)).map (·.add (0 * 1))) (T - 0) (T - 0) : Value)=.slice (some ⟨b,0,none⟩) T T:=by
  rw [Nat.sub_zero]
  congr 1
  split
  · rfl
  · simp [Addr.add]
def cS (l : List Bt) (w : World) (e : Ending) (w' : World) : Prop:=∃ x : ai,e=.returned x.v∧Ext w w'∧x.l=l∧x.ok w'∧(x.ad=none→x.cap=0)
theorem l6 {q : Acc} {l : List Bt} : (iG q l).ad=none→(iG q l).cap=0:=by
  cases q with
  | none=>exact fun _=>rfl
  | some p=>intro h;cases h
theorem gm : aM Tryd.prog 28:=⟨_,Tryd.func28,rfl,by kernel_rfl⟩
structure qf where
  i : Nat
  st : Nat
  o : List Bt
set_option maxHeartbeats 8000000 in
theorem l7 (s d u : ai) (w : World) (hs : s.ok w) (hd : d.ok w) (hu : u.ok w) (hd1 : 1≤d.l.length) (hd2 : d.l.length≤2) (hu2 : u.l.length≤2) (hl : s.l.length≤1000000000) (hm : bN w)
    (hcnt : ∀ (M : List ah) (w' : World),aa w [] M w'→Calls Tryd.prog 46 [s.v,d.v].toArray w' fun e w2=>e=.returned (N (cW d.l s.l))∧Ext w' w2) :
    Calls Tryd.prog 28 [s.v,d.v,u.v,I (-1)].toArray w (cS (cK d.l u.l (cW d.l s.l) s.l) w):=by
  have hd0 : d.l≠[]:=fun h=>by rw [h] at hd1;cases hd1
  refine enter (n:=132) Tryd.func28 rfl rfl rfl (aa.start w []) ?_
  have hrl:=kS u.l hd0 (cW d.l s.l) s.l rfl
  have hcl:=kR hd0 s.l.length s.l (Nat.le_refl _)
  have hsc:=hs.len
  obtain ⟨n,hn⟩ : ∃ n,cW d.l s.l=n:=⟨_,rfl⟩
  rw [hn] at hrl hcl hcnt ⊢
  have hgm : decide ((-1 : Int)=0)=false:=rfl
  repeat (first | refine JL.q (by first|(apply OQ.qj (a:=-1) (b:=0);rfl;rfl;exact hgm)|(apply OQ.move;rfl)|(apply OQ.assign;rfl)) rfl ?_ | refine JC.seq ?_ | refine JC.region ?_ | refine JL.nil ?_ | refine JE.next ?_)
  refine JC.cond_true rfl rfl ?_
  by_cases h0 : n=0
  · subst h0
    have hg : decide (((0 : Nat) : Int)=0)=true:=rfl
    repeat (first | refine JL.q (by first|(apply OQ.aH (vs:=[s.v,d.v]);exact eR;rfl;exact (hcnt _))|(apply OQ.eo (b:=0);rfl;rfl;exact hg)|(apply OQ.move;rfl)|(apply OQ.assign;rfl)) rfl ?_ | refine JC.seq ?_ | refine JC.region ?_ | refine JL.nil ?_ | refine JE.next ?_)
    refine JC.cond_true rfl rfl ?_
    repeat (first | refine JL.q (by (apply OQ.move;rfl)) rfl ?_ | refine JC.seq ?_ | refine JC.region ?_)
    refine JL.jm (xs:=[]) (cs:=s.l.map U8) (m:=s.l.length) (ad:=s.ad) (sc:=s.cap) none Tryd.underlying22 iC (fun _=>rfl) rfl rfl (List.length_map _) (fun w' hw'=>(hs.holds hw' rfl).reads) (fun v hv=>by obtain ⟨c,_,rfl⟩:=List.mem_map.1 hv;rfl) rfl (by simp;omega) (by simp;omega) rfl fun q hq=>?_
    rw [List.nil_append,List.length_map] at *
    repeat (first | refine JL.q (by (apply OQ.assign;rfl)) rfl ?_ | refine JL.nil ?_ | refine JE.next ?_)
    refine JC.ret ?_
    repeat (refine JE.az ?_)
    refine JE.aN rfl (RV.tmp rfl) fun w' hw=>⟨iG q s.l,by rw [kG],hw.aq,?_,kI hw,l6⟩
    exact kH fun e=>by simpa using hq e
  · have hg : decide (((n : Nat) : Int)=0)=false:=decide_eq_false (by omega)
    repeat (first | refine JL.q (by first|(apply OQ.aH (vs:=[s.v,d.v]);exact eR;rfl;exact (hcnt _))|(apply OQ.eo (b:=0);rfl;rfl;exact hg)|(apply OQ.move;rfl)|(apply OQ.assign;rfl)) rfl ?_ | refine JC.seq ?_ | refine JC.region ?_ | refine JL.nil ?_ | refine JE.next ?_)
    refine JC.cond_false rfl rfl ?_
    have hg1 : decide ((-1 : Int)<0)=true:=rfl
    repeat (first | refine JL.q (by first|(apply OQ.gG (a:=-1) (b:=0);rfl;rfl;exact hg1)|(apply OQ.bA;rfl;rfl)|(apply OQ.move;rfl)) rfl ?_ | refine JC.seq ?_ | refine JC.region ?_ | refine JC.skip ?_ | refine JL.nil ?_ | refine JE.next ?_ | refine JL.cG rfl rfl rfl rfl ?_)
    refine JC.cond_true rfl rfl ?_
    obtain ⟨R,hR⟩ : ∃ R,cK d.l u.l n s.l=R:=⟨_,rfl⟩
    obtain ⟨T,hT⟩ : ∃ T,R.length=T:=⟨_,rfl⟩
    rw [hR] at hrl ⊢
    rw [hT] at hrl
    obtain ⟨A,hA⟩ : ∃ A,n * u.l.length=A:=⟨_,rfl⟩
    obtain ⟨B,hB⟩ : ∃ B,n * d.l.length=B:=⟨_,rfl⟩
    have hA2 : A≤2000000000:=by
      have:=Nat.mul_le_mul (show n≤1000000000 by omega) hu2
      omega
    have hB2 : B≤2000000000:=by
      have:=Nat.mul_le_mul (show n≤1000000000 by omega) hd2
      omega
    rw [hA,hB] at hrl
    have hAB : (n : Int) * ((u.l.length : Int) - (d.l.length : Int))=(A : Int) - B:=by rw [Int.mul_sub,← Int.natCast_mul,← Int.natCast_mul,hA,hB]
    have hTv : I ((s.l.length : Int)+(n : Int) * ((u.l.length : Int) - (d.l.length : Int)))=N T:=by
      rw [hAB]
      show I _=I _
      congr 1
      omega
    have hgd : decide ((d.l.length : Int)>0)=true:=decide_eq_true (by omega)
    repeat (first | refine JL.q (by first|(apply OQ.len (k:=s.l.length) (ad:=s.ad) (cap:=s.cap);exact Tryd.underlying22;rfl)|(apply OQ.len (k:=u.l.length) (ad:=u.ad) (cap:=u.cap);exact Tryd.underlying22;rfl)|(apply OQ.len (k:=d.l.length) (ad:=d.ad) (cap:=d.cap);exact Tryd.underlying22;rfl)|(apply OQ.ox (a:=(u.l.length : Int)) (b:=(d.l.length : Int));rfl;rfl;exact (by omega);exact (by omega))|(apply OQ.pG (a:=(n : Int)) (b:=(u.l.length : Int) - (d.l.length : Int));rfl;rfl;exact (by rw [hAB];omega);exact (by rw [hAB];omega))|(apply OQ.to;exact (OQ.oD (a:=(s.l.length : Int)) (b:=(n : Int) * ((u.l.length : Int) - (d.l.length : Int))) rfl rfl (by rw [hAB];omega) (by rw [hAB];omega));exact hTv)|(apply OQ.move;rfl)|(apply OQ.assign;rfl)) rfl ?_ | refine JC.seq ?_ | refine JC.region ?_ | refine JL.nil ?_ | refine JE.next ?_)
    refine JL.make (c:=T) Tryd.underlying22 iC (by rfl) (by decide) rfl rfl (by omega) (by omega) rfl fun b _=>?_
    repeat (first | refine JL.q (by first|(apply OQ.len (k:=d.l.length) (ad:=d.ad) (cap:=d.cap);exact Tryd.underlying22;rfl)|(apply OQ.iF (b:=0);rfl;rfl;exact hgd)|(apply OQ.move;rfl)|(apply OQ.assign;rfl)) rfl ?_ | refine JC.seq ?_ | refine JC.region ?_ | refine JL.nil ?_ | refine JE.next ?_)
    refine JC.cond_true rfl rfl ?_
    repeat (first | refine JL.q (by (apply OQ.move;rfl)) rfl ?_ | refine JC.seq ?_ | refine JC.region ?_ | refine JC.block ?_ | refine JL.nil ?_ | refine JE.next ?_)
    refine JC.loop (fun z : qf=>[(0,s.v),(1,d.v),(2,u.v),(3,N n),(10,.slice (some ⟨b,0,none⟩) T T),(11,N z.o.length),(12,N z.st),(48,N n),(49,N z.i)]) (fun z=>[⟨b,Row 5 (buf T z.o),true⟩]) (fun z=>n - z.i) (fun z=>z.i≤n∧z.st≤s.l.length∧cW d.l (s.l.drop z.st)=n - z.i∧z.o++cK d.l u.l (n - z.i) (s.l.drop z.st)=R) ⟨0,0,[]⟩ ⟨Nat.zero_le _,Nat.zero_le _,hn,hR⟩ (by repeat (first | exact aj.nil | refine aj.cons _ _ _ rfl ?_)) ?hM0 ?hround
    case hM0=>
      show av [⟨b,Row 5 (buf T []),true⟩] _
      unfold buf
      rw [List.map_nil,List.nil_append,List.length_nil,Nat.sub_zero]
      show av _ [⟨b,Row 5 (List.replicate (T * 1) (.int .u8 0)),true⟩]
      rw [Nat.mul_one]
      exact av.refl _
    case hround=>
    rintro ⟨i,st,o⟩ ⟨hi,hst,hc,ho⟩
    dsimp only at hi hst hc ho ⊢
    have hol : o.length+(cK d.l u.l (n - i) (s.l.drop st)).length=T:=by rw [← hT,← ho,List.length_append]
    repeat (first | refine JL.q (by (apply OQ.gA (a:=i) (b:=n);rfl;rfl)) rfl ?_ | refine JC.seq ?_ | refine JC.region ?_ | refine JL.nil ?_ | refine JE.next ?_)
    refine JC.cond rfl (fun h=>?_) (fun h=>?_)
    · have hi' : i<n:=of_decide_eq_true h
      clear h
      obtain ⟨ix,hj,hjl,hj3⟩:=cx hd0 (l:=s.l.drop st) (by omega)
      rw [List.length_drop] at hjl
      rw [List.drop_drop] at hj3
      have hq : ∀ (M : List ah) (w' : World),aa w [] M w'→Calls Tryd.prog 47 [(s.snd st).v,d.v].toArray w' fun e w2=>e=.returned (N ix)∧Ext w' w2:=fun M w' hw'=>by
        have:=kU (s.snd st) d w' ((hs.holds hw' rfl).snd st hst) (hd.holds hw' rfl) (fun e=>by
          have e : s.l.drop st=[]:=e
          have:=congrArg List.length e
          rw [List.length_drop,List.length_nil] at this
          omega) hd0 (by show (s.l.drop st).length<_;rw [List.length_drop];omega) hd2 (hm.ext hw'.aq)
        rw [show ez d.l (s.snd st).l=(ix : Int) from hj] at this
        exact this
      have hk : n - i=(n - (i+1))+1:=by omega
      rw [hk,cK,hj,Int.toNat_natCast,List.drop_drop] at ho hol
      obtain ⟨pc,hpc⟩ : ∃ pc,cR s (st,ix)=pc:=⟨_,rfl⟩
      have hpl : pc.l=(s.l.drop st).take ix:=by rw [← hpc];rfl
      have hpn : pc.l.length=ix:=by rw [hpl,List.length_take,List.length_drop];omega
      rw [← hpl] at ho hol
      rw [List.length_append,List.length_append] at hol
      have hpo : ∀ {M : List ah} {w' : World},aa w [] M w'→pc.ok w':=fun hw'=>hpc ▸ eC (hs.holds hw' rfl) (show st+ix≤s.l.length by omega)
      repeat (first | refine JL.q (by first|(apply OQ.snd (s:=s) (m:=st);exact Tryd.underlying22;exact bG;rfl;rfl;exact hst)|(apply OQ.aH (vs:=[(s.snd st).v,d.v]);exact cL;rfl;exact (hq _))|(apply OQ.bn (a:=st) (b:=ix);rfl;rfl;exact (by omega))|(apply OQ.move;rfl)|(apply OQ.assign;rfl)) rfl ?_ | refine JC.seq ?_ | refine JC.region ?_ | refine JC.block ?_ | refine JC.skip ?_ | refine JL.nil ?_ | refine JE.next ?_)
      let vs : Nat→Nat→Value:=fun j y=>match j with
        | 0=>N o.length
        | 1=>.slice (some ⟨b,0,none⟩) T T
        | 2=>N o.length
        | 3=>lZ b T o.length
        | 4=>s.v
        | 5=>N st
        | 6=>N (st+ix)
        | 7=>pc.v
        | 8=>N pc.l.length
        | 9=>N (o.length+pc.l.length)
        | 10=>N (o.length+pc.l.length)
        | _=>N 0
      let Ms : Nat→Nat→List ah:=fun j y=>match j with
        | 8=>[⟨b,Row 5 (buf T (o++pc.l)),true⟩]
        | 11=>[⟨b,Row 5 (buf T o),true⟩]
        | _=>[]
      refine JC.nk (g:=⟨[(0,s.v),(1,d.v),(2,u.v),(3,N n),(10,.slice (some ⟨b,0,none⟩) T T),(12,N st),(13,N (st+ix)),(48,N n),(49,N i)],12,vs,Ms,(fun j=>match j with | 3=>[(1,59),(2,60)] | 7=>[(4,62),(5,63),(6,64)] | 8=>[(3,61),(7,65)] | 9=>[(0,58),(8,66)] | 10=>[(9,67)] | _=>[]),(fun j=>match j with | 8=>[11] | _=>[]),(fun j=>match j with | 8=>[11] | _=>[]),(fun j=>match j with | _=>none),(fun j=>match j with | 0=>[(11,N o.length)] | 2=>[(11,N o.length)] | _=>[])⟩) [(10,11)] [8] fk (by repeat (first | exact aj.nil | refine aj.cons _ _ _ rfl ?_)) (fun i _=>by dsimp only;split <;> first | exact aj.nil | exact (by repeat (first | exact aj.nil | refine aj.cons _ _ _ rfl ?_))) ?_ (by kernel_rfl) (by kernel_rfl) (by kernel_rfl) ?_ ?_
      · exact av.refl _
      · refine ⟨?_,?_,?_,?_,?_,?_,?_,?_,?_,?_,?_,trivial⟩
        · (intro xx EF MF Q kk;(try refine JL.aT rfl rfl ?_);exact JL.q (OQ.move rfl) rfl (JL.nil (kk default nofun)))
        · (intro xx EF MF Q kk;(try refine JL.aT rfl rfl ?_);exact JL.q (OQ.move rfl) rfl (JL.nil (kk default nofun)))
        · (intro xx EF MF Q kk;(try refine JL.aT rfl rfl ?_);exact JL.q (OQ.move rfl) rfl (JL.nil (kk default nofun)))
        · (intro xx EF MF Q kk;(try refine JL.aT rfl rfl ?_);exact JL.q (OQ.gj Tryd.underlying22 bG rfl rfl (by omega)) rfl (JL.nil (kk default nofun)))
        · (intro xx EF MF Q kk;(try refine JL.aT rfl rfl ?_);exact JL.q (OQ.move rfl) rfl (JL.nil (kk default nofun)))
        · (intro xx EF MF Q kk;(try refine JL.aT rfl rfl ?_);exact JL.q (OQ.move rfl) rfl (JL.nil (kk default nofun)))
        · (intro xx EF MF Q kk;(try refine JL.aT rfl rfl ?_);exact JL.q (OQ.move rfl) rfl (JL.nil (kk default nofun)))
        · (intro xx EF MF Q kk;(try refine JL.aT rfl rfl ?_);exact JL.q (OQ.to (OQ.cR (s:=s) (lo:=st) (k:=ix) Tryd.underlying22 bG rfl rfl rfl (by omega) hsc) (congrArg ai.v hpc)) rfl (JL.nil (kk default nofun)))
        · (intro xx EF MF Q kk;exact JL.l5 (o:=o) (pc:=pc) Tryd.underlying22 bG rfl rfl .here (fun w' hw'=>hpo hw') (by omega) rfl (JL.nil (kk default nofun)))
        · (intro xx EF MF Q kk;(try refine JL.aT rfl rfl ?_);exact JL.q (OQ.bn (a:=o.length) (b:=pc.l.length) rfl rfl (by omega)) rfl (JL.nil (kk default nofun)))
        · (intro xx EF MF Q kk;(try refine JL.aT rfl rfl ?_);exact JL.q (OQ.assign rfl) rfl (JL.nil (kk default nofun)))
      · intro xx hx
        refine JE.next ?_
        have hno : (o++pc.l).length=o.length+pc.l.length:=List.length_append
        show JC _ _ _ _ _ _ ((11,N (o.length+pc.l.length))::[(0,s.v),(1,d.v),(2,u.v),(3,N n),(10,.slice (some ⟨b,0,none⟩) T T),(12,N st),(13,N (st+ix)),(48,N n),(49,N i)]) [⟨b,Row 5 (buf T (o++pc.l)),true⟩]
        rw [← Nat.add_assoc,← hno] at hol
        rw [← hno]
        rw [← List.append_assoc] at ho
        obtain ⟨o2,ho2⟩ : ∃ o2,o++pc.l=o2:=⟨_,rfl⟩
        rw [ho2] at ho hol ⊢
        have hno2 : (o2++u.l).length=o2.length+u.l.length:=List.length_append
        repeat (first | refine JL.q (by first|(apply OQ.gj;exact Tryd.underlying22;exact bG;rfl;rfl;exact (by omega))|(apply OQ.move;rfl)) rfl ?_ | refine JC.seq ?_ | refine JC.region ?_)
        refine JL.l5 (o:=o2) (pc:=u) Tryd.underlying22 bG rfl rfl .here (fun w' hw'=>hu.holds hw' rfl) (by omega) rfl ?_
        repeat (first | refine JL.q (by first|(apply OQ.to;exact (OQ.bn (a:=o2.length) (b:=u.l.length) rfl rfl (by omega));exact (congrArg N hno2.symm))|(apply OQ.len (k:=d.l.length) (ad:=d.ad) (cap:=d.cap);exact Tryd.underlying22;rfl)|(apply OQ.to;exact (OQ.bn (a:=st+ix) (b:=d.l.length) rfl rfl (by omega));exact (congrArg N (Nat.add_assoc st ix d.l.length)))|(apply OQ.bn (a:=i) (b:=1);rfl;rfl;exact (by omega))|(apply OQ.move;rfl)|(apply OQ.assign;rfl)) rfl ?_ | refine JC.region ?_ | refine JL.nil ?_ | refine JE.next ?_ | refine JE.au ?_)
        refine JE.again (i:=⟨i,st,o⟩) (⟨i+1,st+(ix+d.l.length),o2++u.l⟩ : qf) ?_ ?_ ?_ ?_
        rotate_left
        · show n - (i+1)<n - i
          omega
        · exact (by repeat (first | exact aj.nil | refine aj.cons _ _ _ rfl ?_))
        · exact av.refl _
        refine ⟨hi',?_,?_,?_⟩
        · show st+(ix+d.l.length)≤s.l.length
          omega
        · show cW d.l (s.l.drop (st+(ix+d.l.length)))=n - (i+1)
          omega
        · show (o2++u.l)++cK d.l u.l (n - (i+1)) (s.l.drop (st+(ix+d.l.length)))=R
          rw [List.append_assoc]
          exact ho
    · have hi' : i=n:=by have:=of_decide_eq_false h;omega
      subst hi'
      clear h
      rw [Nat.sub_self,cK] at ho hol
      rw [List.length_drop] at hol
      have hso : ∀ {M : List ah} {w' : World},aa w [] M w'→(s.snd st).ok w':=fun hw'=>(hs.holds hw' rfl).snd st hst
      have hsn : (s.snd st).l.length=s.l.length - st:=List.length_drop
      have hoT : o.length+(s.snd st).l.length=T:=by rw [hsn];omega
      repeat (first | refine JC.seq ?_ | refine JC.exit ?_ | refine JE.next ?_ | refine JE.aJ ?_ | refine JE.bk ?_)
      let vs : Nat→Nat→Value:=fun j y=>match j with
        | 0=>N o.length
        | 1=>.slice (some ⟨b,0,none⟩) T T
        | 2=>N o.length
        | 3=>lZ b T o.length
        | 4=>s.v
        | 5=>N st
        | 6=>(s.snd st).v
        | 7=>N (s.snd st).l.length
        | 8=>N T
        | 9=>N T
        | _=>N 0
      let Ms : Nat→Nat→List ah:=fun j y=>match j with
        | 7=>[⟨b,Row 5 (buf T (o++(s.snd st).l)),true⟩]
        | 10=>[⟨b,Row 5 (buf T o),true⟩]
        | _=>[]
      refine JC.nk (g:=⟨[(0,s.v),(1,d.v),(2,u.v),(3,N i),(10,.slice (some ⟨b,0,none⟩) T T),(12,N st),(48,N i),(49,N i)],11,vs,Ms,(fun j=>match j with | 3=>[(1,121),(2,122)] | 6=>[(4,124),(5,125)] | 7=>[(3,123),(6,126)] | 8=>[(0,120),(7,127)] | 9=>[(8,128)] | _=>[]),(fun j=>match j with | 7=>[10] | _=>[]),(fun j=>match j with | 7=>[10] | _=>[]),(fun j=>match j with | _=>none),(fun j=>match j with | 0=>[(11,N o.length)] | 2=>[(11,N o.length)] | _=>[])⟩) [(9,11)] [7] fk (by repeat (first | exact aj.nil | refine aj.cons _ _ _ rfl ?_)) (fun i _=>by dsimp only;split <;> first | exact aj.nil | exact (by repeat (first | exact aj.nil | refine aj.cons _ _ _ rfl ?_))) ?_ (by kernel_rfl) (by kernel_rfl) (by kernel_rfl) ?_ ?_
      · exact av.refl _
      · refine ⟨?_,?_,?_,?_,?_,?_,?_,?_,?_,?_,trivial⟩
        · (intro xx EF MF Q kk;(try refine JL.aT rfl rfl ?_);exact JL.q (OQ.move rfl) rfl (JL.nil (kk default nofun)))
        · (intro xx EF MF Q kk;(try refine JL.aT rfl rfl ?_);exact JL.q (OQ.move rfl) rfl (JL.nil (kk default nofun)))
        · (intro xx EF MF Q kk;(try refine JL.aT rfl rfl ?_);exact JL.q (OQ.move rfl) rfl (JL.nil (kk default nofun)))
        · (intro xx EF MF Q kk;(try refine JL.aT rfl rfl ?_);exact JL.q (OQ.gj Tryd.underlying22 bG rfl rfl (by omega)) rfl (JL.nil (kk default nofun)))
        · (intro xx EF MF Q kk;(try refine JL.aT rfl rfl ?_);exact JL.q (OQ.move rfl) rfl (JL.nil (kk default nofun)))
        · (intro xx EF MF Q kk;(try refine JL.aT rfl rfl ?_);exact JL.q (OQ.move rfl) rfl (JL.nil (kk default nofun)))
        · (intro xx EF MF Q kk;(try refine JL.aT rfl rfl ?_);exact JL.q (OQ.snd (s:=s) (m:=st) Tryd.underlying22 bG rfl rfl hst) rfl (JL.nil (kk default nofun)))
        · (intro xx EF MF Q kk;exact JL.l5 (o:=o) (pc:=s.snd st) Tryd.underlying22 bG rfl rfl .here (fun w' hw'=>hso hw') (by rw [hsn];omega) rfl (JL.nil (kk default nofun)))
        · (intro xx EF MF Q kk;(try refine JL.aT rfl rfl ?_);exact JL.q (OQ.to (OQ.bn (a:=o.length) (b:=(s.snd st).l.length) rfl rfl (by rw [hsn];omega)) (congrArg N hoT)) rfl (JL.nil (kk default nofun)))
        · (intro xx EF MF Q kk;(try refine JL.aT rfl rfl ?_);exact JL.q (OQ.assign rfl) rfl (JL.nil (kk default nofun)))
      · intro xx hx
        refine JE.next ?_
        have hbR : buf T (o++(s.snd st).l)=R.map U8:=by
          rw [show o++(s.snd st).l=R from ho]
          unfold buf
          rw [hT,Nat.sub_self,List.replicate_zero,List.append_nil]
        show JC _ _ _ _ _ _ ((11,N T)::[(0,s.v),(1,d.v),(2,u.v),(3,N i),(10,.slice (some ⟨b,0,none⟩) T T),(12,N st),(48,N i),(49,N i)]) [⟨b,Row 5 (buf T (o++(s.snd st).l)),true⟩]
        rw [hbR]
        repeat (first | refine JL.q (by first|(apply OQ.to;exact (OQ.eN (ad:=some ⟨b,0,none⟩) (len:=T) (cap:=T) (lo:=0) (hi:=T) Tryd.underlying22 bG rfl rfl rfl (Nat.zero_le _) (Nat.le_refl _));exact (oX b T))|(apply OQ.move;rfl)|(apply OQ.assign;rfl)) rfl ?_ | refine JC.seq ?_ | refine JC.region ?_ | refine JL.nil ?_ | refine JE.next ?_)
        refine JC.ret ?_
        skip
        refine JE.aN rfl (RV.tmp rfl) fun w2 hw=>⟨⟨some ⟨b,0,none⟩,R.length,R⟩,?_,hw.aq,rfl,cn hw .here,nofun⟩
        rw [hT]
        unfold ai.v
        rw [hT]
end Rw
end
section
set_option maxRecDepth 10000
open Sl jP
namespace Rw
theorem JL.cJ {P : Program} {n : Nat} {w0 : World} {S S' : List Nat} {ops : Array Oper} {Q : Exit→Act→World→Prop} {l : List Oper} {E : Env} {M : List ah} {d : Nat} {ty : TypeId} {pos : String} {aft : Array Edge} {r : List Bt} (M' : List ah)
    {f : FuncId} {xs : List Operand} {ats : Array TypeId} {vs : List Value} (hg : aM P f) (hx : dx E xs=some vs) (hd : Nat.blt d n=true)
    (hc : ∀ w1,aa w0 S M w1→Calls P f vs.toArray w1 (cS r w1))
    (hM : av M' M) (hS : ∀ e ∈ M',e.wr=true→e.b ∈ S')
    (k : ∀ x : ai,x.l=r→(x.ad=none→x.cap=0)→∀ w1,aa w0 S M w1→x.ok w1→JL P n w1 S' ops Q l ((d,x.v)::E) M') : JL P n w0 S ops Q (⟨some d,.call ⟨.value (.func f),xs.toArray,ats⟩,ty,pos,aft,none⟩::l) E M:=
  JL.nq (ι:={ x : ai // x.l=r∧(x.ad=none→x.cap=0) }) (fun x=>x.1.v) (fun x w=>x.1.ok w) M' hg hx hd (fun w1 h1=>(hc w1 h1).mono fun e w2 ⟨x,e1,e2,e3,e4,e5⟩=>⟨⟨x,e3,e5⟩,e1,e2,e4⟩) hM hS fun x w1 h1 h2=>k x.1 x.2.1 x.2.2 w1 h1 h2
theorem dn : aM Tryd.prog 15:=⟨_,Tryd.func15,rfl,by kernel_rfl⟩
theorem fN : aM Tryd.prog 8:=⟨_,Tryd.func8,rfl,by kernel_rfl⟩
theorem jf : aM Tryd.prog 9:=⟨_,Tryd.func9,rfl,by kernel_rfl⟩
def cz (d u l : List Bt) : List Bt:=cK d u (cW d l) l
theorem ek (s d u : ai) (w : World) (hs : s.ok w) (hd : d.ok w) (hu : u.ok w) (hd1 : 1≤d.l.length) (hd2 : d.l.length≤2) (hu2 : u.l.length≤2) (hl : s.l.length≤1000000000) (hm : bN w)
    (hcnt : ∀ w',s.ok w'→d.ok w'→bN w'→Calls Tryd.prog 46 [s.v,d.v].toArray w' fun e w2=>e=.returned (N (cW d.l s.l))∧Ext w' w2) :
    Calls Tryd.prog 15 [s.v,d.v,u.v].toArray w (cS (cz d.l u.l s.l) w):=by
  refine enter (n:=11) Tryd.func15 rfl rfl rfl (aa.start w []) ?_
  repeat (first | refine JL.q (by first|(apply OQ.move;rfl)|(apply OQ.assign;rfl)) rfl ?_ | refine JC.seq ?_ | refine JC.region ?_ | refine JL.nil ?_ | refine JE.next ?_)
  refine JL.cJ (vs:=[s.v,d.v,u.v,I (-1)]) (S':=[]) [] gm rfl rfl (fun w' hw'=>l7 s d u w' (hs.holds hw' rfl) (hd.holds hw' rfl) (hu.holds hw' rfl) hd1 hd2 hu2 hl (hm.ext hw'.aq) (fun M w2 hw2=>hcnt w2 ((hs.holds hw' rfl).holds hw2 rfl) ((hd.holds hw' rfl).holds hw2 rfl) ((hm.ext hw'.aq).ext hw2.aq))) (.nil _) (by simp) ?_
  intro x hx hz w1 hw1 okx
  repeat (first | refine JL.q (by (apply OQ.assign;rfl)) rfl ?_ | refine JL.nil ?_ | refine JE.next ?_)
  refine JC.ret ?_
  skip
  exact JE.aN rfl (RV.tmp rfl) fun w' hw=>⟨x,rfl,hw1.aq.trans hw.aq,hx,okx.holds hw rfl,hz⟩
def dr (l : List Bt) : List Bt:=cz [13,10] [10] l
def cT (l : List Bt) : List Bt:=cz [10] [13,10] (dr l)
theorem fh : ∀ v ∈ [U8 (13 : BitVec 8),U8 10],v.cells=#[v]:=by
  intro v hv
  simp only [List.mem_cons,List.not_mem_nil,or_false] at hv
  rcases hv with rfl | rfl <;> rfl
theorem hG (s : ai) (w : World) (hs : s.ok w) (hl : s.l.length≤1000000000) (hm : bN w) : Calls Tryd.prog 8 [s.v].toArray w (cS (dr s.l) w):=by
  refine enter (n:=8) Tryd.func8 rfl rfl rfl (aa.start w []) ?_
  repeat (first | refine JL.q (by first|(apply OQ.move;rfl)|(apply OQ.assign;rfl)) rfl ?_ | refine JC.seq ?_ | refine JC.region ?_ | refine JL.nil ?_ | refine JE.next ?_)
  refine JL.nS (xs:=[.const (U8 13),.const (U8 10)]) (vs:=[U8 13,U8 10]) Tryd.underlying22 iC rfl rfl rfl rfl fh rfl (by decide) (by decide) rfl fun b1 _=>?_
  refine JL.mark (r:=[U8 13,U8 10]) (te:=5) Tryd.underlying22 Tryd.underlying5 rfl .here rfl ?_
  refine JL.iz (v:=U8 (10 : BitVec 8)) Tryd.underlying22 iC rfl rfl rfl rfl fun b2 _=>?_
  refine JL.cJ (vs:=[s.v,ai.v ⟨some ⟨b1,0,none⟩,2,[13,10]⟩,ai.v ⟨some ⟨b2,0,none⟩,1,[10]⟩]) (S':=[]) [] dn rfl rfl (fun w' hw'=>ek s ⟨some ⟨b1,0,none⟩,2,[13,10]⟩ ⟨some ⟨b2,0,none⟩,1,[10]⟩ w' (hs.holds hw' rfl) (eB (l:=[13,10]) hw' (.there .here)) (cn (l:=[10]) hw' .here) (show 1≤2 by decide) (show 2≤2 by decide) (show 1≤2 by decide) hl (hm.ext hw'.aq) (fun w2 h1 h2 h3=>kW s ⟨some ⟨b1,0,none⟩,2,[13,10]⟩ w2 h1 h2 (by omega) rfl h3)) (.nil _) (by simp) ?_
  intro x hx hz w1 hw1 okx
  repeat (first | refine JL.q (by (apply OQ.assign;rfl)) rfl ?_ | refine JL.nil ?_ | refine JE.next ?_)
  refine JC.ret ?_
  skip
  exact JE.aN rfl (RV.tmp rfl) fun w' hw=>⟨x,rfl,hw1.aq.trans hw.aq,hx,okx.holds hw rfl,hz⟩
theorem ke (s : ai) (w : World) (hs : s.ok w) (hl : s.l.length≤1000000000) (hl2 : (dr s.l).length≤1000000000) (hm : bN w) : Calls Tryd.prog 9 [s.v].toArray w (cS (cT s.l) w):=by
  refine enter (n:=9) Tryd.func9 rfl rfl rfl (aa.start w []) ?_
  repeat (first | refine JL.q (by first|(apply OQ.move;rfl)|(apply OQ.assign;rfl)) rfl ?_ | refine JC.seq ?_ | refine JC.region ?_ | refine JL.nil ?_ | refine JE.next ?_)
  refine JL.cJ (vs:=[s.v]) (S':=[]) [] fN rfl rfl (fun w' hw'=>hG s w' (hs.holds hw' rfl) hl (hm.ext hw'.aq)) (.nil _) (by simp) ?_
  intro x hx hz w1 hw1 okx
  have hm1:=hm.ext hw1.aq
  rw [← hx] at hl2
  refine JL.iz (v:=U8 (10 : BitVec 8)) Tryd.underlying22 iC rfl rfl rfl rfl fun b2 _=>?_
  refine JL.nS (xs:=[.const (U8 13),.const (U8 10)]) (vs:=[U8 13,U8 10]) Tryd.underlying22 iC rfl rfl rfl rfl fh rfl (by decide) (by decide) rfl fun b1 _=>?_
  refine JL.mark (r:=[U8 13,U8 10]) (te:=5) Tryd.underlying22 Tryd.underlying5 rfl .here rfl ?_
  refine JL.cJ (vs:=[x.v,ai.v ⟨some ⟨b2,0,none⟩,1,[10]⟩,ai.v ⟨some ⟨b1,0,none⟩,2,[13,10]⟩]) (S':=[]) [] dn rfl rfl (fun w' hw'=>ek x ⟨some ⟨b2,0,none⟩,1,[10]⟩ ⟨some ⟨b1,0,none⟩,2,[13,10]⟩ w' (okx.holds hw' rfl) (cn (l:=[10]) hw' (.there .here)) (eB (l:=[13,10]) hw' .here) (show 1≤1 by decide) (show 1≤2 by decide) (show 2≤2 by decide) hl2 (hm1.ext hw'.aq) (fun w2 h1 h2 h3=>kX x b2 1 10 w2 h1 hz h2)) (.nil _) (by simp) ?_
  intro y hy hzy w2 hw2 oky
  repeat (first | refine JL.q (by (apply OQ.assign;rfl)) rfl ?_ | refine JL.nil ?_ | refine JE.next ?_)
  refine JC.ret ?_
  skip
  refine JE.aN rfl (RV.tmp rfl) fun w' hw=>⟨y,rfl,hw1.aq.trans (hw2.aq.trans hw.aq),?_,oky.holds hw rfl,hzy⟩
  rw [hy,hx]
  rfl
set_option maxHeartbeats 4000000 in
theorem jg (h : ai) (xn xm : Int) (tx : List Bt) (w : World) (hs : h.ok w) (hl : h.l.length≤1000000000) (hm : bN w) :
    Calls Tryd.prog 6 [h.v,.agg (ei 1 xn xm tx).toArray].toArray w (cS (dr h.l) w):=by
  refine enter (n:=45) Tryd.func6 rfl rfl rfl (aa.start w []) ?_
  have hg1 : decide ((1 : Int)=1)=true:=rfl
  refine JC.seq (JC.region ?_)
  refine JL.box (r:=ei 1 xn xm tx) rfl rfl rfl fun b3 _=>?_
  repeat (first | refine JL.q (by first|(apply OQ.load;exact bP;rfl;exact .here;exact (Row.cell (v:=I 1) rfl))|(apply OQ.eo (a:=1) (b:=1);rfl;rfl;exact hg1)|(apply OQ.assign;rfl)|(apply OQ.jK;rfl;rfl;rfl;exact (by decide);rfl)) rfl ?_ | refine JC.seq ?_ | refine JC.region ?_ | refine JC.block ?_ | refine JL.nil ?_ | refine JE.next ?_)
  refine JC.cond_true rfl rfl ?_
  repeat (first | refine JL.q (by (apply OQ.move;rfl)) rfl ?_ | refine JC.seq ?_ | refine JC.region ?_)
  refine JL.cJ (vs:=[h.v]) (S':=[]) [] fN rfl rfl (fun w' hw'=>hG h w' (hs.holds hw' rfl) hl (hm.ext hw'.aq)) (.nil _) (by simp) ?_
  intro x hx hz w1 hw1 okx
  repeat (first | refine JL.q (by (apply OQ.assign;rfl)) rfl ?_ | refine JL.nil ?_ | refine JE.next ?_)
  refine JC.ret ?_
  repeat (first | refine JE.az ?_ | refine JE.aU ?_)
  exact JE.aN rfl (RV.tmp rfl) fun w' hw=>⟨x,rfl,hw1.aq.trans hw.aq,hx,okx.holds hw rfl,hz⟩
set_option maxHeartbeats 4000000 in
theorem cA (h : ai) (xn xm : Int) (tx : List Bt) (w : World) (hs : h.ok w) (hl : h.l.length≤1000000000) (hl2 : (dr h.l).length≤1000000000) (hm : bN w) :
    Calls Tryd.prog 6 [h.v,.agg (ei 2 xn xm tx).toArray].toArray w (cS (cT h.l) w):=by
  refine enter (n:=45) Tryd.func6 rfl rfl rfl (aa.start w []) ?_
  have hg1 : decide ((2 : Int)=1)=false:=rfl
  have hg2 : decide ((2 : Int)=2)=true:=rfl
  refine JC.seq (JC.region ?_)
  refine JL.box (r:=ei 2 xn xm tx) rfl rfl rfl fun b3 _=>?_
  repeat (first | refine JL.q (by first|(apply OQ.load;exact bP;rfl;exact .here;exact (Row.cell (v:=I 2) rfl))|(apply OQ.eo (a:=2) (b:=1);rfl;rfl;exact hg1)|(apply OQ.assign;rfl)|(apply OQ.jK;rfl;rfl;rfl;exact (by decide);rfl)) rfl ?_ | refine JC.seq ?_ | refine JC.region ?_ | refine JC.block ?_ | refine JL.nil ?_ | refine JE.next ?_)
  refine JC.cond_false rfl rfl ?_
  repeat (first | refine JL.q (by first|(apply OQ.eo (a:=2) (b:=2);rfl;rfl;exact hg2)|(apply OQ.assign;rfl)) rfl ?_ | refine JC.seq ?_ | refine JC.region ?_ | refine JL.nil ?_ | refine JE.next ?_)
  refine JC.cond_true rfl rfl ?_
  repeat (first | refine JL.q (by (apply OQ.move;rfl)) rfl ?_ | refine JC.seq ?_ | refine JC.region ?_)
  refine JL.cJ (vs:=[h.v]) (S':=[]) [] jf rfl rfl (fun w' hw'=>ke h w' (hs.holds hw' rfl) hl hl2 (hm.ext hw'.aq)) (.nil _) (by simp) ?_
  intro x hx hz w1 hw1 okx
  repeat (first | refine JL.q (by (apply OQ.assign;rfl)) rfl ?_ | refine JL.nil ?_ | refine JE.next ?_)
  refine JC.ret ?_
  repeat (first | refine JE.az ?_ | refine JE.aU ?_)
  exact JE.aN rfl (RV.tmp rfl) fun w' hw=>⟨x,rfl,hw1.aq.trans hw.aq,hx,okx.holds hw rfl,hz⟩
end Rw
end
section
open Sl jP
namespace Rw
theorem jh {a b : Bt} : UInt8.ofBitVec a=UInt8.ofBitVec b↔a=b:=by simp
theorem all_nil (d u : List Bt) (hd : d≠[]) : cz d u []=[]:=by
  have:=kR hd 0 [] (Nat.le_refl _)
  have h0 : cW d []=0:=by simpa using this
  unfold cz
  rw [h0]
  rfl
theorem jD (d u l : List Bt) (hd : d≠[]) (h : (bS d).isPrefixOf (bS l)=true) (hl : l≠[]) : cz d u l=u++cz d u (l.drop d.length):=by
  have h0 : ez d l=(0 : Nat):=by
    cases l with
    | nil=>exact absurd rfl hl
    | cons c r=>
      show Go.Lib.index (UInt8.ofBitVec c::bS r) (bS d)=_
      unfold Go.Lib.index
      exact if_pos h
  have h1:=fT hd h0
  obtain ⟨i,h2,_,h3⟩:=cx hd h1
  have hi : i=0:=by rw [h0] at h2;omega
  subst hi
  rw [Nat.zero_add] at h3
  unfold cz
  rw [h3,Nat.add_comm 1,cK,h0]
  simp
theorem fj (d u : List Bt) (c : Bt) (r : List Bt) (hd : d≠[]) (h : (bS d).isPrefixOf (bS (c::r))=false) : cz d u (c::r)=c::cz d u r:=by
  have hx : ez d (c::r)=if ez d r == -1 then -1 else ez d r+1:=by
    show Go.Lib.index (UInt8.ofBitVec c::bS r) (bS d)=_
    have h' : (bS d).isPrefixOf (UInt8.ofBitVec c::bS r)=false:=h
    conv=>lhs;unfold Go.Lib.index
    rw [h']
    rfl
  rcases Nat.eq_zero_or_pos (cW d r) with h0 | h0
  · have hr : ez d r=-1:=by
      have hge : -1≤ez d r:=Go.Lib.index_ge (bS r) (bS d)
      by_cases hh : ez d r=-1
      · exact hh
      · have:=fT hd (l:=r) (i:=(ez d r).toNat) (by omega)
        omega
    rw [hr] at hx
    have hc:=mF (d:=d) (l:=c::r) (by rw [hx];rfl)
    unfold cz
    rw [hc,h0]
    rfl
  · obtain ⟨i,h1,h2,h3⟩:=cx hd h0
    have hx1 : ez d (c::r)=((i+1 : Nat) : Int):=by
      rw [hx,h1,if_neg (by rw [beq_iff_eq];omega)]
      omega
    have hp:=fT hd hx1
    obtain ⟨k,k1,k2,k3⟩:=cx hd hp
    have hk : k=i+1:=by rw [hx1] at k1;omega
    subst hk
    have hdr : (c::r).drop (i+1+d.length)=r.drop (i+d.length):=by
      rw [show i+1+d.length=(i+d.length)+1 by omega]
      rfl
    rw [hdr] at k3
    unfold cz
    rw [k3,h3,Nat.add_comm 1,cK,cK,hx1,h1,Int.toNat_natCast,Int.toNat_natCast,hdr]
    rfl
def bq : List Bt→List Bt
  | []=>[]
  | [c]=>[c]
  | c::e::r=>if c=13∧e=10 then 10::bq r else c::bq (e::r)
def bh : List Bt→List Bt
  | []=>[]
  | c::r=>if c=10 then 13::10::bh r else c::bh r
theorem jE : ∀ l,cz [10] [13,10] l=bh l
  | []=>all_nil _ _ (by simp)
  | c::r=>by
    have ih:=jE r
    by_cases hc : c=10
    · rw [jD _ _ (c::r) (by simp) (by subst hc;rfl) (by simp),bh,if_pos hc]
      show [13,10]++cz [10] [13,10] r=_
      rw [ih]
      rfl
    · rw [fj _ _ _ _ (by simp) (by
        show ((UInt8.ofBitVec 10 == UInt8.ofBitVec c) && true)=false
        rw [Bool.and_true,beq_eq_false_iff_ne]
        intro e
        exact hc (jh.1 e).symm),bh,if_neg hc,ih]
theorem ni : ∀ (k : Nat) (l : List Bt),l.length≤k→dr l=bq l:=by
  intro k
  induction k with
  | zero=>
    intro l hl
    obtain rfl:=List.length_eq_zero_iff.1 (Nat.le_zero.1 hl)
    exact all_nil _ _ (by simp)
  | succ k ih=>
    intro l hl
    match l,hl with
    | [],_=>exact all_nil _ _ (by simp)
    | [c],_=>
      show cz _ _ _=_
      rw [fj _ _ c [] (by simp) (by show ((UInt8.ofBitVec 13 == UInt8.ofBitVec c) && false)=false;rw [Bool.and_false]),all_nil _ _ (by simp)]
      rfl
    | c::e::r,hl=>
      show cz _ _ _=_
      rw [bq]
      by_cases hc : c=13∧e=10
      · rw [if_pos hc,jD _ _ (c::e::r) (by simp) (by obtain ⟨rfl,rfl⟩:=hc;rfl) (by simp)]
        show [10]++dr r=_
        rw [ih r (by simp at hl;omega)]
        rfl
      · rw [if_neg hc,fj _ _ c (e::r) (by simp) (by
          show ((UInt8.ofBitVec 13 == UInt8.ofBitVec c) && ((UInt8.ofBitVec 10 == UInt8.ofBitVec e) && true))=false
          rw [Bool.eq_false_iff]
          intro h
          rw [Bool.and_eq_true,Bool.and_true,beq_iff_eq,beq_iff_eq] at h
          exact hc ⟨(jh.1 h.1).symm,(jh.1 h.2).symm⟩)]
        rw [show cz [13,10] [10] (e::r)=bq (e::r) from ih (e::r) (by simp at hl ⊢;omega)]
theorem dw (l : List Bt) : dr l=bq l:=ni l.length l (Nat.le_refl _)
theorem dM (l : List Bt) : cT l=bh (bq l):=by unfold cT;rw [dw,jE]
theorem kf (m : List Bt) {e : Bt} {t : List Bt} (h : bh m=e::t) : e≠10:=by
  cases m with
  | nil=>cases h
  | cons c r=>
    rw [bh] at h
    split at h
    · cases h;decide
    · rename_i hc
      cases h
      exact hc
theorem dN : ∀ m,bq (bh m)=m
  | []=>rfl
  | c::r=>by
    have ih:=dN r
    rw [bh]
    by_cases hc : c=10
    · rw [if_pos hc,bq,if_pos ⟨rfl,rfl⟩,ih,hc]
    · rw [if_neg hc]
      cases hf : bh r with
      | nil=>
        rw [hf] at ih
        rw [← ih]
        rfl
      | cons e t=>
        rw [bq,if_neg (fun h=>kf r hf h.2),← hf,ih]
theorem fO : ∀ (m : List Bt) (i : Nat),(bh m)[i]?=some 10→0<i∧(bh m)[i - 1]?=some 13
  | [],i,h=>by cases h
  | c::r,i,h=>by
    have ih:=fO r
    rw [bh] at h ⊢
    by_cases hc : c=10
    · rw [if_pos hc] at h ⊢
      match i,h with
      | 0,h=>cases h
      | 1,_=>exact ⟨by decide,rfl⟩
      | i+2,h=>
        obtain ⟨h1,h2⟩:=ih i h
        refine ⟨by omega,?_⟩
        obtain ⟨j,rfl⟩ : ∃ j,i=j+1:=⟨i - 1,by omega⟩
        exact h2
    · rw [if_neg hc] at h ⊢
      match i,h with
      | 0,h=>exact absurd (by simpa using h) hc
      | i+1,h=>
        obtain ⟨h1,h2⟩:=ih i h
        refine ⟨by omega,?_⟩
        obtain ⟨j,rfl⟩ : ∃ j,i=j+1:=⟨i - 1,by omega⟩
        exact h2
theorem kg : ∀ (k : Nat) (l : List Bt),l.length≤k→(∀ i : Nat,l[i]?=some (13 : Bt)→l[i+1]?=some (10 : Bt))→(13 : Bt) ∉ bq l:=by
  intro k
  induction k with
  | zero=>
    intro l hl _
    obtain rfl:=List.length_eq_zero_iff.1 (Nat.le_zero.1 hl)
    simp [bq]
  | succ k ih=>
    intro l hl h
    match l,hl,h with
    | [],_,_=>simp [bq]
    | [c],_,h=>
      intro hm
      have hc : c=13:=by simpa [bq,eq_comm] using hm
      have:=h 0 (by rw [hc];rfl)
      cases this
    | c::e::r,hl,h=>
      rw [bq]
      by_cases hc : c=13∧e=10
      · rw [if_pos hc]
        intro hm
        rcases List.mem_cons.1 hm with hm | hm
        · exact absurd hm (by decide)
        · exact ih r (by simp at hl;omega) (fun i hi=>h (i+2) hi) hm
      · rw [if_neg hc]
        intro hm
        rcases List.mem_cons.1 hm with hm | hm
        · have h1:=h 0 (by rw [← hm];rfl)
          exact hc ⟨hm.symm,by simpa using h1⟩
        · exact ih (e::r) (by simp at hl ⊢;omega) (fun i hi=>h (i+1) hi) hm
theorem dO : ∀ m : List Bt,(13 : Bt) ∉ m→bq m=m
  | [],_=>rfl
  | [c],_=>rfl
  | c::e::r,h=>by
    rw [bq,if_neg (fun hc=>h (by rw [hc.1];exact List.mem_cons_self)),dO (e::r) (fun hm=>h (List.mem_cons_of_mem _ hm))]
theorem l8 : ∀ (k : Nat) (l : List Bt),l.length≤k→(bq l).length≤l.length:=by
  intro k
  induction k with
  | zero=>
    intro l hl
    obtain rfl:=List.length_eq_zero_iff.1 (Nat.le_zero.1 hl)
    exact Nat.le_refl _
  | succ k ih=>
    intro l hl
    match l,hl with
    | [],_=>exact Nat.le_refl _
    | [c],_=>exact Nat.le_refl _
    | c::e::r,hl=>
      rw [bq]
      have hl : r.length+1+1≤k+1:=hl
      split
      · have:=ih r (by omega)
        simp only [List.length_cons]
        omega
      · have:=ih (e::r) (by simp only [List.length_cons];omega)
        simp only [List.length_cons] at this ⊢
        omega
theorem ia : ∀ m : List Bt,(bh m).length≤2 * m.length
  | []=>Nat.le_refl _
  | c::r=>by
    have:=ia r
    rw [bh]
    split <;> simp only [List.length_cons] <;> omega
end Rw
end
section
set_option maxRecDepth 10000
open Sl c6 jr
namespace Rw
def ic : List Bt:=[70,114,111,109,58,32,97,64,98,10,10]
theorem og : ef ic 1:=by
  refine ⟨by decide +kernel,by decide +kernel,fun j hj=>?_⟩
  obtain rfl : j=0:=by omega
  decide +kernel
theorem pX : mh ic 1=[(0,10)]:=by decide +kernel
theorem pY : (([(0,10)].map (gZ (ic.take (aC ic 1)))).set (iZ 0 1) (bH 2 (gZ (ic.take (aC ic 1)) (0,10)))).flatten=[102,82,111,109,58,32,97,64,98,10]:=by decide +kernel
theorem pZ : [102,82,111,109,58,32,97,64,98,10]++(lW ic 1++ic.drop (aC ic (1+1)))=[102,82,111,109,58,32,97,64,98,10,10]:=by decide +kernel
theorem fy : aM Tryd.prog 5:=⟨_,Tryd.func5,rfl,by kernel_rfl⟩
theorem l9 (b : Nat) (w : World) (hs : ai.ok w ⟨some ⟨b,0,none⟩,11,ic⟩) : Calls Tryd.prog 6 [ai.v ⟨some ⟨b,0,none⟩,11,ic⟩,.agg (ei 4 0 2 []).toArray].toArray w (lU [102,82,111,109,58,32,97,64,98,10,10] w):=by
  have:=je ⟨some ⟨b,0,none⟩,11,ic⟩ 0 2 [] w hs (show 11≤100000000 by decide) og pX (by simp) (p:=(0,10)) (by decide +kernel) pY (by decide) (by decide)
  rwa [show ai.l ⟨some ⟨b,0,none⟩,11,ic⟩=ic from rfl,pZ] at this
set_option maxHeartbeats 8000000 in
theorem gp (w : World) : Calls Tryd.prog 5 ([] : List Value).toArray w fun e w'=>e=.returned (.bool true)∧Ext w w':=by
  refine enter (n:=7) Tryd.func5 rfl rfl rfl (aa.start w []) ?_
  repeat (first | refine JL.q (by (apply OQ.assign;rfl)) rfl ?_ | refine JC.seq ?_ | refine JC.region ?_ | refine JL.nil ?_ | refine JE.next ?_)
  refine JL.nS (xs:=[.const (U8 70),.const (U8 114),.const (U8 111),.const (U8 109),.const (U8 58),.const (U8 32),.const (U8 97),.const (U8 64),.const (U8 98),.const (U8 10),.const (U8 10)]) (vs:=ic.map U8) Tryd.underlying22 iC rfl rfl rfl rfl (by intro v hv;obtain ⟨c,_,rfl⟩:=List.mem_map.1 hv;rfl) rfl (by decide) (by decide) rfl fun b1 _=>?_
  refine JL.mark (r:=ic.map U8) (te:=5) Tryd.underlying22 Tryd.underlying5 rfl .here rfl ?_
  refine JL.q (OQ.cQ (cs:=ei 4 0 2 []) [0,2] [.const (I 4),.const (I 2)] (vs:=[I 4,I 2]) rfl rfl (by kernel_rfl)) rfl ?_
  refine JL.oV (vs:=[ai.v ⟨some ⟨b1,0,none⟩,11,ic⟩,.agg (ei 4 0 2 []).toArray]) (S':=[]) [] bR rfl rfl (fun w' hw'=>l9 b1 w' ⟨Nat.le_refl _,(by obtain ⟨o,ho,hA⟩:=hw'.get .here;exact Reads.block ho (oo.all _ hA))⟩) (.nil _) (by simp) ?_
  intro x hx w1 hw1 okx
  repeat (first | refine JL.q (by first|(apply OQ.o4 (s:=x);exact Tryd.underlying22;exact Tryd.underlying5;exact Tryd.underlying9;rfl;exact (fun w' hw'=>okx.holds hw' rfl))|(apply OQ.oE (r:=[102,82,111,109,58,32,97,64,98,10,10]);rfl;rfl;exact hx)|(apply OQ.assign;rfl)) rfl ?_ | refine JL.nil ?_ | refine JE.next ?_)
  refine JC.ret (JE.aN rfl (RV.tmp rfl) ?_)
  exact fun w' hw=>⟨rfl,hw1.aq.trans hw.aq⟩
end Rw
end
section
set_option maxRecDepth 10000
open Sl
section
variable {P : Program} {n : Nat} {E : Env} {C : World→Prop} {dst : Option Tmp} {t t' ty : TypeId} {pos : String} {aft : Array Edge} {g : Option (Nat × Bool)} {x y : Operand}
end
theorem dP : aM Tryd.prog 7:=⟨_,Tryd.func7,rfl,by kernel_rfl⟩
set_option maxHeartbeats 8000000 in
theorem ie (a b : ai) (w : World) (ha : a.ok w) (hb : b.ok w) (hal : a.l.length<4611686018427387904) : Calls Tryd.prog 7 [a.v,b.v].toArray w fun e w'=>e=.returned (.bool (decide (a.l=b.l)))∧Ext w w':=by
  refine enter (n:=26) Tryd.func7 rfl rfl rfl (aa.start w []) ?_
  repeat (first | refine JL.q (by first|(apply OQ.move;rfl)|(apply OQ.assign;rfl)|(apply OQ.len;rfl;rfl)|(apply OQ.qh;rfl;rfl)) rfl ?_ | refine JC.seq ?_ | refine JC.region ?_ | refine JL.nil ?_ | refine JE.next ?_)
  refine JC.cond rfl (fun h=>?_) (fun h=>?_)
  · have h : ¬ a.l.length=b.l.length:=by simpa using h
    repeat (first | refine JL.q (by (apply OQ.assign;rfl)) rfl ?_ | refine JC.seq ?_ | refine JC.region ?_ | refine JL.nil ?_ | refine JE.next ?_)
    refine JC.ret ?_
    repeat (refine JE.az ?_)
    refine JE.aN rfl (RV.tmp rfl) fun w' hw=>⟨?_,hw.aq⟩
    rw [decide_eq_false (fun e=>h (by rw [e]))]
  · have h : a.l.length=b.l.length:=by simpa using h
    repeat (first | refine JL.q (by (apply OQ.assign;rfl)) rfl ?_ | refine JC.seq ?_ | refine JC.region ?_ | refine JC.block ?_ | refine JC.skip ?_ | refine JL.nil ?_ | refine JE.next ?_)
    refine JC.loop (fun i : Nat=>[(0,a.v),(1,b.v),(5,N i)]) (fun _=>[]) (fun i=>a.l.length - i) (fun i=>i≤a.l.length∧a.l.take i=b.l.take i) 0 ⟨by omega,by simp⟩ (by repeat (first | exact aj.nil | refine aj.cons _ _ _ rfl ?_)) (av.refl _) ?_
    rintro i ⟨hi,hI⟩
    repeat (first | refine JL.q (by first|(apply OQ.move;rfl)|(apply OQ.len;rfl;rfl)|(apply OQ.gA;rfl;rfl)) rfl ?_ | refine JC.seq ?_ | refine JC.region ?_ | refine JL.nil ?_ | refine JE.next ?_)
    refine JC.cond rfl (fun h2=>?_) (fun h2=>?_)
    · have hi' : i<a.l.length:=of_decide_eq_true h2
      clear h2
      obtain ⟨ba,ja,hae,hca⟩:=ha.reads.at (by simp;omega)
      obtain ⟨bb,jb,hbe,hcb⟩:=hb.reads.at (by simp;omega)
      have hca:=hca i _ (dz U8 0 hi')
      have hcb:=hcb i _ (dz U8 0 (show i<b.l.length by omega))
      have hav : a.v=.slice (some ⟨ba,ja,none⟩) a.l.length a.cap:=by rw [← hae];rfl
      have hbv : b.v=.slice (some ⟨bb,jb,none⟩) b.l.length b.cap:=by rw [← hbe];rfl
      rw [hav,hbv]
      repeat (first | refine JC.seq ?_ | refine JC.block ?_ | refine JC.skip ?_ | refine JE.next ?_)
      refine JC.quiet fk (by kernel_rfl) ?_
      repeat (first | refine JQ.q (by first|(apply OQ.bI;exact Tryd.underlying22;exact bG;rfl;rfl;exact hi')|(apply OQ.bI;exact Tryd.underlying22;exact bG;rfl;rfl;exact (show i<b.l.length by omega))|(apply OQ.aK;exact gD;rfl;exact (block_lt_of_cell hca);exact (by simp);exact hca)|(apply OQ.aK;exact gD;rfl;exact (block_lt_of_cell hcb);exact (by simp);exact hcb)|(apply OQ.p9;rfl;rfl)|(apply OQ.move;rfl)) rfl ?_ | refine JQ.nil ?_ | refine JE.next ?_)
      refine JC.cond rfl (fun h3=>?_) (fun h3=>?_)
      · have h3 : ¬ a.l.getD i 0=b.l.getD i 0:=by simpa using h3
        repeat (first | refine JL.q (by (apply OQ.assign;rfl)) rfl ?_ | refine JC.seq ?_ | refine JC.region ?_ | refine JL.nil ?_ | refine JE.next ?_)
        refine JC.ret ?_
        repeat (first | refine JE.az ?_ | refine JE.aU ?_)
        refine JE.aN rfl (RV.tmp rfl) fun w' hw=>⟨?_,hw.aq⟩
        rw [decide_eq_false (fun e=>h3 (by rw [e]))]
      · have h3 : a.l.getD i 0=b.l.getD i 0:=by simpa using h3
        rw [← hav,← hbv]
        repeat (first | refine JL.q (by first|(apply OQ.move;rfl)|(apply OQ.assign;rfl)|(apply OQ.bn;rfl;rfl;exact (by (try simp only []);omega))) rfl ?_ | refine JC.region ?_ | refine JC.skip ?_ | refine JL.nil ?_ | refine JE.next ?_ | refine JE.au ?_)
        refine JE.again (i:=i) (i+1) ⟨by omega,?_⟩ (by omega) (by repeat (first | exact aj.nil | refine aj.cons _ _ _ rfl ?_)) (av.refl _)
        have e1 : a.l[i]'hi'=b.l[i]'(by omega):=by
          simpa [List.getD,hi',show i<b.l.length by omega] using h3
        rw [List.take_succ_eq_append_getElem hi',List.take_succ_eq_append_getElem (show i<b.l.length by omega),hI,e1]
    · have hi' : ¬ i<a.l.length:=of_decide_eq_false h2
      obtain rfl : i=a.l.length:=by omega
      rw [List.take_length,h,List.take_length] at hI
      repeat (first | refine JL.q (by (apply OQ.assign;rfl)) rfl ?_ | refine JC.seq ?_ | refine JC.region ?_ | refine JC.exit ?_ | refine JL.nil ?_ | refine JE.next ?_ | refine JE.aJ ?_ | refine JE.bk ?_)
      refine JC.ret ?_
      skip
      refine JE.aN rfl (RV.tmp rfl) fun w' hw=>⟨?_,hw.aq⟩
      rw [decide_eq_true hI]
end
section
set_option maxRecDepth 10000
open Sl jP
namespace Rw
theorem OQ.mb {P : Program} {n : Nat} {E : Env} {C : World→Prop} {dst : Option Tmp} {t t' ty : TypeId} {pos : String} {aft : Array Edge} {g : Option (Nat × Bool)} {x y : Operand} {a b : BitVec 8} {c : Bool} (hx : ev E x=some (U8 a)) (hy : ev E y=some (U8 b)) (h : decide (a=b)=c) : OQ P n E C ⟨dst,.binOp .eql t x y t',ty,pos,aft,g⟩ (.bool c):=h ▸ OQ.qa hx hy
theorem OQ.oY {P : Program} {n : Nat} {E : Env} {C : World→Prop} {dst : Option Tmp} {t t' ty : TypeId} {pos : String} {aft : Array Edge} {g : Option (Nat × Bool)} {x y : Operand} {a b : BitVec 8} {c : Bool} (hx : ev E x=some (U8 a)) (hy : ev E y=some (U8 b)) (h : (!decide (a=b))=c) : OQ P n E C ⟨dst,.binOp .neq t x y t',ty,pos,aft,g⟩ (.bool c):=h ▸ OQ.pK hx hy rfl
theorem jF {s : ai} {w : World} (hs : s.ok w) {i : Nat} (hi : i<s.l.length) : ∃ b j,s.v=.slice (some ⟨b,j,none⟩) s.l.length s.cap∧b<w.heap.size∧∀ k c,s.l[k]?=some c→w.cell? ⟨b,j+k,none⟩=some (U8 c):=by
  obtain ⟨b,j,had,hc⟩:=hs.reads.at (by rw [List.length_map];omega)
  refine ⟨b,j,by unfold ai.v;rw [had],?_,fun k c hk=>hc k _ (by rw [List.getElem?_map,hk];rfl)⟩
  exact block_lt_of_cell (hc i _ (by rw [List.getElem?_map,List.getElem?_eq_getElem hi];rfl))
set_option maxHeartbeats 16000000 in
theorem er (b : ai) (w : World) (hb : b.ok w) (hm : bN w) :
    Calls Tryd.prog 3 [b.v].toArray w fun e w'=>e=.returned (.bool true)∧Ext w w':=by
  refine enter (n:=88) Tryd.func3 rfl rfl rfl (aa.start w []) ?_
  repeat (first | refine JL.q (by first|(apply OQ.aH (vs:=[]);exact fy;rfl;exact (fun w' _=>gp w'))|(apply OQ.not;rfl)|(apply OQ.assign;rfl)) rfl ?_ | refine JC.seq ?_ | refine JC.region ?_ | refine JL.nil ?_ | refine JE.next ?_)
  refine JC.cond_false rfl rfl ?_
  by_cases hbig : 2000<b.l.length
  · have hg : decide ((b.l.length : Int)>2000)=true:=decide_eq_true (by omega)
    repeat (first | refine JL.q (by first|(apply OQ.len (k:=b.l.length) (ad:=b.ad) (cap:=b.cap);exact Tryd.underlying22;rfl)|(apply OQ.iF (b:=2000);rfl;rfl;exact hg)|(apply OQ.move;rfl)) rfl ?_ | refine JC.seq ?_ | refine JC.region ?_ | refine JC.skip ?_ | refine JL.nil ?_ | refine JE.next ?_)
    refine JC.cond_true rfl rfl ?_
    repeat (first | refine JL.q (by (apply OQ.assign;rfl)) rfl ?_ | refine JC.seq ?_ | refine JC.region ?_ | refine JL.nil ?_ | refine JE.next ?_)
    refine JC.ret ?_
    repeat (refine JE.az ?_)
    exact JE.aN rfl (RV.tmp rfl) fun w' hw=>⟨rfl,hw.aq⟩
  have hg : decide ((b.l.length : Int)>2000)=false:=decide_eq_false (by omega)
  repeat (first | refine JL.q (by first|(apply OQ.len (k:=b.l.length) (ad:=b.ad) (cap:=b.cap);exact Tryd.underlying22;rfl)|(apply OQ.iF (b:=2000);rfl;rfl;exact hg)|(apply OQ.move;rfl)) rfl ?_ | refine JC.seq ?_ | refine JC.region ?_ | refine JC.skip ?_ | refine JL.nil ?_ | refine JE.next ?_)
  refine JC.cond_false rfl rfl ?_
  obtain ⟨m,hm0⟩ : ∃ m,bq b.l=m:=⟨_,rfl⟩
  have hml : m.length≤2000:=by
    have:=l8 b.l.length b.l (Nat.le_refl _)
    rw [hm0] at this
    omega
  have hfl:=ia m
  have hW : cT b.l=bh m:=by rw [dM,hm0]
  have hbB : dr (bh m)=m:=by rw [dw,dN]
  have hWW : cT (bh m)=bh m:=by rw [dM,dN]
  repeat (first | refine JL.q (by (apply OQ.move;rfl)) rfl ?_ | refine JC.seq ?_ | refine JC.region ?_ | refine JC.skip ?_ | refine JE.next ?_)
  refine JL.q (OQ.cQ (cs:=ei 2 0 0 []) [0] [.const (I 2)] (vs:=[I 2]) rfl rfl (by kernel_rfl)) rfl ?_
  refine JL.cJ (vs:=[b.v,.agg (ei 2 0 0 []).toArray]) (S':=[]) [] bR rfl rfl (fun w' hw'=>cA b 0 0 [] w' (hb.holds hw' rfl) (by omega) (by rw [dw,hm0];omega) (hm.ext hw'.aq)) (.nil _) (by simp) ?_
  intro x hx hxz w1 hw1 okx
  rw [hW] at hx
  have hb1:=hb.holds hw1 rfl
  have hm1:=hm.ext hw1.aq
  have hxl : x.l.length≤4000:=by rw [hx];omega
  repeat (first | refine JL.q (by first|(apply OQ.len (k:=x.l.length) (ad:=x.ad) (cap:=x.cap);exact Tryd.underlying22;rfl)|(apply OQ.move;rfl)|(apply OQ.assign;rfl)) rfl ?_ | refine JC.seq ?_ | refine JC.region ?_ | refine JC.block ?_ | refine JL.nil ?_ | refine JE.next ?_)
  refine JC.loop (fun i : Nat=>[(0,b.v),(3,x.v),(19,x.v),(20,N x.l.length),(21,N i)]) (fun _=>[]) (fun i=>x.l.length - i) (fun i=>i≤x.l.length) 0 (Nat.zero_le _) (by repeat (first | exact aj.nil | refine aj.cons _ _ _ rfl ?_)) (av.refl _) ?_
  intro i hi
  repeat (first | refine JL.q (by (apply OQ.gA (a:=i) (b:=x.l.length);rfl;rfl)) rfl ?_ | refine JC.seq ?_ | refine JC.region ?_ | refine JL.nil ?_ | refine JE.next ?_)
  refine JC.cond rfl (fun h=>?_) (fun h=>?_)
  · have hi' : i<x.l.length:=of_decide_eq_true h
    clear h
    obtain ⟨bx,jx,hxv,hbx,hcx⟩:=jF okx hi'
    obtain ⟨c,hc⟩ : ∃ c,x.l[i]?=some c:=⟨_,List.getElem?_eq_getElem hi'⟩
    have hci:=hcx i c hc
    by_cases h10 : c=10
    · subst h10
      obtain ⟨hi0,h13⟩:=fO m i (hx ▸ hc)
      rw [← hx] at h13
      have hcj:=hcx (i - 1) 13 h13
      have hil : i - 1<x.l.length:=by omega
      have g10 : decide ((10 : Bt)=10)=true:=by decide
      have g0 : decide ((i : Int)=0)=false:=decide_eq_false (by omega)
      have g13 : (!decide ((13 : Bt)=13))=false:=by decide
      repeat (first | refine JL.q (by first|(apply OQ.bI (i:=i) (b:=bx) (j:=jx) (len:=x.l.length) (cap:=x.cap);exact Tryd.underlying22;exact bG;exact (congrArg some hxv);rfl;exact hi')|(apply OQ.aK;exact gD;rfl;exact hbx;exact (by simp);exact hci)|(apply OQ.mb (b:=10);rfl;rfl;exact g10)|(apply OQ.eo (b:=0);rfl;rfl;exact g0)|(apply OQ.iq (a:=i) (b:=1);rfl;rfl;exact (by omega);exact (by omega))|(apply OQ.bI (i:=i - 1) (b:=bx) (j:=jx) (len:=x.l.length) (cap:=x.cap);exact Tryd.underlying22;exact bG;exact (congrArg some hxv);rfl;exact hil)|(apply OQ.aK;exact gD;rfl;exact hbx;exact (by simp);exact hcj)|(apply OQ.oY (b:=13);rfl;rfl;exact g13)|(apply OQ.bM;rfl;rfl)|(apply OQ.bA;rfl;rfl)|(apply OQ.move;rfl)|(apply OQ.assign;rfl)) rfl ?_ | refine JC.seq ?_ | refine JC.region ?_ | refine JC.block ?_ | refine JC.skip ?_ | refine JL.nil ?_ | refine JE.next ?_ | refine JL.aT rfl rfl ?_)
      refine JC.cond_false rfl rfl ?_
      repeat (first | refine JL.q (by first|(apply OQ.bn (a:=i) (b:=1);rfl;rfl;exact (by omega))|(apply OQ.move;rfl)) rfl ?_ | refine JC.region ?_ | refine JC.skip ?_ | refine JL.nil ?_ | refine JE.next ?_ | refine JE.au ?_)
      exact JE.again (i:=i) (i+1) (show i+1≤x.l.length from hi') (show x.l.length - (i+1)<x.l.length - i by omega) (by repeat (first | exact aj.nil | refine aj.cons _ _ _ rfl ?_)) (av.refl _)
    · have g10 : decide (c=10)=false:=decide_eq_false h10
      repeat (first | refine JL.q (by first|(apply OQ.bI (i:=i) (b:=bx) (j:=jx) (len:=x.l.length) (cap:=x.cap);exact Tryd.underlying22;exact bG;exact (congrArg some hxv);rfl;exact hi')|(apply OQ.aK;exact gD;rfl;exact hbx;exact (by simp);exact hci)|(apply OQ.mb (b:=10);rfl;rfl;exact g10)|(apply OQ.bM;rfl;rfl)|(apply OQ.move;rfl)|(apply OQ.assign;rfl)) rfl ?_ | refine JC.seq ?_ | refine JC.region ?_ | refine JC.block ?_ | refine JC.skip ?_ | refine JL.nil ?_ | refine JE.next ?_ | refine JL.cG rfl rfl rfl rfl ?_ | refine JL.iD rfl rfl rfl rfl ?_)
      refine JC.cond_false rfl rfl ?_
      repeat (first | refine JL.q (by first|(apply OQ.bn (a:=i) (b:=1);rfl;rfl;exact (by omega))|(apply OQ.move;rfl)) rfl ?_ | refine JC.region ?_ | refine JC.skip ?_ | refine JL.nil ?_ | refine JE.next ?_ | refine JE.au ?_)
      exact JE.again (i:=i) (i+1) (show i+1≤x.l.length from hi') (show x.l.length - (i+1)<x.l.length - i by omega) (by repeat (first | exact aj.nil | refine aj.cons _ _ _ rfl ?_)) (av.refl _)
  clear h hi
  repeat (first | refine JL.q (by (apply OQ.move;rfl)) rfl ?_ | refine JC.seq ?_ | refine JC.region ?_ | refine JC.exit ?_ | refine JE.next ?_ | refine JE.aJ ?_ | refine JE.bk ?_)
  refine JL.q (OQ.cQ (cs:=ei 1 0 0 []) [0] [.const (I 1)] (vs:=[I 1]) rfl rfl (by kernel_rfl)) rfl ?_
  refine JL.cJ (vs:=[x.v,.agg (ei 1 0 0 []).toArray]) (S':=[]) [] bR rfl rfl (fun w' hw'=>jg x 0 0 [] w' (okx.holds hw' rfl) (by omega) (hm1.ext hw'.aq)) (.nil _) (by simp) ?_
  intro y hy hyz w2 hw2 oky
  rw [hx,hbB] at hy
  have hb2:=hb1.holds hw2 rfl
  have ox2:=okx.holds hw2 rfl
  have hm2:=hm1.ext hw2.aq
  repeat (first | refine JL.q (by first|(apply OQ.move;rfl)|(apply OQ.assign;rfl)) rfl ?_ | refine JC.seq ?_ | refine JC.region ?_ | refine JL.nil ?_ | refine JE.next ?_)
  refine JL.q (OQ.cQ (cs:=ei 2 0 0 []) [0] [.const (I 2)] (vs:=[I 2]) rfl rfl (by kernel_rfl)) rfl ?_
  refine JL.cJ (vs:=[x.v,.agg (ei 2 0 0 []).toArray]) (S':=[]) [] bR rfl rfl (fun w' hw'=>cA x 0 0 [] w' (ox2.holds hw' rfl) (by omega) (by rw [hx,hbB];omega) (hm2.ext hw'.aq)) (.nil _) (by simp) ?_
  intro z hz hzz w3 hw3 okz
  rw [hx,hWW] at hz
  have hb3:=hb2.holds hw3 rfl
  have ox3:=ox2.holds hw3 rfl
  have oy3:=oky.holds hw3 rfl
  have hm3:=hm2.ext hw3.aq
  repeat (first | refine JL.q (by first|(apply OQ.len (k:=b.l.length) (ad:=b.ad) (cap:=b.cap);exact Tryd.underlying22;rfl)|(apply OQ.move;rfl)|(apply OQ.assign;rfl)) rfl ?_ | refine JC.seq ?_ | refine JC.region ?_ | refine JC.block ?_ | refine JL.nil ?_ | refine JE.next ?_)
  refine JC.loop (fun s : Nat × Bool=>[(0,b.v),(3,x.v),(6,y.v),(7,z.v),(8,.bool s.2),(47,b.v),(48,N b.l.length),(49,N s.1)]) (fun _=>[]) (fun s=>b.l.length - s.1) (fun s=>s.1≤b.l.length∧(s.2=false→∀ k : Nat,k<s.1→b.l[k]?=some 13→b.l[k+1]?=some (10 : Bt))) (0,false) ⟨Nat.zero_le _,fun _ k h=>absurd h (Nat.not_lt_zero _)⟩ (by repeat (first | exact aj.nil | refine aj.cons _ _ _ rfl ?_)) (av.refl _) ?_
  rintro ⟨i,lo⟩ ⟨hi,hlo⟩
  dsimp only at hi hlo ⊢
  repeat (first | refine JL.q (by (apply OQ.gA (a:=i) (b:=b.l.length);rfl;rfl)) rfl ?_ | refine JC.seq ?_ | refine JC.region ?_ | refine JL.nil ?_ | refine JE.next ?_)
  refine JC.cond rfl (fun h=>?_) (fun h=>?_)
  · have hi' : i<b.l.length:=of_decide_eq_true h
    clear h
    obtain ⟨bx,jx,hbv,hbx,hcx⟩:=jF hb3 hi'
    obtain ⟨c,hc⟩ : ∃ c,b.l[i]?=some c:=⟨_,List.getElem?_eq_getElem hi'⟩
    have hci:=hcx i c hc
    cases lo with
    | true=>
      repeat (first | refine JL.q (by first|(apply OQ.bI (i:=i) (b:=bx) (j:=jx) (len:=b.l.length) (cap:=b.cap);exact Tryd.underlying22;exact bG;exact (congrArg some hbv);rfl;exact hi')|(apply OQ.aK;exact gD;rfl;exact hbx;exact (by simp);exact hci)|(apply OQ.bA;rfl;rfl)|(apply OQ.bn (a:=i) (b:=1);rfl;rfl;exact (by omega))|(apply OQ.move;rfl)|(apply OQ.assign;rfl)) rfl ?_ | refine JC.seq ?_ | refine JC.region ?_ | refine JC.block ?_ | refine JC.skip ?_ | refine JL.nil ?_ | refine JE.next ?_ | refine JE.au ?_ | refine JL.cG rfl rfl rfl rfl ?_ | refine JL.iD rfl rfl rfl rfl ?_)
      refine JE.again (i:=(i,true)) (i+1,true) ⟨hi',nofun⟩ ?_ (by repeat (first | exact aj.nil | refine aj.cons _ _ _ rfl ?_)) (av.refl _)
      show b.l.length - (i+1)<b.l.length - i
      omega
    | false=>
      have hlo:=hlo rfl
      by_cases h13 : c=13
      · subst h13
        have g13 : decide ((13 : Bt)=13)=true:=by decide
        by_cases he : i+1=b.l.length
        · have ge : decide (((i+1 : Nat) : Int)=(b.l.length : Int))=true:=decide_eq_true (by omega)
          repeat (first | refine JL.q (by first|(apply OQ.bI (i:=i) (b:=bx) (j:=jx) (len:=b.l.length) (cap:=b.cap);exact Tryd.underlying22;exact bG;exact (congrArg some hbv);rfl;exact hi')|(apply OQ.aK;exact gD;rfl;exact hbx;exact (by simp);exact hci)|(apply OQ.mb (b:=13);rfl;rfl;exact g13)|(apply OQ.bn (a:=i) (b:=1);rfl;rfl;exact (by omega))|(apply OQ.len (k:=b.l.length) (ad:=b.ad) (cap:=b.cap);exact Tryd.underlying22;rfl)|(apply OQ.eo;rfl;rfl;exact ge)|(apply OQ.bA;rfl;rfl)|(apply OQ.bM;rfl;rfl)|(apply OQ.move;rfl)|(apply OQ.assign;rfl)) rfl ?_ | refine JC.seq ?_ | refine JC.region ?_ | refine JC.block ?_ | refine JC.skip ?_ | refine JL.nil ?_ | refine JE.next ?_ | refine JE.au ?_ | refine JL.aT rfl rfl ?_ | refine JL.cG rfl rfl rfl rfl ?_)
          refine JE.again (i:=(i,false)) (i+1,true) ⟨hi',nofun⟩ ?_ (by repeat (first | exact aj.nil | refine aj.cons _ _ _ rfl ?_)) (av.refl _)
          show b.l.length - (i+1)<b.l.length - i
          omega
        · have ge : decide (((i+1 : Nat) : Int)=(b.l.length : Int))=false:=decide_eq_false (by omega)
          have hi2 : i+1<b.l.length:=by omega
          obtain ⟨e,hce⟩ : ∃ e,b.l[i+1]?=some e:=⟨_,List.getElem?_eq_getElem hi2⟩
          have hcj:=hcx (i+1) e hce
          obtain ⟨l2,hl2⟩ : ∃ l2,(!decide (e=10))=l2:=⟨_,rfl⟩
          repeat (first | refine JL.q (by first|(apply OQ.bI (i:=i) (b:=bx) (j:=jx) (len:=b.l.length) (cap:=b.cap);exact Tryd.underlying22;exact bG;exact (congrArg some hbv);rfl;exact hi')|(apply OQ.aK;exact gD;rfl;exact hbx;exact (by simp);exact hci)|(apply OQ.mb (b:=13);rfl;rfl;exact g13)|(apply OQ.bn (a:=i) (b:=1);rfl;rfl;exact (by omega))|(apply OQ.len (k:=b.l.length) (ad:=b.ad) (cap:=b.cap);exact Tryd.underlying22;rfl)|(apply OQ.eo;rfl;rfl;exact ge)|(apply OQ.bI (i:=i+1) (b:=bx) (j:=jx) (len:=b.l.length) (cap:=b.cap);exact Tryd.underlying22;exact bG;exact (congrArg some hbv);rfl;exact hi2)|(apply OQ.aK;exact gD;rfl;exact hbx;exact (by simp);exact hcj)|(apply OQ.oY (b:=10);rfl;rfl;exact hl2)|(apply OQ.bA;rfl;rfl)|(apply OQ.bM;rfl;rfl)|(apply OQ.move;rfl)|(apply OQ.assign;rfl)) rfl ?_ | refine JC.seq ?_ | refine JC.region ?_ | refine JC.block ?_ | refine JC.skip ?_ | refine JL.nil ?_ | refine JE.next ?_ | refine JE.au ?_ | refine JL.aT rfl rfl ?_)
          refine JE.again (i:=(i,false)) (i+1,l2) ⟨hi',fun e2 k hk hk13=>?_⟩ ?_ (by repeat (first | exact aj.nil | refine aj.cons _ _ _ rfl ?_)) (av.refl _)
          · dsimp only at e2 hk
            rcases Nat.lt_or_ge k i with h1 | h1
            · exact hlo k h1 hk13
            · obtain rfl : k=i:=by omega
              rw [hce]
              rw [e2] at hl2
              simp at hl2
              rw [hl2]
              rfl
          · show b.l.length - (i+1)<b.l.length - i
            omega
      · have g13 : decide (c=13)=false:=decide_eq_false h13
        repeat (first | refine JL.q (by first|(apply OQ.bI (i:=i) (b:=bx) (j:=jx) (len:=b.l.length) (cap:=b.cap);exact Tryd.underlying22;exact bG;exact (congrArg some hbv);rfl;exact hi')|(apply OQ.aK;exact gD;rfl;exact hbx;exact (by simp);exact hci)|(apply OQ.mb (b:=13);rfl;rfl;exact g13)|(apply OQ.bM;rfl;rfl)|(apply OQ.bn (a:=i) (b:=1);rfl;rfl;exact (by omega))|(apply OQ.move;rfl)|(apply OQ.assign;rfl)) rfl ?_ | refine JC.seq ?_ | refine JC.region ?_ | refine JC.block ?_ | refine JC.skip ?_ | refine JL.nil ?_ | refine JE.next ?_ | refine JE.au ?_ | refine JL.aT rfl rfl ?_ | refine JL.cG rfl rfl rfl rfl ?_ | refine JL.iD rfl rfl rfl rfl ?_)
        refine JE.again (i:=(i,false)) (i+1,false) ⟨hi',fun _ k hk hk13=>?_⟩ ?_ (by repeat (first | exact aj.nil | refine aj.cons _ _ _ rfl ?_)) (av.refl _)
        · dsimp only at hk
          rcases Nat.lt_or_ge k i with h1 | h1
          · exact hlo k h1 hk13
          · obtain rfl : k=i:=by omega
            rw [hc] at hk13
            exact absurd (Option.some.inj hk13) h13
        · show b.l.length - (i+1)<b.l.length - i
          omega
  have hil : b.l.length≤i:=by
    have:=of_decide_eq_false h
    omega
  clear h
  have hs1 : ∀ (M : List ah) (w' : World),aa w3 [] M w'→Calls Tryd.prog 7 [z.v,x.v].toArray w' fun e w2=>e=.returned (.bool true)∧Ext w' w2:=fun M w' hw'=>by
    have:=ie z x w' (okz.holds hw' rfl) (ox3.holds hw' rfl) (by rw [hz];omega)
    rw [show decide (z.l=x.l)=true from decide_eq_true (by rw [hz,hx])] at this
    exact this
  cases lo with
  | true=>
    repeat (first | refine JL.q (by first|(apply OQ.aH (vs:=[z.v,x.v]);exact dP;rfl;exact (hs1 _))|(apply OQ.bA;rfl;rfl)|(apply OQ.move;rfl)|(apply OQ.assign;rfl)) rfl ?_ | refine JC.seq ?_ | refine JC.region ?_ | refine JC.exit ?_ | refine JL.nil ?_ | refine JE.next ?_ | refine JE.aJ ?_ | refine JE.bk ?_ | refine JL.aT rfl rfl ?_ | refine JL.cG rfl rfl rfl rfl ?_)
    refine JC.ret ?_
    skip
    exact JE.aN rfl (RV.tmp rfl) fun w' hw=>⟨rfl,hw1.aq.trans (hw2.aq.trans (hw3.aq.trans hw.aq))⟩
  | false=>
    have hno : (13 : Bt) ∉ m:=by
      rw [← hm0]
      refine kg b.l.length b.l (Nat.le_refl _) fun k hk=>?_
      have hk2 : k<b.l.length:=(List.getElem?_eq_some_iff.1 hk).1
      exact hlo rfl k (by omega) hk
    have hWm : cT m=bh m:=by rw [dM,dO m hno]
    repeat (first | refine JL.q (by first|(apply OQ.aH (vs:=[z.v,x.v]);exact dP;rfl;exact (hs1 _))|(apply OQ.move;rfl)) rfl ?_ | refine JC.seq ?_ | refine JC.region ?_ | refine JC.exit ?_ | refine JE.next ?_ | refine JE.aJ ?_ | refine JE.bk ?_ | refine JL.aT rfl rfl ?_)
    refine JL.q (OQ.cQ (cs:=ei 2 0 0 []) [0] [.const (I 2)] (vs:=[I 2]) rfl rfl (by kernel_rfl)) rfl ?_
    refine JL.aT rfl rfl ?_
    refine JL.cJ (vs:=[y.v,.agg (ei 2 0 0 []).toArray]) (S':=[]) [] bR rfl rfl (fun w' hw'=>cA y 0 0 [] w' (oy3.holds hw' rfl) (by rw [hy];omega) (by rw [hy,dw,dO m hno];omega) (hm3.ext hw'.aq)) (.nil _) (by simp) ?_
    intro v hv hvz w4 hw4 okv
    rw [hy,hWm] at hv
    have ox4:=ox3.holds hw4 rfl
    have hs2 : ∀ (M : List ah) (w' : World),aa w4 [] M w'→Calls Tryd.prog 7 [v.v,x.v].toArray w' fun e w2=>e=.returned (.bool true)∧Ext w' w2:=fun M w' hw'=>by
      have:=ie v x w' (okv.holds hw' rfl) (ox4.holds hw' rfl) (by rw [hv];omega)
      rw [show decide (v.l=x.l)=true from decide_eq_true (by rw [hv,hx])] at this
      exact this
    repeat (first | refine JL.q (by first|(apply OQ.aH (vs:=[v.v,x.v]);exact dP;rfl;exact (hs2 _))|(apply OQ.bA;rfl;rfl)|(apply OQ.bM;rfl;rfl)|(apply OQ.move;rfl)|(apply OQ.assign;rfl)) rfl ?_ | refine JL.nil ?_ | refine JE.next ?_ | refine JL.aT rfl rfl ?_)
    refine JC.ret ?_
    skip
    exact JE.aN rfl (RV.tmp rfl) fun w' hw=>⟨rfl,hw1.aq.trans (hw2.aq.trans (hw3.aq.trans (hw4.aq.trans hw.aq)))⟩
end Rw
end
section
set_option maxRecDepth 10000
open Go.ChangeShapes Go.WideShapes Go.ChangeAt Go.RowKit
open Sl
set_option linter.unusedVariables false
theorem p4 : ownKnob Tryd.prog.godebug=none:=by kernel_rfl
theorem mc : laidOutB Tryd.prog=true:=by kernel_rfl
theorem oZ {z : Int} (h : (Lit.int .u8 z).wf=true) : U8 (BitVec.ofInt 8 z)=.int .u8 z:=by
  have h0 : 0≤z∧z≤255:=by
    have h1 : (decide (0≤z) && decide (z≤255))=true:=h
    simpa using h1
  have h2 : ((BitVec.ofInt 8 z).toNat : Int)=z:=by
    rw [BitVec.toNat_ofInt]
    omega
  unfold U8
  rw [h2]
def jG (zs : List Int) : List (BitVec 8):=zs.map (BitVec.ofInt 8)
theorem oh {H : Type} {enc : TypeId × Value→H} {W : World} {fuel : Nat} {v : Value} {x : DataW H × List MemPlace} (h : DataW.trod enc Tryd.prog W 0 (fun _=>true) true fuel 22 [v]=some x) : ∃ k : ai,v=k.v∧k.ok W∧k.cap≤maxLen:=by
  rcases open_ints (show Tryd.prog.underlying 22=some (.slice 5) by kernel_rfl) (show Tryd.prog.underlying 5=some (.int .u8) by kernel_rfl) (by kernel_rfl) h with ⟨hcs,_⟩ | ⟨x,l,c,zs,hcs,_,hl,hm,hz,_,hcell,hwz⟩
  · cases hcs
    exact ⟨⟨none,0,[]⟩,rfl,⟨by simp,Reads.nil _ _⟩,by decide⟩
  · cases hcs
    simp only [if_true] at hz
    have hlen : (jG (zs.take l)).length=l:=by simp [jG];omega
    refine ⟨⟨some x,c,jG (zs.take l)⟩,by simp [ai.v,hlen],⟨by rw [hlen];exact hl,?_⟩,hm⟩
    intro i v hv
    have hi : i<l:=by
      have:=(List.getElem?_eq_some_iff.1 hv).1
      simpa [hlen] using this
    have hc:=hcell i (by omega)
    obtain ⟨b,o,sp⟩:=x
    cases sp with
    | some s=>
      have hc:=hcell 0 (by omega)
      simp only [World.cell?,Addr.add,if_true] at hc
      split at hc <;> simp at hc
    | none=>
      refine ⟨b,o,rfl,?_⟩
      have e1 : zs.getD i 0=zs[i]'(by omega):=by simp [List.getD,show i<zs.length by omega]
      have e2:=oZ (hwz (zs[i]'(by omega)) (List.getElem_mem _))
      have e3 : v=.int .u8 (zs.getD i 0):=by
        simp only [jG,List.map_map,List.getElem?_map,List.getElem?_take] at hv
        rw [if_pos hi,List.getElem?_eq_getElem (by omega)] at hv
        simp only [Option.map_some,Function.comp,Option.some.injEq] at hv
        rw [← hv,e2,e1]
      rw [e3]
      have e4 : (⟨b,o,none⟩ : Addr).add i=⟨b,o+i,none⟩:=by
        unfold Addr.add
        split
        · subst i;rfl
        · rfl
      rw [e4] at hc
      exact hc
end
section
set_option maxRecDepth 10000
open Go.ChangeShapes Go.WideShapes Go.ChangeAt Go.RowKit
open Sl
set_option linter.unusedVariables false
set_option maxRecDepth 100000
theorem ji : ((Rows.rewriteEndsRow.laid).all fun x=>x.2.handleName?.isNone)=true:=by kernel_rfl
theorem nj (os : Os) (args : Array Value) : laidMetH Tryd.prog Rows.rewriteEndsRow.laid ((World.laidAll Tryd.prog os Rows.rewriteEndsRow.laid).forCall (fun _ _=>0) ⟨#[],args,[]⟩).memory:=by
  rw [MakeChecks.laidMetH_plain _ _ _ ji]
  exact laidMet_laidAll _ (by kernel_rfl) (by kernel_rfl)
theorem ki (os : Os) : (World.laidAll Tryd.prog os Rows.rewriteEndsRow.laid).Shaped Tryd.prog:=World.shaped_of_ZipB (by kernel_rfl) (by kernel_rfl)
theorem cU {H : Type} {enc : TypeId × Value→H} {a : Assume} {C : Checked} {os : Os} {f : FuncId} {fn : Func} {s : ChangeSpec} {conds : List PathCond} {apart fresh handsOn again : Bool} {X : World→Array Value→Prop}
    (hX : ∀ (w w' : World) (args : Array Value),w.heap=w'.heap→X w args→X w' args)
    (own : ownKnob C.prog.godebug=none) (started : os.Started) (noInit : C.prog.inits.idxOf? f=none) (hfn : C.prog.funcs[f]?=some fn)
    (witness : ∃ (w : World) (tape : Tape) (i : Input),w.os=os∧(w.forCall tape i).Shaped C.prog∧i.vars=[]∧Input.okWide C.prog (w.forCall tape i) .any w.heap.size f i∧
      ((s.pre enc C.prog fn conds apart (w.forCall tape i).memory i.args∧X (w.forCall tape i).memory i.args)∧sizedMet enc C.prog fn (OpenSpec.ofChange s) apart (w.forCall tape i).memory i.args)∧a.holds C.prog (lone (Frame.enter C.prog f i.args .normal) [] (w.forCall tape i)))
    (contract : ∀ (W : World) (base : Nat) (args : Array Value) (ds gs : List (DataW H)) (before : List MemPlace),
      (∀ (j : Nat) t v,fn.params[j]?=some t→args[j]?=some v→Value.okWide C.prog W .any base t v)→
      DataW.Whole enc C.prog fn.params.toList s.vars apart W args.toList ds gs before→
      conds.all (PathCond.test C.prog ⟨fn.params.toList,ds,s.plain.varTypes C.prog,gs⟩)=true→
      (DataW.weightsEach C.prog (fn.params.toList++s.plain.varTypes C.prog) (ds++gs)).all (·≤reachBytes)=true→X W args→W.ShapedOpen C.prog→
      Calls C.prog f args W fun e W'=>∃ v,e=.returned v∧s.post enc C.prog fn apart fresh handsOn again W args v W') :
    ReturnsInHanded a C os f .any (fun w args=>(s.pre enc C.prog fn conds apart w args∧X w args)∧sizedMet enc C.prog fn (OpenSpec.ofChange s) apart w args) (s.post enc C.prog fn apart fresh handsOn again):=
  returnsInHanded_of_calls own started noInit witness fun w tape i _ hsh _ hok hpre _=>by
    obtain ⟨_,_,_,fn',hfn',_,_,_,_,hval⟩:=hok
    obtain rfl : fn'=fn:=Option.some.inj (hfn'.symm.trans hfn)
    obtain ⟨⟨⟨ds,gs,before,hw,hc⟩,hx⟩,hz⟩:=hpre
    have hw':=DataW.Whole.of_heap (w':=w.forCall tape i) (by rfl) hw
    refine (contract (w.forCall tape i) w.heap.size i.args ds gs before hval hw' hc (hz.weights hw) (hX _ _ _ (by rfl) hx) hsh).mono fun e W' ⟨v,he,hp⟩=>?_
    subst he
    exact ChangeSpec.post_blind hp
end
end Go.Proofs.YtbmagnpmfpfckaaDoor
