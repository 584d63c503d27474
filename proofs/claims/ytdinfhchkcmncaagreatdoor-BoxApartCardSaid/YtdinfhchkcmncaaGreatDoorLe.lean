/-
  Of no statement by itself: the texts BoxH, BoxI, BoxJ, BoxK, BoxM, BoxU, BoxR, BoxV, BoxAp, Plain, Elm, BoxN, FraY in one.
  Conditions: each theorem's own.
-/
import Derived.Test.YtdinfhchkcmncaaGreatDoorLd
import Derived.Test.YtdinfhchkcmncaaGreatDoorProg
import Derived.Test.YtdinfhchkcmncaaGreatDoorRows
import Derived.ProofKit
import Derived.OpenShut
import Derived.Below
import Derived.Stop.Joined
import Derived.ChangeMaps5
import Derived.Deep.Slices
import Derived.Deep.SlicePairs
import Derived.Test.YtdinfhchkcmncaaGreatDoorTie
import Derived.SevenTiedAt
import Derived.LaidMore
import Derived.Lay
import Derived.Lib.LaidTab
set_option linter.unusedSimpArgs false
set_option linter.unusedVariables false
namespace Go.Proofs.YtdinfhchkcmncaaGreatDoor
section
set_option maxRecDepth 10000
open Sl dc dz gh Bx
theorem AE {R : Rb} {n : Nat} (k : R.ok n) {a b : Ml} (ha : a ∈ R.ms) (hb : b ∈ R.ms) (hf : a.f=b.f) (hu : a.u=b.u) : a=b:=by
  have hr:=k.pV
  rcases List.mem_iff_getElem.1 ha with ⟨i,hi,rfl⟩
  rcases List.mem_iff_getElem.1 hb with ⟨j,hj,rfl⟩
  rcases Nat.lt_trichotomy i j with hij | hij | hij
  · have:=List.pairwise_iff_getElem.1 hr i j hi hj hij hf;omega
  · subst hij;rfl
  · have:=List.pairwise_iff_getElem.1 hr j i hj hi hij hf.symm;omega
theorem sW {R : Rb} {n : Nat} (k : R.ok n) {m : Ml} (hm : m ∈ R.ms) : R.find m.f (m.u : Int)=some m:=by
  cases h : R.find m.f (m.u : Int) with
  | none=>
    unfold Rb.find at h
    have:=List.find?_eq_none.1 h m hm
    simp at this
  | some a=>
    obtain ⟨h1,h2,h3⟩:=bZ h
    rw [AE k h1 hm h2 (by omega)]
theorem sX (A B C X : List aj) : (A++(B++(C++X))).Perm (X++(A++(B++C))):=by
  have:=List.perm_append_comm (l₁:=A++(B++C)) (l₂:=X)
  simpa only [List.append_assoc] using this
theorem BE (b : aj) (A B C X : List aj) : (b::(X++(A++(B++C)))).Perm (B++(b::(A++(C++X)))):=
  ((((sX A B C X).symm.trans (List.perm_append_comm_assoc A B (C++X))).cons b)).trans List.perm_middle.symm
theorem JC.BF {P : Program} {n : Nat} {w0 : World} {S : List Nat} {Q : Exit→Act→World→Prop} {c : Code} {E : Env} {M M' : List aj} (h : JC P n w0 S Q c E M') (hp : M.Perm M') : JC P n w0 S Q c E M:=⟨fun a w ha hw=>h.go a w ha (hw.perm' hp)⟩
theorem BG (Z O A B C : List aj) : (Z++(O++(A++(B++C)))).Perm (B++((Z++O)++(A++C))):=by
  have:=List.perm_append_comm_assoc (Z++(O++A)) B C
  simpa only [List.append_assoc] using this
theorem xh (c : Nat) : ∀ {l : List Pq},(∀ p ∈ l,rD p≤c)→gL l≤c * l.length
  | [],_=>by simp [gL]
  | p::l,h=>by
    have h1:=h p (by simp)
    have h2:=xh c (l:=l) fun q hq=>h q (by simp [hq])
    rw [dV,List.length_cons,Nat.mul_add,Nat.mul_one]
    omega
theorem yR : ∀ k : Fin 16,(BitVec.ofInt 64 ((k.val : Nat) : Int) &&& BitVec.ofInt 64 4).toNat=k.val / 4 % 2 * 4:=by decide +kernel
theorem OQ.yR {P : Program} {n : Nat} {E : Env} {C : World→Prop} {dst : Option Tmp} {t t' ty : TypeId} {pos : String} {aft : Array Edge} {g : Option (Nat × Bool)} {x y : Operand} {a : Nat} (ha : a<16) (hx : ev E x=some (N a)) (hy : ev E y=some (N 4)) : OQ P n E C ⟨dst,.binOp .and t x y t',ty,pos,aft,g⟩ (N (a / 4 % 2 * 4)):=
  OQ.bin hx hy rfl fun _=>jR (k:=.i64) (show IntKind.i64.wrap ((BitVec.ofInt 64 (a : Int) &&& BitVec.ofInt 64 4).toNat : Int)=((a / 4 % 2 * 4 : Nat) : Int) from by
    have:=Go.Proofs.YtdinfhchkcmncaaGreatDoor.yR ⟨a,ha⟩
    dsimp only at this
    rw [this]
    have h2 : a / 4 % 2<2:=Nat.mod_lt _ (by decide)
    have : a / 4 % 2 * 4=0∨a / 4 % 2 * 4=4:=by omega
    rcases this with h | h <;> rw [h] <;> rfl)
def xq (R : Rb) (f : Bk) : List Nat:=(R.ms.filter (goes f)).map Ml.u
def nJ (f : Bk) (m : Ml) : aE:=⟨aR f (m.u : Int),bB,true⟩
structure AF (x : Bz) (aa : List Bk) (vs : VL) (R : Rb) (n : Nat) (f : Bk) where
  code : Nat
  q : Acc
  l : List Nat
  hq : q=none→l=[]
  z' : Sz
  aT : List Bk
  vs' : VL
  R' : Rb
  ok : (Bz.mk x.b z').ok aT vs' R' n
  p : z'.p=x.z.p
  out : (xq R f=[]∧code=0∧l=[]∧z'=x.z∧aT=aa∧vs'=vs∧R'=R)∨
    (xq R f≠[]∧Step x.z aa vs (gA R f) code z' aT vs'∧((code=0∧l=xq R f∧R'=R.bS f)∨(code=6∧l=[]∧z'=x.z∧aT=aa∧vs'=vs∧R'=R)))
structure Xl where
  i : Nat
  q1 : Acc
  q2 : Acc
theorem uJ : aI Tryz.prog 16:=⟨_,Tryz.func16,rfl,by kernel_rfl⟩
set_option maxHeartbeats 32000000 in
theorem xj (x : Bz) (aa : List Bk) (vs : VL) (R : Rb) (n : Nat) (k : x.ok aa vs R n) (f : Bk) (hf : f.length<1000000000000000) (hn : R.ms.length≤40000) (w : World) (h0 : Holds w (keys x.E) x.E w) (hT : dX (keys x.E) w) :
    Calls Tryz.prog 16 [Pt x.b 0,Z f].toArray w fun e w'=>∃ r : AF x aa vs R n f,e=.returned (.tuple #[av r.q r.l.length,N r.code])∧Holds w (keys x.E) (af 3 r.q (aA r.l)++(Bz.mk x.b r.z').E) w':=by
  generalize keys x.E=S at h0 hT ⊢
  refine enter (n:=61) Tryz.func16 rfl rfl rfl h0 ?_
  repeat (first | refine JL.q (by first|(apply OQ.move;rfl)|(apply OQ.assign;rfl)) rfl ?_ | refine JC.seq ?_ | refine JC.region ?_ | refine JL.nil ?_ | refine JE.next ?_)
  refine JL.perm (M':=x.E++[]) ?_ (by rw [List.append_nil])
  refine JL.w8 (f:=f) k hf (by omega) rfl rfl rfl fun ql=>?_
  rw [List.append_nil]
  obtain ⟨ql,hql⟩:=ql
  dsimp only
  obtain ⟨FS,hFS⟩ : ∃ FS,(R.ms.filter fun m=>decide (m.f=f))=FS:=⟨_,rfl⟩
  have hL : R.list f=FS.map Ml.u:=by rw [← hFS];rfl
  have hFm : ∀ m ∈ FS,m ∈ R.ms∧m.f=f:=fun m hm=>by
    rw [← hFS] at hm
    have:=List.mem_filter.1 hm
    exact ⟨this.1,of_decide_eq_true this.2⟩
  have hFl : FS.length≤R.ms.length:=by rw [← hFS];exact List.length_filter_le _ _
  have hFg : FS.filter (goes f)=R.ms.filter (goes f):=by
    rw [← hFS,List.filter_filter]
    congr 1
    funext m
    unfold goes
    cases decide (m.f=f) <;> simp
  have hex : xq R f=(FS.filter (goes f)).map Ml.u:=by rw [hFg];rfl
  have hexP : gA R f=((FS.filter (goes f)).map (nJ f)).map aE.p:=by rw [hFg,List.map_map];rfl
  rw [hL] at hql ⊢
  obtain ⟨C,hC⟩ : ∃ C,af 3 ql (aA (FS.map Ml.u))=C:=⟨_,rfl⟩
  obtain ⟨X,hX⟩ : ∃ X,x.E=X:=⟨_,rfl⟩
  have hCl : (FS.map Ml.u).length=FS.length:=List.length_map _
  rw [hC,hX,hCl]
  repeat (first | refine JL.q (by first|(apply OQ.kf (q:=ql) (k:=FS.length);exact Tryz.underlying35;exact (fun e=>by rw [← hCl,hql e];rfl);rfl)|(apply OQ.move;rfl)) rfl ?_ | refine JC.block ?_ | refine JL.nil ?_ | refine JE.next ?_)
  refine JC.loop (fun z : Xl=>[(0,Pt x.b 0),(1,Z f),(6,av z.q1 ((FS.take z.i).filter (goes f)).length),(7,av z.q2 ((FS.take z.i).filter (goes f)).length),(15,av ql FS.length),(16,N FS.length),(17,N z.i)]) (fun z=>cD 67 3 z.q2 ((((FS.take z.i).filter (goes f)).map (nJ f)).map aE.cs)++(af 3 z.q1 (aA (((FS.take z.i).filter (goes f)).map Ml.u))++(C++X))) (fun z=>FS.length - z.i) (fun z=>z.i≤FS.length∧(z.q1=none→(FS.take z.i).filter (goes f)=[])∧(z.q2=none→(FS.take z.i).filter (goes f)=[])) ⟨0,none,none⟩ ⟨Nat.zero_le _,fun _=>rfl,fun _=>rfl⟩ (by repeat (first | exact ah.nil | refine ah.cons _ _ _ rfl ?_)) (ak.refl _) ?_
  rintro ⟨i,q1,q2⟩ ⟨hi,hq1,hq2⟩
  dsimp only at hi hq1 hq2 ⊢
  repeat (first | refine JL.q (by (apply OQ.fc;rfl;rfl)) rfl ?_ | refine JC.seq ?_ | refine JC.region ?_ | refine JL.nil ?_ | refine JE.next ?_)
  refine JC.cond rfl (fun h=>?_) (fun h=>?_)
  · have hi' : i<FS.length:=by have:=of_decide_eq_true h;omega
    clear h
    cases ql with
    | none=>have:=hql rfl;rw [← hCl,this] at hi';cases hi'
    | some rl=>
    obtain ⟨m,hm⟩ : ∃ m,FS[i]?=some m:=⟨FS[i],List.getElem?_eq_getElem hi'⟩
    have hmF : m ∈ FS:=List.mem_of_getElem? hm
    obtain ⟨hmm,hmf⟩:=hFm m hmF
    have hfi : R.find f (m.u : Int)=some m:=by rw [← hmf];exact sW k.r hmm
    have htk : (FS.take (i+1)).filter (goes f)=(FS.take i).filter (goes f)++(if goes f m then [m] else []):=by
      have e : FS.take (i+1)=FS.take i++[m]:=by
        rw [List.take_succ_eq_append_getElem hi']
        rw [List.getElem?_eq_getElem hi',Option.some.injEq] at hm
        rw [hm]
      rw [e,List.filter_append]
      congr 1
      by_cases hg : goes f m=true
      · rw [if_pos hg,List.filter_cons_of_pos hg];rfl
      · rw [if_neg hg,List.filter_cons_of_neg hg];rfl
    have hpl : ((FS.take i).filter (goes f)).length≤i:=by
      have:=List.length_filter_le (goes f) (FS.take i)
      rw [List.length_take] at this
      omega
    generalize hPE : (FS.take i).filter (goes f)=PE at htk hpl hq1 hq2 ⊢
    have hul : m.u<10 ^ 10:=k.r.ki hmm
    have hul2 : m.u<10000000000:=by omega
    have hfl:=k.r.fl m hmm
    have hzk : (aA (FS.map Ml.u))[i]?=some (N m.u):=by unfold aA;rw [List.getElem?_map,List.getElem?_map,hm];rfl
    have hcell:=Sl.Own.cell (e:=3) (sz:=1) (n:=(aA (FS.map Ml.u)).length) (cap:=rl.2) hzk
    have hCC : C=[⟨rl.1,Sl.Own 3 1 (aA (FS.map Ml.u)).length rl.2 (aA (FS.map Ml.u)),true⟩]:=hC.symm
    have hH : Has (cD 67 3 q2 ((PE.map (nJ f)).map aE.cs)++(af 3 q1 (aA (PE.map Ml.u))++(C++X))) rl.1 (Sl.Own 3 1 (aA (FS.map Ml.u)).length rl.2 (aA (FS.map Ml.u))) true:=aZ (aZ (by rw [hCC];exact .here))
    have hkv : av (some rl) FS.length=.slice (some ⟨rl.1,0,none⟩) FS.length rl.2:=rfl
    have hcell0 : ∀ o,Sl.Own 3 1 (aA (FS.map Ml.u)).length rl.2 (aA (FS.map Ml.u)) o→cellAt o (0+i)=some (N m.u):=by rw [Nat.zero_add];exact hcell
    obtain ⟨A,hA⟩ : ∃ A,cD 67 3 q2 ((PE.map (nJ f)).map aE.cs)=A:=⟨_,rfl⟩
    obtain ⟨B,hB⟩ : ∃ B,af 3 q1 (aA (PE.map Ml.u))=B:=⟨_,rfl⟩
    rw [hA,hB] at hH ⊢
    rw [hkv]
    repeat (first | refine JL.q (by first|(apply OQ.dw (i:=i) (b:=rl.1) (j:=0);exact Tryz.underlying35;exact rS;rfl;rfl;exact hi')|(apply OQ.load (v:=N m.u);exact cr;rfl;exact hH;exact hcell0)|(apply OQ.move;rfl)|(apply OQ.assign;rfl)) rfl ?_ | refine JC.seq ?_ | refine JC.region ?_ | refine JC.block ?_ | refine JC.skip ?_ | refine JL.nil ?_ | refine JE.next ?_)
    refine JL.perm (M':=x.E++(A++(B++C))) ?_ (by rw [hX];exact sX A B C X)
    refine JL.oq (f:=f) (u:=(m.u : Int)) k hf (by omega) (by omega) hT rfl rfl rfl rfl fun r=>?_
    rw [hfi,hX]
    obtain ⟨s,hs⟩ : ∃ s,mj r m.b=s:=⟨_,rfl⟩
    show JL Tryz.prog _ _ _ _ _ _ ((25,.tuple #[.agg (eW m.u m.fl (mj r m.b)).toArray,N 0])::_) (af 5 (some r) (m.v.map U8)++(X++(A++(B++C))))
    rw [hs]
    repeat (refine JL.q (by first|(apply OQ.extract;rfl;rfl)|(apply OQ.move;rfl)) rfl ?_)
    refine JL.alloc AA rfl fun b10 _=>?_
    refine JL.ai (cs:=eW m.u m.fl s) sS rfl rfl rfl rfl .here rfl ?_
    have hcf : ∀ o,Row 46 (eW m.u m.fl s) o→cellAt o 1=some (N m.fl):=Row.cell rfl
    have hgo : goes f m=!decide (((m.fl / 4 % 2 * 4 : Nat) : Int)=0):=by
      unfold goes
      rw [decide_eq_true hmf,Bool.true_and]
      have h2 : m.fl / 4 % 2<2:=Nat.mod_lt _ (by decide)
      by_cases h : m.fl / 4 % 2=1
      · rw [decide_eq_true h,decide_eq_false (by omega)];rfl
      · rw [decide_eq_false h,decide_eq_true (by omega)];rfl
    cases hg : decide (((m.fl / 4 % 2 * 4 : Nat) : Int)=0)
    · have hgo : goes f m=true:=by rw [hgo,hg];rfl
      rw [if_pos hgo] at htk
      repeat (first | refine JL.q (by first|(apply OQ.kV (a:=0) (b:=0) (c:=true);rfl;rfl;rfl)|(apply OQ.load (v:=N m.fl);exact cr;rfl;exact .here;exact hcf)|(apply OQ.yR;exact hfl;rfl;rfl)|(apply OQ.jw (b:=0);rfl;rfl;exact hg)|(apply OQ.bg;rfl;rfl)|(apply OQ.move;rfl)|(apply OQ.assign;rfl)|(apply OQ.bA;rfl;rfl;rfl;exact (by decide);rfl)) rfl ?_ | refine JC.seq ?_ | refine JC.region ?_ | refine JL.nil ?_ | refine JE.next ?_ | refine JL.aD rfl rfl ?_)
      refine JC.cond_true rfl rfl ?_
      repeat (first | refine JL.q (by (apply OQ.move;rfl)) rfl ?_ | refine JC.seq ?_ | refine JC.region ?_)
      refine JL.less (M':=X++(A++(B++C))) (.drop _ _ _ (bE _ _)) ?_
      refine JL.j7 (v:=N m.u) Tryz.underlying35 mh rfl rfl rfl rfl fun bl _=>?_
      refine JL.perm (M':=B++(⟨bl,Row 3 [N m.u],true⟩::(A++(C++X)))) ?_ (by exact BE _ A B C X)
      rw [← hB]
      have hxl : (aA (PE.map Ml.u)).length=PE.length:=by unfold aA;rw [List.length_map,List.length_map]
      refine JL.cZ (xs:=aA (PE.map Ml.u)) (cs:=[N m.u]) (m:=1) (ad:=some ⟨bl,0,none⟩) (sc:=1) q1 Tryz.underlying35 mh (fun e=>by rw [hq1 e];rfl) (by rw [hxl];rfl) rfl rfl (fun w' hw'=>?_) (by simp [Value.oneCell']) rfl (by rw [hxl];omega) (by rw [hxl];omega) rfl fun q' hq'=>?_
      · obtain ⟨o,ho,hA⟩:=hw'.get (b:=bl) (A:=Row 3 [N m.u]) (wr:=true) (aZ .here)
        exact Reads.block ho (Row.all o hA)
      have e2 : aA (PE.map Ml.u)++[N m.u]=aA ((PE++[m]).map Ml.u):=by unfold aA;rw [List.map_append,List.map_append];rfl
      have e3 : (aA (PE.map Ml.u)++[N m.u]).length=PE.length+1:=by rw [List.length_append,hxl];rfl
      rw [e3,e2]
      obtain ⟨B2,hB2⟩ : ∃ B2,af 3 q' (aA ((PE++[m]).map Ml.u))=B2:=⟨_,rfl⟩
      rw [hB2]
      refine JL.less (M':=B2++(A++(C++X))) (bQ (.drop _ _ _ (ak.refl _)) _) ?_
      refine JL.perm (M':=A++(B2++(C++X))) ?_ (by exact List.perm_append_comm_assoc _ _ _)
      repeat (first | refine JL.q (by first|(apply OQ.aB (vs:=[Z f,fG m.u]);exact jN;rfl;exact (fun w' hw'=>me f m.u hf (by omega) (by omega) w' (hT.holds hw')))|(apply OQ.yJ (key:=aR f (m.u : Int)) (b:=true);rfl;rfl)|(apply OQ.move;rfl)|(apply OQ.assign;rfl)) rfl ?_ | refine JC.region ?_ | refine JL.nil ?_ | refine JE.next ?_)
      refine JL.s8 (cs:=(nJ f m).cs) Tryz.underlying70 zm rfl (by decide) (by decide) rfl rfl rfl fun bl2 _=>?_
      rw [← hA]
      have hal : ((PE.map (nJ f)).map aE.cs).length=PE.length:=by rw [List.length_map,List.length_map]
      refine JL.iJ (c:=(nJ f m).cs) (L:=(PE.map (nJ f)).map aE.cs) q2 Tryz.underlying70 zm (fun e=>by rw [hq2 e];rfl) (by rw [hal];rfl) rfl rfl (fun u hu=>List.all_eq_true.1 (aE.one _) u hu) rfl (by decide) (by rw [hal];omega) (by rw [hal];omega) rfl fun b2 cap2=>?_
      have e4 : ((PE.map (nJ f)).map aE.cs++[(nJ f m).cs]).length=PE.length+1:=by rw [List.length_append,hal];rfl
      have e5 : (PE.map (nJ f)).map aE.cs++[(nJ f m).cs]=((PE++[m]).map (nJ f)).map aE.cs:=by rw [List.map_append,List.map_append];rfl
      have e6 : (PE++[m]).length=PE.length+1:=by rw [List.length_append];rfl
      rw [e4,e5,← hB2]
      repeat (first | refine JL.q (by first|(apply OQ.move;rfl)|(apply OQ.assign;rfl)|(apply OQ.addN;rfl;rfl;exact (by (try simp only []);omega))) rfl ?_ | refine JC.region ?_ | refine JL.nil ?_ | refine JE.next ?_ | refine JE.au ?_)
      rw [← hkv]
      refine JE.again (i:=Xl.mk i q1 q2) (Xl.mk (i+1) q' (some (b2,cap2))) ⟨hi',fun e=>absurd (hq' e) (by simp),nofun⟩ (by dsimp only;omega) ?_ ?_
      · dsimp only
        rw [htk,e6]
        exact (by repeat (first | exact ah.nil | refine ah.cons _ _ _ rfl ?_))
      · dsimp only
        rw [htk]
        exact ak.refl _
    · have hgo : goes f m=false:=by rw [hgo,hg];rfl
      rw [if_neg (by rw [hgo];decide),List.append_nil] at htk
      repeat (first | refine JL.q (by first|(apply OQ.kV (a:=0) (b:=0) (c:=true);rfl;rfl;rfl)|(apply OQ.load (v:=N m.fl);exact cr;rfl;exact .here;exact hcf)|(apply OQ.yR;exact hfl;rfl;rfl)|(apply OQ.jw (b:=0);rfl;rfl;exact hg)|(apply OQ.bg;rfl;rfl)|(apply OQ.move;rfl)|(apply OQ.assign;rfl)|(apply OQ.bA;rfl;rfl;rfl;exact (by decide);rfl)) rfl ?_ | refine JC.seq ?_ | refine JC.region ?_ | refine JL.nil ?_ | refine JE.next ?_ | refine JL.aD rfl rfl ?_)
      refine JC.cond_false rfl rfl ?_
      refine JC.oP (M':=X++(A++(B++C))) ?_ (.drop _ _ _ (bE _ _))
      refine JC.BF (M':=A++(B++(C++X))) ?_ (sX A B C X).symm
      repeat (first | refine JL.q (by first|(apply OQ.move;rfl)|(apply OQ.addN;rfl;rfl;exact (by (try simp only []);omega))) rfl ?_ | refine JC.region ?_ | refine JC.skip ?_ | refine JL.nil ?_ | refine JE.next ?_ | refine JE.au ?_)
      rw [← hkv]
      refine JE.again (i:=Xl.mk i q1 q2) (Xl.mk (i+1) q1 q2) ⟨hi',fun e=>by rw [htk];exact hq1 e,fun e=>by rw [htk];exact hq2 e⟩ (by dsimp only;omega) ?_ ?_
      · dsimp only
        rw [htk]
        exact (by repeat (first | exact ah.nil | refine ah.cons _ _ _ rfl ?_))
      · dsimp only
        rw [htk,hA,hB]
        exact ak.refl _
  · have hi' : i=FS.length:=by have:=of_decide_eq_false h;omega
    subst hi'
    rw [List.take_length] at hq1 hq2 ⊢
    have hPl : (FS.filter (goes f)).length≤40000:=by have:=List.length_filter_le (goes f) FS;omega
    generalize FS.filter (goes f)=PE at hFg hex hexP hPl hq1 hq2 ⊢
    obtain ⟨B,hB⟩ : ∃ B,af 3 q1 (aA (PE.map Ml.u))=B:=⟨_,rfl⟩
    cases PE with
    | nil=>
      rw [hB]
      repeat (first | refine JL.q (by first|(apply OQ.kf (q:=q1) (k:=0);exact Tryz.underlying35;exact (fun _=>rfl);rfl)|(apply OQ.kV (a:=0) (b:=0) (c:=true);rfl;rfl;rfl)|(apply OQ.move;rfl)) rfl ?_ | refine JC.seq ?_ | refine JC.region ?_ | refine JC.exit ?_ | refine JL.nil ?_ | refine JE.next ?_ | refine JE.aH ?_ | refine JE.aX ?_)
      refine JC.cond_true rfl rfl ?_
      repeat (first | refine JL.q (by (apply OQ.assign;rfl)) rfl ?_ | refine JC.seq ?_ | refine JC.region ?_ | refine JL.nil ?_ | refine JE.next ?_)
      refine JC.ret ?_
      repeat (refine JE.ax ?_)
      exact JE.cg rfl (RV.tmp rfl) (RV.tmp rfl) fun w' hw=>⟨⟨0,none,[],fun _=>rfl,x.z,aa,vs,R,k,rfl,.inl ⟨hex,rfl,rfl,rfl,rfl,rfl,rfl⟩⟩,rfl,hw.weak (by show ak x.E _;rw [hX];exact ay _ (ay _ (bE _ _)))⟩
    | cons m0 PE0=>
    have hne : m0::PE0≠[]:=by simp
    have hex0 : xq R f≠[]:=by rw [hex];simp
    generalize m0::PE0=PE at hFg hex hexP hPl hq1 hq2 hne hB ⊢
    cases q2 with
    | none=>exact absurd (hq2 rfl) hne
    | some r2=>
    obtain ⟨A,hA⟩ : ∃ A,cD 67 3 (some r2) ((PE.map (nJ f)).map aE.cs)=A:=⟨_,rfl⟩
    rw [hA,hB]
    have hpos : 0<PE.length:=List.length_pos_iff.2 hne
    have g0 : decide ((PE.length : Int)=0)=false:=decide_eq_false (by omega)
    have hHb : Has (A++(B++(C++X))) x.b (Row 65 [Pt x.z.p 0]) true:=by
      rw [← hX]
      exact aZ (aZ (aZ (aZ .here)))
    repeat (first | refine JL.q (by first|(apply OQ.kf (q:=q1) (k:=PE.length);exact Tryz.underlying35;exact (fun e=>by rw [hq1 e];rfl);rfl)|(apply OQ.kV (a:=(PE.length : Int)) (b:=0);rfl;rfl;exact g0)|(apply OQ.move;rfl)) rfl ?_ | refine JC.seq ?_ | refine JC.region ?_ | refine JC.exit ?_ | refine JL.nil ?_ | refine JE.next ?_ | refine JE.aH ?_ | refine JE.aX ?_)
    refine JC.cond_false rfl rfl ?_
    repeat (first | refine JL.q (by first|(apply OQ.load;exact AO;rfl;exact hHb;exact (Row.cell (v:=Pt x.z.p 0) rfl))|(apply OQ.move;rfl)|(apply OQ.bx;rfl)|(apply OQ.bA;rfl;rfl;rfl;exact (by decide);rfl)) rfl ?_ | refine JC.seq ?_ | refine JC.region ?_ | refine JC.skip ?_ | refine JE.next ?_)
    refine JL.perm (M':=x.z.E++(x.own++(A++(B++C)))) ?_ ((sX A B C X).trans (List.Perm.of_eq (by rw [← hX];unfold Bz.E;rw [List.append_assoc])))
    have hsP : (dU.mk (some ⟨r2.1,0,none⟩) r2.2 (PE.map (nJ f))).ps=gA R f:=hexP.symm
    have hmP : ∀ p ∈ gA R f,jk p=true∧rD p≤60:=fun p hp=>by
      unfold gA at hp
      obtain ⟨m,hm,rfl⟩:=List.mem_map.1 hp
      have hm:=List.mem_filter.1 hm
      have hmf : m.f=f:=by have:=hm.2;unfold goes at this;simp only [Bool.and_eq_true,decide_eq_true_eq] at this;exact this.1
      have h1:=fH (k.r.fold m hm.1) (k.r.ki hm.1)
      rw [hmf] at h1
      refine ⟨?_,?_⟩
      · unfold jk
        simp only [List.length_nil,Nat.lt_irrefl,decide_false,Bool.and_false,Bool.not_false,Bool.and_true,Bool.and_eq_true,decide_eq_true_eq]
        omega
      · unfold rD
        simp only [List.length_nil]
        omega
    have hokp : fu (gA R f)=true:=List.all_eq_true.2 fun p hp=>(hmP p hp).1
    have hszp : gL (gA R f)≤2500000:=by
      have h1:=xh 60 fun p hp=>(hmP p hp).2
      have h2 : (gA R f).length=PE.length:=by rw [hexP,List.length_map,List.length_map]
      rw [h2] at h1
      omega
    refine JL.Ay (s:=⟨some ⟨r2.1,0,none⟩,r2.2,PE.map (nJ f)⟩) k.z (by rw [hsP];exact hszp) (fun w' hw'=>?_) rfl (by show _=some (Value.slice _ (PE.map (nJ f)).length _);rw [List.length_map];rfl) rfl fun st=>?_
    · have h1 : Holds w S (cD 67 3 (some r2) ((PE.map (nJ f)).map aE.cs)++[]) w':=hw'.weak (by rw [List.append_nil,hA];exact ay _ (ay _ (an _ _)))
      have hn : ∀ p ∈ PE.map (nJ f),p.s=bB:=fun p hp=>by obtain ⟨m,_,rfl⟩:=List.mem_map.1 hp;rfl
      refine ⟨wN (q:=some r2) (l:=PE.map (nJ f)) nofun h1 fun p hp=>by rw [hn p hp];exact fh w',fun _ a ea=>?_,fun p hp=>?_⟩
      · cases ea
        exact ct (b:=r2.1) hw' (.there (by rw [← hA];exact .here))
      · rw [hn p hp]
        intro _ a ea
        cases ea
    obtain ⟨code,z2,recs2,vs2,sst⟩:=st
    rw [hsP] at sst
    have hbx:=Step.box (x:=x) sst hokp (rA k.r k.v f) (rz k.r f)
    dsimp only
    refine JL.perm (M':=B++((z2.E++x.own)++(A++C))) ?_ (by exact BG z2.E x.own A B C)
    have hEq : z2.E++x.own=(Bz.mk x.b z2).E:=by
      unfold Bz.E Bz.own
      rw [sst.2.1]
    rw [hEq]
    have hexl : (xq R f).length=PE.length:=by rw [hex,List.length_map]
    have hval : Ending.returned (.tuple #[av q1 PE.length,N 0])=Ending.returned (.tuple #[av q1 (xq R f).length,N 0]):=by rw [hexl]
    have hEnd : ak (af 3 q1 (aA (xq R f))++(Bz.mk x.b z2).E) (B++((Bz.mk x.b z2).E++(A++C))):=by
      rw [hex,hB]
      exact bQ (an _ _) _
    rcases hbx with ⟨h1,h2,h3⟩ | ⟨h1,h2,h3,h4⟩
    · subst h1
      repeat (first | refine JL.q (by first|(apply OQ.jw (a:=0) (b:=0) (c:=true);rfl;rfl;rfl)|(apply OQ.move;rfl)|(apply OQ.assign;rfl)) rfl ?_ | refine JC.seq ?_ | refine JC.region ?_ | refine JL.nil ?_ | refine JE.next ?_)
      refine JC.cond_false rfl rfl ?_
      repeat (first | refine JL.q (by first|(apply OQ.move;rfl)|(apply OQ.assign;rfl)) rfl ?_ | refine JC.seq ?_ | refine JC.region ?_ | refine JC.skip ?_ | refine JL.nil ?_ | refine JE.next ?_)
      exact JC.ret (JE.cg rfl (RV.tmp rfl) (RV.tmp rfl) fun w' hw=>⟨⟨0,q1,xq R f,fun e=>by rw [hex,hq1 e];rfl,z2,recs2,vs2,R.bS f,h3,sst.2.1,.inr ⟨hex0,sst,.inl ⟨rfl,rfl,rfl⟩⟩⟩,hval,hw.weak hEnd⟩)
    · subst h1
      repeat (first | refine JL.q (by first|(apply OQ.jw (a:=6) (b:=0) (c:=false);rfl;rfl;rfl)|(apply OQ.move;rfl)|(apply OQ.assign;rfl)) rfl ?_ | refine JC.seq ?_ | refine JC.region ?_ | refine JL.nil ?_ | refine JE.next ?_)
      refine JC.cond_true rfl rfl ?_
      repeat (first | refine JL.q (by first|(apply OQ.move;rfl)|(apply OQ.assign;rfl)) rfl ?_ | refine JC.seq ?_ | refine JC.region ?_ | refine JL.nil ?_ | refine JE.next ?_)
      refine JC.ret ?_
      repeat (refine JE.ax ?_)
      exact JE.cg rfl (RV.tmp rfl) (RV.tmp rfl) fun w' hw=>⟨⟨6,none,[],fun _=>rfl,z2,recs2,vs2,R,by rw [h2,h3,h4];exact k,sst.2.1,.inr ⟨hex0,sst,.inr ⟨rfl,rfl,h2,h3,h4,rfl⟩⟩⟩,rfl,hw.weak (by show ak (Bz.mk x.b z2).E _;exact ay _ (an _ _))⟩
end
section
set_option maxRecDepth 10000
open Sl dc dz gh Bx
theorem s7.ok.at {w : World} {s : s7} (h : s.ok w) {i : Nat} (hi : i<s.l.length) : ∃ b j,s.ad=some ⟨b,j,none⟩∧w.cell? ⟨b,j+i,none⟩=some (fG (s.l.getD i 0)):=by
  obtain ⟨b,j,e,c⟩:=h.reads.at (by rw [List.length_map];omega)
  refine ⟨b,j,e,c i _ ?_⟩
  rw [List.getElem?_map,List.getD_eq_getElem?_getD,List.getElem?_eq_getElem hi]
  rfl
theorem yS {a b : List Int} {i : Nat} (hi : i<a.length) (hi2 : i<b.length) (ht : a.take i=b.take i) (h : a.getD i 0=b.getD i 0) : a.take (i+1)=b.take (i+1):=by
  rw [List.getD_eq_getElem?_getD,List.getElem?_eq_getElem hi,List.getD_eq_getElem?_getD,List.getElem?_eq_getElem hi2] at h
  rw [List.take_succ_eq_append_getElem hi,List.take_succ_eq_append_getElem hi2,ht]
  exact congrArg (b.take i++[·]) h
theorem qc : aI Tryz.prog 18:=⟨_,Tryz.func18,rfl,by kernel_rfl⟩
set_option maxHeartbeats 8000000 in
theorem sY (a b : s7) (w : World) (ha : a.ok w) (hb : b.ok w) (hl : a.l.length<9223372036854775808) (hl2 : b.l.length<9223372036854775808) : Calls Tryz.prog 18 [a.v,b.v].toArray w fun e w'=>e=.returned (.bool (decide (a.l=b.l)))∧Ext w w':=by
  refine enter (n:=26) Tryz.func18 rfl rfl rfl (Holds.start w []) ?_
  cases h0 : decide ((a.l.length : Int)=(b.l.length : Int))
  · rw [show decide (a.l=b.l)=false from decide_eq_false fun h=>of_decide_eq_false h0 (by rw [h])]
    repeat (first | refine JL.q (by first|(apply OQ.len;exact Tryz.underlying35;rfl)|(apply OQ.jw;rfl;rfl;exact h0)|(apply OQ.move;rfl)|(apply OQ.assign;rfl)) rfl ?_ | refine JC.seq ?_ | refine JC.region ?_ | refine JL.nil ?_ | refine JE.next ?_)
    refine JC.cond rfl (fun _=>?_) (fun h=>by cases h)
    repeat (first | refine JL.q (by (apply OQ.assign;rfl)) rfl ?_ | refine JC.seq ?_ | refine JC.region ?_ | refine JL.nil ?_ | refine JE.next ?_)
    refine JC.ret ?_
    repeat (refine JE.ax ?_)
    exact JE.aP rfl (RV.tmp rfl) fun w' hw=>⟨rfl,hw.aS⟩
  · have hab : a.l.length=b.l.length:=by have:=of_decide_eq_true h0;omega
    repeat (first | refine JL.q (by first|(apply OQ.len;exact Tryz.underlying35;rfl)|(apply OQ.jw;rfl;rfl;exact h0)|(apply OQ.move;rfl)|(apply OQ.assign;rfl)) rfl ?_ | refine JC.seq ?_ | refine JC.region ?_ | refine JL.nil ?_ | refine JE.next ?_)
    refine JC.cond rfl (fun h=>by cases h) (fun _=>?_)
    repeat (first | refine JL.q (by (apply OQ.assign;rfl)) rfl ?_ | refine JC.seq ?_ | refine JC.region ?_ | refine JC.block ?_ | refine JC.skip ?_ | refine JL.nil ?_ | refine JE.next ?_)
    refine JC.loop (fun i : Nat=>[(0,a.v),(1,b.v),(5,N i)]) (fun _=>[]) (fun i=>a.l.length - i) (fun i=>i≤a.l.length∧a.l.take i=b.l.take i) 0 ⟨Nat.zero_le _,rfl⟩ (by repeat (first | exact ah.nil | refine ah.cons _ _ _ rfl ?_)) (ak.refl _) ?_
    rintro i ⟨hi,ht⟩
    repeat (first | refine JL.q (by first|(apply OQ.len;exact Tryz.underlying35;rfl)|(apply OQ.move;rfl)|(apply OQ.fc;rfl;rfl)) rfl ?_ | refine JC.seq ?_ | refine JC.region ?_ | refine JL.nil ?_ | refine JE.next ?_)
    refine JC.cond rfl (fun h=>?_) (fun h=>?_)
    · have hi' : i<a.l.length:=by have:=of_decide_eq_true h;omega
      have hi2 : i<b.l.length:=by omega
      clear h hi
      have hx:=yS hi' hi2 ht
      have hbad : ¬ a.l.getD i 0=b.l.getD i 0→¬ a.l=b.l:=fun h e=>h (by rw [e])
      obtain ⟨ba,ja,eA,cA⟩:=ha.at hi'
      obtain ⟨bb,jb,eB,cB⟩:=hb.at hi2
      have vA : a.v=.slice (some ⟨ba,ja,none⟩) a.l.length a.cap:=by rw [← eA];rfl
      have vB : b.v=.slice (some ⟨bb,jb,none⟩) b.l.length b.cap:=by rw [← eB];rfl
      generalize a.l.getD i 0=p at hx hbad cA
      generalize b.l.getD i 0=q at hx hbad cB
      cases h1 : decide (p=q)
      · rw [show decide (a.l=b.l)=false from decide_eq_false (hbad (of_decide_eq_false h1)),vA,vB]
        repeat (first | refine JC.seq ?_ | refine JC.block ?_ | refine JC.skip ?_ | refine JE.next ?_)
        refine JC.quiet cC (by kernel_rfl) ?_
        repeat (first | refine JQ.q (by first|(apply OQ.dw (i:=i) (b:=ba) (j:=ja);exact Tryz.underlying35;exact rS;rfl;rfl;exact hi')|(apply OQ.dw (i:=i) (b:=bb) (j:=jb);exact Tryz.underlying35;exact rS;rfl;rfl;exact hi2)|(apply OQ.bw;exact cr;rfl;exact (block_lt_of_cell cA);exact (by simp);exact cA)|(apply OQ.bw;exact cr;rfl;exact (block_lt_of_cell cB);exact (by simp);exact cB)|(apply OQ.jw;rfl;rfl;exact h1)|(apply OQ.move;rfl)) rfl ?_ | refine JQ.nil ?_ | refine JE.next ?_)
        refine JC.cond rfl (fun _=>?_) (fun h=>by cases h)
        repeat (first | refine JL.q (by (apply OQ.assign;rfl)) rfl ?_ | refine JC.seq ?_ | refine JC.region ?_ | refine JL.nil ?_ | refine JE.next ?_)
        refine JC.ret ?_
        repeat (first | refine JE.ax ?_ | refine JE.cy ?_)
        exact JE.aP rfl (RV.tmp rfl) fun w' hw=>⟨rfl,hw.aS⟩
      · rw [vA,vB]
        repeat (first | refine JC.seq ?_ | refine JC.block ?_ | refine JC.skip ?_ | refine JE.next ?_)
        refine JC.quiet cC (by kernel_rfl) ?_
        repeat (first | refine JQ.q (by first|(apply OQ.dw (i:=i) (b:=ba) (j:=ja);exact Tryz.underlying35;exact rS;rfl;rfl;exact hi')|(apply OQ.dw (i:=i) (b:=bb) (j:=jb);exact Tryz.underlying35;exact rS;rfl;rfl;exact hi2)|(apply OQ.bw;exact cr;rfl;exact (block_lt_of_cell cA);exact (by simp);exact cA)|(apply OQ.bw;exact cr;rfl;exact (block_lt_of_cell cB);exact (by simp);exact cB)|(apply OQ.jw;rfl;rfl;exact h1)|(apply OQ.move;rfl)) rfl ?_ | refine JQ.nil ?_ | refine JE.next ?_)
        refine JC.cond rfl (fun h=>by cases h) (fun _=>?_)
        repeat (first | refine JL.q (by first|(apply OQ.move;rfl)|(apply OQ.assign;rfl)|(apply OQ.addN;rfl;rfl;exact (by (try simp only []);omega))) rfl ?_ | refine JC.region ?_ | refine JC.skip ?_ | refine JL.nil ?_ | refine JE.next ?_ | refine JE.au ?_)
        rw [← vA,← vB]
        exact JE.again (i:=i) (i+1) ⟨hi',hx (of_decide_eq_true h1)⟩ (by omega) (by repeat (first | exact ah.nil | refine ah.cons _ _ _ rfl ?_)) (ak.refl _)
    · have hi' : i=a.l.length:=by have:=of_decide_eq_false h;omega
      subst hi'
      rw [List.take_length,hab,List.take_length] at ht
      rw [show decide (a.l=b.l)=true from decide_eq_true ht]
      repeat (first | refine JL.q (by (apply OQ.assign;rfl)) rfl ?_ | refine JC.seq ?_ | refine JC.region ?_ | refine JC.exit ?_ | refine JL.nil ?_ | refine JE.next ?_ | refine JE.aH ?_ | refine JE.aX ?_)
      exact JC.ret (JE.aP rfl (RV.tmp rfl) fun w' hw=>⟨rfl,hw.aS⟩)
def fI (q : Acc) (L : List Nat) : s7:=match q with
  | none=>⟨none,0,[]⟩
  | some p=>⟨some ⟨p.1,0,none⟩,p.2,L.map fun u=>((u : Nat) : Int)⟩
theorem rU {q : Acc} {L : List Nat} (h : q=none→L=[]) : (fI q L).v=av q L.length:=by
  cases q with
  | none=>rw [h rfl];rfl
  | some p=>
    show Value.slice (some ⟨p.1,0,none⟩) (L.map fun u=>((u : Nat) : Int)).length p.2=Value.slice (some ⟨p.1,0,none⟩) L.length p.2
    rw [List.length_map]
theorem jO {q : Acc} {L : List Nat} (h : q=none→L=[]) : (fI q L).l=L.map fun u=>((u : Nat) : Int):=by
  cases q with
  | none=>rw [h rfl];rfl
  | some p=>rfl
theorem ou {w0 w : World} {S : List Nat} {M : List aj} {q : Acc} {L : List Nat} (hw : Holds w0 S (af 3 q (aA L)++M) w) : (fI q L).ok w:=by
  cases q with
  | none=>exact ⟨Nat.le_refl _,Reads.nil _ _⟩
  | some p=>
    have hw : Holds w0 S (⟨p.1,Sl.Own 3 1 (aA L).length p.2 (aA L),true⟩::M) w:=hw
    obtain ⟨o,ho,hA⟩:=hw.get .here
    have hl : (aA L).length=L.length:=List.length_map _
    refine ⟨?_,?_⟩
    · show (L.map _).length≤p.2
      rw [List.length_map,← hl]
      obtain ⟨sp,_,_,_,h⟩:=hA
      exact h
    · have e : (L.map fun u=>((u : Nat) : Int)).map (fun i=>Value.int .i64 i)=aA L:=by rw [List.map_map];rfl
      show Reads w _ ((L.map fun u=>((u : Nat) : Int)).map fun i=>Value.int .i64 i)
      rw [e]
      exact Reads.block ho (Sl.Own.cells o hA)
theorem yT {q q2 : Acc} {L L2 : List Nat} (h : q=none→L=[]) (h2 : q2=none→L2=[]) : decide ((fI q L).l=(fI q2 L2).l)=decide (L=L2):=by
  rw [jO h,jO h2]
  refine decide_eq_decide.2 ⟨fun e=>?_,fun e=>by rw [e]⟩
  have hj : Function.Injective fun u : Nat=>(u : Int):=fun a b h=>by have : ((a : Nat) : Int)=(b : Int):=h;omega
  exact (List.map_inj_right fun a b h=>hj h).1 e
end
section
set_option maxRecDepth 10000
open Sl dc dz gh Bx
section
variable {n : Nat} {w0 : World} {S : List Nat} {ops : Array Oper} {Q : Exit→Act→World→Prop} {l : List Oper} {E : Env} {M : List aj}
variable {d : Nat} {ty : TypeId} {pos : String} {aft : Array Edge} {x1 x2 x3 x4 : Operand} {ats : Array TypeId} {x : Bz} {aa : List Bk} {vs : VL} {R : Rb} {nd : Nat} {f : Bk} {u fl : Int} {s : az}
theorem JL.mo (k : x.ok aa vs R nd) (hn : nd+1≤1000000) (hf : f.length<1000000000000000) (hl : s.l.length≤2000000) (hT : dX S w0) (hs : ∀ w,Holds w0 S (x.E++M) w→s.ok w∧ia s (keys x.E)) (e1 : ev E x1=some (Pt x.b 0)) (e2 : ev E x2=some (Z f)) (e3 : ev E x3=some s.v) (hd : Nat.blt d n=true)
    (kk : ∀ r : yQ x aa vs R nd f s.l,JL Tryz.prog n w0 S ops Q l ((d,.tuple #[N r.uid,N r.code])::E) ((Bz.mk x.b r.z').E++M)) : JL Tryz.prog n w0 S ops Q (⟨some d,.call ⟨.value (.func 12),#[x1,x2,x3],ats⟩,ty,pos,aft,none⟩::l) E (x.E++M):=
  JL.bI (ι:=yQ x aa vs R nd f s.l) (xs:=[x1,x2,x3]) (vs:=[Pt x.b 0,Z f,s.v]) (fun r=>.tuple #[N r.uid,N r.code]) (fun r=>(Bz.mk x.b r.z').E) mD (by simp [gS,e1,e2,e3]) hd x.wr (fun r=>Bz.wr _)
    (fun w h0 hw=>ot x aa vs R nd k hn f s hf hl w hw (hT.keys x.wr h0) (hs w h0).1 (hs w h0).2) kk
theorem JL.zA (k : x.ok aa vs R nd) (hf : f.length<1000000000000000) (hu0 : -9223372036854775808≤u) (hu1 : u≤9223372036854775807) (hz : ∀ m ∈ R.ms,m.b.length≤2000000) (hT : dX S w0) (e1 : ev E x1=some (Pt x.b 0)) (e2 : ev E x2=some (Z f)) (e3 : ev E x3=some (fG u)) (e4 : ev E x4=some (fG fl)) (hd : Nat.blt d n=true)
    (kk : ∀ r : yP x aa vs R nd f u fl,JL Tryz.prog n w0 S ops Q l ((d,N r.code)::E) ((Bz.mk x.b r.z').E++M)) : JL Tryz.prog n w0 S ops Q (⟨some d,.call ⟨.value (.func 14),#[x1,x2,x3,x4],ats⟩,ty,pos,aft,none⟩::l) E (x.E++M):=
  JL.bI (ι:=yP x aa vs R nd f u fl) (xs:=[x1,x2,x3,x4]) (vs:=[Pt x.b 0,Z f,fG u,fG fl]) (fun r=>N r.code) (fun r=>(Bz.mk x.b r.z').E) rT (by simp [gS,e1,e2,e3,e4]) hd x.wr (fun r=>Bz.wr _)
    (fun w h0 hw=>uI x aa vs R nd k f u fl hf hu0 hu1 (fun m hm=>by have:=hz m hm;omega) hz w hw (hT.keys x.wr h0)) kk
theorem JL.BH (k : x.ok aa vs R nd) (hf : f.length<1000000000000000) (hn : R.ms.length≤40000) (hT : dX S w0) (e1 : ev E x1=some (Pt x.b 0)) (e2 : ev E x2=some (Z f)) (hd : Nat.blt d n=true)
    (kk : ∀ r : AF x aa vs R nd f,JL Tryz.prog n w0 S ops Q l ((d,.tuple #[av r.q r.l.length,N r.code])::E) (af 3 r.q (aA r.l)++((Bz.mk x.b r.z').E++M))) : JL Tryz.prog n w0 S ops Q (⟨some d,.call ⟨.value (.func 16),#[x1,x2],ats⟩,ty,pos,aft,none⟩::l) E (x.E++M):=
  JL.bI (ι:=AF x aa vs R nd f) (xs:=[x1,x2]) (vs:=[Pt x.b 0,Z f]) (fun r=>.tuple #[av r.q r.l.length,N r.code]) (fun r=>af 3 r.q (aA r.l)++(Bz.mk x.b r.z').E) uJ (by simp [gS,e1,e2]) hd x.wr
    (fun r e he=>(List.mem_append.1 he).elim (aM _ _ _ e) (Bz.wr _ e)) (fun w h0 hw=>xj x aa vs R nd k f hf hn w hw (hT.keys x.wr h0)) fun r=>by rw [List.append_assoc];exact kk r
end
abbrev BI (x : Dp) (bl : List Bk) (ls : List Pq):={b : Bz // b.z.ok (bu bl).2.2 (cu [] ls)∧b.z.h=iR x bl∧b.z.bl=iQ bl}
theorem mE : aI Tryz.prog 19:=⟨_,Tryz.func19,rfl,by kernel_rfl⟩
set_option maxHeartbeats 4000000 in
theorem ov (x : Dp) (bl : List Bk) (ls : List Pq) (hd : br x bl []) (hno : bR bl=0) (ho : aN (bu bl).2.2=some ls) (w : World) (h0 : Holds w (keys (bT x bl [])) (bT x bl []) w) :
    Calls Tryz.prog 19 [Pt x.p 0].toArray w fun e w'=>∃ y : BI x bl ls,e=.returned (Pt y.1.b 0)∧Holds w (keys (bT x bl [])) y.1.E w':=by
  generalize keys (bT x bl [])=S at h0 ⊢
  refine enter (n:=18) Tryz.func19 rfl rfl rfl h0 ?_
  repeat (first | refine JL.q (by first|(apply OQ.move;rfl)|(apply OQ.assign;rfl)) rfl ?_ | refine JC.seq ?_ | refine JC.region ?_ | refine JL.nil ?_ | refine JE.next ?_)
  refine JL.perm (M':=bT x bl []++[]) ?_ (by rw [List.append_nil])
  refine JL.BC hd hno ho rfl rfl fun z=>?_
  obtain ⟨z,k,hh,hbl⟩:=z
  dsimp only
  rw [List.append_nil]
  repeat (first | refine JL.q (by first|(apply OQ.extract;rfl;rfl)|(apply OQ.jw (a:=0) (b:=0) (c:=true);rfl;rfl;rfl)|(apply OQ.nP;exact Tryz.underlying63;rfl;rfl)|(apply OQ.aW;rfl;rfl)|(apply OQ.move;rfl)|(apply OQ.assign;rfl)) rfl ?_ | refine JC.seq ?_ | refine JC.region ?_ | refine JL.nil ?_ | refine JE.next ?_ | refine JL.aD rfl rfl ?_)
  refine JC.cond_false rfl rfl ?_
  repeat (first | refine JL.q (by (apply OQ.move;rfl)) rfl ?_ | refine JC.seq ?_ | refine JC.region ?_ | refine JC.skip ?_ | refine JE.next ?_)
  refine JL.bq (ι:=Nat) (vs:=[Pt z.p 0]) (fun b=>Pt b 0) (fun b=>[⟨b,Row 65 [Pt z.p 0],true⟩]) uE rfl rfl (fun b e he=>by rw [List.mem_singleton] at he;subst he;rfl) (fun w' _=>wX z.p w') fun b=>?_
  repeat (first | refine JL.q (by (apply OQ.assign;rfl)) rfl ?_ | refine JL.nil ?_ | refine JE.next ?_)
  refine JC.ret (JE.aP rfl (RV.tmp rfl) fun w' hw=>⟨⟨⟨b,z⟩,k,hh,hbl⟩,rfl,hw.perm' ?_⟩)
  exact List.perm_append_comm (l₁:=[_])
theorem j6 : aI Tryz.prog 7:=⟨_,Tryz.func7,rfl,by kernel_rfl⟩
structure AG (size : Nat) where
  x : Dp
  b : Bz
  dk : br x (c6 size) []
  ok : b.ok (bu (c6 size)).2.2 [] Rb.zero 0
  h : b.z.h=iR x (c6 size)
  bl : b.z.bl=iQ (c6 size)
set_option maxHeartbeats 4000000 in
theorem mq (size : Nat) (h4 : 4≤size) (h6 : size≤65536) (w : World) :
    Calls Tryz.prog 7 [N size].toArray w fun e w'=>∃ y : AG size,e=.returned (.tuple #[Pt y.x.p 0,Pt y.b.b 0])∧Holds w [] y.b.E w':=by
  refine enter (n:=20) Tryz.func7 rfl rfl rfl (Holds.start w []) ?_
  repeat (first | refine JL.q (by first|(apply OQ.move;rfl)|(apply OQ.assign;rfl)) rfl ?_ | refine JC.seq ?_ | refine JC.region ?_ | refine JL.nil ?_ | refine JE.next ?_)
  refine JL.BZ (k:=size) (by omega) h6 rfl rfl fun x hx=>?_
  repeat (first | refine JL.q (by first|(apply OQ.extract;rfl;rfl)|(apply OQ.jw (a:=0) (b:=0) (c:=true);rfl;rfl;rfl)|(apply OQ.nP;exact Tryz.underlying27;rfl;rfl)|(apply OQ.aW;rfl;rfl)|(apply OQ.move;rfl)|(apply OQ.assign;rfl)) rfl ?_ | refine JC.seq ?_ | refine JC.region ?_ | refine JL.nil ?_ | refine JE.next ?_ | refine JL.aD rfl rfl ?_)
  refine JC.cond_false rfl rfl ?_
  repeat (first | refine JL.q (by (apply OQ.move;rfl)) rfl ?_ | refine JC.seq ?_ | refine JC.region ?_ | refine JC.skip ?_ | refine JE.next ?_)
  refine JL.bI (ι:=BI x (c6 size) []) (xs:=[.tmp 18]) (vs:=[Pt x.p 0]) (X:=bT x (c6 size) []) (M0:=[]) (fun y=>Pt y.1.b 0) (fun y=>y.1.E) mE rfl rfl (bW _ _ _) (fun y=>Bz.wr _) (fun w' _ hw=>ov x (c6 size) [] hx (ya h4) (wS size) w' hw) fun y=>?_
  obtain ⟨y,h1,h2,h3⟩:=y
  dsimp only
  rw [List.append_nil]
  repeat (first | refine JL.q (by (apply OQ.assign;rfl)) rfl ?_ | refine JL.nil ?_ | refine JE.next ?_)
  exact JC.ret (JE.cg rfl (RV.tmp rfl) (RV.tmp rfl) fun w' hw=>⟨⟨x,y,hx,⟨h1,yz,yy⟩,h2,h3⟩,rfl,hw⟩)
end
section
set_option maxRecDepth 10000
open Sl dc dz gh Bx
theorem Step.fit {z z' : Sz} {aa aT : List Bk} {vs vs' : VL} {ps : List Pq} {code : Nat} (st : Step z aa vs ps code z' aT vs') (k : z.ok aa vs) (hok : fu ps=true) {B H g : Nat} (hB : je (cu vs ps)≤B) (hH : nb B≤H) (hsz : z.h.size=H) (hg : z.h.g.toNat≤g) (hg2 : g<4294967295) :
    code=0∧vs'=cu vs ps∧z'.h.size=H∧z'.h.g.toNat≤g+1∧z'.h.x.p=z.h.x.p:=by
  have hb : (bD vs ps).length=je (cu vs ps):=by
    unfold bD
    rw [oh,nC]
  have h1:=st.zero k hok (by rw [hb,hsz];unfold nb at hH ⊢;omega) (by omega)
  have h2:=st.keep k (by omega)
  exact ⟨h1.1,h1.2,h2.1.trans hsz,by omega,h2.2.1⟩
theorem mF : aI Tryz.prog 6:=⟨_,Tryz.func6,rfl,by kernel_rfl⟩
def ee : Bk:=[105#8,110#8]
theorem ow : okF ee=true:=by decide
theorem sZ {R : Rb} {n : Nat} (k : R.ok n) {f : Bk} (hf : okF f=true) (b : Bk) : fu (eX R f b)=true∧gL (eX R f b)≤118+b.length:=by
  have h1:=R.gK k f
  have h2:=k.le
  have h3:=fH hf (u:=R.next f) (by omega)
  have h4 : (cI f).length=f.length+2:=by unfold cI;simp
  have h5:=n9 hf
  have h6 : (nV (R.next f+1)).length=8:=dB _ _
  refine ⟨?_,?_⟩
  · unfold fu jk eX
    simp only [List.all_cons,List.all_nil,Bool.and_true,Bool.false_and,Bool.not_false,Bool.and_eq_true,decide_eq_true_eq,h4]
    omega
  · unfold gL rD eX
    simp only [List.map_cons,List.map_nil,List.sum_cons,List.sum_nil,List.length_cons,h4,h6]
    omega
theorem xk {R : Rb} {n : Nat} (k : R.ok n) {f : Bk} {u fl : Int} {m : Ml} (hm : R.find f u=some m) : fu [cX f u fl m.b]=true∧gL [cX f u fl m.b]≤61+m.b.length:=by
  obtain ⟨h1,h2,h3⟩:=bZ hm
  have h4:=fH (k.fold m h1) (k.ki h1)
  rw [h2,h3] at h4
  refine ⟨?_,?_⟩
  · unfold fu jk cX
    simp only [List.all_cons,List.all_nil,Bool.and_true,Bool.false_and,Bool.not_false,Bool.and_eq_true,decide_eq_true_eq]
    omega
  · unfold gL rD cX
    simp only [List.map_cons,List.map_nil,List.sum_cons,List.sum_nil,List.length_cons]
    omega
theorem yU {R : Rb} {n : Nat} (k : R.ok n) (f : Bk) : fu (gA R f)=true∧∀ vs,je (cu vs (gA R f))≤je vs:=by
  refine ⟨List.all_eq_true.2 fun p hp=>?_,fun vs=>?_⟩
  · unfold gA at hp
    obtain ⟨m,hm,rfl⟩:=List.mem_map.1 hp
    have hm:=List.mem_filter.1 hm
    have hmf : m.f=f:=by have:=hm.2;unfold goes at this;simp only [Bool.and_eq_true,decide_eq_true_eq] at this;exact this.1
    have h1:=fH (k.fold m hm.1) (k.ki hm.1)
    rw [hmf] at h1
    unfold jk
    simp only [List.length_nil,Nat.lt_irrefl,decide_false,Bool.and_false,Bool.not_false,Bool.and_true,Bool.and_eq_true,decide_eq_true_eq]
    omega
  · unfold gA
    generalize R.ms.filter (goes f)=l
    induction l generalizing vs with
    | nil=>exact Nat.le_refl _
    | cons m l ih=>exact Nat.le_trans (ih (jE (aR f (m.u : Int)) vs)) (od _ _)
set_option maxHeartbeats 16000000 in
theorem ox (w : World) (hT : er w) : Calls Tryz.prog 6 [].toArray w fun e w'=>e=.returned (.bool true)∧Ext w w':=by
  refine enter (n:=62) Tryz.func6 rfl rfl rfl (Holds.start w []) ?_
  have hTA : dX [] w:=⟨hT,by simp⟩
  repeat (first | refine JL.q (by (apply OQ.assign;rfl)) rfl ?_ | refine JC.seq ?_ | refine JC.region ?_ | refine JL.nil ?_ | refine JE.next ?_)
  refine JL.bq (ι:=AG 40) (vs:=[N 40]) (fun y=>.tuple #[Pt y.x.p 0,Pt y.b.b 0]) (fun y=>y.b.E) j6 rfl rfl (fun y=>Bz.wr _) (fun w' _=>mq 40 (by decide) (by decide) w') fun y=>?_
  obtain ⟨dx,x,dk,k,hh,hbl⟩:=y
  have hsz : x.z.h.size=20:=by rw [hh];rfl
  have hg : x.z.h.g.toNat≤5:=by
    rw [hh]
    show (gm (c6 40)+1#32).toNat≤5
    rw [BitVec.toNat_add,(lJ 40).2]
    decide
  dsimp only
  rw [List.append_nil]
  repeat (first | refine JL.q (by first|(apply OQ.extract;rfl;rfl)|(apply OQ.nP;exact Tryz.underlying28;rfl;rfl)|(apply OQ.move;rfl)|(apply OQ.assign;rfl)) rfl ?_ | refine JC.seq ?_ | refine JC.region ?_ | refine JL.nil ?_ | refine JE.next ?_)
  refine JC.cond_false rfl rfl ?_
  repeat (first | refine JL.q (by (apply OQ.move;rfl)) rfl ?_ | refine JC.seq ?_ | refine JC.region ?_ | refine JC.skip ?_ | refine JE.next ?_)
  refine JL.j7 (v:=U8 97) Tryz.underlying24 qw rfl rfl rfl rfl fun bl _=>?_
  refine JL.mark (r:=[U8 97]) (te:=5) Tryz.underlying24 Tryz.underlying5 rfl .here rfl ?_
  refine JL.perm (M':=x.E++[⟨bl,zG 5 [U8 97],true⟩]) ?_ (by exact List.perm_append_comm (l₁:=[_]))
  refine JL.mo (f:=ee) (s:=⟨some ⟨bl,0,none⟩,1,[97#8]⟩) k (by decide) (by decide) (by show 1≤2000000;decide) hTA (fun w' hw'=>⟨?_,?_⟩) rfl rfl rfl rfl fun r=>?_
  · obtain ⟨o,ho,hA⟩:=hw'.get (aZ (N:=x.E) (.here (b:=bl)))
    exact ⟨Nat.le_refl _,Reads.block ho (zG.all o hA)⟩
  · intro _ a ea
    cases ea
    exact ct (b:=bl) hw' .here
  obtain ⟨c1,u1,z1,recs1,vs1,R1,n1,k1,p1,o1⟩:=r
  dsimp only at k1 p1 o1 ⊢
  have hd1:=sZ k.r ow [97#8]
  obtain ⟨st1,o1⟩:=(o1.resolve_left fun h=>by rw [ow] at h;exact absurd h.1 (by decide)).2
  have hv1 : je (cu [] (eX Rb.zero ee [97#8]))≤200:=by
    have:=iw (eX Rb.zero ee [97#8]) []
    have h0 : je ([] : VL)=0:=rfl
    have h2 : ([97#8] : Bk).length=1:=rfl
    omega
  have f1:=st1.fit k.z hd1.1 (B:=200) (H:=20) (g:=5) hv1 (by decide) hsz hg (by decide)
  obtain ⟨rfl,rfl,rfl,rfl⟩:=o1.resolve_right fun h=>by have:=h.1;omega
  obtain ⟨_,rfl,sz1,g1,_⟩:=f1
  repeat (first | refine JL.q (by first|(apply OQ.extract;rfl;rfl)|(apply OQ.move;rfl)|(apply OQ.assign;rfl)) rfl ?_ | refine JC.seq ?_ | refine JC.region ?_ | refine JL.nil ?_ | refine JE.next ?_)
  refine JL.zA (f:=ee) (u:=1) (fl:=4) k1 (by decide) (by decide) (by decide) (fun m hm=>?_) hTA rfl rfl rfl rfl rfl fun r=>?_
  · have h : m=⟨ee,1,0,[97#8]⟩:=by simpa [Rb.aO,Rb.zero,Rb.next,Rb.next?] using hm
    rw [h]
    show 1≤2000000
    decide
  have hfi : (Rb.zero.aO ee [97#8]).find ee 1=some ⟨ee,1,0,[97#8]⟩:=by rfl
  obtain ⟨c2,z2,recs2,vs2,R2,k2,p2,o2⟩:=r
  dsimp only at k2 p2 o2 ⊢
  have o2:=(o2.resolve_left fun h=>absurd h.1 (by decide)).resolve_left fun h=>by rw [hfi] at h;cases h.2.1
  obtain ⟨_,m2,hm2,st2,o2⟩:=o2
  rw [hfi,Option.some.injEq] at hm2
  subst hm2
  have hd2:=xk (fl:=4) k1.r hfi
  have hv2 : je (cu (cu [] (eX Rb.zero ee [97#8])) [cX ee 1 4 [97#8]])≤300:=by
    have:=iw [cX ee 1 4 [97#8]] (cu [] (eX Rb.zero ee [97#8]))
    have h2 : ([97#8] : Bk).length=1:=rfl
    have h3:=hd2.2
    dsimp only at h3
    omega
  have f2:=st2.fit k1.z hd2.1 (B:=300) (H:=20) (g:=6) hv2 (by decide) sz1 g1 (by decide)
  obtain ⟨rfl,rfl⟩:=o2.resolve_right fun h=>by have:=h.1;omega
  obtain ⟨_,rfl,sz2,g2,_⟩:=f2
  repeat (first | refine JL.q (by first|(apply OQ.move;rfl)|(apply OQ.assign;rfl)) rfl ?_ | refine JC.seq ?_ | refine JC.region ?_ | refine JL.nil ?_ | refine JE.next ?_)
  refine JL.BH (f:=ee) k2 (by decide) (by show 1≤40000;decide) hTA rfl rfl rfl fun r=>?_
  have hex : xq ((Rb.zero.aO ee [97#8]).mark ee 1 (4 : Int).toNat) ee=[1]:=by rfl
  obtain ⟨c3,q3,l3,hq3,z3,recs3,vs3,R3,k3,p3,o3⟩:=r
  dsimp only at k3 p3 o3 ⊢
  obtain ⟨_,st3,o3⟩:=o3.resolve_left fun h=>by rw [hex] at h;cases h.1
  have hd3:=yU k2.r ee
  have hv3:=Nat.le_trans (hd3.2 (cu (cu [] (eX Rb.zero ee [97#8])) [cX ee 1 4 [97#8]])) hv2
  have f3:=st3.fit k2.z hd3.1 (B:=300) (H:=20) (g:=7) hv3 (by decide) sz2 g2 (by decide)
  obtain ⟨rfl,rfl,rfl⟩:=o3.resolve_right fun h=>by have:=h.1;omega
  obtain ⟨_,rfl,sz3,g3,_⟩:=f3
  rw [hex] at hq3 ⊢
  repeat (first | refine JL.q (by first|(apply OQ.extract;rfl;rfl)|(apply OQ.move;rfl)|(apply OQ.assign;rfl)) rfl ?_ | refine JC.seq ?_ | refine JC.region ?_ | refine JL.nil ?_ | refine JE.next ?_)
  refine JL.perm (M':=(Bz.mk x.b z3).E++(af 3 q3 (aA [1])++[⟨bl,zG 5 [U8 97],true⟩])) ?_ (by exact List.perm_append_comm_assoc _ _ _)
  refine JL.mo (f:=ee) (s:=bB) k3 (by decide) (by decide) (by show 0≤2000000;decide) hTA (fun w' hw'=>⟨fh w',fun _ a ea=>by cases ea⟩) rfl rfl rfl rfl fun r=>?_
  obtain ⟨c4,u4,z4,recs4,vs4,R4,n4,k4,p4,o4⟩:=r
  dsimp only at k4 p4 o4 ⊢
  obtain ⟨st4,o4⟩:=(o4.resolve_left fun h=>by rw [ow] at h;exact absurd h.1 (by decide)).2
  have hd4:=sZ k3.r ow bB.l
  have hv4 : je (cu (cu (cu (cu [] (eX Rb.zero ee [97#8])) [cX ee 1 4 [97#8]]) (gA ((Rb.zero.aO ee [97#8]).mark ee 1 (4 : Int).toNat) ee)) (eX (((Rb.zero.aO ee [97#8]).mark ee 1 (4 : Int).toNat).bS ee) ee bB.l))≤500:=by
    have:=iw (eX (((Rb.zero.aO ee [97#8]).mark ee 1 (4 : Int).toNat).bS ee) ee bB.l) (cu (cu (cu [] (eX Rb.zero ee [97#8])) [cX ee 1 4 [97#8]]) (gA ((Rb.zero.aO ee [97#8]).mark ee 1 (4 : Int).toNat) ee))
    have h2 : (bB.l : Bk).length=0:=rfl
    have h3:=hd4.2
    omega
  have f4:=st4.fit k3.z hd4.1 (B:=500) (H:=20) (g:=8) hv4 (by decide) sz3 g3 (by decide)
  obtain ⟨rfl,rfl,rfl,rfl⟩:=o4.resolve_right fun h=>by have:=h.1;omega
  have hu4 : (((Rb.zero.aO ee [97#8]).mark ee 1 (4 : Int).toNat).bS ee).next ee=2:=by rfl
  have hu1 : Rb.zero.next ee=1:=by rfl
  rw [hu4,hu1]
  repeat (first | refine JL.q (by first|(apply OQ.extract;rfl;rfl)|(apply OQ.kV (a:=1) (b:=1) (c:=true);rfl;rfl;rfl)|(apply OQ.kV (a:=2) (b:=2) (c:=true);rfl;rfl;rfl)|(apply OQ.kV (a:=0) (b:=0) (c:=true);rfl;rfl;rfl)|(apply OQ.bg;rfl;rfl)|(apply OQ.move;rfl)|(apply OQ.assign;rfl)) rfl ?_ | refine JC.seq ?_ | refine JC.region ?_ | refine JL.nil ?_ | refine JE.next ?_ | refine JL.aD rfl rfl ?_)
  try refine JL.aD rfl rfl ?_
  refine JL.j7 (v:=N 1) Tryz.underlying35 mh rfl rfl rfl rfl fun b2 _=>?_
  have hsi : ∀ (w' : World),(fI q3 [1]).ok w'→s7.ok w' ⟨some ⟨b2,0,none⟩,1,[1]⟩→Calls Tryz.prog 18 [(fI q3 [1]).v,s7.v ⟨some ⟨b2,0,none⟩,1,[1]⟩].toArray w' fun e w2=>e=.returned (.bool true)∧Ext w' w2:=fun w' h1 h2=>by
    have:=sY (fI q3 [1]) ⟨some ⟨b2,0,none⟩,1,[1]⟩ w' h1 h2 (by rw [jO hq3];decide) (by show 1<9223372036854775808;decide)
    rw [jO hq3] at this
    exact this
  have hvv : (fI q3 [1]).v=av q3 1:=rU hq3
  have hvs : av q3 ([1] : List Nat).length=(fI q3 [1]).v:=hvv.symm
  rw [hvs]
  repeat (first | refine JL.q (by first|(apply OQ.aB (vs:=[(fI q3 [1]).v,s7.v ⟨some ⟨b2,0,none⟩,1,[1]⟩]);exact qc;rfl;exact (fun w' hw'=>hsi w' (ou (hw'.weak (M':=af 3 q3 (aA [1])++[⟨bl,zG 5 [U8 97],true⟩]) (.drop _ _ _ (bE _ _)))) (by obtain ⟨o,ho,hA⟩:=hw'.get (.here (b:=b2));exact ⟨Nat.le_refl _,Reads.block ho (Row.all o hA)⟩)))|(apply OQ.bg;rfl;rfl)|(apply OQ.assign;rfl)) rfl ?_ | refine JL.nil ?_ | refine JE.next ?_ | refine JL.aD rfl rfl ?_)
  exact JC.ret (JE.aP rfl (RV.tmp rfl) fun w' hw=>⟨rfl,hw.aS⟩)
end
section
set_option maxRecDepth 10000
open Sl dc dz gh Bx
structure fK where
  what : Int
  u : Int
  fl : Int
  f : Bk
  s : az
def fK.cs (c : fK) : List Value:=[fG c.what,fG c.u,fG c.fl,Z c.f,c.s.v]
def fK.ok (w : World) (c : fK) : Prop:=(-9223372036854775808≤c.u∧c.u≤9223372036854775807)∧c.f.length<9223372036854775808∧c.s.ok w
structure s4 where
  ad : Option Addr
  cap : Nat
  l : List fK
def s4.v (s : s4) : Value:=.slice s.ad s.l.length s.cap
structure s4.ok (w : World) (s : s4) : Prop where
  len : s.l.length≤s.cap
  reads : Reads w s.ad (s.l.map fK.cs).flatten
  all : ∀ c ∈ s.l,c.ok w
def jg : fK:=⟨0,0,0,[],bB⟩
theorem s4.css (s : s4) : ∀ c ∈ s.l.map fK.cs,c.length=5:=by
  intro c hc
  obtain ⟨d,_,rfl⟩:=List.mem_map.1 hc
  rfl
theorem s4.ok.at {w : World} {s : s4} (h : s.ok w) {i : Nat} (hi : i<s.l.length) : ∃ b j,s.ad=some ⟨b,j,none⟩∧b<w.heap.size∧∀ k u,((s.l.getD i jg).cs)[k]?=some u→w.cell? ⟨b,j+i * 5+k,none⟩=some u:=by
  have hl:=bH s.css
  rw [List.length_map] at hl
  have h0 : 0<(s.l.map fK.cs).flatten.length:=by omega
  obtain ⟨b,j,e,hc⟩:=h.reads.at h0
  refine ⟨b,j,e,?_,fun k u hu=>?_⟩
  · obtain ⟨v,hv⟩ : ∃ v,(s.l.map fK.cs).flatten[0]?=some v:=⟨_,List.getElem?_eq_getElem h0⟩
    exact block_lt_of_cell (hc 0 v hv)
  · have hat:=iK (i:=i) s.css (by rw [List.length_map];exact hi)
    have e2 : (s.l.map fK.cs).getD i []=(s.l.getD i jg).cs:=by simp [hi]
    rw [e2] at hat
    rw [← hat,List.getElem?_take] at hu
    split at hu
    · rw [List.getElem?_drop] at hu
      rw [Nat.add_assoc]
      exact hc _ u hu
    · cases hu
theorem s4.mem {s : s4} {i : Nat} (hi : i<s.l.length) : s.l.getD i jg ∈ s.l:=by
  rw [List.getD_eq_getElem?_getD,List.getElem?_eq_getElem hi]
  exact List.getElem_mem hi
theorem Cc : jm Tryz.prog 26=true:=by kernel_rfl
theorem Cd : dH Tryz.prog 26=some 5:=by kernel_rfl
theorem CO : zc Tryz.prog 26=some [fG 0,fG 0,fG 0,Z [],.slice none 0 0]:=by kernel_rfl
end
section
set_option maxRecDepth 10000
open Sl dc dz gh Bx
theorem uK {R : Rb} {n : Nat} (k : R.ok n) {f : Bk} {u : Nat} (h : u ∈ R.list f) : ∃ m,R.find f (u : Int)=some m:=by
  obtain ⟨m,hm,rfl⟩:=List.mem_map.1 h
  obtain ⟨h1,h2⟩:=List.mem_filter.1 hm
  rw [decide_eq_true_eq] at h2
  exact ⟨m,h2 ▸ sW k h1⟩
structure Gs where
  i : Nat
  x : Bz
  aa : List Bk
  vs : VL
  R : Rb
structure Fs where
  i : Nat
  x : Bz
  aa : List Bk
  vs : VL
  R : Rb
  nd : Nat
  last : Nat
structure Fs.ok (b0 len : Nat) (s : Fs) : Prop where
  i : s.i≤len
  b : s.x.b=b0
  k : s.x.ok s.aa s.vs s.R s.nd
  nd : s.nd≤s.i
  ms : s.R.ms.length≤s.i
  bl : ∀ m ∈ s.R.ms,m.b.length≤300
  last : s.last<s.R.next ee
end
section
namespace Bx
open gh dz dc
structure Alike (R R2 : Rb) (g : Bk) : Prop where
  next : R2.next g=R.next g
  list : R2.list g=R.list g
  find : ∀ u,R2.find g u=R.find g u
theorem Alike.refl (R : Rb) (g : Bk) : Alike R R g:=⟨rfl,rfl,fun _=>rfl⟩
theorem mG {R : Rb} {n : Nat} (k : R.ok n) {f g : Bk} (h : f≠g) (b : Bk) : Alike R (R.aO f b) g:=by
  refine ⟨?_,?_,fun u=>?_⟩
  · unfold Rb.next
    rw [fF,if_neg (Ne.symm h)]
  · unfold Rb.list Rb.aO
    dsimp only
    rw [List.filter_append,List.filter_cons_of_neg (by simpa using h),List.filter_nil,List.append_nil]
  · rw [jd k,if_neg fun e=>h e.1.symm]
theorem rV (R : Rb) {f g : Bk} (h : f≠g) (u : Int) (fl : Nat) : Alike R (R.mark f u fl) g:=by
  refine ⟨rfl,?_,fun v=>?_⟩
  · unfold Rb.list Rb.mark
    dsimp only
    rw [List.filter_map,List.map_map]
    have e1 : (fun m : Ml=>decide (m.f=g)) ∘ jM f u fl=fun m=>decide (m.f=g):=by funext m;simp only [Function.comp,(cn f u fl m).1]
    have e2 : Ml.u ∘ jM f u fl=Ml.u:=by funext m;simp only [Function.comp,(cn f u fl m).2.1]
    rw [e1,e2]
  · rw [ny,if_neg fun e=>h e.1.symm]
theorem mH {R : Rb} {n : Nat} (k : R.ok n) {f g : Bk} (h : f≠g) : Alike R (R.bS f) g:=by
  have hg : ∀ m : Ml,m.f=g→goes f m=false:=fun m e=>by
    unfold goes
    rw [decide_eq_false fun e2=>h (e2.symm.trans e),Bool.false_and]
  refine ⟨rfl,?_,fun u=>?_⟩
  · unfold Rb.list Rb.bS
    dsimp only
    rw [List.filter_filter]
    congr 1
    apply List.filter_congr
    intro m _
    by_cases e : m.f=g
    · rw [decide_eq_true e,hg m e];rfl
    · rw [decide_eq_false e,Bool.false_and]
  · rw [pW k]
    cases hf : R.find g u with
    | none=>rfl
    | some m=>
      have:=(bZ hf).2.1
      simp [Option.filter,hg m this]
end Bx
end
section
set_option maxRecDepth 10000
open Sl dc dz gh Bx
abbrev Mr:=(Nat × Nat) × Ml
def Mr.cs (p : Mr) : List Value:=eW p.2.u p.2.fl (mj p.1 p.2.b)
def Mr.E (p : Mr) : List aj:=af 5 (some p.1) (p.2.v.map U8)
structure Ma where
  q : Nat × Nat
  rs : List Mr
def Ma.v (z : Ma) : Value:=av (some z.q) z.rs.length
def Ma.E (z : Ma) : List aj:=cD 46 3 (some z.q) (z.rs.map Mr.cs)++z.rs.flatMap Mr.E
theorem Ma.wr (z : Ma) : ∀ e ∈ z.E,e.wr=true:=by
  intro e he
  rcases List.mem_append.1 he with he | he
  · exact kq _ _ _ _ e he
  · obtain ⟨p,_,he⟩:=List.mem_flatMap.1 he
    exact aM 5 (some p.1) (p.2.v.map U8) e he
theorem BJ {w0 w : World} {S : List Nat} {M : List aj} {p : Mr} (hM : ak p.E M) (hw : Holds w0 S M w) : (mj p.1 p.2.b).ok w:=
  rQ (c:=BitVec.ofNat 8 p.2.fl) (M:=[]) (hw.weak (by rw [List.append_nil];exact hM))
theorem AH (rs : List Mr) : ∀ c ∈ rs.map Mr.cs,c.length=3:=by
  intro c hc
  obtain ⟨p,_,rfl⟩:=List.mem_map.1 hc
  rfl
theorem BK {rs : List Mr} {i : Nat} {p : Mr} (h : rs[i]?=some p) : (rs.map Mr.cs).getD i []=p.cs:=by
  rw [List.getD_eq_getElem?_getD,List.getElem?_map,h]
  rfl
theorem Ce : EI Tryz.prog 46 (.agg #[.int .i64 0,.int .i64 0,.slice none 0 0]) 3 40:=by unfold EI;kernel_rfl
theorem AI (p : Mr) : ∀ v ∈ p.cs,v.oneCell'=true:=fun v hv=>List.all_eq_true.1 (CL p.2.u p.2.fl (mj p.1 p.2.b)) v hv
end
section
set_option maxRecDepth 10000
open Sl dc dz gh Bx
theorem nK : dY Tryz.prog 9=true:=by kernel_rfl
theorem CP (a b : aj) (F X C Z R : List aj) : (a::b::(F++(X++((C++Z)++R)))).Perm (a::(C++(Z++(F++(X++(b::R)))))):=by
  refine .cons a ?_
  have h1 : (b::(F++(X++((C++Z)++R)))).Perm (((F++X)++(C++Z))++(b::R)):=by
    have e : F++(X++((C++Z)++R))=((F++X)++(C++Z))++R:=by simp
    rw [e]
    exact List.perm_middle.symm
  have h2 : (((F++X)++(C++Z))++(b::R)).Perm (((C++Z)++(F++X))++(b::R)):=List.perm_append_comm.append_right _
  have e2 : ((C++Z)++(F++X))++(b::R)=C++(Z++(F++(X++(b::R)))):=by simp
  exact e2 ▸ h1.trans h2
theorem CQ (C Z F X R : List aj) : (C++(Z++(F++(X++R)))).Perm (X++((C++(Z++F))++R)):=by
  have e : C++(Z++(F++(X++R)))=((C++(Z++F))++X)++R:=by simp
  have e2 : X++((C++(Z++F))++R)=(X++(C++(Z++F)))++R:=by simp
  rw [e,e2]
  exact List.perm_append_comm.append_right _
theorem qd {p : Mr} (X : List aj) : ∀ {rs : List Mr},p ∈ rs→ak p.E (rs.flatMap Mr.E++X)
  | [],h=>by cases h
  | a::rs,h=>by
    rw [List.flatMap_cons,List.append_assoc]
    rcases List.mem_cons.1 h with rfl | h
    · exact an _ _
    · exact ay _ (qd X h)
structure Ap where
  i : Nat
  x : Bz
  aa : List Bk
  vs : VL
  R : Rb
  nd : Nat
structure Ap.ok (b0 len : Nat) (s : Ap) : Prop where
  i : s.i≤len
  b : s.x.b=b0
  k : s.x.ok s.aa s.vs s.R s.nd
  nd : s.nd≤s.i
  ms : s.R.ms.length≤s.i
  bl : ∀ m ∈ s.R.ms,m.b.length≤100
structure CA where
  z : Ma
  j : Nat
set_option maxHeartbeats 64000000 in
theorem oy (calls : s4) (f : Bk) (w : World) (hs : calls.ok w) (hf : f.length<1000000000000000) (hT : er w) : Calls Tryz.prog 5 [calls.v,Z f].toArray w fun e w'=>e=.returned (.bool true)∧Ext w w':=by
  refine enter (n:=148) Tryz.func5 rfl rfl rfl (Holds.start w []) ?_
  have hTA : dX [] w:=⟨hT,by simp⟩
  have hsp:=fun (w' : World) (h : Holds w [] [] w')=>ox w' (hT.aS (by simp) h.aS)
  repeat (first | refine JL.q (by first|(apply OQ.aB (vs:=[]);exact mF;rfl;exact hsp)|(apply OQ.not;rfl)|(apply OQ.assign;rfl)) rfl ?_ | refine JC.seq ?_ | refine JC.region ?_ | refine JL.nil ?_ | refine JE.next ?_)
  refine JC.cond_false rfl rfl ?_
  obtain ⟨g3,hg3⟩ : ∃ g3,decide ((60 : Int)<(calls.l.length : Int))=g3:=⟨_,rfl⟩
  cases g3
  case true=>
    repeat (first | refine JL.q (by first|(apply OQ.len (k:=calls.l.length) (ad:=calls.ad) (cap:=calls.cap);exact Tryz.underlying22;rfl)|(apply OQ.cz (b:=60);rfl;rfl;exact hg3)|(apply OQ.move;rfl)) rfl ?_ | refine JC.seq ?_ | refine JC.region ?_ | refine JC.skip ?_ | refine JL.nil ?_ | refine JE.next ?_)
    refine JC.cond_true rfl rfl ?_
    repeat (first | refine JL.q (by (apply OQ.assign;rfl)) rfl ?_ | refine JC.seq ?_ | refine JC.region ?_ | refine JL.nil ?_ | refine JE.next ?_)
    refine JC.ret ?_
    repeat (refine JE.ax ?_)
    exact JE.aP rfl (RV.tmp rfl) fun w' hw=>⟨rfl,hw.aS⟩
  have h60 : calls.l.length≤60:=by have:=of_decide_eq_false hg3;omega
  repeat (first | refine JL.q (by first|(apply OQ.len (k:=calls.l.length) (ad:=calls.ad) (cap:=calls.cap);exact Tryz.underlying22;rfl)|(apply OQ.cz (b:=60);rfl;rfl;exact hg3)|(apply OQ.move;rfl)) rfl ?_ | refine JC.seq ?_ | refine JC.region ?_ | refine JC.skip ?_ | refine JL.nil ?_ | refine JE.next ?_)
  refine JC.cond_false rfl rfl ?_
  repeat (first | refine JC.seq ?_ | refine JC.region ?_ | refine JC.skip ?_ | refine JE.next ?_)
  refine JL.bq (ι:=AG 4000) (vs:=[N 4000]) (fun y=>.tuple #[Pt y.x.p 0,Pt y.b.b 0]) (fun y=>y.b.E) j6 rfl rfl (fun y=>Bz.wr _) (fun w' _=>mq 4000 (by decide) (by decide) w') fun y=>?_
  obtain ⟨dx,x0,dk,k0,hh,hbl⟩:=y
  dsimp only
  rw [List.append_nil]
  repeat (first | refine JL.q (by first|(apply OQ.extract;rfl;rfl)|(apply OQ.nP;exact Tryz.underlying28;rfl;rfl)|(apply OQ.move;rfl)|(apply OQ.assign;rfl)) rfl ?_ | refine JC.seq ?_ | refine JC.region ?_ | refine JL.nil ?_ | refine JE.next ?_)
  refine JC.cond_false rfl rfl ?_
  repeat (first | refine JL.q (by first|(apply OQ.len (k:=calls.l.length) (ad:=calls.ad) (cap:=calls.cap);exact Tryz.underlying22;rfl)|(apply OQ.move;rfl)) rfl ?_ | refine JC.seq ?_ | refine JC.region ?_ | refine JC.block ?_ | refine JC.skip ?_ | refine JL.nil ?_ | refine JE.next ?_)
  obtain ⟨b0,hb0⟩ : ∃ b0,x0.b=b0:=⟨_,rfl⟩
  rw [hb0]
  refine JC.loop (fun s : Ap=>[(1,Z f),(6,Pt b0 0),(31,calls.v),(32,N calls.l.length),(33,N s.i)]) (fun s=>s.x.E) (fun s=>calls.l.length - s.i) (Ap.ok b0 calls.l.length) ⟨0,x0,_,[],Rb.zero,0⟩ ⟨Nat.zero_le _,hb0,k0,Nat.le_refl _,Nat.le_refl _,by simp [Rb.zero]⟩ (by repeat (first | exact ah.nil | refine ah.cons _ _ _ rfl ?_)) (ak.refl _) ?_
  rintro ⟨i,x,aa,vs,R,nd⟩ ⟨hi,hb,k,hnd,hms,hbl2⟩
  dsimp only at hi hb k hnd hms hbl2 ⊢
  subst hb
  repeat (first | refine JL.q (by (apply OQ.fc;rfl;rfl)) rfl ?_ | refine JC.seq ?_ | refine JC.region ?_ | refine JL.nil ?_ | refine JE.next ?_)
  refine JC.cond rfl (fun h=>?_) (fun h=>?_)
  rotate_left
  · repeat (first | refine JL.q (by (apply OQ.assign;rfl)) rfl ?_ | refine JC.seq ?_ | refine JC.region ?_ | refine JC.exit ?_ | refine JL.nil ?_ | refine JE.next ?_ | refine JE.aH ?_ | refine JE.aX ?_)
    exact JC.ret (JE.aP rfl (RV.tmp rfl) fun w' hw=>⟨rfl,hw.aS⟩)
  have hi' : i<calls.l.length:=by have:=of_decide_eq_true h;omega
  clear h
  obtain ⟨b,j,e,lb,hcell⟩:=hs.at hi'
  obtain ⟨hcu,hcf,hcs⟩:=hs.all _ (s4.mem hi')
  generalize calls.l.getD i jg=c at hcell hcu hcf hcs
  have hsv : calls.v=.slice (some ⟨b,j,none⟩) calls.l.length calls.cap:=by rw [← e];rfl
  rw [hsv]
  repeat (first | refine JL.q (by first|(apply OQ.mz (i:=i);exact Tryz.underlying22;exact Cd;rfl;rfl;exact hi')|(apply OQ.e7 (cs:=c.cs);exact Cc;rfl;exact Cd;exact lb;exact (by simp);exact hcell)) rfl ?_ | refine JC.seq ?_ | refine JC.region ?_ | refine JC.block ?_ | refine JC.skip ?_ | refine JE.next ?_)
  refine JL.alloc CO rfl fun b8 _=>?_
  refine JL.ai (cs:=c.cs) Cd rfl rfl rfl (by rfl) .here rfl ?_
  rw [← hsv]
  have hc4 : ∀ o,Row 26 c.cs o→cellAt o 4=some c.s.v:=Row.cell rfl
  have hc3 : ∀ o,Row 26 c.cs o→cellAt o 3=some (Z c.f):=Row.cell rfl
  have hc2 : ∀ o,Row 26 c.cs o→cellAt o 2=some (fG c.fl):=Row.cell rfl
  have hc1 : ∀ o,Row 26 c.cs o→cellAt o 1=some (fG c.u):=Row.cell rfl
  have hc0 : ∀ o,Row 26 c.cs o→cellAt o 0=some (fG c.what):=Row.cell rfl
  obtain ⟨g4,hg4⟩ : ∃ g4,decide ((100 : Int)<(c.s.l.length : Int))=g4:=⟨_,rfl⟩
  obtain ⟨g5,hg5⟩ : ∃ g5,decide ((100 : Int)<(c.f.length : Int))=g5:=⟨_,rfl⟩
  cases g4
  case true=>
    repeat (first | refine JL.q (by first|(apply OQ.load;exact rN;rfl;exact .here;exact hc4)|(apply OQ.len (k:=c.s.l.length) (ad:=c.s.ad) (cap:=c.s.cap);exact Tryz.underlying24;rfl)|(apply OQ.cz (b:=100);rfl;rfl;exact hg4)|(apply OQ.bg;rfl;rfl)|(apply OQ.move;rfl)|(apply OQ.bA;rfl;rfl;rfl;exact (by decide);rfl)) rfl ?_ | refine JC.seq ?_ | refine JC.region ?_ | refine JL.nil ?_ | refine JE.next ?_ | refine JL.bO rfl rfl rfl rfl ?_)
    refine JC.cond_true rfl rfl ?_
    repeat (first | refine JL.q (by (apply OQ.assign;rfl)) rfl ?_ | refine JC.seq ?_ | refine JC.region ?_ | refine JL.nil ?_ | refine JE.next ?_)
    refine JC.ret ?_
    repeat (first | refine JE.ax ?_ | refine JE.cy ?_)
    exact JE.aP rfl (RV.tmp rfl) fun w' hw=>⟨rfl,hw.aS⟩
  cases g5
  case true=>
    repeat (first | refine JL.q (by first|(apply OQ.load;exact rN;rfl;exact .here;exact hc4)|(apply OQ.len (k:=c.s.l.length) (ad:=c.s.ad) (cap:=c.s.cap);exact Tryz.underlying24;rfl)|(apply OQ.cz (b:=100);rfl;rfl;exact hg4)|(apply OQ.load;exact nK;rfl;exact .here;exact hc3)|(apply OQ.nM (l:=c.f);exact Tryz.underlying9;rfl)|(apply OQ.cz (b:=100);rfl;rfl;exact hg5)|(apply OQ.aW;rfl;rfl)|(apply OQ.move;rfl)|(apply OQ.bA;rfl;rfl;rfl;exact (by decide);rfl)) rfl ?_ | refine JC.seq ?_ | refine JC.region ?_ | refine JL.nil ?_ | refine JE.next ?_ | refine JL.aD rfl rfl ?_)
    refine JC.cond_true rfl rfl ?_
    repeat (first | refine JL.q (by (apply OQ.assign;rfl)) rfl ?_ | refine JC.seq ?_ | refine JC.region ?_ | refine JL.nil ?_ | refine JE.next ?_)
    refine JC.ret ?_
    repeat (first | refine JE.ax ?_ | refine JE.cy ?_)
    exact JE.aP rfl (RV.tmp rfl) fun w' hw=>⟨rfl,hw.aS⟩
  have hcl : c.s.l.length≤100:=by have:=of_decide_eq_false hg4;omega
  have hcf1 : c.f.length≤100:=by have:=of_decide_eq_false hg5;omega
  repeat (first | refine JL.q (by first|(apply OQ.load;exact rN;rfl;exact .here;exact hc4)|(apply OQ.len (k:=c.s.l.length) (ad:=c.s.ad) (cap:=c.s.cap);exact Tryz.underlying24;rfl)|(apply OQ.cz (b:=100);rfl;rfl;exact hg4)|(apply OQ.load;exact nK;rfl;exact .here;exact hc3)|(apply OQ.nM (l:=c.f);exact Tryz.underlying9;rfl)|(apply OQ.cz (b:=100);rfl;rfl;exact hg5)|(apply OQ.aW;rfl;rfl)|(apply OQ.move;rfl)|(apply OQ.bA;rfl;rfl;rfl;exact (by decide);rfl)) rfl ?_ | refine JC.seq ?_ | refine JC.region ?_ | refine JL.nil ?_ | refine JE.next ?_ | refine JL.aD rfl rfl ?_)
  refine JC.cond_false rfl rfl ?_
  repeat (first | refine JL.q (by (apply OQ.move;rfl)) rfl ?_ | refine JC.seq ?_ | refine JC.region ?_ | refine JC.skip ?_ | refine JE.next ?_)
  obtain ⟨B8,hB8⟩ : ∃ B8 : List aj,[(⟨b8,Row 26 c.cs,true⟩ : aj)]=B8:=⟨_,rfl⟩
  have hH8 : Has B8 b8 (Row 26 c.cs) true:=hB8 ▸ .here
  refine JL.perm (M':=x.E++B8) ?_ (by rw [← hB8];exact List.perm_append_comm (l₁:=[_]))
  clear hB8
  refine JL.w8 (f:=f) k hf (by omega) rfl rfl rfl fun q=>?_
  obtain ⟨q,hq⟩:=q
  dsimp only
  obtain ⟨L,hL⟩ : ∃ L,R.list f=L:=⟨_,rfl⟩
  have hLl : L.length≤i:=by
    rw [← hL]
    unfold Rb.list
    rw [List.length_map]
    exact Nat.le_trans (List.length_filter_le _ _) hms
  rw [hL] at hq ⊢
  repeat (refine JL.q (by (apply OQ.move;rfl)) rfl ?_)
  refine JL.perm (M':=x.E++(af 3 q (aA L)++B8)) ?_ (by exact List.perm_append_comm_assoc _ _ _)
  refine JL.w6 (f:=f) k hf rfl rfl rfl ?_
  repeat (first | refine JL.q (by (apply OQ.assign;rfl)) rfl ?_ | refine JC.seq ?_ | refine JC.region ?_ | refine JL.nil ?_ | refine JE.next ?_)
  refine JL.AX (sz:=3) Tryz.underlying34 Ce rfl fun b11 _=>?_
  have hE0 : (Ma.mk (b11,0) []).E=[⟨b11,Sl.Own 46 3 0 0 [],true⟩]:=rfl
  refine JL.perm (M':=x.E++((Ma.mk (b11,0) []).E++(af 3 q (aA L)++B8))) ?_ (by rw [hE0];simp only [List.cons_append,List.nil_append];exact List.perm_middle.symm)
  repeat (first | refine JL.q (by first|(apply OQ.kf (q:=q) (k:=L.length);exact Tryz.underlying35;exact (fun e=>by rw [hq e];rfl);rfl)|(apply OQ.move;rfl)|(apply OQ.assign;rfl)) rfl ?_ | refine JC.seq ?_ | refine JC.region ?_ | refine JC.block ?_ | refine JL.nil ?_ | refine JE.next ?_)
  refine JC.loop (fun s : CA=>[(1,Z f),(6,Pt x.b 0),(8,Pt b8 0),(9,av q L.length),(10,N (R.next f)),(11,s.z.v),(31,calls.v),(32,N calls.l.length),(33,N i),(54,av q L.length),(55,N L.length),(56,N s.j)]) (fun s=>x.E++(s.z.E++(af 3 q (aA L)++B8))) (fun s=>L.length - s.j) (fun s=>s.j≤L.length∧s.z.rs.length=s.j∧∀ p ∈ s.z.rs,R.find f (p.2.u : Int)=some p.2) ⟨⟨(b11,0),[]⟩,0⟩ ⟨Nat.zero_le _,rfl,by simp⟩ (by repeat (first | exact ah.nil | refine ah.cons _ _ _ rfl ?_)) (ak.refl _) ?_
  rintro ⟨z,j2⟩ ⟨hj2,hzl,hzf⟩
  dsimp only at hj2 hzl hzf ⊢
  repeat (first | refine JL.q (by (apply OQ.fc;rfl;rfl)) rfl ?_ | refine JC.seq ?_ | refine JC.region ?_ | refine JL.nil ?_ | refine JE.next ?_)
  refine JC.cond rfl (fun h=>?_) (fun h=>?_)
  · have hj3 : j2<L.length:=by have:=of_decide_eq_true h;omega
    clear h
    cases q with
    | none=>rw [hq rfl] at hj3;cases hj3
    | some rq=>
    obtain ⟨u,hu⟩ : ∃ u,L[j2]?=some u:=⟨L[j2],List.getElem?_eq_getElem hj3⟩
    have huL : u ∈ R.list f:=by rw [hL];exact List.mem_of_getElem? hu
    obtain ⟨m,hm⟩:=uK k.r huL
    have hul:=sU k.r huL
    have hul2 : u<10000000000:=by omega
    obtain ⟨hmm,hmf,hmu⟩:=bZ hm
    have hmu2 : m.u=u:=by omega
    have hmb:=hbl2 m hmm
    have hzk : (aA L)[j2]?=some (N u):=by unfold aA;rw [List.getElem?_map,hu];rfl
    have hcell0 : ∀ o,Sl.Own 3 1 (aA L).length rq.2 (aA L) o→cellAt o (0+j2)=some (N u):=by rw [Nat.zero_add];exact Sl.Own.cell hzk
    have hHq : Has (x.E++(z.E++(af 3 (some rq) (aA L)++B8))) rq.1 (Sl.Own 3 1 (aA L).length rq.2 (aA L)) true:=aZ (aZ .here)
    have hkv : av (some rq) L.length=.slice (some ⟨rq.1,0,none⟩) L.length rq.2:=rfl
    rw [hkv]
    repeat (first | refine JL.q (by first|(apply OQ.dw (i:=j2) (b:=rq.1) (j:=0);exact Tryz.underlying35;exact rS;rfl;rfl;exact hj3)|(apply OQ.load (v:=N u);exact cr;rfl;exact hHq;exact hcell0)|(apply OQ.move;rfl)|(apply OQ.assign;rfl)) rfl ?_ | refine JC.seq ?_ | refine JC.region ?_ | refine JC.block ?_ | refine JC.skip ?_ | refine JL.nil ?_ | refine JE.next ?_)
    refine JL.oq (x:=x) (f:=f) (u:=(u : Int)) k hf (by omega) (by omega) hTA rfl rfl rfl rfl fun r=>?_
    rw [hm]
    show JL Tryz.prog _ _ _ _ _ _ ((64,.tuple #[.agg (eW u m.fl (mj r m.b)).toArray,N 0])::_) (af 5 (some r) (m.v.map U8)++_)
    have hpc : eW u m.fl (mj r m.b)=Mr.cs (r,m):=by unfold Mr.cs;rw [hmu2]
    rw [hpc]
    repeat (refine JL.q (by first|(apply OQ.extract;rfl;rfl)|(apply OQ.move;rfl)) rfl ?_)
    refine JL.alloc AA rfl fun b14 _=>?_
    refine JL.ai (cs:=Mr.cs (r,m)) sS rfl rfl rfl (by rfl) .here rfl ?_
    repeat (first | refine JL.q (by first|(apply OQ.aq (cs:=Mr.cs (r,m));exact wY;exact sS;rfl;exact .here;rfl;exact Row.all)|(apply OQ.move;rfl)|(apply OQ.assign;rfl)) rfl ?_ | refine JC.region ?_ | refine JL.nil ?_ | refine JE.next ?_)
    refine JL.s8 (cs:=Mr.cs (r,m)) Tryz.underlying34 Ce rfl (by decide) (by decide) rfl rfl rfl fun bl _=>?_
    refine JL.perm (M':=⟨bl,Row 46 (Mr.cs (r,m)),true⟩::(cD 46 3 (some z.q) (z.rs.map Mr.cs)++(z.rs.flatMap Mr.E++(af 5 (some r) (m.v.map U8)++(x.E++(⟨b14,Row 46 (Mr.cs (r,m)),true⟩::(af 3 (some rq) (aA L)++B8))))))) ?_ (CP _ _ _ _ _ _ _)
    have hzm : (z.rs.map Mr.cs).length=z.rs.length:=List.length_map ..
    have hzv : z.v=av (some z.q) (z.rs.map Mr.cs).length:=by rw [hzm];rfl
    rw [hzv]
    refine JL.iJ (c:=Mr.cs (r,m)) (L:=z.rs.map Mr.cs) (some z.q) Tryz.underlying34 Ce nofun rfl rfl rfl (AI _) rfl (by decide) (by rw [hzm];omega) (by rw [hzm];omega) rfl fun b' cap'=>?_
    have hE' : (Ma.mk (b',cap') (z.rs++[(r,m)])).E=cD 46 3 (some (b',cap')) (z.rs.map Mr.cs++[Mr.cs (r,m)])++(z.rs.flatMap Mr.E++af 5 (some r) (m.v.map U8)):=by
      unfold Ma.E
      rw [List.map_append,List.flatMap_append]
      simp only [List.map_cons,List.map_nil,List.flatMap_cons,List.flatMap_nil,List.append_nil]
      rfl
    have hv' : av (some (b',cap')) (z.rs.map Mr.cs++[Mr.cs (r,m)]).length=(Ma.mk (b',cap') (z.rs++[(r,m)])).v:=by
      unfold Ma.v
      rw [List.length_append,List.length_append,hzm]
      rfl
    rw [hv']
    refine JL.perm (M':=x.E++((Ma.mk (b',cap') (z.rs++[(r,m)])).E++(⟨b14,Row 46 (Mr.cs (r,m)),true⟩::(af 3 (some rq) (aA L)++B8)))) ?_ (by rw [hE'];exact CQ _ _ _ _ _)
    rw [← hkv]
    repeat (first | refine JL.q (by first|(apply OQ.move;rfl)|(apply OQ.assign;rfl)|(apply OQ.addN;rfl;rfl;exact (by (try simp only []);omega))) rfl ?_ | refine JC.region ?_ | refine JL.nil ?_ | refine JE.next ?_ | refine JE.au ?_)
    refine JE.again (i:=CA.mk z j2) ⟨⟨(b',cap'),z.rs++[(r,m)]⟩,j2+1⟩ ⟨hj3,?_,?_⟩ (by dsimp only;omega) (by repeat (first | exact ah.nil | refine ah.cons _ _ _ rfl ?_)) (bQ (bQ (.drop _ _ _ (ak.refl _)) _) _)
    · show (z.rs++[_]).length=j2+1
      rw [List.length_append,hzl]
      rfl
    · intro p hp
      rcases List.mem_append.1 hp with hp | hp
      · exact hzf p hp
      · obtain rfl:=List.mem_singleton.1 hp
        show R.find f (m.u : Int)=some m
        rw [hmu]
        exact hm
  clear h
  have hHc : ∀ y : Bz,Has (y.E++(z.E++(af 3 q (aA L)++B8))) b8 (Row 26 c.cs) true:=fun y=>aZ (aZ (aZ hH8))
  obtain ⟨h0,hh0⟩ : ∃ h,decide (c.what=0)=h:=⟨_,rfl⟩
  obtain ⟨h1,hh1⟩ : ∃ h,decide (c.what=1)=h:=⟨_,rfl⟩
  obtain ⟨h2,hh2⟩ : ∃ h,decide (c.what=2)=h:=⟨_,rfl⟩
  repeat (first | refine JL.q (by first|(apply OQ.load;exact cr;rfl;exact (hHc x);exact hc0)|(apply OQ.kV (b:=0);rfl;rfl;exact hh0)|(apply OQ.assign;rfl)|(apply OQ.bA;rfl;rfl;rfl;exact (by decide);rfl)) rfl ?_ | refine JC.seq ?_ | refine JC.region ?_ | refine JC.block ?_ | refine JC.exit ?_ | refine JL.nil ?_ | refine JE.next ?_ | refine JE.aH ?_ | refine JE.aX ?_)
  refine JC.A1 (fun s : Ap=>[(1,Z f),(6,Pt x.b 0),(8,Pt b8 0),(9,av q L.length),(10,N (R.next f)),(11,z.v),(31,calls.v),(32,N calls.l.length),(33,N i)]) (fun s=>s.x.E++(z.E++(af 3 q (aA L)++B8)))
    (fun s=>s.x.b=x.b∧s.x.ok s.aa s.vs s.R s.nd∧s.nd≤i+1∧s.R.ms.length≤i+1∧(∀ m ∈ s.R.ms,m.b.length≤100)∧(c.f≠f→Bx.Alike R s.R f)) ?_ ?_
  · cases h0
    case true=>
      refine JC.cond_true rfl rfl ?_
      repeat (first | refine JL.q (by first|(apply OQ.load;exact nK;rfl;exact (hHc x);exact hc3)|(apply OQ.load;exact rN;rfl;exact (hHc x);exact hc4)|(apply OQ.move;rfl)|(apply OQ.bA;rfl;rfl;rfl;exact (by decide);rfl)) rfl ?_ | refine JC.region ?_)
      refine JL.mo (f:=c.f) (s:=c.s) k (by omega) (by omega) (by omega) hTA (fun w' hw'=>⟨hcs.holds hw' rfl,kY hw' x.wr hcs⟩) rfl rfl rfl rfl fun r=>?_
      obtain ⟨cd,uid,z2,recs2,vs2,R2,n2,k2,p2,o2⟩:=r
      dsimp only at k2 p2 o2 ⊢
      have hR : n2≤i+1∧R2.ms.length≤i+1∧(∀ m ∈ R2.ms,m.b.length≤100)∧(c.f≠f→Bx.Alike R R2 f):=by
        rcases o2 with ⟨_,_,_,_,_,_,h6,h7⟩ | ⟨_,_,⟨_,_,h3,h4⟩ | ⟨_,_,_,_,_,h6,h7⟩⟩
        · rw [h6,h7];exact ⟨by omega,by omega,hbl2,fun _=>Bx.Alike.refl _ _⟩
        · rw [h3,h4]
          refine ⟨by omega,?_,fun m hm=>?_,fun h=>mG k.r h _⟩
          · show (R.ms++[_]).length≤i+1
            rw [List.length_append]
            exact Nat.add_le_add_right hms 1
          · rcases List.mem_append.1 hm with hm | hm
            · exact hbl2 m hm
            · rw [List.mem_singleton] at hm
              subst hm
              exact hcl
        · rw [h6,h7];exact ⟨by omega,by omega,hbl2,fun _=>Bx.Alike.refl _ _⟩
      repeat (first | refine JL.nil ?_ | refine JE.au ?_)
      exact JE.mid (Ap.mk i (Bz.mk x.b z2) recs2 vs2 R2 n2) ⟨rfl,k2,hR⟩ (by repeat (first | exact ah.nil | refine ah.cons _ _ _ rfl ?_)) (ak.refl _)
    refine JC.cond_false rfl rfl ?_
    cases h1
    case true=>
      repeat (first | refine JL.q (by first|(apply OQ.kV (b:=1);rfl;rfl;exact hh1)|(apply OQ.assign;rfl)) rfl ?_ | refine JC.seq ?_ | refine JC.region ?_ | refine JL.nil ?_ | refine JE.next ?_)
      refine JC.cond_true rfl rfl ?_
      repeat (first | refine JL.q (by first|(apply OQ.load;exact nK;rfl;exact (hHc x);exact hc3)|(apply OQ.load (v:=fG c.u);exact cr;rfl;exact (hHc x);exact hc1)|(apply OQ.load (v:=fG c.fl);exact cr;rfl;exact (hHc x);exact hc2)|(apply OQ.move;rfl)|(apply OQ.bA;rfl;rfl;rfl;exact (by decide);rfl)) rfl ?_ | refine JC.region ?_)
      refine JL.zA (x:=x) (f:=c.f) (u:=c.u) (fl:=c.fl) k (by omega) hcu.1 hcu.2 (fun m hm=>by have:=hbl2 m hm;omega) hTA rfl rfl rfl rfl rfl fun r=>?_
      obtain ⟨cd,z3,recs3,vs3,R3,k3,p3,o3⟩:=r
      dsimp only at k3 p3 o3 ⊢
      have hR : nd≤i+1∧R3.ms.length≤i+1∧(∀ m ∈ R3.ms,m.b.length≤100)∧(c.f≠f→Bx.Alike R R3 f):=by
        rcases o3 with ⟨_,_,_,_,_,h6⟩ | ⟨_,_,_,_,_,_,h6⟩ | ⟨_,_,_,_,⟨_,h2⟩ | ⟨_,_,_,_,h6⟩⟩
        · rw [h6];exact ⟨by omega,by omega,hbl2,fun _=>Bx.Alike.refl _ _⟩
        · rw [h6];exact ⟨by omega,by omega,hbl2,fun _=>Bx.Alike.refl _ _⟩
        · rw [h2]
          refine ⟨by omega,by show (List.map _ _).length≤_;rw [List.length_map];omega,fun m hm=>?_,fun h=>rV R h _ _⟩
          obtain ⟨m',hm',rfl⟩:=List.mem_map.1 hm
          rw [(cn _ _ _ m').2.2]
          exact hbl2 m' hm'
        · rw [h6];exact ⟨by omega,by omega,hbl2,fun _=>Bx.Alike.refl _ _⟩
      repeat (first | refine JL.nil ?_ | refine JE.au ?_)
      exact JE.mid (Ap.mk i (Bz.mk x.b z3) recs3 vs3 R3 nd) ⟨rfl,k3,hR⟩ (by repeat (first | exact ah.nil | refine ah.cons _ _ _ rfl ?_)) (ak.refl _)
    repeat (first | refine JL.q (by first|(apply OQ.kV (b:=1);rfl;rfl;exact hh1)|(apply OQ.assign;rfl)) rfl ?_ | refine JC.seq ?_ | refine JC.region ?_ | refine JL.nil ?_ | refine JE.next ?_)
    refine JC.cond_false rfl rfl ?_
    cases h2
    case true=>
      repeat (first | refine JL.q (by first|(apply OQ.kV (b:=2);rfl;rfl;exact hh2)|(apply OQ.assign;rfl)) rfl ?_ | refine JC.seq ?_ | refine JC.region ?_ | refine JL.nil ?_ | refine JE.next ?_)
      refine JC.cond_true rfl rfl ?_
      repeat (first | refine JL.q (by first|(apply OQ.load;exact nK;rfl;exact (hHc x);exact hc3)|(apply OQ.move;rfl)|(apply OQ.bA;rfl;rfl;rfl;exact (by decide);rfl)) rfl ?_ | refine JC.region ?_)
      refine JL.BH (f:=c.f) k (by omega) (by omega) hTA rfl rfl rfl fun r=>?_
      obtain ⟨cd,qe,le,hqe,z2,recs2,vs2,R2,k2,p2,o2⟩:=r
      dsimp only at hqe k2 p2 o2 ⊢
      have hR : nd≤i+1∧R2.ms.length≤i+1∧(∀ m ∈ R2.ms,m.b.length≤100)∧(c.f≠f→Bx.Alike R R2 f):=by
        rcases o2 with ⟨_,_,_,_,_,_,h6⟩ | ⟨_,_,⟨_,_,h3⟩ | ⟨_,_,_,_,_,h6⟩⟩
        · rw [h6];exact ⟨by omega,by omega,hbl2,fun _=>Bx.Alike.refl _ _⟩
        · rw [h3]
          refine ⟨by omega,?_,fun m hm=>hbl2 m (List.mem_filter.1 hm).1,fun h=>mH k.r h⟩
          have : (R.bS c.f).ms.length≤R.ms.length:=List.length_filter_le _ _
          omega
        · rw [h6];exact ⟨by omega,by omega,hbl2,fun _=>Bx.Alike.refl _ _⟩
      repeat (first | refine JL.nil ?_ | refine JE.au ?_)
      exact JE.mid (Ap.mk i (Bz.mk x.b z2) recs2 vs2 R2 nd) ⟨rfl,k2,hR⟩ (by repeat (first | exact ah.nil | refine ah.cons _ _ _ rfl ?_)) (ay _ (ak.refl _))
    repeat (first | refine JL.q (by first|(apply OQ.kV (b:=2);rfl;rfl;exact hh2)|(apply OQ.assign;rfl)) rfl ?_ | refine JC.seq ?_ | refine JC.region ?_ | refine JL.nil ?_ | refine JE.next ?_)
    refine JC.cond_false rfl rfl ?_
    repeat (first | refine JC.skip ?_ | refine JE.au ?_)
    exact JE.mid (Ap.mk i x aa vs R nd) ⟨rfl,k,by dsimp only;omega,by dsimp only;omega,hbl2,fun _=>Bx.Alike.refl _ _⟩ (by repeat (first | exact ah.nil | refine ah.cons _ _ _ rfl ?_)) (ak.refl _)
  rintro ⟨_,y,recs3,vs3,R3,nd3⟩ ⟨hyb,k3,hnd3,hms3,hbl3,hal⟩
  dsimp only at hyb k3 hnd3 hms3 hbl3 hal ⊢
  obtain ⟨g6,hg6⟩ : ∃ g,decide (c.f=f)=g:=⟨_,rfl⟩
  repeat (first | refine JL.q (by first|(apply OQ.load;exact nK;rfl;exact (hHc y);exact hc3)|(apply OQ.A2;rfl;rfl;exact hg6)|(apply OQ.move;rfl)|(apply OQ.bA;rfl;rfl;rfl;exact (by decide);rfl)) rfl ?_ | refine JC.seq ?_ | refine JC.region ?_ | refine JL.nil ?_ | refine JE.next ?_)
  cases g6
  case true=>
    refine JC.cond_true rfl rfl ?_
    repeat (first | refine JL.q (by first|(apply OQ.move;rfl)|(apply OQ.addN;rfl;rfl;exact (by (try simp only []);omega))) rfl ?_ | refine JC.region ?_ | refine JC.exit ?_ | refine JL.nil ?_ | refine JE.next ?_ | refine JE.aH ?_ | refine JE.aX ?_)
    exact JE.again (i:=Ap.mk i x aa vs R nd) (Ap.mk (i+1) y recs3 vs3 R3 nd3) ⟨hi',hyb,k3,hnd3,hms3,hbl3⟩ (by dsimp only;omega) (by repeat (first | exact ah.nil | refine ah.cons _ _ _ rfl ?_)) (an _ _)
  obtain ⟨hnx,hls,hfd⟩:=hal (of_decide_eq_false hg6)
  refine JC.cond_false rfl rfl ?_
  rw [← hyb]
  repeat (first | refine JL.q (by (apply OQ.move;rfl)) rfl ?_ | refine JC.seq ?_ | refine JC.region ?_ | refine JC.skip ?_ | refine JE.next ?_)
  refine JL.w8 (x:=y) (f:=f) k3 hf (by omega) rfl rfl rfl fun q3=>?_
  obtain ⟨q3,hq3⟩:=q3
  dsimp only
  rw [hls,hL] at hq3 ⊢
  have hsi : ∀ (w' : World),(fI q3 L).ok w'→(fI q L).ok w'→Calls Tryz.prog 18 [(fI q3 L).v,(fI q L).v].toArray w' fun e w2=>e=.returned (.bool true)∧Ext w' w2:=fun w' h1 h2=>by
    have:=sY (fI q3 L) (fI q L) w' h1 h2 (by rw [jO hq3,List.length_map];omega) (by rw [jO hq,List.length_map];omega)
    rw [yT hq3 hq,decide_eq_true rfl] at this
    exact this
  rw [← rU hq3,← rU hq]
  have hk2 : decide ((R.next f : Int)=(R.next f : Int))=true:=decide_eq_true rfl
  repeat (first | refine JL.q (by first|(apply OQ.aB (vs:=[(fI q3 L).v,(fI q L).v]);exact qc;rfl;exact (fun w' hw'=>hsi w' (ou hw') (ou (hw'.weak (M':=af 3 q (aA L)++[]) (by rw [List.append_nil];exact ay _ (ay _ (ay _ (an _ _))))))))|(apply OQ.not;rfl)|(apply OQ.move;rfl)) rfl ?_ | refine JL.aD rfl rfl ?_)
  try refine JL.aD rfl rfl ?_
  refine JL.perm (M':=y.E++(af 3 q3 (aA L)++(z.E++(af 3 q (aA L)++B8)))) ?_ (by exact List.perm_append_comm_assoc _ _ _)
  refine JL.w6 (x:=y) (f:=f) k3 hf rfl rfl rfl ?_
  rw [hnx]
  repeat (first | refine JL.q (by first|(apply OQ.jw (b:=(R.next f : Int));rfl;rfl;exact hk2)|(apply OQ.aW;rfl;rfl)|(apply OQ.move;rfl)) rfl ?_ | refine JL.nil ?_ | refine JE.next ?_ | refine JL.aD rfl rfl ?_)
  refine JC.cond_false rfl rfl ?_
  repeat (first | refine JL.q (by first|(apply OQ.kf (q:=some z.q) (k:=z.rs.length);exact Tryz.underlying34;exact nofun;rfl)|(apply OQ.move;rfl)) rfl ?_ | refine JC.seq ?_ | refine JC.region ?_ | refine JC.block ?_ | refine JC.skip ?_ | refine JL.nil ?_ | refine JE.next ?_)
  refine JC.loop (fun j : Nat=>[(1,Z f),(6,Pt y.b 0),(31,calls.v),(32,N calls.l.length),(33,N i),(115,z.v),(116,N z.rs.length),(117,N j)]) (fun _=>y.E++(z.E++(af 3 q (aA L)++B8))) (fun j=>z.rs.length - j) (fun j=>j≤z.rs.length) 0 (Nat.zero_le _) (by repeat (first | exact ah.nil | refine ah.cons _ _ _ rfl ?_)) (bQ (ay _ (ak.refl _)) _) ?_
  intro j5 hj5
  repeat (first | refine JL.q (by (apply OQ.fc;rfl;rfl)) rfl ?_ | refine JC.seq ?_ | refine JC.region ?_ | refine JL.nil ?_ | refine JE.next ?_)
  refine JC.cond rfl (fun h=>?_) (fun h=>?_)
  rotate_left
  · repeat (first | refine JL.q (by first|(apply OQ.move;rfl)|(apply OQ.addN;rfl;rfl;exact (by (try simp only []);omega))) rfl ?_ | refine JC.region ?_ | refine JC.exit ?_ | refine JL.nil ?_ | refine JE.next ?_ | refine JE.au ?_ | refine JE.aH ?_ | refine JE.aX ?_)
    exact JE.again (i:=Ap.mk i x aa vs R nd) (Ap.mk (i+1) y recs3 vs3 R3 nd3) ⟨hi',rfl,k3,hnd3,hms3,hbl3⟩ (by dsimp only;omega) (by repeat (first | exact ah.nil | refine ah.cons _ _ _ rfl ?_)) (an _ _)
  have hj6 : j5<z.rs.length:=by have:=of_decide_eq_true h;omega
  clear h
  obtain ⟨p,hp⟩ : ∃ p,z.rs[j5]?=some p:=⟨z.rs[j5],List.getElem?_eq_getElem hj6⟩
  have hpm:=List.mem_of_getElem? hp
  have hpf:=hzf p hpm
  have hzv : z.v=.slice (some ⟨z.q.1,0,none⟩) z.rs.length z.q.2:=rfl
  have hzm : (z.rs.map Mr.cs).length=z.rs.length:=List.length_map ..
  have hHz : Has (y.E++(z.E++(af 3 q (aA L)++B8))) z.q.1 (Sl.Own 46 3 (z.rs.map Mr.cs).length z.q.2 (z.rs.map Mr.cs).flatten) true:=aZ .here
  have hld : (z.rs.map Mr.cs).getD j5 []=p.cs:=BK hp
  obtain ⟨hpmm,hpff,hpu⟩:=bZ hpf
  have hpul:=k.r.ki hpmm
  have hpul2 : p.2.u<10000000000:=by omega
  have hpb:=hbl2 _ hpmm
  rw [hzv]
  repeat (first | refine JL.q (by (apply OQ.mz (i:=j5) (b:=z.q.1) (j:=0);exact Tryz.underlying34;exact sS;rfl;rfl;exact hj6)) rfl ?_ | refine JC.seq ?_ | refine JC.region ?_ | refine JC.block ?_ | refine JC.skip ?_ | refine JE.next ?_)
  refine JL.q (v:=.agg p.cs.toArray) (hld ▸ OQ.u6 (i:=j5) wY sS rfl (by rw [Nat.zero_add]) hHz (AH _) (by rw [hzm];exact hj6)) rfl ?_
  refine JL.alloc AA rfl fun b17 _=>?_
  refine JL.ai (cs:=p.cs) sS rfl rfl rfl (by rfl) .here rfl ?_
  rw [← hzv]
  have hp0 : ∀ o,Row 46 p.cs o→cellAt o 0=some (N p.2.u):=Row.cell rfl
  have hp1 : ∀ o,Row 46 p.cs o→cellAt o 1=some (N p.2.fl):=Row.cell rfl
  have hp2 : ∀ o,Row 46 p.cs o→cellAt o 2=some (mj p.1 p.2.b).v:=Row.cell rfl
  repeat (first | refine JL.q (by first|(apply OQ.load (v:=N p.2.u);exact cr;rfl;exact .here;exact hp0)|(apply OQ.move;rfl)|(apply OQ.bA;rfl;rfl;rfl;exact (by decide);rfl)) rfl ?_ | refine JC.seq ?_ | refine JC.region ?_ | refine JL.nil ?_ | refine JE.next ?_)
  refine JL.perm (M':=y.E++(⟨b17,Row 46 p.cs,true⟩::(z.E++(af 3 q (aA L)++B8)))) ?_ (by exact List.perm_middle.symm)
  refine JL.oq (x:=y) (f:=f) (u:=(p.2.u : Int)) k3 hf (by omega) (by omega) hTA rfl rfl rfl rfl fun r=>?_
  rw [hfd,hpf]
  show JL Tryz.prog _ _ _ _ _ _ ((126,.tuple #[.agg (eW p.2.u p.2.fl (mj r p.2.b)).toArray,N 0])::_) (af 5 (some r) (p.2.v.map U8)++_)
  obtain ⟨s,hs2⟩ : ∃ s,mj r p.2.b=s:=⟨_,rfl⟩
  have hsl : s.l=p.2.b:=by rw [← hs2];rfl
  rw [hs2]
  repeat (refine JL.q (by first|(apply OQ.extract;rfl;rfl)|(apply OQ.move;rfl)) rfl ?_)
  refine JL.alloc AA rfl fun b18 _=>?_
  refine JL.ai (cs:=eW p.2.u p.2.fl s) sS rfl rfl rfl (by rfl) .here rfl ?_
  have hm2 : ∀ o,Row 46 (eW p.2.u p.2.fl s) o→cellAt o 2=some s.v:=Row.cell rfl
  have hm1 : ∀ o,Row 46 (eW p.2.u p.2.fl s) o→cellAt o 1=some (N p.2.fl):=Row.cell rfl
  have hH17 : Has (⟨b18,Row 46 (eW p.2.u p.2.fl s),true⟩::(af 5 (some r) (p.2.v.map U8)++(y.E++(⟨b17,Row 46 p.cs,true⟩::(z.E++(af 3 q (aA L)++B8)))))) b17 (Row 46 p.cs) true:=.there (aZ (aZ .here))
  have hfl : decide ((p.2.fl : Int)=(p.2.fl : Int))=true:=decide_eq_true rfl
  have hsm : ∀ {w' : World},Holds w [] (⟨b18,Row 46 (eW p.2.u p.2.fl s),true⟩::(af 5 (some r) (p.2.v.map U8)++(y.E++(⟨b17,Row 46 p.cs,true⟩::(z.E++(af 3 q (aA L)++B8)))))) w'→Calls Tryz.prog 21 [s.v,(mj p.1 p.2.b).v].toArray w' fun e w2=>e=.returned (.bool true)∧Ext w' w2:=fun {w'} hw'=>by
    have ok1 : s.ok w':=by
      rw [← hs2]
      exact rQ (c:=BitVec.ofNat 8 p.2.fl) (M:=y.E++(⟨b17,Row 46 p.cs,true⟩::(z.E++(af 3 q (aA L)++B8)))) (hw'.weak (.drop _ _ _ (ak.refl _)))
    have BV : (mj p.1 p.2.b).ok w':=BJ (p:=p) (.drop _ _ _ (ay _ (ay _ (.drop _ _ _ (by
      rw [show z.E=cD 46 3 (some z.q) (z.rs.map Mr.cs)++z.rs.flatMap Mr.E from rfl,List.append_assoc]
      exact ay _ (qd _ hpm)))))) hw'
    have:=vX s (mj p.1 p.2.b) w' ok1 BV (by rw [hsl];omega)
    rw [hsl,show (mj p.1 p.2.b).l=p.2.b from rfl,decide_eq_true rfl] at this
    exact this
  repeat (first | refine JL.q (by first|(apply OQ.jw (a:=0) (b:=0) (c:=true);rfl;rfl;rfl)|(apply OQ.jw (b:=(p.2.fl : Int));rfl;rfl;exact hfl)|(apply OQ.load (v:=N p.2.fl);exact cr;rfl;exact .here;exact hm1)|(apply OQ.load (v:=N p.2.fl);exact cr;rfl;exact hH17;exact hp1)|(apply OQ.load;exact rN;rfl;exact .here;exact hm2)|(apply OQ.load;exact rN;rfl;exact hH17;exact hp2)|(apply OQ.aB (vs:=[s.v,(mj p.1 p.2.b).v]);exact tW;rfl;exact (fun w' hw'=>hsm hw'))|(apply OQ.not;rfl)|(apply OQ.aW;rfl;rfl)|(apply OQ.move;rfl)|(apply OQ.assign;rfl)|(apply OQ.bA;rfl;rfl;rfl;exact (by decide);rfl)) rfl ?_ | refine JC.seq ?_ | refine JC.region ?_ | refine JL.nil ?_ | refine JE.next ?_ | refine JL.aD rfl rfl ?_)
  refine JC.cond_false rfl rfl ?_
  repeat (first | refine JL.q (by first|(apply OQ.move;rfl)|(apply OQ.addN;rfl;rfl;exact (by (try simp only []);omega))) rfl ?_ | refine JC.region ?_ | refine JC.skip ?_ | refine JL.nil ?_ | refine JE.next ?_ | refine JE.au ?_)
  exact JE.again (i:=j5) (j5+1) (by omega) (by omega) (by repeat (first | exact ah.nil | refine ah.cons _ _ _ rfl ?_)) (.drop _ _ _ (ay _ (bQ (.drop _ _ _ (ak.refl _)) _)))
end
section
set_option maxRecDepth 10000
open Go.ChangeShapes Go.WideShapes Go.ChangeAt Go.RowKit
open Sl
set_option linter.unusedVariables false
theorem Cf : ownKnob Tryz.prog.godebug=none:=by kernel_rfl
theorem xl : laidOutB Tryz.prog=true:=by kernel_rfl
theorem BL {z : Int} (h : (Lit.int .u8 z).wf=true) : U8 (BitVec.ofInt 8 z)=.int .u8 z:=by
  have h0 : 0≤z∧z≤255:=by
    have h1 : (decide (0≤z) && decide (z≤255))=true:=h
    simpa using h1
  have h2 : ((BitVec.ofInt 8 z).toNat : Int)=z:=by
    rw [BitVec.toNat_ofInt]
    omega
  unfold U8
  rw [h2]
def xm (P : Program) (t : TypeId) (i : Nat) (ty : TypeId) (off : Nat) : Bool:=match (P.fieldsOf t)[i]? with
  | some f=>f.type == ty && f.offset == off
  | none=>false
theorem uL {P : Program} {t : TypeId} {i : Nat} {ty : TypeId} {off : Nat} (h : xm P t i ty off=true) : ∃ f,(P.fieldsOf t)[i]?=some f∧f.type=ty∧f.offset=off:=by
  unfold xm at h
  split at h
  · next f e=>
    simp only [Bool.and_eq_true,beq_iff_eq] at h
    exact ⟨f,e,h.1,h.2⟩
  · cases h
def s5 (zs : List Int) : List (BitVec 8):=zs.map (BitVec.ofInt 8)
theorem AJ {H : Type} {enc : TypeId × Value→H} {W : World} {fuel : Nat} {v : Value} {x : DataW H × List MemPlace} (h : DataW.trod enc Tryz.prog W 0 (fun _=>true) true fuel 24 [v]=some x) : ∃ k : az,v=k.v∧k.ok W∧k.cap≤maxLen:=by
  rcases open_ints (show Tryz.prog.underlying 24=some (.slice 5) by kernel_rfl) (show Tryz.prog.underlying 5=some (.int .u8) by kernel_rfl) (by kernel_rfl) h with ⟨hcs,_⟩ | ⟨x,l,c,zs,hcs,_,hl,hm,hz,_,hcell,hwz⟩
  · cases hcs
    exact ⟨⟨none,0,[]⟩,rfl,⟨by simp,Reads.nil _ _⟩,by decide⟩
  · cases hcs
    simp only [if_true] at hz
    have hlen : (s5 (zs.take l)).length=l:=by simp [s5];omega
    refine ⟨⟨some x,c,s5 (zs.take l)⟩,by simp [az.v,hlen],⟨by rw [hlen];exact hl,?_⟩,hm⟩
    intro i v hv
    have hi : i<l:=by
      have:=(List.getElem?_eq_some_iff.1 hv).1
      simpa [hlen] using this
    have hc:=hcell i (by omega)
    obtain ⟨b,o,sp⟩:=x
    cases sp with
    | some s=>
      have hc:=hcell 0 (by omega)
      simp only [World.cell?,Addr.add,if_true] at hc
      split at hc <;> simp at hc
    | none=>
      refine ⟨b,o,rfl,?_⟩
      have e1 : zs.getD i 0=zs[i]'(by omega):=by simp [List.getD,show i<zs.length by omega]
      have e2:=BL (hwz (zs[i]'(by omega)) (List.getElem_mem _))
      have e3 : v=.int .u8 (zs.getD i 0):=by
        simp only [s5,List.map_map,List.getElem?_map,List.getElem?_take] at hv
        rw [if_pos hi,List.getElem?_eq_getElem (by omega)] at hv
        simp only [Option.map_some,Function.comp,Option.some.injEq] at hv
        rw [← hv,e2,e1]
      rw [e3]
      have e4 : (⟨b,o,none⟩ : Addr).add i=⟨b,o+i,none⟩:=by
        unfold Addr.add
        split
        · subst i;rfl
        · rfl
      rw [e4] at hc
      exact hc
end
section
set_option maxRecDepth 10000
open Go.ChangeShapes Go.WideShapes Go.ChangeAt Go.RowKit
open Sl
set_option linter.unusedVariables false
theorem uM {α : Type} {H : Type} {enc : TypeId × Value→H} {W : World} {fuel k : Nat} {t e : TypeId} {v : Value} {x : DataW H × List MemPlace} (cs : α→List Value) (P : α→Prop) (c0 : α) (hk0 : 0<k)
    (hu : Tryz.prog.underlying t=some (.slice e)) (hc1 : Tryz.prog.cellsOf e=k) (hlen : ∀ c,P c→(cs c).length=k)
    (hel : ∀ (l : List Value) (fuel : Nat) (x : DataW H × List MemPlace),l.length=k→DataW.trod enc Tryz.prog W 0 (fun _=>true) true fuel e l=some x→∃ c,l=cs c∧P c)
    (h : DataW.trod enc Tryz.prog W 0 (fun _=>true) true fuel t [v]=some x) :
    ∃ (ad : Option Addr) (cap : Nat) (l : List α),v=.slice ad l.length cap∧l.length≤cap∧Reads W ad (l.map cs).flatten∧∀ c ∈ l,P c:=by
  rcases Go.Deep.open_slice hu h with ⟨hcs,_⟩ | ⟨a',l,cap,m,n,D,Pl,hcs,_,hl,hm,hmm,hxx,hel'⟩
  · cases hcs
    exact ⟨none,0,[],rfl,Nat.le_refl _,Reads.nil _ _,nofun⟩
  · cases hcs
    simp only [if_true] at hmm
    subst hmm
    simp only [hc1] at hel'
    have hk : ∀ i,∃ c : α,i<l→(∀ j u,(cs c)[j]?=some u→W.cell? ((a'.add (i * k)).add j)=some u)∧P c:=by
      intro i
      by_cases hi : i<l
      · obtain ⟨cs',h1,h2⟩:=hel' i (by omega)
        obtain ⟨_,hlen',hcell⟩:=World.cells?_some h1
        obtain ⟨c,rfl,hp⟩:=hel _ _ _ hlen' h2
        refine ⟨c,fun _=>⟨fun j u hu=>?_,hp⟩⟩
        have hj : j<(cs c).length:=(List.getElem?_eq_some_iff.1 hu).1
        rw [hcell j (by omega)]
        exact hu
      · exact ⟨c0,fun h=>absurd h hi⟩
    let f : Nat→α:=fun i=>Classical.choose (hk i)
    have hf : ∀ i,i<l→(∀ j u,(cs (f i))[j]?=some u→W.cell? ((a'.add (i * k)).add j)=some u)∧P (f i):=fun i=>Classical.choose_spec (hk i)
    refine ⟨some a',m,(List.range l).map f,by simp,by simpa using hl,?_,?_⟩
    · intro i u hu
      have hcss : ∀ q ∈ ((List.range l).map f).map cs,q.length=k:=by
        intro q hq
        obtain ⟨d,hd,rfl⟩:=List.mem_map.1 hq
        obtain ⟨j,hj,rfl⟩:=List.mem_map.1 hd
        exact hlen _ (hf j (List.mem_range.1 hj)).2
      have hlen2:=bH hcss
      have hi : i<(((List.range l).map f).map cs).flatten.length:=(List.getElem?_eq_some_iff.1 hu).1
      rw [hlen2] at hi
      simp only [List.length_map,List.length_range] at hi
      have hq : i / k<l:=Nat.div_lt_of_lt_mul (by rw [Nat.mul_comm];exact hi)
      have hr : i % k<k:=Nat.mod_lt _ hk0
      have hat:=iK (i:=i / k) hcss (by simpa using hq)
      have e2 : (((List.range l).map f).map cs).getD (i / k) []=cs (f (i / k)):=by simp [hq]
      rw [e2] at hat
      have hdm : i / k * k+i % k=i:=by rw [Nat.mul_comm];exact Nat.div_add_mod i k
      have hu2 : (cs (f (i / k)))[i % k]?=some u:=by
        rw [← hat,List.getElem?_take,if_pos hr,List.getElem?_drop,hdm]
        exact hu
      have hc:=(hf (i / k) hq).1 (i % k) u hu2
      obtain ⟨b,o,sp⟩:=a'
      cases sp with
      | some s=>
        exfalso
        have h0:=hf 0 (Nat.lt_of_le_of_lt (Nat.zero_le _) hq)
        have hl0:=hlen _ h0.2
        obtain ⟨u0,hu0⟩ : ∃ u0,(cs (f 0))[0]?=some u0:=⟨_,List.getElem?_eq_getElem (by omega)⟩
        have h00:=h0.1 0 u0 hu0
        simp only [World.cell?,Addr.add,Nat.zero_mul,if_true] at h00
        split at h00 <;> simp at h00
      | none=>
        refine ⟨b,o,rfl,?_⟩
        rw [bz,bz,Nat.add_assoc,hdm] at hc
        exact hc
    · intro d hd
      obtain ⟨j,hj,rfl⟩:=List.mem_map.1 hd
      exact (hf j (List.mem_range.1 hj)).2
theorem xo {α : Type} {H : Type} {enc : TypeId × Value→H} {W : World} {base fuel k : Nat} {t e : TypeId} {v : Value} {x : DataW H × List MemPlace} (cs : α→List Value) (P : α→Prop) (c0 : α) (hk0 : 0<k)
    (hu : Tryz.prog.underlying t=some (.slice e)) (hc1 : Tryz.prog.cellsOf e=k) (hlen : ∀ c,P c→(cs c).length=k)
    (hel : ∀ (l : List Value) (fuel : Nat) (x : DataW H × List MemPlace),l.length=k→DataW.trod enc Tryz.prog W 0 (fun _=>true) true fuel e l=some x→∃ c,l=cs c∧P c)
    (hok : Value.okWide Tryz.prog W .any base t v) (h : DataW.trod enc Tryz.prog W 0 (fun _=>true) true fuel t v.cells.toList=some x) :
    ∃ (ad : Option Addr) (cap : Nat) (l : List α),v=.slice ad l.length cap∧l.length≤cap∧Reads W ad (l.map cs).flatten∧∀ c ∈ l,P c:=by
  obtain ⟨a,l,c,rfl⟩:=okWide_slice hu hok
  exact uM cs P c0 hk0 hu hc1 hlen hel h
theorem yV {H : Type} {enc : TypeId × Value→H} {W : World} {fuel nf : Nat} {t : TypeId} {cs : List Value} {x : DataW H × List MemPlace} (ht : Tryz.prog.underlying t=some (.struct (Tryz.prog.fieldsOf t))) (hsz : (Tryz.prog.fieldsOf t).size=nf)
    (h : DataW.trod enc Tryz.prog W 0 (fun _=>true) true fuel t cs=some x) : ∃ n,∀ {i ty off},xm Tryz.prog t i ty off=true→i<nf→∃ y,DataW.trod enc Tryz.prog W 0 (fun _=>true) true n ty ((cs.drop off).take (Tryz.prog.cellsOf ty))=some y:=by
  obtain ⟨xs,n,_,_,_,hlen,hf⟩:=DataW.trod_struct ht h
  rw [hsz] at hlen
  refine ⟨n,fun {i ty off} h1 h2=>?_⟩
  obtain ⟨f,e1,rfl,rfl⟩:=uL h1
  exact ⟨xs[i],by rw [hf i f e1,List.getElem?_eq_getElem (by omega)]⟩
theorem AK {cs : List Value} {off : Nat} (h : off<cs.length) : ∃ v,(cs.drop off).take 1=[v]∧cs[off]?=some v:=
  ⟨cs[off],by rw [List.drop_eq_getElem_cons h,List.take_succ_cons,List.take_zero],List.getElem?_eq_getElem h⟩
end
section
set_option maxRecDepth 10000
open Go.ChangeShapes Go.WideShapes Go.ChangeAt Go.RowKit
open Sl dc
set_option linter.unusedVariables false
theorem rW {H : Type} {enc : TypeId × Value→H} {W : World} {base fuel : Nat} {v : Value} {x : DataW H × List MemPlace} (hok : Value.okWide Tryz.prog W .any base 22 v) (h : DataW.trod enc Tryz.prog W 0 (fun _=>true) true fuel 22 v.cells.toList=some x) :
    ∃ k : s4,v=k.v∧k.ok W:=by
  obtain ⟨ad,cap,l,e,h1,h2,h3⟩:=xo (k:=5) (e:=26) fK.cs (fun c=>c.ok W) jg (by decide) (by kernel_rfl) (by kernel_rfl) (fun c _=>rfl)
    (fun l fuel x hl hx=>by
      obtain ⟨n,g⟩:=yV (nf:=5) (by kernel_rfl) (by kernel_rfl) hx
      have c0 : Tryz.prog.cellsOf 3=1:=by kernel_rfl
      have c1 : Tryz.prog.cellsOf 24=1:=by kernel_rfl
      have c2 : Tryz.prog.cellsOf 9=1:=by kernel_rfl
      have hi : Tryz.prog.underlying 3=some (.int .i64):=by kernel_rfl
      have hs : Tryz.prog.underlying 9=some .string:=by kernel_rfl
      obtain ⟨y0,g0⟩:=g (i:=0) (ty:=3) (off:=0) (by kernel_rfl) (by decide)
      obtain ⟨y1,g1⟩:=g (i:=1) (ty:=3) (off:=1) (by kernel_rfl) (by decide)
      obtain ⟨y2,g2⟩:=g (i:=2) (ty:=3) (off:=2) (by kernel_rfl) (by decide)
      obtain ⟨y3,g3⟩:=g (i:=3) (ty:=9) (off:=3) (by kernel_rfl) (by decide)
      obtain ⟨y4,g4⟩:=g (i:=4) (ty:=24) (off:=4) (by kernel_rfl) (by decide)
      rw [c0] at g0 g1 g2
      rw [c2] at g3
      rw [c1] at g4
      obtain ⟨z0,q0,_,_⟩:=DataW.trod_int hi g0
      obtain ⟨z1,q1,_,w1⟩:=DataW.trod_int hi g1
      obtain ⟨z2,q2,_,_⟩:=DataW.trod_int hi g2
      obtain ⟨z3,q3,_,w3⟩:=DataW.trod_string hs g3
      obtain ⟨v,hv,_⟩:=AK (off:=4) (by omega : 4<l.length)
      rw [hv] at g4
      obtain ⟨k,rfl,hk,_⟩:=AJ g4
      have hz : Value.string z3=Z (bytesOf z3):=by show _=Value.string _;rw [iH]
      have hw1 : -9223372036854775808≤z1∧z1≤9223372036854775807:=by
        have h : (decide (IntKind.i64.min≤z1) && decide (z1≤IntKind.i64.max))=true:=w1
        rw [Bool.and_eq_true,decide_eq_true_eq,decide_eq_true_eq,show IntKind.i64.min=-9223372036854775808 from rfl,show IntKind.i64.max=9223372036854775807 from rfl] at h
        exact h
      have hw3 : (bytesOf z3).length<9223372036854775808:=by
        rw [dL]
        have : maxLen<9223372036854775808:=by decide
        omega
      refine ⟨⟨z0,z1,z2,bytesOf z3,k⟩,?_,hw1,hw3,hk⟩
      match l,hl,q0,q1,q2,q3,hv with
      | [a,b,c,d,e],_,q0,q1,q2,q3,hv=>
        simp at q0 q1 q2 q3 hv
        rw [q0,q1,q2,q3,hv,hz]
        rfl) hok h
  exact ⟨⟨ad,cap,l⟩,e,⟨h1,h2,h3⟩⟩
end
section
open Go.ChangeShapes Go.WideShapes Go.ChangeAt Go.RowKit
open Sl
set_option linter.unusedVariables false
theorem jh {P : Program} {w : World} {n : String} {d : DataW Unit} : ∀ {L : List (String × DataW Unit)} {ps : List MemPlace},DataW.LaidVars P w L ps→(n,d) ∈ L→
    ∃ g t cs fuel p,P.globalNamed n=some g∧(P.globals[g]?).map (·.type)=some t∧w.var? P n=some cs∧DataW.trod (fun _=>()) P w 0 (fun _=>true) false fuel t cs.toList=some (d,p)
  | [],_,_,h=>by cases h
  | (n',d')::L,ps,⟨g,t,cs,fuel,p,q,h1,h2,h3,h4,h5,_⟩,h=>by
    rcases List.mem_cons.1 h with h | h
    · cases h
      exact ⟨g,t,cs,fuel,p,h1,h2,h3,h4⟩
    · exact jh h5 h
theorem mu : ((Rows.boxFullRow.laid).all fun x=>x.2.handleName?.isNone)=true:=by kernel_rfl
theorem yW (os : Os) (args : Array Value) : laidMetH Tryz.prog Rows.boxFullRow.laid ((World.laidAll Tryz.prog os Rows.boxFullRow.laid).forCall (fun _ _=>0) ⟨#[],args,[]⟩).memory:=by
  rw [MakeChecks.laidMetH_plain _ _ _ mu]
  exact laidMet_laidAll _ (by kernel_rfl) (by kernel_rfl)
theorem uN (os : Os) : (World.laidAll Tryz.prog os Rows.boxFullRow.laid).Shaped Tryz.prog:=World.shaped_of_ZipB (by kernel_rfl) (by kernel_rfl)
theorem xp {W : World} {ps : List MemPlace} {L : List (String × DataW Unit)} (h : DataW.LaidVars Tryz.prog W L ps) (hm : ("internal/strconv.uint64pow10",Lib.tabData .u64 Go.Lib.pow10Tab) ∈ L) : er W:=by
  obtain ⟨g,t,cs,fuel,p,h1,h2,h3,h4⟩:=jh h hm
  have hg : Tryz.prog.globalNamed "internal/strconv.uint64pow10" = some 2:=by kernel_rfl
  obtain rfl:=Option.some.inj (hg.symm.trans h1)
  obtain rfl:=Option.some.inj ((show (Tryz.prog.globals[2]?).map (·.type)=some 207 by kernel_rfl).symm.trans h2)
  have hcs:=Lib.cells_of_tab (show Tryz.prog.underlying 207=some (.array 20 82) by kernel_rfl) (show Tryz.prog.underlying 82=some (.int .u64) by kernel_rfl) (by kernel_rfl) (by kernel_rfl) h4
  unfold World.var? at h3
  rw [hg] at h3
  simp only [Option.bind_some] at h3
  split at h3
  · rename_i cs' e fr hb
    obtain rfl:=Option.some.inj h3
    refine ⟨e,fr,?_⟩
    rw [hb]
    have : cs'=(cs'.toList).toArray:=by simp
    rw [this,hcs]
    rfl
  · cases h3
theorem yX : Rows.boxFullRow.laid=[("math/bits.deBruijn32tab",Rows.laid_math_bits_deBruijn32tab),("math/bits.deBruijn64tab",Rows.laid_math_bits_deBruijn64tab),("internal/strconv.uint64pow10",Lib.tabData .u64 Go.Lib.pow10Tab),("strconv.ErrRange",Rows.laid_strconv_ErrRange),("strconv.ErrSyntax",Rows.laid_strconv_ErrSyntax)]:=by kernel_rfl
theorem qf {W : World} (h : laidMetH Tryz.prog Rows.boxFullRow.laid W) : er W:=by
  rw [MakeChecks.laidMetH_plain _ _ _ mu,yX] at h
  obtain ⟨ps,h,_⟩:=h
  exact xp h (by simp)
end
end Go.Proofs.YtdinfhchkcmncaaGreatDoor
