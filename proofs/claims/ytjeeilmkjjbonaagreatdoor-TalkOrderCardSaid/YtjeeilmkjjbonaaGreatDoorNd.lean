/-
  Of no statement by itself: the texts TalJ, TalK, Sle, TalL, Plain, FraT, Prp in one.
  Conditions: each theorem's own.
-/
import Derived.Test.YtjeeilmkjjbonaaGreatDoorNc
import Derived.Test.YtjeeilmkjjbonaaGreatDoorProg
import Derived.Test.YtjeeilmkjjbonaaGreatDoorRows
import Derived.ProofKit
import Derived.OpenShut
import Derived.Below
import Derived.Stop.Joined
import Derived.ChangeMaps5
import Derived.Test.YtjeeilmkjjbonaaGreatDoorTie
import Derived.SevenTiedAt
import Derived.LaidMore
import Derived.Lay
import Derived.Handed
import Derived.HandedShaped
import Derived.Deep.SlicePairs
import Derived.SliceStrings
import Derived.SizedLaws
set_option linter.unusedSimpArgs false
set_option linter.unusedVariables false
namespace Go.Proofs.YtjeeilmkjjbonaaGreatDoor
section
set_option maxRecDepth 10000
open Sl
namespace de
theorem eo : aC Tryz.prog 9:=⟨_,Tryz.func9,rfl,by kernel_rfl⟩
theorem jW : aC Tryz.prog 35:=⟨_,Tryz.func35,rfl,by kernel_rfl⟩
theorem kP : aC Tryz.prog 12:=⟨_,Tryz.func12,rfl,by kernel_rfl⟩
theorem gw : aC Tryz.prog 7:=⟨_,Tryz.func7,rfl,by kernel_rfl⟩
def pJ : Pw:=⟨0,[],none,[],none,[],none,[],none,[]⟩
theorem pK : pJ.ok:=⟨fun _=>rfl,fun _=>rfl,fun _=>rfl,fun _=>rfl⟩
theorem pL : pJ.is new:=⟨rfl,rfl,rfl,rfl,rfl,rfl⟩
theorem kQ : Program.built Tryz.prog 75 []=some pJ.cs.toArray:=by kernel_rfl
theorem e5 (w : World) : Calls Tryz.prog 9 ([] : List Value).toArray w fun e w'=>∃ b : Nat,e=.returned (Pt b 0)∧aa w [] (pJ.E b) w':=by
  refine enter (n:=3) Tryz.func9 rfl rfl rfl (aa.start w []) ?_
  repeat (first | refine JL.q (by first|(apply OQ.cW (cs:=pJ.cs) (vs:=[]) (is:=[]) (xs:=[]);rfl;rfl;exact kQ)|(apply OQ.assign;rfl)) rfl ?_ | refine JC.seq ?_ | refine JC.region ?_ | refine JL.nil ?_ | refine JE.next ?_)
  refine JL.box (r:=pJ.cs) rfl rfl rfl fun b _=>?_
  repeat (first | refine JL.q (by (apply OQ.assign;rfl)) rfl ?_ | refine JL.nil ?_ | refine JE.next ?_)
  refine JC.ret ?_
  skip
  exact JE.av rfl (RV.tmp rfl) fun w' hw=>⟨b,rfl,hw⟩
def sU (w : World) (q : Acc) (cs : List Value) : Prop:=∀ p,q=some p→Reads w (some ⟨p.1,0,none⟩) cs
set_option maxHeartbeats 4000000 in
theorem kR (q : Acc) (css : List (List Value)) (h3 : ∀ c ∈ css,c.length=3) (h1 : ∀ v ∈ css.flatten,v.oneCell'=true) (hq : q=none→css=[]) (w : World) (hr : sU w q css.flatten) (hl : css.length≤1000000) : Calls Tryz.prog 35 [af q css.length].toArray w fun e w'=>∃ q' : {q' : Acc // q'=none→css=[]},e=.returned (af q'.1 css.length)∧aa w [] (dr 38 3 q'.1 css) w':=by
  have hfl:=eA h3
  refine enter (n:=8) Tryz.func35 rfl rfl rfl (aa.start w []) ?_
  cases q with
  | none=>
    obtain rfl:=hq rfl
    repeat (first | refine JL.q (by first|(apply OQ.nS (ad:=none) (k:=0) (cap:=0);exact Tryz.underlying31;rfl;rfl)|(apply OQ.move;rfl)|(apply OQ.assign;rfl)) rfl ?_ | refine JC.seq ?_ | refine JC.region ?_ | refine JL.nil ?_ | refine JE.next ?_)
    refine JC.cond_true rfl rfl ?_
    repeat (first | refine JL.q (by (apply OQ.assign;rfl)) rfl ?_ | refine JC.seq ?_ | refine JC.region ?_ | refine JL.nil ?_ | refine JE.next ?_)
    refine JC.ret ?_
    repeat (refine JE.ag ?_)
    exact JE.av rfl (RV.tmp rfl) fun w' hw=>⟨⟨none,fun _=>rfl⟩,rfl,hw⟩
  | some p=>
    have hrp:=hr p rfl
    repeat (first | refine JL.q (by first|(apply OQ.nS (ad:=some ⟨p.1,0,none⟩) (k:=css.length) (cap:=p.2);exact Tryz.underlying31;rfl;rfl)|(apply OQ.move;rfl)|(apply OQ.assign;rfl)) rfl ?_ | refine JC.seq ?_ | refine JC.region ?_ | refine JL.nil ?_ | refine JE.next ?_)
    refine JC.cond_false rfl rfl ?_
    repeat (first | refine JC.seq ?_ | refine JC.region ?_ | refine JC.skip ?_ | refine JE.next ?_)
    refine JL.s7 Tryz.underlying31 sW rfl fun b0 _=>?_
    repeat (refine JL.q (by (apply OQ.move;rfl)) rfl ?_)
    refine JL.append (cs:=css.flatten) (m:=css.length) (ad:=some ⟨p.1,0,none⟩) (sc:=p.2) (xs:=[]) (fun b' cap'=>[⟨b',Sl.aY 38 3 (0+css.length) cap' ([]++css.flatten),true⟩]) Tryz.underlying31 sW rfl rfl (by intro _ _;repeat (first | exact bG.here | apply bG.there)) hfl (fun w' hw'=>hw'.reads hrp (fun _ a _=>by simp)) h1 rfl (by decide) (by omega) (by omega) rfl fun b1 cap1=>?_
    rw [Nat.zero_add,List.nil_append]
    repeat (first | refine JL.q (by (apply OQ.assign;rfl)) rfl ?_ | refine JL.nil ?_ | refine JE.next ?_)
    refine JC.ret (JE.av rfl (RV.tmp rfl) fun w' hw=>⟨⟨some (b1,cap1),nofun⟩,rfl,hw⟩)
theorem kS (b : Nat) (z : Pw) (hz : z.zs=[]) (w : World) (h0 : aa w [] [⟨b,Row 75 z.cs,false⟩] w) : Calls Tryz.prog 12 [Pt b 0].toArray w fun e w'=>∃ q : Acc,e=.returned (af q 0)∧Ext w w':=by
  have hcl : ∀ w',Calls Tryz.prog 35 [af z.qm 0].toArray w' fun e w2=>∃ q' : {q' : Acc // q'=none→([] : List (List Value))=[]},e=.returned (af q'.1 0)∧aa w' [] (dr 38 3 q'.1 []) w2:=fun w'=>
    kR z.qm [] (by simp) (by simp) (fun _=>rfl) w' (fun p _=>Reads.nil _ _) (Nat.zero_le _)
  have hzl : z.zs.length=0:=by rw [hz];rfl
  refine enter (n:=34) Tryz.func12 rfl rfl rfl h0 ?_
  repeat (first | refine JL.q (by first|(apply OQ.load;exact qM;rfl;exact .here;exact (Row.cell (v:=af z.qm z.zs.length) rfl))|(apply OQ.move;rfl)|(apply OQ.assign;rfl)|(apply OQ.aI;rfl)|(apply OQ.br;rfl;rfl;rfl;exact (by decide);rfl)) rfl ?_ | refine JC.seq ?_ | refine JC.region ?_ | refine JL.nil ?_ | refine JE.next ?_)
  rw [hzl]
  refine JL.dy (ι:={q' : Acc // q'=none→([] : List (List Value))=[]}) (vs:=[af z.qm 0]) (fun q=>af q.1 0) (fun q=>dr 38 3 q.1 []) jW rfl rfl (fun q=>lg _ _ _ _) (fun w' _=>hcl w') ?_
  rintro ⟨q,hq⟩
  dsimp only
  repeat (first | refine JL.q (by first|(apply OQ.e7;exact Tryz.underlying31;exact (fun _=>rfl);rfl)|(apply OQ.move;rfl)|(apply OQ.assign;rfl)) rfl ?_ | refine JC.seq ?_ | refine JC.region ?_ | refine JC.block ?_ | refine JL.nil ?_ | refine JE.next ?_)
  refine JC.loop (ι:=Unit) (fun _=>[(3,af q 0),(12,N 0),(13,N 0)]) (fun _=>[]) (fun _=>0) (fun _=>True) () trivial (by repeat (first | exact ai.nil | refine ai.cons _ _ _ rfl ?_)) (.nil _) ?_
  rintro _ _
  repeat (first | refine JL.q (by (apply OQ.j3 (a:=0) (b:=0);rfl;rfl;exact (by decide))) rfl ?_ | refine JC.seq ?_ | refine JC.region ?_ | refine JL.nil ?_ | refine JE.next ?_)
  refine JC.cond_false rfl rfl ?_
  repeat (first | refine JL.q (by first|(apply OQ.move;rfl)|(apply OQ.assign;rfl)) rfl ?_ | refine JC.seq ?_ | refine JC.region ?_ | refine JC.exit ?_ | refine JL.nil ?_ | refine JE.next ?_ | refine JE.aU ?_ | refine JE.bt ?_)
  refine JC.ret ?_
  skip
  exact JE.av rfl (RV.tmp rfl) fun w' hw=>⟨q,rfl,hw.aE⟩
end de
end
section
set_option maxRecDepth 10000
open Sl aq Tok
namespace de
theorem rS {s : List Bt} {i : Nat} (h : i<s.length) {n : Nat} {E : Env} {C : World→Prop} {dst : Option Tmp} {ty : TypeId} {pos : String} {aft : Array Edge} {g : Option (Nat × Bool)} {x y : Operand} (hx : ev E x=some (Z s)) (hy : ev E y=some (N i)) : OQ Tryz.prog n E C ⟨dst,.index 9 x y,ty,pos,aft,g⟩ (U8 (s.getD i 0)):=OQ.jb Tryz.underlying9 hx hy h
set_option maxHeartbeats 8000000 in
theorem pM (s : List Bt) (w : World) (hl : s.length<140737488351233) : Calls Tryz.prog 27 [Z s].toArray w fun e w'=>e=.returned (Z (s.map c7))∧Ext w w':=by
  refine enter (n:=30) Tryz.func27 rfl rfl rfl (aa.start w []) ?_
  repeat (first | refine JL.q (by (apply OQ.assign;rfl)) rfl ?_ | refine JC.seq ?_ | refine JC.region ?_ | refine JL.nil ?_ | refine JE.next ?_)
  refine JL.qG Tryz.underlying22 fB rfl fun b0 _=>?_
  repeat (first | refine JL.q (by (apply OQ.assign;rfl)) rfl ?_ | refine JC.seq ?_ | refine JC.region ?_ | refine JC.block ?_ | refine JL.nil ?_ | refine JE.next ?_)
  refine JC.loop (fun q : Nat × Nat × Nat=>[(0,Z s),(3,.slice (some ⟨q.2.1,0,none⟩) q.1 q.2.2),(4,N q.1)]) (fun q=>[⟨q.2.1,Sl.aY 5 1 q.1 q.2.2 (((s.take q.1).map c7).map U8),true⟩]) (fun q=>s.length - q.1) (fun q=>q.1≤s.length) (0,b0,0) (Nat.zero_le _) (by repeat (first | exact ai.nil | refine ai.cons _ _ _ rfl ?_)) (ak.refl _) ?_
  rintro ⟨i,b,cap⟩ hi
  simp only at hi
  dsimp only
  repeat (first | refine JL.q (by first|(apply OQ.bu;exact Tryz.underlying9;rfl)|(apply OQ.move;rfl)|(apply OQ.gp;rfl;rfl)) rfl ?_ | refine JC.seq ?_ | refine JC.region ?_ | refine JL.nil ?_ | refine JE.next ?_)
  refine JC.cond rfl (fun h=>?_) (fun h=>?_)
  · have hi' : i<s.length:=of_decide_eq_true h
    clear h hi
    have hx:=bq s hi'
    have hlen : ((s.take i).map c7).length=i:=by rw [List.length_map,List.length_take];omega
    have hidx:=fun {n : Nat} {E : Env} {C : World→Prop} {dst : Option Tmp} {ty : TypeId} {pos : String} {aft : Array Edge} {g : Option (Nat × Bool)} {x y : Operand}=>rS hi' (n:=n) (E:=E) (C:=C) (dst:=dst) (ty:=ty) (pos:=pos) (aft:=aft) (g:=g) (x:=x) (y:=y)
    generalize s.getD i 0=c at hx hidx
    have hs : c7 c=if decide ((97 : Int)≤(c.toNat : Int)) && decide ((c.toNat : Int)≤122) then c - 32 else c:=by
      unfold c7
      by_cases h : 97≤c.toNat∧c.toNat≤122
      · rw [if_pos h,if_pos (by simp;omega)]
      · rw [if_neg h,if_neg (by simp;omega)]
    generalize hT : (s.take i).map c7=T at hlen ⊢
    have hT2 : (s.take (i+1)).map c7=T++[c7 c]:=by rw [hx,List.map_append,hT];rfl
    generalize c7 c=d at hs hT2
    cases h1 : decide ((97 : Int)≤(c.toNat : Int)) <;> cases h2 : decide ((c.toNat : Int)≤122)
    all_goals (
      rw [h1,h2] at hs
      (repeat (first | refine JL.q (by first|(apply hidx;rfl;rfl)|(apply OQ.bK (b:=97);rfl;rfl;exact h1)|(apply OQ.pV (b:=122);rfl;rfl;exact h2)|(apply OQ.aN;rfl;rfl)|(apply OQ.aH;rfl;rfl)|(apply OQ.move;rfl)|(apply OQ.assign;rfl)) rfl ?_ | refine JC.seq ?_ | refine JC.region ?_ | refine JC.block ?_ | refine JC.skip ?_ | refine JL.nil ?_ | refine JE.next ?_ | refine JL.aV rfl rfl ?_ | refine JL.bh rfl rfl rfl rfl ?_))
      refine JC.join (ι:=Unit) (fun _=>[(0,Z s),(3,.slice (some ⟨b,0,none⟩) i cap),(4,N i),(5,U8 d)]) (fun _=>[⟨b,Sl.aY 5 1 i cap (T.map U8),true⟩]) (fun _=>True) ?_ ?_
      · subst hs
        refine JC.cond rfl (fun h=>?_) (fun h=>?_)
        all_goals first|(exfalso;revert h;decide) | skip
        all_goals (clear h;repeat (first | refine JL.q (by first|(apply OQ.sP (b:=32#8);rfl;rfl;exact (by have:=of_decide_eq_true h1;show 32≤_;omega))|(apply OQ.move;rfl)|(apply OQ.assign;rfl)) rfl ?_ | refine JC.region ?_ | refine JC.skip ?_ | refine JL.nil ?_))
        all_goals exact JE.mid () trivial (by repeat (first | exact ai.nil | refine ai.cons _ _ _ rfl ?_)) (ak.refl _)
      · rintro ⟨⟩ _
        (repeat (first | refine JL.q (by (apply OQ.move;rfl)) rfl ?_ | refine JC.region ?_))
        refine JL.si (xs:=T.map U8) (fun b' cap'=>[⟨b',Sl.aY 5 1 (i+1) cap' (T.map U8++[U8 d]),true⟩]) Tryz.underlying22 fB rfl rfl rfl rfl (fun _=>rfl) (by intro _ _;repeat (first | exact bG.here | apply bG.there)) (by omega) (by omega) rfl rfl fun bl b' cap'=>?_
        (repeat (first | refine JL.q (by first|(apply OQ.move;rfl)|(apply OQ.assign;rfl)|(apply OQ.cr;rfl;rfl;exact (by (try simp only []);omega))) rfl ?_ | refine JC.region ?_ | refine JL.nil ?_ | refine JE.next ?_ | refine JE.an ?_))
        refine JE.again (i:=(i,b,cap)) (i+1,b',cap') hi' (by show s.length - (i+1)<s.length - i;omega) (by repeat (first | exact ai.nil | refine ai.cons _ _ _ rfl ?_)) (.keep _ _ _ _ _ _ (fun o h=>?_) (.nil _))
        dsimp only
        rw [hT2,List.map_append]
        exact h)
  · have hi' : ¬ i<s.length:=of_decide_eq_false h
    obtain rfl : i=s.length:=by omega
    clear h hi hi'
    rw [List.take_length]
    have hY : s.length=(s.map c7).length:=(List.length_map _).symm
    generalize s.map c7=Y at hY ⊢
    rw [hY]
    repeat (first | refine JL.q (by first|(apply OQ.nq (s:=⟨some ⟨b,0,none⟩,cap,Y⟩);exact Tryz.underlying22;exact Tryz.underlying5;exact Tryz.underlying9;rfl;exact (fun w' hw'=>ia hw' .here))|(apply OQ.move;rfl)|(apply OQ.assign;rfl)) rfl ?_ | refine JC.seq ?_ | refine JC.region ?_ | refine JC.exit ?_ | refine JL.nil ?_ | refine JE.next ?_ | refine JE.aU ?_ | refine JE.bt ?_)
    refine JC.ret ?_
    skip
    exact JE.av rfl (RV.tmp rfl) fun w' hw=>⟨rfl,hw.aE⟩
theorem JL.feed {n : Nat} {w0 : World} {S : List Nat} {ops : Array Oper} {Q : Exit→Act→World→Prop} {l : List Oper} {E : Env} {d : Nat} {ty : TypeId} {pos : String} {aft : Array Edge} {x1 x2 : Operand} {ats : Array TypeId} {b : Nat} {M0 : List az} (z : Pw) (T : Po) (s : aM) (ok : z.ok) (hs : z.is T) (wf : T.wf) (hsl : s.l.length≤900000) (hft : T.fit (900000 - s.l.length)) (hm : en w0 S)
    (hso : ∀ w',aa w0 S (z.E b++M0) w'→s.ok w'∧cl s (keys (z.E b))) (e1 : ev E x1=some (Pt b 0)) (e2 : ev E x2=some s.v) (hd : Nat.blt d n=true)
    (kk : ∀ (z' : Pw) (q : Acc),z'.ok→z'.is (ay T s.l).1→(q=none→(ay T s.l).2=[])→JL Tryz.prog n w0 S ops Q l ((d,af q (ay T s.l).2.length)::E) (z'.E b++(aA 5 q ((ay T s.l).2.map U8)++M0))) :
    JL Tryz.prog n w0 S ops Q (⟨some d,.call ⟨.value (.func 10),#[x1,x2],ats⟩,ty,pos,aft,none⟩::l) E (z.E b++M0):=by
  refine JL.fM (xs:=[x1,x2]) (ι:={p : Pw × Acc // (p.1.ok∧p.1.is (ay T s.l).1)∧(p.2=none→(ay T s.l).2=[])}) (vs:=[Pt b 0,s.v]) (fun i=>af i.1.2 (ay T s.l).2.length) (fun i=>i.1.1.E b++aA 5 i.1.2 ((ay T s.l).2.map U8)) mZ (by simp [dw,e1,e2]) hd (z.wr b) ?_ ?_ ?_
  · intro i e he
    rcases List.mem_append.1 he with h | h
    · exact Pw.wr b _ e h
    · exact b8 _ _ _ e h
  · intro w' hw' hx
    exact pI b z T ok hs wf s hsl hft w' (hm.sub hw' (z.wr b)) (hso w' hw').1 (hso w' hw').2 hx
  · rintro ⟨⟨z',q⟩,⟨h1,h2⟩,h3⟩
    dsimp only
    rw [List.append_assoc]
    exact kk z' q h1 h2 h3
theorem lP (n : Nat) : new.fit n:=⟨Nat.zero_le _,Nat.zero_le _⟩
theorem tE : ay new [100,97,116,97,13,10]=(new,bZ++[13,10]):=by
  rw [show ([100,97,116,97,13,10] : List By)=[100,97,116,97]++[13,10] from rfl,gZ (by decide) (by decide) rfl _ (by decide)]
  have : aO new [100,97,116,97]=(new,bZ):=by
    unfold aO
    rw [if_neg (by decide),if_neg (by decide),if_neg (by decide),if_neg (by decide),if_pos (by decide)]
    rfl
  rw [this]
theorem gj {w0 w : World} {S : List Nat} {X M : List az} {b k cap : Nat} {l : List Bt} {A : Obj→Prop} {wr : Bool} (hw : aa w0 S (X++M) w) (hM : Has M b A wr) : cl ⟨some ⟨b,k,none⟩,cap,l⟩ (keys X):=by
  intro _ a ha
  cases ha
  exact jq hw hM
set_option maxHeartbeats 8000000 in
theorem iP (w : World) (hm : c6 w) : Calls Tryz.prog 7 ([] : List Value).toArray w fun e w'=>e=.returned (.bool true)∧Ext w w':=by
  refine enter (n:=7) Tryz.func7 rfl rfl rfl (aa.start w []) ?_
  repeat (first | refine JL.q (by (apply OQ.assign;rfl)) rfl ?_ | refine JC.seq ?_ | refine JC.region ?_ | refine JL.nil ?_ | refine JE.next ?_)
  refine JL.dy (ι:=Nat) (vs:=[]) (fun b=>Pt b 0) (fun b=>pJ.E b) eo rfl rfl (fun b=>Pw.wr b _) (fun w' _=>e5 w') fun b=>?_
  refine JL.pU (xs:=[.const (U8 100),.const (U8 97),.const (U8 116),.const (U8 97),.const (U8 13),.const (U8 10)]) (vs:=[U8 100,U8 97,U8 116,U8 97,U8 13,U8 10]) Tryz.underlying22 fB rfl rfl rfl rfl (by
    intro v hv
    simp only [List.mem_cons,List.not_mem_nil,or_false] at hv
    rcases hv with rfl | rfl | rfl | rfl | rfl | rfl <;> rfl) rfl (by decide) (by decide) rfl fun bl _=>?_
  refine JL.mark (r:=[U8 100,U8 97,U8 116,U8 97,U8 13,U8 10]) (te:=5) Tryz.underlying22 Tryz.underlying5 rfl .here rfl ?_
  refine JL.perm (M':=pJ.E b++[⟨bl,iY 5 [U8 100,U8 97,U8 116,U8 97,U8 13,U8 10],true⟩]) ?_ (aG fun _ _ v=>by simp only [List.count_append,List.count_cons,List.count_nil];omega)
  refine JL.feed pJ new ⟨some ⟨bl,0,none⟩,6,[100,97,116,97,13,10]⟩ pK pL oW (show 6≤900000 by decide) (lP _) ⟨hm,by simp⟩ (fun w' hw'=>⟨?_,?_⟩) rfl rfl rfl fun z' q h1 h2 h3=>?_
  · exact gf (l:=[100,97,116,97,13,10]) hw' (ry .here) (Nat.le_refl _)
  · exact gj hw' .here
  rw [show (⟨some ⟨bl,0,none⟩,6,[100,97,116,97,13,10]⟩ : aM).l=[100,97,116,97,13,10] from rfl,tE] at h3 ⊢
  dsimp only at h3 ⊢
  have hlv:=fA q (bZ++[13,10])
  have hll:=ie h3
  have hb2 : ∀ w',aa w [] (z'.E b++(aA 5 q ((bZ++[13,10]).map U8)++[⟨bl,iY 5 [U8 100,U8 97,U8 116,U8 97,U8 13,U8 10],true⟩])) w'→(bP q (bZ++[13,10])).ok w':=fun w' hw'=>cP (e:=5) (M:=[⟨bl,iY 5 [U8 100,U8 97,U8 116,U8 97,U8 13,U8 10],true⟩]++z'.E b) (hw'.perm' (aG fun _ _ v=>by simp only [List.count_append,List.count_cons,List.count_nil];omega))
  rw [← hlv]
  repeat (first | refine JL.q (by first|(apply OQ.nq (s:=bP q (bZ++[13,10]));exact Tryz.underlying22;exact Tryz.underlying5;exact Tryz.underlying9;rfl;exact hb2)|(apply OQ.qH (l:=(bP q (bZ++[13,10])).l) (r:=bZ++[13,10]);rfl;rfl;exact hll)|(apply OQ.assign;rfl)) rfl ?_ | refine JL.nil ?_ | refine JE.next ?_)
  refine JC.ret ?_
  skip
  exact JE.av rfl (RV.tmp rfl) fun w' hw=>⟨rfl,hw.aE⟩
end de
end
section
namespace Sl
def e8 (e : TypeId) (n cap : Nat) (xs : List Value) : Obj→Prop:=fun o=>∃ (sp : List Value) (fr : Nat × Nat),o=.cells (xs++sp).toArray e fr∧(cap≤fr.1∨fr.2=0)∧(xs++sp).length=cap∧xs.length=n∧n≤cap
theorem e8.cells {e : TypeId} {n cap : Nat} {xs : List Value} : ∀ o,e8 e n cap xs o→bn o 0 xs:=by
  rintro o ⟨sp,fr,rfl,_⟩
  exact ⟨_,_,_,rfl,fun i hi=>by simp [List.getElem?_append_left hi]⟩
theorem lQ {w0 w : World} {S : List Nat} {M : List az} {b k cap : Nat} {e : TypeId} {l : List Bt} {wr : Bool} (hw : aa w0 S M w) (hM : Has M b (e8 e k cap (l.map U8)) wr) : aM.ok w ⟨some ⟨b,0,none⟩,cap,l⟩:=by
  obtain ⟨o,ho,hA⟩:=hw.get hM
  have hh:=e8.cells _ hA
  obtain ⟨sp,fr,rfl,_,h2,h3,h4⟩:=hA
  simp only [List.length_map] at h3
  exact ⟨by show l.length≤cap;omega,Reads.block ho hh⟩
section
variable {P : Program} {t tx e : TypeId}
variable {n : Nat} {w0 : World} {S : List Nat} {ops : Array Oper} {Q : Exit→Act→World→Prop} {l : List Oper} {E : Env} {M : List az} {d b : Nat} {ty : TypeId} {pos : String} {aft : Array Edge} {x y : Operand}
theorem JL.tQ {t' : TypeId} {r : List Bt} {u : TypeDesc} (hs : P.underlying t=some u) (hsu : u=.string) (hu : P.underlying t'=some (.slice e)) (he : P.underlying e=some (.int .u8)) (hx : ev E x=some (Z r)) (hd : Nat.blt d n=true)
    (k : ∀ b cap,w0.heap.size≤b→JL P n w0 S ops Q l ((d,.slice (some ⟨b,0,none⟩) r.length cap)::E) (⟨b,e8 e r.length cap (r.map U8),true⟩::M)) : JL P n w0 S ops Q (⟨some d,.convert t t' x,ty,pos,aft,none⟩::l) E M:=
  ⟨fun a w ha hw=>wpList_plain rfl fun K hK=>by
    subst hsu
    have hrun:=Lib.run_convert_string_bytes (P:=P) w t t' e (aD r) hs hu he
    have hheap : (Lib.bytesWorld w e (aD r)).heap=w.heap.push (.cells (Lib.bytesCells w e (aD r)) e ((Lib.bytesCells w e (aD r)).size,(Lib.bytesCells w e (aD r)).size+1)):=by
      apply Array.ext_getElem?
      intro i
      rw [Array.getElem?_push]
      by_cases h : i=w.heap.size
      · rw [if_pos h,h,Lib.bytesWorld_at_new]
      · rw [if_neg h]
        by_cases h2 : i<w.heap.size
        · rw [Lib.bytesWorld_at_old _ _ _ _ h2]
        · rw [Array.getElem?_eq_none (by rw [Lib.bytesWorld_size];omega),Array.getElem?_eq_none (by omega)]
    have hge:=grownCap_ge w (aD r).size 0 e
    rw [aF] at hge hrun
    have hA : e8 e r.length (grownCap w r.length 0 e) (r.map U8) (.cells (Lib.bytesCells w e (aD r)) e ((Lib.bytesCells w e (aD r)).size,(Lib.bytesCells w e (aD r)).size+1)):=by
      have hb : ((aD r).data.toList.map fun b=>Value.int .u8 b.toNat)=r.map U8:=by
        have:=bV r
        exact this
      have hc : Lib.bytesCells w e (aD r)=(r.map U8++List.replicate (grownCap w r.length 0 e - r.length) (Value.int .u8 0)).toArray:=by
        have hsz:=aF r
        rw [← hb]
        apply Array.ext'
        simp [Lib.bytesCells,hsz]
      have hl : (Lib.bytesCells w e (aD r)).size=grownCap w r.length 0 e:=by rw [hc];simp;omega
      refine ⟨List.replicate (grownCap w r.length 0 e - r.length) (Value.int .u8 0),_,by rw [← hc],.inl (by show _≤(Lib.bytesCells w e (aD r)).size;omega),?_,by simp,hge⟩
      simp;omega
    unfold Oper.wp
    simp only [execOp,ha.eval hx,Sem.run_bind,hrun,Result.andThen_ok]
    exact hK _ _ ((k w.heap.size _ hw.aE.size).go _ _ (ha.put d _ hd) (hw.push _ hA hheap rfl rfl rfl))⟩
end
end Sl
end
section
set_option maxRecDepth 10000
open Sl
namespace de
theorem jX : aC Tryz.prog 27:=⟨_,Tryz.func27,rfl,by kernel_rfl⟩
theorem Po.fit.mono {S : Po} {n m : Nat} (h : S.fit n) (hle : n≤m) : S.fit m:=⟨Nat.le_trans h.sz hle,h.to⟩
theorem hG {s : List Bt} (h : ∀ c ∈ s,c≠13∧c≠10) : ∀ c ∈ (s++[(13 : Bt)]),c≠10:=by
  intro c hc
  rcases List.mem_append.1 hc with h1 | h1
  · exact (h c h1).2
  · rw [List.mem_singleton.1 h1];decide
theorem lR : ∀ (s : List By) (S : Po),S.st≠5→S.wf→S.to.length≤10→(∀ c ∈ s,c≠13∧c≠10)→(ay S (s++[13,10])).1.wf:=fun s S h5 wf to hs=>by
  rw [dH (s++[13,10]) S h5 (by simp) (by
    rw [show s++[(13 : By),10]=(s++[13])++[10] by simp,List.dropLast_concat]
    exact hG hs)]
  exact jT wf to (by simp) (by
    rw [show s++[(13 : By),10]=(s++[13])++[10] by simp,List.dropLast_concat]
    exact hG hs)
structure Lo where
  i : Nat
  z : Pw
  T : Po
set_option maxHeartbeats 32000000 in
theorem gx (a : ki) (n : Int) (w : World) (ha : a.ok w) (hm : c6 w) : Calls Tryz.prog 6 [a.v,I n].toArray w fun e w'=>e=.returned (.bool true)∧Ext w w':=by
  obtain ⟨k,hk4,hkn⟩ : ∃ k : Nat,k<4∧I (n % 4)=N k:=by
    have h1:=Int.emod_nonneg n (b:=4) (by decide)
    have h2:=Int.emod_lt_of_pos n (b:=4) (by decide)
    refine ⟨(n % 4).toNat,by omega,?_⟩
    show I _=I _
    rw [Int.toNat_of_nonneg h1]
  have hk3 : k≤3:=by omega
  refine enter (n:=87) Tryz.func6 rfl rfl rfl (aa.start w []) ?_
  repeat (first | refine JL.q (by first|(apply OQ.ah (vs:=[]);exact gw;rfl;exact (fun w' hw'=>iP w' (hm.ext hw'.aE)))|(apply OQ.not;rfl)|(apply OQ.assign;rfl)) rfl ?_ | refine JC.seq ?_ | refine JC.region ?_ | refine JL.nil ?_ | refine JE.next ?_)
  refine JC.cond_false rfl rfl ?_
  cases h40 : decide ((40 : Int)<(a.l.length : Nat)) with
  | true=>
    repeat (first | refine JL.q (by first|(apply OQ.len (k:=a.l.length) (ad:=a.ad) (cap:=a.cap);exact Tryz.underlying30;rfl)|(apply OQ.kg (b:=40);rfl;rfl;exact h40)|(apply OQ.move;rfl)) rfl ?_ | refine JC.seq ?_ | refine JC.region ?_ | refine JC.skip ?_ | refine JL.nil ?_ | refine JE.next ?_)
    refine JC.cond_true rfl rfl ?_
    repeat (first | refine JL.q (by (apply OQ.assign;rfl)) rfl ?_ | refine JC.seq ?_ | refine JC.region ?_ | refine JL.nil ?_ | refine JE.next ?_)
    refine JC.ret ?_
    repeat (refine JE.ag ?_)
    exact JE.av rfl (RV.tmp rfl) fun w' hw=>⟨rfl,hw.aE⟩
  | false=>
    have hl40 : a.l.length≤40:=by have:=of_decide_eq_false h40;omega
    repeat (first | refine JL.q (by first|(apply OQ.len (k:=a.l.length) (ad:=a.ad) (cap:=a.cap);exact Tryz.underlying30;rfl)|(apply OQ.kg (b:=40);rfl;rfl;exact h40)|(apply OQ.move;rfl)) rfl ?_ | refine JC.seq ?_ | refine JC.region ?_ | refine JC.skip ?_ | refine JL.nil ?_ | refine JE.next ?_)
    refine JC.cond_false rfl rfl ?_
    repeat (first | refine JC.seq ?_ | refine JC.region ?_ | refine JC.skip ?_ | refine JE.next ?_)
    refine JL.pU (xs:=[.const (Z bM),.const (Z bQ),.const (Z bY),.const (Z cc)]) (vs:=[Z bM,Z bQ,Z bY,Z cc]) Tryz.underlying30 nK rfl rfl rfl rfl (by
      intro v hv
      simp only [List.mem_cons,List.not_mem_nil,or_false] at hv
      rcases hv with rfl | rfl | rfl | rfl <;> rfl) rfl (by decide) (by decide) rfl fun bs _=>?_
    have hsk : ([Z bM,Z bQ,Z bY,Z cc] : List Value)[0+k * 1]?=some (Z (dK k)):=by
      rw [Nat.zero_add,Nat.mul_one]
      obtain rfl | rfl | rfl | rfl : k=0∨k=1∨k=2∨k=3:=by omega
      all_goals rfl
    repeat (first | refine JL.q (by first|(apply OQ.to;exact (OQ.tc (k:=2) (m:=3) (r:=4) (by decide) rfl rfl rfl rfl);exact hkn)|(apply OQ.jo (k:=.i64) (i:=k) (sz:=1);exact Tryz.underlying30;exact jn;rfl;rfl;exact hk4)|(apply OQ.load;exact eV;rfl;exact .here;exact (Row.cell hsk))|(apply OQ.move;rfl)|(apply OQ.assign;rfl)) rfl ?_ | refine JC.seq ?_ | refine JC.region ?_ | refine JL.nil ?_ | refine JE.next ?_)
    refine JL.dy (ι:=Nat) (vs:=[]) (fun b=>Pt b 0) (fun b=>pJ.E b) eo rfl rfl (fun b=>Pw.wr b _) (fun w' _=>e5 w') fun b=>?_
    repeat (first | refine JL.q (by first|(apply OQ.len (k:=a.l.length) (ad:=a.ad) (cap:=a.cap);exact Tryz.underlying30;rfl)|(apply OQ.move;rfl)|(apply OQ.assign;rfl)) rfl ?_ | refine JC.seq ?_ | refine JC.region ?_ | refine JC.block ?_ | refine JL.nil ?_ | refine JE.next ?_)
    obtain ⟨sk,hskd⟩ : ∃ sk,dK k=sk:=⟨_,rfl⟩
    rw [hskd]
    have hskl : sk.length≤10:=by
      rw [← hskd]
      obtain rfl | rfl | rfl | rfl : k=0∨k=1∨k=2∨k=3:=by omega
      · show bM.length≤10;decide
      · show bQ.length≤10;decide
      · show bY.length≤10;decide
      · show cc.length≤10;decide
    have hstb : ∀ l : List Bt,au (dK k) l=(decide (sk.length≤l.length) && decide ((l.take sk.length).map c7=sk)):=fun l=>by rw [kM,hskd]
    refine JC.loop (ι:=Lo) (fun x=>[(0,a.v),(5,Z sk),(6,Pt b 0),(22,a.v),(23,N a.l.length),(24,N x.i)]) (fun x=>x.z.E b) (fun x=>a.l.length - x.i) (fun x=>x.i≤a.l.length∧(x.z.ok∧x.z.is x.T)∧(x.T.wf∧x.T.fit (602 * x.i))∧Inv k x.T) ⟨0,pJ,new⟩ ⟨Nat.zero_le _,⟨pK,pL⟩,⟨oW,lP _⟩,⟨rfl,rfl,.inr (Nat.zero_le _)⟩⟩ (by repeat (first | exact ai.nil | refine ai.cons _ _ _ rfl ?_)) (cO _ _) ?_
    rintro ⟨i,z,T⟩ ⟨hi,⟨zok,zis⟩,⟨Twf,Tfit⟩,Tinv⟩
    dsimp only at hi zok zis Twf Tfit Tinv ⊢
    repeat (first | refine JL.q (by (apply OQ.gp (a:=i) (b:=a.l.length);rfl;rfl)) rfl ?_ | refine JC.seq ?_ | refine JC.region ?_ | refine JL.nil ?_ | refine JE.next ?_)
    refine JC.cond rfl (fun hh=>?_) (fun hh=>?_)
    · have hi' : i<a.l.length:=of_decide_eq_true hh
      clear hh
      obtain ⟨ab,aj,had,hab,hac⟩:=ha.at (by omega)
      have hc:=hac i hi'
      obtain ⟨s,hsd⟩ : ∃ s,a.l.getD i []=s:=⟨_,rfl⟩
      rw [hsd] at hc
      have hav : a.v=.slice (some ⟨ab,aj,none⟩) a.l.length a.cap:=by unfold ki.v;rw [had]
      have hzp : Pt ab (aj+i * 1)=Pt ab (aj+i):=by rw [Nat.mul_one]
      have ccl : ∀ w',aa w [] (z.E b) w'→Calls Tryz.prog 13 [Pt b 0].toArray w' fun e w2=>e=.returned (.bool (decide (z.st=5)))∧Ext w' w2:=fun w' hw'=>ga b z w' ((dU hw').weak (.keep _ _ _ _ _ _ (fun _ h=>h) (.nil _)))
      rw [hav]
      cases h600 : decide ((600 : Int)<(s.length : Nat)) with
      | true=>
        repeat (first | refine JL.q (by first|(apply OQ.to;exact (OQ.jo (k:=.i64) (i:=i) (sz:=1) Tryz.underlying30 jn rfl rfl hi');exact hzp)|(apply OQ.dP (v:=Z s);exact eV;rfl;exact hab;exact (by simp);exact hc)|(apply OQ.bu;exact Tryz.underlying9;rfl)|(apply OQ.kg (b:=600);rfl;rfl;exact h600)|(apply OQ.aN;rfl;rfl)|(apply OQ.move;rfl)|(apply OQ.assign;rfl)) rfl ?_ | refine JC.seq ?_ | refine JC.region ?_ | refine JC.block ?_ | refine JC.skip ?_ | refine JL.nil ?_ | refine JE.next ?_ | refine JL.bh rfl rfl rfl rfl ?_)
        refine JC.cond_true rfl rfl ?_
        repeat (first | refine JL.q (by (apply OQ.assign;rfl)) rfl ?_ | refine JC.seq ?_ | refine JC.region ?_ | refine JL.nil ?_ | refine JE.next ?_)
        refine JC.ret ?_
        repeat (first | refine JE.ag ?_ | refine JE.aJ ?_)
        exact JE.av rfl (RV.tmp rfl) fun w' hw=>⟨rfl,hw.aE⟩
      | false=>
        have hs6 : s.length≤600:=by have:=of_decide_eq_false h600;omega
        cases h5 : decide (z.st=5) with
        | true=>
          rw [h5] at ccl
          repeat (first | refine JL.q (by first|(apply OQ.to;exact (OQ.jo (k:=.i64) (i:=i) (sz:=1) Tryz.underlying30 jn rfl rfl hi');exact hzp)|(apply OQ.dP (v:=Z s);exact eV;rfl;exact hab;exact (by simp);exact hc)|(apply OQ.bu;exact Tryz.underlying9;rfl)|(apply OQ.kg (b:=600);rfl;rfl;exact h600)|(apply OQ.ah (vs:=[Pt b 0]);exact bO;rfl;exact (fun w' hw'=>ccl w' hw'))|(apply OQ.aH;rfl;rfl)|(apply OQ.move;rfl)|(apply OQ.assign;rfl)) rfl ?_ | refine JC.seq ?_ | refine JC.region ?_ | refine JC.block ?_ | refine JC.skip ?_ | refine JL.nil ?_ | refine JE.next ?_ | refine JL.aV rfl rfl ?_)
          refine JC.cond_true rfl rfl ?_
          repeat (first | refine JL.q (by (apply OQ.assign;rfl)) rfl ?_ | refine JC.seq ?_ | refine JC.region ?_ | refine JL.nil ?_ | refine JE.next ?_)
          refine JC.ret ?_
          repeat (first | refine JE.ag ?_ | refine JE.aJ ?_)
          exact JE.av rfl (RV.tmp rfl) fun w' hw=>⟨rfl,hw.aE⟩
        | false=>
          rw [h5] at ccl
          have h5' : T.st≠5:=fun e=>of_decide_eq_false h5 (zis.st.trans e)
          repeat (first | refine JL.q (by first|(apply OQ.to;exact (OQ.jo (k:=.i64) (i:=i) (sz:=1) Tryz.underlying30 jn rfl rfl hi');exact hzp)|(apply OQ.dP (v:=Z s);exact eV;rfl;exact hab;exact (by simp);exact hc)|(apply OQ.bu;exact Tryz.underlying9;rfl)|(apply OQ.kg (b:=600);rfl;rfl;exact h600)|(apply OQ.ah (vs:=[Pt b 0]);exact bO;rfl;exact (fun w' hw'=>ccl w' hw'))|(apply OQ.aH;rfl;rfl)|(apply OQ.move;rfl)|(apply OQ.assign;rfl)) rfl ?_ | refine JC.seq ?_ | refine JC.region ?_ | refine JC.block ?_ | refine JC.skip ?_ | refine JL.nil ?_ | refine JE.next ?_ | refine JL.aV rfl rfl ?_)
          refine JC.cond_false rfl rfl ?_
          refine JC.skip (JE.next ?_)
          refine JC.mid (ι:=Unit) (fun _=>[(0,a.v),(5,Z sk),(6,Pt b 0),(22,a.v),(23,N a.l.length),(24,N i),(8,Z s)]) (fun _=>z.E b) (fun _=>∀ c ∈ s,c≠13∧c≠10) ?_ ?_
          · repeat (first | refine JL.q (by (apply OQ.assign;rfl)) rfl ?_ | refine JC.seq ?_ | refine JC.region ?_ | refine JC.block ?_ | refine JL.nil ?_ | refine JE.next ?_)
            refine JC.loop (fun j : Nat=>[(0,a.v),(5,Z sk),(6,Pt b 0),(22,a.v),(23,N a.l.length),(24,N i),(8,Z s),(9,N j)]) (fun _=>z.E b) (fun j=>s.length - j) (fun j=>j≤s.length∧∀ c ∈ s.take j,c≠13∧c≠10) 0 ⟨Nat.zero_le _,by simp⟩ (by rw [hav];exact (by repeat (first | exact ai.nil | refine ai.cons _ _ _ rfl ?_))) (ak.refl _) ?_
            rintro j ⟨hj,hno⟩
            repeat (first | refine JL.q (by first|(apply OQ.bu;exact Tryz.underlying9;rfl)|(apply OQ.gp (a:=j) (b:=s.length);rfl;rfl)|(apply OQ.move;rfl)) rfl ?_ | refine JC.seq ?_ | refine JC.region ?_ | refine JL.nil ?_ | refine JE.next ?_)
            refine JC.cond rfl (fun hh=>?_) (fun hh=>?_)
            · have hj' : j<s.length:=of_decide_eq_true hh
              clear hh
              have htk:=aq.bq s hj'
              cases c13 : decide (s.getD j 0=13) with
              | true=>
                repeat (first | refine JL.q (by first|(apply OQ.jb (i:=j);exact Tryz.underlying9;rfl;rfl;exact hj')|(apply OQ.bw (b:=13);rfl;rfl;exact c13)|(apply OQ.aN;rfl;rfl)|(apply OQ.move;rfl)) rfl ?_ | refine JC.seq ?_ | refine JC.region ?_ | refine JC.block ?_ | refine JC.skip ?_ | refine JL.nil ?_ | refine JE.next ?_ | refine JL.bh rfl rfl rfl rfl ?_)
                refine JC.cond_true rfl rfl ?_
                repeat (first | refine JL.q (by (apply OQ.assign;rfl)) rfl ?_ | refine JC.seq ?_ | refine JC.region ?_ | refine JL.nil ?_ | refine JE.next ?_)
                refine JC.ret ?_
                repeat (first | refine JE.ag ?_ | refine JE.aJ ?_)
                exact JE.av rfl (RV.tmp rfl) fun w' hw=>⟨rfl,hw.aE⟩
              | false=>
                cases c10 : decide (s.getD j 0=10) with
                | true=>
                  repeat (first | refine JL.q (by first|(apply OQ.jb (i:=j);exact Tryz.underlying9;rfl;rfl;exact hj')|(apply OQ.bw (b:=13);rfl;rfl;exact c13)|(apply OQ.bw (b:=10);rfl;rfl;exact c10)|(apply OQ.aH;rfl;rfl)|(apply OQ.move;rfl)) rfl ?_ | refine JC.seq ?_ | refine JC.region ?_ | refine JC.block ?_ | refine JC.skip ?_ | refine JL.nil ?_ | refine JE.next ?_ | refine JL.aV rfl rfl ?_)
                  refine JC.cond_true rfl rfl ?_
                  repeat (first | refine JL.q (by (apply OQ.assign;rfl)) rfl ?_ | refine JC.seq ?_ | refine JC.region ?_ | refine JL.nil ?_ | refine JE.next ?_)
                  refine JC.ret ?_
                  repeat (first | refine JE.ag ?_ | refine JE.aJ ?_)
                  exact JE.av rfl (RV.tmp rfl) fun w' hw=>⟨rfl,hw.aE⟩
                | false=>
                  repeat (first | refine JL.q (by first|(apply OQ.jb (i:=j);exact Tryz.underlying9;rfl;rfl;exact hj')|(apply OQ.bw (b:=13);rfl;rfl;exact c13)|(apply OQ.bw (b:=10);rfl;rfl;exact c10)|(apply OQ.aH;rfl;rfl)|(apply OQ.move;rfl)) rfl ?_ | refine JC.seq ?_ | refine JC.region ?_ | refine JC.block ?_ | refine JC.skip ?_ | refine JL.nil ?_ | refine JE.next ?_ | refine JL.aV rfl rfl ?_)
                  refine JC.cond_false rfl rfl ?_
                  repeat (first | refine JL.q (by first|(apply OQ.move;rfl)|(apply OQ.assign;rfl)|(apply OQ.cr;rfl;rfl;exact (by (try simp only []);omega))) rfl ?_ | refine JC.region ?_ | refine JC.skip ?_ | refine JL.nil ?_ | refine JE.next ?_ | refine JE.an ?_)
                  refine JE.again (j+1) ⟨hj',fun c hcm=>?_⟩ (by omega) (by repeat (first | exact ai.nil | refine ai.cons _ _ _ rfl ?_)) (ak.refl _)
                  rw [htk] at hcm
                  rcases List.mem_append.1 hcm with h1 | h1
                  · exact hno c h1
                  · rw [List.mem_singleton.1 h1]
                    exact ⟨of_decide_eq_false c13,of_decide_eq_false c10⟩
            · have hj' : j=s.length:=by have:=of_decide_eq_false hh;omega
              subst hj'
              rw [List.take_length] at hno
              repeat (first | refine JC.exit ?_ | refine JE.aU ?_ | refine JE.bt ?_)
              exact JE.mid () hno (by repeat (first | exact ai.nil | refine ai.cons _ _ _ rfl ?_)) (ak.refl _)
          · rintro ⟨⟩ hno
            have hst:=hstb s
            cases hge : decide ((sk.length : Int)≤(s.length : Int)) with
            | false=>
              have hno2 : au (dK k) s=false:=by rw [hst,decide_eq_false (by have:=of_decide_eq_false hge;omega),Bool.false_and]
              repeat (first | refine JL.q (by first|(apply OQ.bu;exact Tryz.underlying9;rfl)|(apply OQ.bK;rfl;rfl;exact hge)|(apply OQ.aH;rfl;rfl)|(apply OQ.move;rfl)) rfl ?_ | refine JC.seq ?_ | refine JC.region ?_ | refine JL.nil ?_ | refine JE.next ?_ | refine JL.bh rfl rfl rfl rfl ?_)
              refine JC.cond_false rfl rfl ?_
              repeat (first | refine JL.q (by first|(apply OQ.jc (l:=s) (r:=[13,10]);rfl;rfl;exact (by show s.length+2<_;omega))|(apply OQ.move;rfl)) rfl ?_ | refine JC.seq ?_ | refine JC.region ?_ | refine JC.skip ?_ | refine JE.next ?_)
              refine JL.tQ (r:=s++[13,10]) Tryz.underlying9 rfl Tryz.underlying22 Tryz.underlying5 rfl rfl fun b1 cap1 _=>?_
              refine JL.perm (M':=z.E b++[⟨b1,e8 5 (s++[13,10]).length cap1 ((s++[13,10]).map U8),true⟩]) ?_ (aG fun _ _ v=>by simp only [List.count_append,List.count_cons,List.count_nil];omega)
              obtain ⟨hin,o,hout,hol,ho9⟩:=Tinv.line hk3 h5' Tfit.to s (fun c hc=>(hno c hc).2) hno2
              have ho9 : o.length≤9:=ho9 ▸ iN T s
              have hwf2:=lR s T h5' Twf Tfit.to hno
              have hft2:=fJ (s++[13,10]) T _ Tfit
              have hsl : (s++[(13 : Bt),10]).length=s.length+2:=by rw [List.length_append];rfl
              refine JL.feed z T ⟨some ⟨b1,0,none⟩,cap1,s++[13,10]⟩ zok zis Twf (by show (s++[13,10]).length≤_;omega) (Tfit.mono (by show 602 * i≤900000 - (s++[13,10]).length;omega)) ⟨hm,by simp⟩ (fun w' hw'=>⟨?_,?_⟩) rfl rfl rfl fun z' q h1 h2 h3=>?_
              · exact lQ hw' (ry .here)
              · exact gj hw' .here
              rw [show (⟨some ⟨b1,0,none⟩,cap1,s++[13,10]⟩ : aM).l=s++[13,10] from rfl,hout] at h3 ⊢
              rw [show (⟨some ⟨b1,0,none⟩,cap1,s++[13,10]⟩ : aM).l=s++[13,10] from rfl] at h2
              generalize (ay T (s++[13,10])).1=T2 at h2 hin hwf2 hft2
              have hlv:=fA q (o++[13,10])
              have hll:=ie h3
              have hoo : (o++[(13 : Bt),10]).length=o.length+2:=by rw [List.length_append];rfl
              have hb2 : ∀ w',aa w [] (z'.E b++(aA 5 q ((o++[13,10]).map U8)++[⟨b1,e8 5 (s++[13,10]).length cap1 ((s++[13,10]).map U8),true⟩])) w'→(bP q (o++[13,10])).ok w':=fun w' hw'=>cP (e:=5) (M:=[⟨b1,e8 5 (s++[13,10]).length cap1 ((s++[13,10]).map U8),true⟩]++z'.E b) (hw'.perm' (aG fun _ _ v=>by simp only [List.count_append,List.count_cons,List.count_nil];omega))
              have hdr : ((bP q (o++[13,10])).snd ((o++[13,10]).length - 2)).l=[13,10]:=by
                show (bP q (o++[13,10])).l.drop _=_
                rw [hll,hoo,Nat.add_sub_cancel]
                exact List.drop_left
              rw [← hlv]
              generalize hac2 : bP q (o++[13,10])=ac at hlv hll hb2 hdr ⊢
              rw [show (o++[(13 : Bt),10]).length=ac.l.length by rw [hll]] at hdr
              have hacl : ac.l.length=o.length+2:=by rw [hll,hoo]
              repeat (first | refine JL.q (by first|(apply OQ.len (k:=ac.l.length) (ad:=ac.ad) (cap:=ac.cap);exact Tryz.underlying22;rfl)|(apply OQ.j3 (a:=ac.l.length) (b:=5);rfl;rfl;exact (by omega))|(apply OQ.hO (a:=ac.l.length) (b:=2);rfl;rfl;exact (by omega);exact (by omega))|(apply OQ.snd (s:=ac) (m:=ac.l.length - 2);exact Tryz.underlying22;exact eO;rfl;rfl;exact (by omega))|(apply OQ.nq (s:=ac.snd (ac.l.length - 2));exact Tryz.underlying22;exact Tryz.underlying5;exact Tryz.underlying9;rfl;exact (fun w' hw'=>(hb2 w' hw').snd _ (by omega)))|(apply OQ.ez (r:=[13,10]);rfl;rfl;exact (decide_eq_true hdr))|(apply OQ.aH;rfl;rfl)|(apply OQ.move;rfl)|(apply OQ.assign;rfl)) rfl ?_ | refine JC.seq ?_ | refine JC.region ?_ | refine JL.nil ?_ | refine JE.next ?_ | refine JL.aV rfl rfl ?_)
              refine JC.cond_false rfl rfl ?_
              repeat (first | refine JL.q (by first|(apply OQ.move;rfl)|(apply OQ.cr;rfl;rfl;exact (by (try simp only []);omega))) rfl ?_ | refine JC.region ?_ | refine JC.skip ?_ | refine JL.nil ?_ | refine JE.next ?_ | refine JE.an ?_)
              refine JE.again (i:=(⟨i,z,T⟩ : Lo)) (⟨i+1,z',T2⟩ : Lo) ⟨hi',⟨h1,h2⟩,⟨hwf2,hft2.mono (by show 602 * i+(s++[13,10]).length≤602 * (i+1);omega)⟩,hin⟩ (by show a.l.length - (i+1)<a.l.length - i;omega) (by rw [hav];exact (by repeat (first | exact ai.nil | refine ai.cons _ _ _ rfl ?_))) (cO _ _)
            | true=>
              have hge' : sk.length≤s.length:=by have:=of_decide_eq_true hge;omega
              have cB:=fun w'=>pM (s.take sk.length) w' (by rw [List.length_take];omega)
              cases heq : decide ((s.take sk.length).map c7=sk) with
              | true=>
                repeat (first | refine JL.q (by first|(apply OQ.bu;exact Tryz.underlying9;rfl)|(apply OQ.bK;rfl;rfl;exact hge)|(apply OQ.aN;rfl;rfl)|(apply OQ.bI (j:=sk.length);exact Tryz.underlying9;rfl;rfl;exact hge')|(apply OQ.ah (vs:=[Z (s.take sk.length)]);exact jX;rfl;exact (fun w' _=>cB w'))|(apply OQ.gu;rfl;rfl;exact heq)|(apply OQ.move;rfl)) rfl ?_ | refine JC.seq ?_ | refine JC.region ?_ | refine JL.nil ?_ | refine JE.next ?_ | refine JL.aV rfl rfl ?_)
                refine JC.cond_true rfl rfl ?_
                repeat (first | refine JL.q (by first|(apply OQ.move;rfl)|(apply OQ.cr;rfl;rfl;exact (by (try simp only []);omega))) rfl ?_ | refine JC.region ?_ | refine JC.exit ?_ | refine JL.nil ?_ | refine JE.next ?_ | refine JE.aU ?_ | refine JE.bt ?_)
                refine JE.again (i:=(⟨i,z,T⟩ : Lo)) (⟨i+1,z,T⟩ : Lo) ⟨hi',⟨zok,zis⟩,⟨Twf,Tfit.mono (by show _≤602 * (i+1);omega)⟩,Tinv⟩ (by show a.l.length - (i+1)<a.l.length - i;omega) (by rw [hav];exact (by repeat (first | exact ai.nil | refine ai.cons _ _ _ rfl ?_))) (ak.refl _)
              | false=>
                have hno2 : au (dK k) s=false:=by rw [hst,heq,Bool.and_false]
                repeat (first | refine JL.q (by first|(apply OQ.bu;exact Tryz.underlying9;rfl)|(apply OQ.bK;rfl;rfl;exact hge)|(apply OQ.aN;rfl;rfl)|(apply OQ.bI (j:=sk.length);exact Tryz.underlying9;rfl;rfl;exact hge')|(apply OQ.ah (vs:=[Z (s.take sk.length)]);exact jX;rfl;exact (fun w' _=>cB w'))|(apply OQ.gu;rfl;rfl;exact heq)|(apply OQ.move;rfl)) rfl ?_ | refine JC.seq ?_ | refine JC.region ?_ | refine JL.nil ?_ | refine JE.next ?_ | refine JL.aV rfl rfl ?_)
                refine JC.cond_false rfl rfl ?_
                repeat (first | refine JL.q (by first|(apply OQ.jc (l:=s) (r:=[13,10]);rfl;rfl;exact (by show s.length+2<_;omega))|(apply OQ.move;rfl)) rfl ?_ | refine JC.seq ?_ | refine JC.region ?_ | refine JC.skip ?_ | refine JE.next ?_)
                refine JL.tQ (r:=s++[13,10]) Tryz.underlying9 rfl Tryz.underlying22 Tryz.underlying5 rfl rfl fun b1 cap1 _=>?_
                refine JL.perm (M':=z.E b++[⟨b1,e8 5 (s++[13,10]).length cap1 ((s++[13,10]).map U8),true⟩]) ?_ (aG fun _ _ v=>by simp only [List.count_append,List.count_cons,List.count_nil];omega)
                obtain ⟨hin,o,hout,hol,ho9⟩:=Tinv.line hk3 h5' Tfit.to s (fun c hc=>(hno c hc).2) hno2
                have ho9 : o.length≤9:=ho9 ▸ iN T s
                have hwf2:=lR s T h5' Twf Tfit.to hno
                have hft2:=fJ (s++[13,10]) T _ Tfit
                have hsl : (s++[(13 : Bt),10]).length=s.length+2:=by rw [List.length_append];rfl
                refine JL.feed z T ⟨some ⟨b1,0,none⟩,cap1,s++[13,10]⟩ zok zis Twf (by show (s++[13,10]).length≤_;omega) (Tfit.mono (by show 602 * i≤900000 - (s++[13,10]).length;omega)) ⟨hm,by simp⟩ (fun w' hw'=>⟨?_,?_⟩) rfl rfl rfl fun z' q h1 h2 h3=>?_
                · exact lQ hw' (ry .here)
                · exact gj hw' .here
                rw [show (⟨some ⟨b1,0,none⟩,cap1,s++[13,10]⟩ : aM).l=s++[13,10] from rfl,hout] at h3 ⊢
                rw [show (⟨some ⟨b1,0,none⟩,cap1,s++[13,10]⟩ : aM).l=s++[13,10] from rfl] at h2
                generalize (ay T (s++[13,10])).1=T2 at h2 hin hwf2 hft2
                have hlv:=fA q (o++[13,10])
                have hll:=ie h3
                have hoo : (o++[(13 : Bt),10]).length=o.length+2:=by rw [List.length_append];rfl
                have hb2 : ∀ w',aa w [] (z'.E b++(aA 5 q ((o++[13,10]).map U8)++[⟨b1,e8 5 (s++[13,10]).length cap1 ((s++[13,10]).map U8),true⟩])) w'→(bP q (o++[13,10])).ok w':=fun w' hw'=>cP (e:=5) (M:=[⟨b1,e8 5 (s++[13,10]).length cap1 ((s++[13,10]).map U8),true⟩]++z'.E b) (hw'.perm' (aG fun _ _ v=>by simp only [List.count_append,List.count_cons,List.count_nil];omega))
                have hdr : ((bP q (o++[13,10])).snd ((o++[13,10]).length - 2)).l=[13,10]:=by
                  show (bP q (o++[13,10])).l.drop _=_
                  rw [hll,hoo,Nat.add_sub_cancel]
                  exact List.drop_left
                rw [← hlv]
                generalize hac2 : bP q (o++[13,10])=ac at hlv hll hb2 hdr ⊢
                rw [show (o++[(13 : Bt),10]).length=ac.l.length by rw [hll]] at hdr
                have hacl : ac.l.length=o.length+2:=by rw [hll,hoo]
                repeat (first | refine JL.q (by first|(apply OQ.len (k:=ac.l.length) (ad:=ac.ad) (cap:=ac.cap);exact Tryz.underlying22;rfl)|(apply OQ.j3 (a:=ac.l.length) (b:=5);rfl;rfl;exact (by omega))|(apply OQ.hO (a:=ac.l.length) (b:=2);rfl;rfl;exact (by omega);exact (by omega))|(apply OQ.snd (s:=ac) (m:=ac.l.length - 2);exact Tryz.underlying22;exact eO;rfl;rfl;exact (by omega))|(apply OQ.nq (s:=ac.snd (ac.l.length - 2));exact Tryz.underlying22;exact Tryz.underlying5;exact Tryz.underlying9;rfl;exact (fun w' hw'=>(hb2 w' hw').snd _ (by omega)))|(apply OQ.ez (r:=[13,10]);rfl;rfl;exact (decide_eq_true hdr))|(apply OQ.aH;rfl;rfl)|(apply OQ.move;rfl)|(apply OQ.assign;rfl)) rfl ?_ | refine JC.seq ?_ | refine JC.region ?_ | refine JL.nil ?_ | refine JE.next ?_ | refine JL.aV rfl rfl ?_)
                refine JC.cond_false rfl rfl ?_
                repeat (first | refine JL.q (by first|(apply OQ.move;rfl)|(apply OQ.cr;rfl;rfl;exact (by (try simp only []);omega))) rfl ?_ | refine JC.region ?_ | refine JC.skip ?_ | refine JL.nil ?_ | refine JE.next ?_ | refine JE.an ?_)
                refine JE.again (i:=(⟨i,z,T⟩ : Lo)) (⟨i+1,z',T2⟩ : Lo) ⟨hi',⟨h1,h2⟩,⟨hwf2,hft2.mono (by show 602 * i+(s++[13,10]).length≤602 * (i+1);omega)⟩,hin⟩ (by show a.l.length - (i+1)<a.l.length - i;omega) (by rw [hav];exact (by repeat (first | exact ai.nil | refine ai.cons _ _ _ rfl ?_))) (cO _ _)
    · have hi' : i=a.l.length:=by have:=of_decide_eq_false hh;omega
      have hz0 : z.zs=[]:=by
        have h1:=zis.ms
        rw [Tinv.ms] at h1
        exact List.map_eq_nil_iff.1 h1
      have cm : ∀ w',aa w [] (z.E b) w'→Calls Tryz.prog 12 [Pt b 0].toArray w' fun e w2=>∃ q : Acc,e=.returned (af q 0)∧aa w' [] [] w2:=fun w' hw'=>
        (kS b z hz0 w' ((dU hw').weak (.keep _ _ _ _ _ _ (fun _ h=>h) (.nil _)))).mono fun e w2 ⟨q,h1,h2⟩=>⟨q,h1,⟨h2,by simp,by simp⟩⟩
      repeat (first | refine JL.q (by (apply OQ.move;rfl)) rfl ?_ | refine JC.seq ?_ | refine JC.region ?_ | refine JC.exit ?_ | refine JE.next ?_ | refine JE.aU ?_ | refine JE.bt ?_)
      refine JL.dy (ι:=Acc) (vs:=[Pt b 0]) (fun q=>af q 0) (fun _=>[]) kP rfl rfl (fun _ _ h=>by cases h) (fun w' hw'=>cm w' hw') fun q=>?_
      repeat (first | refine JL.q (by first|(apply OQ.e7;exact Tryz.underlying31;exact (fun _=>rfl);rfl)|(apply OQ.fZ (a:=0) (b:=0);rfl;rfl;rfl)|(apply OQ.assign;rfl)) rfl ?_ | refine JL.nil ?_ | refine JE.next ?_)
      refine JC.ret ?_
      skip
      exact JE.av rfl (RV.tmp rfl) fun w' hw=>⟨rfl,hw.aE⟩
end de
end
section
set_option maxRecDepth 10000
open Go.ChangeShapes Go.WideShapes Go.ChangeAt Go.RowKit
open Sl
set_option linter.unusedVariables false
theorem tF : ownKnob Tryz.prog.godebug=none:=by kernel_rfl
theorem pN : laidOutB Tryz.prog=true:=by kernel_rfl
end
section
set_option maxRecDepth 10000
open Go.ChangeShapes Go.WideShapes Go.ChangeAt Go.RowKit
open Sl
set_option linter.unusedVariables false
set_option maxRecDepth 100000
theorem kT : ((Rows.talkOrderRow.laid).all fun x=>x.2.handleName?.isNone)=true:=by kernel_rfl
theorem qC (os : Os) (args : Array Value) : laidMetH Tryz.prog Rows.talkOrderRow.laid ((World.laidAll Tryz.prog os Rows.talkOrderRow.laid).forCall (fun _ _=>0) ⟨#[],args,[]⟩).memory:=by
  rw [MakeChecks.laidMetH_plain _ _ _ kT]
  exact laidMet_laidAll _ (by kernel_rfl) (by kernel_rfl)
theorem nk (os : Os) : (World.laidAll Tryz.prog os Rows.talkOrderRow.laid).Shaped Tryz.prog:=World.shaped_of_ZipB (by kernel_rfl) (by kernel_rfl)
theorem dL {H : Type} {enc : TypeId × Value→H} {a : Assume} {C : Checked} {os : Os} {f : FuncId} {fn : Func} {s : ChangeSpec} {conds : List PathCond} {apart fresh handsOn again : Bool} {X : World→Array Value→Prop}
    (hX : ∀ (w w' : World) (args : Array Value),w.heap=w'.heap→X w args→X w' args)
    (own : ownKnob C.prog.godebug=none) (started : os.Started) (noInit : C.prog.inits.idxOf? f=none) (hfn : C.prog.funcs[f]?=some fn)
    (witness : ∃ (w : World) (tape : Tape) (i : Input),w.os=os∧(w.forCall tape i).Shaped C.prog∧i.vars=[]∧Input.okWide C.prog (w.forCall tape i) .any w.heap.size f i∧
      ((s.pre enc C.prog fn conds apart (w.forCall tape i).memory i.args∧X (w.forCall tape i).memory i.args)∧sizedMet enc C.prog fn (OpenSpec.ofChange s) apart (w.forCall tape i).memory i.args)∧a.holds C.prog (lone (Frame.enter C.prog f i.args .normal) [] (w.forCall tape i)))
    (contract : ∀ (W : World) (base : Nat) (args : Array Value) (ds gs : List (DataW H)) (before : List MemPlace),
      (∀ (j : Nat) t v,fn.params[j]?=some t→args[j]?=some v→Value.okWide C.prog W .any base t v)→
      DataW.Whole enc C.prog fn.params.toList s.vars apart W args.toList ds gs before→
      conds.all (PathCond.test C.prog ⟨fn.params.toList,ds,s.plain.varTypes C.prog,gs⟩)=true→
      (DataW.weightsEach C.prog (fn.params.toList++s.plain.varTypes C.prog) (ds++gs)).all (·≤reachBytes)=true→X W args→W.ShapedOpen C.prog→
      Calls C.prog f args W fun e W'=>∃ v,e=.returned v∧s.post enc C.prog fn apart fresh handsOn again W args v W') :
    ReturnsInHanded a C os f .any (fun w args=>(s.pre enc C.prog fn conds apart w args∧X w args)∧sizedMet enc C.prog fn (OpenSpec.ofChange s) apart w args) (s.post enc C.prog fn apart fresh handsOn again):=
  returnsInHanded_of_calls own started noInit witness fun w tape i _ hsh _ hok hpre _=>by
    obtain ⟨_,_,_,fn',hfn',_,_,_,_,hval⟩:=hok
    obtain rfl : fn'=fn:=Option.some.inj (hfn'.symm.trans hfn)
    obtain ⟨⟨⟨ds,gs,before,hw,hc⟩,hx⟩,hz⟩:=hpre
    have hw':=DataW.Whole.of_heap (w':=w.forCall tape i) (by rfl) hw
    refine (contract (w.forCall tape i) w.heap.size i.args ds gs before hval hw' hc (hz.weights hw) (hX _ _ _ (by rfl) hx) hsh).mono fun e W' ⟨v,he,hp⟩=>?_
    subst he
    exact ChangeSpec.post_blind hp
end
section
set_option maxRecDepth 10000
open Go.ChangeShapes Go.WideShapes Go.ChangeAt Go.RowKit
open Sl
set_option linter.unusedVariables false
theorem rT {H : Type} {enc : TypeId × Value→H} {W : World} {fuel : Nat} {v : Value} {x : DataW H × List MemPlace} (hu : Tryz.prog.underlying 30=some (.slice 9)) (hs : Tryz.prog.underlying 9=some .string) (cs : Tryz.prog.cellsOf 9=1)
    (h : DataW.trod enc Tryz.prog W 0 (fun _=>true) true fuel 30 [v]=some x) : ∃ ad cap,∃ l : List (List Bt),v=.slice ad l.length cap∧l.length≤cap∧Reads W ad (l.map Z):=by
  rcases Go.ChangeShapes.open_strings hu hs cs h with ⟨hcs,_⟩ | ⟨a,len,cap,ss,hcs,_,hl,hm,hlen,_,hcell,hsz⟩
  · cases hcs
    exact ⟨none,0,[],rfl,Nat.le_refl _,Reads.nil _ _⟩
  · cases hcs
    simp only [if_true] at hlen
    have hll : ((ss.take len).map bytesOf).length=len:=by rw [List.length_map,List.length_take];omega
    refine ⟨some a,cap,(ss.take len).map bytesOf,by rw [hll],by rw [hll];exact hl,?_⟩
    intro i v hv
    have hi : i<len:=by
      have:=(List.getElem?_eq_some_iff.1 hv).1
      rwa [List.length_map,hll] at this
    have hc:=hcell i (by omega)
    obtain ⟨b,o,sp⟩:=a
    cases sp with
    | some s=>
      have hc:=hcell 0 (by omega)
      simp only [World.cell?,Addr.add,if_true] at hc
      split at hc <;> simp at hc
    | none=>
      refine ⟨b,o,rfl,?_⟩
      have e3 : v=.string (ss.getD i ByteArray.empty):=by
        rw [List.map_map,List.getElem?_map,List.getElem?_take,if_pos hi,List.getElem?_eq_getElem (by omega)] at hv
        simp only [Option.map_some,Function.comp,Option.some.injEq] at hv
        rw [← hv,List.getD_eq_getElem?_getD,List.getElem?_eq_getElem (by omega)]
        show Value.string (aD (bytesOf _))=_
        rw [ic]
        rfl
      rw [e3]
      have e4 : (⟨b,o,none⟩ : Addr).add i=⟨b,o+i,none⟩:=by
        unfold Addr.add
        split
        · subst i;rfl
        · rfl
      rw [e4] at hc
      exact hc
end
end Go.Proofs.YtjeeilmkjjbonaaGreatDoor
