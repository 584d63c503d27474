/-
  Of no statement by itself: the texts TokX, TkC, Shpx, TalB, TalC, FieW, FibA, TalD, LinB, LinC, LinW, LinA, LinH, LinY, Slfl, LinI, LinM in one.
  Conditions: each theorem's own.
-/
import Derived.Test.YtjeeilmkjjbonaaGreatDoorPb
import Derived.Laws.Cover3
import Derived.Shelf.Bytes.SlCut
import Derived.Laws.ComplexArith
set_option linter.unusedSimpArgs false
set_option linter.unusedVariables false
namespace Go.Proofs.YtjeeilmkjjbonaaGreatDoor
section
set_option maxRecDepth 10000
open Sl aI Tok
theorem lC : aO Tryz.prog 112:=⟨_,Tryz.func112,rfl,by kernel_rfl⟩
theorem jc : aO Tryz.prog 113:=⟨_,Tryz.func113,rfl,by kernel_rfl⟩
theorem sJ : ∀ c : aI.By,bl c=(decide ((c.toNat : Int)=32) || decide ((c.toNat : Int)=9)):=by
  have h : ∀ c : Fin 256,bl (BitVec.ofNat 8 c.val)=(decide (((BitVec.ofNat 8 c.val).toNat : Int)=32) || decide (((BitVec.ofNat 8 c.val).toNat : Int)=9)):=by decide +kernel
  intro c
  simpa using h ⟨c.toNat,c.isLt⟩
theorem pO : ∀ {v : List aI.By},0<v.length→bl (v.getD 0 0)=true→bO (v.drop 1)=bO v
  | [],h,_=>by simp at h
  | c::r,_,h=>by
    have h' : bl c=true:=h
    show bO r=List.dropWhile bl (c::r)
    rw [List.dropWhile_cons,if_pos h'];rfl
theorem iH : ∀ {v : List aI.By},(0<v.length→bl (v.getD 0 0)=false)→bO v=v
  | [],_=>rfl
  | c::r,h=>by
    have h' : bl c=false:=h (by simp)
    show List.dropWhile bl (c::r)=_
    rw [List.dropWhile_cons,if_neg (by rw [h'];decide)]
theorem rev_last {v : List aI.By} (h : 0<v.length) : v.reverse=v.getD (v.length - 1) 0::(v.take (v.length - 1)).reverse:=by
  have h1:=cx v (i:=v.length - 1) (by omega)
  rw [show v.length - 1+1=v.length by omega,List.take_length] at h1
  conv=>lhs;rw [h1]
  simp
theorem wB {v : List aI.By} (h : 0<v.length) (hb : bl (v.getD (v.length - 1) 0)=true) : bO (v.take (v.length - 1)).reverse=bO v.reverse:=by
  rw [rev_last h]
  exact pO (v:=_::_) (by simp) hb
theorem lD {v : List aI.By} (h : 0<v.length→bl (v.getD (v.length - 1) 0)=false) : bO v.reverse=v.reverse:=
  iH fun h0=>by
    rw [List.length_reverse] at h0
    rw [rev_last h0]
    exact h h0
theorem fZ (s : List aI.By) : (trim s).length≤s.length:=by
  have h : ∀ l : List aI.By,(bO l).length≤l.length:=fun l=>(List.dropWhile_sublist _).length_le
  have h1:=h s
  have h2:=h (bO s).reverse
  simp only [trim,List.length_reverse] at h2 ⊢
  omega
set_option maxHeartbeats 16000000 in
theorem mL (s : List aI.By) (w : World) (hl : s.length<9223372036854775808) : Calls Tryz.prog 112 [Z s].toArray w fun e w'=>e=.returned (Z (trim s))∧Ext w w':=by
  refine enter (n:=43) Tryz.func112 rfl rfl rfl (aa.start w []) ?_
  repeat (first | refine JL.q (by (apply OQ.assign;rfl)) rfl ?_ | refine JC.seq ?_ | refine JC.region ?_ | refine JC.block ?_ | refine JL.nil ?_ | refine JE.next ?_)
  refine JC.aE (ι:=Unit) (fun _=>[(0,Z (bO s))]) (fun _=>[]) (fun _=>True) ?_ ?_
  · refine JC.loop (fun v : List aI.By=>[(0,Z v)]) (fun _=>[]) (fun v=>v.length) (fun v=>v.length≤s.length∧bO v=bO s) s ⟨Nat.le_refl _,rfl⟩ (by repeat (first | exact af.nil | refine af.cons _ _ _ rfl ?_)) (aq.refl _) ?_
    rintro v ⟨hv,ht⟩
    cases h0 : decide ((0 : Int)<(v.length : Int))
    case true=>
      have hp : 0<v.length:=by have:=of_decide_eq_true h0;omega
      have hidx:=fun {n : Nat} {E : Env} {C : World→Prop} {dst : Option Tmp} {ty : TypeId} {pos : String} {aft : Array Edge} {g : Option (Nat × Bool)} {x y : Operand}=>cY hp (n:=n) (E:=E) (C:=C) (dst:=dst) (ty:=ty) (pos:=pos) (aft:=aft) (g:=g) (x:=x) (y:=y)
      have hgo:=pO hp
      have hst:=iH (v:=v)
      have hb:=sJ (v.getD 0 0)
      generalize v.getD 0 0=c at hidx hgo hst hb
      cases h1 : decide ((c.toNat : Int)=32) <;> cases h2 : decide ((c.toNat : Int)=9)
      all_goals (
        rw [h1,h2] at hb
        (repeat (first | refine JL.q (by first|(apply OQ.bC;exact Tryz.underlying9;rfl)|(apply OQ.cW (b:=0);rfl;rfl;exact h0)|(apply hidx;rfl;rfl)|(apply OQ.gj (b:=32);rfl;rfl;exact h1)|(apply OQ.gj (b:=9);rfl;rfl;exact h2)|(apply OQ.ay;rfl;rfl)|(apply OQ.au;rfl;rfl)|(apply OQ.move;rfl)) rfl ?_ | refine JC.seq ?_ | refine JC.region ?_ | refine JL.nil ?_ | refine JE.next ?_ | refine JL.aU rfl rfl ?_ | refine JL.aM rfl rfl rfl rfl ?_))
        refine JC.cond rfl (fun h=>?_) (fun h=>?_)
        all_goals first|(exfalso;revert h;decide) | skip
        all_goals clear h)
      case false.false=>
        rw [← ht,hst fun _=>hb]
        (repeat (first | refine JC.exit ?_ | refine JE.av ?_ | refine JE.aF ?_))
        exact JE.mid () trivial (by repeat (first | exact af.nil | refine af.cons _ _ _ rfl ?_)) (aq.refl _)
      all_goals (
        (repeat (first | refine JL.q (by first|(apply OQ.cc (i:=1);exact Tryz.underlying9;rfl;rfl;exact (by omega))|(apply OQ.move;rfl)|(apply OQ.assign;rfl)) rfl ?_ | refine JC.region ?_ | refine JC.block ?_ | refine JC.skip ?_ | refine JL.nil ?_ | refine JE.next ?_ | refine JE.ag ?_))
        refine JE.again (i:=v) (v.drop 1) ⟨by rw [List.length_drop];omega,by rw [hgo hb,ht]⟩ (by rw [List.length_drop];omega) (by repeat (first | exact af.nil | refine af.cons _ _ _ rfl ?_)) (aq.refl _))
    case false=>
      have hn : ¬ 0<v.length:=by have:=of_decide_eq_false h0;omega
      rw [← ht,iH fun h=>absurd h hn]
      repeat (first | refine JL.q (by first|(apply OQ.bC;exact Tryz.underlying9;rfl)|(apply OQ.cW (b:=0);rfl;rfl;exact h0)|(apply OQ.au;rfl;rfl)|(apply OQ.move;rfl)) rfl ?_ | refine JC.seq ?_ | refine JC.region ?_ | refine JL.nil ?_ | refine JE.next ?_ | refine JL.aM rfl rfl rfl rfl ?_ | refine JL.eB rfl rfl rfl rfl ?_)
      refine JC.cond rfl (fun h=>by cases h) (fun h=>?_)
      repeat (first | refine JC.exit ?_ | refine JE.av ?_ | refine JE.aF ?_)
      exact JE.mid () trivial (by repeat (first | exact af.nil | refine af.cons _ _ _ rfl ?_)) (aq.refl _)
  rintro ⟨⟩ _
  have hs1 : (bO s).length≤s.length:=(List.dropWhile_sublist _).length_le
  rw [show trim s=(bO (bO s).reverse).reverse from rfl]
  generalize bO s=u at hs1 ⊢
  repeat (first | refine JC.seq ?_ | refine JC.block ?_)
  refine JC.aE (ι:=Unit) (fun _=>[(0,Z (bO u.reverse).reverse)]) (fun _=>[]) (fun _=>True) ?_ ?_
  · refine JC.loop (fun v : List aI.By=>[(0,Z v)]) (fun _=>[]) (fun v=>v.length) (fun v=>v.length≤s.length∧bO v.reverse=bO u.reverse) u ⟨hs1,rfl⟩ (by repeat (first | exact af.nil | refine af.cons _ _ _ rfl ?_)) (aq.refl _) ?_
    rintro v ⟨hv,ht⟩
    cases h0 : decide ((0 : Int)<(v.length : Int))
    case true=>
      have hp : 0<v.length:=by have:=of_decide_eq_true h0;omega
      have hidx:=fun {n : Nat} {E : Env} {C : World→Prop} {dst : Option Tmp} {ty : TypeId} {pos : String} {aft : Array Edge} {g : Option (Nat × Bool)} {x y : Operand}=>cY (s:=v) (i:=v.length - 1) (by omega) (n:=n) (E:=E) (C:=C) (dst:=dst) (ty:=ty) (pos:=pos) (aft:=aft) (g:=g) (x:=x) (y:=y)
      have hgo:=wB hp
      have hst:=lD (v:=v)
      have hb:=sJ (v.getD (v.length - 1) 0)
      generalize v.getD (v.length - 1) 0=c at hidx hgo hst hb
      cases h1 : decide ((c.toNat : Int)=32) <;> cases h2 : decide ((c.toNat : Int)=9)
      all_goals (
        rw [h1,h2] at hb
        (repeat (first | refine JL.q (by first|(apply OQ.bC;exact Tryz.underlying9;rfl)|(apply OQ.cW (b:=0);rfl;rfl;exact h0)|(apply hidx;rfl;rfl)|(apply OQ.gj (b:=32);rfl;rfl;exact h1)|(apply OQ.gj (b:=9);rfl;rfl;exact h2)|(apply OQ.ay;rfl;rfl)|(apply OQ.au;rfl;rfl)|(apply OQ.move;rfl)|(apply OQ.eu;rfl;rfl;exact (by (try simp only []);omega);exact (by (try simp only []);omega))) rfl ?_ | refine JC.seq ?_ | refine JC.region ?_ | refine JL.nil ?_ | refine JE.next ?_ | refine JL.aU rfl rfl ?_ | refine JL.aM rfl rfl rfl rfl ?_))
        refine JC.cond rfl (fun h=>?_) (fun h=>?_)
        all_goals first|(exfalso;revert h;decide) | skip
        all_goals clear h)
      case false.false=>
        rw [← ht,hst fun _=>hb,List.reverse_reverse]
        (repeat (first | refine JC.exit ?_ | refine JE.av ?_ | refine JE.aF ?_))
        exact JE.mid () trivial (by repeat (first | exact af.nil | refine af.cons _ _ _ rfl ?_)) (aq.refl _)
      all_goals (
        (repeat (first | refine JL.q (by first|(apply OQ.bC;exact Tryz.underlying9;rfl)|(apply OQ.dx (j:=v.length - 1);exact Tryz.underlying9;rfl;rfl;exact (by omega))|(apply OQ.move;rfl)|(apply OQ.assign;rfl)|(apply OQ.eu;rfl;rfl;exact (by (try simp only []);omega);exact (by (try simp only []);omega))) rfl ?_ | refine JC.region ?_ | refine JC.block ?_ | refine JC.skip ?_ | refine JL.nil ?_ | refine JE.next ?_ | refine JE.ag ?_))
        refine JE.again (i:=v) (v.take (v.length - 1)) ⟨by rw [List.length_take];omega,by rw [hgo hb,ht]⟩ (by rw [List.length_take];omega) (by repeat (first | exact af.nil | refine af.cons _ _ _ rfl ?_)) (aq.refl _))
    case false=>
      have hn : ¬ 0<v.length:=by have:=of_decide_eq_false h0;omega
      rw [← ht,lD fun h=>absurd h hn,List.reverse_reverse]
      repeat (first | refine JL.q (by first|(apply OQ.bC;exact Tryz.underlying9;rfl)|(apply OQ.cW (b:=0);rfl;rfl;exact h0)|(apply OQ.au;rfl;rfl)|(apply OQ.move;rfl)) rfl ?_ | refine JC.seq ?_ | refine JC.region ?_ | refine JL.nil ?_ | refine JE.next ?_ | refine JL.aM rfl rfl rfl rfl ?_ | refine JL.eB rfl rfl rfl rfl ?_)
      refine JC.cond rfl (fun h=>by cases h) (fun h=>?_)
      repeat (first | refine JC.exit ?_ | refine JE.av ?_ | refine JE.aF ?_)
      exact JE.mid () trivial (by repeat (first | exact af.nil | refine af.cons _ _ _ rfl ?_)) (aq.refl _)
  rintro ⟨⟩ _
  repeat (first | refine JL.q (by first|(apply OQ.move;rfl)|(apply OQ.assign;rfl)) rfl ?_ | refine JC.seq ?_ | refine JC.region ?_ | refine JL.nil ?_ | refine JE.next ?_)
  refine JC.ret ?_
  skip
  exact JE.aC rfl (RV.tmp rfl) fun w' hw=>⟨rfl,hw.aS⟩
theorem Ba (c : aI.By) : decide ((c.toNat : Int)=46)=decide (c=46):=by
  have h:=jE 46 c
  rw [show (((46 : aI.By).toNat : Nat) : Int)=46 from rfl] at h
  rw [h];rfl
theorem gW {s : List aI.By} {i : Nat} (h : i<s.length) : s.drop i=s.getD i 0::s.drop (i+1):=by
  rw [List.drop_eq_getElem_cons h,List.getD_eq_getElem?_getD,List.getElem?_eq_getElem h];rfl
set_option maxHeartbeats 16000000 in
theorem jS (s : List aI.By) (w : World) (hl : s.length<9223372036854775808) : Calls Tryz.prog 113 [Z s].toArray w fun e w'=>e=.returned (.bool (cZ s))∧Ext w w':=by
  refine enter (n:=37) Tryz.func113 rfl rfl rfl (aa.start w []) ?_
  repeat (first | refine JL.q (by (apply OQ.assign;rfl)) rfl ?_ | refine JC.seq ?_ | refine JC.region ?_ | refine JC.block ?_ | refine JL.nil ?_ | refine JE.next ?_)
  refine JC.loop (fun q : Nat × aI.By=>[(0,Z s),(3,U8 q.2),(4,N q.1)]) (fun _=>[]) (fun q=>s.length - q.1) (fun q=>q.1≤s.length∧cZ s=gx (s.drop q.1) q.2) (0,46) ⟨Nat.zero_le _,rfl⟩ (by repeat (first | exact af.nil | refine af.cons _ _ _ rfl ?_)) (aq.refl _) ?_
  rintro ⟨i,l⟩ ⟨hi,ha⟩
  simp only at hi ha
  dsimp only
  have hl4:=Ba l
  repeat (first | refine JL.q (by first|(apply OQ.bC;exact Tryz.underlying9;rfl)|(apply OQ.move;rfl)|(apply OQ.dz;rfl;rfl)) rfl ?_ | refine JC.seq ?_ | refine JC.region ?_ | refine JL.nil ?_ | refine JE.next ?_)
  refine JC.cond rfl (fun h=>?_) (fun h=>?_)
  · have hi' : i<s.length:=of_decide_eq_true h
    clear h hi
    rw [gW hi'] at ha
    have hidx:=fun {n : Nat} {E : Env} {C : World→Prop} {dst : Option Tmp} {ty : TypeId} {pos : String} {aft : Array Edge} {g : Option (Nat × Bool)} {x y : Operand}=>cY hi' (n:=n) (E:=E) (C:=C) (dst:=dst) (ty:=ty) (pos:=pos) (aft:=aft) (g:=g) (x:=x) (y:=y)
    have cP:=fun w'=>q5 (s.getD i 0) w'
    generalize s.getD i 0=c at hidx cP ha
    have hc4:=Ba c
    unfold gx at ha
    generalize bV c=x at cP ha
    cases h1 : decide ((c.toNat : Int)=46) <;> cases h2 : decide ((l.toNat : Int)=46) <;> cases h3 : x
    all_goals (
      subst h3
      rw [h1] at hc4
      rw [h2] at hl4
      have hc:=hc4.symm
      have hl:=hl4.symm
      simp only [decide_eq_true_eq,decide_eq_false_iff_not] at hc hl
      simp only [hc,hl,true_and,and_true,false_and,and_false,or_false,false_or,not_true,not_false_eq_true,if_true,if_false,reduceCtorEq] at ha
      (repeat (first | refine JL.q (by first|(apply hidx;rfl;rfl)|(apply OQ.gj (b:=46);rfl;rfl;exact h1)|(apply OQ.gj (b:=46);rfl;rfl;exact h2)|(apply OQ.qA (b:=46);rfl;rfl;exact h1)|(apply OQ.mB (vs:=[U8 c]);exact pn;rfl;exact cP;rfl)|(apply OQ.not;rfl)|(apply OQ.ay;rfl;rfl)|(apply OQ.au;rfl;rfl)|(apply OQ.move;rfl)) rfl ?_ | refine JC.seq ?_ | refine JC.region ?_ | refine JC.block ?_ | refine JC.skip ?_ | refine JL.nil ?_ | refine JE.next ?_ | refine JL.aU rfl rfl ?_ | refine JL.aM rfl rfl rfl rfl ?_ | refine JL.eB rfl rfl rfl rfl ?_))
      refine JC.cond rfl (fun h=>?_) (fun h=>?_)
      all_goals first|(exfalso;revert h;decide) | skip
      all_goals clear h)
    all_goals first
      | (rw [ha]
         (repeat (first | refine JL.q (by first|(apply OQ.move;rfl)|(apply OQ.assign;rfl)) rfl ?_ | refine JC.seq ?_ | refine JC.region ?_ | refine JC.skip ?_ | refine JL.nil ?_ | refine JE.next ?_))
         refine JC.ret ?_
         (repeat (first | refine JE.ah ?_ | refine JE.aW ?_))
         exact JE.aC rfl (RV.tmp rfl) fun w' hw=>⟨rfl,hw.aS⟩)
      | ((repeat (first | refine JL.q (by first|(apply hidx;rfl;rfl)|(apply OQ.move;rfl)|(apply OQ.assign;rfl)|(apply OQ.aT;rfl;rfl;exact (by (try simp only []);omega))) rfl ?_ | refine JC.region ?_ | refine JC.skip ?_ | refine JL.nil ?_ | refine JE.next ?_ | refine JE.ag ?_))
         exact JE.again (i:=(i,l)) (i+1,c) ⟨hi',by show cZ s=gx (s.drop (i+1)) c;first | exact ha|(rw [hc];exact ha)⟩ (by show s.length - (i+1)<s.length - i;omega) (by repeat (first | exact af.nil | refine af.cons _ _ _ rfl ?_)) (aq.refl _))
  · have hi' : ¬ i<s.length:=of_decide_eq_false h
    obtain rfl : i=s.length:=by omega
    clear h hi hi'
    rw [List.drop_length] at ha
    have he : (l == 46)=decide ((l.toNat : Int)=46):=(jE 46 l).symm
    rw [ha,gx,he]
    cases h1 : decide ((l.toNat : Int)=46)
    all_goals (repeat (first | refine JL.q (by first|(apply OQ.qA (b:=46);rfl;rfl;exact h1)|(apply OQ.move;rfl)|(apply OQ.assign;rfl)) rfl ?_ | refine JC.seq ?_ | refine JC.region ?_ | refine JC.exit ?_ | refine JL.nil ?_ | refine JE.next ?_ | refine JE.av ?_ | refine JE.aF ?_))
    all_goals refine JC.ret ?_
    all_goals exact JE.aC rfl (RV.tmp rfl) fun w' hw=>⟨rfl,hw.aS⟩
theorem wC (c : aI.By) : ∀ (s : List aI.By) {i : Nat},i<s.length→(s.take i).all (fun d=>!(d == c))=true→(s.getD i 0 == c)=true→fst c s=i
  | [],i,h,_,_=>by simp at h
  | d::r,0,_,_,h=>by
    have h' : (d == c)=true:=h
    unfold fst
    rw [List.takeWhile_cons,if_neg (by rw [h'];decide)];rfl
  | d::r,i+1,hi,ha,h=>by
    rw [List.take_succ_cons,List.all_cons,Bool.and_eq_true] at ha
    have:=wC c r (i:=i) (by simpa using hi) ha.2 h
    unfold fst at this ⊢
    rw [List.takeWhile_cons,if_pos ha.1,List.length_cons,this]
theorem sK (c : aI.By) : ∀ s : List aI.By,s.all (fun d=>!(d == c))=true→fst c s=s.length
  | [],_=>rfl
  | d::r,h=>by
    rw [List.all_cons,Bool.and_eq_true] at h
    have:=sK c r h.2
    unfold fst at this ⊢
    rw [List.takeWhile_cons,if_pos h.1,List.length_cons,this,List.length_cons]
theorem z1 (c : aI.By) (s : List aI.By) : fst c s≤s.length:=(List.takeWhile_sublist _).length_le
theorem eqc (c : aI.By) (k : aI.By) : (c == k)=decide ((c.toNat : Int)=(k.toNat : Int)):=(jE k c).symm
end
section
set_option maxRecDepth 10000
open Sl aI Tok
theorem bY : aO Tryz.prog 181:=⟨_,Tryz.func181,rfl,by kernel_rfl⟩
theorem iI : aO Tryz.prog 146:=⟨_,Tryz.func146,rfl,by kernel_rfl⟩
theorem zo : gv Tryz.prog 9=some 1:=by kernel_rfl
theorem sL : ∀ (s : List aI.By) (l : aI.By),gx s l=((!(l == 46) || !((fm 46 s).headD []).isEmpty) && (((fm 46 s).headD []).all bV && (fm 46 s).tail.all gh))
  | [],l=>by simp [gx,fm]
  | c::r,l=>by
    have ih:=sL r
    have hne:=q8 46 r
    rw [gx]
    obtain ⟨x,L,hx⟩ : ∃ x L,fm 46 r=x::L:=by
      cases h : fm 46 r with
      | nil=>exact absurd h hne
      | cons x L=>exact ⟨x,L,rfl⟩
    by_cases hc : c=46
    · subst hc
      rw [fm,if_pos rfl]
      simp only [ih,hx,List.headD_cons,List.tail_cons,List.all_cons,List.all_nil]
      by_cases hl : l=46
      · subst hl
        simp
      · rw [if_neg (by rintro (⟨_,h⟩ | ⟨h,_⟩);exact hl h;exact h trivial)]
        have : (l == 46)=false:=beq_eq_false_iff_ne.2 hl
        rw [this]
        simp only [gh,Bool.not_false,Bool.true_or,Bool.true_and,beq_self_eq_true,Bool.not_true,Bool.false_or]
        cases x with
        | nil=>simp
        | cons d x=>simp [Bool.and_assoc]
    · rw [fm,if_neg hc,hx]
      simp only [ih,hx,List.headD_cons,List.tail_cons,List.all_cons]
      have hb : (c == 46)=false:=beq_eq_false_iff_ne.2 hc
      rw [hb]
      cases hp : bV c with
      | false=>
        rw [if_pos (.inr ⟨hc,rfl⟩)]
        simp
      | true=>
        rw [if_neg (by rintro (⟨h,_⟩ | ⟨_,h⟩);exact hc h;cases h)]
        simp
theorem yD (s : List aI.By) : cZ s=(fm 46 s).all gh:=by
  unfold cZ
  rw [sL]
  cases h : fm 46 s with
  | nil=>exact absurd h (q8 46 s)
  | cons x L=>
    rw [List.headD_cons,List.tail_cons,List.all_cons,gh]
    cases x with
    | nil=>simp
    | cons d x=>simp [Bool.and_assoc]
theorem sM (c : aI.By) : ∀ s : List aI.By,(fm c s).length≤s.length+1∧∀ x ∈ fm c s,x.length≤s.length
  | []=>by simp [fm]
  | d::r=>by
    obtain ⟨h1,h2⟩:=sM c r
    rw [fm]
    split
    · refine ⟨by simp only [List.length_cons];omega,fun x hx=>?_⟩
      rcases List.mem_cons.1 hx with rfl | hx
      · simp
      · have:=h2 x hx
        simp only [List.length_cons]
        omega
    · cases h : fm c r with
      | nil=>exact absurd h (q8 c r)
      | cons y L=>
        rw [h] at h1 h2
        refine ⟨by simpa using Nat.le_succ_of_le h1,fun x hx=>?_⟩
        rcases List.mem_cons.1 hx with rfl | hx
        · have:=h2 y (by simp)
          simpa using this
        · have:=h2 x (by simp [hx])
          simp only [List.length_cons]
          omega
set_option maxHeartbeats 8000000 in
theorem ga (s : List Bt) (w : World) (hl : s.length<4294967281) : Calls Tryz.prog 181 [Z s].toArray w fun e w'=>e=.returned (.bool (cZ s))∧Ext w w':=by
  refine enter (n:=16) Tryz.func181 rfl rfl rfl (aa.start w []) ?_
  rw [yD]
  obtain ⟨h1,h2⟩:=sM 46 s
  repeat (first | refine JL.q (by first|(apply OQ.move;rfl)|(apply OQ.assign;rfl)) rfl ?_ | refine JC.seq ?_ | refine JC.region ?_ | refine JL.nil ?_ | refine JE.next ?_)
  refine JL.cE (ι:=Nat) (vs:=[Z s,Z [46]]) (fun b=>.slice (some ⟨b,0,none⟩) (fm 46 s).length (fm 46 s).length) (fun b=>[⟨b,Row 9 ((fm 46 s).map Z),true⟩]) uc rfl rfl (fun b e he=>by rw [List.mem_singleton.1 he]) (fun w' _=>wA s 46 w' hl) fun b=>?_
  generalize fm 46 s=L at h1 h2
  repeat (first | refine JL.q (by first|(apply OQ.len;exact Tryz.underlying30;rfl)|(apply OQ.move;rfl)) rfl ?_ | refine JC.block ?_ | refine JL.nil ?_ | refine JE.next ?_)
  refine JC.loop (fun i : Nat=>[(6,.slice (some ⟨b,0,none⟩) L.length L.length),(7,N L.length),(8,N i)]) (fun _=>[⟨b,Row 9 (L.map Z),true⟩]) (fun i=>L.length - i) (fun i=>i≤L.length∧(L.take i).all gh=true) 0 ⟨Nat.zero_le _,by simp⟩ (by repeat (first | exact af.nil | refine af.cons _ _ _ rfl ?_)) (aq.refl _) ?_
  rintro i ⟨hi,ha⟩
  repeat (first | refine JL.q (by (apply OQ.dz;rfl;rfl)) rfl ?_ | refine JC.seq ?_ | refine JC.region ?_ | refine JL.nil ?_ | refine JE.next ?_)
  refine JC.cond rfl (fun h=>?_) (fun h=>?_)
  · have hi' : i<L.length:=of_decide_eq_true h
    clear h hi
    have hx : L.getD i [] ∈ L:=by
      rw [List.getD_eq_getElem?_getD,List.getElem?_eq_getElem hi']
      exact List.getElem_mem hi'
    have hxl:=h2 _ hx
    have hv : (L.map Z)[i]?=some (Z (L.getD i [])):=cw Z [] hi'
    have cA:=fun w'=>tY (L.getD i []) w' (by omega)
    have hall:=fI gh L [] hi'
    have hbad:=yf gh L [] hi'
    rw [ha,Bool.true_and] at hall
    generalize L.getD i []=x at hv cA hall hbad
    cases hat : gh x
    · rw [hat] at cA
      rw [hbad hat]
      repeat (first | refine JL.q (by first|(apply OQ.za;exact Tryz.underlying30;exact zo;rfl;rfl;exact hi')|(apply OQ.load;exact wj;rfl;exact .here;exact (Row.cell hv))|(apply OQ.an (vs:=[Z x]);exact lp;rfl;exact (fun w' _=>cA w'))|(apply OQ.not;rfl)|(apply OQ.move;rfl)|(apply OQ.assign;rfl)) rfl ?_ | refine JC.seq ?_ | refine JC.region ?_ | refine JC.block ?_ | refine JC.skip ?_ | refine JL.nil ?_ | refine JE.next ?_)
      refine JC.cond rfl (fun _=>?_) (fun h=>by cases h)
      repeat (first | refine JL.q (by (apply OQ.assign;rfl)) rfl ?_ | refine JC.seq ?_ | refine JC.region ?_ | refine JL.nil ?_ | refine JE.next ?_)
      refine JC.ret ?_
      repeat (first | refine JE.ah ?_ | refine JE.aW ?_)
      exact JE.aC rfl (RV.tmp rfl) fun w' hw=>⟨rfl,hw.aS⟩
    · rw [hat] at cA hall
      repeat (first | refine JL.q (by first|(apply OQ.za;exact Tryz.underlying30;exact zo;rfl;rfl;exact hi')|(apply OQ.load;exact wj;rfl;exact .here;exact (Row.cell hv))|(apply OQ.an (vs:=[Z x]);exact lp;rfl;exact (fun w' _=>cA w'))|(apply OQ.not;rfl)|(apply OQ.move;rfl)|(apply OQ.assign;rfl)) rfl ?_ | refine JC.seq ?_ | refine JC.region ?_ | refine JC.block ?_ | refine JC.skip ?_ | refine JL.nil ?_ | refine JE.next ?_)
      refine JC.cond rfl (fun h=>by cases h) (fun _=>?_)
      repeat (first | refine JL.q (by first|(apply OQ.move;rfl)|(apply OQ.aT;rfl;rfl;exact (by (try simp only []);omega))) rfl ?_ | refine JC.region ?_ | refine JC.skip ?_ | refine JL.nil ?_ | refine JE.next ?_ | refine JE.ag ?_)
      exact JE.again (i:=i) (i+1) ⟨hi',hall⟩ (by omega) (by repeat (first | exact af.nil | refine af.cons _ _ _ rfl ?_)) (aq.refl _)
  · have hi' : ¬ i<L.length:=of_decide_eq_false h
    obtain rfl : i=L.length:=by omega
    rw [List.take_length] at ha
    rw [ha]
    repeat (first | refine JL.q (by (apply OQ.assign;rfl)) rfl ?_ | refine JC.seq ?_ | refine JC.region ?_ | refine JC.exit ?_ | refine JL.nil ?_ | refine JE.next ?_ | refine JE.av ?_ | refine JE.aF ?_)
    refine JC.ret ?_
    exact JE.aC rfl (RV.tmp rfl) fun w' hw=>⟨rfl,hw.aS⟩
theorem uf {c : aI.By} (h : bV c=true) : c.toNat<128:=by
  simp only [bV,Bool.and_eq_true,decide_eq_true_eq] at h
  omega
theorem lE : ∀ (s : List aI.By) (l : aI.By),gx s l=true→∀ c ∈ s,c.toNat<128
  | [],_,_,_,hc=>by cases hc
  | c::r,l,h,d,hd=>by
    rw [gx] at h
    split at h
    · cases h
    · next hn=>
      rcases List.mem_cons.1 hd with rfl | hd
      · by_cases e : d=46
        · subst e;decide
        · cases hp : bV d with
          | true=>exact uf hp
          | false=>exact absurd (.inr ⟨e,hp⟩) hn
      · exact lE r c h d hd
theorem z6 (s : List aI.By) : Ax s=s.drop (s.length - la 60 s):=by
  unfold Ax la
  have h:=List.takeWhile_append_dropWhile (p:=fun d=>!(d == (60 : aI.By))) (l:=s.reverse)
  generalize s.reverse.takeWhile (fun d=>!(d == (60 : aI.By)))=a at h ⊢
  generalize s.reverse.dropWhile (fun d=>!(d == (60 : aI.By)))=b at h
  have hs : s=b.reverse++a.reverse:=by rw [← List.reverse_append,h,List.reverse_reverse]
  rw [hs,List.length_append,List.length_reverse,List.length_reverse,Nat.add_sub_cancel,List.drop_append_of_le_length (by simp),List.drop_of_length_le (by simp),List.nil_append]
theorem wD (s : List aI.By) : iu s=if s.getLast?=some 62 then (if 60 ∈ s.dropLast then dO (trim (s.dropLast.drop (s.dropLast.length - la 60 s.dropLast))) else ([],3)) else dO s:=by
  unfold iu
  by_cases h : s.getLast?=some 62
  · obtain ⟨a,rfl⟩:=List.getLast?_eq_some_iff.1 h
    rw [if_pos ⟨by simp,by simp⟩,if_pos h,List.dropLast_concat,z6]
    congr 1
    simp
  · rw [if_neg h,if_neg]
    rintro ⟨h1,h2⟩
    refine h ?_
    rw [List.getLast?_eq_getElem?,List.getElem?_eq_getElem (by omega)]
    rw [List.getD_eq_getElem?_getD,List.getElem?_eq_getElem (by omega)] at h2
    exact congrArg some h2
theorem pP (s : List aI.By) : dO s=if fi 64 s<s.length∧cZ (s.take (fi 64 s))=true∧cZ (s.drop (fi 64 s+1))=true then (s.take (fi 64 s)++[64]++(s.drop (fi 64 s+1)).map small,0) else ([],3):=by
  have hf : fst 64 s=fi 64 s:=rfl
  unfold dO
  rw [hf]
  have h1:=o6 64 s
  by_cases h : fi 64 s<s.length
  · have ht : s.take (fi 64 s+1)=s.take (fi 64 s)++[64]:=by
      rw [List.take_add_one,List.getElem?_eq_getElem h,Option.toList_some]
      congr 2
      have:=vV 64 s h
      rw [List.getD_eq_getElem?_getD,List.getElem?_eq_getElem h] at this
      exact this
    cases d1 : cZ (s.take (fi 64 s)) <;> cases d2 : cZ (s.drop (fi 64 s+1))
    · rw [if_pos (.inr (.inl rfl)),if_neg (fun k=>by cases k.2.1)]
    · rw [if_pos (.inr (.inl rfl)),if_neg (fun k=>by cases k.2.1)]
    · rw [if_pos (.inr (.inr rfl)),if_neg (fun k=>by cases k.2.2)]
    · rw [if_neg (by rintro (k | k | k);omega;cases k;cases k),if_pos ⟨h,rfl,rfl⟩,ht]
  · rw [if_pos (.inl (by omega)),if_neg (fun k=>h k.1)]
set_option maxHeartbeats 32000000 in
theorem ug (s : List Bt) (w : World) (hl : s.length<1000000) : Calls Tryz.prog 146 [Z s].toArray w fun e w'=>e=.returned (.tuple #[Z (cJ s).1,N (cJ s).2])∧Ext w w':=by
  refine enter (n:=61) Tryz.func146 rfl rfl rfl (aa.start w []) ?_
  have cB:=fun w'=>tZ s w' (by omega)
  have hbl:=mc s
  unfold cJ
  generalize (eo s).1=x at cB hbl ⊢
  generalize (eo s).2=k at cB ⊢
  cases hk : decide ((k : Int)=0)
  · rw [if_neg (by have:=of_decide_eq_false hk;omega)]
    repeat (first | refine JL.q (by first|(apply OQ.an (vs:=[Z s]);exact lq;rfl;exact (fun w' _=>cB w'))|(apply OQ.extract;rfl;rfl)|(apply OQ.qA (b:=0);rfl;rfl;exact hk)|(apply OQ.move;rfl)|(apply OQ.assign;rfl)) rfl ?_ | refine JC.seq ?_ | refine JC.region ?_ | refine JL.nil ?_ | refine JE.next ?_)
    refine JC.cond rfl (fun _=>?_) (fun h=>by cases h)
    repeat (first | refine JL.q (by first|(apply OQ.move;rfl)|(apply OQ.assign;rfl)) rfl ?_ | refine JC.seq ?_ | refine JC.region ?_ | refine JL.nil ?_ | refine JE.next ?_)
    refine JC.ret ?_
    repeat (refine JE.ah ?_)
    refine JE.bI rfl (RV.tmp rfl) (RV.tmp rfl) ?_
    exact fun w' hw=>⟨rfl,hw.aS⟩
  rw [if_pos (by have:=of_decide_eq_true hk;omega)]
  have cT:=fun w'=>mE x w' (by omega)
  have htl:=fZ x
  generalize trim x=t at cT htl ⊢
  have cS:=fun w'=>nK t 62 w' (by omega)
  have hT:=wD t
  unfold zn at cS
  repeat (first | refine JL.q (by first|(apply OQ.an (vs:=[Z s]);exact lq;rfl;exact (fun w' _=>cB w'))|(apply OQ.extract;rfl;rfl)|(apply OQ.qA (b:=0);rfl;rfl;exact hk)|(apply OQ.move;rfl)|(apply OQ.assign;rfl)) rfl ?_ | refine JC.seq ?_ | refine JC.region ?_ | refine JL.nil ?_ | refine JE.next ?_)
  refine JC.cond rfl (fun h=>by cases h) (fun _=>?_)
  by_cases hg : t.getLast?=some 62
  · rw [if_pos hg] at hT cS
    have hal : t.dropLast.length≤t.length:=by rw [List.length_dropLast];omega
    generalize t.dropLast=a at hT cS hal
    have cL:=fun w'=>ue a 60 w' (by omega)
    have hla:=A3 60 a
    have hla2:=AZ 60 a
    repeat (first | refine JL.q (by first|(apply OQ.an (vs:=[Z x,Z [32,9]]);exact iG;rfl;exact (fun w' _=>cT w'))|(apply OQ.an (vs:=[Z t,Z [62]]);exact pN;rfl;exact (fun w' _=>cS w'))|(apply OQ.extract;rfl;rfl)|(apply OQ.move;rfl)|(apply OQ.assign;rfl)) rfl ?_ | refine JC.seq ?_ | refine JC.region ?_ | refine JC.skip ?_ | refine JL.nil ?_ | refine JE.next ?_)
    refine JC.join (ι:=List Bt) (fun y=>[(6,Z y)]) (fun _=>[]) (fun y=>iu t=dO y∧y.length<1000000) ?_ ?_
    · refine JC.cond rfl (fun _=>?_) (fun h=>by cases h)
      cases hm : decide (tP 60 a<0)
      · have hm' : ¬ tP 60 a<0:=of_decide_eq_false hm
        have hmem : 60 ∈ a:=hla.1 (by unfold tP at hm';omega)
        rw [if_pos hmem] at hT
        obtain ⟨p,hp⟩ : ∃ p,p+1=a.length - la 60 a:=⟨a.length - la 60 a - 1,by have:=hla.2 hmem;omega⟩
        have hix : tP 60 a=(p : Int):=by unfold tP;omega
        have hpl : p+1≤a.length:=by omega
        rw [← hp] at hT
        rw [hix] at cL hm
        have hdl : (a.drop (p+1)).length≤a.length:=by rw [List.length_drop];omega
        have cT2:=fun w'=>mE (a.drop (p+1)) w' (by omega)
        have htl2:=fZ (a.drop (p+1))
        generalize trim (a.drop (p+1))=y at hT cT2 htl2
        repeat (first | refine JL.q (by first|(apply OQ.an (vs:=[Z a,U8 60]);exact lB;rfl;exact (fun w' _=>cL w'))|(apply OQ.dV (b:=0);rfl;rfl;exact hm)|(apply OQ.move;rfl)|(apply OQ.assign;rfl)) rfl ?_ | refine JC.seq ?_ | refine JC.region ?_ | refine JL.nil ?_ | refine JE.next ?_)
        refine JC.cond rfl (fun h=>by cases h) (fun _=>?_)
        repeat (first | refine JL.q (by first|(apply OQ.cc;exact Tryz.underlying9;rfl;rfl;exact hpl)|(apply OQ.an (vs:=[Z (a.drop (p+1)),Z [32,9]]);exact iG;rfl;exact (fun w' _=>cT2 w'))|(apply OQ.move;rfl)|(apply OQ.assign;rfl)|(apply OQ.aT;rfl;rfl;exact (by (try simp only []);omega))) rfl ?_ | refine JC.region ?_ | refine JC.skip ?_ | refine JL.nil ?_ | refine JE.next ?_)
        exact JE.mid y ⟨hT,by omega⟩ (by repeat (first | exact af.nil | refine af.cons _ _ _ rfl ?_)) (aq.refl _)
      · have hm' : tP 60 a<0:=of_decide_eq_true hm
        have hmem : ¬ 60 ∈ a:=fun h=>by have:=hla.2 h;unfold tP at hm';omega
        rw [if_neg hmem] at hT
        rw [hT]
        repeat (first | refine JL.q (by first|(apply OQ.an (vs:=[Z a,U8 60]);exact lB;rfl;exact (fun w' _=>cL w'))|(apply OQ.dV (b:=0);rfl;rfl;exact hm)|(apply OQ.move;rfl)|(apply OQ.assign;rfl)) rfl ?_ | refine JC.seq ?_ | refine JC.region ?_ | refine JL.nil ?_ | refine JE.next ?_)
        refine JC.cond rfl (fun _=>?_) (fun h=>by cases h)
        repeat (first | refine JL.q (by (apply OQ.assign;rfl)) rfl ?_ | refine JC.seq ?_ | refine JC.region ?_ | refine JL.nil ?_ | refine JE.next ?_)
        refine JC.ret ?_
        repeat (refine JE.ah ?_)
        exact JE.bI rfl (RV.tmp rfl) (RV.tmp rfl) fun w' hw=>⟨rfl,hw.aS⟩
    · rintro y ⟨hy,hyl⟩
      rw [hy]
      have cC:=fun w'=>o9 y 64 w' (by omega)
      have hfl:=o6 64 y
      have hS:=pP y
      unfold cutV at cC
      by_cases hf : fi 64 y<y.length
      · rw [if_pos hf] at cC
        have hwl : (y.take (fi 64 y)).length≤y.length:=by rw [List.length_take];omega
        have hdl : (y.drop (fi 64 y+1)).length≤y.length:=by rw [List.length_drop];omega
        have hlow:=lE (y.drop (fi 64 y+1)) 46
        replace hlow : cZ (y.drop (fi 64 y+1))=true→∀ c ∈ y.drop (fi 64 y+1),c.toNat<128:=hlow
        replace hS : dO y=if cZ (y.take (fi 64 y))=true∧cZ (y.drop (fi 64 y+1))=true then (y.take (fi 64 y)++[64]++(y.drop (fi 64 y+1)).map small,0) else ([],3):=by
          rw [hS]
          by_cases h : cZ (y.take (fi 64 y))=true∧cZ (y.drop (fi 64 y+1))=true
          · rw [if_pos ⟨hf,h⟩,if_pos h]
          · rw [if_neg (fun k=>h k.2),if_neg h]
        generalize y.take (fi 64 y)=who at cC hS hwl
        generalize y.drop (fi 64 y+1)=whe at cC hS hdl hlow
        have c1:=fun w'=>ga who w' (by omega)
        have c2:=fun w'=>ga whe w' (by omega)
        cases d1 : cZ who
        · rw [d1] at c1
          rw [hS,if_neg (fun k=>by rw [d1] at k;cases k.1)]
          repeat (first | refine JL.q (by first|(apply OQ.an (vs:=[Z y,Z [64]]);exact dJ;rfl;exact (fun w' _=>cC w'))|(apply OQ.extract;rfl;rfl)|(apply OQ.not;rfl)|(apply OQ.ay;rfl;rfl)|(apply OQ.au;rfl;rfl)|(apply OQ.an (vs:=[Z who]);exact bY;rfl;exact (fun w' _=>c1 w'))|(apply OQ.move;rfl)|(apply OQ.assign;rfl)) rfl ?_ | refine JC.seq ?_ | refine JC.region ?_ | refine JL.nil ?_ | refine JE.next ?_ | refine JL.aU rfl rfl ?_ | refine JL.aM rfl rfl rfl rfl ?_)
          refine JC.cond rfl (fun _=>?_) (fun h=>by cases h)
          repeat (first | refine JL.q (by (apply OQ.assign;rfl)) rfl ?_ | refine JC.seq ?_ | refine JC.region ?_ | refine JL.nil ?_ | refine JE.next ?_)
          refine JC.ret ?_
          repeat (refine JE.ah ?_)
          exact JE.bI rfl (RV.tmp rfl) (RV.tmp rfl) fun w' hw=>⟨rfl,hw.aS⟩
        · cases d2 : cZ whe
          · rw [d1] at c1
            rw [d2] at c2
            rw [hS,if_neg (fun k=>by rw [d2] at k;cases k.2)]
            repeat (first | refine JL.q (by first|(apply OQ.an (vs:=[Z y,Z [64]]);exact dJ;rfl;exact (fun w' _=>cC w'))|(apply OQ.extract;rfl;rfl)|(apply OQ.not;rfl)|(apply OQ.au;rfl;rfl)|(apply OQ.an (vs:=[Z who]);exact bY;rfl;exact (fun w' _=>c1 w'))|(apply OQ.an (vs:=[Z whe]);exact bY;rfl;exact (fun w' _=>c2 w'))|(apply OQ.move;rfl)|(apply OQ.assign;rfl)) rfl ?_ | refine JC.seq ?_ | refine JC.region ?_ | refine JL.nil ?_ | refine JE.next ?_ | refine JL.aU rfl rfl ?_)
            refine JC.cond rfl (fun _=>?_) (fun h=>by cases h)
            repeat (first | refine JL.q (by (apply OQ.assign;rfl)) rfl ?_ | refine JC.seq ?_ | refine JC.region ?_ | refine JL.nil ?_ | refine JE.next ?_)
            refine JC.ret ?_
            repeat (refine JE.ah ?_)
            exact JE.bI rfl (RV.tmp rfl) (RV.tmp rfl) fun w' hw=>⟨rfl,hw.aS⟩
          · rw [hS,if_pos ⟨d1,d2⟩]
            rw [d1] at c1
            rw [d2] at c2
            have cL:=fun w'=>mJ whe w' (by omega) (hlow d2)
            repeat (first | refine JL.q (by first|(apply OQ.an (vs:=[Z y,Z [64]]);exact dJ;rfl;exact (fun w' _=>cC w'))|(apply OQ.extract;rfl;rfl)|(apply OQ.not;rfl)|(apply OQ.au;rfl;rfl)|(apply OQ.an (vs:=[Z who]);exact bY;rfl;exact (fun w' _=>c1 w'))|(apply OQ.an (vs:=[Z whe]);exact bY;rfl;exact (fun w' _=>c2 w'))|(apply OQ.move;rfl)|(apply OQ.assign;rfl)) rfl ?_ | refine JC.seq ?_ | refine JC.region ?_ | refine JL.nil ?_ | refine JE.next ?_ | refine JL.aU rfl rfl ?_)
            refine JC.cond rfl (fun h=>by cases h) (fun _=>?_)
            repeat (first | refine JL.q (by first|(apply OQ.bS (l:=who) (r:=[64]);rfl;rfl;exact (by rw [List.length_singleton];omega))|(apply OQ.an (vs:=[Z whe]);exact lA;rfl;exact (fun w' _=>cL w'))|(apply OQ.bS (l:=who++[64]) (r:=whe.map small);rfl;rfl;exact (by rw [List.length_append,List.length_map,List.length_singleton];omega))|(apply OQ.move;rfl)|(apply OQ.assign;rfl)) rfl ?_ | refine JC.seq ?_ | refine JC.region ?_ | refine JC.skip ?_ | refine JL.nil ?_ | refine JE.next ?_)
            refine JC.ret ?_
            exact JE.bI rfl (RV.tmp rfl) (RV.tmp rfl) fun w' hw=>⟨rfl,hw.aS⟩
      · rw [if_neg hf] at cC
        rw [hS,if_neg (fun k=>hf k.1)]
        repeat (first | refine JL.q (by first|(apply OQ.an (vs:=[Z y,Z [64]]);exact dJ;rfl;exact (fun w' _=>cC w'))|(apply OQ.extract;rfl;rfl)|(apply OQ.not;rfl)|(apply OQ.ay;rfl;rfl)|(apply OQ.move;rfl)|(apply OQ.assign;rfl)) rfl ?_ | refine JC.seq ?_ | refine JC.region ?_ | refine JL.nil ?_ | refine JE.next ?_ | refine JL.aM rfl rfl rfl rfl ?_)
        refine JC.cond rfl (fun _=>?_) (fun h=>by cases h)
        repeat (first | refine JL.q (by (apply OQ.assign;rfl)) rfl ?_ | refine JC.seq ?_ | refine JC.region ?_ | refine JL.nil ?_ | refine JE.next ?_)
        refine JC.ret ?_
        repeat (refine JE.ah ?_)
        exact JE.bI rfl (RV.tmp rfl) (RV.tmp rfl) fun w' hw=>⟨rfl,hw.aS⟩
  · rw [if_neg hg] at hT cS
    repeat (first | refine JL.q (by first|(apply OQ.an (vs:=[Z x,Z [32,9]]);exact iG;rfl;exact (fun w' _=>cT w'))|(apply OQ.an (vs:=[Z t,Z [62]]);exact pN;rfl;exact (fun w' _=>cS w'))|(apply OQ.extract;rfl;rfl)|(apply OQ.move;rfl)|(apply OQ.assign;rfl)) rfl ?_ | refine JC.seq ?_ | refine JC.region ?_ | refine JC.skip ?_ | refine JL.nil ?_ | refine JE.next ?_)
    refine JC.join (ι:=List Bt) (fun y=>[(6,Z y)]) (fun _=>[]) (fun y=>iu t=dO y∧y.length<1000000) ?_ ?_
    · refine JC.cond rfl (fun h=>by cases h) (fun _=>?_)
      repeat (refine JC.skip ?_)
      exact JE.mid t ⟨hT,by omega⟩ (by repeat (first | exact af.nil | refine af.cons _ _ _ rfl ?_)) (aq.refl _)
    · rintro y ⟨hy,hyl⟩
      rw [hy]
      have cC:=fun w'=>o9 y 64 w' (by omega)
      have hfl:=o6 64 y
      have hS:=pP y
      unfold cutV at cC
      by_cases hf : fi 64 y<y.length
      · rw [if_pos hf] at cC
        have hwl : (y.take (fi 64 y)).length≤y.length:=by rw [List.length_take];omega
        have hdl : (y.drop (fi 64 y+1)).length≤y.length:=by rw [List.length_drop];omega
        have hlow:=lE (y.drop (fi 64 y+1)) 46
        replace hlow : cZ (y.drop (fi 64 y+1))=true→∀ c ∈ y.drop (fi 64 y+1),c.toNat<128:=hlow
        replace hS : dO y=if cZ (y.take (fi 64 y))=true∧cZ (y.drop (fi 64 y+1))=true then (y.take (fi 64 y)++[64]++(y.drop (fi 64 y+1)).map small,0) else ([],3):=by
          rw [hS]
          by_cases h : cZ (y.take (fi 64 y))=true∧cZ (y.drop (fi 64 y+1))=true
          · rw [if_pos ⟨hf,h⟩,if_pos h]
          · rw [if_neg (fun k=>h k.2),if_neg h]
        generalize y.take (fi 64 y)=who at cC hS hwl
        generalize y.drop (fi 64 y+1)=whe at cC hS hdl hlow
        have c1:=fun w'=>ga who w' (by omega)
        have c2:=fun w'=>ga whe w' (by omega)
        cases d1 : cZ who
        · rw [d1] at c1
          rw [hS,if_neg (fun k=>by rw [d1] at k;cases k.1)]
          repeat (first | refine JL.q (by first|(apply OQ.an (vs:=[Z y,Z [64]]);exact dJ;rfl;exact (fun w' _=>cC w'))|(apply OQ.extract;rfl;rfl)|(apply OQ.not;rfl)|(apply OQ.ay;rfl;rfl)|(apply OQ.au;rfl;rfl)|(apply OQ.an (vs:=[Z who]);exact bY;rfl;exact (fun w' _=>c1 w'))|(apply OQ.move;rfl)|(apply OQ.assign;rfl)) rfl ?_ | refine JC.seq ?_ | refine JC.region ?_ | refine JL.nil ?_ | refine JE.next ?_ | refine JL.aU rfl rfl ?_ | refine JL.aM rfl rfl rfl rfl ?_)
          refine JC.cond rfl (fun _=>?_) (fun h=>by cases h)
          repeat (first | refine JL.q (by (apply OQ.assign;rfl)) rfl ?_ | refine JC.seq ?_ | refine JC.region ?_ | refine JL.nil ?_ | refine JE.next ?_)
          refine JC.ret ?_
          repeat (refine JE.ah ?_)
          exact JE.bI rfl (RV.tmp rfl) (RV.tmp rfl) fun w' hw=>⟨rfl,hw.aS⟩
        · cases d2 : cZ whe
          · rw [d1] at c1
            rw [d2] at c2
            rw [hS,if_neg (fun k=>by rw [d2] at k;cases k.2)]
            repeat (first | refine JL.q (by first|(apply OQ.an (vs:=[Z y,Z [64]]);exact dJ;rfl;exact (fun w' _=>cC w'))|(apply OQ.extract;rfl;rfl)|(apply OQ.not;rfl)|(apply OQ.au;rfl;rfl)|(apply OQ.an (vs:=[Z who]);exact bY;rfl;exact (fun w' _=>c1 w'))|(apply OQ.an (vs:=[Z whe]);exact bY;rfl;exact (fun w' _=>c2 w'))|(apply OQ.move;rfl)|(apply OQ.assign;rfl)) rfl ?_ | refine JC.seq ?_ | refine JC.region ?_ | refine JL.nil ?_ | refine JE.next ?_ | refine JL.aU rfl rfl ?_)
            refine JC.cond rfl (fun _=>?_) (fun h=>by cases h)
            repeat (first | refine JL.q (by (apply OQ.assign;rfl)) rfl ?_ | refine JC.seq ?_ | refine JC.region ?_ | refine JL.nil ?_ | refine JE.next ?_)
            refine JC.ret ?_
            repeat (refine JE.ah ?_)
            exact JE.bI rfl (RV.tmp rfl) (RV.tmp rfl) fun w' hw=>⟨rfl,hw.aS⟩
          · rw [hS,if_pos ⟨d1,d2⟩]
            rw [d1] at c1
            rw [d2] at c2
            have cL:=fun w'=>mJ whe w' (by omega) (hlow d2)
            repeat (first | refine JL.q (by first|(apply OQ.an (vs:=[Z y,Z [64]]);exact dJ;rfl;exact (fun w' _=>cC w'))|(apply OQ.extract;rfl;rfl)|(apply OQ.not;rfl)|(apply OQ.au;rfl;rfl)|(apply OQ.an (vs:=[Z who]);exact bY;rfl;exact (fun w' _=>c1 w'))|(apply OQ.an (vs:=[Z whe]);exact bY;rfl;exact (fun w' _=>c2 w'))|(apply OQ.move;rfl)|(apply OQ.assign;rfl)) rfl ?_ | refine JC.seq ?_ | refine JC.region ?_ | refine JL.nil ?_ | refine JE.next ?_ | refine JL.aU rfl rfl ?_)
            refine JC.cond rfl (fun h=>by cases h) (fun _=>?_)
            repeat (first | refine JL.q (by first|(apply OQ.bS (l:=who) (r:=[64]);rfl;rfl;exact (by rw [List.length_singleton];omega))|(apply OQ.an (vs:=[Z whe]);exact lA;rfl;exact (fun w' _=>cL w'))|(apply OQ.bS (l:=who++[64]) (r:=whe.map small);rfl;rfl;exact (by rw [List.length_append,List.length_map,List.length_singleton];omega))|(apply OQ.move;rfl)|(apply OQ.assign;rfl)) rfl ?_ | refine JC.seq ?_ | refine JC.region ?_ | refine JC.skip ?_ | refine JL.nil ?_ | refine JE.next ?_)
            refine JC.ret ?_
            exact JE.bI rfl (RV.tmp rfl) (RV.tmp rfl) fun w' hw=>⟨rfl,hw.aS⟩
      · rw [if_neg hf] at cC
        rw [hS,if_neg (fun k=>hf k.1)]
        repeat (first | refine JL.q (by first|(apply OQ.an (vs:=[Z y,Z [64]]);exact dJ;rfl;exact (fun w' _=>cC w'))|(apply OQ.extract;rfl;rfl)|(apply OQ.not;rfl)|(apply OQ.ay;rfl;rfl)|(apply OQ.move;rfl)|(apply OQ.assign;rfl)) rfl ?_ | refine JC.seq ?_ | refine JC.region ?_ | refine JL.nil ?_ | refine JE.next ?_ | refine JL.aM rfl rfl rfl rfl ?_)
        refine JC.cond rfl (fun _=>?_) (fun h=>by cases h)
        repeat (first | refine JL.q (by (apply OQ.assign;rfl)) rfl ?_ | refine JC.seq ?_ | refine JC.region ?_ | refine JL.nil ?_ | refine JE.next ?_)
        refine JC.ret ?_
        repeat (refine JE.ah ?_)
        exact JE.bI rfl (RV.tmp rfl) (RV.tmp rfl) fun w' hw=>⟨rfl,hw.aS⟩
end
section
set_option maxRecDepth 10000
open Sl
theorem uh : aO Tryz.prog 193:=⟨_,Tryz.func193,rfl,by kernel_rfl⟩
set_option maxHeartbeats 2000000 in
theorem wE (s d : List Bt) (w : World) : Calls Tryz.prog 193 [Z s,Z d].toArray w fun e w'=>e=.returned (.bool (decide (s.take d.length=d)))∧Ext w w':=by
  refine enter (n:=18) Tryz.func193 rfl rfl rfl (aa.start w []) ?_
  cases h1 : decide ((d.length : Int)≤(s.length : Int))
  · have hF : decide (s.take d.length=d)=false:=decide_eq_false fun e=>by
      have:=congrArg List.length e
      rw [List.length_take] at this
      have:=of_decide_eq_false h1
      omega
    rw [hF]
    repeat (first | refine JL.q (by first|(apply OQ.bC;exact Tryz.underlying9;rfl)|(apply OQ.dK (b:=(d.length : Int));rfl;rfl;exact h1)|(apply OQ.au;rfl;rfl)|(apply OQ.move;rfl)|(apply OQ.assign;rfl)) rfl ?_ | refine JC.seq ?_ | refine JC.region ?_ | refine JL.nil ?_ | refine JE.next ?_ | refine JL.aM rfl rfl rfl rfl ?_)
    exact JC.ret (JE.aC rfl (RV.tmp rfl) fun w' hw=>⟨rfl,hw.aS⟩)
  · have hle : d.length≤s.length:=by have:=of_decide_eq_true h1;omega
    cases h2 : decide (s.take d.length=d)
    all_goals (repeat (first | refine JL.q (by first|(apply OQ.bC;exact Tryz.underlying9;rfl)|(apply OQ.dK (b:=(d.length : Int));rfl;rfl;exact h1)|(apply OQ.dx (j:=d.length);exact Tryz.underlying9;rfl;rfl;exact hle)|(apply OQ.fX;rfl;rfl;exact h2)|(apply OQ.ay;rfl;rfl)|(apply OQ.move;rfl)|(apply OQ.assign;rfl)) rfl ?_ | refine JC.seq ?_ | refine JC.region ?_ | refine JL.nil ?_ | refine JE.next ?_ | refine JL.aU rfl rfl ?_))
    all_goals exact JC.ret (JE.aC rfl (RV.tmp rfl) fun w' hw=>⟨rfl,hw.aS⟩)
theorem wF (s d : List Bt) (w : World) : Calls Tryz.prog 159 [Z s,Z d].toArray w fun e w'=>e=.returned (.bool (decide (s.take d.length=d)))∧Ext w w':=by
  refine enter (n:=8) Tryz.func159 rfl rfl rfl (aa.start w []) ?_
  have hq:=fun w'=>wE s d w'
  repeat (first | refine JL.q (by first|(apply OQ.an (vs:=[Z s,Z d]);exact uh;rfl;exact (fun w' _=>hq w'))|(apply OQ.move;rfl)|(apply OQ.assign;rfl)) rfl ?_ | refine JC.seq ?_ | refine JC.region ?_ | refine JL.nil ?_ | refine JE.next ?_)
  exact JC.ret (JE.aC rfl (RV.tmp rfl) fun w' hw=>⟨rfl,hw.aS⟩)
end
section
set_option maxRecDepth 10000
open Sl
namespace dF
def fo (S0 : List Nat) (b : Nat) (r : Po × List Bt) (w : World) : Ending→World→Prop:=fun e w'=>∃ z : Pw,(z.ok∧z.is r.1)∧e=.returned (Z r.2)∧aa w S0 (z.E b) w'
theorem fq : aO Tryz.prog 13:=⟨_,Tryz.func13,rfl,by kernel_rfl⟩
theorem wG : aO Tryz.prog 69:=⟨_,Tryz.func69,rfl,by kernel_rfl⟩
theorem jd : aO Tryz.prog 105:=⟨_,Tryz.func105,rfl,by kernel_rfl⟩
theorem ri : aO Tryz.prog 140:=⟨_,Tryz.func140,rfl,by kernel_rfl⟩
theorem pQ : aO Tryz.prog 141:=⟨_,Tryz.func141,rfl,by kernel_rfl⟩
theorem uk : aO Tryz.prog 142:=⟨_,Tryz.func142,rfl,by kernel_rfl⟩
theorem rm : aO Tryz.prog 143:=⟨_,Tryz.func143,rfl,by kernel_rfl⟩
theorem rq : aO Tryz.prog 144:=⟨_,Tryz.func144,rfl,by kernel_rfl⟩
theorem um : aO Tryz.prog 145:=⟨_,Tryz.func145,rfl,by kernel_rfl⟩
theorem iJ : aO Tryz.prog 106:=⟨_,Tryz.func106,rfl,by kernel_rfl⟩
theorem cO : aO Tryz.prog 175:=⟨_,Tryz.func175,rfl,by kernel_rfl⟩
theorem mM : aO Tryz.prog 159:=⟨_,Tryz.func159,rfl,by kernel_rfl⟩
theorem gX : aO Tryz.prog 208:=⟨_,Tryz.func208,rfl,by kernel_rfl⟩
theorem gY : aO Tryz.prog 178:=⟨_,Tryz.func178,rfl,by kernel_rfl⟩
theorem iI : aO Tryz.prog 146:=⟨_,Tryz.func146,rfl,by kernel_rfl⟩
section
variable {P : Program} {n : Nat} {E : Env} {C : World→Prop} {dst : Option Tmp} {t t' ty : TypeId} {pos : String} {aft : Array Edge} {g : Option (Nat × Bool)} {x y : Operand} {c : Bool}
theorem OQ.dB {a b : Nat} (hx : ev E x=some (N a)) (hy : ev E y=some (N b)) (h : decide (a=b)=c) : OQ P n E C ⟨dst,.binOp .eql t x y t',ty,pos,aft,g⟩ (.bool c):=
  OQ.gj hx hy ((decide_eq_decide.2 (by omega)).trans h)
theorem OQ.ek {a b : Nat} (hx : ev E x=some (N a)) (hy : ev E y=some (N b)) (h : decide (a=b)=c) : OQ P n E C ⟨dst,.binOp .neq t x y t',ty,pos,aft,g⟩ (.bool (!c)):=
  OQ.qA hx hy ((decide_eq_decide.2 (by omega)).trans h)
end
theorem lF (b : Nat) (z : Pw) (w : World) (h0 : aa w [] [⟨b,Row 75 z.cs,false⟩] w) : Calls Tryz.prog 13 [Pt b 0].toArray w fun e w'=>e=.returned (.bool (decide (z.st=5)))∧Ext w w':=by
  refine enter (n:=8) Tryz.func13 rfl rfl rfl h0 ?_
  repeat (first | refine JL.q (by first|(apply OQ.load;exact cX;rfl;exact .here;exact (Row.cell (v:=N z.st) rfl))|(apply OQ.move;rfl)|(apply OQ.assign;rfl)|(apply OQ.aV;rfl)|(apply OQ.B7;rfl;rfl)|(apply OQ.bG;rfl;rfl;rfl;exact (by decide);rfl)) rfl ?_ | refine JC.seq ?_ | refine JC.region ?_ | refine JL.nil ?_ | refine JE.next ?_)
  refine JC.ret ?_
  skip
  exact JE.aC rfl (RV.tmp rfl) fun w' hw=>⟨rfl,hw.aS⟩
theorem yE (b : Nat) (z : Pw) (w : World) (h0 : aa w [] [⟨b,Row 75 z.cs,false⟩] w) : Calls Tryz.prog 69 [Pt b 0].toArray w fun e w'=>e=.returned (N (if z.st=4 then 4194304 else 513))∧Ext w w':=by
  refine enter (n:=8) Tryz.func69 rfl rfl rfl h0 ?_
  cases h : decide (z.st=4) with
  | true=>
    rw [if_pos (of_decide_eq_true h)]
    repeat (first | refine JL.q (by first|(apply OQ.load;exact cX;rfl;exact .here;exact (Row.cell (v:=N z.st) rfl))|(apply OQ.dB;rfl;rfl;exact h)|(apply OQ.move;rfl)|(apply OQ.assign;rfl)|(apply OQ.aV;rfl)|(apply OQ.bG;rfl;rfl;rfl;exact (by decide);rfl)) rfl ?_ | refine JC.seq ?_ | refine JC.region ?_ | refine JL.nil ?_ | refine JE.next ?_)
    refine JC.cond_true rfl rfl ?_
    repeat (first | refine JL.q (by (apply OQ.assign;rfl)) rfl ?_ | refine JC.seq ?_ | refine JC.region ?_ | refine JL.nil ?_ | refine JE.next ?_)
    refine JC.ret ?_
    repeat (refine JE.ah ?_)
    exact JE.aC rfl (RV.tmp rfl) fun w' hw=>⟨rfl,hw.aS⟩
  | false=>
    rw [if_neg (of_decide_eq_false h)]
    repeat (first | refine JL.q (by first|(apply OQ.load;exact cX;rfl;exact .here;exact (Row.cell (v:=N z.st) rfl))|(apply OQ.dB;rfl;rfl;exact h)|(apply OQ.move;rfl)|(apply OQ.assign;rfl)|(apply OQ.aV;rfl)|(apply OQ.bG;rfl;rfl;rfl;exact (by decide);rfl)) rfl ?_ | refine JC.seq ?_ | refine JC.region ?_ | refine JL.nil ?_ | refine JE.next ?_)
    refine JC.cond_false rfl rfl ?_
    repeat (first | refine JL.q (by (apply OQ.assign;rfl)) rfl ?_ | refine JC.seq ?_ | refine JC.region ?_ | refine JC.skip ?_ | refine JL.nil ?_ | refine JE.next ?_)
    refine JC.ret ?_
    skip
    exact JE.aC rfl (RV.tmp rfl) fun w' hw=>⟨rfl,hw.aS⟩
def Pw.cg (z : Pw) (k : Nat) : Pw:=⟨k,[],none,[],z.ql,z.ln,none,[],z.qm,z.zs⟩
theorem Pw.nL {z : Pw} (h : z.ok) (k : Nat) : (z.cg k).ok:=⟨fun _=>rfl,h.l,fun _=>rfl,h.m⟩
theorem Pw.nM {z : Pw} {S : Po} (h : z.is S) (hn : S.ln=[]) (k : Nat) : (z.cg k).is (dF.cg S k):=⟨rfl,rfl,rfl,h.ln.trans ((iX hn).trans (iX (S:=dF.cg S k) hn).symm),rfl,h.ms⟩
theorem uo (z : Pw) (k : Nat) : aq (z.cg k).R z.R:=fJ (.nil _) (fJ (aq.refl _) (fJ (.nil _) (aq.refl _)))
theorem pR (b : Nat) (z : Pw) (w : World) (h0 : aa w (keys (z.E b)) (z.E b) w) : Calls Tryz.prog 105 [Pt b 0].toArray w fun e w'=>e=.returned (.tuple #[])∧aa w (keys (z.E b)) ((z.cg 1).E b) w':=by
  generalize hS : keys (z.E b)=S0 at h0 ⊢
  refine enter (n:=14) Tryz.func105 rfl rfl rfl h0 ?_
  repeat (first | refine JL.q (by first|(apply OQ.move;rfl)|(apply OQ.aV;rfl)|(apply OQ.bG;rfl;rfl;rfl;exact (by decide);rfl)) rfl ?_ | refine JC.seq ?_ | refine JC.region ?_)
  refine JL.kZ 1 rfl rfl ?_
  repeat (first | refine JL.q (by first|(apply OQ.move;rfl)|(apply OQ.aV;rfl)|(apply OQ.bG;rfl;rfl;rfl;exact (by decide);rfl)) rfl ?_ | refine JC.region ?_ | refine JL.nil ?_ | refine JE.next ?_)
  refine JL.vS [] rfl rfl ?_
  repeat (refine JL.q (by first|(apply OQ.aV;rfl)|(apply OQ.bG;rfl;rfl;rfl;exact (by decide);rfl)) rfl ?_)
  refine JL.sA none [] rfl rfl ?_
  repeat (refine JL.q (by first|(apply OQ.aV;rfl)|(apply OQ.bG;rfl;rfl;rfl;exact (by decide);rfl)) rfl ?_)
  refine JL.sB none [] rfl rfl ?_
  repeat (refine JL.nil ?_)
  exact JE.x9 rfl fun w' hw=>⟨rfl,hw.weak (.keep _ _ _ _ _ _ (fun _ h=>h) (uo z 1))⟩
theorem JL.nN {n : Nat} {w0 : World} {S : List Nat} {ops : Array Oper} {Q : Exit→Act→World→Prop} {l : List Oper} {E : Env} {d : Nat} {ty : TypeId} {pos : String} {aft : Array Edge} {x : Operand} {ats : Array TypeId} {b : Nat} {z : Pw}
    (hx : ev E x=some (Pt b 0)) (hd : Nat.blt d n=true) (kk : JL Tryz.prog n w0 S ops Q l ((d,.tuple #[])::E) ((z.cg 1).E b)) : JL Tryz.prog n w0 S ops Q (⟨some d,.call ⟨.value (.func 105),#[x],ats⟩,ty,pos,aft,none⟩::l) E (z.E b):=by
  refine JL.perm ?_ (List.Perm.of_eq (List.append_nil _).symm)
  refine JL.iw (xs:=[x]) (ι:=Unit) (vs:=[Pt b 0]) (fun _=>.tuple #[]) (fun _=>(z.cg 1).E b) jd (by simp [fQ,hx]) hd (z.wr b) (fun _=>Pw.wr b _) (fun w' _ hx=>(pR b z w' hx).mono fun e w2 ⟨h1,h2⟩=>⟨(),h1,h2⟩) fun _=>?_
  rw [List.append_nil]
  exact kk
theorem Bb (t : List Bt) (c : Bt) : decide (t.take 1=[c])=decide (t.head?=some c):=by
  refine decide_eq_decide.2 ?_
  cases t <;> simp
theorem uq (b : Nat) (z : Pw) (S : Po) (ok : z.ok) (hs : z.is S) (hn : S.ln=[]) (t : List Bt) (w : World) (h0 : aa w (keys (z.E b)) (z.E b) w) : Calls Tryz.prog 140 [Pt b 0,Z t].toArray w (fo (keys (z.E b)) b (dZ S t) w):=by
  generalize hS : keys (z.E b)=S0 at h0 ⊢
  have hc:=fun w'=>wF t [32] w'
  rw [show ([32] : List Bt).length=1 from rfl,Bb] at hc
  cases h : decide (t.head?=some 32) with
  | true=>
    rw [h] at hc
    rw [show dZ S t=(cg S 1,fc) from if_pos (of_decide_eq_true h)]
    refine enter (n:=10) Tryz.func140 rfl rfl rfl h0 ?_
    repeat (first | refine JL.q (by first|(apply OQ.an (vs:=[Z t,Z [32]]);exact mM;rfl;exact (fun w' _=>hc w'))|(apply OQ.not;rfl)|(apply OQ.move;rfl)|(apply OQ.assign;rfl)) rfl ?_ | refine JC.seq ?_ | refine JC.region ?_ | refine JL.nil ?_ | refine JE.next ?_)
    refine JC.cond_false rfl rfl ?_
    repeat (first | refine JL.q (by (apply OQ.move;rfl)) rfl ?_ | refine JC.seq ?_ | refine JC.region ?_ | refine JC.skip ?_ | refine JE.next ?_)
    refine JL.nN rfl rfl ?_
    repeat (first | refine JL.q (by (apply OQ.assign;rfl)) rfl ?_ | refine JC.seq ?_ | refine JC.region ?_ | refine JL.nil ?_ | refine JE.next ?_)
    refine JC.ret ?_
    skip
    exact JE.aC rfl (RV.tmp rfl) fun w' hw=>⟨z.cg 1,⟨Pw.nL ok 1,Pw.nM hs hn 1⟩,rfl,hw⟩
  | false=>
    rw [h] at hc
    rw [show dZ S t=(S,dW) from if_neg (of_decide_eq_false h)]
    refine enter (n:=10) Tryz.func140 rfl rfl rfl h0 ?_
    repeat (first | refine JL.q (by first|(apply OQ.an (vs:=[Z t,Z [32]]);exact mM;rfl;exact (fun w' _=>hc w'))|(apply OQ.not;rfl)|(apply OQ.move;rfl)|(apply OQ.assign;rfl)) rfl ?_ | refine JC.seq ?_ | refine JC.region ?_ | refine JL.nil ?_ | refine JE.next ?_)
    refine JC.cond_true rfl rfl ?_
    repeat (first | refine JL.q (by (apply OQ.assign;rfl)) rfl ?_ | refine JC.seq ?_ | refine JC.region ?_ | refine JL.nil ?_ | refine JE.next ?_)
    refine JC.ret ?_
    repeat (refine JE.ah ?_)
    exact JE.aC rfl (RV.tmp rfl) fun w' hw=>⟨z,⟨ok,hs⟩,rfl,hw⟩
end dF
end
section
set_option maxRecDepth 10000
open Sl
namespace dF
def Pw.zp (z : Pw) (k : Nat) : Pw:={ z with st:=k }
theorem Pw.Bc {z : Pw} (h : z.ok) (k : Nat) : (z.zp k).ok:=⟨h.t,h.l,h.d,h.m⟩
theorem jH {S : Po} (hn : S.ln=[]) {z : Pw} (h : z.is S) (T : Po) (hT : T.ln=[]) : z.ln=qX T:=h.ln.trans ((iX hn).trans (iX hT).symm)
set_option maxHeartbeats 4000000
theorem ur (b : Nat) (z : Pw) (S : Po) (ok : z.ok) (hs : z.is S) (hn : S.ln=[]) (t : List Bt) (w : World) (h0 : aa w (keys (z.E b)) (z.E b) w) : Calls Tryz.prog 143 [Pt b 0,Z t].toArray w (fo (keys (z.E b)) b (dy S t) w):=by
  generalize hS : keys (z.E b)=S0 at h0 ⊢
  unfold dy
  cases h1 : decide (t=[]) with
  | false=>
    rw [if_neg (of_decide_eq_false h1)]
    refine enter (n:=17) Tryz.func143 rfl rfl rfl h0 ?_
    repeat (first | refine JL.q (by first|(apply OQ.iW (r:=[]);rfl;rfl;exact h1)|(apply OQ.move;rfl)|(apply OQ.assign;rfl)) rfl ?_ | refine JC.seq ?_ | refine JC.region ?_ | refine JC.block ?_ | refine JL.nil ?_ | refine JE.next ?_)
    refine JC.cond_true rfl rfl ?_
    repeat (first | refine JL.q (by (apply OQ.assign;rfl)) rfl ?_ | refine JC.seq ?_ | refine JC.region ?_ | refine JL.nil ?_ | refine JE.next ?_)
    refine JC.ret ?_
    repeat (first | refine JE.ah ?_ | refine JE.aW ?_)
    exact JE.aC rfl (RV.tmp rfl) fun w' hw=>⟨z,⟨ok,hs⟩,rfl,hw⟩
  | true=>
    rw [if_pos (of_decide_eq_true h1)]
    cases h2 : decide (z.st=3) with
    | false=>
      rw [if_neg (fun e=>of_decide_eq_false h2 (hs.st.trans e))]
      refine enter (n:=17) Tryz.func143 rfl rfl rfl h0 ?_
      repeat (first | refine JL.q (by first|(apply OQ.iW (r:=[]);rfl;rfl;exact h1)|(apply OQ.move;rfl)|(apply OQ.assign;rfl)) rfl ?_ | refine JC.seq ?_ | refine JC.region ?_ | refine JC.block ?_ | refine JL.nil ?_ | refine JE.next ?_)
      refine JC.cond_false rfl rfl ?_
      repeat (first | refine JL.q (by first|(apply OQ.load;exact cX;rfl;exact .here;exact (Row.cell (v:=N z.st) rfl))|(apply OQ.ek;rfl;rfl;exact h2)|(apply OQ.move;rfl)|(apply OQ.assign;rfl)|(apply OQ.aV;rfl)|(apply OQ.bG;rfl;rfl;rfl;exact (by decide);rfl)) rfl ?_ | refine JC.seq ?_ | refine JC.region ?_ | refine JL.nil ?_ | refine JE.next ?_)
      refine JC.cond_true rfl rfl ?_
      repeat (first | refine JL.q (by (apply OQ.assign;rfl)) rfl ?_ | refine JC.seq ?_ | refine JC.region ?_ | refine JL.nil ?_ | refine JE.next ?_)
      refine JC.ret ?_
      repeat (first | refine JE.ah ?_ | refine JE.aW ?_)
      exact JE.aC rfl (RV.tmp rfl) fun w' hw=>⟨z,⟨ok,hs⟩,rfl,hw⟩
    | true=>
      rw [if_pos (hs.st.symm.trans (of_decide_eq_true h2))]
      refine enter (n:=17) Tryz.func143 rfl rfl rfl h0 ?_
      repeat (first | refine JL.q (by first|(apply OQ.iW (r:=[]);rfl;rfl;exact h1)|(apply OQ.move;rfl)|(apply OQ.assign;rfl)) rfl ?_ | refine JC.seq ?_ | refine JC.region ?_ | refine JC.block ?_ | refine JL.nil ?_ | refine JE.next ?_)
      refine JC.cond_false rfl rfl ?_
      repeat (first | refine JL.q (by first|(apply OQ.load;exact cX;rfl;exact .here;exact (Row.cell (v:=N z.st) rfl))|(apply OQ.ek;rfl;rfl;exact h2)|(apply OQ.move;rfl)|(apply OQ.assign;rfl)|(apply OQ.aV;rfl)|(apply OQ.bG;rfl;rfl;rfl;exact (by decide);rfl)) rfl ?_ | refine JC.seq ?_ | refine JC.region ?_ | refine JL.nil ?_ | refine JE.next ?_)
      refine JC.cond_false rfl rfl ?_
      repeat (first | refine JL.q (by first|(apply OQ.move;rfl)|(apply OQ.aV;rfl)|(apply OQ.bG;rfl;rfl;rfl;exact (by decide);rfl)) rfl ?_ | refine JC.seq ?_ | refine JC.region ?_ | refine JC.skip ?_ | refine JE.next ?_ | refine JE.ag ?_)
      refine JL.kZ 4 rfl rfl ?_
      repeat (first | refine JL.q (by (apply OQ.assign;rfl)) rfl ?_ | refine JC.seq ?_ | refine JC.region ?_ | refine JL.nil ?_ | refine JE.next ?_)
      refine JC.ret ?_
      skip
      exact JE.aC rfl (RV.tmp rfl) fun w' hw=>⟨z.zp 4,⟨Pw.Bc ok 4,⟨rfl,hs.fr,hs.to,jH hn hs _ hn,hs.dt,hs.ms⟩⟩,rfl,hw⟩
theorem uu (b : Nat) (z : Pw) (S : Po) (ok : z.ok) (hs : z.is S) (hn : S.ln=[]) (t : List Bt) (w : World) (h0 : aa w (keys (z.E b)) (z.E b) w) : Calls Tryz.prog 144 [Pt b 0,Z t].toArray w (fo (keys (z.E b)) b (dj S t) w):=by
  generalize hS : keys (z.E b)=S0 at h0 ⊢
  unfold dj
  cases h1 : decide (t=[]) with
  | false=>
    rw [if_neg (of_decide_eq_false h1)]
    refine enter (n:=14) Tryz.func144 rfl rfl rfl h0 ?_
    repeat (first | refine JL.q (by first|(apply OQ.iW (r:=[]);rfl;rfl;exact h1)|(apply OQ.move;rfl)|(apply OQ.assign;rfl)) rfl ?_ | refine JC.seq ?_ | refine JC.region ?_ | refine JL.nil ?_ | refine JE.next ?_)
    refine JC.cond_true rfl rfl ?_
    repeat (first | refine JL.q (by (apply OQ.assign;rfl)) rfl ?_ | refine JC.seq ?_ | refine JC.region ?_ | refine JL.nil ?_ | refine JE.next ?_)
    refine JC.ret ?_
    repeat (refine JE.ah ?_)
    exact JE.aC rfl (RV.tmp rfl) fun w' hw=>⟨z,⟨ok,hs⟩,rfl,hw⟩
  | true=>
    rw [if_pos (of_decide_eq_true h1)]
    cases h2 : decide (z.st=0) with
    | true=>
      rw [if_pos (hs.st.symm.trans (of_decide_eq_true h2))]
      refine enter (n:=14) Tryz.func144 rfl rfl rfl h0 ?_
      repeat (first | refine JL.q (by first|(apply OQ.iW (r:=[]);rfl;rfl;exact h1)|(apply OQ.move;rfl)|(apply OQ.assign;rfl)) rfl ?_ | refine JC.seq ?_ | refine JC.region ?_ | refine JL.nil ?_ | refine JE.next ?_)
      refine JC.cond_false rfl rfl ?_
      repeat (first | refine JL.q (by first|(apply OQ.load;exact cX;rfl;exact .here;exact (Row.cell (v:=N z.st) rfl))|(apply OQ.ek;rfl;rfl;exact h2)|(apply OQ.move;rfl)|(apply OQ.aV;rfl)|(apply OQ.bG;rfl;rfl;rfl;exact (by decide);rfl)) rfl ?_ | refine JC.seq ?_ | refine JC.region ?_ | refine JC.skip ?_ | refine JL.nil ?_ | refine JE.next ?_)
      refine JC.cond_false rfl rfl ?_
      repeat (first | refine JL.q (by (apply OQ.assign;rfl)) rfl ?_ | refine JC.seq ?_ | refine JC.region ?_ | refine JC.skip ?_ | refine JL.nil ?_ | refine JE.next ?_)
      refine JC.ret ?_
      skip
      exact JE.aC rfl (RV.tmp rfl) fun w' hw=>⟨z,⟨ok,hs⟩,rfl,hw⟩
    | false=>
      rw [if_neg (fun e=>of_decide_eq_false h2 (hs.st.trans e))]
      refine enter (n:=14) Tryz.func144 rfl rfl rfl h0 ?_
      repeat (first | refine JL.q (by first|(apply OQ.iW (r:=[]);rfl;rfl;exact h1)|(apply OQ.move;rfl)|(apply OQ.assign;rfl)) rfl ?_ | refine JC.seq ?_ | refine JC.region ?_ | refine JL.nil ?_ | refine JE.next ?_)
      refine JC.cond_false rfl rfl ?_
      repeat (first | refine JL.q (by first|(apply OQ.load;exact cX;rfl;exact .here;exact (Row.cell (v:=N z.st) rfl))|(apply OQ.ek;rfl;rfl;exact h2)|(apply OQ.move;rfl)|(apply OQ.aV;rfl)|(apply OQ.bG;rfl;rfl;rfl;exact (by decide);rfl)) rfl ?_ | refine JC.seq ?_ | refine JC.region ?_ | refine JC.skip ?_ | refine JL.nil ?_ | refine JE.next ?_)
      refine JC.cond_true rfl rfl ?_
      repeat (first | refine JL.q (by (apply OQ.move;rfl)) rfl ?_ | refine JC.region ?_)
      refine JL.nN rfl rfl ?_
      repeat (first | refine JL.q (by (apply OQ.assign;rfl)) rfl ?_ | refine JC.seq ?_ | refine JC.region ?_ | refine JL.nil ?_ | refine JE.next ?_)
      refine JC.ret ?_
      skip
      exact JE.aC rfl (RV.tmp rfl) fun w' hw=>⟨z.cg 1,⟨Pw.nL ok 1,Pw.nM hs hn 1⟩,rfl,hw⟩
theorem wH (b : Nat) (z : Pw) (S : Po) (ok : z.ok) (hs : z.is S) (hn : S.ln=[]) (t : List Bt) (w : World) (h0 : aa w (keys (z.E b)) (z.E b) w) : Calls Tryz.prog 145 [Pt b 0,Z t].toArray w (fo (keys (z.E b)) b (gi S t) w):=by
  generalize hS : keys (z.E b)=S0 at h0 ⊢
  unfold gi
  cases h1 : decide (t=[]) with
  | false=>
    rw [if_neg (of_decide_eq_false h1)]
    refine enter (n:=12) Tryz.func145 rfl rfl rfl h0 ?_
    repeat (first | refine JL.q (by first|(apply OQ.iW (r:=[]);rfl;rfl;exact h1)|(apply OQ.move;rfl)|(apply OQ.assign;rfl)) rfl ?_ | refine JC.seq ?_ | refine JC.region ?_ | refine JL.nil ?_ | refine JE.next ?_)
    refine JC.cond_true rfl rfl ?_
    repeat (first | refine JL.q (by (apply OQ.assign;rfl)) rfl ?_ | refine JC.seq ?_ | refine JC.region ?_ | refine JL.nil ?_ | refine JE.next ?_)
    refine JC.ret ?_
    repeat (refine JE.ah ?_)
    exact JE.aC rfl (RV.tmp rfl) fun w' hw=>⟨z,⟨ok,hs⟩,rfl,hw⟩
  | true=>
    rw [if_pos (of_decide_eq_true h1)]
    refine enter (n:=12) Tryz.func145 rfl rfl rfl h0 ?_
    repeat (first | refine JL.q (by first|(apply OQ.iW (r:=[]);rfl;rfl;exact h1)|(apply OQ.move;rfl)|(apply OQ.assign;rfl)) rfl ?_ | refine JC.seq ?_ | refine JC.region ?_ | refine JL.nil ?_ | refine JE.next ?_)
    refine JC.cond_false rfl rfl ?_
    repeat (first | refine JL.q (by (apply OQ.move;rfl)) rfl ?_ | refine JC.seq ?_ | refine JC.region ?_ | refine JC.skip ?_ | refine JE.next ?_)
    refine JL.nN rfl rfl ?_
    repeat (first | refine JL.q (by first|(apply OQ.move;rfl)|(apply OQ.aV;rfl)|(apply OQ.bG;rfl;rfl;rfl;exact (by decide);rfl)) rfl ?_ | refine JC.seq ?_ | refine JC.region ?_ | refine JL.nil ?_ | refine JE.next ?_)
    refine JL.kZ (z:=z.cg 1) 5 rfl rfl ?_
    repeat (first | refine JL.q (by (apply OQ.assign;rfl)) rfl ?_ | refine JC.seq ?_ | refine JC.region ?_ | refine JL.nil ?_ | refine JE.next ?_)
    refine JC.ret ?_
    skip
    exact JE.aC rfl (RV.tmp rfl) fun w' hw=>⟨z.cg 5,⟨Pw.nL ok 5,Pw.nM hs hn 5⟩,rfl,hw⟩
theorem mN (s : List Bt) (w : World) (hl : s.length<1000000) : Calls Tryz.prog 106 [Z s].toArray w fun e w'=>e=.returned (.bool (dX s))∧Ext w w':=by
  have hc:=fun w'=>ug s w' hl
  unfold dX
  generalize (Tok.cJ s).1=a at hc ⊢
  generalize (Tok.cJ s).2=k at hc ⊢
  refine enter (n:=17) Tryz.func106 rfl rfl rfl (aa.start w []) ?_
  cases h1 : decide (k=0) with
  | false=>
    repeat (first | refine JL.q (by first|(apply OQ.an (vs:=[Z s]);exact iI;rfl;exact (fun w' _=>hc w'))|(apply OQ.extract;rfl;rfl)|(apply OQ.dB (b:=0);rfl;rfl;exact h1)|(apply OQ.au;rfl;rfl)|(apply OQ.move;rfl)|(apply OQ.assign;rfl)) rfl ?_ | refine JC.seq ?_ | refine JC.region ?_ | refine JL.nil ?_ | refine JE.next ?_ | refine JL.aM rfl rfl rfl rfl ?_)
    refine JC.ret ?_
    skip
    exact JE.aC rfl (RV.tmp rfl) fun w' hw=>⟨rfl,hw.aS⟩
  | true=>
    cases h2 : decide (a=s)
    all_goals (repeat (first | refine JL.q (by first|(apply OQ.an (vs:=[Z s]);exact iI;rfl;exact (fun w' _=>hc w'))|(apply OQ.extract;rfl;rfl)|(apply OQ.dB (b:=0);rfl;rfl;exact h1)|(apply OQ.fX;rfl;rfl;exact h2)|(apply OQ.ay;rfl;rfl)|(apply OQ.move;rfl)|(apply OQ.assign;rfl)) rfl ?_ | refine JC.seq ?_ | refine JC.region ?_ | refine JL.nil ?_ | refine JE.next ?_ | refine JL.aU rfl rfl ?_))
    all_goals refine JC.ret ?_
    all_goals (skip)
    all_goals exact JE.aC rfl (RV.tmp rfl) fun w' hw=>⟨rfl,hw.aS⟩
def lG (s : List Bt) : Value:=match ep s with
  | none=>.tuple #[Z [],.bool false]
  | some a=>.tuple #[Z a,.bool true]
theorem mO (s : List Bt) (w : World) (hl : s.length<1000000) : Calls Tryz.prog 175 [Z s].toArray w fun e w'=>e=.returned (lG s)∧Ext w w':=by
  have c1:=fun w'=>yA s 60 w'
  unfold A9 at c1
  have tl : s.tail.length<1000000:=by rw [List.length_tail];omega
  by_cases h1 : s.head?=some 60
  · simp only [h1,if_true] at c1
    have c2:=fun w'=>nK s.tail 62 w' (by omega)
    unfold zn at c2
    by_cases h2 : s.tail.getLast?=some 62
    · simp only [h2,if_true] at c2
      have c3:=fun w'=>mN s.tail.dropLast w' (by rw [List.length_dropLast];omega)
      cases h3 : dX s.tail.dropLast with
      | true=>
        simp only [h3] at c3
        rw [show lG s=.tuple #[Z s.tail.dropLast,.bool true] by unfold lG ep;rw [if_pos ⟨h1,h2,h3⟩]]
        refine enter (n:=30) Tryz.func175 rfl rfl rfl (aa.start w []) ?_
        repeat (first | refine JL.q (by first|(apply OQ.an (vs:=[Z s,Z [60]]);exact gX;rfl;exact (fun w' _=>c1 w'))|(apply OQ.an (vs:=[Z s.tail,Z [62]]);exact gY;rfl;exact (fun w' _=>c2 w'))|(apply OQ.an (vs:=[Z s.tail.dropLast]);exact iJ;rfl;exact (fun w' _=>c3 w'))|(apply OQ.extract;rfl;rfl)|(apply OQ.not;rfl)|(apply OQ.au;rfl;rfl)|(apply OQ.move;rfl)|(apply OQ.assign;rfl)) rfl ?_ | refine JC.seq ?_ | refine JC.region ?_ | refine JL.nil ?_ | refine JE.next ?_ | refine JL.aU rfl rfl ?_)
        refine JC.cond_false rfl rfl ?_
        repeat (first | refine JL.q (by first|(apply OQ.move;rfl)|(apply OQ.assign;rfl)) rfl ?_ | refine JC.seq ?_ | refine JC.region ?_ | refine JC.skip ?_ | refine JL.nil ?_ | refine JE.next ?_)
        refine JC.ret ?_
        skip
        exact JE.bI rfl (RV.tmp rfl) (RV.tmp rfl) fun w' hw=>⟨rfl,hw.aS⟩
      | false=>
        simp only [h3] at c3
        rw [show lG s=.tuple #[Z [],.bool false] by unfold lG ep;rw [if_neg (by rw [h3];simp)]]
        refine enter (n:=30) Tryz.func175 rfl rfl rfl (aa.start w []) ?_
        repeat (first | refine JL.q (by first|(apply OQ.an (vs:=[Z s,Z [60]]);exact gX;rfl;exact (fun w' _=>c1 w'))|(apply OQ.an (vs:=[Z s.tail,Z [62]]);exact gY;rfl;exact (fun w' _=>c2 w'))|(apply OQ.an (vs:=[Z s.tail.dropLast]);exact iJ;rfl;exact (fun w' _=>c3 w'))|(apply OQ.extract;rfl;rfl)|(apply OQ.not;rfl)|(apply OQ.au;rfl;rfl)|(apply OQ.move;rfl)|(apply OQ.assign;rfl)) rfl ?_ | refine JC.seq ?_ | refine JC.region ?_ | refine JL.nil ?_ | refine JE.next ?_ | refine JL.aU rfl rfl ?_)
        refine JC.cond_true rfl rfl ?_
        repeat (first | refine JL.q (by (apply OQ.assign;rfl)) rfl ?_ | refine JC.seq ?_ | refine JC.region ?_ | refine JL.nil ?_ | refine JE.next ?_)
        refine JC.ret ?_
        repeat (refine JE.ah ?_)
        exact JE.bI rfl (RV.tmp rfl) (RV.tmp rfl) fun w' hw=>⟨rfl,hw.aS⟩
    · simp only [h2,if_false] at c2
      rw [show lG s=.tuple #[Z [],.bool false] by unfold lG ep;rw [if_neg (fun e=>h2 e.2.1)]]
      refine enter (n:=30) Tryz.func175 rfl rfl rfl (aa.start w []) ?_
      repeat (first | refine JL.q (by first|(apply OQ.an (vs:=[Z s,Z [60]]);exact gX;rfl;exact (fun w' _=>c1 w'))|(apply OQ.an (vs:=[Z s.tail,Z [62]]);exact gY;rfl;exact (fun w' _=>c2 w'))|(apply OQ.extract;rfl;rfl)|(apply OQ.not;rfl)|(apply OQ.au;rfl;rfl)|(apply OQ.ay;rfl;rfl)|(apply OQ.move;rfl)|(apply OQ.assign;rfl)) rfl ?_ | refine JC.seq ?_ | refine JC.region ?_ | refine JL.nil ?_ | refine JE.next ?_ | refine JL.aU rfl rfl ?_ | refine JL.aM rfl rfl rfl rfl ?_)
      refine JC.cond_true rfl rfl ?_
      repeat (first | refine JL.q (by (apply OQ.assign;rfl)) rfl ?_ | refine JC.seq ?_ | refine JC.region ?_ | refine JL.nil ?_ | refine JE.next ?_)
      refine JC.ret ?_
      repeat (refine JE.ah ?_)
      exact JE.bI rfl (RV.tmp rfl) (RV.tmp rfl) fun w' hw=>⟨rfl,hw.aS⟩
  · simp only [h1,if_false] at c1
    have c2:=fun w'=>nK s 62 w' (by omega)
    have hcs : ∃ u k,zn 62 s=.tuple #[Z u,.bool k]:=by unfold zn;split <;> exact ⟨_,_,rfl⟩
    obtain ⟨u,k,hcs⟩:=hcs
    rw [hcs] at c2
    rw [show lG s=.tuple #[Z [],.bool false] by unfold lG ep;rw [if_neg (fun e=>h1 e.1)]]
    refine enter (n:=30) Tryz.func175 rfl rfl rfl (aa.start w []) ?_
    repeat (first | refine JL.q (by first|(apply OQ.an (vs:=[Z s,Z [60]]);exact gX;rfl;exact (fun w' _=>c1 w'))|(apply OQ.an (vs:=[Z s,Z [62]]);exact gY;rfl;exact (fun w' _=>c2 w'))|(apply OQ.extract;rfl;rfl)|(apply OQ.not;rfl)|(apply OQ.ay;rfl;rfl)|(apply OQ.move;rfl)|(apply OQ.assign;rfl)) rfl ?_ | refine JC.seq ?_ | refine JC.region ?_ | refine JL.nil ?_ | refine JE.next ?_ | refine JL.aM rfl rfl rfl rfl ?_)
    refine JC.cond_true rfl rfl ?_
    repeat (first | refine JL.q (by (apply OQ.assign;rfl)) rfl ?_ | refine JC.seq ?_ | refine JC.region ?_ | refine JL.nil ?_ | refine JE.next ?_)
    refine JC.ret ?_
    repeat (refine JE.ah ?_)
    exact JE.bI rfl (RV.tmp rfl) (RV.tmp rfl) fun w' hw=>⟨rfl,hw.aS⟩
theorem ru (b : Nat) (z : Pw) (S : Po) (ok : z.ok) (hs : z.is S) (hn : S.ln=[]) (t : List Bt) (hl : t.length<1000000) (w : World) (h0 : aa w (keys (z.E b)) (z.E b) w) : Calls Tryz.prog 141 [Pt b 0,Z t].toArray w (fo (keys (z.E b)) b (bW S t) w):=by
  generalize hS : keys (z.E b)=S0 at h0 ⊢
  have ca:=fun w'=>mO t w' hl
  unfold lG at ca
  unfold bW
  cases ha : ep t with
  | none=>
    simp only [ha] at ca
    dsimp only
    refine enter (n:=28) Tryz.func141 rfl rfl rfl h0 ?_
    repeat (first | refine JL.q (by first|(apply OQ.an (vs:=[Z t]);exact cO;rfl;exact (fun w' _=>ca w'))|(apply OQ.extract;rfl;rfl)|(apply OQ.not;rfl)|(apply OQ.move;rfl)|(apply OQ.assign;rfl)) rfl ?_ | refine JC.seq ?_ | refine JC.region ?_ | refine JC.block ?_ | refine JL.nil ?_ | refine JE.next ?_)
    refine JC.cond_true rfl rfl ?_
    repeat (first | refine JL.q (by (apply OQ.assign;rfl)) rfl ?_ | refine JC.seq ?_ | refine JC.region ?_ | refine JL.nil ?_ | refine JE.next ?_)
    refine JC.ret ?_
    repeat (first | refine JE.ah ?_ | refine JE.aW ?_)
    exact JE.aC rfl (RV.tmp rfl) fun w' hw=>⟨z,⟨ok,hs⟩,rfl,hw⟩
  | some a=>
    simp only [ha] at ca
    dsimp only
    cases h2 : decide (z.st=1) with
    | false=>
      rw [if_neg (fun e=>of_decide_eq_false h2 (hs.st.trans e))]
      refine enter (n:=28) Tryz.func141 rfl rfl rfl h0 ?_
      repeat (first | refine JL.q (by first|(apply OQ.an (vs:=[Z t]);exact cO;rfl;exact (fun w' _=>ca w'))|(apply OQ.extract;rfl;rfl)|(apply OQ.not;rfl)|(apply OQ.move;rfl)|(apply OQ.assign;rfl)) rfl ?_ | refine JC.seq ?_ | refine JC.region ?_ | refine JC.block ?_ | refine JL.nil ?_ | refine JE.next ?_)
      refine JC.cond_false rfl rfl ?_
      repeat (first | refine JL.q (by first|(apply OQ.load;exact cX;rfl;exact .here;exact (Row.cell (v:=N z.st) rfl))|(apply OQ.ek;rfl;rfl;exact h2)|(apply OQ.move;rfl)|(apply OQ.assign;rfl)|(apply OQ.aV;rfl)|(apply OQ.bG;rfl;rfl;rfl;exact (by decide);rfl)) rfl ?_ | refine JC.seq ?_ | refine JC.region ?_ | refine JL.nil ?_ | refine JE.next ?_)
      refine JC.cond_true rfl rfl ?_
      repeat (first | refine JL.q (by (apply OQ.assign;rfl)) rfl ?_ | refine JC.seq ?_ | refine JC.region ?_ | refine JL.nil ?_ | refine JE.next ?_)
      refine JC.ret ?_
      repeat (first | refine JE.ah ?_ | refine JE.aW ?_)
      exact JE.aC rfl (RV.tmp rfl) fun w' hw=>⟨z,⟨ok,hs⟩,rfl,hw⟩
    | true=>
      rw [if_pos (hs.st.symm.trans (of_decide_eq_true h2))]
      refine enter (n:=28) Tryz.func141 rfl rfl rfl h0 ?_
      repeat (first | refine JL.q (by first|(apply OQ.an (vs:=[Z t]);exact cO;rfl;exact (fun w' _=>ca w'))|(apply OQ.extract;rfl;rfl)|(apply OQ.not;rfl)|(apply OQ.move;rfl)|(apply OQ.assign;rfl)) rfl ?_ | refine JC.seq ?_ | refine JC.region ?_ | refine JC.block ?_ | refine JL.nil ?_ | refine JE.next ?_)
      refine JC.cond_false rfl rfl ?_
      repeat (first | refine JL.q (by first|(apply OQ.load;exact cX;rfl;exact .here;exact (Row.cell (v:=N z.st) rfl))|(apply OQ.ek;rfl;rfl;exact h2)|(apply OQ.move;rfl)|(apply OQ.assign;rfl)|(apply OQ.aV;rfl)|(apply OQ.bG;rfl;rfl;rfl;exact (by decide);rfl)) rfl ?_ | refine JC.seq ?_ | refine JC.region ?_ | refine JL.nil ?_ | refine JE.next ?_)
      refine JC.cond_false rfl rfl ?_
      repeat (first | refine JL.q (by first|(apply OQ.move;rfl)|(apply OQ.aV;rfl)|(apply OQ.bG;rfl;rfl;rfl;exact (by decide);rfl)) rfl ?_ | refine JC.seq ?_ | refine JC.region ?_ | refine JC.skip ?_ | refine JE.next ?_ | refine JE.ag ?_)
      refine JL.vS a rfl rfl ?_
      repeat (first | refine JL.q (by first|(apply OQ.move;rfl)|(apply OQ.aV;rfl)|(apply OQ.bG;rfl;rfl;rfl;exact (by decide);rfl)) rfl ?_ | refine JC.seq ?_ | refine JC.region ?_ | refine JL.nil ?_ | refine JE.next ?_)
      refine JL.kZ 2 rfl rfl ?_
      repeat (first | refine JL.q (by (apply OQ.assign;rfl)) rfl ?_ | refine JC.seq ?_ | refine JC.region ?_ | refine JL.nil ?_ | refine JE.next ?_)
      refine JC.ret ?_
      skip
      exact JE.aC rfl (RV.tmp rfl) fun w' hw=>⟨⟨2,a,z.qt,z.to,z.ql,z.ln,z.qd,z.dt,z.qm,z.zs⟩,⟨⟨ok.t,ok.l,ok.d,ok.m⟩,⟨rfl,rfl,hs.to,jH hn hs _ hn,hs.dt,hs.ms⟩⟩,rfl,hw⟩
theorem wI (b : Nat) (z : Pw) (S : Po) (ok : z.ok) (hs : z.is S) (hn : S.ln=[]) (h10 : S.to.length≤10) (t : List Bt) (hl : t.length<1000000) (w : World) (h0 : aa w (keys (z.E b)) (z.E b) w) : Calls Tryz.prog 142 [Pt b 0,Z t].toArray w (fo (keys (z.E b)) b (dP S t) w):=by
  generalize hS : keys (z.E b)=S0 at h0 ⊢
  have ca:=fun w'=>mO t w' hl
  unfold lG at ca
  unfold dP
  cases ha : ep t with
  | none=>
    simp only [ha] at ca
    dsimp only
    refine enter (n:=48) Tryz.func142 rfl rfl rfl h0 ?_
    repeat (first | refine JL.q (by first|(apply OQ.an (vs:=[Z t]);exact cO;rfl;exact (fun w' _=>ca w'))|(apply OQ.extract;rfl;rfl)|(apply OQ.not;rfl)|(apply OQ.move;rfl)|(apply OQ.assign;rfl)) rfl ?_ | refine JC.seq ?_ | refine JC.region ?_ | refine JC.block ?_ | refine JL.nil ?_ | refine JE.next ?_)
    refine JC.cond_true rfl rfl ?_
    repeat (first | refine JL.q (by (apply OQ.assign;rfl)) rfl ?_ | refine JC.seq ?_ | refine JC.region ?_ | refine JL.nil ?_ | refine JE.next ?_)
    refine JC.ret ?_
    repeat (first | refine JE.ah ?_ | refine JE.aW ?_)
    exact JE.aC rfl (RV.tmp rfl) fun w' hw=>⟨z,⟨ok,hs⟩,rfl,hw⟩
  | some a=>
    simp only [ha] at ca
    dsimp only
    cases h2 : decide (z.st=2) with
    | true=>
      rw [if_pos (.inl (hs.st.symm.trans (of_decide_eq_true h2)))]
      cases h4 : decide (z.to.length=10) with
      | true=>
        rw [if_pos (by rw [← hs.to];exact of_decide_eq_true h4)]
        refine enter (n:=48) Tryz.func142 rfl rfl rfl h0 ?_
        repeat (first | refine JL.q (by first|(apply OQ.an (vs:=[Z t]);exact cO;rfl;exact (fun w' _=>ca w'))|(apply OQ.extract;rfl;rfl)|(apply OQ.not;rfl)|(apply OQ.move;rfl)|(apply OQ.assign;rfl)) rfl ?_ | refine JC.seq ?_ | refine JC.region ?_ | refine JC.block ?_ | refine JL.nil ?_ | refine JE.next ?_)
        refine JC.cond_false rfl rfl ?_
        repeat (first | refine JL.q (by first|(apply OQ.load;exact cX;rfl;exact .here;exact (Row.cell (v:=N z.st) rfl))|(apply OQ.ek (b:=2);rfl;rfl;exact h2)|(apply OQ.au;rfl;rfl)|(apply OQ.move;rfl)|(apply OQ.assign;rfl)|(apply OQ.aV;rfl)|(apply OQ.bG;rfl;rfl;rfl;exact (by decide);rfl)) rfl ?_ | refine JC.seq ?_ | refine JC.region ?_ | refine JL.nil ?_ | refine JE.next ?_ | refine JL.aM rfl rfl rfl rfl ?_)
        refine JC.cond_false rfl rfl ?_
        repeat (first | refine JL.q (by first|(apply OQ.load;exact b7;rfl;exact .here;exact (Row.cell (v:=ak z.qt z.to.length) rfl))|(apply OQ.ir;exact Tryz.underlying30;exact (fun h=>congrArg List.length (ok.t h));rfl)|(apply OQ.dB (b:=10);rfl;rfl;exact h4)|(apply OQ.move;rfl)|(apply OQ.assign;rfl)|(apply OQ.aV;rfl)|(apply OQ.bG;rfl;rfl;rfl;exact (by decide);rfl)) rfl ?_ | refine JC.seq ?_ | refine JC.region ?_ | refine JL.nil ?_ | refine JE.next ?_)
        refine JC.cond_true rfl rfl ?_
        repeat (first | refine JL.q (by (apply OQ.assign;rfl)) rfl ?_ | refine JC.seq ?_ | refine JC.region ?_ | refine JL.nil ?_ | refine JE.next ?_)
        refine JC.ret ?_
        repeat (first | refine JE.ah ?_ | refine JE.aW ?_)
        exact JE.aC rfl (RV.tmp rfl) fun w' hw=>⟨z,⟨ok,hs⟩,rfl,hw⟩
      | false=>
        rw [if_neg (by rw [← hs.to];exact of_decide_eq_false h4)]
        have htl : z.to.length≤10:=by rw [hs.to];exact h10
        refine enter (n:=48) Tryz.func142 rfl rfl rfl h0 ?_
        repeat (first | refine JL.q (by first|(apply OQ.an (vs:=[Z t]);exact cO;rfl;exact (fun w' _=>ca w'))|(apply OQ.extract;rfl;rfl)|(apply OQ.not;rfl)|(apply OQ.move;rfl)|(apply OQ.assign;rfl)) rfl ?_ | refine JC.seq ?_ | refine JC.region ?_ | refine JC.block ?_ | refine JL.nil ?_ | refine JE.next ?_)
        refine JC.cond_false rfl rfl ?_
        repeat (first | refine JL.q (by first|(apply OQ.load;exact cX;rfl;exact .here;exact (Row.cell (v:=N z.st) rfl))|(apply OQ.ek (b:=2);rfl;rfl;exact h2)|(apply OQ.au;rfl;rfl)|(apply OQ.move;rfl)|(apply OQ.assign;rfl)|(apply OQ.aV;rfl)|(apply OQ.bG;rfl;rfl;rfl;exact (by decide);rfl)) rfl ?_ | refine JC.seq ?_ | refine JC.region ?_ | refine JL.nil ?_ | refine JE.next ?_ | refine JL.aM rfl rfl rfl rfl ?_)
        refine JC.cond_false rfl rfl ?_
        repeat (first | refine JL.q (by first|(apply OQ.load;exact b7;rfl;exact .here;exact (Row.cell (v:=ak z.qt z.to.length) rfl))|(apply OQ.ir;exact Tryz.underlying30;exact (fun h=>congrArg List.length (ok.t h));rfl)|(apply OQ.dB (b:=10);rfl;rfl;exact h4)|(apply OQ.move;rfl)|(apply OQ.assign;rfl)|(apply OQ.aV;rfl)|(apply OQ.bG;rfl;rfl;rfl;exact (by decide);rfl)) rfl ?_ | refine JC.seq ?_ | refine JC.region ?_ | refine JL.nil ?_ | refine JE.next ?_)
        refine JC.cond_false rfl rfl ?_
        repeat (first | refine JL.q (by first|(apply OQ.load;exact b7;rfl;exact .here;exact (Row.cell (v:=ak z.qt z.to.length) rfl))|(apply OQ.move;rfl)|(apply OQ.aV;rfl)|(apply OQ.bG;rfl;rfl;rfl;exact (by decide);rfl)) rfl ?_ | refine JC.seq ?_ | refine JC.region ?_ | refine JC.skip ?_ | refine JE.next ?_ | refine JE.ag ?_)
        refine JL.lV (v:=Z a) Tryz.underlying30 kW rfl rfl rfl rfl fun bl _=>?_
        refine JL.perm (M':=⟨bl,Row 9 [Z a],true⟩::(z.T++(⟨b,Row 75 z.cs,true⟩::(z.L++(z.D++z.M))))) ?_ (List.Perm.cons _ (by exact (List.perm_middle (l₁:=z.T)).symm))
        refine JL.nB (p:=a) z.qt Tryz.underlying30 kW ok.t rfl rfl rfl (by omega) (by omega) rfl fun b1 cap1=>?_
        refine JL.perm (M':=⟨b,Row 75 z.cs,true⟩::(aL 9 (some (b1,cap1)) ((z.to++[a]).map Z)++(z.L++(z.D++z.M)))) ?_ (by exact List.perm_middle)
        repeat (refine JL.q (by first|(apply OQ.aV;rfl)|(apply OQ.bG;rfl;rfl;rfl;exact (by decide);rfl)) rfl ?_)
        refine JL.sA (some (b1,cap1)) (z.to++[a]) rfl rfl ?_
        repeat (first | refine JL.q (by first|(apply OQ.move;rfl)|(apply OQ.aV;rfl)|(apply OQ.bG;rfl;rfl;rfl;exact (by decide);rfl)) rfl ?_ | refine JC.seq ?_ | refine JC.region ?_ | refine JL.nil ?_ | refine JE.next ?_)
        refine JL.kZ 3 rfl rfl ?_
        repeat (first | refine JL.q (by (apply OQ.assign;rfl)) rfl ?_ | refine JC.seq ?_ | refine JC.region ?_ | refine JL.nil ?_ | refine JE.next ?_)
        refine JC.ret ?_
        skip
        exact JE.aC rfl (RV.tmp rfl) fun w' hw=>⟨⟨3,z.fr,some (b1,cap1),z.to++[a],z.ql,z.ln,z.qd,z.dt,z.qm,z.zs⟩,⟨⟨nofun,ok.l,ok.d,ok.m⟩,⟨rfl,hs.fr,congrArg (·++[a]) hs.to,jH hn hs _ hn,hs.dt,hs.ms⟩⟩,rfl,hw⟩
    | false=>
      cases h3 : decide (z.st=3) with
      | true=>
        rw [if_pos (.inr (hs.st.symm.trans (of_decide_eq_true h3)))]
        cases h4 : decide (z.to.length=10) with
        | true=>
          rw [if_pos (by rw [← hs.to];exact of_decide_eq_true h4)]
          refine enter (n:=48) Tryz.func142 rfl rfl rfl h0 ?_
          repeat (first | refine JL.q (by first|(apply OQ.an (vs:=[Z t]);exact cO;rfl;exact (fun w' _=>ca w'))|(apply OQ.extract;rfl;rfl)|(apply OQ.not;rfl)|(apply OQ.move;rfl)|(apply OQ.assign;rfl)) rfl ?_ | refine JC.seq ?_ | refine JC.region ?_ | refine JC.block ?_ | refine JL.nil ?_ | refine JE.next ?_)
          refine JC.cond_false rfl rfl ?_
          repeat (first | refine JL.q (by first|(apply OQ.load;exact cX;rfl;exact .here;exact (Row.cell (v:=N z.st) rfl))|(apply OQ.ek (b:=2);rfl;rfl;exact h2)|(apply OQ.ek (b:=3);rfl;rfl;exact h3)|(apply OQ.ay;rfl;rfl)|(apply OQ.move;rfl)|(apply OQ.assign;rfl)|(apply OQ.aV;rfl)|(apply OQ.bG;rfl;rfl;rfl;exact (by decide);rfl)) rfl ?_ | refine JC.seq ?_ | refine JC.region ?_ | refine JL.nil ?_ | refine JE.next ?_ | refine JL.aU rfl rfl ?_)
          refine JC.cond_false rfl rfl ?_
          repeat (first | refine JL.q (by first|(apply OQ.load;exact b7;rfl;exact .here;exact (Row.cell (v:=ak z.qt z.to.length) rfl))|(apply OQ.ir;exact Tryz.underlying30;exact (fun h=>congrArg List.length (ok.t h));rfl)|(apply OQ.dB (b:=10);rfl;rfl;exact h4)|(apply OQ.move;rfl)|(apply OQ.assign;rfl)|(apply OQ.aV;rfl)|(apply OQ.bG;rfl;rfl;rfl;exact (by decide);rfl)) rfl ?_ | refine JC.seq ?_ | refine JC.region ?_ | refine JL.nil ?_ | refine JE.next ?_)
          refine JC.cond_true rfl rfl ?_
          repeat (first | refine JL.q (by (apply OQ.assign;rfl)) rfl ?_ | refine JC.seq ?_ | refine JC.region ?_ | refine JL.nil ?_ | refine JE.next ?_)
          refine JC.ret ?_
          repeat (first | refine JE.ah ?_ | refine JE.aW ?_)
          exact JE.aC rfl (RV.tmp rfl) fun w' hw=>⟨z,⟨ok,hs⟩,rfl,hw⟩
        | false=>
          rw [if_neg (by rw [← hs.to];exact of_decide_eq_false h4)]
          have htl : z.to.length≤10:=by rw [hs.to];exact h10
          refine enter (n:=48) Tryz.func142 rfl rfl rfl h0 ?_
          repeat (first | refine JL.q (by first|(apply OQ.an (vs:=[Z t]);exact cO;rfl;exact (fun w' _=>ca w'))|(apply OQ.extract;rfl;rfl)|(apply OQ.not;rfl)|(apply OQ.move;rfl)|(apply OQ.assign;rfl)) rfl ?_ | refine JC.seq ?_ | refine JC.region ?_ | refine JC.block ?_ | refine JL.nil ?_ | refine JE.next ?_)
          refine JC.cond_false rfl rfl ?_
          repeat (first | refine JL.q (by first|(apply OQ.load;exact cX;rfl;exact .here;exact (Row.cell (v:=N z.st) rfl))|(apply OQ.ek (b:=2);rfl;rfl;exact h2)|(apply OQ.ek (b:=3);rfl;rfl;exact h3)|(apply OQ.ay;rfl;rfl)|(apply OQ.move;rfl)|(apply OQ.assign;rfl)|(apply OQ.aV;rfl)|(apply OQ.bG;rfl;rfl;rfl;exact (by decide);rfl)) rfl ?_ | refine JC.seq ?_ | refine JC.region ?_ | refine JL.nil ?_ | refine JE.next ?_ | refine JL.aU rfl rfl ?_)
          refine JC.cond_false rfl rfl ?_
          repeat (first | refine JL.q (by first|(apply OQ.load;exact b7;rfl;exact .here;exact (Row.cell (v:=ak z.qt z.to.length) rfl))|(apply OQ.ir;exact Tryz.underlying30;exact (fun h=>congrArg List.length (ok.t h));rfl)|(apply OQ.dB (b:=10);rfl;rfl;exact h4)|(apply OQ.move;rfl)|(apply OQ.assign;rfl)|(apply OQ.aV;rfl)|(apply OQ.bG;rfl;rfl;rfl;exact (by decide);rfl)) rfl ?_ | refine JC.seq ?_ | refine JC.region ?_ | refine JL.nil ?_ | refine JE.next ?_)
          refine JC.cond_false rfl rfl ?_
          repeat (first | refine JL.q (by first|(apply OQ.load;exact b7;rfl;exact .here;exact (Row.cell (v:=ak z.qt z.to.length) rfl))|(apply OQ.move;rfl)|(apply OQ.aV;rfl)|(apply OQ.bG;rfl;rfl;rfl;exact (by decide);rfl)) rfl ?_ | refine JC.seq ?_ | refine JC.region ?_ | refine JC.skip ?_ | refine JE.next ?_ | refine JE.ag ?_)
          refine JL.lV (v:=Z a) Tryz.underlying30 kW rfl rfl rfl rfl fun bl _=>?_
          refine JL.perm (M':=⟨bl,Row 9 [Z a],true⟩::(z.T++(⟨b,Row 75 z.cs,true⟩::(z.L++(z.D++z.M))))) ?_ (List.Perm.cons _ (by exact (List.perm_middle (l₁:=z.T)).symm))
          refine JL.nB (p:=a) z.qt Tryz.underlying30 kW ok.t rfl rfl rfl (by omega) (by omega) rfl fun b1 cap1=>?_
          refine JL.perm (M':=⟨b,Row 75 z.cs,true⟩::(aL 9 (some (b1,cap1)) ((z.to++[a]).map Z)++(z.L++(z.D++z.M)))) ?_ (by exact List.perm_middle)
          repeat (refine JL.q (by first|(apply OQ.aV;rfl)|(apply OQ.bG;rfl;rfl;rfl;exact (by decide);rfl)) rfl ?_)
          refine JL.sA (some (b1,cap1)) (z.to++[a]) rfl rfl ?_
          repeat (first | refine JL.q (by first|(apply OQ.move;rfl)|(apply OQ.aV;rfl)|(apply OQ.bG;rfl;rfl;rfl;exact (by decide);rfl)) rfl ?_ | refine JC.seq ?_ | refine JC.region ?_ | refine JL.nil ?_ | refine JE.next ?_)
          refine JL.kZ 3 rfl rfl ?_
          repeat (first | refine JL.q (by (apply OQ.assign;rfl)) rfl ?_ | refine JC.seq ?_ | refine JC.region ?_ | refine JL.nil ?_ | refine JE.next ?_)
          refine JC.ret ?_
          skip
          exact JE.aC rfl (RV.tmp rfl) fun w' hw=>⟨⟨3,z.fr,some (b1,cap1),z.to++[a],z.ql,z.ln,z.qd,z.dt,z.qm,z.zs⟩,⟨⟨nofun,ok.l,ok.d,ok.m⟩,⟨rfl,hs.fr,congrArg (·++[a]) hs.to,jH hn hs _ hn,hs.dt,hs.ms⟩⟩,rfl,hw⟩
      | false=>
        rw [if_neg (fun e=>e.elim (fun e=>of_decide_eq_false h2 (hs.st.trans e)) (fun e=>of_decide_eq_false h3 (hs.st.trans e)))]
        refine enter (n:=48) Tryz.func142 rfl rfl rfl h0 ?_
        repeat (first | refine JL.q (by first|(apply OQ.an (vs:=[Z t]);exact cO;rfl;exact (fun w' _=>ca w'))|(apply OQ.extract;rfl;rfl)|(apply OQ.not;rfl)|(apply OQ.move;rfl)|(apply OQ.assign;rfl)) rfl ?_ | refine JC.seq ?_ | refine JC.region ?_ | refine JC.block ?_ | refine JL.nil ?_ | refine JE.next ?_)
        refine JC.cond_false rfl rfl ?_
        repeat (first | refine JL.q (by first|(apply OQ.load;exact cX;rfl;exact .here;exact (Row.cell (v:=N z.st) rfl))|(apply OQ.ek (b:=2);rfl;rfl;exact h2)|(apply OQ.ek (b:=3);rfl;rfl;exact h3)|(apply OQ.ay;rfl;rfl)|(apply OQ.move;rfl)|(apply OQ.assign;rfl)|(apply OQ.aV;rfl)|(apply OQ.bG;rfl;rfl;rfl;exact (by decide);rfl)) rfl ?_ | refine JC.seq ?_ | refine JC.region ?_ | refine JL.nil ?_ | refine JE.next ?_ | refine JL.aU rfl rfl ?_)
        refine JC.cond_true rfl rfl ?_
        repeat (first | refine JL.q (by (apply OQ.assign;rfl)) rfl ?_ | refine JC.seq ?_ | refine JC.region ?_ | refine JL.nil ?_ | refine JE.next ?_)
        refine JC.ret ?_
        repeat (first | refine JE.ah ?_ | refine JE.aW ?_)
        exact JE.aC rfl (RV.tmp rfl) fun w' hw=>⟨z,⟨ok,hs⟩,rfl,hw⟩
end dF
end
section
set_option maxRecDepth 10000
open Sl aI
theorem zq {s : List aI.By} {i : Nat} (h : i<s.length) {n : Nat} {E : Env} {C : World→Prop} {dst : Option Tmp} {ty : TypeId} {pos : String} {aft : Array Edge} {g : Option (Nat × Bool)} {x y : Operand} (hx : ev E x=some (Z s)) (hy : ev E y=some (N i)) : OQ Tryz.prog n E C ⟨dst,.index 9 x y,ty,pos,aft,g⟩ (U8 (s.getD i 0)):=OQ.jZ Tryz.underlying9 hx hy h
theorem pS (a b : List aI.By) {i : Nat} (ha : i<a.length) (hb : i<b.length) (h : (a.take i).map small=(b.take i).map small) (k : small (a.getD i 0)=small (b.getD i 0)) : (a.take (i+1)).map small=(b.take (i+1)).map small:=by
  rw [cx a ha,cx b hb,List.map_append,List.map_append,h,List.map_singleton,List.map_singleton,k]
theorem uv (a b : List aI.By) {i : Nat} (ha : i<a.length) (hb : i<b.length) (k : ¬ small (a.getD i 0)=small (b.getD i 0)) : dN a b=false:=by
  refine decide_eq_false fun h=>k ?_
  have:=congrArg (fun l=>l[i]?) h
  simp only [List.getElem?_map,List.getElem?_eq_getElem ha,List.getElem?_eq_getElem hb,Option.map_some,Option.some.injEq] at this
  rw [List.getD_eq_getElem?_getD,List.getD_eq_getElem?_getD,List.getElem?_eq_getElem ha,List.getElem?_eq_getElem hb]
  exact this
end
section
set_option maxRecDepth 10000
open Sl aI
theorem fu : aO Tryz.prog 94:=⟨_,Tryz.func94,rfl,by kernel_rfl⟩
theorem OQ.Bd {P : Program} {n : Nat} {E : Env} {C : World→Prop} {dst : Option Tmp} {t t' ty : TypeId} {pos : String} {aft : Array Edge} {g : Option (Nat × Bool)} {x y : Operand} {a b : BitVec 8} (hx : ev E x=some (U8 a)) (hy : ev E y=some (U8 b)) (h : b.toNat≤a.toNat) : OQ P n E C ⟨dst,.binOp .sub t x y t',ty,pos,aft,g⟩ (U8 (a - b)):=
  OQ.bin hx hy rfl fun _=>oO (k:=.u8) (show IntKind.u8.wrap ((a.toNat : Int) - b.toNat)=((a - b).toNat : Int) by
    rw [BitVec.toNat_sub_of_le (by simpa [BitVec.le_def] using h),← Int.ofNat_sub h,y9,Nat.mod_eq_of_lt (by have:=a.isLt;omega)])
theorem uw : ∀ c : aI.By,65≤c.toNat→c.toNat≤90→c - 65+97=small c:=by
  have h : ∀ c : Fin 256,65≤(BitVec.ofNat 8 c.val).toNat→(BitVec.ofNat 8 c.val).toNat≤90→BitVec.ofNat 8 c.val - 65+97=small (BitVec.ofNat 8 c.val):=by decide +kernel
  intro c
  simpa using h ⟨c.toNat,c.isLt⟩
set_option maxHeartbeats 4000000 in
theorem gb (c : Bt) (w : World) : Calls Tryz.prog 94 [U8 c].toArray w fun e w'=>e=.returned (U8 (small c))∧Ext w w':=by
  refine enter (n:=13) Tryz.func94 rfl rfl rfl (aa.start w []) ?_
  by_cases hb : 65≤c.toNat∧c.toNat≤90
  · have h1 : decide ((65 : Int)≤(c.toNat : Int))=true:=decide_eq_true (by omega)
    have h2 : decide ((c.toNat : Int)≤90)=true:=decide_eq_true (by omega)
    repeat (first | refine JL.q (by first|(apply OQ.dK (b:=65);rfl;rfl;exact h1)|(apply OQ.oW (b:=90);rfl;rfl;exact h2)|(apply OQ.ay;rfl;rfl)|(apply OQ.move;rfl)|(apply OQ.assign;rfl)) rfl ?_ | refine JC.seq ?_ | refine JC.region ?_ | refine JL.nil ?_ | refine JE.next ?_ | refine JL.aU rfl rfl ?_)
    refine JC.cond rfl (fun _=>?_) (fun h=>by cases h)
    repeat (first | refine JL.q (by first|(apply OQ.Bd (b:=65);rfl;rfl;exact hb.1)|(apply OQ.AP (b:=97);rfl;rfl)|(apply OQ.move;rfl)|(apply OQ.assign;rfl)) rfl ?_ | refine JC.seq ?_ | refine JC.region ?_ | refine JL.nil ?_ | refine JE.next ?_)
    refine JC.ret ?_
    repeat (refine JE.ah ?_)
    exact JE.aC rfl (RV.tmp rfl) fun w' hw=>⟨by rw [uw c hb.1 hb.2],hw.aS⟩
  · have hs : small c=c:=if_neg hb
    rw [hs]
    cases h1 : decide ((65 : Int)≤(c.toNat : Int)) <;> cases h2 : decide ((c.toNat : Int)≤90)
    all_goals try (exfalso;have:=of_decide_eq_true h1;have:=of_decide_eq_true h2;omega)
    all_goals (repeat (first | refine JL.q (by first|(apply OQ.dK (b:=65);rfl;rfl;exact h1)|(apply OQ.oW (b:=90);rfl;rfl;exact h2)|(apply OQ.ay;rfl;rfl)|(apply OQ.au;rfl;rfl)|(apply OQ.move;rfl)|(apply OQ.assign;rfl)) rfl ?_ | refine JC.seq ?_ | refine JC.region ?_ | refine JL.nil ?_ | refine JE.next ?_ | refine JL.aU rfl rfl ?_ | refine JL.aM rfl rfl rfl rfl ?_))
    all_goals refine JC.cond rfl (fun h=>by cases h) (fun _=>?_)
    all_goals (repeat (first | refine JL.q (by first|(apply OQ.move;rfl)|(apply OQ.assign;rfl)) rfl ?_ | refine JC.seq ?_ | refine JC.region ?_ | refine JC.skip ?_ | refine JL.nil ?_ | refine JE.next ?_))
    all_goals exact JC.ret (JE.aC rfl (RV.tmp rfl) fun w' hw=>⟨rfl,hw.aS⟩)
set_option maxHeartbeats 8000000 in
theorem ux (a b : List aI.By) (w : World) (hl : a.length<9223372036854775808) : Calls Tryz.prog 62 [Z a,Z b].toArray w fun e w'=>e=.returned (.bool (dN a b))∧Ext w w':=by
  refine enter (n:=26) Tryz.func62 rfl rfl rfl (aa.start w []) ?_
  cases h0 : decide ((a.length : Int)=(b.length : Int))
  · have hne : dN a b=false:=decide_eq_false fun h=>by
      have:=congrArg List.length h
      simp only [List.length_map] at this
      exact of_decide_eq_false h0 (by omega)
    rw [hne]
    repeat (first | refine JL.q (by first|(apply OQ.bC;exact Tryz.underlying9;rfl)|(apply OQ.qA;rfl;rfl;exact h0)|(apply OQ.move;rfl)|(apply OQ.assign;rfl)) rfl ?_ | refine JC.seq ?_ | refine JC.region ?_ | refine JL.nil ?_ | refine JE.next ?_)
    refine JC.cond rfl (fun _=>?_) (fun h=>by cases h)
    repeat (first | refine JL.q (by (apply OQ.assign;rfl)) rfl ?_ | refine JC.seq ?_ | refine JC.region ?_ | refine JL.nil ?_ | refine JE.next ?_)
    refine JC.ret ?_
    repeat (refine JE.ah ?_)
    exact JE.aC rfl (RV.tmp rfl) fun w' hw=>⟨rfl,hw.aS⟩
  · have hab : a.length=b.length:=by have:=of_decide_eq_true h0;omega
    repeat (first | refine JL.q (by first|(apply OQ.bC;exact Tryz.underlying9;rfl)|(apply OQ.qA;rfl;rfl;exact h0)|(apply OQ.move;rfl)|(apply OQ.assign;rfl)) rfl ?_ | refine JC.seq ?_ | refine JC.region ?_ | refine JL.nil ?_ | refine JE.next ?_)
    refine JC.cond rfl (fun h=>by cases h) (fun _=>?_)
    repeat (first | refine JL.q (by first|(apply OQ.bC;exact Tryz.underlying9;rfl)|(apply OQ.move;rfl)) rfl ?_ | refine JC.seq ?_ | refine JC.region ?_ | refine JC.block ?_ | refine JC.skip ?_ | refine JL.nil ?_ | refine JE.next ?_)
    refine JC.loop (fun i : Nat=>[(0,Z a),(1,Z b),(12,N a.length),(13,N i)]) (fun _=>[]) (fun i=>a.length - i) (fun i=>i≤a.length∧(a.take i).map small=(b.take i).map small) 0 ⟨Nat.zero_le _,rfl⟩ (by repeat (first | exact af.nil | refine af.cons _ _ _ rfl ?_)) (aq.refl _) ?_
    rintro i ⟨hi,ha⟩
    repeat (first | refine JL.q (by (apply OQ.dz;rfl;rfl)) rfl ?_ | refine JC.seq ?_ | refine JC.region ?_ | refine JL.nil ?_ | refine JE.next ?_)
    refine JC.cond rfl (fun h=>?_) (fun h=>?_)
    · have hi' : i<a.length:=of_decide_eq_true h
      have hi2 : i<b.length:=by omega
      clear h hi
      have hx:=pS a b hi' hi2 ha
      have hbad:=uv a b hi' hi2
      have i0:=fun {n : Nat} {E : Env} {C : World→Prop} {dst : Option Tmp} {ty : TypeId} {pos : String} {aft : Array Edge} {g : Option (Nat × Bool)} {x y : Operand}=>zq hi' (n:=n) (E:=E) (C:=C) (dst:=dst) (ty:=ty) (pos:=pos) (aft:=aft) (g:=g) (x:=x) (y:=y)
      have i1:=fun {n : Nat} {E : Env} {C : World→Prop} {dst : Option Tmp} {ty : TypeId} {pos : String} {aft : Array Edge} {g : Option (Nat × Bool)} {x y : Operand}=>zq hi2 (n:=n) (E:=E) (C:=C) (dst:=dst) (ty:=ty) (pos:=pos) (aft:=aft) (g:=g) (x:=x) (y:=y)
      generalize a.getD i 0=c at hx hbad i0
      generalize b.getD i 0=d at hx hbad i1
      cases h1 : decide (small c=small d)
      · rw [hbad (of_decide_eq_false h1)]
        repeat (first | refine JL.q (by first|(apply OQ.move;rfl)|(apply OQ.assign;rfl)) rfl ?_ | refine JC.seq ?_ | refine JC.region ?_ | refine JC.block ?_ | refine JC.skip ?_ | refine JL.nil ?_ | refine JE.next ?_)
        refine JC.quiet fD (by kernel_rfl) ?_
        repeat (first | refine JQ.q (by first|(apply i0;rfl;rfl)|(apply i1;rfl;rfl)|(apply OQ.an (vs:=[U8 c]);exact fu;rfl;exact (fun w' _=>gb c w'))|(apply OQ.an (vs:=[U8 d]);exact fu;rfl;exact (fun w' _=>gb d w'))|(apply OQ.qR;rfl;rfl;exact h1)|(apply OQ.move;rfl)) rfl ?_ | refine JQ.nil ?_ | refine JE.next ?_)
        refine JC.cond rfl (fun _=>?_) (fun h=>by cases h)
        repeat (first | refine JL.q (by (apply OQ.assign;rfl)) rfl ?_ | refine JC.seq ?_ | refine JC.region ?_ | refine JL.nil ?_ | refine JE.next ?_)
        refine JC.ret ?_
        repeat (first | refine JE.ah ?_ | refine JE.aW ?_)
        exact JE.aC rfl (RV.tmp rfl) fun w' hw=>⟨rfl,hw.aS⟩
      · repeat (first | refine JL.q (by first|(apply OQ.move;rfl)|(apply OQ.assign;rfl)) rfl ?_ | refine JC.seq ?_ | refine JC.region ?_ | refine JC.block ?_ | refine JC.skip ?_ | refine JL.nil ?_ | refine JE.next ?_)
        refine JC.quiet fD (by kernel_rfl) ?_
        repeat (first | refine JQ.q (by first|(apply i0;rfl;rfl)|(apply i1;rfl;rfl)|(apply OQ.an (vs:=[U8 c]);exact fu;rfl;exact (fun w' _=>gb c w'))|(apply OQ.an (vs:=[U8 d]);exact fu;rfl;exact (fun w' _=>gb d w'))|(apply OQ.qR;rfl;rfl;exact h1)|(apply OQ.move;rfl)) rfl ?_ | refine JQ.nil ?_ | refine JE.next ?_)
        refine JC.cond rfl (fun h=>by cases h) (fun _=>?_)
        repeat (first | refine JL.q (by first|(apply OQ.move;rfl)|(apply OQ.aT;rfl;rfl;exact (by (try simp only []);omega))) rfl ?_ | refine JC.region ?_ | refine JC.skip ?_ | refine JL.nil ?_ | refine JE.next ?_ | refine JE.ag ?_)
        exact JE.again (i:=i) (i+1) ⟨hi',hx (of_decide_eq_true h1)⟩ (by omega) (by repeat (first | exact af.nil | refine af.cons _ _ _ rfl ?_)) (aq.refl _)
    · have hi' : ¬ i<a.length:=of_decide_eq_false h
      obtain rfl : i=a.length:=by omega
      clear h hi hi'
      rw [List.take_length,List.take_of_length_le (by omega)] at ha
      rw [show dN a b=true from decide_eq_true ha]
      repeat (first | refine JL.q (by (apply OQ.assign;rfl)) rfl ?_ | refine JC.seq ?_ | refine JC.region ?_ | refine JC.exit ?_ | refine JL.nil ?_ | refine JE.next ?_ | refine JE.av ?_ | refine JE.aF ?_)
      refine JC.ret ?_
      exact JE.aC rfl (RV.tmp rfl) fun w' hw=>⟨rfl,hw.aS⟩
end
section
set_option maxRecDepth 10000
open Sl
namespace dF
theorem uy : aO Tryz.prog 104:=⟨_,Tryz.func104,rfl,by kernel_rfl⟩
theorem uz : aO Tryz.prog 72:=⟨_,Tryz.func72,rfl,by kernel_rfl⟩
theorem jT : aO Tryz.prog 62:=⟨_,Tryz.func62,rfl,by kernel_rfl⟩
theorem Ce : EI Tryz.prog 167 (.agg #[Z [],.nilFunc]) 2 24:=by unfold EI;kernel_rfl
theorem BJ : qI Tryz.prog 167=true:=by kernel_rfl
theorem BK : gv Tryz.prog 167=some 2:=by kernel_rfl
theorem Cf : zc Tryz.prog 167=some [Z [],.nilFunc]:=by kernel_rfl
theorem BL : fG Tryz.prog 68=true:=by kernel_rfl
def cG : Nat→List Bt
  | 0=>bP
  | 1=>aP
  | 2=>aK
  | 3=>bA
  | 4=>dh
  | _=>bu
def uA : Nat→FuncId
  | 0=>140
  | 1=>141
  | 2=>142
  | 3=>143
  | 4=>144
  | _=>145
def yF : Nat→Po→List Bt→Po × List Bt
  | 0=>dZ
  | 1=>bW
  | 2=>dP
  | 3=>dy
  | 4=>dj
  | _=>gi
def mv (i b : Nat) : Value:=.func (.func (uA i)) [Pt b 0].toArray ([] : List Value).toArray
def nO (b i : Nat) : List Value:=[Z (cG i),mv i b]
def AA (b : Nat) : List (List Value):=[nO b 0,nO b 1,nO b 2,nO b 3,nO b 4,nO b 5]
theorem fK (b i : Nat) : Program.built Tryz.prog 167 [(0,Z (cG i)),(1,mv i b)]=some (nO b i).toArray:=by
  unfold nO mv
  generalize cG i=ww
  generalize uA i=ff
  generalize hpp : Pt b 0=pp
  rfl
set_option maxHeartbeats 8000000 in
theorem wJ (b : Nat) (w : World) : Calls Tryz.prog 104 [Pt b 0].toArray w fun e w'=>∃ c : Nat,e=.returned (.slice (some ⟨c,0,none⟩) 6 6)∧aa w [] [⟨c,Row 167 (AA b).flatten,true⟩] w':=by
  refine enter (n:=22) Tryz.func104 rfl rfl rfl (aa.start w []) ?_
  repeat (first | refine JL.q (by first|(apply OQ.Cc (rs:=[Pt b 0]) (caps:=[]);rfl;rfl)|(apply OQ.eZ (cs:=nO b 0) (is:=[0,1]) (xs:=[.const (Z (cG 0)),.tmp 4]);rfl;rfl;exact (fK b 0))|(apply OQ.eZ (cs:=nO b 1) (is:=[0,1]) (xs:=[.const (Z (cG 1)),.tmp 7]);rfl;rfl;exact (fK b 1))|(apply OQ.eZ (cs:=nO b 2) (is:=[0,1]) (xs:=[.const (Z (cG 2)),.tmp 10]);rfl;rfl;exact (fK b 2))|(apply OQ.eZ (cs:=nO b 3) (is:=[0,1]) (xs:=[.const (Z (cG 3)),.tmp 13]);rfl;rfl;exact (fK b 3))|(apply OQ.eZ (cs:=nO b 4) (is:=[0,1]) (xs:=[.const (Z (cG 4)),.tmp 16]);rfl;rfl;exact (fK b 4))|(apply OQ.eZ (cs:=nO b 5) (is:=[0,1]) (xs:=[.const (Z (cG 5)),.tmp 19]);rfl;rfl;exact (fK b 5))|(apply OQ.move;rfl)|(apply OQ.assign;rfl)) rfl ?_ | refine JC.seq ?_ | refine JC.region ?_ | refine JL.nil ?_ | refine JE.next ?_)
  refine JL.AX (xs:=[.tmp 5,.tmp 8,.tmp 11,.tmp 14,.tmp 17,.tmp 20]) (css:=AA b) (sz:=2) (m:=6) Tryz.underlying164 Ce rfl (by decide) rfl rfl (by unfold AA nO;simp) rfl (by decide) (by decide) rfl fun c _=>?_
  repeat (first | refine JL.q (by (apply OQ.assign;rfl)) rfl ?_ | refine JL.nil ?_ | refine JE.next ?_)
  refine JC.ret ?_
  skip
  exact JE.aC rfl (RV.tmp rfl) fun w' hw=>⟨c,rfl,hw⟩
theorem wK (i : Nat) : aO Tryz.prog (uA i):=by
  rcases i with _ | _ | _ | _ | _ | i
  · exact ri
  · exact pQ
  · exact uk
  · exact rm
  · exact rq
  · exact um
theorem yG (i b : Nat) (z : Pw) (S : Po) (ok : z.ok) (hs : z.is S) (hn : S.ln=[]) (h10 : S.to.length≤10) (t : List Bt) (hl : t.length<1000000) (w : World) (h0 : aa w (keys (z.E b)) (z.E b) w) : Calls Tryz.prog (uA i) [Pt b 0,Z t].toArray w (fo (keys (z.E b)) b (yF i S t) w):=by
  rcases i with _ | _ | _ | _ | _ | i
  · exact uq b z S ok hs hn t w h0
  · exact ru b z S ok hs hn t hl w h0
  · exact wI b z S ok hs hn h10 t hl w h0
  · exact ur b z S ok hs hn t w h0
  · exact uu b z S ok hs hn t w h0
  · exact wH b z S ok hs hn t w h0
theorem wL {S : Po} {l : List Bt} (h5 : ¬ 512<l.length) {i : Nat} (hi : i<6) (hno : ∀ j,j<i→ax (cG j) l=false) (hy : ax (cG i) l=true) : aZ S l=yF i S (l.drop (cG i).length):=by
  have n0:=fun h=>hno 0 h
  have n1:=fun h=>hno 1 h
  have n2:=fun h=>hno 2 h
  have n3:=fun h=>hno 3 h
  have n4:=fun h=>hno 4 h
  unfold aZ
  rw [if_neg h5]
  obtain rfl | rfl | rfl | rfl | rfl | rfl : i=0∨i=1∨i=2∨i=3∨i=4∨i=5:=by omega
  · rw [if_pos (show ax bP l=true from hy)];rfl
  · rw [if_neg (by rw [show ax bP l=false from n0 (by omega)];simp),if_pos (show ax aP l=true from hy)];rfl
  · rw [if_neg (by rw [show ax bP l=false from n0 (by omega)];simp),if_neg (by rw [show ax aP l=false from n1 (by omega)];simp),if_pos (show ax aK l=true from hy)];rfl
  · rw [if_neg (by rw [show ax bP l=false from n0 (by omega)];simp),if_neg (by rw [show ax aP l=false from n1 (by omega)];simp),if_neg (by rw [show ax aK l=false from n2 (by omega)];simp),if_pos (show ax bA l=true from hy)];rfl
  · rw [if_neg (by rw [show ax bP l=false from n0 (by omega)];simp),if_neg (by rw [show ax aP l=false from n1 (by omega)];simp),if_neg (by rw [show ax aK l=false from n2 (by omega)];simp),if_neg (by rw [show ax bA l=false from n3 (by omega)];simp),if_pos (show ax dh l=true from hy)];rfl
  · rw [if_neg (by rw [show ax bP l=false from n0 (by omega)];simp),if_neg (by rw [show ax aP l=false from n1 (by omega)];simp),if_neg (by rw [show ax aK l=false from n2 (by omega)];simp),if_neg (by rw [show ax bA l=false from n3 (by omega)];simp),if_neg (by rw [show ax dh l=false from n4 (by omega)];simp),if_pos (show ax bu l=true from hy)];rfl
theorem uB {S : Po} {l : List Bt} (h5 : ¬ 512<l.length) (hno : ∀ j,j<6→ax (cG j) l=false) : aZ S l=(S,eX):=by
  have n0:=hno 0 (by omega)
  have n1:=hno 1 (by omega)
  have n2:=hno 2 (by omega)
  have n3:=hno 3 (by omega)
  have n4:=hno 4 (by omega)
  have n5:=hno 5 (by omega)
  unfold aZ
  rw [if_neg h5,if_neg (by rw [show ax bP l=false from n0];simp),if_neg (by rw [show ax aP l=false from n1];simp),if_neg (by rw [show ax aK l=false from n2];simp),if_neg (by rw [show ax bA l=false from n3];simp),if_neg (by rw [show ax dh l=false from n4];simp),if_neg (by rw [show ax bu l=false from n5];simp)]
theorem z7 (b i : Nat) (hi : i<6) : ((AA b).flatten.drop (0+i * 2)).take (nO b i).length=nO b i:=by
  obtain rfl | rfl | rfl | rfl | rfl | rfl : i=0∨i=1∨i=2∨i=3∨i=4∨i=5:=by omega
  all_goals rfl
theorem wM (i : Nat) : (cG i).length≤10:=by
  rcases i with _ | _ | _ | _ | _ | i
  · show bP.length≤10;decide
  · show aP.length≤10;decide
  · show aK.length≤10;decide
  · show bA.length≤10;decide
  · show dh.length≤10;decide
  · show bu.length≤10;decide
set_option maxHeartbeats 8000000 in
theorem wN (b : Nat) (z : Pw) (S : Po) (ok : z.ok) (hs : z.is S) (hn : S.ln=[]) (h10 : S.to.length≤10) (l : List Bt) (hl : l.length<1000000) (w : World) (h0 : aa w (keys (z.E b)) (z.E b) w) : Calls Tryz.prog 72 [Pt b 0,Z l].toArray w (fo (keys (z.E b)) b (aZ S l) w):=by
  have hall : ∀ (i : Nat) (w : World),aa w (keys (z.E b)) (z.E b) w→Calls Tryz.prog (uA i) [Pt b 0,Z (l.drop (cG i).length)].toArray w (fo (keys (z.E b)) b (yF i S (l.drop (cG i).length)) w):=fun i w hw=>yG i b z S ok hs hn h10 _ (by rw [List.length_drop];omega) w hw
  generalize hS : keys (z.E b)=S0 at h0 ⊢
  refine enter (n:=40) Tryz.func72 rfl rfl rfl h0 ?_
  repeat (first | refine JL.q (by first|(apply OQ.bC;exact Tryz.underlying9;rfl)|(apply OQ.move;rfl)|(apply OQ.assign;rfl)|(apply OQ.nt;rfl;rfl)) rfl ?_ | refine JC.seq ?_ | refine JC.region ?_ | refine JL.nil ?_ | refine JE.next ?_)
  cases h5 : decide (512<l.length) with
  | true=>
    rw [show aZ S l=(S,eX) from if_pos (of_decide_eq_true h5)]
    refine JC.cond_true rfl rfl ?_
    repeat (first | refine JL.q (by (apply OQ.assign;rfl)) rfl ?_ | refine JC.seq ?_ | refine JC.region ?_ | refine JL.nil ?_ | refine JE.next ?_)
    refine JC.ret ?_
    repeat (refine JE.ah ?_)
    exact JE.aC rfl (RV.tmp rfl) fun w' hw=>⟨z,⟨ok,hs⟩,rfl,hw⟩
  | false=>
    refine JC.cond_false rfl rfl ?_
    have h5':=of_decide_eq_false h5
    repeat (first | refine JL.q (by (apply OQ.move;rfl)) rfl ?_ | refine JC.seq ?_ | refine JC.region ?_ | refine JC.skip ?_ | refine JE.next ?_)
    refine JL.cE (ι:=Nat) (vs:=[Pt b 0]) (fun c=>.slice (some ⟨c,0,none⟩) 6 6) (fun c=>[⟨c,Row 167 (AA b).flatten,true⟩]) uy rfl rfl (fun c e he=>by rw [List.mem_singleton.1 he]) (fun w' _=>wJ b w') fun c=>?_
    repeat (first | refine JL.q (by first|(apply OQ.len (k:=6) (ad:=some ⟨c,0,none⟩) (cap:=6);exact Tryz.underlying164;rfl)|(apply OQ.move;rfl)) rfl ?_ | refine JC.block ?_ | refine JL.nil ?_ | refine JE.next ?_)
    refine JC.loop (fun i : Nat=>[(0,Pt b 0),(1,Z l),(12,.slice (some ⟨c,0,none⟩) 6 6),(13,N 6),(14,N i)]) (fun _=>⟨c,Row 167 (AA b).flatten,true⟩::z.E b) (fun i=>6 - i) (fun i=>i≤6∧∀ j,j<i→ax (cG j) l=false) 0 ⟨Nat.zero_le _,fun j hj=>absurd hj (Nat.not_lt_zero _)⟩ (by repeat (first | exact af.nil | refine af.cons _ _ _ rfl ?_)) (aq.refl _) ?_
    rintro i ⟨hi,hno⟩
    repeat (first | refine JL.q (by (apply OQ.dz (a:=i) (b:=6);rfl;rfl)) rfl ?_ | refine JC.seq ?_ | refine JC.region ?_ | refine JL.nil ?_ | refine JE.next ?_)
    refine JC.cond rfl (fun hh=>?_) (fun hh=>?_)
    · have hi' : i<6:=of_decide_eq_true hh
      clear hh
      have hwl:=wM i
      repeat (first | refine JL.q (by first|(apply OQ.bR (k:=.i64) (i:=i) (sz:=2);exact Tryz.underlying164;exact BK;rfl;rfl;exact hi')|(apply OQ.er (cs:=nO b i);exact BJ;exact BK;rfl;exact .here;rfl;exact (Row.cells (z7 b i hi')))) rfl ?_ | refine JC.seq ?_ | refine JC.region ?_ | refine JC.block ?_ | refine JC.skip ?_ | refine JE.next ?_)
      refine JL.alloc (r:=[Z [],.nilFunc]) Cf rfl fun bc _=>?_
      refine JL.gP (cs:=nO b i) BK rfl rfl rfl rfl .here rfl ?_
      repeat (first | refine JL.q (by first|(apply OQ.load;exact bJ;rfl;exact .here;exact (Row.cell (v:=Z (cG i)) rfl))|(apply OQ.bC;exact Tryz.underlying9;rfl)|(apply OQ.assign;rfl)|(apply OQ.bG;rfl;rfl;rfl;exact (by decide);rfl)) rfl ?_ | refine JC.seq ?_ | refine JC.region ?_ | refine JL.nil ?_ | refine JE.next ?_)
      cases hge : decide (((cG i).length : Int)≤(l.length : Int)) with
      | false=>
        have hst : ax (cG i) l=false:=by
          unfold ax
          rw [decide_eq_false (by have:=of_decide_eq_false hge;omega),Bool.false_and]
        refine JC.quiet fD (by kernel_rfl) ?_
        repeat (first | refine JQ.q (by first|(apply OQ.bC;exact Tryz.underlying9;rfl)|(apply OQ.dK;rfl;rfl;exact hge)|(apply OQ.au;rfl;rfl)|(apply OQ.move;rfl)) rfl ?_ | refine JQ.nil ?_ | refine JE.next ?_ | refine JQ.aM rfl rfl rfl rfl ?_)
        refine JC.cond_false rfl rfl ?_
        repeat (first | refine JL.q (by first|(apply OQ.move;rfl)|(apply OQ.aT;rfl;rfl;exact (by (try simp only []);omega))) rfl ?_ | refine JC.region ?_ | refine JC.skip ?_ | refine JL.nil ?_ | refine JE.next ?_ | refine JE.ag ?_)
        refine JE.again (i+1) ⟨by omega,fun j hj=>?_⟩ (by omega) (by repeat (first | exact af.nil | refine af.cons _ _ _ rfl ?_)) (.drop _ _ _ (aq.refl _))
        rcases Nat.lt_or_eq_of_le (Nat.le_of_lt_succ hj) with h | rfl
        · exact hno j h
        · exact hst
      | true=>
        have hge' : (cG i).length≤l.length:=by have:=of_decide_eq_true hge;omega
        have hst : ax (cG i) l=aI.dN (l.take (cG i).length) (cG i):=by
          unfold ax
          rw [decide_eq_true hge',Bool.true_and]
        have cF:=fun w'=>ux (l.take (cG i).length) (cG i) w' (by rw [List.length_take];omega)
        refine JC.quiet fD (by kernel_rfl) ?_
        cases hsb : aI.dN (l.take (cG i).length) (cG i) with
        | false=>
          simp only [hsb] at cF
          repeat (first | refine JQ.q (by first|(apply OQ.bC;exact Tryz.underlying9;rfl)|(apply OQ.dK;rfl;rfl;exact hge)|(apply OQ.ay;rfl;rfl)|(apply OQ.dx (j:=(cG i).length);exact Tryz.underlying9;rfl;rfl;exact hge')|(apply OQ.load;exact bJ;rfl;exact .here;exact (Row.cell (v:=Z (cG i)) rfl))|(apply OQ.an (vs:=[Z (l.take (cG i).length),Z (cG i)]);exact jT;rfl;exact (fun w' _=>cF w'))|(apply OQ.move;rfl)|(apply OQ.bG;rfl;rfl;rfl;exact (by decide);rfl)) rfl ?_ | refine JQ.nil ?_ | refine JE.next ?_ | refine JQ.aU rfl rfl ?_)
          refine JC.cond_false rfl rfl ?_
          repeat (first | refine JL.q (by first|(apply OQ.move;rfl)|(apply OQ.aT;rfl;rfl;exact (by (try simp only []);omega))) rfl ?_ | refine JC.region ?_ | refine JC.skip ?_ | refine JL.nil ?_ | refine JE.next ?_ | refine JE.ag ?_)
          refine JE.again (i+1) ⟨by omega,fun j hj=>?_⟩ (by omega) (by repeat (first | exact af.nil | refine af.cons _ _ _ rfl ?_)) (.drop _ _ _ (aq.refl _))
          rcases Nat.lt_or_eq_of_le (Nat.le_of_lt_succ hj) with h | rfl
          · exact hno j h
          · exact hst.trans hsb
        | true=>
          simp only [hsb] at cF
          repeat (first | refine JQ.q (by first|(apply OQ.bC;exact Tryz.underlying9;rfl)|(apply OQ.dK;rfl;rfl;exact hge)|(apply OQ.ay;rfl;rfl)|(apply OQ.dx (j:=(cG i).length);exact Tryz.underlying9;rfl;rfl;exact hge')|(apply OQ.load;exact bJ;rfl;exact .here;exact (Row.cell (v:=Z (cG i)) rfl))|(apply OQ.an (vs:=[Z (l.take (cG i).length),Z (cG i)]);exact jT;rfl;exact (fun w' _=>cF w'))|(apply OQ.move;rfl)|(apply OQ.bG;rfl;rfl;rfl;exact (by decide);rfl)) rfl ?_ | refine JQ.nil ?_ | refine JE.next ?_ | refine JQ.aU rfl rfl ?_)
          refine JC.cond_true rfl rfl ?_
          repeat (refine JC.seq ?_)
          refine JC.tail 5 fD (by kernel_rfl) ?_
          simp only [List.take_succ_cons,List.take_zero,List.drop_succ_cons,List.drop_zero]
          repeat (first | refine JQ.q (by first|(apply OQ.load;exact BL;rfl;exact .here;exact (Row.cell (v:=mv i b) rfl))|(apply OQ.cc (i:=(cG i).length);exact Tryz.underlying9;rfl;rfl;exact hge')|(apply OQ.move;rfl)|(apply OQ.bG;rfl;rfl;rfl;exact (by decide);rfl)) rfl ?_ | refine JQ.vE ?_)
          rw [wL h5' hi' hno (hst.trans hsb)]
          have hcc:=hall i
          rw [hS] at hcc
          generalize hr : yF i S (l.drop (cG i).length)=r at hcc ⊢
          refine JL.eY (M':=z.E b++[]) ?_ (.drop _ _ _ (.drop _ _ _ (by rw [List.append_nil];exact aq.refl _)))
          refine JL.AW (f:=uA i) (ι:={y : Pw // y.ok∧y.is r.1}) (vs:=[Pt b 0,Z (l.drop (cG i).length)]) (fun _=>Z r.2) (fun y=>y.1.E b) (fun a ha w1=>qV (rs:=[Pt b 0]) (caps:=[]) (vs:=[Z (l.drop (cG i).length)]) (wK i) ha rfl rfl w1) rfl (z.wr b) (fun y=>Pw.wr b _) (fun w' _ hx=>by
            rw [hS] at hx ⊢
            exact (hcc w' hx).mono fun e w2 ⟨y,h1,h2,h3⟩=>⟨⟨y,h1⟩,h2,h3⟩) fun y=>?_
          rw [List.append_nil]
          repeat (first | refine JL.q (by (apply OQ.assign;rfl)) rfl ?_ | refine JL.nil ?_ | refine JE.next ?_)
          refine JC.ret ?_
          repeat (first | refine JE.ah ?_ | refine JE.aW ?_)
          exact JE.aC rfl (RV.tmp rfl) fun w' hw=>⟨y.1,y.2,rfl,hw⟩
    · have hi' : i=6:=by have:=of_decide_eq_false hh;omega
      subst hi'
      rw [uB h5' hno]
      repeat (first | refine JL.q (by (apply OQ.assign;rfl)) rfl ?_ | refine JC.seq ?_ | refine JC.region ?_ | refine JC.exit ?_ | refine JL.nil ?_ | refine JE.next ?_ | refine JE.av ?_ | refine JE.aF ?_)
      refine JC.ret ?_
      skip
      exact JE.aC rfl (RV.tmp rfl) fun w' hw=>⟨z,⟨ok,hs⟩,rfl,hw.weak (.drop _ _ _ (aq.refl _))⟩
end dF
end
section
set_option maxRecDepth 10000
open Sl
theorem lH : aO Tryz.prog 103:=⟨_,Tryz.func103,rfl,by kernel_rfl⟩
theorem je : aO Tryz.prog 149:=⟨_,Tryz.func149,rfl,by kernel_rfl⟩
theorem fL : aO Tryz.prog 71:=⟨_,Tryz.func71,rfl,by kernel_rfl⟩
def preB (s d : List Bt) : Bool:=decide ((d.length : Int)≤(s.length : Int)) && decide (s.take d.length=d)
def gu (s d : List Bt) : Bool:=decide ((d.length : Int)≤(s.length : Int)) && decide (s.drop (s.length - d.length)=d)
theorem OQ.isNil {P : Program} {n : Nat} {E : Env} {C : World→Prop} {dst : Option Tmp} {t t' ty e : TypeId} {pos : String} {aft : Array Edge} {g : Option (Nat × Bool)} {x y : Operand} {ad : Option Addr} {k cap : Nat} (hu : P.underlying t=some (.slice e)) (hx : ev E x=some (.slice ad k cap)) (hy : ev E y=some (.slice none 0 0)) :
    OQ P n E C ⟨dst,.binOp .eql t x y t',ty,pos,aft,g⟩ (.bool ad.isNone):=
  OQ.run fun c ha w _=>by
    have h1:=ha.eval hx
    have h2:=ha.eval hy
    have h4 : (binOp .eql t (.slice ad k cap) (.slice none 0 0)).run P w=.ok (.bool ad.isNone) w:=by
      show (do pure (.bool (← Op.equal t (.slice ad k cap) (.slice none 0 0))) : Sem Value).run P w=_
      simp [Sem.run_bind,run_equal_slice_nil w t e ad k cap hu]
    simp [execOp,h1,h2,eqGuard,h4]
set_option maxHeartbeats 2000000 in
theorem mP (a b : aB) (w : World) (ha : a.ok w) (hb : b.ok w) : Calls Tryz.prog 103 [a.v,b.v].toArray w fun e w'=>e=.returned (.bool (decide (a.l=b.l)))∧Ext w w':=by
  refine enter (n:=10) Tryz.func103 rfl rfl rfl (aa.start w []) ?_
  repeat (first | refine JL.q (by first|(apply OQ.qQ (s:=a);exact Tryz.underlying22;exact Tryz.underlying5;exact Tryz.underlying9;rfl;exact (fun w' hw'=>ha.holds hw' rfl))|(apply OQ.qQ (s:=b);exact Tryz.underlying22;exact Tryz.underlying5;exact Tryz.underlying9;rfl;exact (fun w' hw'=>hb.holds hw' rfl))|(apply OQ.Bz;rfl;rfl)|(apply OQ.move;rfl)|(apply OQ.assign;rfl)) rfl ?_ | refine JC.seq ?_ | refine JC.region ?_ | refine JL.nil ?_ | refine JE.next ?_)
  exact JC.ret (JE.aC rfl (RV.tmp rfl) fun w' hw=>⟨rfl,hw.aS⟩)
set_option maxHeartbeats 4000000 in
theorem kg (s d : aB) (w : World) (hs : s.ok w) (hd : d.ok w) : Calls Tryz.prog 149 [s.v,d.v].toArray w fun e w'=>e=.returned (.bool (preB s.l d.l))∧Ext w w':=by
  refine enter (n:=18) Tryz.func149 rfl rfl rfl (aa.start w []) ?_
  have hcap:=hs.len
  unfold preB
  cases h : decide ((d.l.length : Int)≤(s.l.length : Int))
  · repeat (first | refine JL.q (by first|(apply OQ.dK;rfl;rfl;exact h)|(apply OQ.au;rfl;rfl)|(apply OQ.move;rfl)|(apply OQ.assign;rfl)|(apply OQ.len;rfl;rfl)) rfl ?_ | refine JC.seq ?_ | refine JC.region ?_ | refine JL.nil ?_ | refine JE.next ?_ | refine JL.aM rfl rfl rfl rfl ?_)
    exact JC.ret (JE.aC rfl (RV.tmp rfl) fun w' hw=>⟨rfl,hw.aS⟩)
  · have hle : d.l.length≤s.l.length:=by have:=of_decide_eq_true h;omega
    repeat (first | refine JL.q (by first|(apply OQ.dK;rfl;rfl;exact h)|(apply OQ.fst (s:=s);exact Tryz.underlying22;exact bH;rfl;rfl;exact hle;exact hcap)|(apply OQ.an (vs:=[(s.fst d.l.length).v,d.v]);exact lH;rfl;exact (fun w' hw'=>mP (s.fst d.l.length) d w' ((hs.holds hw' rfl).fst _) (hd.holds hw' rfl)))|(apply OQ.ay;rfl;rfl)|(apply OQ.move;rfl)|(apply OQ.assign;rfl)|(apply OQ.len;rfl;rfl)) rfl ?_ | refine JC.seq ?_ | refine JC.region ?_ | refine JL.nil ?_ | refine JE.next ?_ | refine JL.aU rfl rfl ?_)
    exact JC.ret (JE.aC rfl (RV.tmp rfl) fun w' hw=>⟨rfl,hw.aS⟩)
set_option maxHeartbeats 4000000 in
theorem jf (s d : aB) (w : World) (hs : s.ok w) (hd : d.ok w) (hl : s.l.length≤4611686018427387904) : Calls Tryz.prog 71 [s.v,d.v].toArray w fun e w'=>e=.returned (.bool (gu s.l d.l))∧Ext w w':=by
  refine enter (n:=21) Tryz.func71 rfl rfl rfl (aa.start w []) ?_
  unfold gu
  cases h : decide ((d.l.length : Int)≤(s.l.length : Int))
  · repeat (first | refine JL.q (by first|(apply OQ.dK;rfl;rfl;exact h)|(apply OQ.au;rfl;rfl)|(apply OQ.move;rfl)|(apply OQ.assign;rfl)|(apply OQ.len;rfl;rfl)) rfl ?_ | refine JC.seq ?_ | refine JC.region ?_ | refine JL.nil ?_ | refine JE.next ?_ | refine JL.aM rfl rfl rfl rfl ?_)
    exact JC.ret (JE.aC rfl (RV.tmp rfl) fun w' hw=>⟨rfl,hw.aS⟩)
  · have hle : d.l.length≤s.l.length:=by have:=of_decide_eq_true h;omega
    have hsub : s.l.length - d.l.length≤s.l.length:=Nat.sub_le _ _
    repeat (first | refine JL.q (by first|(apply OQ.dK;rfl;rfl;exact h)|(apply OQ.snd (s:=s);exact Tryz.underlying22;exact bH;rfl;rfl;exact hsub)|(apply OQ.an (vs:=[(s.snd (s.l.length - d.l.length)).v,d.v]);exact lH;rfl;exact (fun w' hw'=>mP (s.snd (s.l.length - d.l.length)) d w' ((hs.holds hw' rfl).snd _ hsub) (hd.holds hw' rfl)))|(apply OQ.ay;rfl;rfl)|(apply OQ.move;rfl)|(apply OQ.assign;rfl)|(apply OQ.len;rfl;rfl)|(apply OQ.eu;rfl;rfl;exact (by (try simp only []);omega);exact (by (try simp only []);omega))) rfl ?_ | refine JC.seq ?_ | refine JC.region ?_ | refine JL.nil ?_ | refine JE.next ?_ | refine JL.aU rfl rfl ?_)
    exact JC.ret (JE.aC rfl (RV.tmp rfl) fun w' hw=>⟨rfl,hw.aS⟩)
theorem uC : aO Tryz.prog 110:=⟨_,Tryz.func110,rfl,by kernel_rfl⟩
def trimS (s d : aB) : aB:=if preB s.l d.l then s.snd d.l.length else s
theorem wO {s d : aB} {w : World} (h : s.ok w) : (trimS s d).ok w:=by
  unfold trimS
  split
  · rename_i hp
    unfold preB at hp
    rw [Bool.and_eq_true] at hp
    have:=of_decide_eq_true hp.1
    exact h.snd _ (by omega)
  · exact h
set_option maxHeartbeats 4000000 in
theorem wP (s d : aB) (w : World) (hs : s.ok w) (hd : d.ok w) : Calls Tryz.prog 110 [s.v,d.v].toArray w fun e w'=>e=.returned (trimS s d).v∧Ext w w':=by
  refine enter (n:=13) Tryz.func110 rfl rfl rfl (aa.start w []) ?_
  unfold trimS
  cases h : preB s.l d.l
  · repeat (first | refine JL.q (by first|(apply OQ.move;rfl)|(apply OQ.assign;rfl)) rfl ?_ | refine JC.seq ?_ | refine JC.region ?_ | refine JL.nil ?_ | refine JE.next ?_)
    refine JL.q (OQ.an (vs:=[s.v,d.v]) je rfl (fun w' hw'=>h ▸ kg s d w' (hs.holds hw' rfl) (hd.holds hw' rfl))) rfl ?_
    repeat (first | refine JL.nil ?_ | refine JE.next ?_)
    refine JC.cond_false rfl rfl ?_
    repeat (first | refine JL.q (by first|(apply OQ.move;rfl)|(apply OQ.assign;rfl)) rfl ?_ | refine JC.seq ?_ | refine JC.region ?_ | refine JC.skip ?_ | refine JL.nil ?_ | refine JE.next ?_)
    exact JC.ret (JE.aC rfl (RV.tmp rfl) fun w' hw=>⟨rfl,hw.aS⟩)
  · have hle : d.l.length≤s.l.length:=by
      unfold preB at h
      rw [Bool.and_eq_true] at h
      have:=of_decide_eq_true h.1
      omega
    repeat (first | refine JL.q (by first|(apply OQ.move;rfl)|(apply OQ.assign;rfl)) rfl ?_ | refine JC.seq ?_ | refine JC.region ?_ | refine JL.nil ?_ | refine JE.next ?_)
    refine JL.q (OQ.an (vs:=[s.v,d.v]) je rfl (fun w' hw'=>h ▸ kg s d w' (hs.holds hw' rfl) (hd.holds hw' rfl))) rfl ?_
    repeat (first | refine JL.nil ?_ | refine JE.next ?_)
    refine JC.cond_true rfl rfl ?_
    repeat (first | refine JL.q (by first|(apply OQ.snd (s:=s);exact Tryz.underlying22;exact bH;rfl;rfl;exact hle)|(apply OQ.move;rfl)|(apply OQ.assign;rfl)|(apply OQ.len;rfl;rfl)) rfl ?_ | refine JC.seq ?_ | refine JC.region ?_ | refine JL.nil ?_ | refine JE.next ?_)
    refine JC.ret ?_
    repeat (refine JE.ah ?_)
    exact JE.aC rfl (RV.tmp rfl) fun w' hw=>⟨rfl,hw.aS⟩
theorem ry : aO Tryz.prog 37:=⟨_,Tryz.func37,rfl,by kernel_rfl⟩
set_option maxHeartbeats 4000000 in
theorem mQ (s : aB) (w : World) (hs : s.ok w) (hl : s.l.length≤4294967296) : Calls Tryz.prog 37 [s.v].toArray w fun e w'=>∃ q : Acc,e=.returned (ak q s.l.length)∧(q=none→s.l=[])∧aa w [] (aL 5 q (s.l.map U8)) w':=by
  refine enter (n:=8) Tryz.func37 rfl rfl rfl (aa.start w []) ?_
  obtain ⟨ad,cap,l⟩:=s
  cases ad with
  | none=>
    have h0 : l=[]:=by
      cases l with
      | nil=>rfl
      | cons c l=>
        obtain ⟨b,j,h1,_⟩:=hs.reads.at (by simp)
        cases h1
    repeat (first | refine JL.q (by first|(apply OQ.isNil;exact Tryz.underlying22;rfl;rfl)|(apply OQ.move;rfl)|(apply OQ.assign;rfl)) rfl ?_ | refine JC.seq ?_ | refine JC.region ?_ | refine JL.nil ?_ | refine JE.next ?_)
    refine JC.cond_true rfl rfl ?_
    repeat (first | refine JL.q (by (apply OQ.assign;rfl)) rfl ?_ | refine JC.seq ?_ | refine JC.region ?_ | refine JL.nil ?_ | refine JE.next ?_)
    refine JC.ret ?_
    repeat (refine JE.ah ?_)
    exact JE.aC rfl (RV.tmp rfl) fun w' hw=>⟨none,rfl,fun _=>h0,hw⟩
  | some ad=>
    repeat (first | refine JL.q (by first|(apply OQ.isNil;exact Tryz.underlying22;rfl;rfl)|(apply OQ.move;rfl)|(apply OQ.assign;rfl)) rfl ?_ | refine JC.seq ?_ | refine JC.region ?_ | refine JL.nil ?_ | refine JE.next ?_)
    refine JC.cond_false rfl rfl ?_
    repeat (first | refine JC.seq ?_ | refine JC.region ?_ | refine JC.skip ?_ | refine JE.next ?_)
    refine JL.so Tryz.underlying22 bQ rfl fun b0 _=>?_
    repeat (refine JL.q (by (apply OQ.move;rfl)) rfl ?_)
    refine JL.append (cs:=l.map U8) (m:=l.length) (ad:=some ad) (sc:=cap) (xs:=[]) (fun b' cap'=>[⟨b',Sl.aG 5 1 (0+l.length) cap' ([]++l.map U8),true⟩]) Tryz.underlying22 bQ rfl rfl (by intro _ _;repeat (first | exact az.here | apply az.there)) (by simp) (fun w' hw'=>(hs.holds hw' rfl).reads) (c8 _) rfl (by decide) (by simp only [] at hl;omega) (by simp only [] at hl;omega) rfl fun b1 cap1=>?_
    rw [Nat.zero_add,List.nil_append]
    repeat (first | refine JL.q (by (apply OQ.assign;rfl)) rfl ?_ | refine JL.nil ?_ | refine JE.next ?_)
    refine JC.ret (JE.aC rfl (RV.tmp rfl) fun w' hw=>⟨some (b1,cap1),rfl,(fun h=>by cases h),?_⟩)
    show aa w [] [⟨b1,Sl.aG 5 1 (l.map U8).length cap1 (l.map U8),true⟩] w'
    rw [List.length_map]
    exact hw
end
section
set_option maxRecDepth 10000
open Sl br Go.Shelf
def wQ : Ren:=⟨fun | 4=>109 | 5=>148 | 6=>70 | 7=>103 | 8=>183 | 9=>184 | 10=>185 | 11=>102 | 12=>226 | n=>n,
  fun | 22=>22 | 4=>4 | 3=>3 | 0=>0 | 5=>5 | 29=>189 | 9=>9 | 31=>246 | 30=>176 | n=>n,
  fun | 0=>0 | n=>n⟩
theorem nP : SlLaysT.n4 Tryz.prog wQ:={
  mixed:=by kernel_rfl
  f4:=Tryz.func109.trans (congrArg some (by kernel_rfl))
  f5:=Tryz.func148.trans (congrArg some (by kernel_rfl))
  f6:=Tryz.func70.trans (congrArg some (by kernel_rfl))
  f7:=Tryz.func103.trans (congrArg some (by kernel_rfl))
  f8:=Tryz.func183.trans (congrArg some (by kernel_rfl))
  f9:=Tryz.func184.trans (congrArg some (by kernel_rfl))
  f10:=Tryz.func185.trans (congrArg some (by kernel_rfl))
  f11:=Tryz.func102.trans (congrArg some (by kernel_rfl))
  f12:=Tryz.func226.trans (congrArg some (by kernel_rfl))
  t0:=Tryz.underlying0
  a0:=Tryz.isAgg0
  z0:=Tryz.sizeOf0
  v0:=Tryz.zeroValue0
  t3:=Tryz.underlying3
  a3:=Tryz.isAgg3
  z3:=Tryz.sizeOf3
  v3:=Tryz.zeroValue3
  t4:=Tryz.underlying4
  a4:=Tryz.isAgg4
  z4:=Tryz.sizeOf4
  v4:=Tryz.zeroValue4
  t5:=Tryz.underlying5
  a5:=Tryz.isAgg5
  z5:=Tryz.sizeOf5
  v5:=Tryz.zeroValue5
  t9:=Tryz.underlying9
  a9:=Tryz.isAgg9
  z9:=Tryz.sizeOf9
  v9:=Tryz.zeroValue9
  t22:=Tryz.underlying22
  a22:=Tryz.isAgg22
  z22:=Tryz.sizeOf22
  v22:=Tryz.zeroValue22
  t29:=Tryz.underlying189
  a29:=Tryz.isAgg189
  z29:=Tryz.sizeOf189
  v29:=Tryz.zeroValue189
  t30:=Tryz.underlying176
  a30:=Tryz.isAgg176
  z30:=Tryz.sizeOf176
  v30:=Tryz.zeroValue176
  t31:=Tryz.underlying246
  a31:=Tryz.isAgg246
  z31:=Tryz.sizeOf246
  v31:=Tryz.zeroValue246
  g0:=by kernel_rfl }
def e7 (w : World) : Prop:=∃ m,w.cell? ⟨0,0,none⟩=some (.int .i64 m)
theorem e7.ext {w w' : World} (h : e7 w) (hx : Ext w w') : e7 w':=by
  obtain ⟨m,hm⟩:=h
  refine ⟨m,?_⟩
  have hlt:=block_lt_of_cell hm
  have:=hx.block _ hlt (by simp)
  rw [← hm]
  simp only [World.cell?,this]
theorem pT : aO Tryz.prog 109:=⟨_,Tryz.func109,rfl,by kernel_rfl⟩
def yH (l : List Bt) : List Int:=l.map fun c=>(c.toNat : Int)
theorem wR {s : aB} {w : World} (h : s.ok w) : Go.Lib.BytesIn w s.ad s.l.length (yH s.l):=by
  intro h0
  obtain ⟨b,j,h1,h2⟩:=h.reads.at (by simpa using h0)
  refine ⟨b,j,h1,fun i hi=>?_⟩
  rw [h2 i _ (cw U8 0 hi)]
  unfold yH
  rw [List.getD_eq_getElem?_getD,List.getD_eq_getElem?_getD,List.getElem?_map,List.getElem?_eq_getElem hi]
  rfl
theorem wS (l : List Bt) : ∀ x ∈ yH l,0≤x∧x<256:=by
  intro x hx
  obtain ⟨c,_,rfl⟩:=List.mem_map.1 hx
  omega
theorem wT (l : List Bt) : Go.Lib.bytesOf (yH l)=r8 l:=by
  unfold Go.Lib.bytesOf yH r8
  rw [List.map_map]
  refine List.map_congr_left fun c _=>?_
  show UInt8.ofNat ((c.toNat : Int)).toNat=_
  rw [Int.toNat_natCast]
  apply UInt8.toBitVec_inj.1
  exact BitVec.eq_of_toNat_eq (by simp)
def aB.cut (s : aB) (i : Nat) : aB:=⟨s.ad,s.cap,s.l.take i⟩
theorem aB.ok.cut {s : aB} {w : World} (h : s.ok w) (i : Nat) : (s.cut i).ok w:=by
  refine ⟨?_,?_⟩
  · show (s.l.take i).length≤s.cap
    have:=h.len
    rw [List.length_take]
    omega
  · show Reads w s.ad ((s.l.take i).map U8)
    rw [List.map_take]
    exact h.reads.take i
theorem wU (s : aB) {i : Nat} (hi : i+2≤s.l.length) : Go.Lib.cutV s.ad s.l.length s.cap 2 (i : Int)=.tuple #[(s.cut i).v,(s.snd (i+2)).v,.bool true]:=by
  unfold Go.Lib.cutV Go.Lib.fromV
  rw [if_pos (by omega)]
  simp [aB.v,aB.cut,aB.snd,List.length_take,Nat.min_eq_left (by omega : i≤s.l.length)]
theorem mR (w : World) (q : Nat) : Ext w (w.drewN q):=⟨rfl,rfl,rfl,Nat.le_refl _,fun _ _ _=>rfl⟩
theorem yI (s d : aB) (w : World) (hs : s.ok w) (hd : d.ok w) (hdl : d.l=[13,10]) (hl : s.l.length<4294967281) (hm : e7 w) :
    Calls Tryz.prog 109 [s.v,d.v].toArray w fun e w'=>e=.returned (Go.Lib.cutV s.ad s.l.length s.cap 2 (vw s.l))∧Ext w w':=by
  obtain ⟨m,hm⟩:=hm
  have hd2 : d.l.length=2:=by rw [hdl];rfl
  by_cases h0 : s.l.length<2
  · have hidx : Calls Tryz.prog (wQ.f 5) #[.slice s.ad s.l.length s.cap,.slice d.ad 2 d.cap] w fun e w'=>e=.returned (.int .i64 (-1))∧∃ q,w'=w.drewN q:=
      (Any.bytes_Index_longer nP.index s.ad d.ad s.l.length s.cap 2 d.cap w (Nat.le_refl _) h0 (by decide)).mono fun e w' ⟨h1,h2⟩=>⟨h1,0,h2⟩
    have e1 : vw s.l=-1:=by
      rcases jq s.l with h | ⟨i,_,h,_⟩
      · exact h.1
      · omega
    rw [e1]
    have h:=Any.bytes_Cut_of nP s.ad d.ad s.l.length s.cap 2 d.cap (-1) w hs.len (by omega) (fun h=>by omega) (by omega) hidx
    have e2 : d.v=.slice d.ad 2 d.cap:=by unfold aB.v;rw [hd2]
    rw [e2]
    exact h.mono fun e w' ⟨h1,q,h2⟩=>⟨h1,h2 ▸ mR w q⟩
  · have h1 : s.ad=none→s.cap=0:=fun h=>by
      obtain ⟨b,j,h1,_⟩:=hs.reads.at (by simp;omega)
      rw [h] at h1;cases h1
    have h:=Any.bytes_Cut_all nP s.ad d.ad s.l.length s.cap 2 d.cap (yH s.l) (yH d.l) m w (by unfold yH;rw [List.length_map]) (by unfold yH;rw [List.length_map,hd2]) (wS _) (wS _) (wR hs) (hd2 ▸ wR hd) h1 hs.len hl (by decide) hm
    rw [wT,wT,hdl] at h
    have e2 : d.v=.slice d.ad 2 d.cap:=by unfold aB.v;rw [hd2]
    rw [e2]
    exact h.mono fun e w' ⟨h1,q,h2⟩=>⟨h1,h2 ▸ mR w q⟩
theorem sN (s d : aB) (w : World) (hs : s.ok w) (hd : d.ok w) (hdl : d.l=[13,10]) (hl : s.l.length<4294967281) (hm : e7 w) {i : Nat} (hi : vw s.l=i) (h2 : i+2≤s.l.length) :
    Calls Tryz.prog 109 [s.v,d.v].toArray w fun e w'=>e=.returned (.tuple #[(s.cut i).v,(s.snd (i+2)).v,.bool true])∧Ext w w':=by
  have:=yI s d w hs hd hdl hl hm
  rwa [hi,wU s h2] at this
end
section
set_option maxRecDepth 10000
open Sl br
theorem pU : aO Tryz.prog 44:=⟨_,Tryz.func44,rfl,by kernel_rfl⟩
theorem yJ (l : List br.By) (i : Nat) : (gr l i).length≤2:=by
  unfold gr
  split <;> simp
theorem lI (l : List br.By) (i : Nat) : (List.range (i+1)).flatMap (gr l)=(List.range i).flatMap (gr l)++gr l i:=by
  rw [List.range_succ,List.flatMap_append]
  simp
theorem nQ (l : List br.By) : ∀ i,((List.range i).flatMap (gr l)).length≤2 * i
  | 0=>Nat.le_refl _
  | i+1=>by
    have:=nQ l i
    have:=yJ l i
    rw [lI,List.length_append]
    omega
set_option maxHeartbeats 32000000 in
theorem rz (s : aB) (w : World) (hs : s.ok w) (hl : s.l.length≤1000000) : Calls Tryz.prog 44 [s.v].toArray w
    fun e w'=>∃ q : Nat × Nat,e=.returned (.slice (some ⟨q.1,0,none⟩) (iq s.l).length q.2)∧aa w [] [⟨q.1,Sl.aG 5 1 (iq s.l).length q.2 ((iq s.l).map U8),true⟩] w':=by
  rw [vo]
  refine enter (n:=63) Tryz.func44 rfl rfl rfl (aa.start w []) ?_
  repeat (first | refine JL.q (by (apply OQ.assign;rfl)) rfl ?_ | refine JC.seq ?_ | refine JC.region ?_ | refine JL.nil ?_ | refine JE.next ?_)
  refine JL.lU Tryz.underlying22 bQ rfl fun b0 _=>?_
  repeat (first | refine JL.q (by (apply OQ.assign;rfl)) rfl ?_ | refine JC.seq ?_ | refine JC.region ?_ | refine JC.block ?_ | refine JL.nil ?_ | refine JE.next ?_)
  refine JC.loop (fun q : Nat × Nat × Nat=>[(0,s.v),(3,.slice (some ⟨q.2.1,0,none⟩) ((List.range q.1).flatMap (gr s.l)).length q.2.2),(4,N q.1)])
    (fun q=>[⟨q.2.1,Sl.aG 5 1 ((List.range q.1).flatMap (gr s.l)).length q.2.2 (((List.range q.1).flatMap (gr s.l)).map U8),true⟩])
    (fun q=>s.l.length - q.1) (fun q=>q.1≤s.l.length) (0,b0,0) (by show 0≤s.l.length;omega) (by repeat (first | exact af.nil | refine af.cons _ _ _ rfl ?_)) (.keep _ _ _ _ _ _ (dw rfl) (.nil _)) ?_
  rintro ⟨i,b,cap⟩ hi
  simp only at hi
  repeat (first | refine JL.q (by first|(apply OQ.move;rfl)|(apply OQ.len;rfl;rfl)|(apply OQ.dz;rfl;rfl)) rfl ?_ | refine JC.seq ?_ | refine JC.region ?_ | refine JL.nil ?_ | refine JE.next ?_)
  refine JC.cond rfl (fun h=>?_) (fun h=>?_)
  · have hi' : i<s.l.length:=of_decide_eq_true h
    clear h hi
    have eT:=lI s.l i
    have hTl:=nQ s.l i
    obtain ⟨ba,ja,hae,hca⟩:=hs.reads.at (by simp;omega)
    have hc:=hca i _ (cw U8 0 hi')
    have hav : s.v=.slice (some ⟨ba,ja,none⟩) s.l.length s.cap:=by rw [← hae];rfl
    generalize (List.range i).flatMap (gr s.l)=T at eT hTl ⊢
    rw [hav]
    by_cases c10 : s.l.getD i 0=10
    · by_cases i0 : i=0
      · have hc:=c10 ▸ hc
        have eI : gr s.l i=[13,10]:=by
          unfold gr
          rw [if_pos (Or.inl ⟨c10,Or.inl i0⟩)]
        repeat (first | refine JL.q (by first|(apply OQ.aJ;exact Tryz.underlying22;exact bH;rfl;rfl;exact hi')|(apply OQ.ai;exact eD;rfl;exact (block_lt_of_cell hc);exact (by simp);exact hc)|(apply OQ.dH;rfl;rfl;rfl)|(apply OQ.dH;rfl;rfl;exact (show ((i : Nat) : Int)=0 by omega))|(apply OQ.ay;rfl;rfl)|(apply OQ.move;rfl)) rfl ?_ | refine JC.seq ?_ | refine JC.region ?_ | refine JC.block ?_ | refine JC.skip ?_ | refine JL.nil ?_ | refine JE.next ?_ | refine JL.aU rfl rfl ?_ | refine JL.aM rfl rfl rfl rfl ?_)
        refine JC.cond_true rfl rfl ?_
        repeat (first | refine JL.q (by (apply OQ.move;rfl)) rfl ?_ | refine JC.region ?_)
        refine JL.dI (v1:=U8 13) (v2:=U8 10) (xs:=T.map U8) (fun b' cap'=>[⟨b',Sl.aG 5 1 (T.length+2) cap' (T.map U8++[U8 13,U8 10]),true⟩]) Tryz.underlying22 bQ rfl rfl rfl rfl rfl rfl rfl (fun _=>rfl) (by intro _ _;repeat (first | exact az.here | apply az.there)) (by omega) (by omega) rfl rfl fun bl b1 cap1=>?_
        rw [← hav]
        repeat (first | refine JL.q (by first|(apply OQ.move;rfl)|(apply OQ.assign;rfl)|(apply OQ.aT;rfl;rfl;exact (by (try simp only []);omega))) rfl ?_ | refine JC.region ?_ | refine JL.nil ?_ | refine JE.next ?_ | refine JE.ag ?_)
        refine JE.again (i:=(i,b,cap)) (i+1,b1,cap1) (by show i+1≤_;omega) (by show s.l.length - (i+1)<s.l.length - i;omega) ?_ (.keep _ _ _ _ _ _ (fun o h=>?_) (.nil _))
        · dsimp only
          rw [eT,eI,List.length_append]
          exact (by repeat (first | exact af.nil | refine af.cons _ _ _ rfl ?_))
        · dsimp only
          rw [eT,eI,List.length_append,List.map_append]
          exact h
      have hip : i - 1<s.l.length:=by omega
      have hp:=hca (i - 1) _ (cw U8 0 hip)
      by_cases p13 : s.l.getD (i - 1) 0=13
      · have hc:=c10 ▸ hc
        have hp:=p13 ▸ hp
        have eI : gr s.l i=[10]:=by
          unfold gr
          rw [if_neg (fun e=>e.elim (fun e=>e.2.elim i0 (fun e=>e p13)) (fun e=>absurd (c10.symm.trans e.1) (by decide))),c10]
        repeat (first | refine JL.q (by first|(apply OQ.aJ;exact Tryz.underlying22;exact bH;rfl;rfl;exact hi')|(apply OQ.ai;exact eD;rfl;exact (block_lt_of_cell hc);exact (by simp);exact hc)|(apply OQ.dH;rfl;rfl;rfl)|(apply OQ.cV;rfl;rfl;exact (show ¬ ((i : Nat) : Int)=0 by omega))|(apply OQ.aJ;exact Tryz.underlying22;exact bH;rfl;rfl;exact hip)|(apply OQ.ai;exact eD;rfl;exact (block_lt_of_cell hp);exact (by simp);exact hp)|(apply OQ.oP;rfl;rfl;rfl)|(apply OQ.ay;rfl;rfl)|(apply OQ.au;rfl;rfl)|(apply OQ.move;rfl)|(apply OQ.eu;rfl;rfl;exact (by (try simp only []);omega);exact (by (try simp only []);omega))) rfl ?_ | refine JC.seq ?_ | refine JC.region ?_ | refine JC.block ?_ | refine JC.skip ?_ | refine JL.nil ?_ | refine JE.next ?_ | refine JL.aU rfl rfl ?_)
        refine JC.cond_false rfl rfl ?_
        repeat (first | refine JL.q (by first|(apply OQ.aJ;exact Tryz.underlying22;exact bH;rfl;rfl;exact hi')|(apply OQ.ai;exact eD;rfl;exact (block_lt_of_cell hc);exact (by simp);exact hc)|(apply OQ.cV;rfl;rfl;exact (by decide))|(apply OQ.au;rfl;rfl)|(apply OQ.move;rfl)) rfl ?_ | refine JC.seq ?_ | refine JC.region ?_ | refine JL.nil ?_ | refine JE.next ?_ | refine JL.aM rfl rfl rfl rfl ?_ | refine JL.eB rfl rfl rfl rfl ?_)
        refine JC.cond_false rfl rfl ?_
        repeat (first | refine JL.q (by first|(apply OQ.aJ;exact Tryz.underlying22;exact bH;rfl;rfl;exact hi')|(apply OQ.ai;exact eD;rfl;exact (block_lt_of_cell hc);exact (by simp);exact hc)|(apply OQ.move;rfl)) rfl ?_ | refine JC.region ?_)
        refine JL.dQ (v:=U8 10) (xs:=T.map U8) (fun b' cap'=>[⟨b',Sl.aG 5 1 (T.length+1) cap' (T.map U8++[U8 10]),true⟩]) Tryz.underlying22 bQ rfl rfl rfl rfl (fun _=>rfl) (by intro _ _;repeat (first | exact az.here | apply az.there)) (by omega) (by omega) rfl rfl fun bl b1 cap1=>?_
        rw [← hav]
        repeat (first | refine JL.q (by first|(apply OQ.move;rfl)|(apply OQ.assign;rfl)|(apply OQ.aT;rfl;rfl;exact (by (try simp only []);omega))) rfl ?_ | refine JC.region ?_ | refine JL.nil ?_ | refine JE.next ?_ | refine JE.ag ?_)
        refine JE.again (i:=(i,b,cap)) (i+1,b1,cap1) (by show i+1≤_;omega) (by show s.l.length - (i+1)<s.l.length - i;omega) ?_ (.keep _ _ _ _ _ _ (fun o h=>?_) (.nil _))
        · dsimp only
          rw [eT,eI,List.length_append]
          exact (by repeat (first | exact af.nil | refine af.cons _ _ _ rfl ?_))
        · dsimp only
          rw [eT,eI,List.length_append,List.map_append]
          exact h
      · have hc:=c10 ▸ hc
        have eI : gr s.l i=[13,10]:=by
          unfold gr
          rw [if_pos (Or.inl ⟨c10,Or.inr p13⟩)]
        repeat (first | refine JL.q (by first|(apply OQ.aJ;exact Tryz.underlying22;exact bH;rfl;rfl;exact hi')|(apply OQ.ai;exact eD;rfl;exact (block_lt_of_cell hc);exact (by simp);exact hc)|(apply OQ.dH;rfl;rfl;rfl)|(apply OQ.cV;rfl;rfl;exact (show ¬ ((i : Nat) : Int)=0 by omega))|(apply OQ.aJ;exact Tryz.underlying22;exact bH;rfl;rfl;exact hip)|(apply OQ.ai;exact eD;rfl;exact (block_lt_of_cell hp);exact (by simp);exact hp)|(apply OQ.sw;rfl;rfl;exact (eC p13))|(apply OQ.ay;rfl;rfl)|(apply OQ.au;rfl;rfl)|(apply OQ.move;rfl)|(apply OQ.eu;rfl;rfl;exact (by (try simp only []);omega);exact (by (try simp only []);omega))) rfl ?_ | refine JC.seq ?_ | refine JC.region ?_ | refine JC.block ?_ | refine JC.skip ?_ | refine JL.nil ?_ | refine JE.next ?_ | refine JL.aU rfl rfl ?_)
        refine JC.cond_true rfl rfl ?_
        repeat (first | refine JL.q (by (apply OQ.move;rfl)) rfl ?_ | refine JC.region ?_)
        refine JL.dI (v1:=U8 13) (v2:=U8 10) (xs:=T.map U8) (fun b' cap'=>[⟨b',Sl.aG 5 1 (T.length+2) cap' (T.map U8++[U8 13,U8 10]),true⟩]) Tryz.underlying22 bQ rfl rfl rfl rfl rfl rfl rfl (fun _=>rfl) (by intro _ _;repeat (first | exact az.here | apply az.there)) (by omega) (by omega) rfl rfl fun bl b1 cap1=>?_
        rw [← hav]
        repeat (first | refine JL.q (by first|(apply OQ.move;rfl)|(apply OQ.assign;rfl)|(apply OQ.aT;rfl;rfl;exact (by (try simp only []);omega))) rfl ?_ | refine JC.region ?_ | refine JL.nil ?_ | refine JE.next ?_ | refine JE.ag ?_)
        refine JE.again (i:=(i,b,cap)) (i+1,b1,cap1) (by show i+1≤_;omega) (by show s.l.length - (i+1)<s.l.length - i;omega) ?_ (.keep _ _ _ _ _ _ (fun o h=>?_) (.nil _))
        · dsimp only
          rw [eT,eI,List.length_append]
          exact (by repeat (first | exact af.nil | refine af.cons _ _ _ rfl ?_))
        · dsimp only
          rw [eT,eI,List.length_append,List.map_append]
          exact h
    by_cases c13 : s.l.getD i 0=13
    · by_cases ie : i+1=s.l.length
      · have hc:=c13 ▸ hc
        have eI : gr s.l i=[13,10]:=by
          unfold gr
          rw [if_pos (Or.inr ⟨c13,Or.inl ie⟩)]
        repeat (first | refine JL.q (by first|(apply OQ.aJ;exact Tryz.underlying22;exact bH;rfl;rfl;exact hi')|(apply OQ.ai;exact eD;rfl;exact (block_lt_of_cell hc);exact (by simp);exact hc)|(apply OQ.cV;rfl;rfl;exact (by decide))|(apply OQ.au;rfl;rfl)|(apply OQ.move;rfl)) rfl ?_ | refine JC.seq ?_ | refine JC.region ?_ | refine JC.block ?_ | refine JC.skip ?_ | refine JL.nil ?_ | refine JE.next ?_ | refine JL.aM rfl rfl rfl rfl ?_ | refine JL.eB rfl rfl rfl rfl ?_)
        refine JC.cond_false rfl rfl ?_
        repeat (first | refine JL.q (by first|(apply OQ.aJ;exact Tryz.underlying22;exact bH;rfl;rfl;exact hi')|(apply OQ.ai;exact eD;rfl;exact (block_lt_of_cell hc);exact (by simp);exact hc)|(apply OQ.dH;rfl;rfl;rfl)|(apply OQ.dH;rfl;rfl;exact (show ((i+1 : Nat) : Int)=(s.l.length : Int) by omega))|(apply OQ.ay;rfl;rfl)|(apply OQ.move;rfl)|(apply OQ.len;rfl;rfl)|(apply OQ.aT;rfl;rfl;exact (by (try simp only []);omega))) rfl ?_ | refine JC.seq ?_ | refine JC.region ?_ | refine JL.nil ?_ | refine JE.next ?_ | refine JL.aU rfl rfl ?_ | refine JL.aM rfl rfl rfl rfl ?_)
        refine JC.cond_true rfl rfl ?_
        repeat (first | refine JL.q (by (apply OQ.move;rfl)) rfl ?_ | refine JC.region ?_)
        refine JL.dI (v1:=U8 13) (v2:=U8 10) (xs:=T.map U8) (fun b' cap'=>[⟨b',Sl.aG 5 1 (T.length+2) cap' (T.map U8++[U8 13,U8 10]),true⟩]) Tryz.underlying22 bQ rfl rfl rfl rfl rfl rfl rfl (fun _=>rfl) (by intro _ _;repeat (first | exact az.here | apply az.there)) (by omega) (by omega) rfl rfl fun bl b1 cap1=>?_
        rw [← hav]
        repeat (first | refine JL.q (by first|(apply OQ.move;rfl)|(apply OQ.assign;rfl)|(apply OQ.aT;rfl;rfl;exact (by (try simp only []);omega))) rfl ?_ | refine JC.region ?_ | refine JL.nil ?_ | refine JE.next ?_ | refine JE.ag ?_)
        refine JE.again (i:=(i,b,cap)) (i+1,b1,cap1) (by show i+1≤_;omega) (by show s.l.length - (i+1)<s.l.length - i;omega) ?_ (.keep _ _ _ _ _ _ (fun o h=>?_) (.nil _))
        · dsimp only
          rw [eT,eI,List.length_append]
          exact (by repeat (first | exact af.nil | refine af.cons _ _ _ rfl ?_))
        · dsimp only
          rw [eT,eI,List.length_append,List.map_append]
          exact h
      have hin : i+1<s.l.length:=by omega
      have hn:=hca (i+1) _ (cw U8 0 hin)
      by_cases n10 : s.l.getD (i+1) 0=10
      · have hc:=c13 ▸ hc
        have hn:=n10 ▸ hn
        have eI : gr s.l i=[13]:=by
          unfold gr
          rw [if_neg (fun e=>e.elim (fun e=>absurd (c13.symm.trans e.1) (by decide)) (fun e=>e.2.elim ie (fun e=>e n10))),c13]
        repeat (first | refine JL.q (by first|(apply OQ.aJ;exact Tryz.underlying22;exact bH;rfl;rfl;exact hi')|(apply OQ.ai;exact eD;rfl;exact (block_lt_of_cell hc);exact (by simp);exact hc)|(apply OQ.cV;rfl;rfl;exact (by decide))|(apply OQ.au;rfl;rfl)|(apply OQ.move;rfl)) rfl ?_ | refine JC.seq ?_ | refine JC.region ?_ | refine JC.block ?_ | refine JC.skip ?_ | refine JL.nil ?_ | refine JE.next ?_ | refine JL.aM rfl rfl rfl rfl ?_ | refine JL.eB rfl rfl rfl rfl ?_)
        refine JC.cond_false rfl rfl ?_
        repeat (first | refine JL.q (by first|(apply OQ.aJ;exact Tryz.underlying22;exact bH;rfl;rfl;exact hi')|(apply OQ.ai;exact eD;rfl;exact (block_lt_of_cell hc);exact (by simp);exact hc)|(apply OQ.dH;rfl;rfl;rfl)|(apply OQ.cV;rfl;rfl;exact (show ¬ ((i+1 : Nat) : Int)=(s.l.length : Int) by omega))|(apply OQ.aJ;exact Tryz.underlying22;exact bH;rfl;rfl;exact hin)|(apply OQ.ai;exact eD;rfl;exact (block_lt_of_cell hn);exact (by simp);exact hn)|(apply OQ.oP;rfl;rfl;rfl)|(apply OQ.ay;rfl;rfl)|(apply OQ.au;rfl;rfl)|(apply OQ.move;rfl)|(apply OQ.len;rfl;rfl)|(apply OQ.aT;rfl;rfl;exact (by (try simp only []);omega))) rfl ?_ | refine JC.seq ?_ | refine JC.region ?_ | refine JL.nil ?_ | refine JE.next ?_ | refine JL.aU rfl rfl ?_)
        refine JC.cond_false rfl rfl ?_
        repeat (first | refine JL.q (by first|(apply OQ.aJ;exact Tryz.underlying22;exact bH;rfl;rfl;exact hi')|(apply OQ.ai;exact eD;rfl;exact (block_lt_of_cell hc);exact (by simp);exact hc)|(apply OQ.move;rfl)) rfl ?_ | refine JC.region ?_)
        refine JL.dQ (v:=U8 13) (xs:=T.map U8) (fun b' cap'=>[⟨b',Sl.aG 5 1 (T.length+1) cap' (T.map U8++[U8 13]),true⟩]) Tryz.underlying22 bQ rfl rfl rfl rfl (fun _=>rfl) (by intro _ _;repeat (first | exact az.here | apply az.there)) (by omega) (by omega) rfl rfl fun bl b1 cap1=>?_
        rw [← hav]
        repeat (first | refine JL.q (by first|(apply OQ.move;rfl)|(apply OQ.assign;rfl)|(apply OQ.aT;rfl;rfl;exact (by (try simp only []);omega))) rfl ?_ | refine JC.region ?_ | refine JL.nil ?_ | refine JE.next ?_ | refine JE.ag ?_)
        refine JE.again (i:=(i,b,cap)) (i+1,b1,cap1) (by show i+1≤_;omega) (by show s.l.length - (i+1)<s.l.length - i;omega) ?_ (.keep _ _ _ _ _ _ (fun o h=>?_) (.nil _))
        · dsimp only
          rw [eT,eI,List.length_append]
          exact (by repeat (first | exact af.nil | refine af.cons _ _ _ rfl ?_))
        · dsimp only
          rw [eT,eI,List.length_append,List.map_append]
          exact h
      · have hc:=c13 ▸ hc
        have eI : gr s.l i=[13,10]:=by
          unfold gr
          rw [if_pos (Or.inr ⟨c13,Or.inr n10⟩)]
        repeat (first | refine JL.q (by first|(apply OQ.aJ;exact Tryz.underlying22;exact bH;rfl;rfl;exact hi')|(apply OQ.ai;exact eD;rfl;exact (block_lt_of_cell hc);exact (by simp);exact hc)|(apply OQ.cV;rfl;rfl;exact (by decide))|(apply OQ.au;rfl;rfl)|(apply OQ.move;rfl)) rfl ?_ | refine JC.seq ?_ | refine JC.region ?_ | refine JC.block ?_ | refine JC.skip ?_ | refine JL.nil ?_ | refine JE.next ?_ | refine JL.aM rfl rfl rfl rfl ?_ | refine JL.eB rfl rfl rfl rfl ?_)
        refine JC.cond_false rfl rfl ?_
        repeat (first | refine JL.q (by first|(apply OQ.aJ;exact Tryz.underlying22;exact bH;rfl;rfl;exact hi')|(apply OQ.ai;exact eD;rfl;exact (block_lt_of_cell hc);exact (by simp);exact hc)|(apply OQ.dH;rfl;rfl;rfl)|(apply OQ.cV;rfl;rfl;exact (show ¬ ((i+1 : Nat) : Int)=(s.l.length : Int) by omega))|(apply OQ.aJ;exact Tryz.underlying22;exact bH;rfl;rfl;exact hin)|(apply OQ.ai;exact eD;rfl;exact (block_lt_of_cell hn);exact (by simp);exact hn)|(apply OQ.sw;rfl;rfl;exact (eC n10))|(apply OQ.ay;rfl;rfl)|(apply OQ.au;rfl;rfl)|(apply OQ.move;rfl)|(apply OQ.len;rfl;rfl)|(apply OQ.aT;rfl;rfl;exact (by (try simp only []);omega))) rfl ?_ | refine JC.seq ?_ | refine JC.region ?_ | refine JL.nil ?_ | refine JE.next ?_ | refine JL.aU rfl rfl ?_)
        refine JC.cond_true rfl rfl ?_
        repeat (first | refine JL.q (by (apply OQ.move;rfl)) rfl ?_ | refine JC.region ?_)
        refine JL.dI (v1:=U8 13) (v2:=U8 10) (xs:=T.map U8) (fun b' cap'=>[⟨b',Sl.aG 5 1 (T.length+2) cap' (T.map U8++[U8 13,U8 10]),true⟩]) Tryz.underlying22 bQ rfl rfl rfl rfl rfl rfl rfl (fun _=>rfl) (by intro _ _;repeat (first | exact az.here | apply az.there)) (by omega) (by omega) rfl rfl fun bl b1 cap1=>?_
        rw [← hav]
        repeat (first | refine JL.q (by first|(apply OQ.move;rfl)|(apply OQ.assign;rfl)|(apply OQ.aT;rfl;rfl;exact (by (try simp only []);omega))) rfl ?_ | refine JC.region ?_ | refine JL.nil ?_ | refine JE.next ?_ | refine JE.ag ?_)
        refine JE.again (i:=(i,b,cap)) (i+1,b1,cap1) (by show i+1≤_;omega) (by show s.l.length - (i+1)<s.l.length - i;omega) ?_ (.keep _ _ _ _ _ _ (fun o h=>?_) (.nil _))
        · dsimp only
          rw [eT,eI,List.length_append]
          exact (by repeat (first | exact af.nil | refine af.cons _ _ _ rfl ?_))
        · dsimp only
          rw [eT,eI,List.length_append,List.map_append]
          exact h
    have e0 : gr s.l i=[s.l.getD i 0]:=by
      unfold gr
      rw [if_neg (fun e=>e.elim (fun e=>c10 e.1) (fun e=>c13 e.1))]
    generalize hcc : s.l.getD i 0=c at hc c10 c13 e0
    have eI:=e0
    repeat (first | refine JL.q (by first|(apply OQ.aJ;exact Tryz.underlying22;exact bH;rfl;rfl;exact hi')|(apply OQ.ai;exact eD;rfl;exact (block_lt_of_cell hc);exact (by simp);exact hc)|(apply OQ.cV;rfl;rfl;exact (eC c10))|(apply OQ.au;rfl;rfl)|(apply OQ.move;rfl)) rfl ?_ | refine JC.seq ?_ | refine JC.region ?_ | refine JC.block ?_ | refine JC.skip ?_ | refine JL.nil ?_ | refine JE.next ?_ | refine JL.aM rfl rfl rfl rfl ?_ | refine JL.eB rfl rfl rfl rfl ?_)
    refine JC.cond_false rfl rfl ?_
    repeat (first | refine JL.q (by first|(apply OQ.aJ;exact Tryz.underlying22;exact bH;rfl;rfl;exact hi')|(apply OQ.ai;exact eD;rfl;exact (block_lt_of_cell hc);exact (by simp);exact hc)|(apply OQ.cV;rfl;rfl;exact (eC c13))|(apply OQ.au;rfl;rfl)|(apply OQ.move;rfl)) rfl ?_ | refine JC.seq ?_ | refine JC.region ?_ | refine JL.nil ?_ | refine JE.next ?_ | refine JL.aM rfl rfl rfl rfl ?_ | refine JL.eB rfl rfl rfl rfl ?_)
    refine JC.cond_false rfl rfl ?_
    repeat (first | refine JL.q (by first|(apply OQ.aJ;exact Tryz.underlying22;exact bH;rfl;rfl;exact hi')|(apply OQ.ai;exact eD;rfl;exact (block_lt_of_cell hc);exact (by simp);exact hc)|(apply OQ.move;rfl)) rfl ?_ | refine JC.region ?_)
    refine JL.dQ (v:=U8 c) (xs:=T.map U8) (fun b' cap'=>[⟨b',Sl.aG 5 1 (T.length+1) cap' (T.map U8++[U8 c]),true⟩]) Tryz.underlying22 bQ rfl rfl rfl rfl (fun _=>rfl) (by intro _ _;repeat (first | exact az.here | apply az.there)) (by omega) (by omega) rfl rfl fun bl b1 cap1=>?_
    rw [← hav]
    repeat (first | refine JL.q (by first|(apply OQ.move;rfl)|(apply OQ.assign;rfl)|(apply OQ.aT;rfl;rfl;exact (by (try simp only []);omega))) rfl ?_ | refine JC.region ?_ | refine JL.nil ?_ | refine JE.next ?_ | refine JE.ag ?_)
    refine JE.again (i:=(i,b,cap)) (i+1,b1,cap1) (by show i+1≤_;omega) (by show s.l.length - (i+1)<s.l.length - i;omega) ?_ (.keep _ _ _ _ _ _ (fun o h=>?_) (.nil _))
    · dsimp only
      rw [eT,eI,List.length_append]
      exact (by repeat (first | exact af.nil | refine af.cons _ _ _ rfl ?_))
    · dsimp only
      rw [eT,eI,List.length_append,List.map_append]
      exact h
  · have hi' : ¬ i<s.l.length:=of_decide_eq_false h
    obtain rfl : i=s.l.length:=by omega
    clear h hi hi'
    generalize (List.range s.l.length).flatMap (gr s.l)=Y
    repeat (first | refine JL.q (by first|(apply OQ.move;rfl)|(apply OQ.assign;rfl)) rfl ?_ | refine JC.seq ?_ | refine JC.region ?_ | refine JC.exit ?_ | refine JL.nil ?_ | refine JE.next ?_ | refine JE.av ?_ | refine JE.aF ?_)
    refine JC.ret (JE.aC rfl (RV.tmp rfl) ?_)
    exact fun w' hw=>⟨(b,cap),rfl,hw⟩
end
section
set_option maxRecDepth 10000
open Sl br
def zu (l : List br.By) (w : World) (e : Ending) (w' : World) : Prop:=∃ x : aB,e=.returned x.v∧Ext w w'∧x.l=l∧x.ok w'
theorem JL.mB {P : Program} {n : Nat} {w0 : World} {S S' : List Nat} {ops : Array Oper} {Q : Exit→Act→World→Prop} {l : List Oper} {E : Env} {M : List aN} {d : Nat} {ty : TypeId} {pos : String} {aft : Array Edge} {r : List Bt} (M' : List aN)
    {f : FuncId} {xs : List Operand} {ats : Array TypeId} {vs : List Value} (hg : aO P f) (hx : fQ E xs=some vs) (hd : Nat.blt d n=true)
    (hc : ∀ w1,aa w0 S M w1→Calls P f vs.toArray w1 (zu r w1))
    (hM : aq M' M) (hS : ∀ e ∈ M',e.wr=true→e.b ∈ S')
    (k : ∀ x : aB,x.l=r→∀ w1,aa w0 S M w1→x.ok w1→JL P n w1 S' ops Q l ((d,x.v)::E) M') : JL P n w0 S ops Q (⟨some d,.call ⟨.value (.func f),xs.toArray,ats⟩,ty,pos,aft,none⟩::l) E M:=
  JL.sx (ι:={ x : aB // x.l=r }) (fun x=>x.1.v) (fun x w=>x.1.ok w) M' hg hx hd (fun w1 h1=>(hc w1 h1).mono fun e w2 ⟨x,e1,e2,e3,e4⟩=>⟨⟨x,e3⟩,e1,e2,e4⟩) hM hS fun x w1 h1 h2=>k x.1 x.2 w1 h1 h2
end
section
set_option maxRecDepth 10000
open Sl br
theorem pV : aO Tryz.prog 147:=⟨_,Tryz.func147,rfl,by kernel_rfl⟩
def w1 (l : List br.By) (i : Nat) : List br.By:=if ((l.getD i 0).toNat : Int)=10∧gu (l.take i) [13]=false then [13] else []
def w2 (l : List br.By) (i : Nat) : List br.By:=if ((l.getD i 0).toNat : Int)=13∧preB (l.drop (i+1)) [10]=false then [10] else []
theorem Be (l : List br.By) : ∀ i,i≤l.length→(gu (l.take i) [13]=true↔¬ i=0∧l.getD (i - 1) 0=13)
  | 0,_=>by
    unfold gu
    simp
  | i+1,h=>by
    have e : l.take (i+1)=l.take i++[l.getD i 0]:=by
      rw [List.take_add_one,List.getD_eq_getElem?_getD,List.getElem?_eq_getElem (by omega)]
      rfl
    have hl : (l.take i).length=i:=by rw [List.length_take];omega
    unfold gu
    rw [e,List.length_append,hl,Bool.and_eq_true,decide_eq_true_eq,decide_eq_true_eq]
    simp only [List.length_cons,List.length_nil,Nat.zero_add,Nat.add_sub_cancel]
    rw [List.drop_append_of_le_length (by omega),List.drop_eq_nil_of_le (by omega)]
    simp
    omega
theorem ox (l : List br.By) (i : Nat) (h : i<l.length) : preB (l.drop (i+1)) [10]=true↔¬ i+1=l.length∧l.getD (i+1) 0=10:=by
  unfold preB
  by_cases hi : i+1=l.length
  · rw [List.drop_eq_nil_of_le (by omega)]
    simp [hi]
  · have hl : i+1<l.length:=by omega
    rw [List.drop_eq_getElem_cons hl,List.getD_eq_getElem?_getD,List.getElem?_eq_getElem hl,Bool.and_eq_true,decide_eq_true_eq,decide_eq_true_eq]
    constructor
    · rintro ⟨_,h2⟩
      exact ⟨hi,List.head_eq_of_cons_eq h2⟩
    · rintro ⟨_,h2⟩
      have h2 : l[i+1]=10:=h2
      rw [h2]
      refine ⟨?_,rfl⟩
      simp only [List.length_cons,List.length_nil]
      omega
theorem yK (c : br.By) (k : Nat) (hk : k<256) : (c.toNat : Int)=(k : Int)↔c=BitVec.ofNat 8 k:=by
  constructor
  · intro h
    apply BitVec.eq_of_toNat_eq
    rw [BitVec.toNat_ofNat]
    omega
  · rintro rfl
    rw [BitVec.toNat_ofNat]
    omega
theorem uE (l : List br.By) (i : Nat) (h : i<l.length) : gr l i=w1 l i++[l.getD i 0]++w2 l i:=by
  have h1:=Be l i (by omega)
  have h2:=ox l i h
  have k10:=yK (l.getD i 0) 10 (by decide)
  have k13:=yK (l.getD i 0) 13 (by decide)
  unfold gr w1 w2
  generalize gu (l.take i) [13]=a at h1
  generalize preB (l.drop (i+1)) [10]=b at h2
  generalize l.getD (i - 1) 0=p at h1 ⊢
  generalize l.getD (i+1) 0=q at h2 ⊢
  generalize l.getD i 0=c at k10 k13 ⊢
  have k10 : (c.toNat : Int)=10↔c=10:=k10
  have k13 : (c.toNat : Int)=13↔c=13:=k13
  simp only [k10,k13]
  by_cases c10 : c=10
  · subst c10
    have e : ¬ ((10 : br.By)=13):=by decide
    cases a
    · have:=mt h1.2 (by decide)
      rw [if_pos (Or.inl ⟨rfl,(Decidable.em (i=0)).elim .inl fun h=>.inr fun hp=>this ⟨h,hp⟩⟩),if_pos ⟨rfl,rfl⟩,if_neg (fun h=>e h.1)]
      rfl
    · have:=h1.1 rfl
      rw [if_neg (fun h=>h.elim (fun h=>h.2.elim this.1 fun h=>h this.2) fun h=>e h.1),if_neg (fun h=>by cases h.2),if_neg (fun h=>e h.1)]
      rfl
  · by_cases c13 : c=13
    · subst c13
      cases b
      · have:=mt h2.2 (by decide)
        rw [if_pos (Or.inr ⟨rfl,(Decidable.em (i+1=l.length)).elim .inl fun h=>.inr fun hp=>this ⟨h,hp⟩⟩),if_neg (fun h=>c10 h.1),if_pos ⟨rfl,rfl⟩]
        rfl
      · have:=h2.1 rfl
        rw [if_neg (fun h=>h.elim (fun h=>c10 h.1) fun h=>h.2.elim this.1 fun h=>h this.2),if_neg (fun h=>c10 h.1),if_neg (fun h=>by cases h.2)]
        rfl
    · rw [if_neg (fun h=>h.elim (fun h=>c10 h.1) fun h=>c13 h.1),if_neg (fun h=>c10 h.1),if_neg (fun h=>c13 h.1)]
      rfl
theorem z8 (l : List br.By) (i : Nat) : (w1 l i).length≤1:=by unfold w1;split <;> simp
theorem Aa (l : List br.By) (i : Nat) : (w2 l i).length≤1:=by unfold w2;split <;> simp
set_option maxHeartbeats 32000000 in
theorem rA (s : aB) (w : World) (hs : s.ok w) (hl : s.l.length≤1000000) : Calls Tryz.prog 147 [s.v].toArray w
    fun e w'=>∃ q : Nat × Nat,e=.returned (.slice (some ⟨q.1,0,none⟩) (iq s.l).length q.2)∧aa w [] [⟨q.1,Sl.aG 5 1 (iq s.l).length q.2 ((iq s.l).map U8),true⟩] w':=by
  rw [vo]
  have hcap:=hs.len
  refine enter (n:=50) Tryz.func147 rfl rfl rfl (aa.start w []) ?_
  repeat (first | refine JL.q (by first|(apply OQ.move;rfl)|(apply OQ.assign;rfl)|(apply OQ.len;rfl;rfl)|(apply OQ.aT;rfl;rfl;exact (by (try simp only []);omega))) rfl ?_ | refine JC.seq ?_ | refine JC.region ?_ | refine JL.nil ?_ | refine JE.next ?_)
  refine JL.vJ (c:=s.l.length+2) Tryz.underlying22 bQ rfl rfl (by omega) rfl fun b0 _=>?_
  repeat (first | refine JL.q (by first|(apply OQ.move;rfl)|(apply OQ.assign;rfl)|(apply OQ.len;rfl;rfl)) rfl ?_ | refine JC.seq ?_ | refine JC.region ?_ | refine JC.block ?_ | refine JL.nil ?_ | refine JE.next ?_)
  refine JC.loop (fun q : Nat × Nat × Nat=>[(0,s.v),(3,.slice (some ⟨q.2.1,0,none⟩) ((List.range q.1).flatMap (gr s.l)).length q.2.2),(10,s.v),(11,N s.l.length),(12,N q.1)])
    (fun q=>[⟨q.2.1,Sl.aG 5 1 ((List.range q.1).flatMap (gr s.l)).length q.2.2 (((List.range q.1).flatMap (gr s.l)).map U8),true⟩])
    (fun q=>s.l.length - q.1) (fun q=>q.1≤s.l.length) (0,b0,s.l.length+2) (by show 0≤s.l.length;omega) (by repeat (first | exact af.nil | refine af.cons _ _ _ rfl ?_)) (aq.refl _) ?_
  rintro ⟨i,b,cap⟩ hi
  simp only at hi
  repeat (first | refine JL.q (by (apply OQ.dz;rfl;rfl)) rfl ?_ | refine JC.seq ?_ | refine JC.region ?_ | refine JL.nil ?_ | refine JE.next ?_)
  refine JC.cond rfl (fun h=>?_) (fun h=>?_)
  · have hi' : i<s.l.length:=of_decide_eq_true h
    clear h
    have eT:=lI s.l i
    have hTl:=nQ s.l i
    have hl1:=z8 s.l i
    have hl2:=Aa s.l i
    rw [uE s.l i hi'] at eT
    obtain ⟨ba,ja,hae,hca⟩:=hs.reads.at (by simp;omega)
    have hc:=hca i _ (cw U8 0 hi')
    have hav : s.v=.slice (some ⟨ba,ja,none⟩) s.l.length s.cap:=by rw [← hae];rfl
    have ew1 : w1 s.l i=if ((s.l.getD i 0).toNat : Int)=10∧gu (s.l.take i) [13]=false then [13] else []:=rfl
    have ew2 : w2 s.l i=if ((s.l.getD i 0).toNat : Int)=13∧preB (s.l.drop (i+1)) [10]=false then [10] else []:=rfl
    generalize w1 s.l i=A1 at eT hl1 ew1
    generalize w2 s.l i=A2 at eT hl2 ew2
    generalize (List.range i).flatMap (gr s.l)=T at eT hTl ⊢
    generalize s.l.getD i 0=c at hc eT ew1 ew2
    refine JC.skip (JE.next (JC.seq (JC.block (JC.seq (JC.region ?_)))))
    repeat (refine JL.q (by first|(apply OQ.aJ;exact Tryz.underlying22;exact bH;exact (congrArg some hav);rfl;exact hi')|(apply OQ.ai;exact eD;rfl;exact (block_lt_of_cell hc);exact (by simp);exact hc)|(apply OQ.move;rfl)|(apply OQ.assign;rfl)) rfl ?_)
    refine JL.nil (JE.next ?_)
    refine JC.mid (ι:=Nat × Nat) (fun q=>[(0,s.v),(3,.slice (some ⟨q.1,0,none⟩) (T++A1).length q.2),(10,s.v),(11,N s.l.length),(12,N i),(4,N i),(5,U8 c)]) (fun q=>[⟨q.1,Sl.aG 5 1 (T++A1).length q.2 ((T++A1).map U8),true⟩]) (fun _=>True) ?_ ?_
    · cases h10 : decide ((c.toNat : Int)=10)
      · rw [if_neg (fun h=>absurd h.1 (of_decide_eq_false h10))] at ew1
        subst ew1
        repeat (first | refine JL.q (by first|(apply OQ.gj;rfl;rfl;exact h10)|(apply OQ.au;rfl;rfl)|(apply OQ.move;rfl)) rfl ?_ | refine JC.seq ?_ | refine JC.region ?_ | refine JL.nil ?_ | refine JE.next ?_ | refine JL.aM rfl rfl rfl rfl ?_)
        refine JC.cond_false rfl rfl ?_
        rw [List.append_nil]
        repeat (refine JC.skip ?_)
        exact JE.mid (b,cap) trivial (by repeat (first | exact af.nil | refine af.cons _ _ _ rfl ?_)) (aq.refl _)
      · have h10':=of_decide_eq_true h10
        cases hsf : gu (s.l.take i) [13]
        · rw [if_pos ⟨h10',hsf⟩] at ew1
          subst ew1
          repeat (first | refine JL.q (by first|(apply OQ.gj;rfl;rfl;exact h10)|(apply OQ.fst (s:=s);exact Tryz.underlying22;exact bH;rfl;rfl;exact hi;exact hcap)|(apply OQ.move;rfl)) rfl ?_ | refine JC.seq ?_ | refine JC.region ?_ | refine JL.aU rfl rfl ?_)
          refine JL.lV (v:=U8 13) Tryz.underlying22 bQ rfl rfl rfl rfl fun bl _=>?_
          repeat (first | refine JL.q (by first|(apply OQ.an (vs:=[(s.fst i).v,aB.v ⟨some ⟨bl,0,none⟩,1,[13]⟩]);exact fL;rfl;exact (fun w' hw'=>hsf ▸ jf (s.fst i) ⟨some ⟨bl,0,none⟩,1,[13]⟩ w' ((hs.holds hw' rfl).fst _) (nA (l:=[13]) hw' .here rfl (Nat.le_refl _)) (by show (s.l.take i).length≤_;rw [List.length_take];omega)))|(apply OQ.not;rfl)|(apply OQ.ay;rfl;rfl)) rfl ?_ | refine JL.nil ?_ | refine JE.next ?_ | refine JL.aU rfl rfl ?_)
          refine JC.cond_true rfl rfl ?_
          repeat (first | refine JL.q (by (apply OQ.move;rfl)) rfl ?_ | refine JC.region ?_)
          refine JL.dQ (v:=U8 13) (xs:=T.map U8) (k:=T.length) (fun b' cap'=>[⟨bl,Row 5 [U8 13],true⟩,⟨b',Sl.aG 5 1 (T.length+1) cap' (T.map U8++[U8 13]),true⟩]) Tryz.underlying22 bQ rfl rfl rfl rfl (fun _=>rfl) (by intro _ _;repeat (first | exact az.here | apply az.there)) (by omega) (by omega) rfl rfl fun bl b1 cap1=>?_
          repeat (first | refine JL.q (by (apply OQ.assign;rfl)) rfl ?_ | refine JL.nil ?_)
          refine JE.mid (b1,cap1) trivial ?_ (.drop _ _ _ (.keep _ _ _ _ _ _ (fun o h=>?_) (.nil _)))
          · rw [List.length_append]
            exact (by repeat (first | exact af.nil | refine af.cons _ _ _ rfl ?_))
          · dsimp only
            rw [List.length_append,List.map_append]
            exact h
        · rw [if_neg (fun h=>by rw [hsf] at h;cases h.2)] at ew1
          subst ew1
          repeat (first | refine JL.q (by first|(apply OQ.gj;rfl;rfl;exact h10)|(apply OQ.fst (s:=s);exact Tryz.underlying22;exact bH;rfl;rfl;exact hi;exact hcap)|(apply OQ.move;rfl)) rfl ?_ | refine JC.seq ?_ | refine JC.region ?_ | refine JL.aU rfl rfl ?_)
          refine JL.lV (v:=U8 13) Tryz.underlying22 bQ rfl rfl rfl rfl fun bl _=>?_
          repeat (first | refine JL.q (by first|(apply OQ.an (vs:=[(s.fst i).v,aB.v ⟨some ⟨bl,0,none⟩,1,[13]⟩]);exact fL;rfl;exact (fun w' hw'=>hsf ▸ jf (s.fst i) ⟨some ⟨bl,0,none⟩,1,[13]⟩ w' ((hs.holds hw' rfl).fst _) (nA (l:=[13]) hw' .here rfl (Nat.le_refl _)) (by show (s.l.take i).length≤_;rw [List.length_take];omega)))|(apply OQ.not;rfl)|(apply OQ.ay;rfl;rfl)) rfl ?_ | refine JL.nil ?_ | refine JE.next ?_ | refine JL.aU rfl rfl ?_)
          refine JC.cond_false rfl rfl ?_
          rw [List.append_nil]
          repeat (refine JC.skip ?_)
          exact JE.mid (b,cap) trivial (by repeat (first | exact af.nil | refine af.cons _ _ _ rfl ?_)) (.drop _ _ _ (aq.refl _))
    rintro ⟨b1,cap1⟩ _
    dsimp only
    have hA : (T++A1).length≤2 * i+1:=by rw [List.length_append];omega
    rw [← List.append_assoc,← List.append_assoc] at eT
    generalize T++A1=T1 at eT hA ⊢
    repeat (first | refine JL.q (by (apply OQ.move;rfl)) rfl ?_ | refine JC.seq ?_ | refine JC.region ?_)
    refine JL.dQ (v:=U8 c) (xs:=T1.map U8) (fun b' cap'=>[⟨b',Sl.aG 5 1 (T1.length+1) cap' (T1.map U8++[U8 c]),true⟩]) Tryz.underlying22 bQ rfl rfl rfl rfl (fun _=>rfl) (by intro _ _;repeat (first | exact az.here | apply az.there)) (by omega) (by omega) rfl rfl fun bl b2 cap2=>?_
    have hi1 : i+1≤s.l.length:=hi'
    cases h13 : decide ((c.toNat : Int)=13)
    · rw [if_neg (fun h=>absurd h.1 (of_decide_eq_false h13))] at ew2
      subst ew2
      repeat (first | refine JL.q (by first|(apply OQ.gj;rfl;rfl;exact h13)|(apply OQ.au;rfl;rfl)|(apply OQ.move;rfl)|(apply OQ.assign;rfl)) rfl ?_ | refine JC.seq ?_ | refine JC.region ?_ | refine JL.nil ?_ | refine JE.next ?_ | refine JL.aM rfl rfl rfl rfl ?_)
      refine JC.cond_false rfl rfl ?_
      repeat (first | refine JL.q (by first|(apply OQ.move;rfl)|(apply OQ.aT;rfl;rfl;exact (by (try simp only []);omega))) rfl ?_ | refine JC.region ?_ | refine JC.skip ?_ | refine JL.nil ?_ | refine JE.next ?_ | refine JE.ag ?_)
      refine JE.again (i:=(i,b,cap)) (i+1,b2,cap2) hi1 (by show s.l.length - (i+1)<s.l.length - i;omega) ?_ (.keep _ _ _ _ _ _ (fun o h=>?_) (.nil _))
      · dsimp only
        rw [eT,List.append_nil,List.length_append]
        exact (by repeat (first | exact af.nil | refine af.cons _ _ _ rfl ?_))
      · dsimp only
        rw [eT,List.append_nil,List.length_append,List.map_append]
        exact h
    · have h13':=of_decide_eq_true h13
      cases hpf : preB (s.l.drop (i+1)) [10]
      · rw [if_pos ⟨h13',hpf⟩] at ew2
        subst ew2
        repeat (first | refine JL.q (by first|(apply OQ.gj;rfl;rfl;exact h13)|(apply OQ.snd (s:=s);exact Tryz.underlying22;exact bH;rfl;rfl;exact hi1)|(apply OQ.move;rfl)|(apply OQ.assign;rfl)|(apply OQ.aT;rfl;rfl;exact (by (try simp only []);omega))) rfl ?_ | refine JC.seq ?_ | refine JC.region ?_ | refine JL.nil ?_ | refine JE.next ?_ | refine JL.aU rfl rfl ?_)
        refine JL.lV (v:=U8 10) Tryz.underlying22 bQ rfl rfl rfl rfl fun bl _=>?_
        repeat (first | refine JL.q (by first|(apply OQ.an (vs:=[(s.snd (i+1)).v,aB.v ⟨some ⟨bl,0,none⟩,1,[10]⟩]);exact je;rfl;exact (fun w' hw'=>hpf ▸ kg (s.snd (i+1)) ⟨some ⟨bl,0,none⟩,1,[10]⟩ w' ((hs.holds hw' rfl).snd _ hi1) (nA (l:=[10]) hw' .here rfl (Nat.le_refl _))))|(apply OQ.not;rfl)|(apply OQ.ay;rfl;rfl)) rfl ?_ | refine JL.nil ?_ | refine JE.next ?_ | refine JL.aU rfl rfl ?_)
        refine JC.cond_true rfl rfl ?_
        repeat (first | refine JL.q (by (apply OQ.move;rfl)) rfl ?_ | refine JC.region ?_)
        refine JL.dQ (v:=U8 10) (xs:=T1.map U8++[U8 c]) (k:=T1.length+1) (fun b' cap'=>[⟨bl,Row 5 [U8 10],true⟩,⟨b',Sl.aG 5 1 (T1.length+1+1) cap' ((T1.map U8++[U8 c])++[U8 10]),true⟩]) Tryz.underlying22 bQ rfl rfl rfl rfl (fun _=>rfl) (by intro _ _;repeat (first | exact az.here | apply az.there)) (by omega) (by omega) rfl rfl fun bl b3 cap3=>?_
        repeat (first | refine JL.q (by first|(apply OQ.move;rfl)|(apply OQ.assign;rfl)|(apply OQ.aT;rfl;rfl;exact (by (try simp only []);omega))) rfl ?_ | refine JC.region ?_ | refine JL.nil ?_ | refine JE.next ?_ | refine JE.ag ?_)
        refine JE.again (i:=(i,b,cap)) (i+1,b3,cap3) hi1 (by show s.l.length - (i+1)<s.l.length - i;omega) ?_ (.drop _ _ _ (.keep _ _ _ _ _ _ (fun o h=>?_) (.nil _)))
        · dsimp only
          rw [eT,List.length_append,List.length_append]
          exact (by repeat (first | exact af.nil | refine af.cons _ _ _ rfl ?_))
        · dsimp only
          rw [eT,List.length_append,List.length_append,List.map_append,List.map_append]
          exact h
      · rw [if_neg (fun h=>by rw [hpf] at h;cases h.2)] at ew2
        subst ew2
        repeat (first | refine JL.q (by first|(apply OQ.gj;rfl;rfl;exact h13)|(apply OQ.snd (s:=s);exact Tryz.underlying22;exact bH;rfl;rfl;exact hi1)|(apply OQ.move;rfl)|(apply OQ.assign;rfl)|(apply OQ.aT;rfl;rfl;exact (by (try simp only []);omega))) rfl ?_ | refine JC.seq ?_ | refine JC.region ?_ | refine JL.nil ?_ | refine JE.next ?_ | refine JL.aU rfl rfl ?_)
        refine JL.lV (v:=U8 10) Tryz.underlying22 bQ rfl rfl rfl rfl fun bl _=>?_
        repeat (first | refine JL.q (by first|(apply OQ.an (vs:=[(s.snd (i+1)).v,aB.v ⟨some ⟨bl,0,none⟩,1,[10]⟩]);exact je;rfl;exact (fun w' hw'=>hpf ▸ kg (s.snd (i+1)) ⟨some ⟨bl,0,none⟩,1,[10]⟩ w' ((hs.holds hw' rfl).snd _ hi1) (nA (l:=[10]) hw' .here rfl (Nat.le_refl _))))|(apply OQ.not;rfl)|(apply OQ.ay;rfl;rfl)) rfl ?_ | refine JL.nil ?_ | refine JE.next ?_ | refine JL.aU rfl rfl ?_)
        refine JC.cond_false rfl rfl ?_
        repeat (first | refine JL.q (by first|(apply OQ.move;rfl)|(apply OQ.aT;rfl;rfl;exact (by (try simp only []);omega))) rfl ?_ | refine JC.region ?_ | refine JC.skip ?_ | refine JL.nil ?_ | refine JE.next ?_ | refine JE.ag ?_)
        refine JE.again (i:=(i,b,cap)) (i+1,b2,cap2) hi1 (by show s.l.length - (i+1)<s.l.length - i;omega) ?_ (.drop _ _ _ (.keep _ _ _ _ _ _ (fun o h=>?_) (.nil _)))
        · dsimp only
          rw [eT,List.append_nil,List.length_append]
          exact (by repeat (first | exact af.nil | refine af.cons _ _ _ rfl ?_))
        · dsimp only
          rw [eT,List.append_nil,List.length_append,List.map_append]
          exact h
  · have hi' : ¬ i<s.l.length:=of_decide_eq_false h
    obtain rfl : i=s.l.length:=by omega
    clear h
    repeat (first | refine JL.q (by first|(apply OQ.move;rfl)|(apply OQ.assign;rfl)) rfl ?_ | refine JC.seq ?_ | refine JC.region ?_ | refine JC.exit ?_ | refine JL.nil ?_ | refine JE.next ?_ | refine JE.av ?_ | refine JE.aF ?_)
    refine JC.ret (JE.aC rfl (RV.tmp rfl) ?_)
    exact fun w' hw=>⟨(b,cap),rfl,hw⟩
end
section
set_option maxRecDepth 10000
open Sl br
theorem rB : aO Tryz.prog 17:=⟨_,Tryz.func17,rfl,by kernel_rfl⟩
def shut (w : List br.By) : Prop:=w=[]∨(2≤w.length∧w.getD (w.length - 1) 0=10∧w.getD (w.length - 2) 0=13)
instance (w : List br.By) : Decidable (shut w):=by unfold shut;infer_instance
theorem pW (w : List br.By) (c : br.By) : w.getLast?=some c↔1≤w.length∧w.getD (w.length - 1) 0=c:=by
  rw [List.getLast?_eq_getElem?,List.getD_eq_getElem?_getD]
  by_cases h : 1≤w.length
  · rw [List.getElem?_eq_getElem (by omega : w.length - 1<w.length)]
    simp [h]
  · rw [List.getElem?_eq_none (by omega)]
    simp [h]
theorem wV (w : List br.By) (c : br.By) : w.dropLast.getLast?=some c↔2≤w.length∧w.getD (w.length - 2) 0=c:=by
  rw [pW,List.length_dropLast]
  rw [List.getD_eq_getElem?_getD,List.getD_eq_getElem?_getD,List.getElem?_dropLast]
  by_cases h2 : 2≤w.length
  · rw [if_pos (by omega),show w.length - 1 - 1=w.length - 2 from rfl]
    simp [h2]
    omega
  · exact ⟨fun h=>absurd h.1 (by omega),fun h=>absurd h.1 h2⟩
theorem lJ (b : List br.By) : laidB b=if shut (iq b) then iq b else iq b++[13,10]:=by
  unfold laidB shut
  simp only [wV]
  simp only [pW]
  congr 1
  apply propext
  constructor
  · rintro (h | ⟨⟨h1,h2⟩,h3,h4⟩)
    · exact .inl h
    · exact .inr ⟨h3,h2,h4⟩
  · rintro (h | ⟨h1,h2,h3⟩)
    · exact .inl h
    · exact .inr ⟨⟨by omega,h2⟩,h1,h3⟩
theorem eP (b : List br.By) : (laidB b).length≤2 * b.length+2:=by
  have:=(ng b 0).2
  have e : (iq b).length=(wh 0 b).length:=rfl
  rw [lJ]
  split
  · omega
  · rw [List.length_append];simp only [List.length_cons,List.length_nil];omega
set_option maxHeartbeats 32000000 in
theorem jI (s : aB) (w : World) (hs : s.ok w) (hl : s.l.length≤1000000) : Calls Tryz.prog 17 [s.v].toArray w
    fun e w'=>∃ q : Nat × Nat,e=.returned (.slice (some ⟨q.1,0,none⟩) (laidB s.l).length q.2)∧aa w [] [⟨q.1,Sl.aG 5 1 (laidB s.l).length q.2 ((laidB s.l).map U8),true⟩] w':=by
  have hWl : (iq s.l).length≤2 * s.l.length:=(ng s.l 0).2
  have eL0:=lJ s.l
  refine enter (n:=36) Tryz.func17 rfl rfl rfl (aa.start w []) ?_
  repeat (first | refine JL.q (by first|(apply OQ.move;rfl)|(apply OQ.assign;rfl)) rfl ?_ | refine JC.seq ?_ | refine JC.region ?_ | refine JL.nil ?_ | refine JE.next ?_)
  refine JL.cE (ι:=Nat × Nat) (fun q=>.slice (some ⟨q.1,0,none⟩) (iq s.l).length q.2) (fun q=>[⟨q.1,Sl.aG 5 1 (iq s.l).length q.2 ((iq s.l).map U8),true⟩]) pU rfl rfl (fun q e he=>by rw [List.mem_singleton.1 he]) (fun w' hw'=>(rz s w' (hs.holds hw' rfl) hl).mono fun e w2 ⟨q,h1,h2⟩=>⟨q,h1,h2⟩) ?_
  rintro ⟨b,cap⟩
  generalize iq s.l=W at hWl eL0 ⊢
  dsimp only
  by_cases h0 : 0<W.length
  · have h1 : W.length - 1<W.length:=by omega
    have c1 : (W.map U8)[0+(W.length - 1)]?=some (U8 (W.getD (W.length - 1) 0)):=by rw [Nat.zero_add];exact cw U8 0 h1
    by_cases e1 : W.getD (W.length - 1) 0=10
    · by_cases hl2 : W.length<2
      · have eL : laidB s.l=W++[13,10]:=by rw [eL0,if_neg (fun e=>e.elim (fun e=>by rw [e] at h0;cases h0) (fun e=>by omega))]
        rw [e1] at c1
        repeat (first | refine JL.q (by first|(apply OQ.dA;rfl;rfl;exact h0)|(apply OQ.aJ;exact Tryz.underlying22;exact bH;rfl;rfl;exact h1)|(apply OQ.load;exact eD;rfl;exact .here;exact (Sl.aG.cell c1))|(apply OQ.oP;rfl;rfl;rfl)|(apply OQ.nu;rfl;rfl;exact hl2)|(apply OQ.ay;rfl;rfl)|(apply OQ.au;rfl;rfl)|(apply OQ.move;rfl)|(apply OQ.assign;rfl)|(apply OQ.len;rfl;rfl)|(apply OQ.eu;rfl;rfl;exact (by (try simp only []);omega);exact (by (try simp only []);omega))) rfl ?_ | refine JC.seq ?_ | refine JC.region ?_ | refine JL.nil ?_ | refine JE.next ?_ | refine JL.aU rfl rfl ?_ | refine JL.aM rfl rfl rfl rfl ?_)
        refine JC.cond_true rfl rfl ?_
        repeat (first | refine JL.q (by (apply OQ.move;rfl)) rfl ?_ | refine JC.region ?_)
        refine JL.dI (v1:=U8 13) (v2:=U8 10) (xs:=W.map U8) (fun b' cap'=>[⟨b',Sl.aG 5 1 (W.length+2) cap' (W.map U8++[U8 13,U8 10]),true⟩]) Tryz.underlying22 bQ rfl rfl rfl rfl rfl rfl rfl (fun _=>rfl) (by intro _ _;repeat (first | exact az.here | apply az.there)) (by omega) (by omega) rfl rfl fun bl b1 cap1=>?_
        repeat (first | refine JL.q (by first|(apply OQ.move;rfl)|(apply OQ.assign;rfl)) rfl ?_ | refine JC.seq ?_ | refine JC.region ?_ | refine JL.nil ?_ | refine JE.next ?_)
        refine JC.ret (JE.aC rfl (RV.tmp rfl) ?_)
        rw [eL,List.map_append,List.length_append]
        exact fun w' hw=>⟨(b1,cap1),rfl,hw⟩
      have h2 : W.length - 2<W.length:=by omega
      have c2 : (W.map U8)[0+(W.length - 2)]?=some (U8 (W.getD (W.length - 2) 0)):=by rw [Nat.zero_add];exact cw U8 0 h2
      by_cases e2 : W.getD (W.length - 2) 0=13
      · have eL : laidB s.l=W:=by rw [eL0,if_pos (show shut W from Or.inr ⟨by omega,e1,e2⟩)]
        rw [e1] at c1
        rw [e2] at c2
        repeat (first | refine JL.q (by first|(apply OQ.dA;rfl;rfl;exact h0)|(apply OQ.aJ;exact Tryz.underlying22;exact bH;rfl;rfl;exact h1)|(apply OQ.load;exact eD;rfl;exact .here;exact (Sl.aG.cell c1))|(apply OQ.oP;rfl;rfl;rfl)|(apply OQ.kR;rfl;rfl;exact hl2)|(apply OQ.aJ;exact Tryz.underlying22;exact bH;rfl;rfl;exact h2)|(apply OQ.load;exact eD;rfl;exact .here;exact (Sl.aG.cell c2))|(apply OQ.ay;rfl;rfl)|(apply OQ.au;rfl;rfl)|(apply OQ.move;rfl)|(apply OQ.assign;rfl)|(apply OQ.len;rfl;rfl)|(apply OQ.eu;rfl;rfl;exact (by (try simp only []);omega);exact (by (try simp only []);omega))) rfl ?_ | refine JC.seq ?_ | refine JC.region ?_ | refine JL.nil ?_ | refine JE.next ?_ | refine JL.aU rfl rfl ?_)
        refine JC.cond_false rfl rfl ?_
        repeat (first | refine JL.q (by first|(apply OQ.move;rfl)|(apply OQ.assign;rfl)) rfl ?_ | refine JC.seq ?_ | refine JC.region ?_ | refine JC.skip ?_ | refine JL.nil ?_ | refine JE.next ?_)
        refine JC.ret (JE.aC rfl (RV.tmp rfl) ?_)
        rw [eL]
        exact fun w' hw=>⟨(b,cap),rfl,hw⟩
      · have eL : laidB s.l=W++[13,10]:=by rw [eL0,if_neg (fun e=>e.elim (fun e=>by rw [e] at h0;cases h0) (fun e=>e2 e.2.2))]
        rw [e1] at c1
        repeat (first | refine JL.q (by first|(apply OQ.dA;rfl;rfl;exact h0)|(apply OQ.aJ;exact Tryz.underlying22;exact bH;rfl;rfl;exact h1)|(apply OQ.load;exact eD;rfl;exact .here;exact (Sl.aG.cell c1))|(apply OQ.oP;rfl;rfl;rfl)|(apply OQ.kR;rfl;rfl;exact hl2)|(apply OQ.aJ;exact Tryz.underlying22;exact bH;rfl;rfl;exact h2)|(apply OQ.load;exact eD;rfl;exact .here;exact (Sl.aG.cell c2))|(apply OQ.sw;rfl;rfl;exact (eC e2))|(apply OQ.ay;rfl;rfl)|(apply OQ.au;rfl;rfl)|(apply OQ.move;rfl)|(apply OQ.assign;rfl)|(apply OQ.len;rfl;rfl)|(apply OQ.eu;rfl;rfl;exact (by (try simp only []);omega);exact (by (try simp only []);omega))) rfl ?_ | refine JC.seq ?_ | refine JC.region ?_ | refine JL.nil ?_ | refine JE.next ?_ | refine JL.aU rfl rfl ?_)
        refine JC.cond_true rfl rfl ?_
        repeat (first | refine JL.q (by (apply OQ.move;rfl)) rfl ?_ | refine JC.region ?_)
        refine JL.dI (v1:=U8 13) (v2:=U8 10) (xs:=W.map U8) (fun b' cap'=>[⟨b',Sl.aG 5 1 (W.length+2) cap' (W.map U8++[U8 13,U8 10]),true⟩]) Tryz.underlying22 bQ rfl rfl rfl rfl rfl rfl rfl (fun _=>rfl) (by intro _ _;repeat (first | exact az.here | apply az.there)) (by omega) (by omega) rfl rfl fun bl b1 cap1=>?_
        repeat (first | refine JL.q (by first|(apply OQ.move;rfl)|(apply OQ.assign;rfl)) rfl ?_ | refine JC.seq ?_ | refine JC.region ?_ | refine JL.nil ?_ | refine JE.next ?_)
        refine JC.ret (JE.aC rfl (RV.tmp rfl) ?_)
        rw [eL,List.map_append,List.length_append]
        exact fun w' hw=>⟨(b1,cap1),rfl,hw⟩
    · have eL : laidB s.l=W++[13,10]:=by rw [eL0,if_neg (fun e=>e.elim (fun e=>by rw [e] at h0;cases h0) (fun e=>e1 e.2.1))]
      repeat (first | refine JL.q (by first|(apply OQ.dA;rfl;rfl;exact h0)|(apply OQ.aJ;exact Tryz.underlying22;exact bH;rfl;rfl;exact h1)|(apply OQ.load;exact eD;rfl;exact .here;exact (Sl.aG.cell c1))|(apply OQ.sw;rfl;rfl;exact (eC e1))|(apply OQ.ay;rfl;rfl)|(apply OQ.move;rfl)|(apply OQ.assign;rfl)|(apply OQ.len;rfl;rfl)|(apply OQ.eu;rfl;rfl;exact (by (try simp only []);omega);exact (by (try simp only []);omega))) rfl ?_ | refine JC.seq ?_ | refine JC.region ?_ | refine JL.nil ?_ | refine JE.next ?_ | refine JL.aU rfl rfl ?_ | refine JL.aM rfl rfl rfl rfl ?_)
      refine JC.cond_true rfl rfl ?_
      repeat (first | refine JL.q (by (apply OQ.move;rfl)) rfl ?_ | refine JC.region ?_)
      refine JL.dI (v1:=U8 13) (v2:=U8 10) (xs:=W.map U8) (fun b' cap'=>[⟨b',Sl.aG 5 1 (W.length+2) cap' (W.map U8++[U8 13,U8 10]),true⟩]) Tryz.underlying22 bQ rfl rfl rfl rfl rfl rfl rfl (fun _=>rfl) (by intro _ _;repeat (first | exact az.here | apply az.there)) (by omega) (by omega) rfl rfl fun bl b1 cap1=>?_
      repeat (first | refine JL.q (by first|(apply OQ.move;rfl)|(apply OQ.assign;rfl)) rfl ?_ | refine JC.seq ?_ | refine JC.region ?_ | refine JL.nil ?_ | refine JE.next ?_)
      refine JC.ret (JE.aC rfl (RV.tmp rfl) ?_)
      rw [eL,List.map_append,List.length_append]
      exact fun w' hw=>⟨(b1,cap1),rfl,hw⟩
  · obtain rfl : W=[]:=List.eq_nil_of_length_eq_zero (by omega)
    have eL : laidB s.l=[]:=by rw [eL0,if_pos (show shut [] from Or.inl rfl)]
    repeat (first | refine JL.q (by first|(apply OQ.js;rfl;rfl;exact h0)|(apply OQ.au;rfl;rfl)|(apply OQ.move;rfl)|(apply OQ.assign;rfl)|(apply OQ.len;rfl;rfl)) rfl ?_ | refine JC.seq ?_ | refine JC.region ?_ | refine JL.nil ?_ | refine JE.next ?_ | refine JL.aM rfl rfl rfl rfl ?_ | refine JL.eB rfl rfl rfl rfl ?_)
    refine JC.cond_false rfl rfl ?_
    repeat (first | refine JL.q (by first|(apply OQ.move;rfl)|(apply OQ.assign;rfl)) rfl ?_ | refine JC.seq ?_ | refine JC.region ?_ | refine JC.skip ?_ | refine JL.nil ?_ | refine JE.next ?_)
    refine JC.ret (JE.aC rfl (RV.tmp rfl) ?_)
    rw [eL]
    exact fun w' hw=>⟨(b,cap),rfl,hw⟩
end
section
namespace Sl
section
open Ieee
theorem lK (n k : Nat) : n <<< k=n * 2 ^ k:=Nat.shiftLeft_eq n k
theorem Ab {n : Nat} (h : n≠0) (k : Nat) : n * 2 ^ k≠0:=Nat.mul_ne_zero h (Nat.pos_iff_ne_zero.1 (Nat.two_pow_pos k))
theorem sO {n : Nat} (h : n≠0) (k : Nat) : (n * 2 ^ k).log2=n.log2+k:=by
  have hp : n * 2 ^ k≠0:=Nat.mul_ne_zero h (Nat.pos_iff_ne_zero.1 (Nat.two_pow_pos k))
  have h1:=(Nat.log2_eq_iff h).1 rfl
  rw [Nat.log2_eq_iff hp,Nat.pow_add,show n.log2+k+1=(n.log2+1)+k by omega,Nat.pow_add]
  exact ⟨Nat.mul_le_mul_right _ h1.1,Nat.mul_lt_mul_of_pos_right h1.2 (Nat.two_pow_pos k)⟩
theorem mS (way : Toward) (n d : Nat) (hn : n≠0) : way.cut false (n * 2 ^ d) d=n:=by
  unfold Toward.cut
  have hm : min d ((n * 2 ^ d).log2+2)=d:=by rw [sO hn];omega
  have hp:=Nat.two_pow_pos d
  simp only [hm,lK,Nat.one_mul,Nat.mul_div_cancel _ hp,Nat.mul_mod_left]
  cases way <;> simp <;> omega
theorem wW (way : Toward) (n : Nat) (hn : n≠0) : way.cut false n 0=n:=by
  have:=mS way n 0 hn
  simpa using this
def rung (n : Nat) : Nat:=(1022+n.log2) * 2 ^ 52+n * 2 ^ (52 - n.log2)
theorem lM {n : Nat} (h0 : n≠0) (h : n<2 ^ 53) : n.log2≤52:=by
  have:=(Nat.log2_lt h0).2 h
  omega
theorem Ac {n : Nat} (h0 : n≠0) (h : n<2 ^ 53) : 2 ^ 52≤n * 2 ^ (52 - n.log2)∧n * 2 ^ (52 - n.log2)<2 ^ 53:=by
  have hl:=lM h0 h
  have h1:=(Nat.log2_eq_iff h0).1 rfl
  have hp:=Nat.two_pow_pos (52 - n.log2)
  have e1 : 2 ^ 52=2 ^ n.log2 * 2 ^ (52 - n.log2):=by rw [← Nat.pow_add];congr 1;omega
  have e2 : 2 ^ 53=2 ^ (n.log2+1) * 2 ^ (52 - n.log2):=by rw [← Nat.pow_add];congr 1;omega
  rw [e1,e2]
  exact ⟨Nat.mul_le_mul_right _ h1.1,Nat.mul_lt_mul_of_pos_right h1.2 hp⟩
theorem near {n : Nat} (h0 : n≠0) (h : n<2 ^ 53) (k : Nat) : double.nearest false (n * 2 ^ k) (-(k : Int))=rung n:=by
  have hl:=lM h0 h
  have hm:=Ac h0 h
  have hp : n * 2 ^ k≠0:=Nat.mul_ne_zero h0 (Nat.pos_iff_ne_zero.1 (Nat.two_pow_pos k))
  unfold Format.nearest
  rw [if_neg hp,sO h0]
  have e1 : (double.fractionBits : Int)=52:=rfl
  have e2 : double.leastPlace=-1074:=by decide
  have e3 : max (-(k : Int)+((n.log2+k : Nat) : Int) - double.fractionBits) double.leastPlace=(n.log2 : Int) - 52:=by rw [e1,e2];omega
  have e4 : double.binade=2 ^ 52:=rfl
  have e5 : double.infRung=2047 * 2 ^ 52:=by decide
  simp only [e3]
  have hk : Toward.even.cut false ((n * 2 ^ k) <<< (-(k : Int) - ((n.log2 : Int) - 52)).toNat) (((n.log2 : Int) - 52) - -(k : Int)).toNat=n * 2 ^ (52 - n.log2):=by
    by_cases hc : k+n.log2≤52
    · have a1 : (-(k : Int) - ((n.log2 : Int) - 52)).toNat=52 - n.log2 - k:=by omega
      have a2 : (((n.log2 : Int) - 52) - -(k : Int)).toNat=0:=by omega
      rw [a1,a2,lK,Nat.mul_assoc,← Nat.pow_add,show k+(52 - n.log2 - k)=52 - n.log2 by omega]
      exact wW _ _ (by omega)
    · have a1 : (-(k : Int) - ((n.log2 : Int) - 52)).toNat=0:=by omega
      have a2 : (((n.log2 : Int) - 52) - -(k : Int)).toNat=n.log2+k - 52:=by omega
      rw [a1,a2,Nat.shiftLeft_zero]
      have e : n * 2 ^ k=n * 2 ^ (52 - n.log2) * 2 ^ (n.log2+k - 52):=by rw [Nat.mul_assoc,← Nat.pow_add];congr 2;omega
      rw [e]
      exact mS _ _ _ (by omega)
  rw [hk,e2,e4,e5]
  have a3 : ((n.log2 : Int) - 52 - -1074).toNat=1022+n.log2:=by omega
  rw [a3]
  unfold Format.word rung
  generalize n * 2 ^ (52 - n.log2)=m at hm ⊢
  generalize n.log2=L at hl ⊢
  rw [if_neg (by decide)]
  exact Nat.min_eq_left (by omega)
theorem gZ {n : Nat} (h0 : n≠0) (h : n<2 ^ 53) : double.read (rung n)=.number false (n * 2 ^ (52 - n.log2)) ((n.log2 : Int) - 52):=by
  have hl:=lM h0 h
  have hm:=Ac h0 h
  unfold rung
  generalize n * 2 ^ (52 - n.log2)=m at hm ⊢
  generalize n.log2=L at hl ⊢
  unfold Format.read
  have e2 : double.leastPlace=-1074:=by decide
  have e4 : double.binade=2 ^ 52:=rfl
  have e5 : double.infRung=2047 * 2 ^ 52:=by decide
  have e6 : double.signWeight=2 ^ 63:=by decide
  simp only [e2,e4,e5,e6]
  have hw : (1022+L) * 2 ^ 52+m<2 ^ 63:=by omega
  rw [Nat.mod_eq_of_lt hw,Nat.div_eq_of_lt hw,if_neg (by omega),if_pos (by omega)]
  have q1 : ((1022+L) * 2 ^ 52+m) / 2 ^ 52=1023+L:=by omega
  have q2 : ((1022+L) * 2 ^ 52+m) % 2 ^ 52=m - 2 ^ 52:=by omega
  have r1 : 2 ^ 52+(m - 2 ^ 52)=m:=by omega
  have r2 : (-1074 : Int)+((1023+L - 1 : Nat) : Int)=(L : Int) - 52:=by omega
  rw [q1,q2,r1,r2]
  rfl
def dM (n : Nat) : Nat:=floatOfInt .f64 n
theorem fM {n : Nat} (h0 : n≠0) (h : n<2 ^ 53) : dM n=rung n:=by
  have:=near h0 h 0
  rw [Nat.pow_zero,Nat.mul_one] at this
  rw [← this]
  show double.write (.number (decide ((n : Int)<0)) (n : Int).natAbs 0)=_
  have e : decide ((n : Int)<0)=false:=by simp
  rw [e,Int.natAbs_natCast]
  rfl
def Fl (n : Nat) : Value:=.float .f64 (dM n)
def Cx (l c : Nat) : Value:=.complex .f64 (dM l) (dM c)
theorem hG : dM 0=0:=by decide +kernel
theorem pX : dM 1=4607182418800017408:=by decide +kernel
theorem pY : double.read (dM 1)=.number false (2 ^ 52) (-52):=by rw [fM (by decide) (by decide),gZ (by decide) (by decide)];decide +kernel
theorem fN : double.read (dM 0)=.number false 0 (-1074):=by rw [hG];decide +kernel
theorem pZ {n : Nat} (h : n+1<2 ^ 53) : floatBits .add .f64 (dM n) (dM 1)=some (dM (n+1)):=by
  show ((double.read (dM n)).sum (double.read (dM 1))).map double.write=_
  by_cases h0 : n=0
  · subst h0
    rw [fN,pY]
    decide +kernel
  · have hl:=lM h0 (by omega)
    rw [fM h0 (by omega),gZ h0 (by omega),pY]
    have e : (n * 2 ^ (52 - n.log2)) <<< n.log2=n * 2 ^ 52:=by rw [lK,Nat.mul_assoc,← Nat.pow_add];congr 2;omega
    have hb : min ((n.log2 : Int) - 52) (-52)=-52:=by omega
    unfold Datum.sum
    simp only [hb]
    have a1 : ((n.log2 : Int) - 52 - -52).toNat=n.log2:=by omega
    rw [a1]
    have s1 : signed false (n * 2 ^ (52 - n.log2)) n.log2=((n * 2 ^ 52 : Nat) : Int):=by unfold signed;rw [e];rfl
    have s2 : signed false (2 ^ 52) (-52 - -52 : Int).toNat=((2 ^ 52 : Nat) : Int):=by decide
    rw [s1,s2,← Int.natCast_add]
    have e3 : n * 2 ^ 52+2 ^ 52=(n+1) * 2 ^ 52:=by omega
    rw [e3]
    have hp : ((n+1) * 2 ^ 52 : Nat)≠0:=by omega
    rw [if_neg (by omega)]
    show some (double.write (.number (decide ((((n+1) * 2 ^ 52 : Nat) : Int)<0)) _ _))=_
    have d : decide ((((n+1) * 2 ^ 52 : Nat) : Int)<0)=false:=decide_eq_false (by omega)
    rw [d,Int.natAbs_natCast]
    have:=near (n:=n+1) (by omega) h 52
    rw [fM (by omega) h,← this]
    rfl
theorem uF {n : Nat} (h : n<2 ^ 53) : floatBits .add .f64 (dM n) (dM 0)=some (dM n):=by
  show ((double.read (dM n)).sum (double.read (dM 0))).map double.write=_
  by_cases h0 : n=0
  · subst h0
    rw [fN]
    decide +kernel
  · have hl:=lM h0 (by omega)
    rw [fM h0 (by omega),gZ h0 (by omega),fN]
    have e : (n * 2 ^ (52 - n.log2)) <<< (n.log2+1022)=n * 2 ^ 1074:=by rw [lK,Nat.mul_assoc,← Nat.pow_add,show 52 - n.log2+(n.log2+1022)=1074 by omega]
    have hb : min ((n.log2 : Int) - 52) (-1074)=-1074:=by omega
    unfold Datum.sum
    simp only [hb]
    have a1 : ((n.log2 : Int) - 52 - -1074).toNat=n.log2+1022:=by omega
    rw [a1]
    have s1 : signed false (n * 2 ^ (52 - n.log2)) (n.log2+1022)=((n * 2 ^ 1074 : Nat) : Int):=by unfold signed;rw [e];rfl
    have s2 : signed false 0 (-1074 - -1074 : Int).toNat=((0 : Nat) : Int):=by decide
    rw [s1,s2,← Int.natCast_add,Nat.add_zero]
    have hp:=Ab h0 1074
    have hn:=near (n:=n) h0 h 1074
    generalize n * 2 ^ 1074=M at hp hn ⊢
    have hpi : (M : Int)≠0:=by omega
    rw [if_neg hpi]
    show some (double.write (.number (decide ((M : Int)<0)) _ _))=_
    have d : decide ((M : Int)<0)=false:=decide_eq_false (by omega)
    rw [d,Int.natAbs_natCast,← hn]
    rfl
theorem p6 {n : Nat} (h : n<2 ^ 53) : (FloatKind.format .f64).order (dM n) (dM 0)=some .eq↔n=0:=by
  show (double.read (dM n)).order (double.read (dM 0))=some .eq↔n=0
  by_cases h0 : n=0
  · subst h0
    rw [fN]
    decide +kernel
  · rw [fM h0 h,gZ h0 h,fN]
    unfold Datum.order
    simp only [h0,iff_false]
    intro hc
    have hc:=Option.some.inj hc
    replace hc:=Std.LawfulEqCmp.eq_of_compare hc
    unfold signed at hc
    rw [if_neg (by decide),if_neg (by decide),Nat.zero_shiftLeft,lK] at hc
    have hm:=Ac h0 h
    have : n * 2 ^ (52 - n.log2) * 2 ^ ((n.log2 : Int) - 52 - min ((n.log2 : Int) - 52) (-1074)).toNat≠0:=Nat.mul_ne_zero (by omega) (Nat.pos_iff_ne_zero.1 (Nat.two_pow_pos _))
    omega
end
section
variable {P : Program} {n : Nat} {E : Env} {C : World→Prop} {dst : Option Tmp} {t t' ty : TypeId} {pos : String} {aft : Array Edge} {g : Option (Nat × Bool)} {x y : Operand}
theorem OQ.real {a b : Nat} (hx : ev E x=some (Cx a b)) : OQ P n E C ⟨dst,.call ⟨.builtin .real,#[x],#[t]⟩,ty,pos,aft,g⟩ (Fl a):=
  OQ.run fun ac ha w _=>by
    have h1:=ha.eval hx
    simp [execOp,h1,resolve,invoke,builtin,Cx,Fl,Sem.run_bind,run_real]
theorem OQ.imag {a b : Nat} (hx : ev E x=some (Cx a b)) : OQ P n E C ⟨dst,.call ⟨.builtin .imag,#[x],#[t]⟩,ty,pos,aft,g⟩ (Fl b):=
  OQ.run fun ac ha w _=>by
    have h1:=ha.eval hx
    simp [execOp,h1,resolve,invoke,builtin,Cx,Fl,Sem.run_bind,run_imag]
theorem OQ.BM {a b : Nat} (hx : ev E x=some (Fl a)) (hy : ev E y=some (Fl b)) : OQ P n E C ⟨dst,.call ⟨.builtin .complex,#[x,y],#[t,t']⟩,ty,pos,aft,g⟩ (Cx a b):=
  OQ.run fun ac ha w _=>by
    have h1:=ha.eval hx
    have h2:=ha.eval hy
    simp [execOp,h1,h2,resolve,invoke,builtin,Cx,Fl,Sem.run_bind,run_complex]
theorem OQ.Ad {a : Nat} (hx : ev E x=some (Fl a)) (hy : ev E y=some (Fl 1)) (h : a+1<2 ^ 53) : OQ P n E C ⟨dst,.binOp .add t x y t',ty,pos,aft,g⟩ (Fl (a+1)):=
  OQ.run fun ac ha w _=>by
    have h1:=ha.eval hx
    have h2:=ha.eval hy
    have h3:=run_float_arith (P:=P) w .add t .f64 _ _ _ (pZ h)
    simp only [Fl] at h1 h2
    simp [execOp,h1,h2,eqGuard,Sem.run_bind,h3,Fl]
theorem OQ.Ae {a b : Nat} (hx : ev E x=some (Cx a b)) (hy : ev E y=some (Cx 0 1)) (h : a<2 ^ 53) (h' : b+1<2 ^ 53) : OQ P n E C ⟨dst,.binOp .add t x y t',ty,pos,aft,g⟩ (Cx a (b+1)):=
  OQ.run fun ac ha w _=>by
    have h1:=ha.eval hx
    have h2:=ha.eval hy
    have h3:=run_complex_sum (P:=P) w .add (.inl rfl) t .f64 (dM a) (dM b) (dM 0) (dM 1) (dM a) (dM (b+1)) (by simp [cSumBits,pZ h',uF h])
    simp only [Cx] at h1 h2
    simp [execOp,h1,h2,eqGuard,Sem.run_bind,h3,Cx]
theorem OQ.wX {a : Nat} {c : Bool} (hx : ev E x=some (Fl a)) (hy : ev E y=some (Fl 0)) (h : a<2 ^ 53) (hc : decide (a=0)=c) : OQ P n E C ⟨dst,.binOp .eql t x y t',ty,pos,aft,g⟩ (.bool c):=
  OQ.run fun ac ha w _=>by
    have h1:=ha.eval hx
    have h2:=ha.eval hy
    simp only [Fl] at h1 h2
    have h3 : ((FloatKind.format .f64).order (dM a) (dM 0) == some .eq)=c:=by
      rw [← hc]
      by_cases h0 : a=0
      · rw [(p6 h).2 h0,h0];rfl
      · have:=mt (p6 h).1 h0
        simp [h0,this]
    simp only [execOp,h1,h2,binOp_float_cmp_eql,h3]
    simp [eqGuard,Sem.run_bind]
end
end Sl
end
section
set_option maxRecDepth 10000
open Sl br
theorem BN : (some (.float .f64 4607182418800017408) : Option Value)=some (Fl 1):=by rw [← pX];rfl
theorem yL : (some (.float .f64 0) : Option Value)=some (Fl 0):=by
  unfold Fl
  rw [hG]
theorem Bf : (some (.complex .f64 0 0) : Option Value)=some (Cx 0 0):=by
  unfold Cx
  rw [hG]
theorem Bg : (some (.complex .f64 0 4607182418800017408) : Option Value)=some (Cx 0 1):=by
  unfold Cx
  rw [hG,pX]
theorem uG : aO Tryz.prog 108:=⟨_,Tryz.func108,rfl,by kernel_rfl⟩
set_option maxHeartbeats 4000000 in
theorem wY (p : Nat × Nat) (c : Bt) (w : World) (h1 : p.1<4294967296) (h2 : p.2<4294967296) : Calls Tryz.prog 108 [Cx p.1 p.2,U8 c].toArray w fun e w'=>e=.returned (Cx (pl p c).1 (pl p c).2)∧Ext w w':=by
  refine enter (n:=13) Tryz.func108 rfl rfl rfl (aa.start w []) ?_
  have k10 : (c.toNat : Int)=10↔c=10:=yK c 10 (by decide)
  unfold pl
  cases h10 : decide ((c.toNat : Int)=10)
  · rw [if_neg (fun h=>absurd (k10.2 h) (of_decide_eq_false h10))]
    repeat (first | refine JL.q (by first|(apply OQ.gj;rfl;rfl;exact h10)|(apply OQ.move;rfl)|(apply OQ.assign;rfl)) rfl ?_ | refine JC.seq ?_ | refine JC.region ?_ | refine JL.nil ?_ | refine JE.next ?_)
    refine JC.cond_false rfl rfl ?_
    repeat (first | refine JL.q (by first|(apply OQ.Ae;rfl;exact Bg;exact (by omega);exact (by omega))|(apply OQ.move;rfl)|(apply OQ.assign;rfl)) rfl ?_ | refine JC.seq ?_ | refine JC.region ?_ | refine JC.skip ?_ | refine JL.nil ?_ | refine JE.next ?_)
    exact JC.ret (JE.aC rfl (RV.tmp rfl) fun w' hw=>⟨rfl,hw.aS⟩)
  · rw [if_pos (k10.1 (of_decide_eq_true h10))]
    repeat (first | refine JL.q (by first|(apply OQ.gj;rfl;rfl;exact h10)|(apply OQ.move;rfl)|(apply OQ.assign;rfl)) rfl ?_ | refine JC.seq ?_ | refine JC.region ?_ | refine JL.nil ?_ | refine JE.next ?_)
    refine JC.cond_true rfl rfl ?_
    repeat (first | refine JL.q (by first|(apply OQ.real;rfl)|(apply OQ.Ad;rfl;exact BN;exact (by omega))|(apply OQ.BM;rfl;exact yL)|(apply OQ.move;rfl)|(apply OQ.assign;rfl)) rfl ?_ | refine JC.seq ?_ | refine JC.region ?_ | refine JL.nil ?_ | refine JE.next ?_)
    refine JC.ret ?_
    repeat (refine JE.ah ?_)
    exact JE.aC rfl (RV.tmp rfl) fun w' hw=>⟨rfl,hw.aS⟩
theorem wZ {α : Type} (f : α→br.By→α) (l : List br.By) (s : α) {i : Nat} (h : i<l.length) : (l.take (i+1)).foldl f s=f ((l.take i).foldl f s) (l.getD i 0):=by
  rw [List.take_add_one,List.getD_eq_getElem?_getD,List.getElem?_eq_getElem h,List.foldl_append]
  rfl
theorem uH (l : List br.By) {i : Nat} (h : i<l.length) : l.take (i+1)=l.take i++[l.getD i 0]:=by
  rw [List.take_add_one,List.getD_eq_getElem?_getD,List.getElem?_eq_getElem h]
  rfl
theorem yM (l : List br.By) (i : Nat) : ((l.take i).foldl pl (0,0)).1≤l.length∧((l.take i).foldl pl (0,0)).2≤l.length:=by
  have h:=y6 (l.take i) (0,0)
  have h2 : (l.take i).length≤l.length:=by rw [List.length_take];omega
  simp only at h
  omega
end
section
set_option maxRecDepth 10000
open Sl br
def ki : Nat→List br.By→List br.By
  | _,[]=>[]
  | col,c::r=>(if col=0∧c=46 then [46,46] else [c])++ki (if c=10 then 0 else col+1) r
theorem sP : ∀ (r : List br.By) (col : Nat) (t : List br.By),(∀ c ∈ r,c≠10)→0<col→ki col (r++13::10::t)=r++13::10::ki 0 t
  | [],col,t,_,h=>by
    show (if col=0∧(13 : br.By)=46 then _ else _)++ki (if (13 : br.By)=10 then 0 else col+1) (10::t)=_
    rw [if_neg (fun h=>absurd h.2 (by decide)),if_neg (by decide)]
    show _++((if col+1=0∧(10 : br.By)=46 then _ else _)++ki (if (10 : br.By)=10 then 0 else col+1+1) t)=_
    rw [if_neg (fun h=>absurd h.2 (by decide)),if_pos rfl]
    rfl
  | c::r,col,t,h,h0=>by
    show (if col=0∧c=46 then _ else _)++ki (if c=10 then 0 else col+1) (r++13::10::t)=_
    rw [if_neg (fun h=>by omega),if_neg (h c (by simp)),sP r (col+1) t (fun x hx=>h x (by simp [hx])) (by omega)]
    rfl
theorem w4 (l t : List br.By) (h : ∀ c ∈ l,c≠10) : ki 0 (l++13::10::t)=bh l++13::10::ki 0 t:=by
  cases l with
  | nil=>
    show (if 0=0∧(13 : br.By)=46 then _ else _)++ki (if (13 : br.By)=10 then 0 else 0+1) (10::t)=_
    rw [if_neg (fun h=>absurd h.2 (by decide)),if_neg (by decide)]
    show _++((if 0+1=0∧(10 : br.By)=46 then _ else _)++ki (if (10 : br.By)=10 then 0 else 0+1+1) t)=_
    rw [if_neg (fun h=>absurd h.2 (by decide)),if_pos rfl]
    rfl
  | cons c r=>
    show (if 0=0∧c=46 then _ else _)++ki (if c=10 then 0 else 0+1) (r++13::10::t)=_
    rw [if_neg (h c (by simp)),sP r (0+1) t (fun x hx=>h x (by simp [hx])) (by omega)]
    unfold bh
    by_cases e : c=46
    · rw [if_pos ⟨rfl,e⟩,if_pos (by rw [e];rfl),e]
      rfl
    · rw [if_neg (fun h=>e h.2),if_neg (show ¬ (c::r).head?=some 46 from fun h=>e (Option.some.inj h))]
      rfl
theorem mT : ∀ ls : List (List br.By),(∀ l ∈ ls,∀ c ∈ l,c≠10)→ki 0 (aE ls)=aE (ls.map bh)
  | [],_=>rfl
  | l::ls,h=>by
    have e1 : aE (l::ls)=l++13::10::aE ls:=by
      show (l++[13,10])++aE ls=_
      rw [List.append_assoc];rfl
    have e2 : aE ((l::ls).map bh)=bh l++13::10::aE (ls.map bh):=by
      show (bh l++[13,10])++aE (ls.map bh)=_
      rw [List.append_assoc];rfl
    rw [e1,e2,w4 l _ (h l (by simp)),mT ls fun x hx=>h x (by simp [hx])]
theorem sQ (b : List br.By) : iA b=ki 0 (laidB b)++[46,13,10]:=by
  have h:=mT (bB (laidB b)).1 fun l hl c hc=>((oy (l8 b)).1 l hl c hc).1
  rw [ku] at h
  rw [h]
  rfl
theorem p7 : ∀ (a : List br.By) (p : Nat × Nat) (c : br.By),ki p.2 (a++[c])=ki p.2 a++(if (a.foldl pl p).2=0∧c=46 then [46,46] else [c])
  | [],p,c=>by
    show (if p.2=0∧c=46 then _ else _)++[]=[]++_
    rw [List.append_nil];rfl
  | x::a,p,c=>by
    have e : (if x=10 then 0 else p.2+1)=(pl p x).2:=by unfold pl;split <;> rfl
    show (if p.2=0∧x=46 then _ else _)++ki (if x=10 then 0 else p.2+1) (a++[c])=((if p.2=0∧x=46 then _ else _)++ki (if x=10 then 0 else p.2+1) a)++_
    rw [e,p7 a (pl p x) c,List.append_assoc]
    rfl
theorem kj : ∀ (a : List br.By) (col : Nat),(ki col a).length≤2 * a.length
  | [],_=>Nat.le_refl _
  | x::a,col=>by
    have:=kj a (if x=10 then 0 else col+1)
    show ((if col=0∧x=46 then _ else _)++_ : List br.By).length≤_
    rw [List.length_append,List.length_cons]
    split <;> simp only [List.length_cons,List.length_nil] <;> omega
theorem yN (W : List br.By) : gu W [13,10]=true↔2≤W.length∧W.getD (W.length - 1) 0=10∧W.getD (W.length - 2) 0=13:=by
  unfold gu
  rw [Bool.and_eq_true,decide_eq_true_eq,decide_eq_true_eq]
  simp only [List.length_cons,List.length_nil]
  by_cases h : 2≤W.length
  · have e1 : W.drop (W.length - 2)=W[W.length - 2]'(by omega)::W.drop (W.length - 2+1):=List.drop_eq_getElem_cons (by omega)
    have e2 : W.drop (W.length - 2+1)=W[W.length - 2+1]'(by omega)::W.drop (W.length - 2+1+1):=List.drop_eq_getElem_cons (by omega)
    have e3 : W.drop (W.length - 2+1+1)=[]:=List.drop_eq_nil_of_le (by omega)
    have e4 : W.getD (W.length - 2) 0=W[W.length - 2]'(by omega):=by rw [List.getD_eq_getElem?_getD,List.getElem?_eq_getElem (by omega)];rfl
    have e5 : W.getD (W.length - 1) 0=W[W.length - 2+1]'(by omega):=by rw [show W.length - 1=W.length - 2+1 by omega,List.getD_eq_getElem?_getD,List.getElem?_eq_getElem (by omega)];rfl
    rw [show 0+1+1=2 from rfl,e1,e2,e3,e4,e5]
    constructor
    · rintro ⟨_,h2⟩
      simp only [List.cons.injEq] at h2
      exact ⟨h,h2.2.1,h2.1⟩
    · rintro ⟨_,h1,h2⟩
      rw [h1,h2]
      exact ⟨by omega,rfl⟩
  · exact ⟨fun h'=>by have:=h'.1;omega,fun h'=>absurd h'.1 h⟩
theorem uI (b : List br.By) : laidB b=if (0 : Int)<((iq b).length : Int)∧gu (iq b) [13,10]=false then iq b++[13,10] else iq b:=by
  rw [lJ]
  have h:=yN (iq b)
  generalize iq b=W at h ⊢
  by_cases h0 : W=[]
  · subst h0
    rw [if_pos (show shut [] from Or.inl rfl),if_neg (fun h=>absurd h.1 (by simp))]
  · have hp:=List.length_pos_iff.2 h0
    cases hs : gu W [13,10]
    · rw [hs] at h
      have:=mt h.2 (by decide)
      rw [if_neg (show ¬ shut W from fun h=>h.elim h0 this),if_pos ⟨by omega,rfl⟩]
    · rw [if_pos (show shut W from Or.inr (h.1 hs)),if_neg (fun h=>by cases h.2)]
theorem uJ : aO Tryz.prog 107:=⟨_,Tryz.func107,rfl,by kernel_rfl⟩
theorem gJ {w0 w : World} {S : List Nat} {M : List aN} {b cap : Nat} {e : TypeId} {l : List Bt} {wr : Bool} (hw : aa w0 S M w) (hM : Has M b (ou e (l.map U8)) wr) (hc : l.length≤cap) : aB.ok w ⟨some ⟨b,0,none⟩,cap,l⟩:=by
  obtain ⟨o,ho,hA⟩:=hw.get hM
  exact ⟨hc,Reads.block ho (ou.all _ hA)⟩
set_option maxHeartbeats 8000000 in
theorem w5 (s : aB) (w : World) (hs : s.ok w) (hl : s.l.length≤1000000) : Calls Tryz.prog 107 [s.v].toArray w (zu (laidB s.l) w):=by
  have hWl : (iq s.l).length≤2 * s.l.length:=(ng s.l 0).2
  have eL:=uI s.l
  refine enter (n:=19) Tryz.func107 rfl rfl rfl (aa.start w []) ?_
  repeat (first | refine JL.q (by first|(apply OQ.move;rfl)|(apply OQ.assign;rfl)) rfl ?_ | refine JC.seq ?_ | refine JC.region ?_ | refine JL.nil ?_ | refine JE.next ?_)
  refine JL.cE (ι:=Nat × Nat) (fun q=>.slice (some ⟨q.1,0,none⟩) (iq s.l).length q.2) (fun q=>[⟨q.1,Sl.aG 5 1 (iq s.l).length q.2 ((iq s.l).map U8),true⟩]) pV rfl rfl (fun q e he=>by rw [List.mem_singleton.1 he]) (fun w' hw'=>rA s w' (hs.holds hw' rfl) hl) ?_
  rintro ⟨b,cap⟩
  generalize iq s.l=W at hWl eL ⊢
  dsimp only
  cases h0 : decide ((0 : Int)<(W.length : Int))
  · rw [if_neg (fun h=>absurd h.1 (of_decide_eq_false h0))] at eL
    repeat (first | refine JL.q (by first|(apply OQ.cW;rfl;rfl;exact h0)|(apply OQ.au;rfl;rfl)|(apply OQ.move;rfl)|(apply OQ.assign;rfl)|(apply OQ.len;rfl;rfl)) rfl ?_ | refine JC.seq ?_ | refine JC.region ?_ | refine JL.nil ?_ | refine JE.next ?_ | refine JL.aM rfl rfl rfl rfl ?_)
    refine JC.cond_false rfl rfl ?_
    repeat (first | refine JL.q (by first|(apply OQ.move;rfl)|(apply OQ.assign;rfl)) rfl ?_ | refine JC.seq ?_ | refine JC.region ?_ | refine JC.skip ?_ | refine JL.nil ?_ | refine JE.next ?_)
    refine JC.ret (JE.aC rfl (RV.tmp rfl) ?_)
    exact fun w' hw=>⟨⟨some ⟨b,0,none⟩,cap,W⟩,rfl,hw.aS,eL.symm,b8 hw .here⟩
  · cases hsf : gu W [13,10]
    · rw [if_pos ⟨of_decide_eq_true h0,hsf⟩] at eL
      repeat (first | refine JL.q (by first|(apply OQ.cW;rfl;rfl;exact h0)|(apply OQ.move;rfl)|(apply OQ.assign;rfl)|(apply OQ.len;rfl;rfl)) rfl ?_ | refine JC.seq ?_ | refine JC.region ?_ | refine JL.nil ?_ | refine JE.next ?_ | refine JL.aU rfl rfl ?_)
      refine JL.lX (xs:=[.const (U8 13),.const (U8 10)]) (vs:=[U8 13,U8 10]) Tryz.underlying22 bQ rfl rfl rfl rfl (by intro v hv;simp only [List.mem_cons,List.not_mem_nil,or_false] at hv;rcases hv with rfl | rfl <;> rfl) rfl (by decide) (by decide) rfl fun bl _=>?_
      refine JL.aU rfl rfl ?_
      refine JL.mark (r:=[U8 13,U8 10]) (te:=5) Tryz.underlying22 Tryz.underlying5 rfl .here rfl ?_
      repeat (first | refine JL.q (by first|(apply OQ.an (vs:=[aB.v ⟨some ⟨b,0,none⟩,cap,W⟩,aB.v ⟨some ⟨bl,0,none⟩,2,[13,10]⟩]);exact fL;rfl;exact (fun w' hw'=>hsf ▸ jf ⟨some ⟨b,0,none⟩,cap,W⟩ ⟨some ⟨bl,0,none⟩,2,[13,10]⟩ w' (b8 hw' (.there .here)) (gJ (l:=[13,10]) hw' .here (Nat.le_refl _)) (by show W.length≤_;omega)))|(apply OQ.not;rfl)|(apply OQ.ay;rfl;rfl)) rfl ?_ | refine JL.nil ?_ | refine JE.next ?_ | refine JL.aU rfl rfl ?_)
      refine JC.cond_true rfl rfl ?_
      repeat (first | refine JL.q (by (apply OQ.move;rfl)) rfl ?_ | refine JC.region ?_)
      refine JL.gQ (r:=[13,10]) (xs:=W.map U8) (k:=W.length) (fun b' cap'=>[⟨bl,ou 5 [U8 13,U8 10],true⟩,⟨b',Sl.aG 5 1 (W.length+2) cap' (W.map U8++[U8 13,U8 10]),true⟩]) Tryz.underlying22 Tryz.underlying9 bQ rfl rfl (by intro _ _;repeat (first | exact az.here | apply az.there)) (by show W.length+2≤_;omega) rfl fun b2 cap2=>?_
      repeat (first | refine JL.q (by first|(apply OQ.move;rfl)|(apply OQ.assign;rfl)) rfl ?_ | refine JC.seq ?_ | refine JC.region ?_ | refine JL.nil ?_ | refine JE.next ?_)
      refine JC.ret (JE.aC rfl (RV.tmp rfl) ?_)
      refine fun w' hw=>⟨⟨some ⟨b2,0,none⟩,cap2,W++[13,10]⟩,?_,hw.aS,eL.symm,?_⟩
      · show _=Ending.returned (.slice _ (W++[13,10]).length _)
        rw [List.length_append]
      · refine b8 (e:=5) (k:=W.length+2) (wr:=true) hw (.there ?_)
        rw [List.map_append]
        exact .here
    · rw [if_neg (fun h=>by rw [hsf] at h;cases h.2)] at eL
      repeat (first | refine JL.q (by first|(apply OQ.cW;rfl;rfl;exact h0)|(apply OQ.move;rfl)|(apply OQ.assign;rfl)|(apply OQ.len;rfl;rfl)) rfl ?_ | refine JC.seq ?_ | refine JC.region ?_ | refine JL.nil ?_ | refine JE.next ?_ | refine JL.aU rfl rfl ?_)
      refine JL.lX (xs:=[.const (U8 13),.const (U8 10)]) (vs:=[U8 13,U8 10]) Tryz.underlying22 bQ rfl rfl rfl rfl (by intro v hv;simp only [List.mem_cons,List.not_mem_nil,or_false] at hv;rcases hv with rfl | rfl <;> rfl) rfl (by decide) (by decide) rfl fun bl _=>?_
      refine JL.aU rfl rfl ?_
      refine JL.mark (r:=[U8 13,U8 10]) (te:=5) Tryz.underlying22 Tryz.underlying5 rfl .here rfl ?_
      repeat (first | refine JL.q (by first|(apply OQ.an (vs:=[aB.v ⟨some ⟨b,0,none⟩,cap,W⟩,aB.v ⟨some ⟨bl,0,none⟩,2,[13,10]⟩]);exact fL;rfl;exact (fun w' hw'=>hsf ▸ jf ⟨some ⟨b,0,none⟩,cap,W⟩ ⟨some ⟨bl,0,none⟩,2,[13,10]⟩ w' (b8 hw' (.there .here)) (gJ (l:=[13,10]) hw' .here (Nat.le_refl _)) (by show W.length≤_;omega)))|(apply OQ.not;rfl)|(apply OQ.ay;rfl;rfl)) rfl ?_ | refine JL.nil ?_ | refine JE.next ?_ | refine JL.aU rfl rfl ?_)
      refine JC.cond_false rfl rfl ?_
      repeat (first | refine JL.q (by first|(apply OQ.move;rfl)|(apply OQ.assign;rfl)) rfl ?_ | refine JC.seq ?_ | refine JC.region ?_ | refine JC.skip ?_ | refine JL.nil ?_ | refine JE.next ?_)
      refine JC.ret (JE.aC rfl (RV.tmp rfl) ?_)
      exact fun w' hw=>⟨⟨some ⟨b,0,none⟩,cap,W⟩,rfl,hw.aS,eL.symm,b8 hw (.there .here)⟩
theorem p8 : aO Tryz.prog 75:=⟨_,Tryz.func75,rfl,by kernel_rfl⟩
end
end Go.Proofs.YtjeeilmkjjbonaaGreatDoor
