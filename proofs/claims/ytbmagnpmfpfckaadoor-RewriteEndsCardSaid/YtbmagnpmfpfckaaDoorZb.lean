/-
  Of no statement by itself: the texts Slfi, Slgr, Slfr, Slrw, Slgn, Slgp, MimS, MibP, RwA, RwB, RwC, Slhn, Prs, Prz, Slap, Slwi, RwK, RwN, RwO, RwF, Slcc, Slin in one.
  Conditions: each theorem's own.
-/
import Derived.Test.YtbmagnpmfpfckaaDoorZa
import Derived.OrdersIn
import Derived.Laws.StructEq
import Derived.Lib.Overlaps
import Derived.Laws.Tables
set_option linter.unusedSimpArgs false
set_option linter.unusedVariables false
namespace Go.Proofs.YtbmagnpmfpfckaaDoor
section
namespace Sl
section
variable {P : Program} {n : Nat} {W : World} {ops : Array Oper} {Q Q' : Exit→Act→World→Prop} {os : List Oper} {E E' : Env} {d : Nat} {op : Op} {ty : TypeId} {pos : String} {aft : Array Edge} {v : Value} {m : Nat}
structure FL (P : Program) (n m : Nat) (W : World) (ops : Array Oper) (Q : Exit→Act→World→Prop) (os : List Oper) (E : Env) : Prop where
  go : ∀ a,an n E a→wpListIn Fence.wide m P ops Q os a W
structure FE (n : Nat) (W : World) (Q : Exit→Act→World→Prop) (e : Exit) (E : Env) : Prop where
  go : ∀ a,an n E a→Q e a W
structure FC (P : Program) (n : Nat) (W : World) (Q : Exit→Act→World→Prop) (c : Code) (E : Env) : Prop where
  go : ∀ a,an n E a→c.wp P Q a W
theorem FC.seq {x y : Code} (h : FC P n W (Exit.then (y.wp P Q) Q) x E) : FC P n W Q (.seq x y) E:=⟨fun a ha=>wp_seq (h.go a ha)⟩
theorem FC.skip (h : FE n W Q .normal E) : FC P n W Q .skip E:=⟨fun a ha=>wp_skip (h.go a ha)⟩
theorem FC.ret (h : FE n W Q .ret E) : FC P n W Q .ret E:=⟨fun a ha=>wp_ret (h.go a ha)⟩
theorem FC.exit {id : Nat} (h : FE n W Q (.exit id) E) : FC P n W Q (.exit id) E:=⟨fun a ha=>wp_exit (h.go a ha)⟩
theorem FC.block {id : Nat} {c : Code} (h : FC P n W (Exit.inBlock id Q) c E) : FC P n W Q (.block id c) E:=⟨fun a ha=>wp_block (h.go a ha)⟩
theorem FC.cond {c : Operand} {x y : Code} {t : Bool} (hc : ev E c=some (.bool t)) (ht : t=true→FC P n W Q x E) (hf : t=false→FC P n W Q y E) : FC P n W Q (.cond c x y) E:=
  ⟨fun a ha=>wp_cond_split (ha.eval hc) (fun h=>(ht h).go a ha) (fun h=>(hf h).go a ha)⟩
theorem FC.region {id : Nat} {os : List Oper} (h : FL P n 2 W os.toArray Q os E) : FC P n W Q (.region id os.toArray false) E:=⟨fun a ha=>(wpIn_wide (n:=2)).1 (wpIn_region_lit (h.go a ha))⟩
theorem FE.next {y : Code} (h : FC P n W Q' y E) : FE n W (Exit.then (y.wp P Q') Q) .normal E:=⟨h.go⟩
theorem FE.aJ {K : Act→World→Prop} {id : Nat} (h : FE n W Q (.exit id) E) : FE n W (Exit.then K Q) (.exit id) E:=⟨h.go⟩
theorem FE.az {K : Act→World→Prop} (h : FE n W Q .ret E) : FE n W (Exit.then K Q) .ret E:=⟨h.go⟩
theorem FE.au {id : Nat} (h : FE n W Q .normal E) : FE n W (Exit.inBlock id Q) .normal E:=⟨h.go⟩
theorem FE.aU {id : Nat} (h : FE n W Q .ret E) : FE n W (Exit.inBlock id Q) .ret E:=⟨h.go⟩
theorem FE.bk {id : Nat} (h : FE n W Q .normal E) : FE n W (Exit.inBlock id Q) (.exit id) E:=⟨fun a ha=>by
  show (if id=id then Q .normal a W else _)
  rw [if_pos rfl];exact h.go a ha⟩
theorem FL.nil (h : FE n W Q .normal E) : FL P n m W ops Q [] E:=⟨h.go⟩
theorem FL.q (h : OQ P n E (fun w=>w=W) ⟨some d,op,ty,pos,aft,none⟩ v) (hdf : bD ⟨some d,op,ty,pos,aft,none⟩=true) (hd : Nat.blt d n=true) (k : FL P n m W ops Q os ((d,v)::E)) : FL P n m W ops Q (⟨some d,op,ty,pos,aft,none⟩::os) E:=
  ⟨fun a ha=>wpListIn_plain rfl fun K hK=>by
    have hk:=hK _ _ (k.go _ (ha.put d v hd))
    have hq:=h.go a ha W rfl
    refine ⟨fun _ _=>trivial,?_⟩
    have e : Oper.semAt Fence.wide.round a.eval ⟨some d,op,ty,pos,aft,none⟩=execOp a.eval ⟨some d,op,ty,pos,aft,none⟩:=rfl
    rw [e]
    unfold Oper.quietAt at hq
    cases hr : (execOp a.eval ⟨some d,op,ty,pos,aft,none⟩).run P W with
    | ok nx w'=>
      rw [hr] at hq
      cases nx with
      | value u=>
        obtain ⟨rfl,rfl⟩:=hq
        exact hk
      | skip=>
        obtain ⟨rfl,rfl⟩:=hq
        exact hk
      | enter f args=>
        obtain ⟨rfl,hc⟩:=hq
        refine ⟨fun h=>(by cases h),(callsIn_wide (n:=m - 1)).2 (hc.mono ?_)⟩
        rintro e w2 ⟨rfl,rfl⟩
        exact hk
      | _=>exact hq.elim
    | halt x w'=>
      rw [hr] at hq
      exact hq.elim⟩
theorem FL.yield {l : Nat} {x y : Operand} {t : TypeId} {R : Ending→World→Prop} (hx : ev E x=some (.func (.yield l) #[] #[])) (hy : ev E y=some v) (hd : Nat.blt d n=true) (h : YieldAt Fence.wide 1 P l #[v] W R)
    (hR : ∀ e W',R e W'→∃ b,e=.returned (.bool b)∧FL P n 2 W' ops Q os ((d,.bool b)::E)) : FL P n 2 W ops Q (⟨some d,.call ⟨.value x,#[y],#[t]⟩,ty,pos,aft,none⟩::os) E:=
  ⟨fun a ha=>wpListIn_plain rfl fun K hK=>by
    obtain ⟨fn,tmps,assign,body,hrun,hro⟩:=h
    refine ⟨fun _ _=>trivial,?_⟩
    have e : (Oper.semAt Fence.wide.round a.eval ⟨some d,.call ⟨.value x,#[y],#[t]⟩,ty,pos,aft,none⟩).run P W=.ok (.round l fn tmps assign body) W:=by
      have e0 : Oper.semAt Fence.wide.round a.eval ⟨some d,.call ⟨.value x,#[y],#[t]⟩,ty,pos,aft,none⟩=execOp a.eval ⟨some d,.call ⟨.value x,#[y],#[t]⟩,ty,pos,aft,none⟩:=rfl
      rw [e0]
      simp only [execOp,resolve,Sem.run_bind,ha.eval hx,List.map_toArray,List.map_cons,List.map_nil,ha.eval hy,Deferred.ofValue,Sem.run_pure,Result.andThen_ok,invoke]
      simpa using hrun
    rw [e]
    refine ⟨fun h=>(by cases h),hro.mono fun e W' hr=>?_⟩
    obtain ⟨b,rfl,hl⟩:=hR e W' hr
    exact hK _ _ (hl.go _ (ha.put d _ hd))⟩
theorem FC.loop {ι : Type} (Ei : ι→Env) (Ci : ι→World→Prop) (μ : ι→Nat) {c : Code} (i : ι) (hi : Ci i W) (hE : aj E (Ei i))
    (h : ∀ i w,Ci i w→FC P n w (Exit.then (fun a' w'=>∃ j,Ci j w'∧μ j<μ i∧an n (Ei j) a') Q) c (Ei i)) : FC P n W Q (.loop c) E:=by
  refine ⟨fun a ha=>?_⟩
  have ha':=ha.sub hE
  clear ha hE
  have key : ∀ m i,μ i=m→∀ a w,Ci i w→an n (Ei i) a→∀ (b : Frame) (k : List Item) (cs : List Frame),
      ∃ e a' w',Q e a' w'∧Arrives P (lone (b.at a (.code c::.inLoop c::k)) cs w) b k cs e a' w':=by
    intro m
    induction m using Nat.strongRecOn with
    | _ m ih=>
      intro i hm a w hw ha b k cs
      obtain ⟨e,a₁,w₁,hq,harr⟩:=(h i w hw).go a ha b (.inLoop c::k) cs
      cases e with
      | normal=>
        obtain ⟨j,hw₁,hlt,ha₁⟩:=hq
        obtain ⟨e₂,a₂,w₂,hq₂,harr₂⟩:=ih (μ j) (hm ▸ hlt) j rfl a₁ w₁ hw₁ ha₁ b k cs
        exact ⟨e₂,a₂,w₂,hq₂,.of_steps (Steps.trans harr (.one step_inLoop)) harr₂⟩
      | exit id=>exact ⟨_,a₁,w₁,hq,.pass (x:=.inLoop c) rfl (fun _ _=>.inl (by simp)) harr⟩
      | goto l=>exact ⟨_,a₁,w₁,hq,.pass (x:=.inLoop c) rfl (fun _ _=>.inl (by simp)) harr⟩
      | ret=>exact ⟨_,a₁,w₁,hq,.pass (x:=.inLoop c) rfl (fun _ _=>.inl (by simp)) harr⟩
      | panic ch=>exact ⟨_,a₁,w₁,hq,.pass (x:=.inLoop c) rfl (fun _ _=>.inl (by simp)) harr⟩
      | outgrown=>exact ⟨_,a₁,w₁,hq,.pass (x:=.inLoop c) rfl (fun _ _=>.inl (by simp)) harr⟩
  intro b k cs
  obtain ⟨e,a',w',hq,harr⟩:=key _ i rfl a W hi ha' b k cs
  exact ⟨e,a',w',hq,.of_steps (.one step_loop) harr⟩
theorem FE.again {ι : Type} {Ei : ι→Env} {Ci : ι→World→Prop} {μ : ι→Nat} {i : ι} (j : ι) (hj : Ci j W) (hμ : μ j<μ i) (hE : aj E (Ei j)) :
    FE n W (Exit.then (fun a' w'=>∃ j,Ci j w'∧μ j<μ i∧an n (Ei j) a') Q) .normal E:=⟨fun _ ha=>⟨j,hj,hμ,ha.sub hE⟩⟩
theorem FE.pO {fn : Func} {R : Ending→World→Prop} (hr : fn.results=#[]) (hR : R (.returned (.tuple #[])) W) : FE n W (bodyPost P fn R) .ret E:=⟨fun a ha=>⟨ha.defers,.tuple #[],by simp [results,hr],hR⟩⟩
theorem FE.nK {fn : Func} {R : Ending→World→Prop} (hr : fn.results=#[]) (hR : R (.returned (.tuple #[])) W) : FE n W (bodyPost P fn R) .normal E:=⟨fun a ha=>⟨ha.defers,.tuple #[],by simp [results,hr],hR⟩⟩
theorem nY {f : FuncId} {fn : Func} {c : Code} {vs : List Value} {R : Ending→World→Prop} (hf : P.funcs[f]?=some fn) (hb : fn.body=some c) (hn : fn.ntmps=n) (hl : Nat.ble vs.length n=true)
    (h : FC P n W (bodyPost P fn R) c (enum 0 vs)) : Calls P f vs.toArray W R:=by
  refine calls_of_wp hf hb (h.go _ ?_)
  rw [hn]
  exact an.enter vs (by simpa using hl)
end
end Sl
end
section
namespace Sl
variable {Y : Type}
structure aF (Y : Type) where
  E0 : Env
  N : Nat
  v : Nat→Y→Value
  M : Nat→Y→List ah
  need : Nat→List (Nat × Nat)
  cY : Nat→List Nat
  fQ : Nat→List Nat
  src : Nat→Option Nat
  E1 : Nat→Env
  R : Nat→Y→Y→Prop
def aF.nQ (g : aF Y) (l : List Oper) (i : Nat) : Bool:=
  (g.E1 i).all fun p=>(List.range l.length).all fun k=>aX l k != some p.1 || (k != i && aL l k i)
def aF.dD (g : aF Y) (l : List Oper) (i : Nat) (o : Oper) : Bool:=
  (((g.need i).all (fun p=>behind o p.1 && aX l p.1 == some p.2) && jk o (g.src i)) && g.nQ l i) &&
  ((g.cY i).all (fun j=>decide (j<g.N) && (decide (l.length≤j) || behind o j)) &&
  ((g.fQ i).all (fun j=>(g.cY i).contains j) &&
  ((List.range l.length).all (fun k=>k == i || (g.fQ k).all fun j=>!(g.cY i).contains j || aL l k i) &&
  (cZ (g.cY i) && (o.after.toList.all (fun e=>!Region.binds .any e || decide (e.on<i)) && dB l g.E0 i o.dst)))))
def aF.bB (g : aF Y) (l : List Oper) : Nat→List Oper→Bool
  | _,[]=>true
  | i,o::r=>g.dD l i o && g.bB l (i+1) r
theorem aF.aP {g : aF Y} {l : List Oper} : ∀ {r : List Oper} {i : Nat},g.bB l i r=true→∀ {j o},r[j]?=some o→g.dD l (i+j) o=true
  | [],_,_,j,o,h=>by simp at h
  | q::r,i,hk,j,o,h=>by
    simp only [aF.bB,Bool.and_eq_true] at hk
    cases j with
    | zero=>
      simp only [List.getElem?_cons_zero,Option.some.injEq] at h
      subst h
      exact hk.1
    | succ j=>
      have:=aF.aP hk.2 (j:=j) (o:=o) (by simpa using h)
      rwa [show i+1+j=i+(j+1) by omega] at this
def aF.oy (g : aF Y) (P : Program) (n : Nat) (w0 : World) (S : List Nat) (l : List Oper) (i : Nat) (o : Oper) : Prop:=
  ∀ (x : Nat→Y) (EF : Env) (MF : List ah) (Q : Exit→Act→World→Prop),
    (∀ xi : Y,(∀ k,g.src i=some k→g.R i xi (x k))→JE n w0 S Q .normal (slot o.dst (g.v i xi)++((g.need i).map (fun p=>(p.2,g.v p.1 (x p.1)))++(g.E0++(g.E1 i++EF)))) (g.M i xi++(((g.cY i).filter fun j=>!(g.fQ i).contains j).flatMap (fun j=>g.M j (x j))++MF)))→
    JL P n w0 S l.toArray Q [o] ((g.need i).map (fun p=>(p.2,g.v p.1 (x p.1)))++(g.E0++(g.E1 i++EF))) ((g.cY i).flatMap (fun j=>g.M j (x j))++MF)
def aF.eL (g : aF Y) (P : Program) (n : Nat) (w0 : World) (S : List Nat) (l : List Oper) : Nat→List Oper→Prop
  | _,[]=>True
  | i,o::r=>g.oy P n w0 S l i o∧g.eL P n w0 S l (i+1) r
theorem aF.c4 {g : aF Y} {P : Program} {n : Nat} {w0 : World} {S : List Nat} {l : List Oper} : ∀ {r : List Oper} {i : Nat},g.eL P n w0 S l i r→∀ {j o},r[j]?=some o→g.oy P n w0 S l (i+j) o
  | [],_,_,j,o,h=>by simp at h
  | q::r,i,hk,j,o,h=>by
    cases j with
    | zero=>
      simp only [List.getElem?_cons_zero,Option.some.injEq] at h
      subst h
      exact hk.1
    | succ j=>
      have:=aF.c4 hk.2 (j:=j) (o:=o) (by simpa using h)
      rwa [show i+1+j=i+(j+1) by omega] at this
def aF.live (g : aF Y) (m : Nat) (done : Array Bool) (j : Nat) : Prop:=j<g.N∧(m≤j∨done.getD j false=true)∧∀ k,done.getD k false=true→j ∉ g.fQ k
structure aF.Inv (g : aF Y) (n : Nat) (w0 : World) (S : List Nat) (l : List Oper) (done : Array Bool) (x : Nat→Y) (a : Act) (w : World) : Prop where
  size : a.tmps.size=n
  defers : a.defers=[]
  eM : done.size=l.length
  base : ∀ p ∈ g.E0,a.tmps.getD p.1 undef=p.2
  first : ∀ j,j<l.length→done.getD j false=false→∀ p ∈ g.E1 j,a.tmps.getD p.1 undef=p.2
  vals : ∀ j d,done.getD j false=true→aX l j=some d→a.tmps.getD d undef=g.v j (x j)
  rel : ∀ j k,done.getD j false=true→g.src j=some k→g.R j (x j) (x k)
  down : ∀ j i,done.getD j false=true→aL l j i=true→done.getD i false=true
  mem : bV w0 S (g.live l.length done) (fun j=>g.M j (x j)) w
section
variable {P : Program} {n : Nat} {w0 : World} {S : List Nat} {Q : Exit→Act→World→Prop} {E : Env} {M : List ah} {g : aF Y} {l : List Oper}
theorem aF.run (hok : g.bB l 0 l=true) (hj : g.eL P n w0 S l 0 l)
    (hend : ∀ done x a w,g.Inv n w0 S l done x a w→(∀ j,j<l.length→done.getD j false=true)→Q .normal a w) :
    ∀ (f : Nat) (done : Array Bool) (x : Nat→Y) (a : Act) (w : World),f=(List.range l.length).countP (fun j=>!done.getD j false)→g.Inv n w0 S l done x a w→wpAny P .any l.toArray Q f done a w:=by
  have hrdy : ∀ done : Array Bool,done.size=l.length→Region.ready .any l.toArray done=[]→∀ j,j<l.length→done.getD j false=true:=by
    intro done hds hr j
    induction j using Nat.strongRecOn with
    | _ j ih=>
      intro hjl
      cases hd : done.getD j false with
      | true=>rfl
      | false=>
        obtain ⟨o,ho⟩ : ∃ o,l[j]?=some o:=⟨_,List.getElem?_eq_getElem hjl⟩
        have hk:=aF.aP hok ho
        simp only [aF.dD,Bool.and_eq_true,Nat.zero_add] at hk
        have hkk:=hk.2.2.2.2.2.1
        have : j ∈ Region.ready .any l.toArray done:=by
          rw [mem_ready]
          refine ⟨?_,o,by simpa using ho,fun e he hb=>?_⟩
          · rw [Array.getD_eq_getD_getElem?,Array.getElem?_eq_getElem (by omega)] at hd ⊢
            simpa using hd
          · have:=List.all_eq_true.1 hkk e (by simpa using he)
            simp only [hb,Bool.not_true,Bool.false_or,decide_eq_true_eq] at this
            exact ih e.on this (by omega)
        rw [hr] at this
        cases this
  intro f
  induction f with
  | zero=>
    intro done x a w hf hI
    have hall : ∀ j,j<l.length→done.getD j false=true:=fun j hjl=>by
      have:=List.countP_eq_zero.1 hf.symm j (List.mem_range.2 hjl)
      simpa using this
    refine ⟨?_,hend done x a w hI hall⟩
    refine List.eq_nil_iff_forall_not_mem.2 fun i hi=>?_
    obtain ⟨hu,o,ho,_⟩:=mem_ready.1 hi
    have hil : i<l.length:=by
      have:=(Array.getElem?_eq_some_iff.1 ho).1
      simpa using this
    have:=hall i hil
    rw [Array.getD_eq_getD_getElem?,Array.getElem?_eq_getElem (by have:=hI.eM;omega)] at hu this
    simp only [Option.getD_some] at hu this
    rw [hu] at this
    cases this
  | succ f ih=>
    intro done x a w hf hI
    have hds:=hI.eM
    refine ⟨fun h0=>hend done x a w hI (hrdy done hds h0),fun i hi=>?_⟩
    obtain ⟨hu,o,ho,hbe⟩:=mem_ready.1 hi
    have hil : i<l.length:=by
      have:=(Array.getElem?_eq_some_iff.1 ho).1
      simpa using this
    have ho' : l[i]?=some o:=by simpa using ho
    have hu' : done.getD i false=false:=by
      rw [Array.getD_eq_getD_getElem?,Array.getElem?_eq_getElem (by omega)] at hu ⊢
      simpa using hu
    have hk:=aF.aP hok ho'
    simp only [aF.dD,Bool.and_eq_true,Nat.zero_add] at hk
    obtain ⟨⟨⟨k1,k8⟩,k9⟩,k2,k3,k4,k5,_,k7⟩:=hk
    have hbeh : ∀ j,behind o j=true→done.getD j false=true:=fun j hj=>by
      simp only [behind,List.any_eq_true,Bool.and_eq_true,beq_iff_eq] at hj
      obtain ⟨e,he,rfl,hb⟩:=hj
      exact hbe e (by simpa using he) hb
    have hbi : ∀ k,aL l k i=true→done.getD k false=false:=fun k hk=>by
      cases h : done.getD k false with
      | false=>rfl
      | true=>have:=hI.down k i h hk;rw [hu'] at this;cases this
    have hinp : ∀ j ∈ g.cY i,g.live l.length done j:=by
      intro j hj
      have h2:=List.all_eq_true.1 k2 j hj
      simp only [Bool.and_eq_true,Bool.or_eq_true,decide_eq_true_eq] at h2
      refine ⟨h2.1,h2.2.imp id (hbeh j),fun k hkd hjk=>?_⟩
      have hkl : k<l.length:=by
        by_cases h : k<l.length
        · exact h
        · rw [Array.getD_eq_getD_getElem?,Array.getElem?_eq_none (by omega)] at hkd
          cases hkd
      have h4:=List.all_eq_true.1 k4 k (List.mem_range.2 hkl)
      have hki : k≠i:=fun e=>by rw [e,hu'] at hkd;cases hkd
      simp only [Bool.or_eq_true,beq_iff_eq,hki,false_or] at h4
      have h5:=List.all_eq_true.1 h4 j hjk
      simp only [Bool.or_eq_true,Bool.not_eq_true',List.contains_eq_mem,decide_eq_false_iff_not,hj,not_true,false_or] at h5
      rw [hbi k h5] at hkd
      cases hkd
    have hdone_ne : ∀ j,done.getD j false=true→j≠i:=fun j hj e=>by rw [e,hu'] at hj;cases hj
    have hlen : ∀ k,done.getD k false=true→k<l.length:=fun k hkd=>by
      by_cases h : k<l.length
      · exact h
      · rw [Array.getD_eq_getD_getElem?,Array.getElem?_eq_none (by omega)] at hkd
        cases hkd
    have hdi : aX l i=o.dst:=by simp [aX,ho']
    have hne : ∀ j d,done.getD j false=true→aX l j=some d→o.dst≠some d:=by
      intro j d hjd hd he
      rw [he] at k7
      simp only [dB,Bool.and_eq_true] at k7
      have:=List.all_eq_true.1 k7.1 j (List.mem_range.2 (hlen j hjd))
      simp [hdone_ne j hjd,hd] at this
    have hne0 : ∀ p ∈ g.E0,o.dst≠some p.1:=by
      intro p hp he
      rw [he] at k7
      simp only [dB,Bool.and_eq_true] at k7
      have:=List.all_eq_true.1 k7.2 p hp
      simp at this
    let rest : List Nat:=(List.range g.N).filter fun j=>@decide (g.live l.length done j) (Classical.propDecidable _) && !(g.cY i).contains j
    have hrest : ∀ j,j ∈ rest↔g.live l.length done j∧j ∉ g.cY i:=by
      intro j
      simp only [rest,List.mem_filter,List.mem_range,Bool.and_eq_true,Bool.not_eq_true',List.contains_eq_mem,decide_eq_false_iff_not]
      refine ⟨fun ⟨_,h2,h3⟩=>⟨@of_decide_eq_true _ (Classical.propDecidable _) h2,h3⟩,fun ⟨h2,h3⟩=>⟨h2.1,@decide_eq_true _ (Classical.propDecidable _) h2,h3⟩⟩
    have hnd : (g.cY i++rest).Nodup:=by
      rw [List.nodup_append]
      refine ⟨ck k5,List.nodup_range.filter _,fun a ha b hb e=>?_⟩
      exact ((hrest b).1 hb).2 (e ▸ ha)
    have H1:=hI.mem.to (g.cY i++rest) hnd (fun j hj=>by
      rcases List.mem_append.1 hj with h | h
      · exact hinp j h
      · exact ((hrest j).1 h).1)
    rw [List.flatMap_append] at H1
    let EF0 : Env:=(List.range l.length).filterMap fun j=>if done.getD j false=true then (aX l j).map (fun d=>(d,g.v j (x j))) else none
    let EF1 : Env:=(List.range l.length).flatMap fun j=>if done.getD j false=true then [] else g.E1 j
    let EF : Env:=EF0++EF1
    have hEF : ∀ p,p ∈ EF0↔∃ j d,done.getD j false=true∧aX l j=some d∧p=(d,g.v j (x j)):=by
      intro p
      simp only [EF0,List.mem_filterMap,List.mem_range]
      constructor
      · rintro ⟨j,_,hp⟩
        split at hp
        · rename_i hjd
          obtain ⟨d,hd,rfl⟩:=Option.map_eq_some_iff.1 hp
          exact ⟨j,d,hjd,hd,rfl⟩
        · cases hp
      · rintro ⟨j,d,hjd,hd,rfl⟩
        exact ⟨j,hlen j hjd,by rw [if_pos hjd,hd];rfl⟩
    have hEF1 : ∀ j,j<l.length→done.getD j false=false→∀ p ∈ g.E1 j,p ∈ EF1:=by
      intro j hjl hjd p hp
      simp only [EF1,List.mem_flatMap,List.mem_range]
      exact ⟨j,hjl,by rw [if_neg (by rw [hjd];decide)];exact hp⟩
    have hne1 : ∀ j,j<l.length→done.getD j false=false→∀ p ∈ g.E1 j,o.dst≠some p.1:=by
      intro j hjl hjd p hp he
      have hjo : l[j]?=some (l[j]'hjl):=List.getElem?_eq_getElem hjl
      have hkj:=aF.aP hok hjo
      simp only [aF.dD,Bool.and_eq_true,Nat.zero_add] at hkj
      have h9:=List.all_eq_true.1 hkj.1.2 p hp
      have h10:=List.all_eq_true.1 h9 i (List.mem_range.2 hil)
      simp only [hdi,he,bne_self_eq_false,Bool.false_or,Bool.and_eq_true] at h10
      have h11 : behind o j=true:=by simpa [aL,ho'] using h10.2
      rw [hbeh j h11] at hjd
      cases hjd
    have hneed : ∀ p ∈ g.need i,done.getD p.1 false=true∧aX l p.1=some p.2:=by
      intro p hp
      have h1:=List.all_eq_true.1 k1 p hp
      simp only [Bool.and_eq_true,beq_iff_eq] at h1
      exact ⟨hbeh _ h1.1,h1.2⟩
    have hK : ∀ p ∈ ((g.need i).map (fun p=>(p.2,g.v p.1 (x p.1)))++(g.E0++(g.E1 i++EF))),a.tmps.getD p.1 undef=p.2∧o.dst≠some p.1:=by
      intro p hp
      rcases List.mem_append.1 hp with h | h
      · obtain ⟨q,hq,rfl⟩:=List.mem_map.1 h
        obtain ⟨h1,h2⟩:=hneed q hq
        exact ⟨hI.vals _ _ h1 h2,hne _ _ h1 h2⟩
      · rcases List.mem_append.1 h with h | h
        · exact ⟨hI.base p h,hne0 p h⟩
        · rcases List.mem_append.1 h with h | h
          · exact ⟨hI.first i hil hu' p h,hne1 i hil hu' p h⟩
          · rcases List.mem_append.1 h with h | h
            · obtain ⟨j,d,h1,h2,rfl⟩:=(hEF p).1 h
              exact ⟨hI.vals _ _ h1 h2,hne _ _ h1 h2⟩
            · simp only [EF1,List.mem_flatMap,List.mem_range] at h
              obtain ⟨j,hjl,h⟩:=h
              cases hjd : done.getD j false with
              | true=>rw [hjd] at h;simp at h
              | false=>
                rw [hjd] at h
                simp only [Bool.false_eq_true,if_false] at h
                exact ⟨hI.first j hjl hjd p h,hne1 j hjl hjd p h⟩
    have job:=aF.c4 hj ho'
    rw [Nat.zero_add] at job
    refine cj ho ((job x EF (rest.flatMap fun j=>g.M j (x j)) _ fun xi hxi=>⟨fun a' w' hK' hH'=>?_⟩).go a w (an.of hI.size hI.defers fun p hp=>(hK p hp).1) H1)
    have hd' : ∀ j,(done.setIfInBounds i true).getD j false=(decide (j=i) || done.getD j false):=fun j=>gC (by omega)
    refine ih _ (fun j=>if j=i then xi else x j) a' w' ?_ ?_
    · have:=eK (l:=List.range l.length) (p:=fun j=>!done.getD j false) (q:=fun j=>!(done.setIfInBounds i true).getD j false) (i:=i) List.nodup_range (List.mem_range.2 hil) (by simp only [hu'];rfl) (by simp only [hd'];simp) (fun j hj=>by simp only [hd'];simp [hj])
      omega
    · have hmem : ∀ p ∈ (slot o.dst (g.v i xi)++((g.need i).map (fun p=>(p.2,g.v p.1 (x p.1)))++(g.E0++(g.E1 i++EF)))),a'.tmps.getD p.1 undef=p.2:=by
        intro p hp
        refine hK'.mem (f:=fun t=>if o.dst=some t then g.v i xi else a.tmps.getD t undef) (fun q hq=>?_) hp
        rcases List.mem_append.1 hq with h | h
        · cases hod : o.dst with
          | none=>rw [hod] at h;cases h
          | some d=>
            rw [hod] at h
            simp only [slot,List.mem_singleton] at h
            subst h
            simp
        · have:=hK q h
          simp only [this.2,if_false]
          exact this.1
      refine ⟨hK'.size,hK'.defers,by simp [hds],fun p hp=>hmem p (by simp [hp]),fun j hjl hjd p hp=>?_,?_,?_,?_,?_⟩
      · rw [hd'] at hjd
        simp only [Bool.or_eq_false_iff] at hjd
        exact hmem p (List.mem_append_right _ (List.mem_append_right _ (List.mem_append_right _ (List.mem_append_right _ (List.mem_append_right _ (hEF1 j hjl hjd.2 p hp))))))
      · intro j d hjd hd
        by_cases e : j=i
        · subst e
          rw [hdi] at hd
          have:=hmem (d,g.v j xi) (by simp [hd,slot])
          simpa using this
        · rw [hd'] at hjd
          simp only [e,decide_false,Bool.false_or] at hjd
          have:=hmem (d,g.v j (x j)) (List.mem_append_right _ (List.mem_append_right _ (List.mem_append_right _ (List.mem_append_right _ (List.mem_append_left _ ((hEF _).2 ⟨j,d,hjd,hd,rfl⟩))))))
          simpa [e] using this
      · intro j k hjd hs
        rw [hd'] at hjd
        by_cases e : j=i
        · subst e
          rw [hs] at k8
          simp only [if_true,hdone_ne k (hbeh k k8),if_false]
          exact hxi k hs
        · simp only [e,decide_false,Bool.false_or] at hjd
          have hjo : l[j]?=some (l[j]'(hlen j hjd)):=List.getElem?_eq_getElem (hlen j hjd)
          have hkj:=aF.aP hok hjo
          simp only [aF.dD,Bool.and_eq_true,Nat.zero_add] at hkj
          have h8:=hkj.1.1.2
          rw [hs] at h8
          have hkd:=hI.down j k hjd (by simpa [aL,hjo,jk] using h8)
          simp only [e,hdone_ne k hkd,if_false]
          exact hI.rel j k hjd hs
      · intro j i' hjd hb
        rw [hd'] at hjd ⊢
        by_cases e : j=i
        · subst e
          have : behind o i'=true:=by simpa [aL,ho'] using hb
          simp [hbeh i' this]
        · simp only [e,decide_false,Bool.false_or] at hjd
          simp [hI.down j i' hjd hb]
      · have hnl : ¬ g.live l.length done i:=fun h=>by
          rcases h.2.1 with h | h
          · omega
          · rw [hu'] at h;cases h
        have hcg : ∀ L : List Nat,(∀ j ∈ L,g.live l.length done j)→L.flatMap (fun j=>g.M j (if j=i then xi else x j))=L.flatMap fun j=>g.M j (x j):=by
          intro L
          induction L with
          | nil=>simp
          | cons j L ih=>
            intro h
            have hji : j≠i:=fun e=>hnl (e ▸ h j (by simp))
            simp only [List.flatMap_cons,hji,if_false,ih fun k hk=>h k (by simp [hk])]
        refine bV.of (Js:=i::(((g.cY i).filter fun j=>!(g.fQ i).contains j)++rest)) ?_ ?_
        · rw [List.flatMap_cons,List.flatMap_append,hcg _ (fun j hj=>hinp j (List.mem_filter.1 hj).1),hcg rest (fun j hj=>((hrest j).1 hj).1)]
          simpa using hH'
        · intro j hj
          by_cases e : j=i
          · simp [e]
          · have hl : g.live l.length done j:=by
              refine ⟨hj.1,hj.2.1.imp id (fun h=>?_),fun k hk=>hj.2.2 k (by rw [hd'];simp [hk])⟩
              rw [hd'] at h
              simpa [e] using h
            have hne : j ∉ g.fQ i:=hj.2.2 i (by rw [hd'];simp)
            by_cases hji : j ∈ g.cY i
            · simp [e,hji,hne]
            · have:=(hrest j).2 ⟨hl,hji⟩
              simp [e,this]
theorem fE [Inhabited Y] (g : aF Y) (outs : List (Nat × Nat)) (ends : List Nat) (hE : aj E g.E0) (hE1 : ∀ i,i<l.length→aj E (g.E1 i)) (hM : av (((List.range g.N).filter fun j=>decide (l.length≤j)).flatMap fun j=>g.M j default) M)
    (hok : g.bB l 0 l=true) (ho : (outs.all fun p=>decide (p.1<l.length) && aX l p.1 == some p.2)=true)
    (he : (cZ ends && ends.all fun j=>decide (j<g.N) && (List.range l.length).all fun k=>!(g.fQ k).contains j)=true)
    (hj : g.eL P n w0 S l 0 l)
    (k : ∀ x : Nat→Y,(∀ j k,j<l.length→g.src j=some k→g.R j (x j) (x k))→JE n w0 S Q .normal (outs.map (fun p=>(p.2,g.v p.1 (x p.1)))++g.E0) (ends.flatMap fun j=>g.M j (x j))) {a : Act} {w : World} (ha : an n E a) (hw : aa w0 S M w) : wpAny P .any l.toArray Q l.toArray.size (Array.replicate l.toArray.size false) a { w with drawn:=w.drawn+1 }:=by
    have hw':=(hw.drawn (w.drawn+1)).weak hM
    simp only [Bool.and_eq_true] at he
    refine aF.run hok hj (fun done x a w hI hall=>?_) _ _ (fun _=>default) a _ ?_ ?_
    · refine (k x fun j k hj hs=>hI.rel j k (hall j hj) hs).go a w (an.of hI.size hI.defers fun p hp=>?_) (hI.mem.to ends (ck he.1) fun j hj=>?_)
      · rcases List.mem_append.1 hp with h | h
        · obtain ⟨q,hq,rfl⟩:=List.mem_map.1 h
          have:=List.all_eq_true.1 ho q hq
          simp only [Bool.and_eq_true,decide_eq_true_eq,beq_iff_eq] at this
          exact hI.vals _ _ (hall _ this.1) this.2
        · exact hI.base p h
      · have:=List.all_eq_true.1 he.2 j hj
        simp only [Bool.and_eq_true,decide_eq_true_eq] at this
        refine ⟨this.1,?_,fun k hk hjk=>?_⟩
        · by_cases h : l.length≤j
          · exact .inl h
          · exact .inr (hall j (by omega))
        · have hkl : k<l.length:=by
            by_cases h : k<l.length
            · exact h
            · have:=hI.eM
              rw [Array.getD_eq_getD_getElem?,Array.getElem?_eq_none (by omega)] at hk
              cases hk
          have:=List.all_eq_true.1 this.2 k (List.mem_range.2 hkl)
          simp [hjk] at this
    · have : ∀ j,(Array.replicate l.toArray.size false).getD j false=false:=fun j=>by
        simp only [Array.getD_eq_getD_getElem?,Array.getElem?_replicate]
        split <;> rfl
      rw [List.countP_eq_length.2 (fun j _=>by simp only [this];rfl)]
      simp
    · have hf : ∀ j,(Array.replicate l.toArray.size false).getD j false=false:=fun j=>by
        simp only [Array.getD_eq_getD_getElem?,Array.getElem?_replicate]
        split <;> rfl
      refine ⟨ha.size,ha.defers,by simp,fun p hp=>ha.all _ _ (hE.all p hp),fun j hj _ p hp=>ha.all _ _ ((hE1 j hj).all p hp),fun j d h=>?_,fun j k h=>?_,fun j i h=>?_,?_⟩
      · rw [hf] at h;cases h
      · rw [hf] at h;cases h
      · rw [hf] at h;cases h
      · refine bV.of hw' fun j hj=>?_
        rw [List.mem_filter]
        refine ⟨List.mem_range.2 hj.1,?_⟩
        rcases hj.2.1 with h | h
        · simpa using h
        · rw [hf] at h;cases h
theorem JC.gK [Inhabited Y] (g : aF Y) (outs : List (Nat × Nat)) (ends : List Nat) {id : Nat} (hm : P.follows .mixedOrders=true) (hE : aj E g.E0) (hE1 : ∀ i,i<l.length→aj E (g.E1 i)) (hM : av (((List.range g.N).filter fun j=>decide (l.length≤j)).flatMap fun j=>g.M j default) M)
    (hok : g.bB l 0 l=true) (ho : (outs.all fun p=>decide (p.1<l.length) && aX l p.1 == some p.2)=true)
    (he : (cZ ends && ends.all fun j=>decide (j<g.N) && (List.range l.length).all fun k=>!(g.fQ k).contains j)=true)
    (hj : g.eL P n w0 S l 0 l)
    (k : ∀ x : Nat→Y,(∀ j k,j<l.length→g.src j=some k→g.R j (x j) (x k))→JE n w0 S Q .normal (outs.map (fun p=>(p.2,g.v p.1 (x p.1)))++g.E0) (ends.flatMap fun j=>g.M j (x j))) : JC P n w0 S Q (.region id l.toArray true) E M:=
  ⟨fun a w ha hw=>wp_region_any hm (fE g outs ends hE hE1 hM hok ho he hj k ha hw)⟩
end
end Sl
end
section
namespace Sl
section
variable {P : Program} {m l : Nat}
theorem eV {ops : Array Oper} {Q : Exit→Act→World→Prop} {i : Nat} {K K' : Act→World→Prop} {a : Act} {w : World} (hd : ops.toList.all bD=true) (hQ : ¬ LetsOut Q) (hK : ∀ a w,K a w→K' a w) (h : wpOp P ops Q i K a w) : wpOpIn (Rd l) m P ops Q i K' a w:=by
  unfold wpOp at h
  unfold wpOpIn
  cases ho : ops[i]? with
  | none=>rw [ho] at h;exact hK _ _ h
  | some o=>
    rw [ho] at h
    have hno : bD o=true:=List.all_eq_true.1 hd o (by
      have:=Array.mem_of_getElem? ho
      exact Array.mem_toList_iff.2 this)
    dsimp only at h ⊢
    by_cases hw : Region.wanted o (yielded ops a.tmps)=true
    · rw [if_pos hw] at h ⊢
      rcases h with h | h
      · exact eU hno hQ hK h
      · exact absurd h.2 hQ
    · rw [if_neg hw] at h ⊢
      exact ⟨fun _ _=>trivial,hK _ _ h⟩
theorem bZ {md : Region.Mode} {ops : Array Oper} {Q : Exit→Act→World→Prop} (hd : ops.toList.all bD=true) (hQ : ¬ LetsOut Q) : ∀ (fuel : Nat) (listed : Array Bool) (a : Act) (w : World),wpAny P md ops Q fuel listed a w→wpAnyIn (Rd l) m P md ops Q fuel listed a w
  | 0,_,_,_,h=>h
  | fuel+1,listed,a,w,h=>⟨h.1,fun i hi=>eV hd hQ (fun a w=>bZ hd hQ fuel _ a w) (h.2 i hi)⟩
end
section
variable {P : Program} {n : Nat} {w0 : World} {S : List Nat} {Q Q' : Exit→Act→World→Prop} {E : Env} {M : List ah} {m r : Nat}
theorem JR.gK {Y : Type} {l : List Oper} [Inhabited Y] (g : aF Y) (outs : List (Nat × Nat)) (ends : List Nat) {id : Nat} (hd : l.all bD=true) (hQ : ¬ LetsOut Q) (hm : P.follows .mixedOrders=true) (hE : aj E g.E0) (hE1 : ∀ i,i<l.length→aj E (g.E1 i)) (hM : av (((List.range g.N).filter fun j=>decide (l.length≤j)).flatMap fun j=>g.M j default) M)
    (hok : g.bB l 0 l=true) (ho : (outs.all fun p=>decide (p.1<l.length) && aX l p.1 == some p.2)=true)
    (he : (cZ ends && ends.all fun j=>decide (j<g.N) && (List.range l.length).all fun k=>!(g.fQ k).contains j)=true)
    (hj : g.eL P n w0 S l 0 l)
    (k : ∀ x : Nat→Y,(∀ j k,j<l.length→g.src j=some k→g.R j (x j) (x k))→JE n w0 S Q .normal (outs.map (fun p=>(p.2,g.v p.1 (x p.1)))++g.E0) (ends.flatMap fun j=>g.M j (x j))) : JR P n w0 S r m Q (.region id l.toArray true) E M:=
  ⟨fun a w ha hw=>wpIn_region_any hm (bZ (by simpa using hd) hQ _ _ _ _ (fE g outs ends hE hE1 hM hok ho he hj k ha hw))⟩
theorem JR.cond {c : Operand} {x y : Code} {t : Bool} (hc : ev E c=some (.bool t)) (ht : t=true→JR P n w0 S r m Q x E M) (hf : t=false→JR P n w0 S r m Q y E M) : JR P n w0 S r m Q (.cond c x y) E M:=
  ⟨fun a w ha hw=>wpIn_cond_split (ha.eval hc) (fun h=>(ht h).go a w ha hw) (fun h=>(hf h).go a w ha hw)⟩
theorem JR.skip (h : JE n w0 S Q .normal E M) : JR P n w0 S r m Q .skip E M:=⟨fun a w ha hw=>wpIn_skip (h.go a w ha hw)⟩
theorem JR.ret (h : JE n w0 S Q .ret E M) : JR P n w0 S r m Q .ret E M:=⟨fun a w ha hw=>wpIn_ret (h.go a w ha hw)⟩
theorem JR.less {c : Code} {M' : List ah} (hM : av M' M) (h : JR P n w0 S r m Q c E M') : JR P n w0 S r m Q c E M:=⟨fun a w ha hw=>h.go a w ha (hw.weak hM)⟩
end
section
variable {P : Program} {D n : Nat} {w0 : World} {S : List Nat} {ops : Array Oper} {Q Q' : Exit→Act→World→Prop} {os : List Oper} {E : Env} {M : List ah} {d : Nat} {op : Op} {ty : TypeId} {pos : String} {aft : Array Edge} {v : Value}
theorem KL.bf {M' : List ah} {r r' : List Value} {e t : TypeId} {x y : Operand} {b j : Nat} (hz : bX P t=some 1) (hx : ev E x=some (.pointer (some ⟨b,j,none⟩))) (hy : ev E y=some v) (hv : v.oneCell'=true) (hcl : v.cells=#[v]) (hu : eE M b (Row e r) (Row e r') M') (hj : j<r.length) (he : r.set j v=r')
    (k : KL P D n w0 S ops Q os E M') : KL P D n w0 S ops Q (⟨none,.store t x y,ty,pos,aft,none⟩::os) E M:=
  ⟨fun a w ha hw=>wpList_plain rfl fun K hK=>by
    obtain ⟨o,ho,hAo⟩:=hw.get hu.has
    cases hAo
    have hA' : Row e r' (.cells (r.toArray.setIfInBounds j v) e (0,0)):=by simp [Row,he]
    have hs : (storeCells ⟨b,j,none⟩ [v] 0).run P w=.ok () (w.setCell ⟨b,j,none⟩ v):=by
      simp only [storeCells,Sem.run_bind,aO,Nat.add_zero]
      rw [cD hv ho (by simpa using hj)];rfl
    have h1 : (execOp a.eval ⟨none,.store t x y,ty,pos,aft,none⟩).run P w=.ok .skip (w.setCell ⟨b,j,none⟩ v):=by
      simp [execOp,ha.eval hx,ha.eval hy,Instr.storeAt,Instr.sureAddr,Sem.run_bind,storeVar,ax hz,hcl,hs]
    unfold Oper.wp
    rw [h1]
    exact hK _ _ (k.go _ _ ⟨ha.defers,ha.base⟩ (hw.write hu hA' (bJ ho) br (fun _ h=>bC h) rfl rfl rfl))⟩
theorem KE.aU {id : Nat} (h : KE D n w0 S Q .ret E M) : KE D n w0 S (Exit.inBlock id Q) .ret E M:=⟨h.go⟩
theorem KE.nu {m : Nat} {fn : Func} {R : Ending→World→Prop} {r1 r2 : ResultVar} {v1 v2 : Value} (hr : fn.results=#[r1,r2]) (h1 : RV P n w0 S E M r1 v1) (h2 : RV P n w0 S E M r2 v2) (hR : ∀ w,aa w0 S M w→R (.returned (.tuple #[v1,v2])) w) : KE D n w0 S (bodyPostM Fence.wide m P fn R) .ret E (⟨D,fV,true⟩::M):=by
  refine ⟨fun a w ha hw=>dW (v:=.tuple #[v1,v2]) ha hw (fun w' hw'=>?_) hR⟩
  have e1:=h1 _ w' ha.base hw'
  have e2:=h2 _ w' ha.base hw'
  dsimp only at e1 e2
  rw [bL,hr]
  simp [e1,e2,Sem.run_bind]
end
def cM {ι κ : Type} (Mi : ι→List ah) (Inv : Nat→ι→Prop) (Mx : κ→List ah) (Fin : κ→Prop) (k : Nat) (w1 : World) (S1 : List Nat) : Exit→Act→World→Prop
  | .normal,_,W'=>∃ j,Inv (k+1) j∧aa w1 S1 (Mi j) W'
  | .ret,_,W'=>∃ x,Fin x∧aa w1 S1 (Mx x) W'
  | _,_,_=>False
theorem af {ι κ : Type} {Mi : ι→List ah} {Inv : Nat→ι→Prop} {Mx : κ→List ah} {Fin : κ→Prop} {k : Nat} {w1 : World} {S1 : List Nat} : ¬ LetsOut (cM Mi Inv Mx Fin k w1 S1):=fun ⟨_,_,h⟩=>h
section
variable {ι κ : Type} {Mi : ι→List ah} {Inv : Nat→ι→Prop} {Mx : κ→List ah} {Fin : κ→Prop} {k n : Nat} {w1 : World} {S1 : List Nat} {E : Env} {M : List ah}
theorem JE.kZ (j : ι) (hj : Inv (k+1) j) (hM : av (Mi j) M) : JE n w1 S1 (cM Mi Inv Mx Fin k w1 S1) .normal E M:=⟨fun _ _ _ hw=>⟨j,hj,hw.weak hM⟩⟩
theorem JE.cM (x : κ) (hx : Fin x) (hM : av (Mx x) M) : JE n w1 S1 (cM Mi Inv Mx Fin k w1 S1) .ret E M:=⟨fun _ _ _ hw=>⟨x,hx,hw.weak hM⟩⟩
end
theorem jo (a : Act) (p1 p2 : Nat) (v1 v2 : Value) (hd : a.defers=[]) : ({ tmps:=(#[p1,p2].zip #[v1,v2]).foldl (fun t (x : Nat × Value)=>t.setIfInBounds x.1 x.2) a.tmps,defers:=[] } : Act)=(a.put (some p1) v1).put (some p2) v2:=by
  obtain ⟨tm,df⟩:=a
  simp only at hd
  subst hd
  simp [Act.put]
theorem aa.mark {w0 W : World} {M : List ah} {D : Nat} (h : aa w0 [] M W) (hc : ∀ e ∈ M,∀ o,e.A o→o.isCells=true) (hD : w0.heap.size≤D) (hk : W.heap[D]?=some (.deferred (some []))) : aa w0 [] (⟨D,fV,true⟩::M) W:=by
  refine ⟨h.aq,?_,fun e he=>?_⟩
  · simp only [List.map_cons,List.nodup_cons,h.nodup,and_true]
    intro hm
    obtain ⟨e,he,hb⟩:=List.mem_map.1 hm
    obtain ⟨o,ho,hA⟩:=(h.all e he).1
    rw [hb,hk] at ho
    cases ho
    have:=hc e he _ hA
    cases this
  · rcases List.mem_cons.1 he with rfl | he
    · exact ⟨⟨_,hk,rfl⟩,fun _=>.inr hD⟩
    · exact h.all e he
theorem fo {P : Program} {n l m : Nat} {Q : Exit→Act→World→Prop} {E : Env} {a : Act} {W : World} {id p d : Nat} {ty : TypeId} {pos : String} {v : Value} (hx : lk E p=some v) (ha : an n E a) (hK : Q .normal (a.put (some d) v) W) :
    (Code.region id #[⟨some d,.assign (.tmp p),ty,pos,#[],none⟩] false).wpIn (Rd l) m P Q a W:=by
  refine wpIn_region_lit (wpListIn_plain rfl fun K' hK'=>⟨fun _ _=>trivial,?_⟩)
  have he : a.eval (.tmp p)=v:=ha.eval (x:=.tmp p) hx
  have hs : Oper.semAt (Rd l).round a.eval ⟨some d,.assign (.tmp p),ty,pos,#[],none⟩=.pure (.value v):=by
    refine (Oper.semAt_some l _ _ ?_).trans ?_
    · intro c h;cases h
    show Sem.pure (Next.value (_ : Value))=_
    exact congrArg (fun v=>Sem.pure (Next.value v)) he
  show Oper.uponIn _ _ _ _ _ _ _ ((Oper.semAt (Rd l).round _ _).run P W)
  rw [hs]
  exact hK' _ _ (wpListIn_nil hK)
end Sl
end
section
set_option maxRecDepth 10000
open Go.RowKit
namespace Sl
theorem aa.de {w0 w w' : World} {S : List Nat} {M M' : List ah} (h : aa w0 S M w) (h' : aa w (eS M) M' w') : aa w0 S M' w':=by
  have hs : ∀ k ∈ eS M,k ∈ S∨w0.heap.size≤k:=fun k hk=>by
    obtain ⟨e,he,hw,rfl⟩:=cm.1 hk
    exact (h.all e he).2 hw
  refine ⟨⟨h'.aq.os.trans h.aq.os,h'.aq.tape.trans h.aq.tape,h'.aq.output.trans h.aq.output,Nat.le_trans h.aq.size h'.aq.size,fun k hk hS=>?_⟩,h'.nodup,fun e he=>⟨(h'.all e he).1,fun hw=>?_⟩⟩
  · refine (h'.aq.block k (Nat.lt_of_lt_of_le hk h.aq.size) fun hm=>?_).trans (h.aq.block k hk hS)
    rcases hs k hm with h | h
    · exact hS h
    · omega
  · rcases (h'.all e he).2 hw with hk | hk
    · exact hs _ hk
    · exact .inr (Nat.le_trans h.aq.size hk)
theorem aa.cN {w0 W W' : World} {S : List Nat} {M : List ah} {row : Option Nat} (h : aa w0 S M W) (hc : ∀ e ∈ M,∀ o,e.A o→o.isCells=true) (hg : W.grownBy W' row) (hr : ∀ k,row=some k→w0.heap.size≤k∧∃ o : Obj,W.heap[k]?=some o∧o.isCells=false) : aa w0 S M W':=by
  refine ⟨⟨hg.os.trans h.aq.os,hg.tape.trans h.aq.tape,hg.output.trans h.aq.output,Nat.le_trans h.aq.size hg.size,fun k hk hS=>?_⟩,h.nodup,fun e he=>⟨?_,(h.all e he).2⟩⟩
  · exact (hg.block k (Nat.lt_of_lt_of_le hk h.aq.size) (fun e=>by have:=(hr k e.symm).1;omega)).trans (h.aq.block k hk hS)
  · obtain ⟨o,ho,hA⟩:=(h.all e he).1
    refine ⟨o,(hg.block e.b (h.lt he) fun e'=>?_).trans ho,hA⟩
    obtain ⟨_,o2,ho2,hn⟩:=hr _ e'.symm
    rw [ho] at ho2
    cases ho2
    rw [hc e he o hA] at hn
    cases hn
theorem aa.nv {w0 W : World} {S : List Nat} {M : List ah} {D : Nat} (h : aa w0 S M W) (hc : ∀ e ∈ M,∀ o,e.A o→o.isCells=true) (hD : w0.heap.size≤D) (hk : W.heap[D]?=some (.deferred (some []))) : aa w0 S (⟨D,fV,true⟩::M) W:=by
  refine ⟨h.aq,?_,fun e he=>?_⟩
  · simp only [List.map_cons,List.nodup_cons,h.nodup,and_true]
    intro hm
    obtain ⟨e,he,hb⟩:=List.mem_map.1 hm
    obtain ⟨o,ho,hA⟩:=(h.all e he).1
    rw [hb,hk] at ho
    cases ho
    have:=hc e he _ hA
    cases this
  · rcases List.mem_cons.1 he with rfl | he
    · exact ⟨⟨_,hk,rfl⟩,fun _=>.inr hD⟩
    · exact h.all e he
def nZ {ι : Type} (n : Nat) (I : ι→Prop) (Ei : ι→Env) (Mi : ι→List ah) (w1 : World) (S1 : List Nat) : Exit→Act→World→Prop
  | .normal,a,W'=>∃ i,I i∧an n (Ei i) a∧aa w1 S1 (Mi i) W'
  | _,_,_=>False
theorem eA {ι : Type} {n : Nat} {I : ι→Prop} {Ei : ι→Env} {Mi : ι→List ah} {w1 : World} {S1 : List Nat} : ¬ LetsOut (nZ n I Ei Mi w1 S1):=fun ⟨_,_,h⟩=>h
theorem JE.mg {ι : Type} {n : Nat} {I : ι→Prop} {Ei : ι→Env} {Mi : ι→List ah} {w1 : World} {S1 : List Nat} {E : Env} {M : List ah} (i : ι) (hi : I i) (hE : aj E (Ei i)) (hM : av (Mi i) M) : JE n w1 S1 (nZ n I Ei Mi w1 S1) .normal E M:=⟨fun _ _ ha hw=>⟨i,hi,ha.sub hE,hw.weak hM⟩⟩
end Sl
end
section
open Go.RowKit
namespace Sl
abbrev BP:=Nat→Prop
structure bz (O : BP) (W W' : World) : Prop where
  os : W'.os=W.os
  tape : W'.tape=W.tape
  output : W'.output=W.output
  size : W.heap.size≤W'.heap.size
  same : ∀ b,b<W.heap.size→¬ O b→W'.heap[b]?=W.heap[b]?
def grown (O : BP) (W W' : World) : BP:=fun b=>O b∨(W.heap.size≤b∧b<W'.heap.size)
structure bE (O : BP) (L : List Nat) (W W' : World) : Prop where
  size : W.heap.size≤W'.heap.size
  own : ∀ b,O b→W'.heap[b]?=W.heap[b]?
  same : ∀ b ∈ L,W'.heap[b]?=W.heap[b]?
theorem bz.refl (O : BP) (W : World) : bz O W W:=⟨rfl,rfl,rfl,Nat.le_refl _,fun _ _ _=>rfl⟩
theorem bz.dH {O : BP} {W W' : World} (h : Ext W W') : bz O W W':=⟨h.os,h.tape,h.output,h.size,fun b hb _=>h.block b hb (by simp)⟩
theorem bz.put {O : BP} {W : World} {b : Nat} (o : Obj) (h : O b) : bz O W (W.putObj b o):=
  ⟨rfl,rfl,rfl,by rw [World.putObj_size];exact Nat.le_refl _,fun k _ hk=>World.putObj_heap_other fun e=>hk (e ▸ h)⟩
def k6 (P : Program) (gf : Nat) (lb : Array Value) (enc : Nat→Array Value) (O0 : BP) (L : List Nat) (N : Nat) (W0 : World) : Prop:=
  ∀ (l : Nat) (J : Nat→BP→World→Prop) (X : BP→World→Prop) (W : World),(∀ b,b<W0.heap.size→W.heap[b]?=W0.heap[b]?)→
    (∀ k O W1 W2,J k O W1→bz O W1 W2→J k (grown O W1 W2) W2)→(∀ O W1 W2,X O W1→bz O W1 W2→X (grown O W1 W2) W2)→
    (∀ k O W1,J k O W1→∀ b,O b→b<W1.heap.size)→
    (∀ k O W1,k<N→J k O W1→YieldAt Fence.wide 1 P l (enc k) W1 fun e W'=>bE O L W1 W'∧((e=.returned (.bool true)∧J (k+1) O W')∨(e=.returned (.bool false)∧X O W')))→
    J 0 O0 W→CallsIn Fence.wide 2 P gf (#[.func (.yield l) #[] #[]]++lb) W fun e W'=>(∃ v,e=.returned v)∧∃ O,J N O W'∨X O W'
theorem gL {F : Fence} {n m : Nat} {P : Program} {l : Nat} {f : FuncId} {tmps : Array Value} {assign body : Code} {w : World} {R : Ending→World→Prop} (hr : ∀ k,F.room k)
    (h : RoundIn F n P l f tmps assign body w R) : RoundIn F m P l f tmps assign body w R:=⟨h.1,fun c cs _=>h.2 c cs (hr _)⟩
abbrev Rf (o : Option Nat) : Fence:={ Fence.wide with round:=o }
theorem b6 (o : Option Nat) (e : Operand→Value) (op : Oper) (h : bD op=true) : Oper.semAt (Rf o).round e op=execOp e op:=by
  cases o with
  | none=>rfl
  | some r=>
    refine Oper.semAt_some r _ _ fun c hc=>?_
    unfold bD at h
    rw [hc] at h
    cases h
section
variable {P : Program} {n m : Nat} {o : Option Nat} {W : World} {ops : Array Oper} {Q Q' : Exit→Act→World→Prop} {os : List Oper} {E E' : Env} {d : Nat} {op : Op} {ty : TypeId} {pos : String} {aft : Array Edge} {v : Value}
structure GL (P : Program) (n m : Nat) (o : Option Nat) (W : World) (ops : Array Oper) (Q : Exit→Act→World→Prop) (os : List Oper) (E : Env) : Prop where
  go : ∀ a,an n E a→wpListIn (Rf o) m P ops Q os a W
structure GC (P : Program) (n m : Nat) (o : Option Nat) (W : World) (Q : Exit→Act→World→Prop) (c : Code) (E : Env) : Prop where
  go : ∀ a,an n E a→c.wpIn (Rf o) m P Q a W
theorem GC.seq {x y : Code} (h : GC P n m o W (Exit.then (y.wpIn (Rf o) m P Q) Q) x E) : GC P n m o W Q (.seq x y) E:=⟨fun a ha=>wpIn_seq (h.go a ha)⟩
theorem GC.skip (h : FE n W Q .normal E) : GC P n m o W Q .skip E:=⟨fun a ha=>wpIn_skip (h.go a ha)⟩
theorem GC.ret (h : FE n W Q .ret E) : GC P n m o W Q .ret E:=⟨fun a ha=>wpIn_ret (h.go a ha)⟩
theorem GC.exit {id : Nat} (h : FE n W Q (.exit id) E) : GC P n m o W Q (.exit id) E:=⟨fun a ha=>wpIn_exit (h.go a ha)⟩
theorem GC.block {id : Nat} {c : Code} (h : GC P n m o W (Exit.inBlock id Q) c E) : GC P n m o W Q (.block id c) E:=⟨fun a ha=>wpIn_block (h.go a ha)⟩
theorem GC.cond {c : Operand} {x y : Code} {t : Bool} (hc : ev E c=some (.bool t)) (ht : t=true→GC P n m o W Q x E) (hf : t=false→GC P n m o W Q y E) : GC P n m o W Q (.cond c x y) E:=
  ⟨fun a ha=>wpIn_cond_split (ha.eval hc) (fun h=>(ht h).go a ha) (fun h=>(hf h).go a ha)⟩
theorem GC.region {id : Nat} {os : List Oper} (h : GL P n m o W os.toArray Q os E) : GC P n m o W Q (.region id os.toArray false) E:=⟨fun a ha=>wpIn_region_lit (h.go a ha)⟩
theorem GC.meet {E : Env} {x y : Code} (C : World→Prop) (Em : Env) (h : GC P n m o W (Exit.then (fun a w=>an n Em a∧C w) Q) x E) (k : ∀ w,C w→GC P n m o w Q' y Em) : GC P n m o W (Exit.then (y.wpIn (Rf o) m P Q') Q) x E:=
  ⟨fun a ha=>wpIn_mono (h.go a ha) fun e a' w' he=>by
    cases e with
    | normal=>obtain ⟨h1,h2⟩:=he;exact (k w' h2).go a' h1
    | exit _=>exact he
    | goto _=>exact he
    | ret=>exact he
    | panic _=>exact he
    | outgrown=>exact he⟩
theorem FE.oJ {C : World→Prop} {Em : Env} (hE : aj E Em) (hC : C W) : FE n W (Exit.then (fun a w=>an n Em a∧C w) Q) .normal E:=⟨fun _ ha=>⟨ha.sub hE,hC⟩⟩
theorem FE.cy {y : Code} (h : GC P n m o W Q' y E) : FE n W (Exit.then (y.wpIn (Rf o) m P Q') Q) .normal E:=⟨h.go⟩
theorem GC.wide {c : Code} (h : GC P n m none W Q c E) : FC P n W Q c E:=⟨fun a ha=>(wpIn_wide (n:=m)).1 (h.go a ha)⟩
theorem GC.of {c : Code} (h : FC P n W Q c E) : GC P n m none W Q c E:=⟨fun a ha=>(wpIn_wide (n:=m)).2 (h.go a ha)⟩
theorem GL.nil (h : FE n W Q .normal E) : GL P n m o W ops Q [] E:=⟨h.go⟩
theorem GL.q (h : OQ P n E (fun w=>w=W) ⟨some d,op,ty,pos,aft,none⟩ v) (hdf : bD ⟨some d,op,ty,pos,aft,none⟩=true) (hd : Nat.blt d n=true) (k : GL P n m o W ops Q os ((d,v)::E)) : GL P n m o W ops Q (⟨some d,op,ty,pos,aft,none⟩::os) E:=
  ⟨fun a ha=>wpListIn_plain rfl fun K hK=>by
    have hk:=hK _ _ (k.go _ (ha.put d v hd))
    have hq:=h.go a ha W rfl
    refine ⟨fun _ _=>trivial,?_⟩
    rw [b6 o a.eval _ hdf]
    unfold Oper.quietAt at hq
    cases hr : (execOp a.eval ⟨some d,op,ty,pos,aft,none⟩).run P W with
    | ok nx w'=>
      rw [hr] at hq
      cases nx with
      | value u=>
        obtain ⟨rfl,rfl⟩:=hq
        exact hk
      | skip=>
        obtain ⟨rfl,rfl⟩:=hq
        exact hk
      | enter f args=>
        obtain ⟨rfl,hc⟩:=hq
        refine ⟨fun h=>(by cases h),(callsIn_wide (n:=m - 1)).2 (hc.mono ?_)⟩
        rintro e w2 ⟨rfl,rfl⟩
        exact hk
      | _=>exact hq.elim
    | halt x w'=>
      rw [hr] at hq
      exact hq.elim⟩
theorem GL.ny {f : FuncId} {xs : List Operand} {ats : Array TypeId} {vs : List Value} {R : Ending→World→Prop} (hg : aM P f) (hx : dx E xs=some vs) (hd : Nat.blt d n=true)
    (hc : Calls P f vs.toArray W R) (k : ∀ e W',R e W'→∃ v,e=.returned v∧GL P n m o W' ops Q os ((d,v)::E)) : GL P n m o W ops Q (⟨some d,.call ⟨.value (.func f),xs.toArray,ats⟩,ty,pos,aft,none⟩::os) E:=
  ⟨fun a ha=>wpListIn_plain rfl fun K hK=>by
    refine ⟨fun _ _=>trivial,?_⟩
    rw [b6 o a.eval _ rfl,cC hg ha hx W]
    refine ⟨fun h=>(by cases h),(callsIn_wide (n:=m - 1)).2 (hc.mono ?_)⟩
    intro e w2 h2
    obtain ⟨v,rfl,hl⟩:=k e w2 h2
    exact hK _ _ (hl.go _ (ha.put d v hd))⟩
theorem GL.aH {f : FuncId} {xs : List Operand} {ats : Array TypeId} {vs : List Value} {R : World→Prop} (hg : aM P f) (hx : dx E xs=some vs) (hd : Nat.blt d n=true)
    (hc : Calls P f vs.toArray W fun e w'=>e=.returned v∧R w') (k : ∀ W',R W'→GL P n m o W' ops Q os ((d,v)::E)) : GL P n m o W ops Q (⟨some d,.call ⟨.value (.func f),xs.toArray,ats⟩,ty,pos,aft,none⟩::os) E:=
  GL.ny hg hx hd hc fun e W' ⟨h1,h2⟩=>⟨v,h1,k W' h2⟩
theorem GL.yield {xs : List Operand} {vs : List Value} {l : Nat} {x : Operand} {ts : Array TypeId} {R : Ending→World→Prop} (hx : ev E x=some (.func (.yield l) #[] #[])) (hy : dx E xs=some vs) (hd : Nat.blt d n=true) (h : YieldAt Fence.wide 1 P l vs.toArray W R)
    (hR : ∀ e W',R e W'→∃ b,e=.returned (.bool b)∧GL P n m o W' ops Q os ((d,.bool b)::E)) : GL P n m o W ops Q (⟨some d,.call ⟨.value x,xs.toArray,ts⟩,ty,pos,aft,none⟩::os) E:=
  ⟨fun a ha=>wpListIn_plain rfl fun K hK=>by
    obtain ⟨fn,tmps,assign,body,hrun,hro⟩:=h
    refine ⟨fun _ _=>trivial,?_⟩
    have e : (Oper.semAt (Rf o).round a.eval ⟨some d,.call ⟨.value x,xs.toArray,ts⟩,ty,pos,aft,none⟩).run P W=.ok (.round l fn tmps assign body) W:=by
      rw [b6 o a.eval _ rfl]
      have hm : xs.map a.eval=vs:=ey ha hy
      simp only [execOp,resolve,Sem.run_bind,ha.eval hx,List.map_toArray,hm,Deferred.ofValue,Sem.run_pure,Result.andThen_ok,invoke]
      simpa using hrun
    rw [e]
    refine ⟨fun h=>(by cases h),gL (F:=Fence.wide) (n:=1) (fun k=>room_wide k) (hro.mono fun e W' hr=>?_)⟩
    obtain ⟨b,rfl,hl⟩:=hR e W' hr
    exact hK _ _ (hl.go _ (ha.put d _ hd))⟩
theorem GL.box {x : Operand} {t : TypeId} (hx : ev E x=some v) (hr : v.cells=#[v]) (hd : Nat.blt d n=true)
    (k : ∀ W',Ext W W'→W'.heap.size=W.heap.size+1→W'.heap[W.heap.size]?=some (.cells #[v] t (0,0))→GL P n m o W' ops Q os ((d,Pt W.heap.size 0)::E)) : GL P n m o W ops Q (⟨some d,.box t x,ty,pos,aft,none⟩::os) E:=
  ⟨fun a ha=>wpListIn_plain rfl fun K hK=>by
    refine ⟨fun _ _=>trivial,?_⟩
    have h1 : (Instr.box t v).run P W=.ok (Pt W.heap.size 0) { W with heap:=W.heap.push (.cells #[v] t (0,0)) }:=by
      simp [Instr.box,newVar,newRow,newObj,hr,Sem.run]
    have e : (Oper.semAt (Rf o).round a.eval ⟨some d,.box t x,ty,pos,aft,none⟩).run P W=.ok (.value (Pt W.heap.size 0)) { W with heap:=W.heap.push (.cells #[v] t (0,0)) }:=by
      rw [b6 o a.eval _ rfl]
      simp only [execOp,ha.eval hx,Sem.run_bind,h1,Result.andThen_ok]
      rfl
    rw [e]
    refine hK _ _ ((k { W with heap:=W.heap.push (.cells #[v] t (0,0)) } ⟨rfl,rfl,rfl,by simp,fun b hb _=>?_⟩ (by simp) (by simp)).go _ (ha.put d _ hd))
    show (W.heap.push _)[b]?=_
    rw [Array.getElem?_push,if_neg (by omega)]⟩
theorem GL.ld {t e : TypeId} {x y : Operand} {b : Nat} {u : Value} (hz : bX P t=some 1) (hx : ev E x=some (Pt b 0)) (hy : ev E y=some v) (hv : v.oneCell'=true) (hcl : v.cells=#[v]) (hb : W.heap[b]?=some (.cells #[u] e (0,0)))
    (k : ∀ W',bz (·=b) W W'→W'.heap.size=W.heap.size→W'.heap[b]?=some (.cells #[v] e (0,0))→GL P n m o W' ops Q os E) : GL P n m o W ops Q (⟨none,.store t x y,ty,pos,aft,none⟩::os) E:=
  ⟨fun a ha=>wpListIn_plain rfl fun K hK=>by
    refine ⟨fun _ _=>trivial,?_⟩
    have hs : (storeCells ⟨b,0,none⟩ [v] 0).run P W=.ok () (W.setCell ⟨b,0,none⟩ v):=by
      simp only [storeCells,Sem.run_bind,aO,Nat.add_zero]
      rw [cD hv hb (by simp)];rfl
    have e : (Oper.semAt (Rf o).round a.eval ⟨none,.store t x y,ty,pos,aft,none⟩).run P W=.ok .skip (W.setCell ⟨b,0,none⟩ v):=by
      rw [b6 o a.eval _ rfl]
      simp [execOp,ha.eval hx,ha.eval hy,Pt,Instr.storeAt,Instr.sureAddr,Sem.run_bind,storeVar,ax hz,hcl,hs]
    rw [e]
    exact hK _ _ ((k (W.setCell ⟨b,0,none⟩ v) ⟨rfl,rfl,rfl,by rw [br];exact Nat.le_refl _,fun k _ hk=>bC hk⟩ br (by rw [bJ hb];rfl)).go _ ⟨ha.size,ha.defers,ha.all⟩)⟩
theorem mG {q : Oper} {a : Act} {w : World} {K : Act→World→Prop} (hd : bD q=true) (h : q.wp P a w K fun _ _ _=>False) : q.wpIn (Rf o) m P a w K Q:=by
  have hQ : ¬ LetsOut (fun (_ : Exit) (_ : Act) (_ : World)=>False):=fun ⟨_,_,x⟩=>x
  refine ⟨fun _ _=>trivial,?_⟩
  rw [b6 o a.eval _ hd]
  unfold Oper.wp at h
  cases hr : (execOp a.eval q).run P w with
  | ok nx w'=>
    rw [hr] at h
    cases nx with
    | value v=>exact h
    | skip=>exact h
    | defer d=>exact h
    | enter f args=>
      have h' : Calls P f args w' fun
        | .returned v,w''=>K (a.put q.dst v) w''
        | .panicked chain,w''=>False
        | .outgrown,_=>LetsOut (fun (_ : Exit) (_ : Act) (_ : World)=>False):=h
      refine ⟨fun h=>(by cases h),(callsIn_wide (n:=m - 1)).2 (h'.mono fun e w2 h2=>?_)⟩
      cases e with
      | returned v=>exact h2
      | panicked ch=>exact h2.elim
      | outgrown=>exact absurd h2 hQ
    | row r args=>
      have h' : Rows P r args w' fun v w''=>K (a.put q.dst v) w'':=h
      refine ⟨fun h=>(by cases h),fun c cs _=>?_⟩
      obtain ⟨v,w2,h2,hs⟩:=h' c cs
      exact ⟨v,w2,h2,stepsIn_wide.2 hs⟩
    | round=>exact h.elim
    | _=>exact h.elim
  | halt x w'=>
    rw [hr] at h
    cases x with
    | panic v=>exact h.elim
    | _=>exact h.elim
theorem bW {md : Region.Mode} {C : World→Prop} {g k : Nat} {L : Array Bool→Act→Prop} (hd : ops.toList.all bD=true) (hL : ∀ done a w,C w→L done a→wpAnyIn (Rf o) m P md ops Q g done a w) :
    ∀ (f : Nat) (done : Array Bool) (a : Act) (w : World),C w→kj P md ops C k L f done a→wpAnyIn (Rf o) m P md ops Q (f+g) done a w
  | 0,done,a,w,hw,h=>by rw [Nat.zero_add];exact hL _ _ _ hw h
  | f+1,done,a,w,hw,h=>by
    rw [show f+1+g=(f+g)+1 by omega]
    refine ⟨fun h0=>absurd h0 h.1,fun i hi=>?_⟩
    have hp : wpOp P ops (fun _ _ _=>False) i (wpAnyIn (Rf o) m P md ops Q (f+g) (done.setIfInBounds i true)) a w:=wpOp_of_qOp hw (fun a' w' hw' h'=>bW hd hL f _ a' w' hw' h') (h.2 i hi).2
    unfold wpOp at hp
    unfold wpOpIn
    cases ho : ops[i]? with
    | none=>rw [ho] at hp;exact hp
    | some q=>
      rw [ho] at hp
      have hno : bD q=true:=List.all_eq_true.1 hd q (Array.mem_toList_iff.2 (Array.mem_of_getElem? ho))
      dsimp only at hp ⊢
      by_cases hw : Region.wanted q (yielded ops a.tmps)=true
      · rw [if_pos hw] at hp ⊢
        rcases hp with hp | hp
        · exact mG hno hp
        · obtain ⟨_,_,x⟩:=hp.2
          exact x.elim
      · rw [if_neg hw] at hp ⊢
        exact ⟨fun _ _=>trivial,hp⟩
theorem fW {i : Nat} {a : Act} {w : World} {K K' : Act→World→Prop} (h : ∀ a w,K a w→K' a w) (hh : wpOpIn (Rf o) m P ops Q i K a w) : wpOpIn (Rf o) m P ops Q i K' a w:=wpOpIn_mono h hh
theorem bO {md : Region.Mode} : ∀ (l : List Oper) (k : Nat) (listed : Array Bool) (a : Act) (w : World),(∀ j,l[j]?=ops[k+j]?)→
    Region.seqB md ops l.length k listed=true→wpListIn (Rf o) m P ops Q l a w→wpAnyIn (Rf o) m P md ops Q l.length listed a w
  | [],_,_,_,_,_,hB,h=>⟨by simpa [Region.seqB] using hB,h⟩
  | q::l,k,listed,a,w,hl,hB,h=>by
    have h0 : ops[k]?=some q:=by simpa using (hl 0).symm
    simp only [List.length_cons,Region.seqB,Bool.and_eq_true,decide_eq_true_eq] at hB
    refine ⟨fun h1=>(by rw [hB.1] at h1;cases h1),fun i hi=>?_⟩
    rw [hB.1] at hi
    have hik : i=k:=by simpa using hi
    subst hik
    have hw : wpOpIn (Rf o) m P ops Q i (wpListIn (Rf o) m P ops Q l) a w:=by unfold wpOpIn;simp only [h0];exact h
    exact fW (fun a' w' h'=>bO l (i+1) _ a' w' (fun j=>by have:=hl (j+1);simpa [Nat.add_assoc,Nat.add_comm 1 j] using this) hB.2 h') hw
structure GQ (P : Program) (n : Nat) (W : World) (ops : Array Oper) (Φ : Act→Prop) (l : List Oper) (E : Env) : Prop where
  go : ∀ a,an n E a→wpQuiet P ops (fun w=>w=W) Φ l a
theorem GC.tail {id : Nat} {l : List Oper} (k : Nat) (hm : P.follows .mixedOrders=true) (hd : l.all bD=true) (hB : Region.lexTailB .any l.toArray k=true)
    (h : GQ P n { W with drawn:=W.drawn+1 } l.toArray (fun a'=>wpListIn (Rf o) m P l.toArray Q (l.drop k) a' { W with drawn:=W.drawn+1 }) (l.take k) E) : GC P n m o W Q (.region id l.toArray true) E:=by
  refine ⟨fun a ha=>?_⟩
  have h:=h.go a ha
  simp only [Region.lexTailB,Bool.and_eq_true,decide_eq_true_eq] at hB
  obtain ⟨⟨⟨⟨hsel,hn⟩,hs⟩,hc⟩,hlex⟩:=hB
  have hn' : k<l.length:=by simpa using hn
  have htl : (l.take k).length=k:=by simp;omega
  have hdl : (l.drop k).length=l.toArray.size - k:=by simp
  have inv0 : HeadInv .any l.toArray k (Array.replicate l.toArray.size false):=
    ⟨by simp,fun j oj _ hl=>(by rw [getD_replicate_false] at hl;cases hl),fun t _ ht=>getD_in (by simpa using ht) (getD_replicate_false _ _)⟩
  have H:=eF (P:=P) (C:=fun w=>w={ W with drawn:=W.drawn+1 }) (md:=.any) (g:=l.toArray.size - k) hsel hs hc hn (l.take k) 0 _ a (fun j hj=>by
    have hj' : j<k:=by rw [htl] at hj;exact hj
    simp [hj']) (by simpa using htl) inv0 (by rw [htl];exact hlex) h
  refine wpIn_region_any hm ?_
  have:=bW (P:=P) (m:=m) (o:=o) (ops:=l.toArray) (md:=.any) (k:=k) (C:=fun w=>w={ W with drawn:=W.drawn+1 }) (Q:=Q) (g:=l.toArray.size - k) (L:=fun done' a'=>Region.seqB .any l.toArray (l.toArray.size - k) k done'=true∧wpListIn (Rf o) m P l.toArray Q (l.drop k) a' { W with drawn:=W.drawn+1 }) (by simpa using hd) (fun done a' w' hw' hL=>by
    have:=bO (P:=P) (m:=m) (o:=o) (ops:=l.toArray) (md:=.any) (Q:=Q) (l.drop k) k done a' w' (fun j=>by simp [List.getElem?_drop]) (by rw [hdl];exact hL.1) (by rw [hw'];exact hL.2)
    rwa [hdl] at this) _ _ _ _ rfl H
  rw [htl,show k+(l.toArray.size - k)=l.toArray.size by omega] at this
  exact this
theorem GQ.nil {l' : List Oper} (h : GL P n m o W ops Q l' E) : GQ P n W ops (fun a'=>wpListIn (Rf o) m P ops Q l' a' W) [] E:=⟨fun a ha=>h.go a ha⟩
theorem GQ.q {Φ : Act→Prop} {l : List Oper} (h : OQ P n E (fun w=>w=W) ⟨some d,op,ty,pos,aft,none⟩ v) (hd : Nat.blt d n=true) (k : GQ P n W ops Φ l ((d,v)::E)) : GQ P n W ops Φ (⟨some d,op,ty,pos,aft,none⟩::l) E:=
  ⟨fun a ha=>wpQuiet_step fun _ hK=>by
    simp only [Region.wanted,if_true]
    exact ⟨v,h.go a ha,hK _ (k.go _ (ha.put d v hd))⟩⟩
theorem bz.mono {O O' : BP} {W W' : World} (h : bz O W W') (hs : ∀ b,O b→O' b) : bz O' W W':=⟨h.os,h.tape,h.output,h.size,fun b hb hn=>h.same b hb fun x=>hn (hs b x)⟩
theorem bE.trans {O : BP} {L : List Nat} {A B C : World} (h : bE O L A B) (k : bE O L B C) : bE O L A C:=
  ⟨Nat.le_trans h.size k.size,fun b hb=>(k.own b hb).trans (h.own b hb),fun b hb=>(k.same b hb).trans (h.same b hb)⟩
theorem bE.dH {O : BP} {L : List Nat} {A B : World} (h : Ext A B) (hO : ∀ b,O b→b<A.heap.size) (hL : ∀ b ∈ L,b<A.heap.size) : bE O L A B:=
  ⟨h.size,fun b hb=>h.block b (hO b hb) (by simp),fun b hb=>h.block b (hL b hb) (by simp)⟩
def pP (J : Nat→BP→World→Prop) (X : BP→World→Prop) (k : Nat) (O : BP) (L : List Nat) (W1 : World) : Exit→Act→World→Prop
  | .normal,_,W'=>∃ O',bE O L W1 W'∧(∀ b,O b→O' b)∧(∀ b,b<W1.heap.size→O' b→O b)∧J (k+1) O' W'
  | .ret,_,W'=>∃ O',bE O L W1 W'∧(∀ b,O b→O' b)∧X O' W'
  | _,_,_=>False
theorem dg {D : Nat} {fn : Func} {R : Ending→World→Prop} {a : Act} {x : Exit} (hx : x=.normal∨x=.ret) (ha : bu D n E a) (hr : fn.results=#[]) (hD : W.heap[D]?=some (.deferred (some []))) (hR : R (.returned (.tuple #[])) (W.putObj D (.deferred none))) :
    bodyPostM Fence.wide m P fn R x a W:=by
  have : LeavesInM Fence.wide m P fn a.tmps R a.defers .returning W:=by
    rw [ha.defers]
    exact ⟨by simp,.inl ⟨D,_,rfl,run_takeDeferred hD,.tuple #[],by simp [results,hr],hR⟩⟩
  rcases hx with rfl | rfl <;> exact this
theorem n3 {f : FuncId} {fn : Func} {c : Code} {vs : List Value} {R : Ending→World→Prop} (hf : P.funcs[f]?=some fn) (hb : fn.body=some c) (hn : fn.ntmps=n) (hl : Nat.ble vs.length n=true)
    (h : GC P n 3 none W (bodyPostM Fence.wide 3 P fn R) c (enum 0 vs)) : CallsIn Fence.wide 2 P f vs.toArray W R:=by
  refine callsIn_wide.2 (callsIn_wide.1 (callsIn_of_wp_marks (n:=3) hf hb trivial (h.go _ ?_)))
  rw [hn]
  exact an.enter vs (by simpa using hl)
theorem GC.pQ {g : Operand} {p d i1 gf N : Nat} {t1 : TypeId} {s1 : String} {body : Code} {lb : Array Value} {J : Nat→BP→World→Prop} {X : BP→World→Prop} (enc : Nat→Value) (O0 : BP) (LI L C : List Nat) (O : BP)
    (hg : ev E g=some (.func (.func gf) #[] lb)) (eg : ∀ args w,(callFunc gf args).run P w=.ok (.enter gf args) w)
    (hseq : k6 P gf lb (fun k=>#[enc k]) O0 LI N W) (hp : Nat.blt p n=true) (hd : Nat.blt d n=true)
    (hst : ∀ k O W1 W2,J k O W1→bz O W1 W2→J k (grown O W1 W2) W2) (hsx : ∀ O W1 W2,X O W1→bz O W1 W2→X (grown O W1 W2) W2) (hlt : ∀ k O W1,J k O W1→∀ b,O b→b<W1.heap.size)
    (hO0 : ∀ b,O0 b→O b∧b<W.heap.size) (hLI : ∀ b ∈ LI,b ∈ L) (hL : ∀ b ∈ L,¬ O b∧b<W.heap.size) (hC : ∀ b ∈ C,O b∧¬ O0 b∧b<W.heap.size) (h0 : J 0 O W)
    (hbody : ∀ r k O1 W1,k<N→J k O1 W1→(∀ b ∈ L,W1.heap[b]?=W.heap[b]?)→(∀ b ∈ C,W1.heap[b]?=W.heap[b]?)→W.heap.size≤W1.heap.size→(∀ b,b<W.heap.size→O b→O1 b)→GC P n 1 (some r) W1 (pP J X k O1 L W1) body ((d,enc k)::(p,enc k)::E))
    (hdone : ∀ D O' W',J N O' W'→O' D→W'.heap[D]?=some (.deferred (some []))→∀ a',bu D n E a'→Q .normal a' W')
    (hstop : ∀ D O' W',X O' W'→O' D→W'.heap[D]?=some (.deferred (some []))→∀ a',bu D n E a'→Q .ret a' W') :
    GC P n 3 none W Q (.rangeFunc g #[p] (.region i1 #[⟨some d,.assign (.tmp p),t1,s1,#[],none⟩] false) body) E:=by
  refine ⟨fun a ha=>?_⟩
  show Code.wpIn Fence.wide 3 P _ _ _ _
  refine wpIn_rangeFunc fun fn hfn=>?_
  obtain ⟨mg,hasg⟩ : ∃ c : Code,c=.region i1 #[⟨some d,.assign (.tmp p),t1,s1,#[],none⟩] false:=⟨_,rfl⟩
  rw [← hasg]
  let R : LoopState→Option Code→Loop:=fun st pe=>{ state:=st,pending:=pe,fn:=fn,tmps:=a.tmps,params:=#[p],assign:=mg,body:=body,defers:=W.heap.size }
  have hLp : ((W.alloc (.deferred (some []))).alloc (.loop (R .ready none))).heap[W.heap.size+1]?=some (.loop (R .ready none)):=by
    have:=World.alloc_heap_new (W.alloc (.deferred (some []))) (.loop (R .ready none))
    rwa [World.size_alloc] at this
  have hDp : ((W.alloc (.deferred (some []))).alloc (.loop (R .ready none))).heap[W.heap.size]?=some (.deferred (some [])):=
    (RowKit.Below.heap_alloc _ _ _ (by simp)).trans (World.alloc_heap_new W _)
  have hB : RowKit.Below W.heap.size W ((W.alloc (.deferred (some []))).alloc (.loop (R .ready none))):=((RowKit.Below.refl _ W).alloc (Nat.le_refl _) _).alloc (by simp) _
  have hsz : ((W.alloc (.deferred (some []))).alloc (.loop (R .ready none))).heap.size=W.heap.size+2:=by simp
  have hc1 : bz O W ((W.alloc (.deferred (some []))).alloc (.loop (R .ready none))):=⟨hB.os,hB.tape,hB.output,by rw [hsz];omega,fun b hb _=>hB.block b hb⟩
  obtain ⟨W1,hW1⟩ : ∃ W1,(W.alloc (.deferred (some []))).alloc (.loop (R .ready none))=W1:=⟨_,rfl⟩
  rw [hW1] at hLp hDp hB hsz hc1
  have j1:=hst _ _ _ _ h0 hc1
  refine ⟨W.heap.size+1,[Sl.mk W.heap.size],W1,{ target:=.fn (.func gf) lb,args:=#[.func (.yield (W.heap.size+1)) #[] #[]] },W1,gf,#[.func (.yield (W.heap.size+1)) #[] #[]]++lb,W1,?_,?_,fun _ _=>trivial,?_,(fun h=>by cases h),?_⟩
  · rw [← hW1]
    exact run_enterLoop_outer _ _ _ _ _
  · simp only [resolve,ha.eval hg]
    simp [go_sem]
  · simp [invoke,go_sem,eg]
  refine (hseq (W.heap.size+1)
    (fun k O' V=>∃ U,J k U V∧(∀ b,O' b→U b)∧U (W.heap.size+1)∧U W.heap.size∧¬ O' (W.heap.size+1)∧¬ O' W.heap.size∧V.heap[W.heap.size+1]?=some (.loop (R .ready none))∧V.heap[W.heap.size]?=some (.deferred (some []))∧(∀ b ∈ L,¬ U b∧V.heap[b]?=W.heap[b]?)∧(∀ b,b<W.heap.size→O b→U b)∧W.heap.size+2≤V.heap.size∧(∀ b ∈ C,U b∧¬ O' b∧V.heap[b]?=W.heap[b]?))
    (fun O' V=>∃ U,X U V∧(∀ b,O' b→U b)∧U (W.heap.size+1)∧U W.heap.size∧¬ O' (W.heap.size+1)∧¬ O' W.heap.size∧V.heap[W.heap.size+1]?=some (.loop (R .done (some .ret)))∧V.heap[W.heap.size]?=some (.deferred (some []))∧W.heap.size+2≤V.heap.size)
    W1 hB.block ?_ ?_ (fun k O' V ⟨U,hJ,hs,_⟩ b hb=>hlt k U V hJ b (hs b hb)) ?_ ⟨_,j1,fun b hb=>.inl (hO0 b hb).1,.inr ⟨by omega,by omega⟩,.inr ⟨by omega,by omega⟩,fun h=>by have:=(hO0 _ h).2;omega,fun h=>by have:=(hO0 _ h).2;omega,hLp,hDp,fun b hb=>⟨fun h=>?_,hB.block b (hL b hb).2⟩,fun b _ hb=>.inl hb,by omega,fun b hb=>⟨.inl (hC b hb).1,(hC b hb).2.1,hB.block b (hC b hb).2.2⟩⟩).mono ?_
  · rintro k O' Wa Wb ⟨U,hJ,hs,h1,h2,h3,h4,h5,h6,h7,h8,h9,h10⟩ hx
    have hx':=hx.mono hs
    have g : ∀ b,O' b∨Wa.heap.size≤b∧b<Wb.heap.size→U b∨Wa.heap.size≤b∧b<Wb.heap.size:=fun b hb=>hb.imp (hs b) id
    refine ⟨_,hst _ _ _ _ hJ hx',g,.inl h1,.inl h2,fun h=>h.elim h3 (by omega),fun h=>h.elim h4 (by omega),(hx.same _ (by omega) h3).trans h5,(hx.same _ (by omega) h4).trans h6,fun b hb=>⟨fun h=>h.elim (h7 b hb).1 (by have:=(hL b hb).2;omega),(hx.same b (by have:=(hL b hb).2;omega) fun h=>(h7 b hb).1 (hs b h)).trans (h7 b hb).2⟩,fun b hb hO=>.inl (h8 b hb hO),Nat.le_trans h9 hx.size,fun b hb=>⟨.inl (h10 b hb).1,fun h=>h.elim (h10 b hb).2.1 (by have:=(hC b hb).2.2;omega),(hx.same b (by have:=(hC b hb).2.2;omega) (h10 b hb).2.1).trans (h10 b hb).2.2⟩⟩
  · rintro O' Wa Wb ⟨U,hJ,hs,h1,h2,h3,h4,h5,h6,h9⟩ hx
    have hx':=hx.mono hs
    have g : ∀ b,O' b∨Wa.heap.size≤b∧b<Wb.heap.size→U b∨Wa.heap.size≤b∧b<Wb.heap.size:=fun b hb=>hb.imp (hs b) id
    exact ⟨_,hsx _ _ _ hJ hx',g,.inl h1,.inl h2,fun h=>h.elim h3 (by omega),fun h=>h.elim h4 (by omega),(hx.same _ (by omega) h3).trans h5,(hx.same _ (by omega) h4).trans h6,Nat.le_trans h9 hx.size⟩
  ·
    rintro k O' V hk ⟨U,hJ,hs,h1,h2,h3,h4,h5,h6,h7,h8,h9,h10⟩
    refine ⟨fn,_,mg,body,run_yield (P:=P) (args:=#[enc k]) h5 rfl,roundIn_of_wpIn hfn ?_⟩
    rw [hasg]
    show Code.wpIn (Rd (W.heap.size+1)) 1 P _ _ ({ tmps:=(#[p].zip #[enc k]).foldl (fun t (x : Nat × Value)=>t.setIfInBounds x.1 x.2) a.tmps,defers:=[] } : Act) V
    have hput : ({ tmps:=(#[p].zip #[enc k]).foldl (fun t (x : Nat × Value)=>t.setIfInBounds x.1 x.2) a.tmps,defers:=[] } : Act)=a.put (some p) (enc k):=by
      obtain ⟨tm,df⟩:=a
      have:=ha.defers
      simp only at this
      subst this
      simp [Act.put]
    rw [hput]
    have k2:=ha.put p (enc k) hp
    have k3:=k2.put d (enc k) hd
    refine fo (E:=(p,enc k)::E) (v:=enc k) (by simp [lk]) k2 ⟨_,run_beginRound h5 rfl,?_⟩
    obtain ⟨W2,hW2⟩ : ∃ W2,V.putObj (W.heap.size+1) (.loop { R .ready none with state:=.busy })=W2:=⟨_,rfl⟩
    have c2 : bz U V W2:=hW2 ▸ bz.put _ h1
    have hs2 : W2.heap.size=V.heap.size:=by rw [← hW2];exact World.putObj_size
    have hl2 : W2.heap[W.heap.size+1]?=some (.loop (R .busy none)):=hW2 ▸ World.putObj_heap_same (by omega)
    have ho2 : ∀ b,b≠W.heap.size+1→W2.heap[b]?=V.heap[b]?:=fun b hb=>by rw [← hW2];exact World.putObj_heap_other hb
    rw [hW2]
    have hJ2:=hst _ _ _ _ hJ c2
    obtain ⟨U2,hU2⟩ : ∃ U2,grown U V W2=U2:=⟨_,rfl⟩
    have hU : ∀ b,U b→U2 b:=fun b hb=>hU2 ▸ .inl hb
    have hU' : ∀ b,U2 b→U b:=fun b hb=>by
      rw [← hU2] at hb
      exact hb.elim id (by omega)
    rw [hU2] at hJ2
    refine wpIn_mono ((hbody (W.heap.size+1) k U2 W2 hk hJ2 (fun b hb=>(ho2 b (fun e=>(h7 b hb).1 (e ▸ h1))).trans (h7 b hb).2) (fun b hb=>(ho2 b (fun e=>by have:=(hC b hb).2.2;omega)).trans (h10 b hb).2.2) (by omega) fun b hb hO=>hU b (h8 b hb hO)).go _ k3) ?_
    have fin : ∀ {O3 : BP} {W3 : World} (ob : Obj),bE U2 L W2 W3→bE O' LI V (W3.putObj (W.heap.size+1) ob):=fun {O3 W3} ob h=>by
      refine ⟨by rw [World.putObj_size,← hs2];exact h.size,fun b hb=>?_,fun b hb=>?_⟩
      · have hne : b≠W.heap.size+1:=fun e=>h3 (e ▸ hb)
        exact (World.putObj_heap_other hne).trans ((h.own b (hU b (hs b hb))).trans (ho2 b hne))
      · have hne : b≠W.heap.size+1:=fun e=>(h7 b (hLI b hb)).1 (e ▸ h1)
        exact (World.putObj_heap_other hne).trans ((h.same b (hLI b hb)).trans (ho2 b hne))
    rintro e a3 W3 hq
    cases e with
    | normal=>
      obtain ⟨O3,hk3,hs3,hn3,hJ3⟩:=hq
      have hl3:=(hk3.own _ (hU _ h1)).trans hl2
      have hd3:=(hk3.own _ (hU _ h2)).trans ((ho2 _ (by omega)).trans h6)
      have hz:=hk3.size
      refine ⟨_,_,run_endRound (P:=P) none hl3,fin (O3:=O3) _ hk3,.inl ⟨rfl,?_⟩⟩
      refine ⟨_,hst _ _ _ _ hJ3 (bz.put _ (hs3 _ (hU _ h1))),fun b hb=>.inl (hs3 b (hU b (hs b hb))),.inl (hs3 _ (hU _ h1)),.inl (hs3 _ (hU _ h2)),h3,h4,World.putObj_heap_same (by omega),(World.putObj_heap_other (by omega)).trans hd3,fun b hb=>⟨?_,?_⟩,fun b hb hO=>.inl (hs3 b (hU b (h8 b hb hO))),by rw [World.putObj_size];omega,fun b hb=>⟨.inl (hs3 b (hU b (h10 b hb).1)),(h10 b hb).2.1,?_⟩⟩
      · have hb3:=(hL b hb).2
        exact fun h=>h.elim (fun h=>(h7 b hb).1 (hU' b (hn3 b (by omega) h))) (by omega)
      · have hne : b≠W.heap.size+1:=fun e=>(h7 b hb).1 (e ▸ h1)
        exact (World.putObj_heap_other hne).trans ((hk3.same b hb).trans ((ho2 b hne).trans (h7 b hb).2))
      · have hne : b≠W.heap.size+1:=fun e=>by have:=(hC b hb).2.2;omega
        exact (World.putObj_heap_other hne).trans ((hk3.own b (hU b (h10 b hb).1)).trans ((ho2 b hne).trans (h10 b hb).2.2))
    | ret=>
      obtain ⟨O3,hk3,hs3,hJ3⟩:=hq
      have hl3:=(hk3.own _ (hU _ h1)).trans hl2
      have hd3:=(hk3.own _ (hU _ h2)).trans ((ho2 _ (by omega)).trans h6)
      have hz:=hk3.size
      refine ⟨_,_,run_endRound (P:=P) (some .ret) hl3,fin (O3:=O3) _ hk3,.inr ⟨rfl,?_⟩⟩
      exact ⟨_,hsx _ _ _ hJ3 (bz.put _ (hs3 _ (hU _ h1))),fun b hb=>.inl (hs3 b (hU b (hs b hb))),.inl (hs3 _ (hU _ h1)),.inl (hs3 _ (hU _ h2)),h3,h4,World.putObj_heap_same (by omega),(World.putObj_heap_other (by omega)).trans hd3,by rw [World.putObj_size];omega⟩
    | exit id=>exact hq.elim
    | goto t=>exact hq.elim
    | panic ch=>exact hq.elim
    | outgrown=>exact hq.elim
  · exact h.elim (hL b hb).1 (by have:=(hL b hb).2;omega)
  ·
    have know : bu W.heap.size n E { a with defers:=[Sl.mk W.heap.size]++a.defers }:=⟨by show _++a.defers=_;rw [ha.defers];rfl,⟨ha.size,rfl,ha.all⟩⟩
    rintro e W2 ⟨⟨v,rfl⟩,O',(⟨U,hJ,hs,h1,h2,h3,h4,h5,h6,h7,h8,h9,h10⟩ | ⟨U,hJ,hs,h1,h2,h3,h4,h5,h6,h9⟩)⟩
    · exact ⟨none,_,run_endLoop h5 (by simp [R]),hdone W.heap.size _ _ (hst _ _ _ _ hJ (bz.put _ h1)) (.inl h2) ((World.putObj_heap_other (by omega)).trans h6) _ know⟩
    · exact ⟨some .ret,_,run_endLoop h5 (by simp [R]),wpIn_ret (hstop W.heap.size _ _ (hsx _ _ _ hJ (bz.put _ h1)) (.inl h2) ((World.putObj_heap_other (by omega)).trans h6) _ know)⟩
end
end Sl
end
section
open Go.RowKit
namespace Sl
theorem aa.oK {w0 V V' : World} {S : List Nat} {M : List ah} {O : BP} (h : aa w0 S M V) (hn : ∀ e ∈ M,¬ O e.b) (hO : ∀ b,O b→b ∈ S∨w0.heap.size≤b) (hc : bz O V V') : aa w0 S M V':=by
  refine ⟨⟨hc.os.trans h.aq.os,hc.tape.trans h.aq.tape,hc.output.trans h.aq.output,Nat.le_trans h.aq.size hc.size,fun k hk hS=>?_⟩,h.nodup,fun e he=>⟨?_,(h.all e he).2⟩⟩
  · exact (hc.same k (Nat.lt_of_lt_of_le hk h.aq.size) fun h=>(hO k h).elim hS (by omega)).trans (h.aq.block k hk hS)
  · obtain ⟨o,ho,hA⟩:=(h.all e he).1
    exact ⟨o,(hc.same e.b (h.lt he) (hn e he)).trans ho,hA⟩
theorem JR.tail {P : Program} {n : Nat} {w0 : World} {S : List Nat} {Q : Exit→Act→World→Prop} {E : Env} {M : List ah} {m r : Nat} {id : Nat} {l : List Oper} (k : Nat) (hm : P.follows .mixedOrders=true) (hd : l.all bD=true) (hQ : ¬ LetsOut Q) (hB : Region.lexTailB .any l.toArray k=true)
    (h : JQ P n w0 S l.toArray M (fun a'=>∀ w',aa w0 S M w'→wpList P l.toArray Q (l.drop k) a' w') (l.take k) E) : JR P n w0 S r m Q (.region id l.toArray true) E M:=by
  refine ⟨fun a w ha hw=>?_⟩
  have h:=h.go a ha
  simp only [Region.lexTailB,Bool.and_eq_true,decide_eq_true_eq] at hB
  obtain ⟨⟨⟨⟨hsel,hn⟩,hs⟩,hc⟩,hlex⟩:=hB
  have hn' : k<l.length:=by simpa using hn
  have htl : (l.take k).length=k:=by simp;omega
  have hdl : (l.drop k).length=l.toArray.size - k:=by simp
  have inv0 : HeadInv .any l.toArray k (Array.replicate l.toArray.size false):=
    ⟨by simp,fun j oj _ hl=>(by rw [getD_replicate_false] at hl;cases hl),fun t _ ht=>getD_in (by simpa using ht) (getD_replicate_false _ _)⟩
  have H:=eF (P:=P) (C:=aa w0 S M) (md:=.any) (g:=l.toArray.size - k) hsel hs hc hn (l.take k) 0 _ a (fun j hj=>by
    have hj' : j<k:=by rw [htl] at hj;exact hj
    simp [hj']) (by simpa using htl) inv0 (by rw [htl];exact hlex) h
  refine wpIn_region_any hm ?_
  have:=bW (P:=P) (m:=m) (o:=some r) (ops:=l.toArray) (md:=.any) (k:=k) (C:=aa w0 S M) (Q:=Q) (g:=l.toArray.size - k) (L:=fun done' a'=>Region.seqB .any l.toArray (l.toArray.size - k) k done'=true∧∀ w',aa w0 S M w'→wpList P l.toArray Q (l.drop k) a' w') (by simpa using hd) (fun done a' w' hw' hL=>by
    have:=bO (P:=P) (m:=m) (o:=some r) (ops:=l.toArray) (md:=.any) (Q:=Q) (l.drop k) k done a' w' (fun j=>by simp [List.getElem?_drop]) (by rw [hdl];exact hL.1) (bp (l:=r) (m:=m) hQ (l.drop k) (List.all_eq_true.2 fun x hx=>List.all_eq_true.1 hd x (List.mem_of_mem_drop hx)) a' w' (hL.2 w' hw'))
    rwa [hdl] at this) (l.take k).length (Array.replicate l.toArray.size false) a { w with drawn:=w.drawn+1 } (hw.drawn (w.drawn+1)) H
  rw [htl,show k+(l.toArray.size - k)=l.toArray.size by omega] at this
  exact this
theorem fX {w1 w2 : World} {A B : List ah} {O : BP} (hA : ∀ b ∈ eS A,¬ O b) (hO : ∀ b,O b→b<w1.heap.size) (hB : ∀ e ∈ B,e.wr=true) (h : aa w1 (eS A) B w2) : ∀ e ∈ B,¬ O e.b:=fun e he hb=>by
  rcases (h.all e he).2 (hB e he) with h1 | h1
  · exact hA _ h1 hb
  · have:=hO _ hb
    omega
theorem jq {A : List ah} {O : BP} (h : ∀ e ∈ A,¬ O e.b) : ∀ b ∈ eS A,¬ O b:=fun b hb=>by
  obtain ⟨e,he,_,rfl⟩:=cm.1 hb
  exact h e he
theorem JC.lf {P : Program} {n : Nat} {w0 : World} {S : List Nat} {Q : Exit→Act→World→Prop} {E : Env} {M : List ah} {ι κ τ : Type} {g : Operand} {ps : Array Nat} {mg body : Code} {gf : Nat} {lb : Array Value} (enc : Nat→Array Value) (Mo : List ah) (L : List Nat) (N : Nat) (Ep : Nat→Env)
    (Mi : ι→List ah) (Inv : Nat→ι→Prop) (Mt : τ→List ah) (Et : Nat→τ→Env) (Mid : Nat→τ→Prop) (Mx : κ→List ah) (Fin : κ→Prop)
    (hput : ∀ k a,an n E a→an n (Ep k) { tmps:=(ps.zip (enc k)).foldl (fun t (x : Nat × Value)=>t.setIfInBounds x.1 x.2) a.tmps,defers:=[] }) (hsz : ∀ k,(enc k).size=ps.size)
    (hg : ev E g=some (.func (.func gf) #[] lb)) (eg : ∀ args w,(callFunc gf args).run P w=.ok (.enter gf args) w)
    (hseq : ∀ W,aa w0 S M W→k6 P gf lb enc (fun b=>b ∈ Mo.map ah.b) L N W) (hMo : ∀ e ∈ Mo,e.wr=true)
    (hwr : ∀ i,∀ e ∈ Mi i,e.wr=true) (hwt : ∀ i,∀ e ∈ Mt i,e.wr=true) (hwx : ∀ i,∀ e ∈ Mx i,e.wr=true)
    (hcell : ∀ i,∀ e ∈ Mi i,∀ o,e.A o→o.isCells=true) (hcelt : ∀ i,∀ e ∈ Mt i,∀ o,e.A o→o.isCells=true) (hcelx : ∀ i,∀ e ∈ Mx i,∀ o,e.A o→o.isCells=true)
    (hL : ∀ b ∈ L,b<w0.heap.size∧b ∉ S)
    (i0 : ι) (h0 : Inv 0 i0) (hM : ∀ w,aa w0 S M w→aa w0 S (Mo++Mi i0) w)
    (hasg : ∀ l k i w1,Inv k i→k<N→aa w0 S (Mi i) w1→JR P n w1 (eS (Mi i)) l 1 (nZ n (Mid k) (Et k) Mt w1 (eS (Mi i))) mg (Ep k) (Mi i))
    (hbody : ∀ l k t w1,Mid k t→k<N→aa w0 S (Mt t) w1→JR P n w1 (eS (Mt t)) l 1 (cM Mi Inv Mx Fin k w1 (eS (Mt t))) body (Et k t) (Mt t))
    (hdone : ∀ D i,Inv N i→KE D n w0 S Q .normal E (⟨D,fV,true⟩::Mi i))
    (hstop : ∀ D x,Fin x→KE D n w0 S Q .ret E (⟨D,fV,true⟩::Mx x)) :
    JC P n w0 S Q (.rangeFunc g ps mg body) E M:=by
  refine ⟨fun a w ha hw=>(wpIn_wide (n:=3)).1 (wpIn_rangeFunc fun fn hfn=>?_)⟩
  let R : LoopState→Option Code→Loop:=fun st pe=>{ state:=st,pending:=pe,fn:=fn,tmps:=a.tmps,params:=ps,assign:=mg,body:=body,defers:=w.heap.size }
  have hsw0 : w0.heap.size≤w.heap.size:=hw.aq.size
  have gw0 : aa w0 S (Mo++Mi i0) w:=hM w hw
  have gw : aa w0 S (Mi i0) w:=by
    refine ⟨gw0.aq,?_,fun e he=>gw0.all e (List.mem_append_right _ he)⟩
    have:=gw0.nodup
    rw [List.map_append,List.nodup_append] at this
    exact this.2.1
  have hO0 : ∀ b,b ∈ Mo.map ah.b→b<w.heap.size∧(b ∈ S∨w0.heap.size≤b):=fun b hb=>by
    obtain ⟨e,he,rfl⟩:=List.mem_map.1 hb
    exact ⟨gw0.lt (List.mem_append_left _ he),(gw0.all e (List.mem_append_left _ he)).2 (hMo e he)⟩
  have hd0 : ∀ e ∈ Mi i0,¬ e.b ∈ Mo.map ah.b:=fun e he hb=>by
    have:=gw0.nodup
    rw [List.map_append,List.nodup_append] at this
    exact this.2.2 _ hb _ (List.mem_map_of_mem he) rfl
  have a1 : aa w0 S (Mi i0) (w.alloc (.deferred (some []))):=gw.cN (hcell i0) (World.grownBy_alloc w _ none) nofun
  have a2 : aa w0 S (Mi i0) ((w.alloc (.deferred (some []))).alloc (.loop (R .ready none))):=a1.cN (hcell i0) (World.grownBy_alloc _ _ none) nofun
  have hLp : ((w.alloc (.deferred (some []))).alloc (.loop (R .ready none))).heap[w.heap.size+1]?=some (.loop (R .ready none)):=by
    have:=World.alloc_heap_new (w.alloc (.deferred (some []))) (.loop (R .ready none))
    rwa [World.size_alloc] at this
  have hDp : ((w.alloc (.deferred (some []))).alloc (.loop (R .ready none))).heap[w.heap.size]?=some (.deferred (some [])):=
    (RowKit.Below.heap_alloc _ _ _ (by simp)).trans (World.alloc_heap_new w _)
  have hB : RowKit.Below w.heap.size w ((w.alloc (.deferred (some []))).alloc (.loop (R .ready none))):=((RowKit.Below.refl _ w).alloc (Nat.le_refl _) _).alloc (by simp) _
  have hs1 : ((w.alloc (.deferred (some []))).alloc (.loop (R .ready none))).heap.size=w.heap.size+2:=by simp
  obtain ⟨W1,hW1⟩ : ∃ W1,(w.alloc (.deferred (some []))).alloc (.loop (R .ready none))=W1:=⟨_,rfl⟩
  rw [hW1] at a2 hLp hDp hB hs1
  have notin : ∀ {X : List ah} {W : World} {b : Nat} {o : Obj},(∀ e ∈ X,∀ o,e.A o→o.isCells=true)→aa w0 S X W→W.heap[b]?=some o→o.isCells=false→b ∉ eS X:=fun {X W b o} hX hH hb ho hm=>by
    obtain ⟨e,he,_,rfl⟩:=cm.1 hm
    obtain ⟨o',ho',hA⟩:=(hH.all e he).1
    rw [hb] at ho'
    cases ho'
    rw [hX e he _ hA] at ho
    cases ho
  refine ⟨w.heap.size+1,[Sl.mk w.heap.size],W1,{ target:=.fn (.func gf) lb,args:=#[.func (.yield (w.heap.size+1)) #[] #[]] },W1,gf,#[.func (.yield (w.heap.size+1)) #[] #[]]++lb,W1,?_,?_,fun _ _=>trivial,?_,(fun h=>by cases h),?_⟩
  · rw [← hW1]
    exact run_enterLoop_outer _ _ _ _ _
  · simp only [resolve,ha.eval hg]
    simp [go_sem]
  · simp [invoke,go_sem,eg]
  refine (hseq w hw (w.heap.size+1)
    (fun k O V=>(∃ i,Inv k i∧aa w0 S (Mi i) V∧∀ e ∈ Mi i,¬ O e.b)∧¬ O (w.heap.size+1)∧¬ O w.heap.size∧V.heap[w.heap.size+1]?=some (.loop (R .ready none))∧V.heap[w.heap.size]?=some (.deferred (some []))∧(∀ b,O b→b<V.heap.size∧(b ∈ S∨w0.heap.size≤b)))
    (fun O V=>(∃ x,Fin x∧aa w0 S (Mx x) V∧∀ e ∈ Mx x,¬ O e.b)∧¬ O (w.heap.size+1)∧¬ O w.heap.size∧V.heap[w.heap.size+1]?=some (.loop (R .done (some .ret)))∧V.heap[w.heap.size]?=some (.deferred (some []))∧(∀ b,O b→b<V.heap.size∧(b ∈ S∨w0.heap.size≤b)))
    W1 hB.block ?_ ?_ (fun k O V ⟨_,_,_,_,_,h5⟩ b hb=>(h5 b hb).1) ?_ ⟨⟨i0,h0,a2,hd0⟩,fun h=>by have:=(hO0 _ h).1;omega,fun h=>by have:=(hO0 _ h).1;omega,hLp,hDp,fun b hb=>⟨by have:=(hO0 b hb).1;omega,(hO0 b hb).2⟩⟩).mono ?_
  · rintro k O Va Vb ⟨⟨i,hi,hH,hn⟩,h1,h2,h3,h4,h5⟩ hx
    have l1:=(Array.getElem?_eq_some_iff.1 h3).1
    have l2:=(Array.getElem?_eq_some_iff.1 h4).1
    have hz:=hH.aq.size
    refine ⟨⟨i,hi,hH.oK hn (fun b hb=>(h5 b hb).2) hx,fun e he h=>h.elim (hn e he) (by have:=hH.lt he;omega)⟩,fun h=>h.elim h1 (by omega),fun h=>h.elim h2 (by omega),(hx.same _ l1 h1).trans h3,(hx.same _ l2 h2).trans h4,fun b hb=>?_⟩
    have hs:=hx.size
    rcases hb with hb | hb
    · exact ⟨by have:=(h5 b hb).1;omega,(h5 b hb).2⟩
    · exact ⟨hb.2,.inr (by omega)⟩
  · rintro O Va Vb ⟨⟨i,hi,hH,hn⟩,h1,h2,h3,h4,h5⟩ hx
    have l1:=(Array.getElem?_eq_some_iff.1 h3).1
    have l2:=(Array.getElem?_eq_some_iff.1 h4).1
    have hz:=hH.aq.size
    refine ⟨⟨i,hi,hH.oK hn (fun b hb=>(h5 b hb).2) hx,fun e he h=>h.elim (hn e he) (by have:=hH.lt he;omega)⟩,fun h=>h.elim h1 (by omega),fun h=>h.elim h2 (by omega),(hx.same _ l1 h1).trans h3,(hx.same _ l2 h2).trans h4,fun b hb=>?_⟩
    have hs:=hx.size
    rcases hb with hb | hb
    · exact ⟨by have:=(h5 b hb).1;omega,(h5 b hb).2⟩
    · exact ⟨hb.2,.inr (by omega)⟩
  ·
    rintro k O V hk ⟨⟨i,hi,hH,hn⟩,h1,h2,hl,hd,h5⟩
    refine ⟨fn,_,mg,body,run_yield (P:=P) (args:=enc k) hl (hsz k),roundIn_of_wpIn hfn ?_⟩
    show Code.wpIn (Rd (w.heap.size+1)) 1 P _ _ ({ tmps:=(ps.zip (enc k)).foldl (fun t (x : Nat × Value)=>t.setIfInBounds x.1 x.2) a.tmps,defers:=[] } : Act) V
    have k2:=hput k a ha
    have nl0:=notin (hcell i) hH hl rfl
    have nd0:=notin (hcell i) hH hd rfl
    have hw0:=jq hn
    refine wpIn_mono ((hasg (w.heap.size+1) k i V hi hk hH).go _ V k2 hH.iK) ?_
    rintro e a1 Wa hq
    cases e with
    | exit id=>exact hq.elim
    | goto t=>exact hq.elim
    | panic ch=>exact hq.elim
    | outgrown=>exact hq.elim
    | ret=>exact hq.elim
    | normal=>
    obtain ⟨t,ht,k3,hHa⟩:=hq
    have hH' : aa w0 S (Mt t) Wa:=hH.de hHa
    have nt:=fX hw0 (fun b hb=>(h5 b hb).1) (hwt t) hHa
    have hl' : Wa.heap[w.heap.size+1]?=some (.loop (R .ready none)):=(hHa.aq.block _ (Array.getElem?_eq_some_iff.1 hl).1 nl0).trans hl
    have hd' : Wa.heap[w.heap.size]?=some (.deferred (some [])):=(hHa.aq.block _ (Array.getElem?_eq_some_iff.1 hd).1 nd0).trans hd
    refine ⟨_,run_beginRound hl' rfl,?_⟩
    have hlt : w.heap.size+1<Wa.heap.size:=(Array.getElem?_eq_some_iff.1 hl').1
    obtain ⟨W2,hW2⟩ : ∃ W2,Wa.putObj (w.heap.size+1) (.loop { R .ready none with state:=.busy })=W2:=⟨_,rfl⟩
    have hH2 : aa w0 S (Mt t) W2:=hW2 ▸ hH'.cN (hcelt t) (grownBy_putObj' Wa _ _) (fun r e=>by cases e;exact ⟨by omega,_,hl',rfl⟩)
    have hl2 : W2.heap[w.heap.size+1]?=some (.loop (R .busy none)):=hW2 ▸ World.putObj_heap_same hlt
    have hd2' : W2.heap[w.heap.size]?=some (.deferred (some [])):=by rw [← hW2];exact (World.putObj_heap_other (by omega)).trans hd'
    have ho2 : ∀ b,b≠w.heap.size+1→W2.heap[b]?=Wa.heap[b]?:=fun b hb=>by rw [← hW2];exact World.putObj_heap_other hb
    have hz2 : W2.heap.size=Wa.heap.size:=by rw [← hW2];exact World.putObj_size
    have hza:=hHa.aq.size
    rw [hW2]
    refine wpIn_mono ((hbody (w.heap.size+1) k t W2 ht hk hH2).go _ W2 k3 hH2.iK) ?_
    have nl:=notin (hcelt t) hH2 hl2 rfl
    have nd:=notin (hcelt t) hH2 hd2' rfl
    have hs2 : w.heap.size+1<W2.heap.size:=(Array.getElem?_eq_some_iff.1 hl2).1
    have hwt':=jq nt
    have h52 : ∀ b,O b→b<W2.heap.size:=fun b hb=>by have:=(h5 b hb).1;omega
    have kept : ∀ {Mj : List ah} {W3 : World},aa W2 (eS (Mt t)) Mj W3→W3.heap[w.heap.size+1]?=some (.loop (R .busy none))∧W3.heap[w.heap.size]?=some (.deferred (some [])):=fun {Mj W3} h3=>
      ⟨(h3.aq.block _ hs2 nl).trans hl2,(h3.aq.block _ (by omega) nd).trans hd2'⟩
    have fin : ∀ {Mj : List ah} {W3 : World} (ob : Obj),aa W2 (eS (Mt t)) Mj W3→bE O L V (W3.putObj (w.heap.size+1) ob):=fun {Mj W3} ob h3=>by
      have hu:=hH2.de h3
      refine ⟨by rw [World.putObj_size];have:=h3.aq.size;omega,fun b hb=>?_,fun b hb=>?_⟩
      · have hne : b≠w.heap.size+1:=fun e=>h1 (e ▸ hb)
        exact (World.putObj_heap_other hne).trans ((h3.aq.block b (h52 b hb) fun hm=>hwt' b hm hb).trans ((ho2 b hne).trans (hHa.aq.block b (h5 b hb).1 fun hm=>hw0 b hm hb)))
      · obtain ⟨hb1,hb2⟩:=hL b hb
        exact (World.putObj_heap_other (by omega)).trans ((hu.aq.block b hb1 hb2).trans (hH.aq.block b hb1 hb2).symm)
    rintro e a3 W3 hq
    cases e with
    | normal=>
      obtain ⟨j,hj,h3⟩:=hq
      obtain ⟨hl3,hd3⟩:=kept h3
      have hu:=hH2.de h3
      have hz3:=h3.aq.size
      exact ⟨_,_,run_endRound (P:=P) none hl3,fin _ h3,.inl ⟨rfl,⟨j,hj,hu.cN (hcell j) (grownBy_putObj' W3 _ _) (fun r e=>by cases e;exact ⟨by omega,_,hl3,rfl⟩),fX hwt' h52 (hwr j) h3⟩,h1,h2,World.putObj_heap_same (Array.getElem?_eq_some_iff.1 hl3).1,(World.putObj_heap_other (by omega)).trans hd3,fun b hb=>⟨by rw [World.putObj_size];have:=h52 b hb;omega,(h5 b hb).2⟩⟩⟩
    | ret=>
      obtain ⟨x,hx,h3⟩:=hq
      obtain ⟨hl3,hd3⟩:=kept h3
      have hu:=hH2.de h3
      have hz3:=h3.aq.size
      exact ⟨_,_,run_endRound (P:=P) (some .ret) hl3,fin _ h3,.inr ⟨rfl,⟨x,hx,hu.cN (hcelx x) (grownBy_putObj' W3 _ _) (fun r e=>by cases e;exact ⟨by omega,_,hl3,rfl⟩),fX hwt' h52 (hwx x) h3⟩,h1,h2,World.putObj_heap_same (Array.getElem?_eq_some_iff.1 hl3).1,(World.putObj_heap_other (by omega)).trans hd3,fun b hb=>⟨by rw [World.putObj_size];have:=h52 b hb;omega,(h5 b hb).2⟩⟩⟩
    | exit id=>exact hq.elim
    | goto t=>exact hq.elim
    | panic ch=>exact hq.elim
    | outgrown=>exact hq.elim
  ·
    have know : bu w.heap.size n E { a with defers:=[Sl.mk w.heap.size]++a.defers }:=⟨by show _++a.defers=_;rw [ha.defers];rfl,⟨ha.size,rfl,ha.all⟩⟩
    rintro e W2 ⟨⟨v,rfl⟩,O,(⟨⟨i,hi,hH,_⟩,_,_,hl,hd,_⟩ | ⟨⟨x,hx,hH,_⟩,_,_,hl,hd,_⟩)⟩
    · have h4:=hH.cN (hcell i) (grownBy_putObj' W2 (w.heap.size+1) (.loop { R .ready none with state:=.exhausted })) (fun r e=>by cases e;exact ⟨by omega,_,hl,rfl⟩)
      exact ⟨none,_,run_endLoop hl (by simp [R]),(hdone w.heap.size i hi).go _ _ know (h4.nv (hcell i) hsw0 ((World.putObj_heap_other (by omega)).trans hd))⟩
    · have h4:=hH.cN (hcelx x) (grownBy_putObj' W2 (w.heap.size+1) (.loop { R .done (some .ret) with state:=.exhausted })) (fun r e=>by cases e;exact ⟨by omega,_,hl,rfl⟩)
      exact ⟨some .ret,_,run_endLoop hl (by simp [R]),wpIn_ret ((hstop w.heap.size x hx).go _ _ know (h4.nv (hcelx x) hsw0 ((World.putObj_heap_other (by omega)).trans hd)))⟩
end Sl
end
section
namespace jr
open c6
def fq : List By→List By→List (List By × List By)
  | [],x=>if x=[] then [] else [(x,[])]
  | c::r,x=>if c=10 then (if x.getLast?=some 13 then (x.dropLast,[13,10]) else (x,[10]))::fq r [] else fq r (x++[c])
def aR (b : List By) : List (List By × List By):=fq b []
end jr
end
section
namespace jr
open c6
def bF (r : List By) : List By:=if r.getLast?=some 10 then (if r.dropLast.getLast?=some 13 then r.dropLast.dropLast else r.dropLast) else r
def aA (d : List By) : Nat:=if (d.takeWhile (· != 10)).length<d.length then (d.takeWhile (· != 10)).length+1 else d.length
theorem fY (d : List By) : aA d≤d.length:=by
  unfold aA
  split <;> omega
theorem gM {d : List By} (h : d≠[]) : 0<aA d:=by
  have:=List.length_pos_iff.2 h
  unfold aA
  split <;> omega
theorem dI (x : List By) (c : By) : (x++[c]).getLast?=some c:=by simp
theorem js (x : List By) : bF (x++[13,10])=x:=by
  have e : x++[13,10]=(x++[13])++[10]:=by simp
  unfold bF
  rw [e,if_pos (dI _ _),List.dropLast_concat,if_pos (dI _ _),List.dropLast_concat]
theorem fZ {x : List By} (h : x.getLast?≠some 13) : bF (x++[10])=x:=by
  unfold bF
  rw [if_pos (dI _ _),List.dropLast_concat,if_neg h]
theorem mH {x : List By} (h : x.getLast?≠some 10) : bF x=x:=by
  unfold bF
  rw [if_neg h]
theorem ju : ∀ d : List By,(∃ p r,d=p++10::r∧(∀ c ∈ p,c≠10)∧d.takeWhile (· != 10)=p)∨((∀ c ∈ d,c≠10)∧d.takeWhile (· != 10)=d)
  | []=>.inr ⟨by simp,rfl⟩
  | c::d=>by
    by_cases h : c=10
    · subst h
      exact .inl ⟨[],d,rfl,by simp,by simp⟩
    · have hb : (c != 10)=true:=by simpa using h
      rcases ju d with ⟨p,r,e,h1,h2⟩ | ⟨h1,h2⟩
      · refine .inl ⟨c::p,r,by rw [e];rfl,?_,?_⟩
        · intro x hx
          rcases List.mem_cons.1 hx with rfl | hx
          · exact h
          · exact h1 x hx
        · rw [List.takeWhile_cons,if_pos hb,h2]
      · refine .inr ⟨?_,?_⟩
        · intro x hx
          rcases List.mem_cons.1 hx with rfl | hx
          · exact h
          · exact h1 x hx
        · rw [List.takeWhile_cons,if_pos hb,h2]
theorem eW : ∀ (p r x : List By),(∀ c ∈ p,c≠10)→fq (p++r) x=fq r (x++p)
  | [],r,x,_=>by simp
  | c::p,r,x,h=>by
    show fq (c::(p++r)) x=_
    rw [fq,if_neg (h c (by simp)),eW p r (x++[c]) (fun y hy=>h y (by simp [hy]))]
    simp
theorem gN {d : List By} (h : d≠[]) : ∃ e,aR d=(bF (d.take (aA d)),e)::aR (d.drop (aA d))∧d.take (aA d)=bF (d.take (aA d))++e∧(aA d<d.length→e=[10]∧(bF (d.take (aA d))).getLast?≠some 13∨e=[13,10])∧(aA d<d.length→∃ p,d.take (aA d)=p++[10]∧∀ c ∈ p,c≠10):=by
  rcases ju d with ⟨p,r,e,h1,h2⟩ | ⟨h1,h2⟩
  · have hn : aA d=p.length+1:=by
      unfold aA
      rw [h2,if_pos (by rw [e];simp)]
    have ht : d.take (aA d)=p++[10]:=by
      rw [hn,e,show p++10::r=(p++[10])++r by simp]
      rw [List.take_left' (by simp)]
    have hd : d.drop (aA d)=r:=by
      rw [hn,e,show p++10::r=(p++[10])++r by simp]
      rw [List.drop_left' (by simp)]
    have hl : aR d=fq (10::r) p:=by
      unfold aR
      rw [e,eW p (10::r) [] h1]
      rfl
    rw [hd,ht,hl,fq,if_pos rfl]
    by_cases h13 : p.getLast?=some 13
    · obtain ⟨q,rfl⟩ : ∃ q,p=q++[13]:=List.getLast?_eq_some_iff.1 h13
      refine ⟨[13,10],?_,?_,fun _=>.inr rfl,fun _=>⟨_,rfl,h1⟩⟩
      · rw [if_pos h13,show (q++[13])++[10]=q++[13,10] by simp,js,List.dropLast_concat]
        rfl
      · rw [show (q++[13])++[10]=q++[13,10] by simp,js]
    · refine ⟨[10],?_,?_,fun _=>.inl ⟨rfl,?_⟩,fun _=>⟨_,rfl,h1⟩⟩
      · rw [if_neg h13,fZ h13]
        rfl
      · rw [fZ h13]
      · rw [fZ h13];exact h13
  · have hn : aA d=d.length:=by
      unfold aA
      rw [h2,if_neg (by omega)]
    have ht : d.take (aA d)=d:=by rw [hn,List.take_length]
    have hd : d.drop (aA d)=[]:=by rw [hn,List.drop_length]
    have hw : bF d=d:=mH (fun hh=>by
      have hm : (10 : By) ∈ d:=List.mem_of_getLast? hh
      exact h1 10 hm rfl)
    refine ⟨[],?_,?_,fun hh=>by omega,fun hh=>by omega⟩
    · rw [hd,ht,hw]
      unfold aR
      have:=eW d [] [] h1
      rw [List.append_nil,List.nil_append] at this
      rw [this,fq,if_neg h]
      rfl
    · rw [ht,hw,List.append_nil]
end jr
end
section
set_option maxRecDepth 10000
open Sl c6 jr
namespace Rw
theorem cO (s : ai) (m : Nat) : s.fst m=⟨s.ad,s.cap,s.l.take m⟩:=by
  unfold ai.fst
  congr 1
  split
  · rfl
  · cases s.ad <;> simp [Addr.add]
def cI (s : ai) : ai:=⟨s.ad,s.cap,bF s.l⟩
theorem gO (l : List Bt) : ∃ m,m≤l.length∧bF l=l.take m:=by
  unfold bF
  split
  · split
    · exact ⟨l.length - 1 - 1,by omega,by rw [List.dropLast_eq_take,List.dropLast_eq_take,List.take_take,List.length_take];congr 1;omega⟩
    · exact ⟨l.length - 1,by omega,by rw [List.dropLast_eq_take]⟩
  · exact ⟨l.length,Nat.le_refl _,by rw [List.take_length]⟩
theorem lg {s : ai} {w : World} (h : s.ok w) : (cI s).ok w:=by
  obtain ⟨m,_,e⟩:=gO s.l
  unfold cI
  rw [e,← cO]
  exact h.fst m
theorem jv (l : List Bt) (c : Bt) : mB l [c]=decide (l.getLast?=some c):=by
  unfold mB
  rcases List.eq_nil_or_concat l with rfl | ⟨p,x,rfl⟩
  · rfl
  · simp
    intro _
    omega
theorem fF : aM Tryd.prog 50:=⟨_,Tryd.func50,rfl,by kernel_rfl⟩
theorem lp (s d : ai) (c : Bt) (w : World) (hs : s.ok w) (hd : d.ok w) (hdl : d.l=[c]) (hl : s.l.length≤4611686018427387904) :
    Calls Tryd.prog 50 [s.v,d.v].toArray w fun e w'=>e=.returned (.tuple #[(if s.l.getLast?=some c then (⟨s.ad,s.cap,s.l.dropLast⟩ : ai) else s).v,.bool (decide (s.l.getLast?=some c))])∧Ext w w':=by
  have hsf:=fun (w' : World) (h1 : s.ok w') (h2 : d.ok w')=>jn s d w' h1 h2 hl
  rw [hdl,jv] at hsf
  have hdn : d.l.length=1:=by rw [hdl];rfl
  refine enter (n:=18) Tryd.func50 rfl rfl rfl (aa.start w []) ?_
  cases h : decide (s.l.getLast?=some c)
  · rw [h] at hsf
    rw [if_neg (of_decide_eq_false h)]
    repeat (first | refine JL.q (by first|(apply OQ.aH (vs:=[s.v,d.v]);exact c5;rfl;exact (fun w' hw'=>hsf w' (hs.holds hw' rfl) (hd.holds hw' rfl)))|(apply OQ.not;rfl)|(apply OQ.move;rfl)|(apply OQ.assign;rfl)) rfl ?_ | refine JC.seq ?_ | refine JC.region ?_ | refine JL.nil ?_ | refine JE.next ?_)
    refine JC.cond_true rfl rfl ?_
    repeat (first | refine JL.q (by first|(apply OQ.move;rfl)|(apply OQ.assign;rfl)) rfl ?_ | refine JC.seq ?_ | refine JC.region ?_ | refine JL.nil ?_ | refine JE.next ?_)
    refine JC.ret ?_
    repeat (refine JE.az ?_)
    exact JE.ot rfl (RV.tmp rfl) (RV.tmp rfl) fun w' hw=>⟨rfl,hw.aq⟩
  · rw [h] at hsf
    have hne : s.l≠[]:=fun e=>by rw [e] at h;cases h
    have hpos:=List.length_pos_iff.2 hne
    rw [if_pos (of_decide_eq_true h)]
    have he : (s.fst (s.l.length - d.l.length))=⟨s.ad,s.cap,s.l.dropLast⟩:=by rw [cO,List.dropLast_eq_take,hdn]
    repeat (first | refine JL.q (by first|(apply OQ.aH (vs:=[s.v,d.v]);exact c5;rfl;exact (fun w' hw'=>hsf w' (hs.holds hw' rfl) (hd.holds hw' rfl)))|(apply OQ.not;rfl)|(apply OQ.move;rfl)|(apply OQ.assign;rfl)) rfl ?_ | refine JC.seq ?_ | refine JC.region ?_ | refine JL.nil ?_ | refine JE.next ?_)
    refine JC.cond_false rfl rfl ?_
    rw [← he]
    repeat (first | refine JL.q (by first|(apply OQ.len (k:=s.l.length) (ad:=s.ad) (cap:=s.cap);exact Tryd.underlying22;rfl)|(apply OQ.len (k:=d.l.length) (ad:=d.ad) (cap:=d.cap);exact Tryd.underlying22;rfl)|(apply OQ.iq (a:=s.l.length) (b:=d.l.length);rfl;rfl;exact (by omega);exact (by omega))|(apply OQ.fst (s:=s) (m:=s.l.length - d.l.length);exact Tryd.underlying22;exact bG;rfl;rfl;exact (by omega);exact hs.len)|(apply OQ.move;rfl)|(apply OQ.assign;rfl)) rfl ?_ | refine JC.seq ?_ | refine JC.region ?_ | refine JC.skip ?_ | refine JL.nil ?_ | refine JE.next ?_)
    refine JC.ret ?_
    skip
    exact JE.ot rfl (RV.tmp rfl) (RV.tmp rfl) fun w' hw=>⟨rfl,hw.aq⟩
theorem jT : aM Tryd.prog 51:=⟨_,Tryd.func51,rfl,by kernel_rfl⟩
theorem lq (s d : ai) (c : Bt) (w : World) (hs : s.ok w) (hd : d.ok w) (hdl : d.l=[c]) (hl : s.l.length≤4611686018427387904) :
    Calls Tryd.prog 51 [s.v,d.v].toArray w fun e w'=>e=.returned ((if s.l.getLast?=some c then (⟨s.ad,s.cap,s.l.dropLast⟩ : ai) else s).v)∧Ext w w':=by
  have hsf:=fun (w' : World) (h1 : s.ok w') (h2 : d.ok w')=>jn s d w' h1 h2 hl
  rw [hdl,jv] at hsf
  have hdn : d.l.length=1:=by rw [hdl];rfl
  refine enter (n:=16) Tryd.func51 rfl rfl rfl (aa.start w []) ?_
  cases h : decide (s.l.getLast?=some c)
  · rw [h] at hsf
    rw [if_neg (of_decide_eq_false h)]
    repeat (first | refine JL.q (by first|(apply OQ.aH (vs:=[s.v,d.v]);exact c5;rfl;exact (fun w' hw'=>hsf w' (hs.holds hw' rfl) (hd.holds hw' rfl)))|(apply OQ.move;rfl)|(apply OQ.assign;rfl)) rfl ?_ | refine JC.seq ?_ | refine JC.region ?_ | refine JL.nil ?_ | refine JE.next ?_)
    refine JC.cond_false rfl rfl ?_
    repeat (first | refine JL.q (by first|(apply OQ.move;rfl)|(apply OQ.assign;rfl)) rfl ?_ | refine JC.seq ?_ | refine JC.region ?_ | refine JC.skip ?_ | refine JL.nil ?_ | refine JE.next ?_)
    refine JC.ret ?_
    skip
    exact JE.aN rfl (RV.tmp rfl) fun w' hw=>⟨rfl,hw.aq⟩
  · rw [h] at hsf
    have hne : s.l≠[]:=fun e=>by rw [e] at h;cases h
    have hpos:=List.length_pos_iff.2 hne
    rw [if_pos (of_decide_eq_true h)]
    have he : (s.fst (s.l.length - d.l.length))=⟨s.ad,s.cap,s.l.dropLast⟩:=by rw [cO,List.dropLast_eq_take,hdn]
    repeat (first | refine JL.q (by first|(apply OQ.aH (vs:=[s.v,d.v]);exact c5;rfl;exact (fun w' hw'=>hsf w' (hs.holds hw' rfl) (hd.holds hw' rfl)))|(apply OQ.move;rfl)|(apply OQ.assign;rfl)) rfl ?_ | refine JC.seq ?_ | refine JC.region ?_ | refine JL.nil ?_ | refine JE.next ?_)
    refine JC.cond_true rfl rfl ?_
    rw [← he]
    repeat (first | refine JL.q (by first|(apply OQ.len (k:=s.l.length) (ad:=s.ad) (cap:=s.cap);exact Tryd.underlying22;rfl)|(apply OQ.len (k:=d.l.length) (ad:=d.ad) (cap:=d.cap);exact Tryd.underlying22;rfl)|(apply OQ.iq (a:=s.l.length) (b:=d.l.length);rfl;rfl;exact (by omega);exact (by omega))|(apply OQ.fst (s:=s) (m:=s.l.length - d.l.length);exact Tryd.underlying22;exact bG;rfl;rfl;exact (by omega);exact hs.len)|(apply OQ.move;rfl)|(apply OQ.assign;rfl)) rfl ?_ | refine JC.seq ?_ | refine JC.region ?_ | refine JL.nil ?_ | refine JE.next ?_)
    refine JC.ret ?_
    repeat (refine JE.az ?_)
    exact JE.aN rfl (RV.tmp rfl) fun w' hw=>⟨rfl,hw.aq⟩
theorem cn {w0 w : World} {S : List Nat} {M : List ah} {b : Nat} {e : TypeId} {l : List Bt} {wr : Bool} (hw : aa w0 S M w) (hM : Has M b (Row e (l.map U8)) wr) : ai.ok w ⟨some ⟨b,0,none⟩,l.length,l⟩:=by
  obtain ⟨o,ho,hA⟩:=hw.get hM
  exact ⟨Nat.le_refl _,Reads.block ho (Row.all _ hA)⟩
theorem jU : aM Tryd.prog 31:=⟨_,Tryd.func31,rfl,by kernel_rfl⟩
set_option maxHeartbeats 4000000 in
theorem lu (s : ai) (w : World) (hs : s.ok w) (hl : s.l.length≤4611686018427387904) :
    Calls Tryd.prog 31 [s.v].toArray w fun e w'=>e=.returned (cI s).v∧Ext w w':=by
  refine enter (n:=17) Tryd.func31 rfl rfl rfl (aa.start w []) ?_
  repeat (first | refine JL.q (by first|(apply OQ.move;rfl)|(apply OQ.assign;rfl)) rfl ?_ | refine JC.seq ?_ | refine JC.region ?_ | refine JL.nil ?_ | refine JE.next ?_)
  refine JL.iz (v:=U8 (10 : BitVec 8)) Tryd.underlying22 iC rfl rfl rfl rfl fun bl _=>?_
  have c1:=fun (w' : World) (h1 : s.ok w') (h2 : ai.ok w' ⟨some ⟨bl,0,none⟩,1,[10]⟩)=>lp s ⟨some ⟨bl,0,none⟩,1,[10]⟩ 10 w' h1 h2 rfl hl
  cases h : decide (s.l.getLast?=some 10)
  · rw [h,if_neg (of_decide_eq_false h)] at c1
    have ht : cI s=s:=by unfold cI bF;rw [if_neg (of_decide_eq_false h)]
    rw [ht]
    repeat (first | refine JL.q (by first|(apply OQ.aH (vs:=[s.v,.slice (some ⟨bl,0,none⟩) 1 1]);exact fF;rfl;exact (fun w' hw'=>c1 w' (hs.holds hw' rfl) (cn (l:=[10]) hw' .here)))|(apply OQ.extract;rfl;rfl)|(apply OQ.not;rfl)|(apply OQ.move;rfl)|(apply OQ.assign;rfl)) rfl ?_ | refine JC.seq ?_ | refine JC.region ?_ | refine JL.nil ?_ | refine JE.next ?_)
    refine JC.cond_true rfl rfl ?_
    repeat (first | refine JL.q (by first|(apply OQ.move;rfl)|(apply OQ.assign;rfl)) rfl ?_ | refine JC.seq ?_ | refine JC.region ?_ | refine JL.nil ?_ | refine JE.next ?_)
    refine JC.ret ?_
    repeat (refine JE.az ?_)
    exact JE.aN rfl (RV.tmp rfl) fun w' hw=>⟨rfl,hw.aq⟩
  · have h10:=of_decide_eq_true h
    rw [h,if_pos h10] at c1
    obtain ⟨r,hr⟩ : ∃ r : ai,(⟨s.ad,s.cap,s.l.dropLast⟩ : ai)=r:=⟨_,rfl⟩
    have rok : ∀ {w' : World},s.ok w'→r.ok w':=fun {w'} h=>by
      rw [← hr,List.dropLast_eq_take,← cO]
      exact h.fst _
    have hrl : r.l.length≤4611686018427387904:=by
      rw [← hr]
      simp only [List.length_dropLast]
      omega
    have c2:=fun (b2 : Nat) (w' : World) (h1 : r.ok w') (h2 : ai.ok w' ⟨some ⟨b2,0,none⟩,1,[13]⟩)=>lq r ⟨some ⟨b2,0,none⟩,1,[13]⟩ 13 w' h1 h2 rfl hrl
    have ht : (if r.l.getLast?=some 13 then (⟨r.ad,r.cap,r.l.dropLast⟩ : ai) else r)=cI s:=by
      unfold cI bF
      rw [if_pos h10,← hr]
      dsimp only
      split <;> rfl
    rw [ht] at c2
    rw [hr] at c1
    repeat (first | refine JL.q (by first|(apply OQ.aH (vs:=[s.v,.slice (some ⟨bl,0,none⟩) 1 1]);exact fF;rfl;exact (fun w' hw'=>c1 w' (hs.holds hw' rfl) (cn (l:=[10]) hw' .here)))|(apply OQ.extract;rfl;rfl)|(apply OQ.not;rfl)|(apply OQ.move;rfl)|(apply OQ.assign;rfl)) rfl ?_ | refine JC.seq ?_ | refine JC.region ?_ | refine JL.nil ?_ | refine JE.next ?_)
    refine JC.cond_false rfl rfl ?_
    repeat (first | refine JL.q (by (apply OQ.move;rfl)) rfl ?_ | refine JC.seq ?_ | refine JC.region ?_ | refine JC.skip ?_ | refine JE.next ?_)
    refine JL.iz (v:=U8 (13 : BitVec 8)) Tryd.underlying22 iC rfl rfl rfl rfl fun b2 _=>?_
    repeat (first | refine JL.q (by first|(apply OQ.aH (vs:=[r.v,.slice (some ⟨b2,0,none⟩) 1 1]);exact jT;rfl;exact (fun w' hw'=>c2 b2 w' (rok (hs.holds hw' rfl)) (cn (l:=[13]) hw' .here)))|(apply OQ.assign;rfl)) rfl ?_ | refine JL.nil ?_ | refine JE.next ?_)
    refine JC.ret ?_
    skip
    exact JE.aN rfl (RV.tmp rfl) fun w' hw=>⟨rfl,hw.aq⟩
theorem gP : aM Tryd.prog 30:=⟨_,Tryd.func30,rfl,by kernel_rfl⟩
def mI (b : Nat) : Value:=.func (.func 49) #[] #[Pt b 0]
theorem iM (s : ai) (w : World) : Calls Tryd.prog 30 [s.v].toArray w fun e w'=>∃ b : Nat,e=.returned (mI b)∧aa w [] [⟨b,Row 22 [s.v],true⟩] w':=by
  refine enter (n:=4) Tryd.func30 rfl rfl rfl (aa.start w []) ?_
  refine JC.seq (JC.region (JL.box (r:=[s.v]) rfl rfl rfl fun b _=>?_))
  repeat (first | refine JL.q (by first|(apply OQ.qd (caps:=[Pt b 0]);rfl)|(apply OQ.assign;rfl)) rfl ?_ | refine JC.seq ?_ | refine JC.region ?_ | refine JL.nil ?_ | refine JE.next ?_)
  refine JC.ret ?_
  skip
  exact JE.aN rfl (RV.tmp rfl) fun w' hw=>⟨b,rfl,hw⟩
theorem eX : aM Tryd.prog 16:=⟨_,Tryd.func16,rfl,by kernel_rfl⟩
def iN (b : Nat) : Value:=.func (.func 29) #[] #[Pt b 0]
theorem fG (s : ai) (w : World) : Calls Tryd.prog 16 [s.v].toArray w fun e w'=>∃ b : Nat,e=.returned (iN b)∧aa w [] [⟨b,Row 22 [s.v],true⟩] w':=by
  refine enter (n:=4) Tryd.func16 rfl rfl rfl (aa.start w []) ?_
  refine JC.seq (JC.region (JL.box (r:=[s.v]) rfl rfl rfl fun b _=>?_))
  repeat (first | refine JL.q (by first|(apply OQ.qd (caps:=[Pt b 0]);rfl)|(apply OQ.assign;rfl)) rfl ?_ | refine JC.seq ?_ | refine JC.region ?_ | refine JL.nil ?_ | refine JE.next ?_)
  refine JC.ret ?_
  skip
  exact JE.aN rfl (RV.tmp rfl) fun w' hw=>⟨b,rfl,hw⟩
end Rw
end
section
set_option maxRecDepth 10000
open Sl c6 jr
namespace Rw
def aC (l : List Bt) : Nat→Nat
  | 0=>0
  | k+1=>aC l k+aA (l.drop (aC l k))
def dh (r : ai) : ai:=if (r.l.takeWhile (· != 10)).length<r.l.length then r.snd ((r.l.takeWhile (· != 10)).length+1) else ⟨none,0,[]⟩
def bw (s : ai) : Nat→ai
  | 0=>s
  | k+1=>dh (bw s k)
def ct (r : ai) : ai:=⟨r.ad,r.cap,r.l.take (aA r.l)⟩
def fH (r : ai) : ai:=⟨r.ad,aA r.l,r.l.take (aA r.l)⟩
theorem mJ (r : ai) : (dh r).l=r.l.drop (aA r.l):=by
  unfold dh aA
  split
  · rfl
  · rw [List.drop_length]
theorem dJ (s : ai) : ∀ k,(bw s k).l=s.l.drop (aC s.l k)
  | 0=>rfl
  | k+1=>by
    show (dh (bw s k)).l=_
    rw [mJ,dJ s k,List.drop_drop]
    rfl
theorem lz {r : ai} {w : World} (h : r.ok w) : (dh r).ok w:=by
  unfold dh
  split
  · rename_i h0
    exact h.snd _ h0
  · exact ⟨Nat.le_refl _,Reads.nil _ _⟩
theorem di {s : ai} {w : World} (h : s.ok w) : ∀ k,(bw s k).ok w
  | 0=>h
  | k+1=>lz (di h k)
theorem mK {r : ai} {w : World} (h : r.ok w) : (ct r).ok w:=by
  unfold ct
  rw [← cO]
  exact h.fst _
theorem eY {r : ai} {w : World} (h : r.ok w) : (fH r).ok w:=
  ⟨by show (r.l.take _).length≤aA r.l;rw [List.length_take];exact Nat.min_le_left _ _,(mK h).reads⟩
theorem cP (l : List Bt) : ∀ k,aC l k≤l.length
  | 0=>Nat.zero_le _
  | k+1=>by
    have:=cP l k
    have h:=fY (l.drop (aC l k))
    rw [List.length_drop] at h
    show aC l k+_≤_
    omega
theorem lA {d : List Bt} : aR d=[]↔d=[]:=by
  constructor
  · intro h
    by_cases hd : d=[]
    · exact hd
    · obtain ⟨e,h1,_⟩:=gN hd
      rw [h1] at h
      cases h
  · rintro rfl;rfl
theorem jw (l : List Bt) : ∀ k,aR (l.drop (aC l k))=(aR l).drop k
  | 0=>rfl
  | k+1=>by
    have ih:=jw l k
    by_cases hd : l.drop (aC l k)=[]
    · have e : aC l (k+1)=aC l k:=by
        show aC l k+aA (l.drop (aC l k))=_
        rw [hd]
        rfl
      have h1 : (aR l).drop k=[]:=by rw [← ih,hd];rfl
      rw [e,hd,← List.drop_drop (i:=1),h1]
      rfl
    · obtain ⟨e,h1,_⟩:=gN hd
      rw [h1,List.drop_drop] at ih
      show aR (l.drop (aC l k+aA (l.drop (aC l k))))=_
      rw [← List.drop_drop (i:=1),← ih]
      rfl
theorem eZ (l : List Bt) (k : Nat) : k<(aR l).length↔aC l k<l.length:=by
  have h:=congrArg List.length (jw l k)
  rw [List.length_drop] at h
  have h2 : (aR (l.drop (aC l k))).length=0↔l.length≤aC l k:=by
    rw [List.length_eq_zero_iff,lA,List.drop_eq_nil_iff]
  omega
def cF (s : ai) : List Nat:=match s.l,s.ad with
  | _::_,some a=>[a.block]
  | _,_=>[]
theorem bT {s : ai} {w : World} (h : s.ok w) : ∀ k ∈ cF s,k<w.heap.size:=by
  obtain ⟨ad,cap,l⟩:=s
  intro k hk
  cases l with
  | nil=>cases hk
  | cons c r=>
    cases ad with
    | none=>cases hk
    | some a=>
      obtain rfl:=List.mem_singleton.1 hk
      exact h.lt (by simp) a rfl
theorem b7 {s : ai} {w w' : World} (h : s.ok w) (hk : ∀ k ∈ cF s,w'.heap[k]?=w.heap[k]?) : s.ok w':=by
  obtain ⟨ad,cap,l⟩:=s
  refine ⟨h.len,fun i v hv=>?_⟩
  obtain ⟨b,j,e,c⟩:=h.reads i v hv
  refine ⟨b,j,e,?_⟩
  dsimp only at hv e
  subst e
  cases l with
  | nil=>simp at hv
  | cons c' r=>
    have hb : w'.heap[b]?=w.heap[b]?:=hk b (List.mem_singleton.2 rfl)
    unfold World.cell? at c ⊢
    rw [hb]
    exact c
theorem pR (r : ai) (m : Nat) (h : r.l.length=m) : (.slice (if m=0 then r.ad else r.ad.map (·.add 0)) m m : Value)=(⟨r.ad,m,r.l⟩ : ai).v:=by
  unfold ai.v
  have e : (if m=0 then r.ad else r.ad.map (·.add 0))=r.ad:=by
    split
    · rfl
    · cases r.ad <;> simp [Addr.add]
  rw [e,h]
theorem b8 {P : Program} {n : Nat} {E : Env} {dst : Option Tmp} {t ty : TypeId} {pos : String} {aft : Array Edge} {g : Option (Nat × Bool)} {x : Operand} {b j : Nat} {v : Value} {W : World} {o : Obj} (hs : dy P t=true) (hx : ev E x=some (.pointer (some ⟨b,j,none⟩))) (ho : W.heap[b]?=some o) (hA : cellAt o j=some v) : OQ P n E (fun w=>w=W) ⟨dst,.load t x,ty,pos,aft,g⟩ v:=
  OQ.cg (fun _ hw=>by rw [hw];exact aS hs (cell_of ho hA)) hx
def mL (s : ai) (k : Nat) : Value:=(fH (bw s k)).v
set_option maxHeartbeats 8000000 in
theorem iO (s : ai) (bs : Nat) (hl : s.l.length≤4611686018427387904) (W0 : World) (hs : s.ok W0) (hn : ∀ k ∈ cF s,k≠bs) {t : TypeId} (hb : W0.heap[bs]?=some (.cells #[s.v] t (0,0))) :
    k6 Tryd.prog 49 #[Pt bs 0] (fun k=>#[mL s k]) (fun b=>b ∈ [bs]) (cF s) (aR s.l).length W0:=by
  intro l J X W hW hst hsx hlt hY h0
  have hbs : bs<W0.heap.size:=(Array.getElem?_eq_some_iff.1 hb).1
  refine callsIn_wide.2 ?_
  refine nY (n:=30) (vs:=[.func (.yield l) #[] #[],Pt bs 0]) Tryd.func49 rfl rfl rfl ?_
  refine FC.block (FC.loop (fun k : Nat=>[(0,.func (.yield l) #[] #[]),(1,Pt bs 0)])
    (fun k w=>k≤(aR s.l).length∧s.ok w∧w.heap[bs]?=some (.cells #[(bw s k).v] t (0,0))∧∃ O : BP,J k O w∧O bs) (fun k=>(aR s.l).length - k) 0 ⟨Nat.zero_le _,b7 hs fun k hk=>hW k (bT hs k hk),(hW bs hbs).trans hb,_,h0,List.mem_singleton.2 rfl⟩ (by repeat (first | exact aj.nil | refine aj.cons _ _ _ rfl ?_)) ?_)
  rintro k w ⟨hk,ok,hw,O,hJ,hO⟩
  have okR:=fun w (h : s.ok w)=>di (w:=w) h k
  have okr:=okR w ok
  have hrl:=dJ s k
  have hnx : bw s (k+1)=dh (bw s k):=rfl
  have hen : mL s k=(fH (bw s k)).v:=rfl
  have hlt:=eZ s.l k
  have hdl : (bw s k).l.length=s.l.length - aC s.l k:=by rw [hrl,List.length_drop]
  have hYk:=fun O w' hk=>hY k O w' hk
  dsimp only at hYk
  rw [hen] at hYk
  generalize bw s k=r at *
  have hc0 : cellAt (.cells #[r.v] t (0,0)) 0=some r.v:=rfl
  refine GC.wide (m:=3) ?_
  repeat (first | refine GL.q (by first|(apply b8;rfl;rfl;exact hw;exact hc0)|(apply OQ.len (k:=r.l.length) (ad:=r.ad) (cap:=r.cap);exact Tryd.underlying22;rfl)|(apply OQ.iF (b:=0);rfl;rfl;rfl)) rfl rfl ?_ | refine GC.seq ?_ | refine GC.region ?_ | refine GL.nil ?_ | refine FE.cy ?_)
  refine GC.cond rfl (fun h=>?_) (fun h=>?_)
  rotate_left
  · have hkp : k=(aR s.l).length:=by
      have:=of_decide_eq_false h
      omega
    clear h
    subst hkp
    repeat (first | refine GC.exit ?_ | refine FE.aJ ?_ | refine FE.bk ?_)
    exact FE.nK rfl ⟨⟨_,rfl⟩,O,.inl hJ⟩
  have hpos : 0<r.l.length:=by have:=of_decide_eq_true h;omega
  clear h
  have hkp : k<(aR s.l).length:=by omega
  have hrl : r.l.length≤4611686018427387904:=by omega
  have hcap:=okr.len
  have hraw : aA r.l=if (r.l.takeWhile (· != 10)).length<r.l.length then (r.l.takeWhile (· != 10)).length+1 else r.l.length:=rfl
  have hrw:=fY r.l
  have hix : kO 10 r.l=if (r.l.takeWhile (· != 10)).length<r.l.length then (((r.l.takeWhile (· != 10)).length : Nat) : Int) else -1:=rfl
  have hpr : r.fst (aA r.l)=ct r:=cO r _
  have hr1 : dh r=if (r.l.takeWhile (· != 10)).length<r.l.length then r.snd ((r.l.takeWhile (· != 10)).length+1) else ⟨none,0,[]⟩:=rfl
  repeat (first | refine GL.q (by first|(apply b8;rfl;rfl;exact hw;exact hc0)|(apply OQ.assign;rfl)) rfl rfl ?_ | refine GC.seq ?_ | refine GC.region ?_ | refine GC.block ?_ | refine GC.skip ?_ | refine GL.nil ?_ | refine FE.cy ?_)
  refine GL.aH (vs:=[r.v,U8 10]) fC rfl rfl (gH r 10 w okr) fun w1 hx=>?_
  have ok:=ok.ext hx
  have hJ:=hst _ _ _ _ hJ (bz.dH hx)
  have hO : grown O w w1 bs:=.inl hO
  generalize grown O w w1=O1 at *
  have hw:=(hx.block _ (Array.getElem?_eq_some_iff.1 hw).1 (by simp)).trans hw
  have okr:=okr.ext hx
  clear hx
  rw [hix]
  refine GL.q (OQ.assign rfl) rfl rfl (GL.nil (FE.cy ?_))
  obtain ⟨f,hf⟩ : ∃ f,decide ((r.l.takeWhile (· != 10)).length<r.l.length)=f:=⟨_,rfl⟩
  have hg : decide ((0 : Int)≤(if (r.l.takeWhile (· != 10)).length<r.l.length then (((r.l.takeWhile (· != 10)).length : Nat) : Int) else -1))=f:=by
    cases f
    · rw [if_neg (of_decide_eq_false hf)];rfl
    · rw [if_pos (of_decide_eq_true hf)];exact decide_eq_true (by omega)
  repeat (first | refine GL.q (by first|(apply OQ.jN (b:=0);rfl;rfl;exact hg)|(apply OQ.move;rfl)) rfl rfl ?_ | refine GC.seq ?_ | refine GC.region ?_ | refine GL.nil ?_ | refine FE.cy ?_)
  refine GC.meet (fun w=>s.ok w∧w.heap[bs]?=some (.cells #[(dh r).v] t (0,0))∧∃ O : BP,J k O w∧O bs) [(0,.func (.yield l) #[] #[]),(1,Pt bs 0),(3,(ct r).v)] ?_ ?_
  · cases f
    case true=>
      have hf:=of_decide_eq_true hf
      rw [if_pos hf] at hraw hr1 ⊢
      generalize (r.l.takeWhile (· != 10)).length=m at *
      refine GC.cond rfl (fun _=>?_) (fun h=>by cases h)
      rw [hraw] at hpr
      refine GC.tail 9 (by kernel_rfl) rfl (by kernel_rfl) ?_
      have hw2 : ({ w1 with drawn:=w1.drawn+1 } : World).heap[bs]?=some (.cells #[r.v] t (0,0)):=hw
      repeat (refine GQ.q (by first|(apply b8;rfl;rfl;exact hw2;exact hc0)|(apply OQ.bn (a:=m) (b:=1);rfl;rfl;exact (by omega))|(apply OQ.fst (s:=r) (m:=m+1);exact Tryd.underlying22;exact bG;rfl;rfl;exact (by omega);exact hcap)|(apply OQ.snd (s:=r) (m:=m+1);exact Tryd.underlying22;exact bG;rfl;rfl;exact (by omega))|(apply OQ.move;rfl)|(apply OQ.assign;rfl)) rfl ?_)
      refine GQ.nil ?_
      refine GL.ld (by rfl) rfl rfl rfl rfl hw2 fun w2 hc hs2 hb2=>?_
      rw [← hr1] at hb2
      have hj1:=hst _ _ _ (W2:={ w1 with drawn:=w1.drawn+1 }) hJ ⟨rfl,rfl,rfl,Nat.le_refl _,fun _ _ _=>rfl⟩
      have hj2:=hst _ _ _ _ hj1 (hc.mono (fun b hb=>hb ▸ .inl hO))
      have mA : s.ok w2:=b7 ok fun b hb=>hc.same b (bT ok b hb) (hn b hb)
      rw [hpr]
      refine GL.nil (FE.oJ (by repeat (first | exact aj.nil | refine aj.cons _ _ _ rfl ?_)) ⟨mA,hb2,_,hj2,.inl (.inl hO)⟩)
    case false=>
      have hf:=of_decide_eq_false hf
      rw [if_neg hf] at hraw hr1 ⊢
      refine GC.cond rfl (fun h=>by cases h) (fun _=>?_)
      have hpv : ct r=r:=by
        unfold ct
        rw [hraw,List.take_length]
      rw [hpv]
      refine GC.region ?_
      refine GL.q (b8 rfl rfl hw hc0) rfl rfl (GL.q (OQ.assign rfl) rfl rfl ?_)
      refine GL.ld (v:=.slice none 0 0) (by rfl) rfl rfl rfl rfl hw fun w2 hc hs2 hb2=>?_
      have hj2:=hst _ _ _ _ hJ (hc.mono (fun b hb=>hb ▸ hO))
      have mA : s.ok w2:=b7 ok fun b hb=>hc.same b (bT ok b hb) (hn b hb)
      rw [hr1]
      exact GL.nil (FE.oJ (by repeat (first | exact aj.nil | refine aj.cons _ _ _ rfl ?_)) ⟨mA,hb2,_,hj2,.inl hO⟩)
  · rintro w2 ⟨mA,hw2,O2,hJ2,hO2⟩
    have hY2:=hYk O2 w2 hkp hJ2
    have hln : (ct r).l.length=aA r.l:=by
      show (r.l.take _).length=_
      rw [List.length_take]
      omega
    have h3 : (.slice (if aA r.l=0 then (ct r).ad else (ct r).ad.map (·.add 0)) (aA r.l) (aA r.l) : Value)=(fH r).v:=pR (ct r) _ hln
    repeat (first | refine GL.q (by first|(apply OQ.len (k:=(ct r).l.length) (ad:=(ct r).ad) (cap:=(ct r).cap);exact Tryd.underlying22;rfl)|(apply OQ.mu (hi:=(ct r).l.length) (mx:=(ct r).l.length) (len:=(ct r).l.length) (cap:=(ct r).cap) (ad:=(ct r).ad);exact Tryd.underlying22;exact bG;rfl;rfl;rfl;exact (Nat.le_refl _);exact (by rw [hln];exact Nat.le_trans hrw hcap))|(apply OQ.move;rfl)) rfl rfl ?_ | refine GC.seq ?_ | refine GC.region ?_)
    rw [hln,h3]
    refine GL.yield (vs:=[(fH r).v]) rfl rfl rfl hY2 ?_
    rintro e w3 ⟨hK,(⟨rfl,hJ3⟩ | ⟨rfl,hX3⟩)⟩
    · refine ⟨true,rfl,?_⟩
      repeat (first | refine GL.q (by (apply OQ.not;rfl)) rfl rfl ?_ | refine GL.nil ?_ | refine FE.cy ?_)
      refine GC.cond rfl (fun h=>by cases h) (fun _=>?_)
      repeat (first | refine GC.skip ?_ | refine FE.au ?_)
      exact FE.again (i:=k) (k+1) ⟨hkp,b7 mA fun b hb=>hK.same b hb,(hK.own bs hO2).trans (by rw [hnx];exact hw2),O2,hJ3,hO2⟩ (by omega) (by repeat (first | exact aj.nil | refine aj.cons _ _ _ rfl ?_))
    · refine ⟨false,rfl,?_⟩
      repeat (first | refine GL.q (by (apply OQ.not;rfl)) rfl rfl ?_ | refine GL.nil ?_ | refine FE.cy ?_)
      refine GC.cond rfl (fun _=>?_) (fun h=>by cases h)
      refine GC.ret ?_
      repeat (first | refine FE.az ?_ | refine FE.aU ?_)
      exact FE.pO rfl ⟨⟨_,rfl⟩,O2,.inr hX3⟩
end Rw
end
section
set_option maxRecDepth 10000
open Sl c6 jr
namespace Rw
def b9 (s : ai) (k : Nat) : ai:=fH (bw s k)
def aD (s : ai) (k : Nat) : ai:=cI (b9 s k)
def aI (s : ai) (k : Nat) : ai:=(b9 s k).snd (aD s k).l.length
theorem iP (s : ai) (k : Nat) : (aD s k).l.length≤(b9 s k).l.length:=by
  obtain ⟨m,h,e⟩:=gO (b9 s k).l
  unfold aD cI
  dsimp only
  rw [e,List.length_take]
  omega
set_option maxHeartbeats 8000000 in
theorem jV (s : ai) (bb : Nat) (hl : s.l.length≤4611686018427387904) (W0 : World) (hs : s.ok W0) (hn : ∀ k ∈ cF s,k≠bb) {t : TypeId} (hb : W0.heap[bb]?=some (.cells #[s.v] t (0,0))) :
    k6 Tryd.prog 29 #[Pt bb 0] (fun k=>#[(aD s k).v,(aI s k).v]) (fun b=>b ∈ [bb]) (cF s) (aR s.l).length W0:=by
  intro l J X W hW hst hsx hOlt hY h0
  have hbb : bb<W0.heap.size:=(Array.getElem?_eq_some_iff.1 hb).1
  have hw0 : W.heap[bb]?=some (.cells #[s.v] t (0,0)):=(hW bb hbb).trans hb
  have ok : s.ok W:=b7 hs fun k hk=>hW k (bT hs k hk)
  have hlb:=bT ok
  clear hW hb hs
  have hbb : bb<W.heap.size:=(Array.getElem?_eq_some_iff.1 hw0).1
  refine n3 (n:=18) (vs:=[.func (.yield l) #[] #[],Pt bb 0]) Tryd.func29 rfl rfl rfl ?_
  refine GC.seq (GC.region ?_)
  refine GL.box rfl rfl rfl fun W1 hx1 hs1 hy1=>?_
  have hj1:=hst _ _ _ _ h0 (bz.dH hx1)
  refine GL.nil (FE.cy (GC.seq (GC.region ?_)))
  have hc0 : ∀ u : Value,cellAt (.cells #[u] t (0,0)) 0=some u:=fun _=>rfl
  have hw1:=(hx1.block bb hbb (by simp)).trans hw0
  refine GL.q (b8 rfl rfl hw1 (hc0 _)) rfl rfl ?_
  refine GL.ny (vs:=[s.v]) gP rfl rfl (iM s W1) ?_
  rintro e W2 ⟨bs,rfl,hH⟩
  refine ⟨_,rfl,?_⟩
  have hx2 : Ext W1 W2:=hH.aq
  have hbs : W1.heap.size≤bs:=((hH.all _ (List.mem_singleton.2 rfl)).2 rfl).resolve_left (by simp)
  obtain ⟨o,ho,hA⟩:=(hH.all _ (List.mem_singleton.2 rfl)).1
  have ho : W2.heap[bs]?=some (.cells #[s.v] 22 (0,0)):=by rw [ho];exact congrArg some hA
  have hbs2 : bs<W2.heap.size:=(Array.getElem?_eq_some_iff.1 ho).1
  have hj2:=hst _ _ _ _ hj1 (bz.dH hx2)
  have mA : s.ok W2:=(ok.ext hx1).ext hx2
  have hy2:=(hx2.block W.heap.size (by omega) (by simp)).trans hy1
  have hz2:=hx2.size
  clear hw0 hw1 hA hH
  refine GL.nil (FE.cy (GC.block ?_))
  refine GC.pQ (J:=J) (X:=X) (N:=(aR s.l).length) (mL s) (fun b=>b ∈ [bs]) (cF s) (cF s) [W.heap.size] (grown (grown (fun b=>b ∈ [bb]) W W1) W1 W2) rfl (enters_of Tryd.func49 (by kernel_rfl) rfl)
    (iO s bs hl W2 mA (fun k hk=>by have:=hlb k hk;omega) ho) rfl rfl hst hsx hOlt (fun b hb=>by
      obtain rfl:=List.mem_singleton.1 hb
      exact ⟨.inr ⟨hbs,hbs2⟩,hbs2⟩) (fun _ h=>h) (fun b hb=>by
      have h1:=hlb b hb
      refine ⟨?_,by omega⟩
      rintro ((h | h) | h)
      · exact hn b hb (List.mem_singleton.1 h)
      · omega
      · omega) (fun b hb=>by
      obtain rfl:=List.mem_singleton.1 hb
      refine ⟨.inl (.inr ⟨Nat.le_refl _,by omega⟩),fun h=>?_,by omega⟩
      have:=List.mem_singleton.1 h
      omega) hj2 ?_ ?_ ?_
  · intro r k O1 V hk hJ hL hC hz hO
    have hyV : V.heap[W.heap.size]?=_:=(hC _ (List.mem_singleton.2 rfl)).trans hy2
    have okV : s.ok V:=b7 mA hL
    have okl : (b9 s k).ok V:=eY (di okV k)
    have hv : mL s k=(b9 s k).v:=rfl
    have ht : aD s k=cI (b9 s k):=rfl
    have he : aI s k=(b9 s k).snd (aD s k).l.length:=rfl
    have hle:=iP s k
    have hYk:=fun O' V' hJ'=>hY k O' V' hk hJ'
    dsimp only at hYk
    have hcap:=okl.len
    have hll : (b9 s k).l.length≤4611686018427387904:=by
      show ((bw s k).l.take _).length≤_
      rw [List.length_take,dJ,List.length_drop]
      omega
    rw [hv]
    rw [he] at hYk
    have htx:=lu (b9 s k)
    rw [← ht] at htx
    clear he ht hv
    generalize b9 s k=L at *
    generalize aD s k=T at *
    repeat (first | refine GL.q (by (apply OQ.move;rfl)) rfl rfl ?_ | refine GC.seq ?_ | refine GC.region ?_ | refine GC.block ?_)
    refine GL.aH (vs:=[L.v]) jU rfl rfl (htx V okl hll) fun V1 hx=>?_
    repeat (first | refine GL.q (by (apply OQ.assign;rfl)) rfl rfl ?_ | refine GC.seq ?_ | refine GL.nil ?_ | refine FE.cy ?_)
    have hj3:=hst _ _ _ _ hJ (bz.dH hx)
    have hj4:=hst _ _ _ (W2:={ V1 with drawn:=V1.drawn+1 }) hj3 ⟨rfl,rfl,rfl,Nat.le_refl _,fun _ _ _=>rfl⟩
    have hyW : ({ V1 with drawn:=V1.drawn+1 } : World).heap[W.heap.size]?=some (.cells #[.func (.yield l) #[] #[]] 27 (0,0)):=(hx.block _ (Array.getElem?_eq_some_iff.1 hyV).1 (by simp)).trans hyV
    have hY4:=hYk _ _ hj4
    refine GC.tail 6 (by kernel_rfl) rfl (by kernel_rfl) ?_
    repeat (refine GQ.q (by first|(apply b8;rfl;rfl;exact hyW;rfl)|(apply OQ.len (k:=T.l.length) (ad:=T.ad) (cap:=T.cap);exact Tryd.underlying22;rfl)|(apply OQ.snd (s:=L) (m:=T.l.length);exact Tryd.underlying22;exact bG;rfl;rfl;exact hle)|(apply OQ.move;rfl)) rfl ?_)
    refine GQ.nil ?_
    refine GL.yield (vs:=[T.v,(L.snd T.l.length).v]) rfl rfl rfl hY4 ?_
    have hL4 : ∀ b ∈ cF s,b<V.heap.size:=fun b hb=>by have:=hlb b hb;have:=hx1.size;omega
    have hk0 : bE O1 (cF s) V { V1 with drawn:=V1.drawn+1 }:=by
      have : bE O1 (cF s) V V1:=bE.dH hx (hOlt k O1 V hJ) hL4
      exact ⟨this.size,this.own,this.same⟩
    have hsub : ∀ b,O1 b→grown (grown O1 V V1) V1 { V1 with drawn:=V1.drawn+1 } b:=fun b hb=>.inl (.inl hb)
    have hback : ∀ b,b<V.heap.size→grown (grown O1 V V1) V1 { V1 with drawn:=V1.drawn+1 } b→O1 b:=fun b hb h=>by
      have:=hx.size
      rcases h with (h | h) | h
      · exact h
      · omega
      · have : b<V1.heap.size:=h.2
        omega
    rintro e V2 ⟨hK,(⟨rfl,hJ5⟩ | ⟨rfl,hX5⟩)⟩
    · refine ⟨true,rfl,?_⟩
      have hK1 : bE O1 (cF s) V V2:=hk0.trans ⟨hK.size,fun b hb=>hK.own b (hsub b hb),hK.same⟩
      refine GL.q (OQ.not rfl) rfl rfl (GL.nil ?_)
      repeat (refine FE.cy ?_)
      refine GC.cond rfl (fun h=>by cases h) (fun _=>?_)
      repeat (first | refine GC.skip ?_ | refine FE.au ?_)
      exact ⟨fun a ha=>⟨_,hK1,hsub,hback,hJ5⟩⟩
    · refine ⟨false,rfl,?_⟩
      have hK1 : bE O1 (cF s) V V2:=hk0.trans ⟨hK.size,fun b hb=>hK.own b (hsub b hb),hK.same⟩
      refine GL.q (OQ.not rfl) rfl rfl (GL.nil ?_)
      repeat (refine FE.cy ?_)
      refine GC.cond rfl (fun _=>?_) (fun h=>by cases h)
      refine GC.ret ?_
      repeat (refine FE.aU ?_)
      exact ⟨fun a ha=>⟨_,hK1,hsub,hX5⟩⟩
  · intro D O' W' hJ' hD hDe a' ha'
    exact dg (.inl rfl) ha' rfl hDe ⟨⟨_,rfl⟩,_,.inl (hst _ _ _ _ hJ' (bz.put _ hD))⟩
  · intro D O' W' hX' hD hDe a' ha'
    exact dg (.inr rfl) ha' rfl hDe ⟨⟨_,rfl⟩,_,.inr (hsx _ _ _ hX' (bz.put _ hD))⟩
end Rw
end
section
set_option maxRecDepth 10000
namespace Sl
section
variable {P : Program} {t tx e : TypeId}
theorem ep (w : World) (ty : TypeId) (i : TypeInfo) (ht : P.underlying t=some (.slice e)) (hk : P.underlying tx=some (.int .i64)) (hi : P.info? e=some i) (hz : i.zero=some (.int .u8 0)) (hs : i.size=1) (hb : i.bytes=1)
    (m : Nat) (hm : m≤281474976710656) (h0 : 0<m) (hfit : Builtin.nextslicecap m 0 * i.bytes≤281474976710656) :
    (Builtin.append_ #[t,tx] ty #[.slice none 0 0,N m]).run P w =
      .ok (.slice (some ⟨w.heap.size,0,none⟩) m (grownCap w m 0 e))
        (w.drew.alloc (.cells ((List.replicate m (Value.int .u8 0)).toArray++Builtin.zeroCells #[.int .u8 0] (grownCap w m 0 e - m)) e)):=by
  have h48' : ¬ (281474976710656<Builtin.nextslicecap m 0):=by rw [hb] at hfit;omega
  have hw : IntKind.i64.wrap (m : Int)=m:=dS (by omega) (by omega)
  have h1 : ¬ ((m : Int)<0):=by omega
  have h2 : ¬ ((281474976710656 : Int)<(m : Int)):=by omega
  have h3 : ¬ (m=0):=by omega
  have h63' : ¬ (9223372036854775807<(m : Int)):=by omega
  have hz' : (Value.int .u8 0).cells=#[Value.int .u8 0]:=rfl
  simp [Builtin.append_,Builtin.firstCells,run_underlying ht,run_underlying hk,sizeOf,typeInfo,zeroValue,hi,hz,hs,hb,asInt,asIntOf,N,hw,h1,h2,h3,h63',h48',Question.forced,newRow,grownCap,hz',fR]
variable {n : Nat} {w0 : World} {S : List Nat} {ops : Array Oper} {Q : Exit→Act→World→Prop} {l : List Oper} {E : Env} {M : List ah} {d b : Nat} {ty : TypeId} {pos : String} {aft : Array Edge} {x y : Operand}
theorem JL.lB {m : Nat} (hu : P.underlying t=some (.slice e)) (hk : P.underlying tx=some (.int .i64)) (hi : EI P e (.int .u8 0) 1 1) (hx : ev E x=some (.slice none 0 0)) (hy : ev E y=some (N m)) (h0 : 0<m)
    (hsm : m≤140737488355328) (hd : Nat.blt d n=true)
    (kk : ∀ b' cap',JL P n w0 S ops Q l ((d,.slice (some ⟨b',0,none⟩) m cap')::E) (⟨b',Sl.Own e 1 m cap' (List.replicate m (Value.int .u8 0)),true⟩::M)) : JL P n w0 S ops Q (⟨some d,.call ⟨.builtin .append,#[x,y],#[t,tx]⟩,ty,pos,aft,none⟩::l) E M:=
  ⟨fun a w ha hw=>wpList_plain rfl fun K hK=>by
    obtain ⟨i,hi1,hi2,hi3,hi4⟩:=hi.get
    unfold Oper.wp
    simp only [execOp,resolve,invoke,builtin,Sem.run_bind,Sem.run_pure,Result.andThen_ok,List.map_toArray,List.map_cons,List.map_nil,ha.eval hx,ha.eval hy]
    have hfit:=growslice_fits (need:=m) (old:=0) (bytes:=1) (by omega) (by omega)
    rw [ep w ty i hu hk hi1 hi2 hi3 hi4 m (by omega) h0 (by rw [hi4];exact hfit)]
    have hge:=grownCap_ge w m 0 e
    generalize grownCap w m 0 e=nc at hge
    refine hK _ _ ((kk w.heap.size nc).go _ _ (ha.put d _ hd) (hw.push (.cells ((List.replicate m (Value.int .u8 0)).toArray++Builtin.zeroCells #[.int .u8 0] (nc - m)) e) ?_ rfl rfl rfl rfl))
    refine ⟨(Builtin.zeroCells #[.int .u8 0] (nc - m)).toList,by simp,?_,by rw [List.length_replicate,Nat.mul_one],hge⟩
    have h8 : (Builtin.zeroCells #[.int .u8 0] (nc - m)).size=nc - m:=by simp [Builtin.zeroCells]
    simp only [List.length_append,Array.length_toList,h8,List.length_replicate]
    omega⟩
end
end Sl
end
section
set_option maxRecDepth 10000
open Sl
abbrev Pr:=List Bt × List Bt
def pc (p : Pr) : List Value:=[Z p.1,Z p.2]
structure jW where
  ad : Option Addr
  cap : Nat
  l : List Pr
def jW.cells (s : jW) : List Value:=s.l.flatMap pc
def jW.v (s : jW) : Value:=.slice s.ad s.l.length s.cap
structure jW.ok (w : World) (s : jW) : Prop where
  len : s.l.length≤s.cap
  reads : Reads w s.ad s.cells
theorem jW.ok.holds {w0 w : World} {S : List Nat} {M : List ah} {s : jW} (h : s.ok w0) (hw : aa w0 S M w) (hS : S=[]) : s.ok w:=⟨h.len,hw.reads h.reads (fun _ a _=>by rw [hS];simp)⟩
theorem jW.ok.ext {w w' : World} {s : jW} (h : s.ok w) (hx : Ext w w') : s.ok w':=h.holds (⟨hx,by simp,by simp⟩ : aa w [] [] w') rfl
theorem nA : ∀ (l : List Pr) {i : Nat},i<l.length→(l.flatMap pc)[2 * i]?=some (Z (l.getD i ([],[])).1)∧(l.flatMap pc)[2 * i+1]?=some (Z (l.getD i ([],[])).2)
  | [],i,h=>by simp at h
  | p::l,0,_=>⟨rfl,rfl⟩
  | p::l,i+1,h=>by
    have:=nA l (i:=i) (by simpa using h)
    simp only [List.flatMap_cons,List.getD_cons_succ]
    rw [show 2 * (i+1)=2 * i+2 by omega]
    exact this
theorem jW.ok.at {w : World} {s : jW} (h : s.ok w) {i : Nat} (hi : i<s.l.length) : ∃ b j,s.ad=some ⟨b,j,none⟩∧b<w.heap.size∧w.cell? ⟨b,j+i * 2,none⟩=some (Z (s.l.getD i ([],[])).1)∧w.cell? ⟨b,j+i * 2+1,none⟩=some (Z (s.l.getD i ([],[])).2):=by
  obtain ⟨h1,h2⟩:=nA s.l hi
  obtain ⟨b,j,e1,c1⟩:=h.reads _ _ h1
  obtain ⟨b',j',e2,c2⟩:=h.reads _ _ h2
  rw [e1] at e2
  cases e2
  exact ⟨b,j,e1,block_lt_of_cell c1,by rw [Nat.mul_comm];exact c1,by rw [Nat.mul_comm,Nat.add_assoc];exact c2⟩
section
variable {P : Program} {n : Nat} {E : Env} {C : World→Prop} {dst : Option Tmp} {t t' ty : TypeId} {pos : String} {aft : Array Edge} {g : Option (Nat × Bool)} {x y : Operand} {p q : Pr}
end
end
section
set_option maxRecDepth 10000
open Sl
structure jy where
  ad : Option Addr
  cap : Nat
  l : List (List Bt)
def jy.cells (s : jy) : List Value:=s.l.map Z
def jy.v (s : jy) : Value:=.slice s.ad s.l.length s.cap
structure jy.ok (w : World) (s : jy) : Prop where
  len : s.l.length≤s.cap
  reads : Reads w s.ad s.cells
theorem jy.ok.holds {w0 w : World} {S : List Nat} {M : List ah} {s : jy} (h : s.ok w0) (hw : aa w0 S M w) (hS : S=[]) : s.ok w:=⟨h.len,hw.reads h.reads (fun _ a _=>by rw [hS];simp)⟩
theorem jy.ok.ext {w w' : World} {s : jy} (h : s.ok w) (hx : Ext w w') : s.ok w':=h.holds (⟨hx,by simp,by simp⟩ : aa w [] [] w') rfl
theorem jy.ok.at {w : World} {s : jy} (h : s.ok w) (h0 : 0<s.l.length) : ∃ b j,s.ad=some ⟨b,j,none⟩∧b<w.heap.size∧∀ i,i<s.l.length→w.cell? ⟨b,j+i,none⟩=some (Z (s.l.getD i [])):=by
  obtain ⟨b,j,h1,h2⟩:=h.reads.at (by simpa [jy.cells] using h0)
  have hc : ∀ i,i<s.l.length→w.cell? ⟨b,j+i,none⟩=some (Z (s.l.getD i [])):=fun i hi=>h2 i _ (dz Z [] hi)
  exact ⟨b,j,h1,block_lt_of_cell (hc 0 h0),hc⟩
structure Gz (A : List (List Bt)) where
  z : jy
  h : z.l=A
  n : z.ad=none→z.l=[]
structure G2 (A : List Pr) where
  z : jW
  h : z.l=A
  n : z.ad=none→z.l=[]
def jX (M : List ah) : List ah:=M.map fun e=>⟨e.b,e.A,false⟩
theorem aa.jX {w0 w : World} {S : List Nat} {M : List ah} (h : aa w0 S M w) : aa w [] (jX M) w:=by
  refine ⟨eD.refl _ _,?_,fun e he=>?_⟩
  · rw [Proofs.YtbmagnpmfpfckaaDoor.jX,List.map_map]
    exact h.nodup
  · obtain ⟨q,hq,rfl⟩:=List.mem_map.1 he
    exact ⟨(h.all q hq).1,nofun⟩
end
section
set_option maxRecDepth 10000
namespace Sl
theorem pS {N M : List ah} {b : Nat} {A : Obj→Prop} {wr : Bool} (h : Has M b A wr) : Has (N++M) b A wr:=by
  induction N with
  | nil=>exact h
  | cons e N ih=>exact .there ih
section
variable {P : Program} {n : Nat} {w0 : World} {S : List Nat} {ops : Array Oper} {Q : Exit→Act→World→Prop} {l : List Oper} {E : Env} {M M' M0 : List ah} {d : Nat} {t e ty : TypeId} {pos : String} {aft : Array Edge} {x y : Operand}
theorem aa.perm' {w0 w : World} {S : List Nat} {M M' : List ah} (hp : M.Perm M') (h : aa w0 S M w) : aa w0 S M' w:=
  h.sub ((hp.map ah.b).nodup_iff.1 h.nodup) fun e he=>hp.mem_iff.2 he
theorem JL.perm (h : JL P n w0 S ops Q l E M') (hp : M.Perm M') : JL P n w0 S ops Q l E M:=⟨fun a w ha hw=>h.go a w ha (hw.perm' hp)⟩
end
end Sl
end
section
set_option maxRecDepth 10000
namespace Sl
section
variable {w0 w w' : World} {S : List Nat} {X Y M M0 : List ah}
def keys (X : List ah) : List Nat:=X.map ah.b
theorem aa.own (h : aa w0 S (X++M0) w) : aa w (keys X) (X++jX M0) w:=by
  refine ⟨eD.refl _ _,?_,fun e he=>?_⟩
  · have : (X++jX M0).map ah.b=(X++M0).map ah.b:=by simp [jX,Function.comp_def]
    rw [this];exact h.nodup
  · rcases List.mem_append.1 he with he | he
    · exact ⟨(h.all e (List.mem_append_left _ he)).1,fun _=>.inl (List.mem_map_of_mem he)⟩
    · obtain ⟨q,hq,rfl⟩:=List.mem_map.1 he
      exact ⟨(h.all q (List.mem_append_right _ hq)).1,nofun⟩
theorem aa.oL (h : aa w0 S (X++M0) w) (h2 : aa w (keys X) Y w') (hX : ∀ e ∈ X,e.wr=true) (hY : ∀ e ∈ Y,e.wr=true) : aa w0 S (Y++M0) w':=by
  have hs : ∀ k ∈ keys X,k ∈ S∨w0.heap.size≤k:=fun k hk=>by
    obtain ⟨e,he,rfl⟩:=List.mem_map.1 hk
    exact (h.all e (List.mem_append_left _ he)).2 (hX e he)
  have hnd:=h.nodup
  rw [List.map_append,List.nodup_append] at hnd
  refine ⟨⟨h2.aq.os.trans h.aq.os,h2.aq.tape.trans h.aq.tape,h2.aq.output.trans h.aq.output,Nat.le_trans h.aq.size h2.aq.size,fun k hk hS=>?_⟩,?_,fun e he=>?_⟩
  · refine (h2.aq.block k (Nat.lt_of_lt_of_le hk h.aq.size) fun hm=>?_).trans (h.aq.block k hk hS)
    rcases hs k hm with h | h
    · exact hS h
    · omega
  · rw [List.map_append,List.nodup_append]
    refine ⟨h2.nodup,hnd.2.1,fun a ha b hb e=>?_⟩
    subst e
    obtain ⟨e1,he1,rfl⟩:=List.mem_map.1 ha
    obtain ⟨e2,he2,hb2⟩:=List.mem_map.1 hb
    rcases (h2.all e1 he1).2 (hY e1 he1) with hk | hk
    · exact hnd.2.2 _ hk _ hb rfl
    · have:=h.lt (List.mem_append_right X he2)
      omega
  · rcases List.mem_append.1 he with he | he
    · refine ⟨(h2.all e he).1,fun hw=>?_⟩
      rcases (h2.all e he).2 hw with hk | hk
      · exact hs _ hk
      · exact .inr (Nat.le_trans h.aq.size hk)
    · obtain ⟨⟨o,ho,hA⟩,hw⟩:=h.all e (List.mem_append_right X he)
      refine ⟨⟨o,(h2.aq.block e.b (h.lt (List.mem_append_right X he)) fun hm=>?_).trans ho,hA⟩,hw⟩
      exact hnd.2.2 _ hm _ (List.mem_map_of_mem he) rfl
end
section
variable {P : Program} {n : Nat} {w0 : World} {S : List Nat} {ops : Array Oper} {Q : Exit→Act→World→Prop} {l : List Oper} {E : Env} {M M' : List ah} {C : World→Prop}
variable {dst : Option Tmp} {d b j : Nat} {op : Op} {t t' ty e : TypeId} {pos : String} {aft : Array Edge} {g : Option (Nat × Bool)} {x y : Operand} {cs : List Value}
theorem jY {t' : TypeId} {w : World} {ad : Option Addr} {dl dc sl sc sz m : Nat} {r : List Value} (hu : P.underlying t=some (.slice e)) (hz : bX P e=some sz) (ho : w.heap[b]?=some (.cells r.toArray ty (0,0)))
    (hm : min sl dl=m) (hl : cs.length=m * sz) (hr : Reads w ad cs) (h1 : ∀ v ∈ cs,v.oneCell'=true) (hj : j+m * sz≤r.length) :
    ∃ w',(Builtin.copy_ #[t,t'] 0 #[.slice (some ⟨b,j,none⟩) dl dc,.slice ad sl sc]).run P w=.ok (N m) w'∧w'.heap[b]?=some (.cells (r.take j++cs++r.drop (j+m * sz)).toArray ty (0,0))∧w'.heap.size=w.heap.size∧
      (∀ k,k≠b→w'.heap[k]?=w.heap[k]?)∧w'.os=w.os∧w'.tape=w.tape∧w'.output=w.output:=by
  obtain ⟨w',r1,r2,r3,r4,r5,r6,r7⟩:=aW (P:=P) (b:=b) (j:=j) (e:=ty) cs 0 w r h1 ho (by omega)
  refine ⟨w',?_,by rw [hl] at r2;simpa using r2,r3,r4,r5,r6,r7⟩
  have h3 : (underlying t).run P w=.ok (.slice e) w:=run_underlying hu w
  have h4:=cw (P:=P) (m:=m) (sz:=sz) (c:=sc) hl hr sl
  have h5 : Nat.min sl dl=m:=hm
  simp only [Builtin.copy_,Sem.run_bind,Sem.run_pure,h3,Result.andThen_ok,Builtin.lenOf,ax hz,List.getElem?_toArray,List.getElem?_cons_zero,List.getElem?_cons_succ]
  rw [h5,h4]
  simp only [Result.andThen_ok,r1]
  rfl
theorem JL.oM {t' : TypeId} {ad : Option Addr} {dl dc sl sc sz m : Nat} {A A' : Obj→Prop} {M' : List ah} (hu : P.underlying t=some (.slice e)) (hz : bX P e=some sz) (hx : ev E x=some (.slice (some ⟨b,j,none⟩) dl dc)) (hy : ev E y=some (.slice ad sl sc))
    (hup : eE M b A A' M') (hm : min sl dl=m) (hl : cs.length=m * sz) (hr : ∀ w,aa w0 S M w→Reads w ad cs) (h1 : ∀ v ∈ cs,v.oneCell'=true) (hA : ∀ o,A o→∃ r te,o=.cells (List.toArray r) te (0,0)∧j+m * sz≤r.length∧A' (.cells (r.take j++cs++r.drop (j+m * sz)).toArray te (0,0))) (hd : Nat.blt d n=true)
    (k : JL P n w0 S ops Q l ((d,N m)::E) M') : JL P n w0 S ops Q (⟨some d,.call ⟨.builtin .copy,#[x,y],#[t,t']⟩,ty,pos,aft,none⟩::l) E M:=
  ⟨fun a w ha hw=>wpList_plain rfl fun K hK=>by
    obtain ⟨o,ho,hAo⟩:=hw.get hup.has
    obtain ⟨r,te,rfl,hj,hA'⟩:=hA o hAo
    obtain ⟨w',r1,r2,r3,r4,r5,r6,r7⟩:=jY (P:=P) (t':=t') (dc:=dc) (sc:=sc) (ty:=te) hu hz ho hm hl (hr w hw) h1 hj
    have r1' : (Builtin.copy_ #[t,t'] ty #[.slice (some ⟨b,j,none⟩) dl dc,.slice ad sl sc]).run P w=.ok (N m) w':=r1
    unfold Oper.wp
    simp only [execOp,resolve,invoke,builtin,Sem.run_bind,Sem.run_pure,Result.andThen_ok,List.map_toArray,List.map_cons,List.map_nil,ha.eval hx,ha.eval hy,r1']
    exact hK _ _ (k.go _ _ (ha.put d _ hd) (hw.write hup hA' r2 r3 r4 r5 r6 r7))⟩
theorem lC {b hi cap : Nat} : Value.slice (if cap=0 then some ⟨b,0,none⟩ else (some ⟨b,0,none⟩ : Option Addr).map (·.add 0)) hi cap=.slice (some ⟨b,0,none⟩) hi cap:=by
  split <;> simp [Addr.add]
theorem JL.oN {A : Obj→Prop} {wr : Bool} {F : Prop} (hM : Has M b A wr) (hA : ∀ o,A o→F) (k : F→JL P n w0 S ops Q l E M) : JL P n w0 S ops Q l E M:=
  ⟨fun a w ha hw=>by obtain ⟨o,_,h⟩:=hw.get hM;exact (k (hA o h)).go a w ha hw⟩
theorem OQ.oO {ad : Option Addr} {k cap : Nat} (hu : P.underlying t=some (.slice e)) (hx : ev E x=some (.slice ad k cap)) : OQ P n E C ⟨dst,.call ⟨.builtin .cap,#[x],#[t]⟩,ty,pos,aft,g⟩ (N cap):=
  OQ.run fun a hk w _=>by
    have h1:=hk.eval hx
    have h3 : (underlying t).run P w=.ok (.slice e) w:=run_underlying hu w
    simp [execOp,h1,resolve,invoke,builtin,Builtin.cap_,Sem.run_bind,h3,goInt]
structure qe (P : Program) (f : FuncId) (tS tR : TypeId) : Prop where
  go : ∃ fn,P.funcs[f]?=some fn∧(fn.name == "runtime.NumGoroutine")=false∧fn.body.isNone=true∧Extern.findNext fn=none∧Extern.find fn=some (Extern.SlicesOverlaps.overlaps #[tS,tS] #[tR])
end
end Sl
end
section
set_option maxRecDepth 10000
open Sl
namespace Rw
theorem e6 : dy Tryd.prog 22=true:=by kernel_rfl
theorem iQ : bX Tryd.prog 22=some 1:=by kernel_rfl
theorem iR : aM Tryd.prog 36:=⟨_,Tryd.func36,rfl,by kernel_rfl⟩
theorem dj : aM Tryd.prog 20:=⟨_,Tryd.func20,rfl,by kernel_rfl⟩
theorem lD {e : TypeId} {k cap : Nat} {xs : List Value} : ∀ o,Sl.Own e 1 k cap xs o→Sl.Own e 1 0 cap [] o:=by
  rintro o ⟨sp,rfl,h1,h2,h3⟩
  exact ⟨xs++sp,rfl,by simpa using h1,rfl,Nat.zero_le _⟩
set_option maxHeartbeats 4000000 in
theorem jZ (m : Nat) (h0 : 0<m) (hm : m≤1000000000) (w : World) :
    Calls Tryd.prog 36 [.slice none 0 0,N m].toArray w fun e w'=>∃ x : Nat × Nat,e=.returned (.slice (some ⟨x.1,0,none⟩) 0 x.2)∧aa w [] [⟨x.1,Sl.Own 5 1 0 x.2 [],true⟩] w':=by
  refine enter (n:=27) Tryd.func36 rfl rfl rfl (aa.start w []) ?_
  repeat (first | refine JL.q (by first|(apply OQ.kC (a:=m) (b:=0);rfl;rfl;exact (by omega))|(apply OQ.move;rfl)|(apply OQ.assign;rfl)) rfl ?_ | refine JC.seq ?_ | refine JC.region ?_ | refine JL.nil ?_ | refine JE.next ?_)
  refine JC.cond_false rfl rfl ?_
  repeat (first | refine JL.q (by first|(apply OQ.oO (k:=0) (cap:=0) (ad:=none);exact Tryd.underlying22;rfl)|(apply OQ.len (k:=0) (cap:=0) (ad:=none);exact Tryd.underlying22;rfl)|(apply OQ.iq (a:=0) (b:=0);rfl;rfl;exact (by decide);exact (by decide))|(apply OQ.iq (a:=m) (b:=0);rfl;rfl;exact (by omega);exact (by omega))|(apply OQ.nO (a:=m - 0) (b:=0);rfl;rfl;exact (by omega))|(apply OQ.move;rfl)|(apply OQ.assign;rfl)) rfl ?_ | refine JC.seq ?_ | refine JC.region ?_ | refine JC.skip ?_ | refine JL.nil ?_ | refine JE.next ?_)
  refine JC.cond_true rfl rfl ?_
  repeat (first | refine JL.q (by first|(apply OQ.oO (k:=0) (cap:=0) (ad:=none);exact Tryd.underlying22;rfl)|(apply OQ.fP (hi:=0) (len:=0) (cap:=0) (ad:=none);exact Tryd.underlying22;exact bG;rfl;rfl;exact (by decide))|(apply OQ.move;rfl)) rfl ?_ | refine JC.region ?_)
  refine JL.lB (m:=m - 0) Tryd.underlying22 Tryd.underlying3 iC rfl rfl (by omega) (by omega) rfl fun b cap=>?_
  rw [Nat.sub_zero]
  refine JL.oN (b:=b) .here (fun ob hA=>by obtain ⟨sp,_,_,_,h3⟩:=hA;exact h3) fun hcap=>?_
  repeat (first | refine JL.q (by first|(apply OQ.len (k:=0) (cap:=0) (ad:=none);exact Tryd.underlying22;rfl)|(apply OQ.to;exact (OQ.fP (ad:=some ⟨b,0,none⟩) (len:=m) (cap:=cap) (hi:=0) Tryd.underlying22 bG rfl rfl (Nat.zero_le _));exact lC)|(apply OQ.move;rfl)|(apply OQ.assign;rfl)) rfl ?_ | refine JC.seq ?_ | refine JC.region ?_ | refine JL.nil ?_ | refine JE.next ?_)
  exact JC.ret (JE.aN rfl (RV.tmp rfl) fun w' hw=>⟨(b,cap),rfl,hw.weak (.keep _ _ _ _ _ _ lD (.nil _))⟩)
def aY (rs : List ai) (i : Nat) : List Bt:=((rs.take i).map ai.l).flatten
theorem fI {rs : List ai} {i : Nat} {s : ai} (h : rs[i]?=some s) : aY rs (i+1)=aY rs i++s.l:=by
  obtain ⟨hi,rfl⟩:=List.getElem?_eq_some_iff.1 h
  unfold aY
  rw [List.take_succ_eq_append_getElem hi,List.map_append,List.flatten_append]
  simp
theorem mM (rs : List ai) (i : Nat) : (aY rs i).length≤(aY rs rs.length).length:=by
  unfold aY
  rw [List.take_length]
  conv=>rhs;rw [← List.take_append_drop i rs,List.map_append,List.flatten_append,List.length_append]
  exact Nat.le_add_right _ _
set_option maxHeartbeats 8000000 in
theorem e8 (s : jl) (w : World) (hs : s.ok w) (h0 : 0<(aY s.rs s.rs.length).length) (hl : (aY s.rs s.rs.length).length≤1000000000) (hn9 : s.rs.length≤1000000000) :
    Calls Tryd.prog 20 [s.v].toArray w fun e w'=>∃ x : Nat × Nat,e=.returned (.slice (some ⟨x.1,0,none⟩) (aY s.rs s.rs.length).length x.2)∧aa w [] [⟨x.1,Sl.Own 5 1 (aY s.rs s.rs.length).length x.2 ((aY s.rs s.rs.length).map U8),true⟩] w':=by
  obtain ⟨n,hn⟩ : ∃ n,s.rs.length=n:=⟨_,rfl⟩
  have hn0 : 0<n:=by
    rcases Nat.eq_zero_or_pos n with h | h
    · rw [hn,h] at h0
      exact absurd h0 (by unfold aY;simp)
    · exact h
  have hat : ∀ i,i<n→∃ b j x,s.ad=some ⟨b,j,none⟩∧s.rs[i]?=some x∧x.ok w∧w.cell? ⟨b,j+i,none⟩=some x.v∧x ∈ s.rs:=fun i hi=>by
    have hx : s.rs[i]?=some s.rs[i]:=List.getElem?_eq_getElem (by omega)
    obtain ⟨b,j,h1,h2⟩:=hs.reads i s.rs[i].v (by rw [List.getElem?_map,hx];rfl)
    exact ⟨b,j,_,h1,hx,hs.all _ (List.getElem_mem _),h2,List.getElem_mem _⟩
  obtain ⟨ba,ja,_,had,_⟩:=hat 0 hn0
  have hsv : s.v=.slice (some ⟨ba,ja,none⟩) n s.cap:=by unfold jl.v;rw [had,hn]
  rw [hn] at h0 hl hn9 ⊢
  rw [hsv]
  have hle:=mM s.rs
  rw [hn] at hle
  refine enter (n:=36) Tryd.func20 rfl rfl rfl (aa.start w []) ?_
  repeat (first | refine JL.q (by first|(apply OQ.len (k:=n);exact Tryd.underlying31;rfl)|(apply OQ.move;rfl)|(apply OQ.assign;rfl)) rfl ?_ | refine JC.seq ?_ | refine JC.region ?_ | refine JC.block ?_ | refine JL.nil ?_ | refine JE.next ?_)
  refine JC.loop (fun i : Nat=>[(0,.slice (some ⟨ba,ja,none⟩) n s.cap),(3,N (aY s.rs i).length),(9,.slice (some ⟨ba,ja,none⟩) n s.cap),(10,N n),(11,N i)]) (fun _=>[]) (fun i=>n - i) (fun i=>i≤n) 0 (Nat.zero_le _) (by repeat (first | exact aj.nil | refine aj.cons _ _ _ rfl ?_)) (av.refl _) ?_
  intro i hi
  repeat (first | refine JL.q (by (apply OQ.gA (a:=i) (b:=n);rfl;rfl)) rfl ?_ | refine JC.seq ?_ | refine JC.region ?_ | refine JL.nil ?_ | refine JE.next ?_)
  refine JC.cond rfl (fun h=>?_) (fun h=>?_)
  · have hi' : i<n:=of_decide_eq_true h
    clear h
    obtain ⟨b,j,x,hb,hx,xok,hc,_⟩:=hat i hi'
    rw [had] at hb
    cases hb
    have hle:=hle (i+1)
    have hln : (aY s.rs (i+1)).length=(aY s.rs i).length+x.l.length:=by rw [fI hx,List.length_append]
    repeat (first | refine JL.q (by first|(apply OQ.bI (i:=i) (b:=ba) (j:=ja);exact Tryd.underlying31;exact iQ;rfl;rfl;exact hi')|(apply OQ.aK (v:=x.v);exact e6;rfl;exact (block_lt_of_cell hc);exact (by simp);exact hc)|(apply OQ.len (k:=x.l.length) (ad:=x.ad) (cap:=x.cap);exact Tryd.underlying22;rfl)|(apply OQ.bn (a:=(aY s.rs i).length) (b:=x.l.length);rfl;rfl;exact (by omega))|(apply OQ.kC (a:=(aY s.rs i).length+x.l.length) (b:=0);rfl;rfl;exact (by omega))|(apply OQ.move;rfl)|(apply OQ.assign;rfl)) rfl ?_ | refine JC.seq ?_ | refine JC.region ?_ | refine JC.block ?_ | refine JC.skip ?_ | refine JL.nil ?_ | refine JE.next ?_)
    refine JC.cond_false rfl rfl ?_
    repeat (first | refine JL.q (by first|(apply OQ.bn (a:=i) (b:=1);rfl;rfl;exact (by omega))|(apply OQ.move;rfl)) rfl ?_ | refine JC.region ?_ | refine JC.skip ?_ | refine JL.nil ?_ | refine JE.next ?_ | refine JE.au ?_)
    rw [← hln]
    exact JE.again (i:=i) (i+1) hi' (by omega) (by repeat (first | exact aj.nil | refine aj.cons _ _ _ rfl ?_)) (av.refl _)
  · have hi' : i=n:=by have:=of_decide_eq_false h;omega
    subst hi'
    clear h hi
    repeat (first | refine JL.q (by (apply OQ.move;rfl)) rfl ?_ | refine JC.seq ?_ | refine JC.region ?_ | refine JC.exit ?_ | refine JE.next ?_ | refine JE.aJ ?_ | refine JE.bk ?_)
    refine JL.cH (ι:=Nat × Nat) (vs:=[.slice none 0 0,N (aY s.rs i).length]) (fun x=>.slice (some ⟨x.1,0,none⟩) 0 x.2) (fun x=>[⟨x.1,Sl.Own 5 1 0 x.2 [],true⟩]) iR rfl rfl (fun i=>by simp) (fun w' hw'=>jZ _ h0 (by omega) w') ?_
    rintro ⟨bx,cap⟩
    try dsimp only
    repeat (first | refine JL.q (by first|(apply OQ.len (k:=i);exact Tryd.underlying31;rfl)|(apply OQ.move;rfl)|(apply OQ.assign;rfl)) rfl ?_ | refine JC.seq ?_ | refine JC.region ?_ | refine JC.block ?_ | refine JL.nil ?_ | refine JE.next ?_)
    refine JC.loop (fun z : Nat × Nat × Nat=>[(0,.slice (some ⟨ba,ja,none⟩) i s.cap),(6,.slice (some ⟨z.2.1,0,none⟩) (aY s.rs z.1).length z.2.2),(25,.slice (some ⟨ba,ja,none⟩) i s.cap),(26,N i),(27,N z.1)]) (fun z=>[⟨z.2.1,Sl.Own 5 1 (aY s.rs z.1).length z.2.2 ((aY s.rs z.1).map U8),true⟩]) (fun z=>i - z.1) (fun z=>z.1≤i) (0,bx,cap) (Nat.zero_le _) (by repeat (first | exact aj.nil | refine aj.cons _ _ _ rfl ?_)) (av.refl _) ?_
    rintro ⟨k,bx,cap⟩ hk
    dsimp only at hk ⊢
    repeat (first | refine JL.q (by (apply OQ.gA (a:=k) (b:=i);rfl;rfl)) rfl ?_ | refine JC.seq ?_ | refine JC.region ?_ | refine JL.nil ?_ | refine JE.next ?_)
    refine JC.cond rfl (fun h=>?_) (fun h=>?_)
    · have hk' : k<i:=of_decide_eq_true h
      clear h
      obtain ⟨b,j,x,hb,hx,xok,hc,_⟩:=hat k hk'
      rw [had] at hb
      cases hb
      have hle:=hle (k+1)
      have hcs:=fI hx
      have hln : (aY s.rs (k+1)).length=(aY s.rs k).length+x.l.length:=by rw [hcs,List.length_append]
      repeat (first | refine JL.q (by first|(apply OQ.bI (i:=k) (b:=ba) (j:=ja);exact Tryd.underlying31;exact iQ;rfl;rfl;exact hk')|(apply OQ.aK (v:=x.v);exact e6;rfl;exact (block_lt_of_cell hc);exact (by simp);exact hc)|(apply OQ.move;rfl)|(apply OQ.assign;rfl)) rfl ?_ | refine JC.seq ?_ | refine JC.region ?_ | refine JC.block ?_ | refine JC.skip ?_ | refine JL.nil ?_ | refine JE.next ?_)
      refine JL.append (cs:=x.l.map U8) (m:=x.l.length) (ad:=x.ad) (sc:=x.cap) (fun b' cap'=>[⟨b',Sl.Own 5 1 ((aY s.rs k).length+x.l.length) cap' ((aY s.rs k).map U8++x.l.map U8),true⟩]) Tryd.underlying22 iC rfl rfl (by intro _ _;repeat (first | exact bU.here | apply bU.there)) (by rw [List.length_map,Nat.mul_one]) (fun w' hw'=>(xok.holds hw' rfl).reads) (fun v hv=>by obtain ⟨q,_,rfl⟩:=List.mem_map.1 hv;rfl) rfl (by decide) (by omega) (by omega) rfl fun b' cap'=>?_
      rw [← List.map_append,← hcs,← hln]
      repeat (first | refine JL.q (by first|(apply OQ.bn (a:=k) (b:=1);rfl;rfl;exact (by omega))|(apply OQ.move;rfl)|(apply OQ.assign;rfl)) rfl ?_ | refine JC.region ?_ | refine JL.nil ?_ | refine JE.next ?_ | refine JE.au ?_)
      exact JE.again (ι:=Nat × Nat × Nat) (i:=(k,bx,cap)) (k+1,b',cap') hk' (by omega) (by repeat (first | exact aj.nil | refine aj.cons _ _ _ rfl ?_)) (av.refl _)
    · have hk' : k=i:=by have:=of_decide_eq_false h;omega
      subst hk'
      clear h hk
      repeat (first | refine JL.q (by first|(apply OQ.move;rfl)|(apply OQ.assign;rfl)) rfl ?_ | refine JC.seq ?_ | refine JC.region ?_ | refine JC.exit ?_ | refine JL.nil ?_ | refine JE.next ?_ | refine JE.aJ ?_ | refine JE.bk ?_)
      refine JC.ret (JE.aN rfl (RV.tmp rfl) fun w' hw=>⟨(bx,cap),rfl,hw⟩)
end Rw
end
section
set_option maxRecDepth 10000
open Sl c6 jr
namespace Rw
theorem OQ.oP {P : Program} {n : Nat} {E : Env} {C : World→Prop} {dst : Option Tmp} {t t' ty : TypeId} {pos : String} {aft : Array Edge} {g : Option (Nat × Bool)} {x y : Operand} {a b : Int} (hx : ev E x=some (I a)) (hy : ev E y=some (I b)) (h : ¬ b=0) : OQ P n E C ⟨dst,.binOp .rem t x y t',ty,pos,aft,g⟩ (I (a.tmod b)):=
  OQ.bin hx hy rfl fun w=>by
    have h7 : Op.intDiv .rem .i64 a b=(Pure.pure (.int .i64 (a.tmod b)) : Sem Value):=by simp only [Op.intDiv,if_neg h]
    show Sem.run P (Op.intDiv .rem .i64 a b) w=_
    rw [h7];rfl
def gQ (c : Bt) : Bool:=decide (c=32) || decide (c=9)
theorem iS : aM Tryd.prog 32:=⟨_,Tryd.func32,rfl,by kernel_rfl⟩
theorem j0 (c : Bt) (w : World) : Calls Tryd.prog 32 [U8 c].toArray w fun e w'=>e=.returned (.bool (gQ c))∧Ext w w':=by
  refine enter (n:=9) Tryd.func32 rfl rfl rfl (aa.start w []) ?_
  unfold gQ
  cases h : decide (c=32)
  · have h8 : decide ((c.toNat : Int)=32)=false:=decide_eq_false fun e=>of_decide_eq_false h (BitVec.eq_of_toNat_eq (by show c.toNat=32;omega))
    repeat (first | refine JL.q (by first|(apply OQ.eo (b:=32);rfl;rfl;exact h8)|(apply OQ.qa (b:=9);rfl;rfl)|(apply OQ.bM;rfl;rfl)|(apply OQ.move;rfl)|(apply OQ.assign;rfl)) rfl ?_ | refine JC.seq ?_ | refine JC.region ?_ | refine JL.nil ?_ | refine JE.next ?_ | refine JL.aT rfl rfl ?_)
    exact JC.ret (JE.aN rfl (RV.tmp rfl) fun w' hw=>⟨rfl,hw.aq⟩)
  · have h8 : decide ((c.toNat : Int)=32)=true:=decide_eq_true (by rw [of_decide_eq_true h];rfl)
    repeat (first | refine JL.q (by first|(apply OQ.eo (b:=32);rfl;rfl;exact h8)|(apply OQ.bA;rfl;rfl)|(apply OQ.move;rfl)|(apply OQ.assign;rfl)) rfl ?_ | refine JC.seq ?_ | refine JC.region ?_ | refine JL.nil ?_ | refine JE.next ?_ | refine JL.cG rfl rfl rfl rfl ?_)
    exact JC.ret (JE.aN rfl (RV.tmp rfl) fun w' hw=>⟨rfl,hw.aq⟩)
theorem dX : aM Tryd.prog 19:=⟨_,Tryd.func19,rfl,by kernel_rfl⟩
theorem j3 (a : Int) (b : Nat) (hb : 0<b) : a % b=if a.tmod b<0 then a.tmod b+b else a.tmod b:=by
  have h1:=Int.lt_tmod_of_pos a (b:=(b : Int)) (by omega)
  have h2 : a.tmod b<b:=Int.tmod_lt_of_pos a (by omega)
  have h3 : a % b=(a.tmod b) % b:=by rw [Int.tmod_def,Int.sub_mul_emod_self_left]
  rw [h3]
  split
  · rw [← Int.add_emod_right]
    exact Int.emod_eq_of_lt (by omega) (by omega)
  · exact Int.emod_eq_of_lt (by omega) (by omega)
theorem e9 (a : Int) (b : Nat) (hb : 0<b) (hb2 : b<4611686018427387904) (w : World) : Calls Tryd.prog 19 [I a,N b].toArray w fun e w'=>e=.returned (I (a % b))∧Ext w w':=by
  refine enter (n:=15) Tryd.func19 rfl rfl rfl (aa.start w []) ?_
  have h1:=Int.lt_tmod_of_pos a (b:=(b : Int)) (by omega)
  have h2 : a.tmod b<b:=Int.tmod_lt_of_pos a (by omega)
  rw [j3 a b hb]
  by_cases hneg : a.tmod b<0
  · have hg : decide (a.tmod b<0)=true:=decide_eq_true hneg
    rw [if_pos hneg]
    repeat (first | refine JL.q (by first|(apply OQ.oP (a:=a) (b:=(b : Int));rfl;rfl;exact (by omega))|(apply OQ.gG (a:=a.tmod b) (b:=0);rfl;rfl;exact hg)|(apply OQ.move;rfl)|(apply OQ.assign;rfl)) rfl ?_ | refine JC.seq ?_ | refine JC.region ?_ | refine JL.nil ?_ | refine JE.next ?_)
    refine JC.cond_true rfl rfl ?_
    repeat (first | refine JL.q (by first|(apply OQ.oD (a:=a.tmod b) (b:=(b : Int));rfl;rfl;exact (by omega);exact (by omega))|(apply OQ.move;rfl)|(apply OQ.assign;rfl)) rfl ?_ | refine JC.seq ?_ | refine JC.region ?_ | refine JL.nil ?_ | refine JE.next ?_)
    exact JC.ret (JE.aN rfl (RV.tmp rfl) fun w' hw=>⟨rfl,hw.aq⟩)
  · have hg : decide (a.tmod b<0)=false:=decide_eq_false hneg
    rw [if_neg hneg]
    repeat (first | refine JL.q (by first|(apply OQ.oP (a:=a) (b:=(b : Int));rfl;rfl;exact (by omega))|(apply OQ.gG (a:=a.tmod b) (b:=0);rfl;rfl;exact hg)|(apply OQ.move;rfl)|(apply OQ.assign;rfl)) rfl ?_ | refine JC.seq ?_ | refine JC.region ?_ | refine JL.nil ?_ | refine JE.next ?_)
    refine JC.cond_false rfl rfl ?_
    repeat (first | refine JL.q (by first|(apply OQ.move;rfl)|(apply OQ.assign;rfl)) rfl ?_ | refine JC.seq ?_ | refine JC.region ?_ | refine JC.skip ?_ | refine JL.nil ?_ | refine JE.next ?_)
    exact JC.ret (JE.aN rfl (RV.tmp rfl) fun w' hw=>⟨rfl,hw.aq⟩)
def lE (bits : Int) (p : Nat) : Bool:=decide (bits / 2 ^ (p % 16) % 2=1)
theorem gR : aM Tryd.prog 39:=⟨_,Tryd.func39,rfl,by kernel_rfl⟩
theorem mN (bits : Int) (p : Nat) (w : World) : Calls Tryd.prog 39 [I bits,N p].toArray w fun e w'=>e=.returned (.bool (lE bits p))∧Ext w w':=by
  refine enter (n:=11) Tryd.func39 rfl rfl rfl (aa.start w []) ?_
  have h1 : p % 16<16:=Nat.mod_lt _ (by decide)
  have hb : lE bits p=decide (bits / 2 ^ (p % 16) % 2=1):=rfl
  rw [hb]
  obtain ⟨k,hk⟩ : ∃ k,p % 16=k:=⟨_,rfl⟩
  have hk1 : N (p % 16)=N k:=by rw [hk]
  rw [hk] at h1 ⊢
  obtain ⟨m,hm⟩ : ∃ m : Int,(2 : Int) ^ k=m:=⟨_,rfl⟩
  rw [hm]
  repeat (first | refine JL.q (by first|(apply OQ.to;exact (OQ.pg (a:=p) (b:=16) rfl rfl (by decide));exact hk1)|(apply OQ.pH (a:=bits) (k:=k);exact hm;exact (by omega);rfl;rfl)|(apply OQ.pI (k:=1) (a:=bits / m) (m:=1) (r:=2);exact (by decide);exact (by decide);exact (by decide);rfl;rfl)|(apply OQ.eo (b:=1);rfl;rfl;rfl)|(apply OQ.move;rfl)|(apply OQ.assign;rfl)) rfl ?_ | refine JC.seq ?_ | refine JC.region ?_ | refine JL.nil ?_ | refine JE.next ?_)
  refine JC.ret ?_
  exact JE.aN rfl (RV.tmp rfl) fun w' hw=>⟨rfl,hw.aq⟩
end Rw
end
section
set_option maxRecDepth 10000
open Sl c6 jr
namespace Rw
theorem eB {w0 w : World} {S : List Nat} {M : List ah} {b : Nat} {l : List Bt} {wr : Bool} (hw : aa w0 S M w) (hM : Has M b (oo 5 (l.map U8)) wr) : ai.ok w ⟨some ⟨b,0,none⟩,l.length,l⟩:=by
  obtain ⟨o,ho,hA⟩:=hw.get hM
  exact ⟨Nat.le_refl _,Reads.block ho (oo.all _ hA)⟩
def iT (c : Bt) (s : ai) : ai:=if fi c s.l<s.l.length then s.fst (fi c s.l) else s
theorem lF (c : Bt) (s : ai) : (iT c s).l=s.l.takeWhile (· != c):=by
  unfold iT
  split
  · show s.l.take (fi c s.l)=_
    unfold fi
    exact (List.prefix_iff_eq_take.1 (List.takeWhile_prefix _)).symm
  · rename_i h
    exact ((List.takeWhile_prefix (p:=fun x=>x != c) (l:=s.l)).eq_of_length_le (Nat.le_of_not_lt h)).symm
theorem mO {c : Bt} {s : ai} {w : World} (h : s.ok w) : (iT c s).ok w:=by
  unfold iT
  split
  · exact h.fst _
  · exact h
def bY (l : List Bt) : List Bt:=if fi 58 (l.takeWhile (· != 10))<(l.takeWhile (· != 10)).length then (l.takeWhile (· != 10)).takeWhile (· != 58) else []
theorem j4 : aM Tryd.prog 24:=⟨_,Tryd.func24,rfl,by kernel_rfl⟩
set_option maxHeartbeats 4000000 in
theorem lG (s : ai) (w : World) (hs : s.ok w) (hl : s.l.length≤4611686018427387904) :
    Calls Tryd.prog 24 [s.v].toArray w fun e w'=>e=.returned (Z (bY s.l))∧Ext w w':=by
  refine enter (n:=28) Tryd.func24 rfl rfl rfl (aa.start w []) ?_
  repeat (first | refine JL.q (by first|(apply OQ.move;rfl)|(apply OQ.assign;rfl)) rfl ?_ | refine JC.seq ?_ | refine JC.region ?_ | refine JL.nil ?_ | refine JE.next ?_)
  refine JL.iz (v:=U8 (10 : BitVec 8)) Tryd.underlying22 iC rfl rfl rfl rfl fun bl _=>?_
  have c1:=fun (w' : World) (h1 : s.ok w') (h2 : ai.ok w' ⟨some ⟨bl,0,none⟩,1,[10]⟩)=>gI s bl 1 10 w' (by omega) h1 h2
  obtain ⟨f,hf⟩ : ∃ f,iT 10 s=f:=⟨_,rfl⟩
  have fl : f.l=s.l.takeWhile (· != 10):=hf ▸ lF 10 s
  have fok : ∀ {w' : World},s.ok w'→f.ok w':=fun h=>hf ▸ mO h
  have hfl : f.l.length≤4611686018427387904:=by rw [fl];exact Nat.le_trans (List.takeWhile_sublist _).length_le hl
  obtain ⟨b1,v1,hv1⟩ : ∃ (b1 : Bool) (v1 : Value),iJ 10 s=.tuple #[f.v,v1,.bool b1]:=by
    rw [← hf]
    unfold iJ iT
    split
    · exact ⟨_,_,rfl⟩
    · exact ⟨_,_,rfl⟩
  rw [hv1] at c1
  have hnm : bY s.l=if fi 58 f.l<f.l.length then f.l.takeWhile (· != 58) else []:=by rw [fl];rfl
  rw [hnm]
  repeat (first | refine JL.q (by first|(apply OQ.aH (vs:=[s.v,.slice (some ⟨bl,0,none⟩) 1 1]);exact dF;rfl;exact (fun w' hw'=>c1 w' (hs.holds hw' rfl) (cn (l:=[10]) hw' .here)))|(apply OQ.extract;rfl;rfl)|(apply OQ.move;rfl)|(apply OQ.assign;rfl)) rfl ?_ | refine JC.seq ?_ | refine JC.region ?_ | refine JL.nil ?_ | refine JE.next ?_)
  refine JL.iz (v:=U8 (58 : BitVec 8)) Tryd.underlying22 iC rfl rfl rfl rfl fun b2 _=>?_
  refine JL.mark (r:=[U8 (58 : BitVec 8)]) (te:=5) Tryd.underlying22 Tryd.underlying5 rfl .here rfl ?_
  have c2:=fun (w' : World) (h1 : f.ok w') (h2 : ai.ok w' ⟨some ⟨b2,0,none⟩,1,[58]⟩)=>gI f b2 1 58 w' (by omega) h1 h2
  by_cases h : fi 58 f.l<f.l.length
  · rw [show iJ 58 f=_ from if_pos h] at c2
    rw [if_pos h]
    have hg : (f.fst (fi 58 f.l)).l=f.l.takeWhile (· != 58):=by
      have:=lF 58 f
      rw [show iT 58 f=_ from if_pos h] at this
      exact this
    rw [← hg]
    have gok : ∀ {w' : World},s.ok w'→(f.fst (fi 58 f.l)).ok w':=fun h=>(fok h).fst _
    generalize f.fst (fi 58 f.l)=g at *
    repeat (first | refine JL.q (by first|(apply OQ.aH (vs:=[f.v,.slice (some ⟨b2,0,none⟩) 1 1]);exact dF;rfl;exact (fun w' hw'=>c2 w' (fok (hs.holds hw' rfl)) (eB (l:=[58]) hw' .here)))|(apply OQ.extract;rfl;rfl)|(apply OQ.not;rfl)|(apply OQ.move;rfl)|(apply OQ.assign;rfl)) rfl ?_ | refine JC.seq ?_ | refine JC.region ?_ | refine JL.nil ?_ | refine JE.next ?_)
    refine JC.cond_false rfl rfl ?_
    repeat (first | refine JL.q (by first|(apply OQ.o4 (s:=g);exact Tryd.underlying22;exact Tryd.underlying5;exact Tryd.underlying9;rfl;exact (fun w' hw'=>gok (hs.holds hw' rfl)))|(apply OQ.move;rfl)|(apply OQ.assign;rfl)) rfl ?_ | refine JC.seq ?_ | refine JC.region ?_ | refine JC.skip ?_ | refine JL.nil ?_ | refine JE.next ?_)
    refine JC.ret ?_
    skip
    exact JE.aN rfl (RV.tmp rfl) fun w' hw=>⟨rfl,hw.aq⟩
  · rw [show iJ 58 f=_ from if_neg h] at c2
    rw [if_neg h]
    repeat (first | refine JL.q (by first|(apply OQ.aH (vs:=[f.v,.slice (some ⟨b2,0,none⟩) 1 1]);exact dF;rfl;exact (fun w' hw'=>c2 w' (fok (hs.holds hw' rfl)) (eB (l:=[58]) hw' .here)))|(apply OQ.extract;rfl;rfl)|(apply OQ.not;rfl)|(apply OQ.move;rfl)|(apply OQ.assign;rfl)) rfl ?_ | refine JC.seq ?_ | refine JC.region ?_ | refine JL.nil ?_ | refine JE.next ?_)
    refine JC.cond_true rfl rfl ?_
    repeat (first | refine JL.q (by (apply OQ.assign;rfl)) rfl ?_ | refine JC.seq ?_ | refine JC.region ?_ | refine JL.nil ?_ | refine JE.next ?_)
    refine JC.ret ?_
    repeat (refine JE.az ?_)
    exact JE.aN rfl (RV.tmp rfl) fun w' hw=>⟨rfl,hw.aq⟩
def fc (bits : Int) (k : Nat) (c : Bt) : Bt:=
  let d:=c ||| 32
  if d.toNat<97∨122<d.toNat then c else if lE bits k then (c ||| 32) &&& ~~~ 32 else c ||| 32
def fu (bits : Int) (l : List Bt) : Nat→List Bt
  | 0=>l
  | k+1=>(fu bits l k).set k (fc bits k ((fu bits l k).getD k 0))
theorem fe (bits : Int) (l : List Bt) : ∀ k,(fu bits l k).length=l.length
  | 0=>rfl
  | k+1=>by rw [fu,List.length_set,fe bits l k]
def bH (bits : Int) (l : List Bt) : List Bt:=fu bits l (bY l).length
theorem mP (l : List Bt) : (bY l).length≤l.length:=by
  unfold bY
  split
  · exact Nat.le_trans (List.takeWhile_sublist _).length_le (List.takeWhile_sublist _).length_le
  · exact Nat.zero_le _
theorem OQ.mQ {P : Program} {n : Nat} {E : Env} {C : World→Prop} {dst : Option Tmp} {t t' ty : TypeId} {pos : String} {aft : Array Edge} {g : Option (Nat × Bool)} {x y : Operand} {a b : BitVec 8} (hx : ev E x=some (U8 a)) (hy : ev E y=some (U8 b)) : OQ P n E C ⟨dst,.binOp .andNot t x y t',ty,pos,aft,g⟩ (U8 (a &&& ~~~ b)):=
  OQ.bin hx hy rfl fun _=>dR (k:=.u8) (show IntKind.u8.wrap ((BitVec.ofInt 8 (a.toNat : Int) &&& ~~~ BitVec.ofInt 8 (b.toNat : Int)).toNat : Int)=_ by rw [cX,cX,kr])
theorem lH {l : List Bt} {k : Nat} : l.set k (l.getD k 0)=l:=by
  apply List.ext_getElem?
  intro i
  rw [List.getElem?_set]
  split
  · rename_i h
    subst h
    split
    · rename_i h2
      rw [List.getD_eq_getElem?_getD,List.getElem?_eq_getElem h2]
      rfl
    · rename_i h2
      rw [List.getElem?_eq_none (by omega)]
  · rfl
theorem JL.cq {P : Program} {n : Nat} {w0 : World} {S : List Nat} {ops : Array Oper} {Q : Exit→Act→World→Prop} {l : List Oper} {E : Env} {M M' : List ah} {b j k cap : Nat} {t e ty : TypeId} {pos : String} {aft : Array Edge} {v : Value} {x y : Operand} {xs xs' : List Value}
    (hz : bX P t=some 1) (hx : ev E x=some (.pointer (some ⟨b,j,none⟩))) (hy : ev E y=some v) (hv : v.oneCell'=true) (hcl : v.cells=#[v]) (hu : eE M b (Sl.Own e 1 k cap xs) (Sl.Own e 1 k cap xs') M') (hj : j<xs.length) (he : xs.set j v=xs')
    (kk : JL P n w0 S ops Q l E M') : JL P n w0 S ops Q (⟨none,.store t x y,ty,pos,aft,none⟩::l) E M:=
  JL.store hx hy hz hv hcl hu (by
    rintro o ⟨sp,rfl,h2,h3,h4⟩
    subst he
    refine ⟨_,_,rfl,by simp only [List.size_toArray,List.length_append];omega,sp,?_,by simpa using h2,by simpa using h3,h4⟩
    simp only [List.setIfInBounds_toArray]
    rw [List.set_append_left _ _ hj]) kk
theorem iU : aM Tryd.prog 22:=⟨_,Tryd.func22,rfl,by kernel_rfl⟩
set_option maxHeartbeats 8000000 in
theorem j5 (s : ai) (bits : Int) (w : World) (hs : s.ok w) (hl : s.l.length≤4294967296) :
    Calls Tryd.prog 22 [s.v,I bits].toArray w fun e w'=>∃ q : {q : Acc // q=none→s.l=[]},e=.returned (aE q.1 s.l.length)∧aa w [] (aQ 5 q.1 ((bH bits s.l).map U8)) w':=by
  refine enter (n:=44) Tryd.func22 rfl rfl rfl (aa.start w []) ?_
  have hnl:=mP s.l
  repeat (first | refine JL.q (by first|(apply OQ.move;rfl)|(apply OQ.assign;rfl)) rfl ?_ | refine JC.seq ?_ | refine JC.region ?_ | refine JL.nil ?_ | refine JE.next ?_)
  refine JL.cH (ι:={q : Acc // q=none→s.l=[]}) (vs:=[s.v]) (fun q=>aE q.1 s.l.length) (fun q=>aQ 5 q.1 (s.l.map U8)) iH rfl rfl (fun q=>cl _ _ _) (fun w' hw'=>(jO s w' (hs.holds hw' rfl) hl).mono fun _ _ ⟨q,e,hq,h⟩=>⟨⟨q,hq⟩,e,h⟩) fun q=>?_
  rw [List.append_nil]
  repeat (first | refine JL.q (by first|(apply OQ.aH (vs:=[s.v]);exact j4;rfl;exact (fun w' hw'=>lG s w' (hs.holds hw' rfl) (by omega)))|(apply OQ.pJ (l:=bY s.l);exact Tryd.underlying9;rfl)|(apply OQ.move;rfl)|(apply OQ.assign;rfl)) rfl ?_ | refine JC.seq ?_ | refine JC.region ?_ | refine JC.block ?_ | refine JL.nil ?_ | refine JE.next ?_)
  refine JC.loop (fun k : Nat=>[(0,s.v),(1,I bits),(5,aE q.1 s.l.length),(12,N (bY s.l).length),(13,N k)]) (fun k=>aQ 5 q.1 ((fu bits s.l k).map U8)) (fun k=>(bY s.l).length - k) (fun k=>k≤(bY s.l).length) 0 (Nat.zero_le _) (by repeat (first | exact aj.nil | refine aj.cons _ _ _ rfl ?_)) (av.refl _) ?_
  intro k hk
  repeat (first | refine JL.q (by (apply OQ.gA;rfl;rfl)) rfl ?_ | refine JC.seq ?_ | refine JC.region ?_ | refine JL.nil ?_ | refine JE.next ?_)
  refine JC.cond rfl (fun h=>?_) (fun h=>?_)
  rotate_left
  · have hk2 : k=(bY s.l).length:=by have:=of_decide_eq_false h;omega
    subst hk2
    repeat (first | refine JL.q (by first|(apply OQ.move;rfl)|(apply OQ.assign;rfl)) rfl ?_ | refine JC.seq ?_ | refine JC.region ?_ | refine JC.exit ?_ | refine JL.nil ?_ | refine JE.next ?_ | refine JE.aJ ?_ | refine JE.bk ?_)
    refine JC.ret ?_
    skip
    exact JE.aN rfl (RV.tmp rfl) fun w' hw=>⟨q,rfl,hw⟩
  have hk2 : k<(bY s.l).length:=by have:=of_decide_eq_true h;omega
  clear h
  obtain ⟨q,hq⟩:=q
  cases q with
  | none=>
    have h0 : s.l.length=0:=by rw [hq rfl];rfl
    omega
  | some r=>
  have hcl:=fe bits s.l k
  have hnx : fu bits s.l (k+1)=(fu bits s.l k).set k (fc bits k ((fu bits s.l k).getD k 0)):=rfl
  generalize fu bits s.l k=L at *
  have hkl : k<L.length:=by omega
  obtain ⟨c,hc⟩ : ∃ c,L.getD k 0=c:=⟨_,rfl⟩
  rw [hc] at hnx
  have hget : (L.map U8)[k]?=some (U8 c):=by rw [List.getElem?_map,← hc,List.getD_eq_getElem?_getD,List.getElem?_eq_getElem hkl];rfl
  have hkv : aE (some r) s.l.length=.slice (some ⟨r.1,0,none⟩) s.l.length r.2:=rfl
  have hca : fc bits k c=if (c ||| 32#8).toNat<97∨122<(c ||| 32#8).toNat then c else if lE bits k then (c ||| 32#8) &&& ~~~ 32#8 else c ||| 32#8:=rfl
  dsimp only
  rw [hkv]
  obtain ⟨g1,hg1⟩ : ∃ g,decide (((c ||| 32#8).toNat : Int)<97)=g:=⟨_,rfl⟩
  obtain ⟨g2,hg2⟩ : ∃ g,decide ((122 : Int)<((c ||| 32#8).toNat : Int))=g:=⟨_,rfl⟩
  have stay : fc bits k c=c→L.set k (fc bits k c)=L:=fun h=>by rw [h,← hc];exact lH
  have hll : s.l.length=(L.map U8).length:=by rw [List.length_map];exact hcl.symm
  rw [hll] at hkv
  cases g1
  case true=>
    have hst:=stay (by rw [hca,if_pos (.inl (by have:=of_decide_eq_true hg1;omega))])
    repeat (first | refine JL.q (by first|(apply OQ.fz (i:=k) (len:=s.l.length) (cap:=r.2) (b:=r.1);exact Tryd.underlying22;exact bG;rfl;rfl;exact (by omega))|(apply OQ.load;exact gD;rfl;exact .here;exact (Sl.Own.cell hget))|(apply OQ.o3 (b:=32#8);rfl;rfl)|(apply OQ.gG (b:=97);rfl;rfl;exact hg1)|(apply OQ.bA;rfl;rfl)|(apply OQ.move;rfl)|(apply OQ.assign;rfl)) rfl ?_ | refine JC.seq ?_ | refine JC.region ?_ | refine JC.block ?_ | refine JC.skip ?_ | refine JL.nil ?_ | refine JE.next ?_ | refine JL.cG rfl rfl rfl rfl ?_)
    refine JC.cond_true rfl rfl ?_
    repeat (first | refine JL.q (by first|(apply OQ.move;rfl)|(apply OQ.bn;rfl;rfl;exact (by (try simp only []);omega))) rfl ?_ | refine JC.region ?_ | refine JC.exit ?_ | refine JL.nil ?_ | refine JE.next ?_ | refine JE.aJ ?_ | refine JE.bk ?_)
    rw [hst] at hnx
    exact JE.again (i:=k) (k+1) (by omega) (by omega) (by repeat (first | exact aj.nil | refine aj.cons _ _ _ rfl ?_)) (by rw [hnx];exact av.refl _)
  cases g2
  case true=>
    have hst:=stay (by rw [hca,if_pos (.inr (by have:=of_decide_eq_true hg2;omega))])
    repeat (first | refine JL.q (by first|(apply OQ.fz (i:=k) (len:=s.l.length) (cap:=r.2) (b:=r.1);exact Tryd.underlying22;exact bG;rfl;rfl;exact (by omega))|(apply OQ.load;exact gD;rfl;exact .here;exact (Sl.Own.cell hget))|(apply OQ.o3 (b:=32#8);rfl;rfl)|(apply OQ.gG (b:=97);rfl;rfl;exact hg1)|(apply OQ.iF (b:=122);rfl;rfl;exact hg2)|(apply OQ.bM;rfl;rfl)|(apply OQ.move;rfl)|(apply OQ.assign;rfl)) rfl ?_ | refine JC.seq ?_ | refine JC.region ?_ | refine JC.block ?_ | refine JC.skip ?_ | refine JL.nil ?_ | refine JE.next ?_ | refine JL.aT rfl rfl ?_)
    refine JC.cond_true rfl rfl ?_
    repeat (first | refine JL.q (by first|(apply OQ.move;rfl)|(apply OQ.bn;rfl;rfl;exact (by (try simp only []);omega))) rfl ?_ | refine JC.region ?_ | refine JC.exit ?_ | refine JL.nil ?_ | refine JE.next ?_ | refine JE.aJ ?_ | refine JE.bk ?_)
    rw [hst] at hnx
    exact JE.again (i:=k) (k+1) (by omega) (by omega) (by repeat (first | exact aj.nil | refine aj.cons _ _ _ rfl ?_)) (by rw [hnx];exact av.refl _)
  have hin : ¬ ((c ||| 32#8).toNat<97∨122<(c ||| 32#8).toNat):=by
    have h1:=of_decide_eq_false hg1
    have h2:=of_decide_eq_false hg2
    omega
  rw [if_neg hin] at hca
  have hs1 : (L.map U8).set k (U8 (c ||| 32#8))=(L.set k (c ||| 32#8)).map U8:=by rw [List.map_set]
  have hl1 : (L.set k (c ||| 32#8)).length=L.length:=List.length_set
  have hget1 : ((L.set k (c ||| 32#8)).map U8)[k]?=some (U8 (c ||| 32#8)):=by rw [List.getElem?_map,List.getElem?_set_self hkl];rfl
  have hs2 : ((L.set k (c ||| 32#8)).map U8).set k (U8 ((c ||| 32#8) &&& ~~~ 32#8))=(L.set k ((c ||| 32#8) &&& ~~~ 32#8)).map U8:=by rw [← List.map_set,List.set_set]
  have hbit:=fun (w' : World)=>mN bits k w'
  repeat (first | refine JL.q (by first|(apply OQ.fz (i:=k) (len:=s.l.length) (cap:=r.2) (b:=r.1);exact Tryd.underlying22;exact bG;rfl;rfl;exact (by omega))|(apply OQ.load;exact gD;rfl;exact .here;exact (Sl.Own.cell hget))|(apply OQ.o3 (b:=32#8);rfl;rfl)|(apply OQ.gG (b:=97);rfl;rfl;exact hg1)|(apply OQ.iF (b:=122);rfl;rfl;exact hg2)|(apply OQ.bM;rfl;rfl)|(apply OQ.move;rfl)|(apply OQ.assign;rfl)) rfl ?_ | refine JC.seq ?_ | refine JC.region ?_ | refine JC.block ?_ | refine JC.skip ?_ | refine JL.nil ?_ | refine JE.next ?_ | refine JL.aT rfl rfl ?_)
  refine JC.cond_false rfl rfl ?_
  repeat (first | refine JL.q (by first|(apply OQ.fz (i:=k) (len:=s.l.length) (cap:=r.2) (b:=r.1);exact Tryd.underlying22;exact bG;rfl;rfl;exact (by omega))|(apply OQ.load;exact gD;rfl;exact .here;exact (Sl.Own.cell hget))|(apply OQ.o3 (b:=32#8);rfl;rfl)|(apply OQ.move;rfl)) rfl ?_ | refine JC.seq ?_ | refine JC.region ?_ | refine JC.skip ?_ | refine JE.next ?_)
  refine JL.cq bG rfl rfl rfl rfl .here (by rw [List.length_map];exact hkl) hs1 ?_
  obtain ⟨g3,hg3⟩ : ∃ g,lE bits k=g:=⟨_,rfl⟩
  rw [hg3] at hca
  cases g3
  case false=>
    repeat (first | refine JL.q (by first|(apply OQ.aH (vs:=[I bits,N k]);exact gR;rfl;exact (fun w' _=>hg3 ▸ hbit w'))|(apply OQ.move;rfl)) rfl ?_ | refine JC.seq ?_ | refine JC.region ?_ | refine JL.nil ?_ | refine JE.next ?_)
    refine JC.cond_false rfl rfl ?_
    repeat (first | refine JL.q (by first|(apply OQ.move;rfl)|(apply OQ.bn;rfl;rfl;exact (by (try simp only []);omega))) rfl ?_ | refine JC.region ?_ | refine JC.skip ?_ | refine JL.nil ?_ | refine JE.next ?_ | refine JE.au ?_)
    rw [hca,if_neg (by decide)] at hnx
    exact JE.again (i:=k) (k+1) (by omega) (by omega) (by repeat (first | exact aj.nil | refine aj.cons _ _ _ rfl ?_)) (by rw [hnx];unfold aQ;rw [List.length_map,List.length_map,hl1];exact av.refl _)
  case true=>
    repeat (first | refine JL.q (by first|(apply OQ.aH (vs:=[I bits,N k]);exact gR;rfl;exact (fun w' _=>hg3 ▸ hbit w'))|(apply OQ.move;rfl)) rfl ?_ | refine JC.seq ?_ | refine JC.region ?_ | refine JL.nil ?_ | refine JE.next ?_)
    refine JC.cond_true rfl rfl ?_
    repeat (first | refine JL.q (by first|(apply OQ.fz (i:=k) (len:=s.l.length) (cap:=r.2) (b:=r.1);exact Tryd.underlying22;exact bG;rfl;rfl;exact (by omega))|(apply OQ.load;exact gD;rfl;exact .here;exact (Sl.Own.cell hget1))|(apply OQ.mQ (b:=32#8);rfl;rfl)|(apply OQ.move;rfl)) rfl ?_ | refine JC.region ?_)
    refine JL.cq bG rfl rfl rfl rfl .here (by rw [List.length_map,hl1];exact hkl) hs2 ?_
    repeat (first | refine JL.q (by first|(apply OQ.move;rfl)|(apply OQ.bn;rfl;rfl;exact (by (try simp only []);omega))) rfl ?_ | refine JC.region ?_ | refine JL.nil ?_ | refine JE.next ?_ | refine JE.au ?_)
    rw [hca,if_pos rfl] at hnx
    exact JE.again (i:=k) (k+1) (by omega) (by omega) (by repeat (first | exact aj.nil | refine aj.cons _ _ _ rfl ?_)) (by rw [hnx];unfold aQ;rw [List.length_map,List.length_map,List.length_set];exact av.refl _)
end Rw
end
section
set_option maxRecDepth 10000
open Sl c6 jr
namespace Rw
def cc (l : List Bt) (k : Nat) : List Bt:=bF ((l.drop (aC l k)).take (aA (l.drop (aC l k))))
theorem lI (h : ai) (k : Nat) : (aD h k).l=cc h.l k:=by
  show bF ((bw h k).l.take (aA (bw h k).l))=_
  rw [dJ]
  rfl
theorem jz (h : ai) (k : Nat) : (aD h k).l.length+(aI h k).l.length=aA (h.l.drop (aC h.l k)):=by
  have h1:=iP h k
  have h2 : (aI h k).l.length=(b9 h k).l.length - (aD h k).l.length:=List.length_drop
  have h3 : (b9 h k).l.length=aA (h.l.drop (aC h.l k)):=by
    show ((bw h k).l.take (aA (bw h k).l)).length=_
    rw [dJ,List.length_take]
    exact Nat.min_eq_left (fY _)
  omega
theorem ga {h : ai} {w : World} (hs : h.ok w) (k : Nat) : (aD h k).ok w:=lg (eY (di hs k))
theorem dY {w0 : World} {M : List ah} (h : ai) (hs : h.ok w0) (hl : h.l.length≤4611686018427387904) {bb : Nat} {t : TypeId} (hM : Has M bb (Row t [h.v]) true) :
    ∀ W,aa w0 [] M W→k6 Tryd.prog 29 #[Pt bb 0] (fun k=>#[(aD h k).v,(aI h k).v]) (fun b=>b ∈ [bb]) (cF h) (aR h.l).length W:=fun W hW=>by
  obtain ⟨o,ho,hA⟩:=hW.get hM
  have hge : w0.heap.size≤bb:=((hW.all _ hM.mem).2 rfl).resolve_left (by simp)
  have ho : W.heap[bb]?=some (.cells #[h.v] t (0,0)):=by rw [ho];exact congrArg some hA
  exact jV h bb hl W (hs.holds hW rfl) (fun k hk=>by have:=bT hs k hk;omega) ho
theorem jA (l : List Bt) : (aR l).length≤l.length:=by
  have key : ∀ k,k≤(aR l).length→k≤aC l k:=by
    intro k
    induction k with
    | zero=>exact fun _=>Nat.zero_le _
    | succ k ih=>
      intro hk
      have h1:=ih (by omega)
      have h2:=(eZ l k).1 (by omega)
      have h3 : 0<aA (l.drop (aC l k)):=gM (by rw [ne_eq,List.drop_eq_nil_iff];omega)
      show k+1≤aC l k+_
      omega
  have:=key _ (Nat.le_refl _)
  have:=cP l (aR l).length
  omega
def j6 (f : List (Nat × Nat)) (n : Nat) : List (Nat × Nat):=f.set (f.length - 1) ((f.getD (f.length - 1) (0,0)).1,(f.getD (f.length - 1) (0,0)).2+n)
def dZ (l : List Bt) (k : Nat) (f : List (Nat × Nat)) : List (Nat × Nat):=if gQ ((cc l k).getD 0 0) then f else f++[(aC l k,0)]
def dK (l : List Bt) : Nat→List (Nat × Nat)
  | 0=>[]
  | k+1=>j6 (dZ l k (dK l k)) (aA (l.drop (aC l k)))
theorem gb (l : List Bt) (k : Nat) : aC l k≤aC l (k+1):=Nat.le_add_right _ _
theorem jB {l : List Bt} {k : Nat} {f : List (Nat × Nat)} (h : ∀ p ∈ f,p.1+p.2≤aC l k) : ∀ p ∈ dZ l k f,p.1+p.2≤aC l k:=by
  unfold dZ
  split
  · exact h
  · intro p hp
    rcases List.mem_append.1 hp with hp | hp
    · exact h p hp
    · obtain rfl:=List.mem_singleton.1 hp
      exact Nat.le_refl _
theorem oa {f : List (Nat × Nat)} {a n : Nat} (h : ∀ p ∈ f,p.1+p.2≤a) : ∀ p ∈ j6 f n,p.1+p.2≤a+n:=by
  intro p hp
  rcases List.mem_or_eq_of_mem_set hp with hp | rfl
  · have:=h p hp;omega
  · by_cases hf : f=[]
    · subst hf;simp [j6] at hp
    · have hlt : f.length - 1<f.length:=by have:=List.length_pos_iff.2 hf;omega
      have:=h (f.getD (f.length - 1) (0,0)) (by rw [List.getD_eq_getElem?_getD,List.getElem?_eq_getElem hlt];exact List.getElem_mem _)
      dsimp only
      omega
theorem lJ (l : List Bt) : ∀ k,∀ p ∈ dK l k,p.1+p.2≤aC l k
  | 0=>by intro p hp;cases hp
  | k+1=>oa (jB (lJ l k))
theorem gS {l : List Bt} {k : Nat} {f : List (Nat × Nat)} : (dZ l k f).length≤f.length+1:=by
  unfold dZ
  split
  · omega
  · simp
theorem iV (l : List Bt) : ∀ k,(dK l k).length≤k
  | 0=>Nat.le_refl _
  | k+1=>by
    have h1:=iV l k
    have h2:=gS (l:=l) (k:=k) (f:=dK l k)
    show (List.set _ _ _).length≤k+1
    rw [List.length_set]
    omega
def aB (h : ai) (p : Nat × Nat) : Value:=.slice (h.snd p.1).ad p.2 (h.snd p.1).cap
def bg (l : List Bt) : List (Nat × Nat):=if (aR l).length=0∨gQ ((cc l 0).getD 0 0)=true then [] else dK l (aR l).length
structure oQ where
  q : Acc
  k : Nat
theorem gT : aM Tryd.prog 17:=⟨_,Tryd.func17,rfl,by kernel_rfl⟩
theorem pT : EI Tryd.prog 22 (.slice none 0 0) 1 24:=by unfold EI;kernel_rfl
theorem j7 : dy Tryd.prog 31=true:=by kernel_rfl
theorem pU : bX Tryd.prog 31=some 1:=by kernel_rfl
theorem bP : dy Tryd.prog 3=true:=by kernel_rfl
theorem jC : bX Tryd.prog 3=some 1:=by kernel_rfl
abbrev mR (b1 b2 b3 b4 : Nat) (h : ai) (s : oQ) : List ah:=⟨b1,Row 22 [h.v],true⟩::⟨b2,Row 31 [.slice none 0 0],true⟩::⟨b3,Row 31 [aE s.q (dK h.l s.k).length],true⟩::⟨b4,Row 3 [N (aC h.l s.k)],true⟩::aQ 22 s.q ((dK h.l s.k).map (aB h))
theorem aZ {e : TypeId} {l : List Value} : ∀ o,Row e l o→o.isCells=true:=by rintro o rfl;rfl
theorem ec {e : TypeId} {q : Acc} {l : List Value} : ∀ x ∈ aQ e q l,∀ o,x.A o→o.isCells=true:=by
  intro x hx o hA
  cases q with
  | none=>cases hx
  | some p=>
    rw [List.mem_singleton.1 hx] at hA
    obtain ⟨_,rfl,_⟩:=hA
    rfl
theorem fJ {b1 b2 b3 b4 : Nat} {h : ai} {s : oQ} : ∀ e ∈ mR b1 b2 b3 b4 h s,∀ o,e.A o→o.isCells=true:=by
  intro e he o hA
  simp only [mR,List.mem_cons] at he
  rcases he with rfl | rfl | rfl | rfl | he
  · exact aZ o hA
  · exact aZ o hA
  · exact aZ o hA
  · exact aZ o hA
  · exact ec e he o hA
theorem lK {b1 b2 b3 b4 : Nat} {h : ai} {s : oQ} : ∀ e ∈ mR b1 b2 b3 b4 h s,e.wr=true:=by
  intro e he
  simp only [mR,List.mem_cons] at he
  rcases he with rfl | rfl | rfl | rfl | he
  · rfl
  · rfl
  · rfl
  · rfl
  · exact cl _ _ _ e he
theorem KE.nB {P : Program} {D n m : Nat} {w0 : World} {S : List Nat} {E : Env} {M : List ah} {fn : Func} {R : Ending→World→Prop} {r1 : ResultVar} {v1 : Value} (hr : fn.results=#[r1]) (h1 : RV P n w0 S E M r1 v1) (hR : ∀ w,aa w0 S M w→R (.returned v1) w) : KE D n w0 S (bodyPostM Fence.wide m P fn R) .ret E (⟨D,fV,true⟩::M):=by
  refine ⟨fun a w ha hw=>dW (v:=v1) ha hw (fun w' hw'=>?_) hR⟩
  have e1:=h1 _ w' ha.base hw'
  dsimp only at e1
  rw [bL,hr]
  simp [e1,Sem.run_bind]
theorem JR.join {ι : Type} {P : Program} {n : Nat} {w0 : World} {S : List Nat} {Q Q' : Exit→Act→World→Prop} {E : Env} {M : List ah} {r m : Nat} (Ei : ι→Env) (Mi : ι→List ah) (I : ι→Prop) {p q : Code} (h : JR P n w0 S r m (Exit.then (fun a' w'=>∃ i,I i∧an n (Ei i) a'∧aa w0 S (Mi i) w') Q) p E M)
    (k : ∀ i,I i→JR P n w0 S r m Q' q (Ei i) (Mi i)) : JR P n w0 S r m (Exit.then (q.wpIn (Rd r) m P Q') Q) p E M:=
  ⟨fun a w ha hw=>wpIn_mono (h.go a w ha hw) fun e a' w' he=>by
    cases e with
    | normal=>obtain ⟨i,hi,h1,h2⟩:=he;exact (k i hi).go a' w' h1 h2
    | exit _=>exact he
    | goto _=>exact he
    | ret=>exact he
    | panic _=>exact he
    | outgrown=>exact he⟩
theorem OQ.nC {P : Program} {n : Nat} {E : Env} {C : World→Prop} {dst : Option Tmp} {t ty e : TypeId} {pos : String} {aft : Array Edge} {g : Option (Nat × Bool)} {x : Operand} {q : Acc} {k : Nat} (hu : P.underlying t=some (.slice e)) (hq : q=none→k=0) (hx : ev E x=some (aE q k)) : OQ P n E C ⟨dst,.call ⟨.builtin .len,#[x],#[t]⟩,ty,pos,aft,g⟩ (N k):=by
  cases q with
  | none=>obtain rfl:=hq rfl;exact OQ.len hu hx
  | some r=>exact OQ.len hu hx
theorem lM (e : ah) (A : List ah) : av [e] (e::A):=by
  obtain ⟨b,X,wr⟩:=e
  exact .keep _ _ _ _ _ _ (fun _ h=>h) (.nil _)
def mS (q : Acc) : Nat:=(q.getD (0,0)).1
set_option maxHeartbeats 16000000 in
theorem iW (h : ai) (w : World) (hs : h.ok w) (hl : h.l.length≤1000000000) (hne : ∀ k,k<(aR h.l).length→cc h.l k≠[]) :
    Calls Tryd.prog 17 [h.v].toArray w fun e w'=>∃ q : {q : Acc // q=none→bg h.l=[]},e=.returned (aE q.1 (bg h.l).length)∧aa w [] (aQ 22 q.1 ((bg h.l).map (aB h))) w':=by
  refine kY (n:=56) Tryd.func17 rfl rfl rfl (aa.start w []) ?_
  refine JC.seq (JC.region ?_)
  refine JL.box (r:=[h.v]) rfl rfl rfl fun b1 _=>?_
  refine JL.alloc (r:=[.slice none 0 0]) (by kernel_rfl) rfl fun b2 _=>?_
  repeat (first | refine JC.seq ?_ | refine JC.region ?_ | refine JL.nil ?_ | refine JE.next ?_)
  refine JL.alloc (r:=[.slice none 0 0]) (by kernel_rfl) rfl fun b3 _=>?_
  repeat (first | refine JC.seq ?_ | refine JC.region ?_ | refine JL.nil ?_ | refine JE.next ?_)
  refine JL.alloc (r:=[.int .i64 0]) (by kernel_rfl) rfl fun b4 _=>?_
  refine JL.bf (v:=.int .i64 0) (r':=[.int .i64 0]) jC rfl rfl rfl rfl .here (by decide) rfl ?_
  repeat (first | refine JL.q (by (apply OQ.load;exact e6;rfl;exact (.there (.there (.there .here)));exact (Row.cell (v:=h.v) rfl))) rfl ?_ | refine JC.seq ?_ | refine JC.region ?_ | refine JL.nil ?_ | refine JE.next ?_)
  refine JL.cH (ι:=Nat) (vs:=[h.v]) (fun b=>iN b) (fun b=>[⟨b,Row 22 [h.v],true⟩]) eX rfl rfl (fun b e he=>by rw [List.mem_singleton.1 he]) (fun w' _=>fG h w') fun be=>?_
  repeat (first | refine JC.block ?_ | refine JL.nil ?_ | refine JE.next ?_)
  have hfirst : ∀ k,k<(aR h.l).length→0<(cc h.l k).length:=fun k hk=>List.length_pos_iff.2 (hne k hk)
  refine JC.lf (ι:=oQ) (κ:=Unit) (τ:=oQ) (fun k=>#[(aD h k).v,(aI h k).v]) [⟨be,Row 22 [h.v],true⟩] (cF h) (aR h.l).length (fun k=>(11,(aI h k).v)::(10,(aD h k).v)::[(0,h.v),(1,Pt b1 0),(2,Pt b2 0),(3,Pt b3 0),(4,Pt b4 0)])
    (mR b1 b2 b3 b4 h) (fun k s=>s.k=k∧(s.q=none→dK h.l k=[])∧(0<k→dK h.l k≠[]∧gQ ((cc h.l 0).getD 0 0)=false)) (mR b1 b2 b3 b4 h) (fun k _=>[(5,(aD h k).v),(6,(aI h k).v),(0,h.v),(1,Pt b1 0),(2,Pt b2 0),(3,Pt b3 0),(4,Pt b4 0)]) (fun k s=>s.k=k∧(s.q=none→dK h.l k=[])∧(0<k→dK h.l k≠[]∧gQ ((cc h.l 0).getD 0 0)=false))
    (fun _=>[⟨b2,Row 31 [.slice none 0 0],true⟩]) (fun _=>bg h.l=[])
    ?hput (fun _=>rfl) rfl (enters_of Tryd.func29 (by kernel_rfl) rfl) (dY h hs (by omega) .here) (fun e he=>by rw [List.mem_singleton.1 he]) (fun _=>lK) (fun _=>lK) (fun _ e he=>by rw [List.mem_singleton.1 he]) (fun _=>fJ) (fun _=>fJ) (fun _ e he o hA=>by rw [List.mem_singleton.1 he] at hA;exact aZ o hA)
    (fun b hb=>⟨bT hs b hb,by simp⟩) ⟨none,0⟩ ⟨rfl,fun _=>rfl,fun h=>absurd h (by decide)⟩ ?hMz ?hasg ?hbody ?hdone ?hstop
  case hput=>
    intro k a ha
    rw [jo a 10 11 _ _ ha.defers]
    exact (((ha.put 10 _ rfl).put 11 _ rfl)).sub (by repeat (first | exact aj.nil | refine aj.cons _ _ _ rfl ?_))
  case hMz=>
    intro w' hw'
    refine hw'.perm ?_
    exact .cons _ (List.reverse_perm [(⟨b1,Row 22 [h.v],true⟩ : ah),⟨b2,Row 31 [.slice none 0 0],true⟩,⟨b3,Row 31 [.slice none 0 0],true⟩,⟨b4,Row 3 [N 0],true⟩])
  case hasg=>
    intro r k s w1 hi hk hH
    exact JR.seq (JR.region rfl (ag eA) (JL.q (OQ.assign rfl) rfl (JL.nil (JE.cr (JR.region rfl eA (JL.q (OQ.assign rfl) rfl (JL.nil (JE.mg s hi (by repeat (first | exact aj.nil | refine aj.cons _ _ _ rfl ?_)) (av.refl _)))))))))
  case hdone=>
    rintro D ⟨q,k⟩ ⟨hk,hq,hne'⟩
    dsimp only at hk hq hne'
    subst hk
    have hfb : bg h.l=dK h.l (aR h.l).length:=by
      unfold bg
      split
      · rename_i h0
        rcases h0 with h0 | h0
        · rw [h0];rfl
        · by_cases hz : (aR h.l).length=0
          · rw [hz];rfl
          · rw [(hne' (by omega)).2] at h0;cases h0
      · rfl
    rw [← hfb] at hq
    rw [show mR b1 b2 b3 b4 h ⟨q,(aR h.l).length⟩=⟨b1,Row 22 [h.v],true⟩::⟨b2,Row 31 [.slice none 0 0],true⟩::⟨b3,Row 31 [aE q (bg h.l).length],true⟩::⟨b4,Row 3 [N (aC h.l (aR h.l).length)],true⟩::aQ 22 q ((bg h.l).map (aB h)) from by rw [hfb]]
    repeat (first | refine KL.q (by (apply OQ.load;exact j7;rfl;exact (.there (.there (.there .here)));exact (Row.cell (v:=aE q (bg h.l).length) rfl))) rfl ?_ | refine KC.seq ?_ | refine KC.region ?_ | refine KE.next ?_ | refine KE.au ?_)
    refine KL.bf (v:=aE q (bg h.l).length) (r':=[aE q (bg h.l).length]) pU rfl rfl (by cases q <;> rfl) (by cases q <;> rfl) (.there (.there .here)) (by decide) rfl ?_
    repeat (first | refine KL.nil ?_ | refine KE.next ?_)
    refine KC.ret ?_
    refine KE.nB rfl (RV.cell rfl j7 (b:=b2) (.there .here) (Row.cell rfl)) fun w' hw=>⟨⟨q,hq⟩,rfl,hw.weak (.drop _ _ _ (.drop _ _ _ (.drop _ _ _ (.drop _ _ _ (av.refl _)))))⟩
  case hstop=>
    intro D _ hfb
    rw [hfb]
    exact KE.aU (KE.az (KE.nB rfl (RV.cell rfl j7 (b:=b2) .here (Row.cell (v:=.slice none 0 0) rfl)) fun w' hw=>⟨⟨none,fun _=>rfl⟩,rfl,hw.weak (.nil _)⟩))
  case hbody=>
    rintro r k ⟨q,k'⟩ w1 ⟨hk',hq,hpr⟩ hk hH
    dsimp only at hk' hq hpr
    subst hk'
    have hok : h.ok w1:=hs.holds hH rfl
    have tok:=ga hok k'
    have hge : ∀ b ∈ eS (mR b1 b2 b3 b4 h ⟨q,k'⟩),w.heap.size≤b:=hH.eT
    have htl:=lI h k'
    have hel:=jz h k'
    have hpos:=hfirst k' hk
    rw [← htl] at hpos
    have hat:=gb h.l k'
    have hatl:=cP h.l (k'+1)
    have hats : aC h.l (k'+1)=aC h.l k'+aA (h.l.drop (aC h.l k')):=rfl
    have hfl:=lJ h.l k'
    have hfn:=iV h.l k'
    have hnl : (aR h.l).length≤h.l.length:=by
      have:=jA h.l
      omega
    obtain ⟨c,rest,hc⟩ : ∃ c rest,(aD h k').l=c::rest:=by
      cases hh : (aD h k').l with
      | nil=>rw [hh] at hpos;cases hpos
      | cons c rest=>exact ⟨c,rest,rfl⟩
    have hc0 : (cc h.l k').getD 0 0=c:=by rw [← htl,hc];rfl
    have hop : dZ h.l k' (dK h.l k')=if gQ c then dK h.l k' else dK h.l k'++[(aC h.l k',0)]:=by unfold dZ;rw [hc0]
    obtain ⟨bt,jt,had,hcell⟩:=tok.reads.at (by rw [List.length_map];exact hpos)
    have hc1 : w1.cell? ⟨bt,jt,none⟩=some (U8 c):=by
      have:=hcell 0 (U8 c) (by rw [hc];rfl)
      exact this
    have htv : (aD h k').v=.slice (some ⟨bt,jt,none⟩) (aD h k').l.length (aD h k').cap:=by rw [← had];rfl
    have hbt : bt ∉ eS (mR b1 b2 b3 b4 h ⟨q,k'⟩):=fun hm=>by
      obtain ⟨b',j',had',hcell'⟩:=(ga hs k').reads.at (by rw [List.length_map];exact hpos)
      rw [had] at had'
      cases had'
      have h1 : bt<w.heap.size:=block_lt_of_cell (hcell' 0 (U8 c) (by rw [hc];rfl))
      have h2:=hge _ hm
      omega
    have hblt:=block_lt_of_cell hc1
    have hcap : h.l.length≤h.cap:=hs.len
    obtain ⟨f1,hf1⟩ : ∃ f1,dZ h.l k' (dK h.l k')=f1:=⟨_,rfl⟩
    have hfl1 : ∀ p ∈ f1,p.1+p.2≤aC h.l k':=hf1 ▸ jB hfl
    have hfn1 : f1.length≤k'+1:=by
      have:=gS (l:=h.l) (k:=k') (f:=dK h.l k')
      rw [hf1] at this
      omega
    have hfs1 : dK h.l (k'+1)=j6 f1 (aA (h.l.drop (aC h.l k'))):=by rw [← hf1];rfl
    rw [hf1] at hop
    obtain ⟨g,hg⟩ : ∃ g,gQ c=g:=⟨_,rfl⟩
    rw [hg] at hop
    have hbl:=fun w' : World=>hg ▸ j0 c w'
    show JR _ _ _ _ _ _ _ _ [(5,(aD h k').v),(6,(aI h k').v),(0,h.v),(1,Pt b1 0),(2,Pt b2 0),(3,Pt b3 0),(4,Pt b4 0)] _
    rw [htv]
    repeat (first | refine JL.q (by first|(apply OQ.bI (i:=0) (b:=bt) (j:=jt) (len:=(aD h k').l.length) (cap:=(aD h k').cap);exact Tryd.underlying22;exact bG;rfl;rfl;exact hpos)|(apply OQ.aK;exact gD;rfl;exact hblt;exact hbt;exact hc1)|(apply OQ.aH (vs:=[U8 c]);exact iS;rfl;exact (fun w' _=>hbl w'))|(apply OQ.not;rfl)|(apply OQ.move;rfl)) rfl ?_ | refine JR.seq ?_ | refine JR.block ?_ | refine JL.nil ?_ | with_reducible refine JE.cr ?_ | refine JR.region rfl (by first | with_reducible exact ak | with_reducible exact ag ak | with_reducible exact ay ak | with_reducible exact ag (ay ak) | with_reducible exact af | with_reducible exact ag af | with_reducible exact ay af | with_reducible exact ag (ay af) | with_reducible exact ag (ag (ay af))) ?_)
    rw [← htv]
    refine JR.join (fun _ : Acc=>[(5,(aD h k').v),(6,(aI h k').v),(0,h.v),(1,Pt b1 0),(2,Pt b2 0),(3,Pt b3 0),(4,Pt b4 0)]) (fun q'=>⟨b1,Row 22 [h.v],true⟩::⟨b2,Row 31 [.slice none 0 0],true⟩::⟨b3,Row 31 [aE q' f1.length],true⟩::⟨b4,Row 3 [N (aC h.l k')],true⟩::aQ 22 q' (f1.map (aB h))) (fun q'=>q'=none→f1=[]) ?_ ?_
    · cases g
      case true=>
        rw [if_pos rfl] at hop
        subst hop
        refine JR.cond rfl (fun h=>by cases h) (fun _=>?_)
        exact JR.skip (JE.mid q hq (by repeat (first | exact aj.nil | refine aj.cons _ _ _ rfl ?_)) (av.refl _))
      case false=>
        rw [if_neg (by decide)] at hop
        subst hop
        refine JR.cond rfl (fun _=>?_) (fun h=>by cases h)
        obtain ⟨A,hA⟩ : ∃ A,aC h.l k'=A:=⟨_,rfl⟩
        obtain ⟨F,hF⟩ : ∃ F,dK h.l k'=F:=⟨_,rfl⟩
        rw [hF] at hfn hq ⊢
        rw [hA] at hat ⊢
        have hAc : A≤h.cap:=by omega
        have hsl : (.slice (if h.cap=A then h.ad else h.ad.map (·.add (A * 1))) (A - A) (h.cap - A) : Value)=aB h (A,0):=by rw [Nat.sub_self];rfl
        have hm : ((F++[(A,0)]).map (aB h))=F.map (aB h)++[aB h (A,0)]:=by rw [List.map_append];rfl
        have hml : (F.map (aB h)).length=F.length:=List.length_map _
        have hll : (F++[(A,0)]).length=(F.map (aB h)++[aB h (A,0)]).length:=by rw [← hm,List.length_map]
        show JR _ _ _ _ _ _ _ _ _ (⟨b1,Row 22 [h.v],true⟩::⟨b2,Row 31 [.slice none 0 0],true⟩::⟨b3,Row 31 [aE q (dK h.l k').length],true⟩::⟨b4,Row 3 [N (aC h.l k')],true⟩::aQ 22 q ((dK h.l k').map (aB h)))
        rw [hF,hA]
        let vs : Nat→Acc→Value:=fun j y=>match j with
          | 0=>aE q F.length
          | 1=>h.v
          | 2=>N A
          | 3=>N A
          | 4=>aB h (A,0)
          | 5=>.slice (some ⟨mS y,0,none⟩) 1 1
          | 6=>aE (some (y.getD (0,0))) (F.map (aB h)++[aB h (A,0)]).length
          | _=>N 0
        let Ms : Nat→Acc→List ah:=fun j y=>match j with
          | 5=>[⟨mS y,Row 22 [aB h (A,0)],true⟩]
          | 6=>aQ 22 (some (y.getD (0,0))) (F.map (aB h)++[aB h (A,0)])
          | 7=>[⟨b3,Row 31 [aE (some (y.getD (0,0))) (F.map (aB h)++[aB h (A,0)]).length],true⟩]
          | 8=>[⟨b1,Row 22 [h.v],true⟩]
          | 9=>[⟨b2,Row 31 [.slice none 0 0],true⟩]
          | 10=>[⟨b3,Row 31 [aE q F.length],true⟩]
          | 11=>[⟨b4,Row 3 [N A],true⟩]
          | 12=>aQ 22 q (F.map (aB h))
          | _=>[]
        refine JR.gK (g:=⟨[(5,(aD h k').v),(6,(aI h k').v),(0,h.v),(1,Pt b1 0),(2,Pt b2 0),(3,Pt b3 0),(4,Pt b4 0)],13,vs,Ms,(fun j=>match j with | 4=>[(1,18),(2,19),(3,20)] | 5=>[(4,21)] | 6=>[(0,17),(5,22)] | 7=>[(6,23)] | _=>[]),(fun j=>match j with | 0=>[10] | 1=>[8] | 2=>[11] | 3=>[11] | 6=>[12,5] | 7=>[10] | _=>[]),(fun j=>match j with | 6=>[12] | 7=>[10] | _=>[]),(fun j=>match j with | 7=>some 6 | _=>none),fun _=>[],fun _ a b=>a=b⟩) [] [8,9,7,11,6] rfl (by repeat (first | with_reducible exact af | with_reducible apply ag | with_reducible apply ay)) fk (by repeat (first | exact aj.nil | refine aj.cons _ _ _ rfl ?_)) (fun _ _=>.nil) ?_ (by kernel_rfl) (by kernel_rfl) (by kernel_rfl) ?_ ?_
        · show av (Ms 8 default++(Ms 9 default++(Ms 10 default++(Ms 11 default++(Ms 12 default++[]))))) _;rw [List.append_nil];exact av.refl _
        · refine ⟨?_,?_,?_,?_,?_,?_,?_,?_,trivial⟩
          · (intro xx EF MF Q kk;(try refine JL.aT rfl rfl ?_);exact JL.q (OQ.load j7 rfl .here (Row.cell (v:=aE q F.length) rfl)) rfl (JL.nil (kk default nofun)))
          · (intro xx EF MF Q kk;(try refine JL.aT rfl rfl ?_);exact JL.q (OQ.load e6 rfl .here (Row.cell (v:=h.v) rfl)) rfl (JL.nil (kk default nofun)))
          · (intro xx EF MF Q kk;(try refine JL.aT rfl rfl ?_);exact JL.q (OQ.load bP rfl .here (Row.cell (v:=N A) rfl)) rfl (JL.nil (kk default nofun)))
          · (intro xx EF MF Q kk;(try refine JL.aT rfl rfl ?_);exact JL.q (OQ.load bP rfl .here (Row.cell (v:=N A) rfl)) rfl (JL.nil (kk default nofun)))
          · (intro xx EF MF Q kk;(try refine JL.aT rfl rfl ?_);exact JL.q (OQ.to (OQ.eN (ad:=h.ad) (len:=h.l.length) (cap:=h.cap) (lo:=A) (hi:=A) Tryd.underlying22 bG rfl rfl rfl (Nat.le_refl _) hAc) hsl) rfl (JL.nil (kk default nofun)))
          · (intro xx EF MF Q kk;exact JL.iz (v:=aB h (A,0)) Tryd.underlying31 pT rfl rfl rfl rfl fun b0 _=>JL.nil (kk (some (b0,0)) nofun))
          · (intro xx EF MF Q kk;refine JL.perm (M':=aQ 22 q (F.map (aB h))++((Ms 5 (xx 5)++[])++MF)) ?_ (List.Perm.of_eq (List.append_assoc _ _ _));refine JL.jm (xs:=F.map (aB h)) (cs:=[aB h (A,0)]) (m:=1) (ad:=some ⟨mS (xx 5),0,none⟩) (sc:=1) q Tryd.underlying31 pT (fun e=>by rw [hq e];rfl) ?hzx9 rfl rfl (fun w' hw'=>?hrd9) (fun v hv=>by rw [List.mem_singleton.1 hv];rfl) rfl (by rw [hml];omega) (by rw [hml];omega) rfl ?hkk9;(case hzx9=>rw [hml];rfl);(case hrd9=>(obtain ⟨o,ho,hA⟩:=hw'.get (b:=mS (xx 5)) (A:=Row 22 [aB h (A,0)]) (wr:=true) (pS (N:=aQ 22 q (F.map (aB h))) .here));exact Reads.block ho (Row.all _ hA));(case hkk9=>intro q3 hq3;cases q3 with | none=>exact absurd (hq3 rfl) (by simp) | some p=>exact JL.nil (kk (some p) nofun)))
          · (intro xx EF MF Q kk;exact JL.bf (v:=aE (some ((xx 6).getD (0,0))) (F.map (aB h)++[aB h (A,0)]).length) (r':=[aE (some ((xx 6).getD (0,0))) (F.map (aB h)++[aB h (A,0)]).length]) pU rfl rfl rfl rfl .here (Nat.zero_lt_one) rfl (JL.nil (kk (xx 6) (fun k h=>by cases h;rfl))))
        · intro xx hx
          have e7 : xx 7=xx 6:=hx 7 6 (by decide) rfl
          refine JE.mid (some ((xx 6).getD (0,0))) nofun (by repeat (first | exact aj.nil | refine aj.cons _ _ _ rfl ?_)) ?_
          show av _ (⟨b1,Row 22 [h.v],true⟩::⟨b2,Row 31 [.slice none 0 0],true⟩::⟨b3,Row 31 [aE (some ((xx 7).getD (0,0))) (F.map (aB h)++[aB h (A,0)]).length],true⟩::⟨b4,Row 3 [N A],true⟩::(aQ 22 (some ((xx 6).getD (0,0))) (F.map (aB h)++[aB h (A,0)])++[]))
          rw [e7,List.append_nil,← hm,List.length_map]
          exact av.refl _
    · intro q' hq'
      by_cases hfe : f1=[]
      · subst hfe
        have hg9 : decide (((([] : List (Nat × Nat)).length : Nat) : Int) - 1<0)=true:=rfl
        repeat (first | refine JL.q (by first|(apply OQ.load;exact j7;rfl;exact (.there (.there .here));exact (Row.cell (v:=aE q' ([] : List (Nat × Nat)).length) rfl))|(apply OQ.nC (q:=q') (k:=([] : List (Nat × Nat)).length);exact Tryd.underlying31;exact (fun e=>rfl);rfl)|(apply OQ.ox (a:=(([] : List (Nat × Nat)).length : Nat)) (b:=1);rfl;rfl;exact (by decide);exact (by decide))|(apply OQ.gG (b:=0);rfl;rfl;exact hg9)|(apply OQ.move;rfl)|(apply OQ.assign;rfl)) rfl ?_ | refine JR.seq ?_ | refine JL.nil ?_ | with_reducible refine JE.cr ?_ | refine JR.region rfl (by first | with_reducible exact ak | with_reducible exact ag ak | with_reducible exact ay ak | with_reducible exact ag (ay ak) | with_reducible exact af | with_reducible exact ag af | with_reducible exact ay af | with_reducible exact ag (ay af) | with_reducible exact ag (ag (ay af))) ?_)
        refine JR.cond rfl (fun _=>?_) (fun h=>by cases h)
        have hfb : bg h.l=[]:=by
          have hk0 : k'=0:=by
            rcases Nat.eq_zero_or_pos k' with h0 | h0
            · exact h0
            · have:=(hpr h0).1
              cases g
              · rw [if_neg (by decide)] at hop;exact absurd hop.symm (by simp)
              · rw [if_pos rfl] at hop;exact absurd hop.symm this
          subst hk0
          unfold bg
          rw [if_pos (.inr (by
            rw [hc0,hg]
            cases g
            · rw [if_neg (by decide)] at hop;exact absurd hop.symm (by simp)
            · rfl))]
        refine JR.seq (JR.region rfl (by repeat (first | with_reducible exact af | with_reducible apply ag | with_reducible apply ay)) ?_)
        refine JL.bf (v:=.slice none 0 0) (r':=[.slice none 0 0]) pU rfl rfl rfl rfl (.there .here) (by decide) rfl ?_
        refine JL.nil (JE.cr (JR.ret ?_))
        repeat (first | with_reducible refine JE.az ?_ | with_reducible refine JE.aU ?_)
        exact JE.cM () hfb (.drop _ _ _ (lM _ _))
      have hfp:=List.length_pos_iff.2 hfe
      obtain ⟨rr,hrr⟩ : ∃ rr,q'=some rr:=by
        cases q' with
        | none=>exact absurd (hq' rfl) hfe
        | some rr=>exact ⟨rr,rfl⟩
      subst hrr
      have hg9 : decide (((f1.length - 1 : Nat) : Int)<0)=false:=decide_eq_false (by omega)
      repeat (first | refine JL.q (by first|(apply OQ.load;exact j7;rfl;exact (.there (.there .here));exact (Row.cell (v:=aE (some rr) f1.length) rfl))|(apply OQ.nC (q:=some rr) (k:=f1.length);exact Tryd.underlying31;exact nofun;rfl)|(apply OQ.iq (a:=f1.length) (b:=1);rfl;rfl;exact (by omega);exact (by omega))|(apply OQ.gG (b:=0);rfl;rfl;exact hg9)|(apply OQ.move;rfl)|(apply OQ.assign;rfl)) rfl ?_ | refine JR.seq ?_ | refine JL.nil ?_ | with_reducible refine JE.cr ?_ | refine JR.region rfl (by first | with_reducible exact ak | with_reducible exact ag ak | with_reducible exact ay ak | with_reducible exact ag (ay ak) | with_reducible exact af | with_reducible exact ag af | with_reducible exact ay af | with_reducible exact ag (ay af) | with_reducible exact ag (ag (ay af))) ?_)
      refine JR.cond rfl (fun h=>by cases h) (fun _=>?_)
      obtain ⟨p,hp⟩ : ∃ p,f1.getD (f1.length - 1) (0,0)=p:=⟨_,rfl⟩
      have hlt1 : f1.length - 1<f1.length:=by omega
      have hpm : p ∈ f1:=by rw [← hp,List.getD_eq_getElem?_getD,List.getElem?_eq_getElem hlt1];exact List.getElem_mem _
      have hple:=hfl1 p hpm
      have hpg : (f1.map (aB h))[f1.length - 1]?=some (aB h p):=by
        rw [List.getElem?_map,← hp,List.getD_eq_getElem?_getD,List.getElem?_eq_getElem hlt1]
        rfl
      have hx1 : j6 f1 (aA (h.l.drop (aC h.l k')))=f1.set (f1.length - 1) (p.1,p.2+aA (h.l.drop (aC h.l k'))):=by unfold j6;rw [hp]
      have hsum : (aD h k').l.length+(aI h k').l.length=aA (h.l.drop (aC h.l k')):=hel
      have hN1 : N (aC h.l k'+((aD h k').l.length+(aI h k').l.length))=N (aC h.l (k'+1)):=by rw [hsum];rfl
      have hN2 : p.2+(aD h k').l.length+(aI h k').l.length=p.2+aA (h.l.drop (aC h.l k')):=by omega
      have hs2 : (f1.map (aB h)).set (f1.length - 1) (aB h (p.1,p.2+aA (h.l.drop (aC h.l k'))))=(dK h.l (k'+1)).map (aB h):=by rw [hfs1,hx1,List.map_set]
      have hln : (dK h.l (k'+1)).length=f1.length:=by rw [hfs1,hx1,List.length_set]
      have hcp : (h.snd p.1).cap=h.cap - p.1:=rfl
      have hsl3 : (.slice (if (h.snd p.1).cap=0 then (h.snd p.1).ad else (h.snd p.1).ad.map (·.add 0)) (p.2+aA (h.l.drop (aC h.l k'))) (h.snd p.1).cap : Value)=aB h (p.1,p.2+aA (h.l.drop (aC h.l k'))):=by
        unfold aB
        congr 1
        split
        · rfl
        · cases (h.snd p.1).ad <;> simp [Addr.add]
      have hmn : (f1.map (aB h)).length=f1.length:=List.length_map _
      repeat (first | refine JL.q (by first|(apply OQ.load;exact bP;rfl;exact (.there (.there (.there .here)));exact (Row.cell (v:=N (aC h.l k')) rfl))|(apply OQ.len (k:=(aD h k').l.length) (ad:=(aD h k').ad) (cap:=(aD h k').cap);exact Tryd.underlying22;rfl)|(apply OQ.len (k:=(aI h k').l.length) (ad:=(aI h k').ad) (cap:=(aI h k').cap);exact Tryd.underlying22;rfl)|(apply OQ.bn (a:=(aD h k').l.length) (b:=(aI h k').l.length);rfl;rfl;exact (by omega))|(apply OQ.to;exact (OQ.bn (a:=aC h.l k') (b:=(aD h k').l.length+(aI h k').l.length) rfl rfl (by omega));exact hN1)|(apply OQ.move;rfl)) rfl ?_ | refine JR.seq ?_ | with_reducible refine JE.cr ?_ | refine JR.skip ?_ | refine JR.region rfl (by first | with_reducible exact ak | with_reducible exact ag ak | with_reducible exact ay ak | with_reducible exact ag (ay ak) | with_reducible exact af | with_reducible exact ag af | with_reducible exact ay af | with_reducible exact ag (ay af) | with_reducible exact ag (ag (ay af))) ?_)
      refine JL.bf (v:=N (aC h.l (k'+1))) (r':=[N (aC h.l (k'+1))]) jC rfl rfl rfl rfl (.there (.there (.there .here))) Nat.zero_lt_one rfl ?_
      repeat (first | refine JL.nil ?_ | with_reducible refine JE.cr ?_)
      refine JR.tail 19 fk rfl (by repeat (first | with_reducible exact af | with_reducible apply ag | with_reducible apply ay)) (by kernel_rfl) ?_
      have hkv : aE (some rr) f1.length=.slice (some ⟨rr.1,0,none⟩) f1.length rr.2:=rfl
      rw [hkv]
      have hcl : ∀ o,Sl.Own 22 1 (f1.map (aB h)).length rr.2 (f1.map (aB h)) o→cellAt o (0+(f1.length - 1))=some (aB h p):=by rw [Nat.zero_add];exact Sl.Own.cell hpg
      repeat (refine JQ.q (by first|(apply OQ.load;exact j7;rfl;exact (.there (.there .here));exact (Row.cell (v:=.slice (some ⟨rr.1,0,none⟩) f1.length rr.2) rfl))|(apply OQ.bI (i:=f1.length - 1) (b:=rr.1) (j:=0) (len:=f1.length) (cap:=rr.2);exact Tryd.underlying31;exact iQ;rfl;rfl;exact hlt1)|(apply OQ.load (v:=aB h p);exact e6;rfl;exact (.there (.there (.there (.there .here))));exact hcl)|(apply OQ.len (k:=p.2) (ad:=(h.snd p.1).ad) (cap:=(h.snd p.1).cap);exact Tryd.underlying22;rfl)|(apply OQ.len (k:=(aD h k').l.length) (ad:=(aD h k').ad) (cap:=(aD h k').cap);exact Tryd.underlying22;rfl)|(apply OQ.len (k:=(aI h k').l.length) (ad:=(aI h k').ad) (cap:=(aI h k').cap);exact Tryd.underlying22;rfl)|(apply OQ.bn (a:=p.2) (b:=(aD h k').l.length);rfl;rfl;exact (by omega))|(apply OQ.to;exact (OQ.bn (a:=p.2+(aD h k').l.length) (b:=(aI h k').l.length) rfl rfl (by omega));exact (congrArg N hN2))|(apply OQ.to;exact (OQ.fP (ad:=(h.snd p.1).ad) (len:=p.2) (cap:=(h.snd p.1).cap) (hi:=p.2+aA (h.l.drop (aC h.l k'))) Tryd.underlying22 bG rfl rfl (by omega));exact hsl3)|(apply OQ.move;rfl)) rfl ?_)
      refine JQ.kn ?_
      refine JL.cq (j:=f1.length - 1) (xs':=(dK h.l (k'+1)).map (aB h)) iQ (by simp only [Nat.zero_add];rfl) rfl rfl rfl (.there (.there (.there (.there .here)))) (by rw [hmn];exact hlt1) hs2 ?_
      refine JL.nil ?_
      repeat (with_reducible refine JE.au ?_)
      refine JE.kZ ⟨some rr,k'+1⟩ ⟨rfl,nofun,fun _=>⟨fun e=>?_,?_⟩⟩ ?_
      · rw [e] at hln
        exact hfe (List.length_eq_zero_iff.1 hln.symm)
      · rcases Nat.eq_zero_or_pos k' with h0 | h0
        · subst h0
          rw [hc0,hg]
          cases g
          · rfl
          · rw [if_pos rfl] at hop
            exact absurd hop (fun e=>hfe e)
        · exact (hpr h0).2
      · show av (⟨b1,Row 22 [h.v],true⟩::⟨b2,Row 31 [.slice none 0 0],true⟩::⟨b3,Row 31 [aE (some rr) (dK h.l (k'+1)).length],true⟩::⟨b4,Row 3 [N (aC h.l (k'+1))],true⟩::[⟨rr.1,Sl.Own 22 1 ((dK h.l (k'+1)).map (aB h)).length rr.2 ((dK h.l (k'+1)).map (aB h)),true⟩]) _
        rw [hln,List.length_map,hln,← hmn]
        exact av.refl _
end Rw
end
section
set_option maxRecDepth 10000
open Sl
namespace Sl
section
variable {P : Program} {n : Nat} {w0 : World} {S : List Nat} {ops : Array Oper} {Q : Exit→Act→World→Prop} {l : List Oper} {E : Env} {M M' M0 : List ah} {d : Nat} {t e ty : TypeId} {pos : String} {aft : Array Edge} {x y : Operand}
end
section
variable {P : Program} {n : Nat} {w0 : World} {S : List Nat} {ops : Array Oper} {Q : Exit→Act→World→Prop} {l : List Oper} {E : Env} {M M' : List ah} {C : World→Prop}
variable {dst : Option Tmp} {d b : Nat} {t e ty : TypeId} {pos : String} {aft : Array Edge} {g : Option (Nat × Bool)} {x y : Operand} {c : List Value} {L : List (List Value)} {wr : Bool}
end
section
variable {P : Program} {n : Nat} {w0 : World} {S : List Nat} {ops : Array Oper} {Q : Exit→Act→World→Prop} {l : List Oper} {E : Env} {M M' : List ah}
variable {b : Nat} {t e ty : TypeId} {pos : String} {aft : Array Edge} {x y : Operand} {c : List Value} {L : List (List Value)}
end
end Sl
end
section
set_option maxRecDepth 10000
open Sl
namespace Sl
section
variable {P : Program} {n : Nat} {w0 : World} {S : List Nat} {ops : Array Oper} {Q : Exit→Act→World→Prop} {l : List Oper} {E : Env} {M M' : List ah} {C : World→Prop}
variable {dst : Option Tmp} {d b : Nat} {t e ty : TypeId} {pos : String} {aft : Array Edge} {g : Option (Nat × Bool)} {x y z u : Operand} {cs : List Value}
theorem zip_map {a : Act} (hk : an n E a) : ∀ {is : List Nat} {xs : List Operand} {vs : List Value},dx E xs=some vs→(is.zip xs).map (fun p=>(p.1,a.eval p.2))=is.zip vs
  | [],xs,vs,_=>by simp
  | i::is,[],vs,h=>by
    simp only [dx,Option.some.injEq] at h
    subst h
    rfl
  | i::is,x::xs,vs,h=>by
    simp only [dx] at h
    cases h1 : ev E x with
    | none=>simp [h1] at h
    | some v=>
      cases h2 : dx E xs with
      | none=>simp [h1,h2] at h
      | some us=>
        simp only [h1,h2,Option.some.injEq] at h
        subst h
        simp [hk.eval h1,zip_map hk h2]
theorem OQ.cQ {ps : Array (Nat × Operand)} (is : List Nat) (xs : List Operand) {vs : List Value} (hps : ps=(is.zip xs).toArray) (hx : dx E xs=some vs) (h : P.built t (is.zip vs)=some cs.toArray) : OQ P n E C ⟨dst,.build t ps,ty,pos,aft,g⟩ (.agg cs.toArray):=
  OQ.run fun a ha w _=>by
    have hm : ps.map (fun (i,x)=>(i,a.eval x))=(is.zip vs).toArray:=by
      rw [hps,List.map_toArray,← zip_map ha hx]
    have r:=run_build w t (is.zip vs).toArray cs.toArray (by simpa using h)
    simp only [execOp,hm,Sem.run_bind,r,Result.andThen_ok]
    rfl
end
end Sl
end
end Go.Proofs.YtbmagnpmfpfckaaDoor
