/-
  Of no statement by itself: the texts Slgr, Slfr, Slrw, DskC, DskD, DskE, Sliv, JrnP, JrnA, DskL, JrnM in one.
  Conditions: each theorem's own.
-/
import Derived.Test.YtopdkpeahhnihaaBb
import Derived.OrdersIn
import Derived.Laws.Cover3
import Derived.Laws.StructEq
/-
  Of no statement by itself: Slg's rule for regions whose order is open, with any relation between what an operation makes and what the one it stems from made.
  Conditions: the rule's own hypotheses.
-/
namespace Go.Proofs.Ytopdkpeahhnihaa
namespace Sl
variable {Y : Type}
structure GrowR (Y : Type) where
  E0 : Env
  N : Nat
  v : Nat → Y → Value
  M : Nat → Y → List Ent
  need : Nat → List (Nat × Nat)
  inp : Nat → List Nat
  eat : Nat → List Nat
  src : Nat → Option Nat
  E1 : Nat → Env
  R : Nat → Y → Y → Prop
/-- what is known at first of a slot that a later operation writes -/
def GrowR.okE1 (g : GrowR Y) (l : List Oper) (i : Nat) : Bool :=
  (g.E1 i).all fun p => (List.range l.length).all fun k => dstOf l k != some p.1 || (k != i && behindOf l k i)
def GrowR.okOp (g : GrowR Y) (l : List Oper) (i : Nat) (o : Oper) : Bool :=
  (((g.need i).all (fun p => behind o p.1 && dstOf l p.1 == some p.2) && srcOk o (g.src i)) && g.okE1 l i) &&
  ((g.inp i).all (fun j => decide (j < g.N) && (decide (l.length ≤ j) || behind o j)) &&
  ((g.eat i).all (fun j => (g.inp i).contains j) &&
  ((List.range l.length).all (fun k => k == i || (g.eat k).all fun j => !(g.inp i).contains j || behindOf l k i) &&
  (noDup (g.inp i) && (o.after.toList.all (fun e => !Region.binds .any e || decide (e.on < i)) && apartD l g.E0 i o.dst)))))
def GrowR.okFrom (g : GrowR Y) (l : List Oper) : Nat → List Oper → Bool
  | _, [] => true
  | i, o :: r => g.okOp l i o && g.okFrom l (i + 1) r
theorem GrowR.okFrom_at {g : GrowR Y} {l : List Oper} : ∀ {r : List Oper} {i : Nat}, g.okFrom l i r = true → ∀ {j o}, r[j]? = some o → g.okOp l (i + j) o = true
  | [], _, _, j, o, h => by simp at h
  | q :: r, i, hk, j, o, h => by
    simp only [GrowR.okFrom, Bool.and_eq_true] at hk
    cases j with
    | zero =>
      simp only [List.getElem?_cons_zero, Option.some.injEq] at h
      subst h
      exact hk.1
    | succ j =>
      have := GrowR.okFrom_at hk.2 (j := j) (o := o) (by simpa using h)
      rwa [show i + 1 + j = i + (j + 1) by omega] at this
def GrowR.Job (g : GrowR Y) (P : Program) (n : Nat) (w0 : World) (S : List Nat) (l : List Oper) (i : Nat) (o : Oper) : Prop :=
  ∀ (x : Nat → Y) (EF : Env) (MF : List Ent) (Q : Exit → Act → World → Prop),
    (∀ xi : Y, (∀ k, g.src i = some k → g.R i xi (x k)) → JE n w0 S Q .normal (slot o.dst (g.v i xi) ++ ((g.need i).map (fun p => (p.2, g.v p.1 (x p.1))) ++ (g.E0 ++ (g.E1 i ++ EF)))) (g.M i xi ++ (((g.inp i).filter fun j => !(g.eat i).contains j).flatMap (fun j => g.M j (x j)) ++ MF))) →
    JL P n w0 S l.toArray Q [o] ((g.need i).map (fun p => (p.2, g.v p.1 (x p.1))) ++ (g.E0 ++ (g.E1 i ++ EF))) ((g.inp i).flatMap (fun j => g.M j (x j)) ++ MF)
def GrowR.Jobs (g : GrowR Y) (P : Program) (n : Nat) (w0 : World) (S : List Nat) (l : List Oper) : Nat → List Oper → Prop
  | _, [] => True
  | i, o :: r => g.Job P n w0 S l i o ∧ g.Jobs P n w0 S l (i + 1) r
theorem GrowR.Jobs_at {g : GrowR Y} {P : Program} {n : Nat} {w0 : World} {S : List Nat} {l : List Oper} : ∀ {r : List Oper} {i : Nat}, g.Jobs P n w0 S l i r → ∀ {j o}, r[j]? = some o → g.Job P n w0 S l (i + j) o
  | [], _, _, j, o, h => by simp at h
  | q :: r, i, hk, j, o, h => by
    cases j with
    | zero =>
      simp only [List.getElem?_cons_zero, Option.some.injEq] at h
      subst h
      exact hk.1
    | succ j =>
      have := GrowR.Jobs_at hk.2 (j := j) (o := o) (by simpa using h)
      rwa [show i + 1 + j = i + (j + 1) by omega] at this

/-- which makings stand -/
def GrowR.live (g : GrowR Y) (m : Nat) (done : Array Bool) (j : Nat) : Prop := j < g.N ∧ (m ≤ j ∨ done.getD j false = true) ∧ ∀ k, done.getD k false = true → j ∉ g.eat k
structure GrowR.Inv (g : GrowR Y) (n : Nat) (w0 : World) (S : List Nat) (l : List Oper) (done : Array Bool) (x : Nat → Y) (a : Act) (w : World) : Prop where
  size : a.tmps.size = n
  defers : a.defers = []
  dsize : done.size = l.length
  base : ∀ p ∈ g.E0, a.tmps.getD p.1 undef = p.2
  first : ∀ j, j < l.length → done.getD j false = false → ∀ p ∈ g.E1 j, a.tmps.getD p.1 undef = p.2
  vals : ∀ j d, done.getD j false = true → dstOf l j = some d → a.tmps.getD d undef = g.v j (x j)
  rel : ∀ j k, done.getD j false = true → g.src j = some k → g.R j (x j) (x k)
  down : ∀ j i, done.getD j false = true → behindOf l j i = true → done.getD i false = true
  mem : HoldsI w0 S (g.live l.length done) (fun j => g.M j (x j)) w

section
variable {P : Program} {n : Nat} {w0 : World} {S : List Nat} {Q : Exit → Act → World → Prop} {E : Env} {M : List Ent} {g : GrowR Y} {l : List Oper}
theorem GrowR.run (hok : g.okFrom l 0 l = true) (hj : g.Jobs P n w0 S l 0 l)
    (hend : ∀ done x a w, g.Inv n w0 S l done x a w → (∀ j, j < l.length → done.getD j false = true) → Q .normal a w) :
    ∀ (f : Nat) (done : Array Bool) (x : Nat → Y) (a : Act) (w : World), f = (List.range l.length).countP (fun j => !done.getD j false) → g.Inv n w0 S l done x a w → wpAny P .any l.toArray Q f done a w := by
  have hrdy : ∀ done : Array Bool, done.size = l.length → Region.ready .any l.toArray done = [] → ∀ j, j < l.length → done.getD j false = true := by
    intro done hds hr j
    induction j using Nat.strongRecOn with
    | _ j ih =>
      intro hjl
      cases hd : done.getD j false with
      | true => rfl
      | false =>
        obtain ⟨o, ho⟩ : ∃ o, l[j]? = some o := ⟨_, List.getElem?_eq_getElem hjl⟩
        have hk := GrowR.okFrom_at hok ho
        simp only [GrowR.okOp, Bool.and_eq_true, Nat.zero_add] at hk
        have hkk := hk.2.2.2.2.2.1
        have : j ∈ Region.ready .any l.toArray done := by
          rw [mem_ready]
          refine ⟨?_, o, by simpa using ho, fun e he hb => ?_⟩
          · rw [Array.getD_eq_getD_getElem?, Array.getElem?_eq_getElem (by omega)] at hd ⊢
            simpa using hd
          · have := List.all_eq_true.1 hkk e (by simpa using he)
            simp only [hb, Bool.not_true, Bool.false_or, decide_eq_true_eq] at this
            exact ih e.on this (by omega)
        rw [hr] at this
        cases this
  intro f
  induction f with
  | zero =>
    intro done x a w hf hI
    have hall : ∀ j, j < l.length → done.getD j false = true := fun j hjl => by
      have := List.countP_eq_zero.1 hf.symm j (List.mem_range.2 hjl)
      simpa using this
    refine ⟨?_, hend done x a w hI hall⟩
    refine List.eq_nil_iff_forall_not_mem.2 fun i hi => ?_
    obtain ⟨hu, o, ho, _⟩ := mem_ready.1 hi
    have hil : i < l.length := by
      have := (Array.getElem?_eq_some_iff.1 ho).1
      simpa using this
    have := hall i hil
    rw [Array.getD_eq_getD_getElem?, Array.getElem?_eq_getElem (by have := hI.dsize; omega)] at hu this
    simp only [Option.getD_some] at hu this
    rw [hu] at this
    cases this
  | succ f ih =>
    intro done x a w hf hI
    have hds := hI.dsize
    refine ⟨fun h0 => hend done x a w hI (hrdy done hds h0), fun i hi => ?_⟩
    obtain ⟨hu, o, ho, hbe⟩ := mem_ready.1 hi
    have hil : i < l.length := by
      have := (Array.getElem?_eq_some_iff.1 ho).1
      simpa using this
    have ho' : l[i]? = some o := by simpa using ho
    have hu' : done.getD i false = false := by
      rw [Array.getD_eq_getD_getElem?, Array.getElem?_eq_getElem (by omega)] at hu ⊢
      simpa using hu
    have hk := GrowR.okFrom_at hok ho'
    simp only [GrowR.okOp, Bool.and_eq_true, Nat.zero_add] at hk
    obtain ⟨⟨⟨k1, k8⟩, k9⟩, k2, k3, k4, k5, _, k7⟩ := hk
    have hbeh : ∀ j, behind o j = true → done.getD j false = true := fun j hj => by
      simp only [behind, List.any_eq_true, Bool.and_eq_true, beq_iff_eq] at hj
      obtain ⟨e, he, rfl, hb⟩ := hj
      exact hbe e (by simpa using he) hb
    have hbi : ∀ k, behindOf l k i = true → done.getD k false = false := fun k hk => by
      cases h : done.getD k false with
      | false => rfl
      | true => have := hI.down k i h hk; rw [hu'] at this; cases this
    have hinp : ∀ j ∈ g.inp i, g.live l.length done j := by
      intro j hj
      have h2 := List.all_eq_true.1 k2 j hj
      simp only [Bool.and_eq_true, Bool.or_eq_true, decide_eq_true_eq] at h2
      refine ⟨h2.1, h2.2.imp id (hbeh j), fun k hkd hjk => ?_⟩
      have hkl : k < l.length := by
        by_cases h : k < l.length
        · exact h
        · rw [Array.getD_eq_getD_getElem?, Array.getElem?_eq_none (by omega)] at hkd
          cases hkd
      have h4 := List.all_eq_true.1 k4 k (List.mem_range.2 hkl)
      have hki : k ≠ i := fun e => by rw [e, hu'] at hkd; cases hkd
      simp only [Bool.or_eq_true, beq_iff_eq, hki, false_or] at h4
      have h5 := List.all_eq_true.1 h4 j hjk
      simp only [Bool.or_eq_true, Bool.not_eq_true', List.contains_eq_mem, decide_eq_false_iff_not, hj, not_true, false_or] at h5
      rw [hbi k h5] at hkd
      cases hkd
    have hdone_ne : ∀ j, done.getD j false = true → j ≠ i := fun j hj e => by rw [e, hu'] at hj; cases hj
    have hlen : ∀ k, done.getD k false = true → k < l.length := fun k hkd => by
      by_cases h : k < l.length
      · exact h
      · rw [Array.getD_eq_getD_getElem?, Array.getElem?_eq_none (by omega)] at hkd
        cases hkd
    have hdi : dstOf l i = o.dst := by simp [dstOf, ho']
    have hne : ∀ j d, done.getD j false = true → dstOf l j = some d → o.dst ≠ some d := by
      intro j d hjd hd he
      rw [he] at k7
      simp only [apartD, Bool.and_eq_true] at k7
      have := List.all_eq_true.1 k7.1 j (List.mem_range.2 (hlen j hjd))
      simp [hdone_ne j hjd, hd] at this
    have hne0 : ∀ p ∈ g.E0, o.dst ≠ some p.1 := by
      intro p hp he
      rw [he] at k7
      simp only [apartD, Bool.and_eq_true] at k7
      have := List.all_eq_true.1 k7.2 p hp
      simp at this
    let rest : List Nat := (List.range g.N).filter fun j => @decide (g.live l.length done j) (Classical.propDecidable _) && !(g.inp i).contains j
    have hrest : ∀ j, j ∈ rest ↔ g.live l.length done j ∧ j ∉ g.inp i := by
      intro j
      simp only [rest, List.mem_filter, List.mem_range, Bool.and_eq_true, Bool.not_eq_true', List.contains_eq_mem, decide_eq_false_iff_not]
      refine ⟨fun ⟨_, h2, h3⟩ => ⟨@of_decide_eq_true _ (Classical.propDecidable _) h2, h3⟩, fun ⟨h2, h3⟩ => ⟨h2.1, @decide_eq_true _ (Classical.propDecidable _) h2, h3⟩⟩
    have hnd : (g.inp i ++ rest).Nodup := by
      rw [List.nodup_append]
      refine ⟨noDup_spec k5, List.nodup_range.filter _, fun a ha b hb e => ?_⟩
      exact ((hrest b).1 hb).2 (e ▸ ha)
    have H1 := hI.mem.to (g.inp i ++ rest) hnd (fun j hj => by
      rcases List.mem_append.1 hj with h | h
      · exact hinp j h
      · exact ((hrest j).1 h).1)
    rw [List.flatMap_append] at H1
    let EF0 : Env := (List.range l.length).filterMap fun j => if done.getD j false = true then (dstOf l j).map (fun d => (d, g.v j (x j))) else none
    let EF1 : Env := (List.range l.length).flatMap fun j => if done.getD j false = true then [] else g.E1 j
    let EF : Env := EF0 ++ EF1
    have hEF : ∀ p, p ∈ EF0 ↔ ∃ j d, done.getD j false = true ∧ dstOf l j = some d ∧ p = (d, g.v j (x j)) := by
      intro p
      simp only [EF0, List.mem_filterMap, List.mem_range]
      constructor
      · rintro ⟨j, _, hp⟩
        split at hp
        · rename_i hjd
          obtain ⟨d, hd, rfl⟩ := Option.map_eq_some_iff.1 hp
          exact ⟨j, d, hjd, hd, rfl⟩
        · cases hp
      · rintro ⟨j, d, hjd, hd, rfl⟩
        exact ⟨j, hlen j hjd, by rw [if_pos hjd, hd]; rfl⟩
    have hEF1 : ∀ j, j < l.length → done.getD j false = false → ∀ p ∈ g.E1 j, p ∈ EF1 := by
      intro j hjl hjd p hp
      simp only [EF1, List.mem_flatMap, List.mem_range]
      exact ⟨j, hjl, by rw [if_neg (by rw [hjd]; decide)]; exact hp⟩
    have hne1 : ∀ j, j < l.length → done.getD j false = false → ∀ p ∈ g.E1 j, o.dst ≠ some p.1 := by
      intro j hjl hjd p hp he
      have hjo : l[j]? = some (l[j]'hjl) := List.getElem?_eq_getElem hjl
      have hkj := GrowR.okFrom_at hok hjo
      simp only [GrowR.okOp, Bool.and_eq_true, Nat.zero_add] at hkj
      have h9 := List.all_eq_true.1 hkj.1.2 p hp
      have h10 := List.all_eq_true.1 h9 i (List.mem_range.2 hil)
      simp only [hdi, he, bne_self_eq_false, Bool.false_or, Bool.and_eq_true] at h10
      have h11 : behind o j = true := by simpa [behindOf, ho'] using h10.2
      rw [hbeh j h11] at hjd
      cases hjd
    have hneed : ∀ p ∈ g.need i, done.getD p.1 false = true ∧ dstOf l p.1 = some p.2 := by
      intro p hp
      have h1 := List.all_eq_true.1 k1 p hp
      simp only [Bool.and_eq_true, beq_iff_eq] at h1
      exact ⟨hbeh _ h1.1, h1.2⟩
    have hK : ∀ p ∈ ((g.need i).map (fun p => (p.2, g.v p.1 (x p.1))) ++ (g.E0 ++ (g.E1 i ++ EF))), a.tmps.getD p.1 undef = p.2 ∧ o.dst ≠ some p.1 := by
      intro p hp
      rcases List.mem_append.1 hp with h | h
      · obtain ⟨q, hq, rfl⟩ := List.mem_map.1 h
        obtain ⟨h1, h2⟩ := hneed q hq
        exact ⟨hI.vals _ _ h1 h2, hne _ _ h1 h2⟩
      · rcases List.mem_append.1 h with h | h
        · exact ⟨hI.base p h, hne0 p h⟩
        · rcases List.mem_append.1 h with h | h
          · exact ⟨hI.first i hil hu' p h, hne1 i hil hu' p h⟩
          · rcases List.mem_append.1 h with h | h
            · obtain ⟨j, d, h1, h2, rfl⟩ := (hEF p).1 h
              exact ⟨hI.vals _ _ h1 h2, hne _ _ h1 h2⟩
            · simp only [EF1, List.mem_flatMap, List.mem_range] at h
              obtain ⟨j, hjl, h⟩ := h
              cases hjd : done.getD j false with
              | true => rw [hjd] at h; simp at h
              | false =>
                rw [hjd] at h
                simp only [Bool.false_eq_true, if_false] at h
                exact ⟨hI.first j hjl hjd p h, hne1 j hjl hjd p h⟩
    have job := GrowR.Jobs_at hj ho'
    rw [Nat.zero_add] at job
    refine wpOp_of_list ho ((job x EF (rest.flatMap fun j => g.M j (x j)) _ fun xi hxi => ⟨fun a' w' hK' hH' => ?_⟩).go a w (Knows.of hI.size hI.defers fun p hp => (hK p hp).1) H1)
    have hd' : ∀ j, (done.setIfInBounds i true).getD j false = (decide (j = i) || done.getD j false) := fun j => getD_set (by omega)
    refine ih _ (fun j => if j = i then xi else x j) a' w' ?_ ?_
    · have := count_drop (l := List.range l.length) (p := fun j => !done.getD j false) (q := fun j => !(done.setIfInBounds i true).getD j false) (i := i) List.nodup_range (List.mem_range.2 hil) (by simp only [hu']; rfl) (by simp only [hd']; simp) (fun j hj => by simp only [hd']; simp [hj])
      omega
    · have hmem : ∀ p ∈ (slot o.dst (g.v i xi) ++ ((g.need i).map (fun p => (p.2, g.v p.1 (x p.1))) ++ (g.E0 ++ (g.E1 i ++ EF)))), a'.tmps.getD p.1 undef = p.2 := by
        intro p hp
        refine hK'.mem (f := fun t => if o.dst = some t then g.v i xi else a.tmps.getD t undef) (fun q hq => ?_) hp
        rcases List.mem_append.1 hq with h | h
        · cases hod : o.dst with
          | none => rw [hod] at h; cases h
          | some d =>
            rw [hod] at h
            simp only [slot, List.mem_singleton] at h
            subst h
            simp
        · have := hK q h
          simp only [this.2, if_false]
          exact this.1
      refine ⟨hK'.size, hK'.defers, by simp [hds], fun p hp => hmem p (by simp [hp]), fun j hjl hjd p hp => ?_, ?_, ?_, ?_, ?_⟩
      · rw [hd'] at hjd
        simp only [Bool.or_eq_false_iff] at hjd
        exact hmem p (List.mem_append_right _ (List.mem_append_right _ (List.mem_append_right _ (List.mem_append_right _ (List.mem_append_right _ (hEF1 j hjl hjd.2 p hp))))))
      · intro j d hjd hd
        by_cases e : j = i
        · subst e
          rw [hdi] at hd
          have := hmem (d, g.v j xi) (by simp [hd, slot])
          simpa using this
        · rw [hd'] at hjd
          simp only [e, decide_false, Bool.false_or] at hjd
          have := hmem (d, g.v j (x j)) (List.mem_append_right _ (List.mem_append_right _ (List.mem_append_right _ (List.mem_append_right _ (List.mem_append_left _ ((hEF _).2 ⟨j, d, hjd, hd, rfl⟩))))))
          simpa [e] using this
      · intro j k hjd hs
        rw [hd'] at hjd
        by_cases e : j = i
        · subst e
          rw [hs] at k8
          simp only [if_true, hdone_ne k (hbeh k k8), if_false]
          exact hxi k hs
        · simp only [e, decide_false, Bool.false_or] at hjd
          have hjo : l[j]? = some (l[j]'(hlen j hjd)) := List.getElem?_eq_getElem (hlen j hjd)
          have hkj := GrowR.okFrom_at hok hjo
          simp only [GrowR.okOp, Bool.and_eq_true, Nat.zero_add] at hkj
          have h8 := hkj.1.1.2
          rw [hs] at h8
          have hkd := hI.down j k hjd (by simpa [behindOf, hjo, srcOk] using h8)
          simp only [e, hdone_ne k hkd, if_false]
          exact hI.rel j k hjd hs
      · intro j i' hjd hb
        rw [hd'] at hjd ⊢
        by_cases e : j = i
        · subst e
          have : behind o i' = true := by simpa [behindOf, ho'] using hb
          simp [hbeh i' this]
        · simp only [e, decide_false, Bool.false_or] at hjd
          simp [hI.down j i' hjd hb]
      · have hnl : ¬ g.live l.length done i := fun h => by
          rcases h.2.1 with h | h
          · omega
          · rw [hu'] at h; cases h
        have hcg : ∀ L : List Nat, (∀ j ∈ L, g.live l.length done j) → L.flatMap (fun j => g.M j (if j = i then xi else x j)) = L.flatMap fun j => g.M j (x j) := by
          intro L
          induction L with
          | nil => simp
          | cons j L ih =>
            intro h
            have hji : j ≠ i := fun e => hnl (e ▸ h j (by simp))
            simp only [List.flatMap_cons, hji, if_false, ih fun k hk => h k (by simp [hk])]
        refine HoldsI.of (Js := i :: (((g.inp i).filter fun j => !(g.eat i).contains j) ++ rest)) ?_ ?_
        · rw [List.flatMap_cons, List.flatMap_append, hcg _ (fun j hj => hinp j (List.mem_filter.1 hj).1), hcg rest (fun j hj => ((hrest j).1 hj).1)]
          simpa using hH'
        · intro j hj
          by_cases e : j = i
          · simp [e]
          · have hl : g.live l.length done j := by
              refine ⟨hj.1, hj.2.1.imp id (fun h => ?_), fun k hk => hj.2.2 k (by rw [hd']; simp [hk])⟩
              rw [hd'] at h
              simpa [e] using h
            have hne : j ∉ g.eat i := hj.2.2 i (by rw [hd']; simp)
            by_cases hji : j ∈ g.inp i
            · simp [e, hji, hne]
            · have := (hrest j).2 ⟨hl, hji⟩
              simp [e, this]
/-- a region whose order is open, each operation told once; g.E1: what is known of slots until the region writes them -/
theorem growR_any [Inhabited Y] (g : GrowR Y) (outs : List (Nat × Nat)) (ends : List Nat) (hE : SubE E g.E0) (hE1 : ∀ i, i < l.length → SubE E (g.E1 i)) (hM : Less (((List.range g.N).filter fun j => decide (l.length ≤ j)).flatMap fun j => g.M j default) M)
    (hok : g.okFrom l 0 l = true) (ho : (outs.all fun p => decide (p.1 < l.length) && dstOf l p.1 == some p.2) = true)
    (he : (noDup ends && ends.all fun j => decide (j < g.N) && (List.range l.length).all fun k => !(g.eat k).contains j) = true)
    (hj : g.Jobs P n w0 S l 0 l)
    (k : ∀ x : Nat → Y, (∀ j k, j < l.length → g.src j = some k → g.R j (x j) (x k)) → JE n w0 S Q .normal (outs.map (fun p => (p.2, g.v p.1 (x p.1))) ++ g.E0) (ends.flatMap fun j => g.M j (x j))) {a : Act} {w : World} (ha : Knows n E a) (hw : Holds w0 S M w) : wpAny P .any l.toArray Q l.toArray.size (Array.replicate l.toArray.size false) a { w with drawn := w.drawn + 1 } := by
    have hw' := (hw.drawn (w.drawn + 1)).weak hM
    simp only [Bool.and_eq_true] at he
    refine GrowR.run hok hj (fun done x a w hI hall => ?_) _ _ (fun _ => default) a _ ?_ ?_
    · refine (k x fun j k hj hs => hI.rel j k (hall j hj) hs).go a w (Knows.of hI.size hI.defers fun p hp => ?_) (hI.mem.to ends (noDup_spec he.1) fun j hj => ?_)
      · rcases List.mem_append.1 hp with h | h
        · obtain ⟨q, hq, rfl⟩ := List.mem_map.1 h
          have := List.all_eq_true.1 ho q hq
          simp only [Bool.and_eq_true, decide_eq_true_eq, beq_iff_eq] at this
          exact hI.vals _ _ (hall _ this.1) this.2
        · exact hI.base p h
      · have := List.all_eq_true.1 he.2 j hj
        simp only [Bool.and_eq_true, decide_eq_true_eq] at this
        refine ⟨this.1, ?_, fun k hk hjk => ?_⟩
        · by_cases h : l.length ≤ j
          · exact .inl h
          · exact .inr (hall j (by omega))
        · have hkl : k < l.length := by
            by_cases h : k < l.length
            · exact h
            · have := hI.dsize
              rw [Array.getD_eq_getD_getElem?, Array.getElem?_eq_none (by omega)] at hk
              cases hk
          have := List.all_eq_true.1 this.2 k (List.mem_range.2 hkl)
          simp [hjk] at this
    · have : ∀ j, (Array.replicate l.toArray.size false).getD j false = false := fun j => by
        simp only [Array.getD_eq_getD_getElem?, Array.getElem?_replicate]
        split <;> rfl
      rw [List.countP_eq_length.2 (fun j _ => by simp only [this]; rfl)]
      simp
    · have hf : ∀ j, (Array.replicate l.toArray.size false).getD j false = false := fun j => by
        simp only [Array.getD_eq_getD_getElem?, Array.getElem?_replicate]
        split <;> rfl
      refine ⟨ha.size, ha.defers, by simp, fun p hp => ha.all _ _ (hE.all p hp), fun j hj _ p hp => ha.all _ _ ((hE1 j hj).all p hp), fun j d h => ?_, fun j k h => ?_, fun j i h => ?_, ?_⟩
      · rw [hf] at h; cases h
      · rw [hf] at h; cases h
      · rw [hf] at h; cases h
      · refine HoldsI.of hw' fun j hj => ?_
        rw [List.mem_filter]
        refine ⟨List.mem_range.2 hj.1, ?_⟩
        rcases hj.2.1 with h | h
        · simpa using h
        · rw [hf] at h; cases h
theorem JC.growR [Inhabited Y] (g : GrowR Y) (outs : List (Nat × Nat)) (ends : List Nat) {id : Nat} (hm : P.follows .mixedOrders = true) (hE : SubE E g.E0) (hE1 : ∀ i, i < l.length → SubE E (g.E1 i)) (hM : Less (((List.range g.N).filter fun j => decide (l.length ≤ j)).flatMap fun j => g.M j default) M)
    (hok : g.okFrom l 0 l = true) (ho : (outs.all fun p => decide (p.1 < l.length) && dstOf l p.1 == some p.2) = true)
    (he : (noDup ends && ends.all fun j => decide (j < g.N) && (List.range l.length).all fun k => !(g.eat k).contains j) = true)
    (hj : g.Jobs P n w0 S l 0 l)
    (k : ∀ x : Nat → Y, (∀ j k, j < l.length → g.src j = some k → g.R j (x j) (x k)) → JE n w0 S Q .normal (outs.map (fun p => (p.2, g.v p.1 (x p.1))) ++ g.E0) (ends.flatMap fun j => g.M j (x j))) : JC P n w0 S Q (.region id l.toArray true) E M :=
  ⟨fun a w ha hw => wp_region_any hm (growR_any g outs ends hE hE1 hM hok ho he hj k ha hw)⟩

end
end Sl
end Go.Proofs.Ytopdkpeahhnihaa

/-
  Of no statement by itself: ranges over functions whose rounds come in an order that is told ahead (round k gets the k-th two values), and may leave the function; a round's body with regions whose order is open; for any program P.
  Conditions: each rule's own hypotheses.
-/
namespace Go.Proofs.Ytopdkpeahhnihaa
namespace Sl
/-! ### more steps of a round -/
section
variable {P : Program} {m l : Nat}
theorem wpOpIn_of_wpOp {ops : Array Oper} {Q : Exit → Act → World → Prop} {i : Nat} {K K' : Act → World → Prop} {a : Act} {w : World} (hd : ops.toList.all noDef = true) (hQ : ¬ LetsOut Q) (hK : ∀ a w, K a w → K' a w) (h : wpOp P ops Q i K a w) : wpOpIn (Rd l) m P ops Q i K' a w := by
  unfold wpOp at h
  unfold wpOpIn
  cases ho : ops[i]? with
  | none => rw [ho] at h; exact hK _ _ h
  | some o =>
    rw [ho] at h
    have hno : noDef o = true := List.all_eq_true.1 hd o (by
      have := Array.mem_of_getElem? ho
      exact Array.mem_toList_iff.2 this)
    dsimp only at h ⊢
    by_cases hw : Region.wanted o (yielded ops a.tmps) = true
    · rw [if_pos hw] at h ⊢
      rcases h with h | h
      · exact wpIn_of_wp hno hQ hK h
      · exact absurd h.2 hQ
    · rw [if_neg hw] at h ⊢
      exact ⟨fun _ _ => trivial, hK _ _ h⟩
theorem wpAnyIn_of_wpAny {md : Region.Mode} {ops : Array Oper} {Q : Exit → Act → World → Prop} (hd : ops.toList.all noDef = true) (hQ : ¬ LetsOut Q) : ∀ (fuel : Nat) (listed : Array Bool) (a : Act) (w : World), wpAny P md ops Q fuel listed a w → wpAnyIn (Rd l) m P md ops Q fuel listed a w
  | 0, _, _, _, h => h
  | fuel + 1, listed, a, w, h => ⟨h.1, fun i hi => wpOpIn_of_wpOp hd hQ (fun a w => wpAnyIn_of_wpAny hd hQ fuel _ a w) (h.2 i hi)⟩
end
section
variable {P : Program} {n : Nat} {w0 : World} {S : List Nat} {Q Q' : Exit → Act → World → Prop} {E : Env} {M : List Ent} {m r : Nat}
theorem JR.growR {Y : Type} {l : List Oper} [Inhabited Y] (g : GrowR Y) (outs : List (Nat × Nat)) (ends : List Nat) {id : Nat} (hd : l.all noDef = true) (hQ : ¬ LetsOut Q) (hm : P.follows .mixedOrders = true) (hE : SubE E g.E0) (hE1 : ∀ i, i < l.length → SubE E (g.E1 i)) (hM : Less (((List.range g.N).filter fun j => decide (l.length ≤ j)).flatMap fun j => g.M j default) M)
    (hok : g.okFrom l 0 l = true) (ho : (outs.all fun p => decide (p.1 < l.length) && dstOf l p.1 == some p.2) = true)
    (he : (noDup ends && ends.all fun j => decide (j < g.N) && (List.range l.length).all fun k => !(g.eat k).contains j) = true)
    (hj : g.Jobs P n w0 S l 0 l)
    (k : ∀ x : Nat → Y, (∀ j k, j < l.length → g.src j = some k → g.R j (x j) (x k)) → JE n w0 S Q .normal (outs.map (fun p => (p.2, g.v p.1 (x p.1))) ++ g.E0) (ends.flatMap fun j => g.M j (x j))) : JR P n w0 S r m Q (.region id l.toArray true) E M :=
  ⟨fun a w ha hw => wpIn_region_any hm (wpAnyIn_of_wpAny (by simpa using hd) hQ _ _ _ _ (growR_any g outs ends hE hE1 hM hok ho he hj k ha hw))⟩
theorem JR.cond {c : Operand} {x y : Code} {t : Bool} (hc : ev E c = some (.bool t)) (ht : t = true → JR P n w0 S r m Q x E M) (hf : t = false → JR P n w0 S r m Q y E M) : JR P n w0 S r m Q (.cond c x y) E M :=
  ⟨fun a w ha hw => wpIn_cond_split (ha.eval hc) (fun h => (ht h).go a w ha hw) (fun h => (hf h).go a w ha hw)⟩
theorem JR.skip (h : JE n w0 S Q .normal E M) : JR P n w0 S r m Q .skip E M := ⟨fun a w ha hw => wpIn_skip (h.go a w ha hw)⟩
theorem JR.ret (h : JE n w0 S Q .ret E M) : JR P n w0 S r m Q .ret E M := ⟨fun a w ha hw => wpIn_ret (h.go a w ha hw)⟩
theorem JR.less {c : Code} {M' : List Ent} (hM : Less M' M) (h : JR P n w0 S r m Q c E M') : JR P n w0 S r m Q c E M := ⟨fun a w ha hw => h.go a w ha (hw.weak hM)⟩
theorem JR.perm {c : Code} {M' : List Ent} (hp : M.Perm M') (h : JR P n w0 S r m Q c E M') : JR P n w0 S r m Q c E M := ⟨fun a w ha hw => h.go a w ha (hw.perm hp)⟩
end
/-- a call out of an iterator's own text -/
theorem FL.callx {P : Program} {n m : Nat} {W : World} {ops : Array Oper} {Q : Exit → Act → World → Prop} {os : List Oper} {E : Env} {d : Nat} {ty : TypeId} {pos : String} {aft : Array Edge} {v : Value} {f : FuncId} {xs : List Operand} {ats : Array TypeId} {vs : List Value} (hg : Goes P f) (hx : evs E xs = some vs) (hd : Nat.blt d n = true)
    (hc : Calls P f vs.toArray W fun e w' => e = .returned v ∧ Ext W w') (k : ∀ W', Ext W W' → FL P n m W' ops Q os ((d, v) :: E)) : FL P n m W ops Q (⟨some d, .call ⟨.value (.func f), xs.toArray, ats⟩, ty, pos, aft, none⟩ :: os) E :=
  ⟨fun a ha => wpListIn_plain rfl fun K hK => by
    refine ⟨fun _ _ => trivial, ?_⟩
    have e : Oper.semAt Fence.wide.round a.eval ⟨some d, .call ⟨.value (.func f), xs.toArray, ats⟩, ty, pos, aft, none⟩ = execOp a.eval ⟨some d, .call ⟨.value (.func f), xs.toArray, ats⟩, ty, pos, aft, none⟩ := rfl
    rw [e, exec_call hg ha hx W]
    refine ⟨fun h => (by cases h), (callsIn_wide (n := m - 1)).2 (hc.mono ?_)⟩
    rintro e w2 ⟨rfl, h2⟩
    exact hK _ _ ((k w2 h2).go _ (ha.put d v hd))⟩
/-- a call of yield with two values -/
theorem FL.yield2 {P : Program} {n : Nat} {W : World} {ops : Array Oper} {Q : Exit → Act → World → Prop} {os : List Oper} {E : Env} {d : Nat} {ty : TypeId} {pos : String} {aft : Array Edge} {v v' : Value} {l : Nat} {x y y' : Operand} {t t' : TypeId} {R : Ending → World → Prop} (hx : ev E x = some (.func (.yield l) #[] #[])) (hy : ev E y = some v) (hy' : ev E y' = some v') (hd : Nat.blt d n = true) (h : YieldAt Fence.wide 1 P l #[v, v'] W R)
    (hR : ∀ e W', R e W' → ∃ b, e = .returned (.bool b) ∧ FL P n 2 W' ops Q os ((d, .bool b) :: E)) : FL P n 2 W ops Q (⟨some d, .call ⟨.value x, #[y, y'], #[t, t']⟩, ty, pos, aft, none⟩ :: os) E :=
  ⟨fun a ha => wpListIn_plain rfl fun K hK => by
    obtain ⟨fn, tmps, assign, body, hrun, hro⟩ := h
    refine ⟨fun _ _ => trivial, ?_⟩
    have e : (Oper.semAt Fence.wide.round a.eval ⟨some d, .call ⟨.value x, #[y, y'], #[t, t']⟩, ty, pos, aft, none⟩).run P W = .ok (.round l fn tmps assign body) W := by
      have e0 : Oper.semAt Fence.wide.round a.eval ⟨some d, .call ⟨.value x, #[y, y'], #[t, t']⟩, ty, pos, aft, none⟩ = execOp a.eval ⟨some d, .call ⟨.value x, #[y, y'], #[t, t']⟩, ty, pos, aft, none⟩ := rfl
      rw [e0]
      simp only [execOp, resolve, Sem.run_bind, ha.eval hx, List.map_toArray, List.map_cons, List.map_nil, ha.eval hy, ha.eval hy', Deferred.ofValue, Sem.run_pure, Result.andThen_ok, invoke]
      simpa using hrun
    rw [e]
    refine ⟨fun h => (by cases h), hro.mono fun e W' hr => ?_⟩
    obtain ⟨b, rfl, hl⟩ := hR e W' hr
    exact hK _ _ (hl.go _ (ha.put d _ hd))⟩
/-- two ways that meet again, in an iterator's own text -/
theorem FC.mid {P : Program} {n : Nat} {W : World} {Q : Exit → Act → World → Prop} {E : Env} {x y : Code} (Em : Env) (h : FC P n W (Exit.then (fun a w => Knows n Em a ∧ w = W) Q) x E) (k : FC P n W Q y Em) : FC P n W Q (.seq x y) E :=
  ⟨fun a ha => wp_seq (wp_mono (h.go a ha) fun e a' w' he => by
    cases e with
    | normal => obtain ⟨h1, rfl⟩ := he; exact k.go a' h1
    | exit _ => exact he
    | goto _ => exact he
    | ret => exact he
    | panic _ => exact he
    | outgrown => exact he)⟩
theorem FE.mid {n : Nat} {W : World} {Q : Exit → Act → World → Prop} {E Em : Env} (hE : SubE E Em) : FE n W (Exit.then (fun a w => Knows n Em a ∧ w = W) Q) .normal E := ⟨fun _ ha => ⟨ha.sub hE, rfl⟩⟩
/-! ### behind the loop -/
section
variable {P : Program} {D n : Nat} {w0 : World} {S : List Nat} {ops : Array Oper} {Q Q' : Exit → Act → World → Prop} {os : List Oper} {E : Env} {M : List Ent} {d : Nat} {op : Op} {ty : TypeId} {pos : String} {aft : Array Edge} {v : Value}
theorem KL.store_eq {M' : List Ent} {r r' : List Value} {e t : TypeId} {x y : Operand} {b j : Nat} (hz : szT P t = some 1) (hx : ev E x = some (.pointer (some ⟨b, j, none⟩))) (hy : ev E y = some v) (hv : v.oneCell' = true) (hcl : v.cells = #[v]) (hu : Upd M b (Row e r) (Row e r') M') (hj : j < r.length) (he : r.set j v = r')
    (k : KL P D n w0 S ops Q os E M') : KL P D n w0 S ops Q (⟨none, .store t x y, ty, pos, aft, none⟩ :: os) E M :=
  ⟨fun a w ha hw => wpList_plain rfl fun K hK => by
    obtain ⟨o, ho, hAo⟩ := hw.get hu.has
    cases hAo
    have hA' : Row e r' (.cells (r.toArray.setIfInBounds j v) e (0, 0)) := by simp [Row, he]
    have hs : (storeCells ⟨b, j, none⟩ [v] 0).run P w = .ok () (w.setCell ⟨b, j, none⟩ v) := by
      simp only [storeCells, Sem.run_bind, add_off, Nat.add_zero]
      rw [store_run hv ho (by simpa using hj)]; rfl
    have h1 : (execOp a.eval ⟨none, .store t x y, ty, pos, aft, none⟩).run P w = .ok .skip (w.setCell ⟨b, j, none⟩ v) := by
      simp [execOp, ha.eval hx, ha.eval hy, Instr.storeAt, Instr.sureAddr, Sem.run_bind, storeVar, sizeOf_run hz, hcl, hs]
    unfold Oper.wp
    rw [h1]
    exact hK _ _ (k.go _ _ ⟨ha.defers, ha.base⟩ (hw.write hu hA' (setCell_heap ho) setCell_size (fun _ h => setCell_other h) rfl rfl rfl))⟩
theorem KE.blk_ret {id : Nat} (h : KE D n w0 S Q .ret E M) : KE D n w0 S (Exit.inBlock id Q) .ret E M := ⟨h.go⟩
theorem KE.ret2x {m : Nat} {fn : Func} {R : Ending → World → Prop} {r1 r2 : ResultVar} {v1 v2 : Value} (hr : fn.results = #[r1, r2]) (h1 : RV P n w0 S E M r1 v1) (h2 : RV P n w0 S E M r2 v2) (hR : ∀ w, Holds w0 S M w → R (.returned (.tuple #[v1, v2])) w) : KE D n w0 S (bodyPostM Fence.wide m P fn R) .ret E (⟨D, Dead, true⟩ :: M) := by
  refine ⟨fun a w ha hw => leaves_mark (v := .tuple #[v1, v2]) ha hw (fun w' hw' => ?_) hR⟩
  have e1 := h1 _ w' ha.base hw'
  have e2 := h2 _ w' ha.base hw'
  dsimp only at e1 e2
  rw [results_eq, hr]
  simp [e1, e2, Sem.run_bind]
end
/-- out of such a function ahead of its loop -/
theorem JE.ret2M {P : Program} {n m : Nat} {w0 : World} {S : List Nat} {E : Env} {M : List Ent} {fn : Func} {R : Ending → World → Prop} {r1 r2 : ResultVar} {v1 v2 : Value} (hr : fn.results = #[r1, r2]) (h1 : RV P n w0 S E M r1 v1) (h2 : RV P n w0 S E M r2 v2) (hR : ∀ w, Holds w0 S M w → R (.returned (.tuple #[v1, v2])) w) : JE n w0 S (bodyPostM Fence.wide m P fn R) .ret E M := by
  refine ⟨fun a w ha hw => ?_⟩
  show LeavesInM Fence.wide m P fn a.tmps R a.defers .returning w
  rw [ha.defers]
  refine ⟨.tuple #[v1, v2], ?_, hR w hw⟩
  have e1 := h1 a w ha hw
  have e2 := h2 a w ha hw
  rw [results_eq, hr]
  simp [Sem.run_bind, e1, e2]
/-! ### the statement -/
theorem Holds.still {w0 W W' : World} {M : List Ent} {row : Option Nat} (h : Holds w0 [] M W) (hc : ∀ e ∈ M, ∀ o, e.A o → o.isCells = true) (hg : W.grownBy W' row) (hr : ∀ k, row = some k → w0.heap.size ≤ k ∧ ∃ o : Obj, W.heap[k]? = some o ∧ o.isCells = false) : Holds w0 [] M W' := by
  refine ⟨⟨hg.os.trans h.chg.os, hg.tape.trans h.chg.tape, hg.output.trans h.chg.output, Nat.le_trans h.chg.size hg.size, fun k hk _ => ?_⟩, h.nodup, fun e he => ⟨?_, (h.all e he).2⟩⟩
  · refine (hg.block k (Nat.lt_of_lt_of_le hk h.chg.size) fun e => ?_).trans (h.chg.block k hk (by simp))
    have := (hr k e.symm).1
    omega
  · obtain ⟨o, ho, hA⟩ := (h.all e he).1
    refine ⟨o, (hg.block e.b (h.lt he) fun e' => ?_).trans ho, hA⟩
    obtain ⟨_, o2, ho2, hc2⟩ := hr _ e'.symm
    rw [ho] at ho2
    cases ho2
    rw [hc e he o hA] at hc2
    cases hc2
/-- an iterator that hands out N times two values, in this order, and stops where it is told to -/
def SeqN (P : Program) (gf : Nat) (lb : Array Value) (enc : Nat → Value × Value) (L : List Nat) (N : Nat) (W0 : World) : Prop :=
  ∀ (l : Nat) (J : Nat → World → Prop) (X : World → Prop) (W : World), RowKit.Below W0.heap.size W0 W → (∀ k W1 W2, J k W1 → Ext W1 W2 → J k W2) →
    (∀ k W1, k < N → J k W1 → YieldAt Fence.wide 1 P l #[(enc k).1, (enc k).2] W1 fun e W' => (e = .returned (.bool true) ∧ J (k + 1) W' ∧ KeepL L W1 W') ∨ (e = .returned (.bool false) ∧ X W')) →
    J 0 W → CallsIn Fence.wide 2 P gf (#[.func (.yield l) #[] #[]] ++ lb) W fun e W' => (∃ v, e = .returned v) ∧ (J N W' ∨ X W')
/-- how a round's body is left: at its end, or out of the function -/
def roundX {ι κ : Type} (Mi : ι → List Ent) (Inv : Nat → ι → Prop) (Mx : κ → List Ent) (Fin : κ → Prop) (k : Nat) (w1 : World) (S1 : List Nat) : Exit → Act → World → Prop
  | .normal, _, W' => ∃ j, Inv (k + 1) j ∧ Holds w1 S1 (Mi j) W'
  | .ret, _, W' => ∃ x, Fin x ∧ Holds w1 S1 (Mx x) W'
  | _, _, _ => False
theorem lo_roundX {ι κ : Type} {Mi : ι → List Ent} {Inv : Nat → ι → Prop} {Mx : κ → List Ent} {Fin : κ → Prop} {k : Nat} {w1 : World} {S1 : List Nat} : ¬ LetsOut (roundX Mi Inv Mx Fin k w1 S1) := fun ⟨_, _, h⟩ => h
section
variable {ι κ : Type} {Mi : ι → List Ent} {Inv : Nat → ι → Prop} {Mx : κ → List Ent} {Fin : κ → Prop} {k n : Nat} {w1 : World} {S1 : List Nat} {E : Env} {M : List Ent}
theorem JE.roundN (j : ι) (hj : Inv (k + 1) j) (hM : Less (Mi j) M) : JE n w1 S1 (roundX Mi Inv Mx Fin k w1 S1) .normal E M := ⟨fun _ _ _ hw => ⟨j, hj, hw.weak hM⟩⟩
theorem JE.roundX (x : κ) (hx : Fin x) (hM : Less (Mx x) M) : JE n w1 S1 (roundX Mi Inv Mx Fin k w1 S1) .ret E M := ⟨fun _ _ _ hw => ⟨x, hx, hw.weak hM⟩⟩
end
theorem put_zip (a : Act) (p1 p2 : Nat) (v1 v2 : Value) (hd : a.defers = []) : ({ tmps := (#[p1, p2].zip #[v1, v2]).foldl (fun t (x : Nat × Value) => t.setIfInBounds x.1 x.2) a.tmps, defers := [] } : Act) = (a.put (some p1) v1).put (some p2) v2 := by
  obtain ⟨tm, df⟩ := a
  simp only at hd
  subst hd
  simp [Act.put]
theorem Holds.mark {w0 W : World} {M : List Ent} {D : Nat} (h : Holds w0 [] M W) (hc : ∀ e ∈ M, ∀ o, e.A o → o.isCells = true) (hD : w0.heap.size ≤ D) (hk : W.heap[D]? = some (.deferred (some []))) : Holds w0 [] (⟨D, Dead, true⟩ :: M) W := by
  refine ⟨h.chg, ?_, fun e he => ?_⟩
  · simp only [List.map_cons, List.nodup_cons, h.nodup, and_true]
    intro hm
    obtain ⟨e, he, hb⟩ := List.mem_map.1 hm
    obtain ⟨o, ho, hA⟩ := (h.all e he).1
    rw [hb, hk] at ho
    cases ho
    have := hc e he _ hA
    cases this
  · rcases List.mem_cons.1 he with rfl | he
    · exact ⟨⟨_, hk, rfl⟩, fun _ => .inr hD⟩
    · exact h.all e he
theorem region_assign {P : Program} {n l m : Nat} {Q : Exit → Act → World → Prop} {E : Env} {a : Act} {W : World} {id p d : Nat} {ty : TypeId} {pos : String} {v : Value} (hx : lk E p = some v) (ha : Knows n E a) (hK : Q .normal (a.put (some d) v) W) :
    (Code.region id #[⟨some d, .assign (.tmp p), ty, pos, #[], none⟩] false).wpIn (Rd l) m P Q a W := by
  refine wpIn_region_lit (wpListIn_plain rfl fun K' hK' => ⟨fun _ _ => trivial, ?_⟩)
  have he : a.eval (.tmp p) = v := ha.eval (x := .tmp p) hx
  have hs : Oper.semAt (Rd l).round a.eval ⟨some d, .assign (.tmp p), ty, pos, #[], none⟩ = .pure (.value v) := by
    refine (Oper.semAt_some l _ _ ?_).trans ?_
    · intro c h; cases h
    show Sem.pure (Next.value (_ : Value)) = _
    exact congrArg (fun v => Sem.pure (Next.value v)) he
  show Oper.uponIn _ _ _ _ _ _ _ ((Oper.semAt (Rd l).round _ _).run P W)
  rw [hs]
  exact hK' _ _ (wpListIn_nil hK)
theorem JC.rangeN {P : Program} {n : Nat} {w0 : World} {Q : Exit → Act → World → Prop} {E : Env} {M : List Ent} {ι κ : Type} {g : Operand} {p1 p2 d1 d2 i1 i2 : Nat} {t1 t2 : TypeId} {s1 s2 : String} {body : Code} {gf : Nat} {lb : Array Value} (enc : Nat → Value × Value) (L : List Nat) (N : Nat)
    (Mi : ι → List Ent) (Inv : Nat → ι → Prop) (Mx : κ → List Ent) (Fin : κ → Prop) (hg : ev E g = some (.func (.func gf) #[] lb)) (eg : ∀ args w, (callFunc gf args).run P w = .ok (.enter gf args) w)
    (hseq : ∀ W, Holds w0 [] M W → SeqN P gf lb enc L N W)
    (hcell : ∀ i, ∀ e ∈ Mi i, ∀ o, e.A o → o.isCells = true) (hcelx : ∀ i, ∀ e ∈ Mx i, ∀ o, e.A o → o.isCells = true) (hL : ∀ i, ∀ k ∈ L, k < w0.heap.size ∨ ∃ A, Has (Mi i) k A false)
    (i0 : ι) (h0 : Inv 0 i0) (hM : ∀ w, Holds w0 [] M w → Holds w0 [] (Mi i0) w) (hp1 : Nat.blt p1 n = true) (hp2 : Nat.blt p2 n = true) (hd1 : Nat.blt d1 n = true) (hd2 : Nat.blt d2 n = true)
    (he1 : ∀ v1 v2, lk ((p2, v2) :: (p1, v1) :: E) p1 = some v1) (he2 : ∀ v1 v2, lk ((d1, v1) :: (p2, v2) :: (p1, v1) :: E) p2 = some v2)
    (hbody : ∀ l k i w1, Inv k i → k < N → Ext w0 w1 → (∀ b ∈ wrs (Mi i), w0.heap.size ≤ b) → JR P n w1 (wrs (Mi i)) l 1 (roundX Mi Inv Mx Fin k w1 (wrs (Mi i))) body ((d2, (enc k).2) :: (d1, (enc k).1) :: (p2, (enc k).2) :: (p1, (enc k).1) :: E) (Mi i))
    (hdone : ∀ D i, Inv N i → KE D n w0 [] Q .normal E (⟨D, Dead, true⟩ :: Mi i))
    (hstop : ∀ D x, Fin x → KE D n w0 [] Q .ret E (⟨D, Dead, true⟩ :: Mx x)) :
    JC P n w0 [] Q (.rangeFunc g #[p1, p2] (.seq (.region i1 #[⟨some d1, .assign (.tmp p1), t1, s1, #[], none⟩] false) (.region i2 #[⟨some d2, .assign (.tmp p2), t2, s2, #[], none⟩] false)) body) E M := by
  refine ⟨fun a w ha hw => (wpIn_wide (n := 3)).1 (wpIn_rangeFunc fun fn hfn => ?_)⟩
  have hLw : ∀ k ∈ L, k < w.heap.size := fun k hk => by
    rcases hL i0 k hk with h | ⟨A, h⟩
    · exact Nat.lt_of_lt_of_le h hw.chg.size
    · exact (hM w hw).lt h.mem
  -- the loop's record, ready, busy or done
  obtain ⟨asg, hasg⟩ : ∃ c : Code, c = .seq (.region i1 #[⟨some d1, .assign (.tmp p1), t1, s1, #[], none⟩] false) (.region i2 #[⟨some d2, .assign (.tmp p2), t2, s2, #[], none⟩] false) := ⟨_, rfl⟩
  rw [← hasg]
  let R : LoopState → Option Code → Loop := fun st pe => { state := st, pending := pe, fn := fn, tmps := a.tmps, params := #[p1, p2], assign := asg, body := body, defers := w.heap.size }
  have hsw0 : w0.heap.size ≤ w.heap.size := hw.chg.size
  have gw := hM w hw
  have a1 : Holds w0 [] (Mi i0) (w.alloc (.deferred (some []))) := gw.still (hcell i0) (World.grownBy_alloc w _ none) nofun
  have a2 : Holds w0 [] (Mi i0) ((w.alloc (.deferred (some []))).alloc (.loop (R .ready none))) := a1.still (hcell i0) (World.grownBy_alloc _ _ none) nofun
  have hLp : ((w.alloc (.deferred (some []))).alloc (.loop (R .ready none))).heap[w.heap.size + 1]? = some (.loop (R .ready none)) := by
    have := World.alloc_heap_new (w.alloc (.deferred (some []))) (.loop (R .ready none))
    rwa [World.size_alloc] at this
  have hDp : ((w.alloc (.deferred (some []))).alloc (.loop (R .ready none))).heap[w.heap.size]? = some (.deferred (some [])) :=
    (RowKit.Below.heap_alloc _ _ _ (by simp)).trans (World.alloc_heap_new w _)
  have hB : RowKit.Below w.heap.size w ((w.alloc (.deferred (some []))).alloc (.loop (R .ready none))) := ((RowKit.Below.refl _ w).alloc (Nat.le_refl _) _).alloc (by simp) _
  obtain ⟨W1, hW1⟩ : ∃ W1, (w.alloc (.deferred (some []))).alloc (.loop (R .ready none)) = W1 := ⟨_, rfl⟩
  rw [hW1] at a2 hLp hDp hB
  have notin : ∀ {i : ι} {W : World} {b : Nat} {o : Obj}, Holds w0 [] (Mi i) W → W.heap[b]? = some o → o.isCells = false → b ∉ wrs (Mi i) := fun {i W b o} hH hb ho hm => by
    obtain ⟨e, he, _, rfl⟩ := mem_wrs.1 hm
    obtain ⟨o', ho', hA⟩ := (hH.all e he).1
    rw [hb] at ho'
    cases ho'
    rw [hcell i e he _ hA] at ho
    cases ho
  refine ⟨w.heap.size + 1, [Sl.mk w.heap.size], W1, { target := .fn (.func gf) lb, args := #[.func (.yield (w.heap.size + 1)) #[] #[]] }, W1, gf, #[.func (.yield (w.heap.size + 1)) #[] #[]] ++ lb, W1, ?_, ?_, fun _ _ => trivial, ?_, (fun h => by cases h), ?_⟩
  · rw [← hW1]
    exact run_enterLoop_outer _ _ _ _ _
  · simp only [resolve, ha.eval hg]
    simp [go_sem]
  · simp [invoke, go_sem, eg]
  refine (hseq w hw (w.heap.size + 1) (fun k W => (∃ i, Inv k i ∧ Holds w0 [] (Mi i) W) ∧ W.heap[w.heap.size + 1]? = some (.loop (R .ready none)) ∧ W.heap[w.heap.size]? = some (.deferred (some [])))
    (fun W => (∃ x, Fin x ∧ Holds w0 [] (Mx x) W) ∧ W.heap[w.heap.size + 1]? = some (.loop (R .done (some .ret))) ∧ W.heap[w.heap.size]? = some (.deferred (some []))) W1 hB ?_ ?_ ⟨⟨i0, h0, a2⟩, hLp, hDp⟩).mono ?_
  · rintro k Wa Wb ⟨⟨i, hi, hH⟩, hl, hd⟩ hx
    exact ⟨⟨i, hi, hH.ext hx⟩, (hx.block _ (Array.getElem?_eq_some_iff.1 hl).1 (by simp)).trans hl, (hx.block _ (Array.getElem?_eq_some_iff.1 hd).1 (by simp)).trans hd⟩
  · -- one round
    rintro k W hk ⟨⟨i, hi, hH⟩, hl, hd⟩
    refine ⟨fn, _, asg, body, run_yield (P := P) (args := #[(enc k).1, (enc k).2]) hl rfl, roundIn_of_wpIn hfn ?_⟩
    rw [hasg]
    show Code.wpIn (Rd (w.heap.size + 1)) 1 P _ _ ({ tmps := (#[p1, p2].zip #[(enc k).1, (enc k).2]).foldl (fun t (x : Nat × Value) => t.setIfInBounds x.1 x.2) a.tmps, defers := [] } : Act) W
    rw [put_zip a p1 p2 _ _ ha.defers]
    have k2 := (ha.put p1 (enc k).1 hp1).put p2 (enc k).2 hp2
    have k3 := k2.put d1 (enc k).1 hd1
    have k4 := k3.put d2 (enc k).2 hd2
    refine wpIn_seq (region_assign (he1 _ _) k2 (region_assign (he2 _ _) k3 ⟨_, run_beginRound hl rfl, ?_⟩))
    have hlt : w.heap.size + 1 < W.heap.size := (Array.getElem?_eq_some_iff.1 hl).1
    obtain ⟨W2, hW2⟩ : ∃ W2, W.putObj (w.heap.size + 1) (.loop { R .ready none with state := .busy }) = W2 := ⟨_, rfl⟩
    have hH2 : Holds w0 [] (Mi i) W2 := hW2 ▸ hH.still (hcell i) (grownBy_putObj' W _ _) (fun r e => by cases e; exact ⟨by omega, _, hl, rfl⟩)
    have hl2 : W2.heap[w.heap.size + 1]? = some (.loop (R .busy none)) := hW2 ▸ World.putObj_heap_same hlt
    have hd2' : W2.heap[w.heap.size]? = some (.deferred (some [])) := by rw [← hW2]; exact (World.putObj_heap_other (by omega)).trans hd
    have kp2 : ∀ b, b < w.heap.size → W2.heap[b]? = W.heap[b]? := fun b hb => by rw [← hW2]; exact World.putObj_heap_other (by omega)
    have g2 : W2.os = W.os ∧ W2.tape = W.tape ∧ W2.output = W.output ∧ W2.heap.size = W.heap.size := by rw [← hW2]; exact ⟨rfl, rfl, rfl, World.putObj_size⟩
    rw [hW2]
    refine wpIn_mono ((hbody (w.heap.size + 1) k i W2 hi hk hH2.chg hH2.wrs_ge).go _ W2 k4 hH2.rebase) ?_
    have nl := notin hH2 hl2 rfl
    have nd := notin hH2 hd2' rfl
    have hs2 : w.heap.size + 1 < W2.heap.size := by rw [g2.2.2.2]; exact hlt
    -- what is kept from the round's beginning on
    have kept : ∀ {Mj : List Ent} {W3 : World}, Holds W2 (wrs (Mi i)) Mj W3 → W3.heap[w.heap.size + 1]? = some (.loop (R .busy none)) ∧ W3.heap[w.heap.size]? = some (.deferred (some [])) := fun {Mj W3} h3 =>
      ⟨(h3.chg.block _ hs2 nl).trans hl2, (h3.chg.block _ (by omega) nd).trans hd2'⟩
    rintro e a3 W3 hq
    cases e with
    | normal =>
      obtain ⟨j, hj, h3⟩ := hq
      obtain ⟨hl3, hd3⟩ := kept h3
      have hu := hH2.unbase h3
      refine ⟨_, _, run_endRound (P := P) none hl3, .inl ⟨rfl, ⟨⟨j, hj, hu.still (hcell j) (grownBy_putObj' W3 _ _) (fun r e => by cases e; exact ⟨by omega, _, hl3, rfl⟩)⟩, World.putObj_heap_same (Array.getElem?_eq_some_iff.1 hl3).1, (World.putObj_heap_other (by omega)).trans hd3⟩, ⟨h3.chg.os.trans g2.1, h3.chg.tape.trans g2.2.1, h3.chg.output.trans g2.2.2.1, ?_, fun b hb => ?_⟩⟩⟩
      · rw [World.putObj_size, ← g2.2.2.2]; exact h3.chg.size
      · have hbw := hLw b hb
        refine (World.putObj_heap_other (by omega)).trans ((h3.chg.block b (by omega) fun hm => ?_).trans (kp2 b hbw))
        rcases hL i b hb with hlt' | ⟨A, hA⟩
        · have := hH2.wrs_ge b hm; omega
        · obtain ⟨e, he, hwr, hbe⟩ := mem_wrs.1 hm
          have := nodup_inj hH2.nodup he hA.mem hbe
          subst this
          cases hwr
    | ret =>
      obtain ⟨x, hx, h3⟩ := hq
      obtain ⟨hl3, hd3⟩ := kept h3
      have hu := hH2.unbase h3
      exact ⟨_, _, run_endRound (P := P) (some .ret) hl3, .inr ⟨rfl, ⟨x, hx, hu.still (hcelx x) (grownBy_putObj' W3 _ _) (fun r e => by cases e; exact ⟨by omega, _, hl3, rfl⟩)⟩, World.putObj_heap_same (Array.getElem?_eq_some_iff.1 hl3).1, (World.putObj_heap_other (by omega)).trans hd3⟩⟩
    | exit id => exact hq.elim
    | goto t => exact hq.elim
    | panic ch => exact hq.elim
    | outgrown => exact hq.elim
  · -- behind the iterator
    have know : KnowsM w.heap.size n E { a with defers := [Sl.mk w.heap.size] ++ a.defers } := ⟨by show _ ++ a.defers = _; rw [ha.defers]; rfl, ⟨ha.size, rfl, ha.all⟩⟩
    rintro e W2 ⟨⟨v, rfl⟩, (⟨⟨i, hi, hH⟩, hl, hd⟩ | ⟨⟨x, hx, hH⟩, hl, hd⟩)⟩
    · have h4 := hH.still (hcell i) (grownBy_putObj' W2 (w.heap.size + 1) (.loop { R .ready none with state := .exhausted })) (fun r e => by cases e; exact ⟨by omega, _, hl, rfl⟩)
      exact ⟨none, _, run_endLoop hl (by simp [R]), (hdone w.heap.size i hi).go _ _ know (h4.mark (hcell i) hsw0 ((World.putObj_heap_other (by omega)).trans hd))⟩
    · have h4 := hH.still (hcelx x) (grownBy_putObj' W2 (w.heap.size + 1) (.loop { R .done (some .ret) with state := .exhausted })) (fun r e => by cases e; exact ⟨by omega, _, hl, rfl⟩)
      exact ⟨some .ret, _, run_endLoop hl (by simp [R]), wpIn_ret ((hstop w.heap.size x hx).go _ _ know (h4.mark (hcelx x) hsw0 ((World.putObj_heap_other (by omega)).trans hd)))⟩
end Sl
end Go.Proofs.Ytopdkpeahhnihaa

/-
  Of no statement by itself: a range over a function of two values whose rounds write what the iterator reads: the invariant tells what it reads; and whose assignments may make memory; for any program P.
  Conditions: each rule's own hypotheses.
-/
namespace Go.Proofs.Ytopdkpeahhnihaa
set_option maxRecDepth 10000
open Go.RowKit
namespace Sl
theorem Holds.unbaseS {w0 w w' : World} {S : List Nat} {M M' : List Ent} (h : Holds w0 S M w) (h' : Holds w (wrs M) M' w') : Holds w0 S M' w' := by
  have hs : ∀ k ∈ wrs M, k ∈ S ∨ w0.heap.size ≤ k := fun k hk => by
    obtain ⟨e, he, hw, rfl⟩ := mem_wrs.1 hk
    exact (h.all e he).2 hw
  refine ⟨⟨h'.chg.os.trans h.chg.os, h'.chg.tape.trans h.chg.tape, h'.chg.output.trans h.chg.output, Nat.le_trans h.chg.size h'.chg.size, fun k hk hS => ?_⟩, h'.nodup, fun e he => ⟨(h'.all e he).1, fun hw => ?_⟩⟩
  · refine (h'.chg.block k (Nat.lt_of_lt_of_le hk h.chg.size) fun hm => ?_).trans (h.chg.block k hk hS)
    rcases hs k hm with h | h
    · exact hS h
    · omega
  · rcases (h'.all e he).2 hw with hk | hk
    · exact hs _ hk
    · exact .inr (Nat.le_trans h.chg.size hk)
theorem Holds.stillS {w0 W W' : World} {S : List Nat} {M : List Ent} {row : Option Nat} (h : Holds w0 S M W) (hc : ∀ e ∈ M, ∀ o, e.A o → o.isCells = true) (hg : W.grownBy W' row) (hr : ∀ k, row = some k → w0.heap.size ≤ k ∧ ∃ o : Obj, W.heap[k]? = some o ∧ o.isCells = false) : Holds w0 S M W' := by
  refine ⟨⟨hg.os.trans h.chg.os, hg.tape.trans h.chg.tape, hg.output.trans h.chg.output, Nat.le_trans h.chg.size hg.size, fun k hk hS => ?_⟩, h.nodup, fun e he => ⟨?_, (h.all e he).2⟩⟩
  · exact (hg.block k (Nat.lt_of_lt_of_le hk h.chg.size) (fun e => by have := (hr k e.symm).1; omega)).trans (h.chg.block k hk hS)
  · obtain ⟨o, ho, hA⟩ := (h.all e he).1
    refine ⟨o, (hg.block e.b (h.lt he) fun e' => ?_).trans ho, hA⟩
    obtain ⟨_, o2, ho2, hn⟩ := hr _ e'.symm
    rw [ho] at ho2
    cases ho2
    rw [hc e he o hA] at hn
    cases hn
theorem Holds.markS {w0 W : World} {S : List Nat} {M : List Ent} {D : Nat} (h : Holds w0 S M W) (hc : ∀ e ∈ M, ∀ o, e.A o → o.isCells = true) (hD : w0.heap.size ≤ D) (hk : W.heap[D]? = some (.deferred (some []))) : Holds w0 S (⟨D, Dead, true⟩ :: M) W := by
  refine ⟨h.chg, ?_, fun e he => ?_⟩
  · simp only [List.map_cons, List.nodup_cons, h.nodup, and_true]
    intro hm
    obtain ⟨e, he, hb⟩ := List.mem_map.1 hm
    obtain ⟨o, ho, hA⟩ := (h.all e he).1
    rw [hb, hk] at ho
    cases ho
    have := hc e he _ hA
    cases this
  · rcases List.mem_cons.1 he with rfl | he
    · exact ⟨⟨_, hk, rfl⟩, fun _ => .inr hD⟩
    · exact h.all e he
/-- the iterator, over what Rc tells that it reads in round k -/
def SeqB (P : Program) (gf : Nat) (lb : Array Value) (enc : Nat → Value × Value) (Rc : Nat → World → Prop) (N : Nat) : Prop :=
  ∀ (l : Nat) (J : Nat → World → Prop) (X : World → Prop) (W : World), (∀ k W1, J k W1 → Rc k W1) → (∀ k W1 W2, J k W1 → Ext W1 W2 → J k W2) →
    (∀ k W1, k < N → J k W1 → YieldAt Fence.wide 1 P l #[(enc k).1, (enc k).2] W1 fun e W' => (e = .returned (.bool true) ∧ J (k + 1) W') ∨ (e = .returned (.bool false) ∧ X W')) →
    J 0 W → CallsIn Fence.wide 2 P gf (#[.func (.yield l) #[] #[]] ++ lb) W fun e W' => (∃ v, e = .returned v) ∧ (J N W' ∨ X W')
def asgQ {ι : Type} (n : Nat) (I : ι → Prop) (Ei : ι → Env) (Mi : ι → List Ent) (w1 : World) (S1 : List Nat) : Exit → Act → World → Prop
  | .normal, a, W' => ∃ i, I i ∧ Knows n (Ei i) a ∧ Holds w1 S1 (Mi i) W'
  | _, _, _ => False
theorem lo_asgQ {ι : Type} {n : Nat} {I : ι → Prop} {Ei : ι → Env} {Mi : ι → List Ent} {w1 : World} {S1 : List Nat} : ¬ LetsOut (asgQ n I Ei Mi w1 S1) := fun ⟨_, _, h⟩ => h
theorem JE.asg {ι : Type} {n : Nat} {I : ι → Prop} {Ei : ι → Env} {Mi : ι → List Ent} {w1 : World} {S1 : List Nat} {E : Env} {M : List Ent} (i : ι) (hi : I i) (hE : SubE E (Ei i)) (hM : Less (Mi i) M) : JE n w1 S1 (asgQ n I Ei Mi w1 S1) .normal E M := ⟨fun _ _ ha hw => ⟨i, hi, ha.sub hE, hw.weak hM⟩⟩
theorem JC.rangeW {P : Program} {n : Nat} {w0 : World} {S : List Nat} {Q : Exit → Act → World → Prop} {E : Env} {M : List Ent} {ι κ τ : Type} {g : Operand} {p1 p2 : Nat} {asg body : Code} {gf : Nat} {lb : Array Value} (enc : Nat → Value × Value) (Rc : Nat → World → Prop) (N : Nat)
    (Mi : ι → List Ent) (Inv : Nat → ι → Prop) (Mt : τ → List Ent) (Et : Nat → τ → Env) (Mid : Nat → τ → Prop) (Mx : κ → List Ent) (Fin : κ → Prop) (hg : ev E g = some (.func (.func gf) #[] lb)) (eg : ∀ args w, (callFunc gf args).run P w = .ok (.enter gf args) w)
    (hseq : SeqB P gf lb enc Rc N) (hRc : ∀ k i W, Inv k i → Holds w0 S (Mi i) W → Rc k W)
    (hcell : ∀ i, ∀ e ∈ Mi i, ∀ o, e.A o → o.isCells = true) (hcelt : ∀ i, ∀ e ∈ Mt i, ∀ o, e.A o → o.isCells = true) (hcelx : ∀ i, ∀ e ∈ Mx i, ∀ o, e.A o → o.isCells = true)
    (i0 : ι) (h0 : Inv 0 i0) (hM : ∀ w, Holds w0 S M w → Holds w0 S (Mi i0) w) (hp1 : Nat.blt p1 n = true) (hp2 : Nat.blt p2 n = true)
    (hasg : ∀ l k i w1, Inv k i → k < N → Holds w0 S (Mi i) w1 → JR P n w1 (wrs (Mi i)) l 1 (asgQ n (Mid k) (Et k) Mt w1 (wrs (Mi i))) asg ((p2, (enc k).2) :: (p1, (enc k).1) :: E) (Mi i))
    (hbody : ∀ l k t w1, Mid k t → k < N → Holds w0 S (Mt t) w1 → JR P n w1 (wrs (Mt t)) l 1 (roundX Mi Inv Mx Fin k w1 (wrs (Mt t))) body (Et k t) (Mt t))
    (hdone : ∀ D i, Inv N i → KE D n w0 S Q .normal E (⟨D, Dead, true⟩ :: Mi i))
    (hstop : ∀ D x, Fin x → KE D n w0 S Q .ret E (⟨D, Dead, true⟩ :: Mx x)) :
    JC P n w0 S Q (.rangeFunc g #[p1, p2] asg body) E M := by
  refine ⟨fun a w ha hw => (wpIn_wide (n := 3)).1 (wpIn_rangeFunc fun fn hfn => ?_)⟩
  let R : LoopState → Option Code → Loop := fun st pe => { state := st, pending := pe, fn := fn, tmps := a.tmps, params := #[p1, p2], assign := asg, body := body, defers := w.heap.size }
  have hsw0 : w0.heap.size ≤ w.heap.size := hw.chg.size
  have gw : Holds w0 S (Mi i0) w := hM w hw
  have a1 : Holds w0 S (Mi i0) (w.alloc (.deferred (some []))) := gw.stillS (hcell i0) (World.grownBy_alloc w _ none) nofun
  have a2 : Holds w0 S (Mi i0) ((w.alloc (.deferred (some []))).alloc (.loop (R .ready none))) := a1.stillS (hcell i0) (World.grownBy_alloc _ _ none) nofun
  have hLp : ((w.alloc (.deferred (some []))).alloc (.loop (R .ready none))).heap[w.heap.size + 1]? = some (.loop (R .ready none)) := by
    have := World.alloc_heap_new (w.alloc (.deferred (some []))) (.loop (R .ready none))
    rwa [World.size_alloc] at this
  have hDp : ((w.alloc (.deferred (some []))).alloc (.loop (R .ready none))).heap[w.heap.size]? = some (.deferred (some [])) :=
    (RowKit.Below.heap_alloc _ _ _ (by simp)).trans (World.alloc_heap_new w _)
  obtain ⟨W1, hW1⟩ : ∃ W1, (w.alloc (.deferred (some []))).alloc (.loop (R .ready none)) = W1 := ⟨_, rfl⟩
  rw [hW1] at a2 hLp hDp
  have notin : ∀ {X : List Ent} {W : World} {b : Nat} {o : Obj}, (∀ e ∈ X, ∀ o, e.A o → o.isCells = true) → Holds w0 S X W → W.heap[b]? = some o → o.isCells = false → b ∉ wrs X := fun {X W b o} hX hH hb ho hm => by
    obtain ⟨e, he, _, rfl⟩ := mem_wrs.1 hm
    obtain ⟨o', ho', hA⟩ := (hH.all e he).1
    rw [hb] at ho'
    cases ho'
    rw [hX e he _ hA] at ho
    cases ho
  refine ⟨w.heap.size + 1, [Sl.mk w.heap.size], W1, { target := .fn (.func gf) lb, args := #[.func (.yield (w.heap.size + 1)) #[] #[]] }, W1, gf, #[.func (.yield (w.heap.size + 1)) #[] #[]] ++ lb, W1, ?_, ?_, fun _ _ => trivial, ?_, (fun h => by cases h), ?_⟩
  · rw [← hW1]
    exact run_enterLoop_outer _ _ _ _ _
  · simp only [resolve, ha.eval hg]
    simp [go_sem]
  · simp [invoke, go_sem, eg]
  refine (hseq (w.heap.size + 1) (fun k W => (∃ i, Inv k i ∧ Holds w0 S (Mi i) W) ∧ W.heap[w.heap.size + 1]? = some (.loop (R .ready none)) ∧ W.heap[w.heap.size]? = some (.deferred (some [])))
    (fun W => (∃ x, Fin x ∧ Holds w0 S (Mx x) W) ∧ W.heap[w.heap.size + 1]? = some (.loop (R .done (some .ret))) ∧ W.heap[w.heap.size]? = some (.deferred (some []))) W1 ?_ ?_ ?_ ⟨⟨i0, h0, a2⟩, hLp, hDp⟩).mono ?_
  · rintro k W ⟨⟨i, hi, hH⟩, _⟩
    exact hRc k i W hi hH
  · rintro k Wa Wb ⟨⟨i, hi, hH⟩, hl, hd⟩ hx
    exact ⟨⟨i, hi, hH.ext hx⟩, (hx.block _ (Array.getElem?_eq_some_iff.1 hl).1 (by simp)).trans hl, (hx.block _ (Array.getElem?_eq_some_iff.1 hd).1 (by simp)).trans hd⟩
  · -- one round
    rintro k W hk ⟨⟨i, hi, hH⟩, hl, hd⟩
    refine ⟨fn, _, asg, body, run_yield (P := P) (args := #[(enc k).1, (enc k).2]) hl rfl, roundIn_of_wpIn hfn ?_⟩
    show Code.wpIn (Rd (w.heap.size + 1)) 1 P _ _ ({ tmps := (#[p1, p2].zip #[(enc k).1, (enc k).2]).foldl (fun t (x : Nat × Value) => t.setIfInBounds x.1 x.2) a.tmps, defers := [] } : Act) W
    rw [put_zip a p1 p2 _ _ ha.defers]
    have k2 := (ha.put p1 (enc k).1 hp1).put p2 (enc k).2 hp2
    have nl0 := notin (hcell i) hH hl rfl
    have nd0 := notin (hcell i) hH hd rfl
    refine wpIn_mono ((hasg (w.heap.size + 1) k i W hi hk hH).go _ W k2 hH.rebase) ?_
    rintro e a1 Wa hq
    cases e with
    | exit id => exact hq.elim
    | goto t => exact hq.elim
    | panic ch => exact hq.elim
    | outgrown => exact hq.elim
    | ret => exact hq.elim
    | normal =>
    obtain ⟨t, ht, k3, hHa⟩ := hq
    have hH' : Holds w0 S (Mt t) Wa := hH.unbaseS hHa
    have hl' : Wa.heap[w.heap.size + 1]? = some (.loop (R .ready none)) := (hHa.chg.block _ (Array.getElem?_eq_some_iff.1 hl).1 nl0).trans hl
    have hd' : Wa.heap[w.heap.size]? = some (.deferred (some [])) := (hHa.chg.block _ (Array.getElem?_eq_some_iff.1 hd).1 nd0).trans hd
    refine ⟨_, run_beginRound hl' rfl, ?_⟩
    have hlt : w.heap.size + 1 < Wa.heap.size := (Array.getElem?_eq_some_iff.1 hl').1
    obtain ⟨W2, hW2⟩ : ∃ W2, Wa.putObj (w.heap.size + 1) (.loop { R .ready none with state := .busy }) = W2 := ⟨_, rfl⟩
    have hH2 : Holds w0 S (Mt t) W2 := hW2 ▸ hH'.stillS (hcelt t) (grownBy_putObj' Wa _ _) (fun r e => by cases e; exact ⟨by omega, _, hl', rfl⟩)
    have hl2 : W2.heap[w.heap.size + 1]? = some (.loop (R .busy none)) := hW2 ▸ World.putObj_heap_same hlt
    have hd2' : W2.heap[w.heap.size]? = some (.deferred (some [])) := by rw [← hW2]; exact (World.putObj_heap_other (by omega)).trans hd'
    rw [hW2]
    refine wpIn_mono ((hbody (w.heap.size + 1) k t W2 ht hk hH2).go _ W2 k3 hH2.rebase) ?_
    have nl := notin (hcelt t) hH2 hl2 rfl
    have nd := notin (hcelt t) hH2 hd2' rfl
    have hs2 : w.heap.size + 1 < W2.heap.size := (Array.getElem?_eq_some_iff.1 hl2).1
    -- what is kept from the round's beginning on
    have kept : ∀ {Mj : List Ent} {W3 : World}, Holds W2 (wrs (Mt t)) Mj W3 → W3.heap[w.heap.size + 1]? = some (.loop (R .busy none)) ∧ W3.heap[w.heap.size]? = some (.deferred (some [])) := fun {Mj W3} h3 =>
      ⟨(h3.chg.block _ hs2 nl).trans hl2, (h3.chg.block _ (by omega) nd).trans hd2'⟩
    rintro e a3 W3 hq
    cases e with
    | normal =>
      obtain ⟨j, hj, h3⟩ := hq
      obtain ⟨hl3, hd3⟩ := kept h3
      have hu := hH2.unbaseS h3
      exact ⟨_, _, run_endRound (P := P) none hl3, .inl ⟨rfl, ⟨⟨j, hj, hu.stillS (hcell j) (grownBy_putObj' W3 _ _) (fun r e => by cases e; exact ⟨by omega, _, hl3, rfl⟩)⟩, World.putObj_heap_same (Array.getElem?_eq_some_iff.1 hl3).1, (World.putObj_heap_other (by omega)).trans hd3⟩⟩⟩
    | ret =>
      obtain ⟨x, hx, h3⟩ := hq
      obtain ⟨hl3, hd3⟩ := kept h3
      have hu := hH2.unbaseS h3
      exact ⟨_, _, run_endRound (P := P) (some .ret) hl3, .inr ⟨rfl, ⟨x, hx, hu.stillS (hcelx x) (grownBy_putObj' W3 _ _) (fun r e => by cases e; exact ⟨by omega, _, hl3, rfl⟩)⟩, World.putObj_heap_same (Array.getElem?_eq_some_iff.1 hl3).1, (World.putObj_heap_other (by omega)).trans hd3⟩⟩
    | exit id => exact hq.elim
    | goto t => exact hq.elim
    | panic ch => exact hq.elim
    | outgrown => exact hq.elim
  · -- behind the iterator
    have know : KnowsM w.heap.size n E { a with defers := [Sl.mk w.heap.size] ++ a.defers } := ⟨by show _ ++ a.defers = _; rw [ha.defers]; rfl, ⟨ha.size, rfl, ha.all⟩⟩
    rintro e W2 ⟨⟨v, rfl⟩, (⟨⟨i, hi, hH⟩, hl, hd⟩ | ⟨⟨x, hx, hH⟩, hl, hd⟩)⟩
    · have h4 := hH.stillS (hcell i) (grownBy_putObj' W2 (w.heap.size + 1) (.loop { R .ready none with state := .exhausted })) (fun r e => by cases e; exact ⟨by omega, _, hl, rfl⟩)
      exact ⟨none, _, run_endLoop hl (by simp [R]), (hdone w.heap.size i hi).go _ _ know (h4.markS (hcell i) hsw0 ((World.putObj_heap_other (by omega)).trans hd))⟩
    · have h4 := hH.stillS (hcelx x) (grownBy_putObj' W2 (w.heap.size + 1) (.loop { R .done (some .ret) with state := .exhausted })) (fun r e => by cases e; exact ⟨by omega, _, hl, rfl⟩)
      exact ⟨some .ret, _, run_endLoop hl (by simp [R]), wpIn_ret ((hstop w.heap.size x hx).go _ _ know (h4.markS (hcelx x) hsw0 ((World.putObj_heap_other (by omega)).trans hd)))⟩
end Sl
end Go.Proofs.Ytopdkpeahhnihaa

/-
  Of no statement by itself: slices.Backward over what is pending, the landed disk's undo.
  Conditions: each theorem's own.
-/
namespace Go.Proofs.Ytopdkpeahhnihaa
set_option maxRecDepth 10000
open Sl Dsk
theorem pdC : scal Try.prog 24 = true := by kernel_rfl
theorem wc_tail (w : Nat × Bk) : ((wc w).drop 1).take (bc w.2).length = bc w.2 := by simp [wc]
section
variable {P : Program} {n : Nat} {E : Env} {dst : Option Tmp} {t ty : TypeId} {pos : String} {aft : Array Edge} {g : Option (Nat × Bool)} {x : Operand} {b j : Nat} {v : Value} {W : World} {cs : List Value}
theorem load_w (hs : scal P t = true) (hx : ev E x = some (.pointer (some ⟨b, j, none⟩))) (hc : W.cell? ⟨b, j, none⟩ = some v) : OQ P n E (fun w => w = W) ⟨dst, .load t x, ty, pos, aft, g⟩ v := OQ.load_at (fun _ hw => hw ▸ loadVar_scal hs hc) hx
theorem load_wA {sz : Nat} (ha : aggT P t = true) (hz : szT P t = some sz) (hl : cs.length = sz) (hx : ev E x = some (.pointer (some ⟨b, j, none⟩))) (hc : ∀ i u, cs[i]? = some u → W.cell? ⟨b, j + i, none⟩ = some u) : OQ P n E (fun w => w = W) ⟨dst, .load t x, ty, pos, aft, g⟩ (.agg cs.toArray) := OQ.load_at (fun _ hw => hw ▸ loadVar_agg ha (hl ▸ hz) hc) hx
end
def backF (b : Nat) : Value := .func (.func 61) #[] #[Pt b 0]
theorem goes_back : Goes Try.prog 52 := ⟨_, Try.func52, rfl, by kernel_rfl⟩
theorem back_any (v : Value) (hv : v.cells = #[v]) (w : World) : Calls Try.prog 52 [v].toArray w fun e w' => ∃ b : Nat, e = .returned (backF b) ∧ Holds w [] [⟨b, Row 73 [v], true⟩] w' := by
  refine enter (n := 4) Try.func52 rfl rfl rfl (Holds.start w []) ?_
  refine JC.seq (JC.region (JL.box (r := [v]) rfl (by rw [hv]) rfl fun b _ => ?_))
  repeat (first | refine JL.q (by first | (apply OQ.mkF (caps := [Pt b 0]); exact rfl) | (apply OQ.move; exact rfl) | (apply OQ.assign; exact rfl) | (apply OQ.nilc; exact rfl) | (apply OQ.len; exact rfl; exact rfl) | (apply OQ.lssN; exact rfl; exact rfl) | (apply OQ.gtrN; exact rfl; exact rfl) | (apply OQ.idxS; exact rfl; exact rfl; exact rfl; exact rfl; exact (by (try simp only []); omega)) | (apply OQ.fld; exact rfl; exact rfl; exact rfl; exact (by decide); exact rfl)) rfl ?_ | refine JC.seq ?_ | refine JC.region ?_ | refine JC.block ?_ | refine JC.skip ?_ | refine JC.exit ?_ | refine JL.nil ?_ | refine JE.next ?_ | refine JE.blk_normal ?_ | refine JE.then_exit ?_ | refine JE.blk_hit ?_ | refine JE.blk_miss rfl ?_ | refine JE.then_ret ?_ | refine JE.blk_ret ?_ | refine JC.label ?_ | refine JL.gon rfl rfl ?_ | refine JL.gskip rfl rfl rfl rfl ?_ | refine JL.gskipU rfl rfl rfl rfl ?_)
  exact JC.ret (JE.ret1 rfl (RV.tmp rfl) fun w' hw => ⟨b, rfl, hw⟩)
def iv (m : Nat) : Nat → Int
  | 0 => (m : Int) - 1
  | k + 1 => iv m k - 1
theorem iv_eq (m : Nat) : ∀ k, iv m k = (m : Int) - 1 - k
  | 0 => by simp [iv]
  | k + 1 => by rw [iv, iv_eq m k]; omega
set_option maxHeartbeats 4000000 in
theorem back_seq (b1 : Nat) (a : Acc) (m : Nat) (hm : m ≤ 1000000) (ha : a = none → m = 0) (f : Nat → Nat × Bk) (hf : ∀ k, k < m → (f k).2.length = 64) :
    SeqB Try.prog 61 #[Pt b1 0] (fun k => (N (m - 1 - k), .agg (wc (f k)).toArray))
      (fun k W => W.cell? ⟨b1, 0, none⟩ = some (accV a m) ∧ (k < m → ∀ r, a = some r → ∀ i u, (wc (f k))[i]? = some u → W.cell? ⟨r.1, 0 + (m - 1 - k) * 65 + i, none⟩ = some u)) m := by
  intro l J X W hR hJ hY h0
  refine callsIn_wide.2 ?_
  refine enterF (n := 19) (vs := [.func (.yield l) #[] #[], Pt b1 0]) Try.func61 rfl rfl rfl ?_
  repeat (first | refine FL.q (by first | (apply load_w; exact wsC; exact rfl; exact (hR 0 W h0).1) | (apply OQ.lenV; exact Try.underlying73; exact ha; exact rfl) | (apply OQ.subI (a := m) (b := 1); exact rfl; exact rfl; exact (by omega); exact (by omega)) | (apply OQ.move; exact rfl) | (apply OQ.assign; exact rfl) | (apply OQ.nilc; exact rfl) | (apply OQ.len; exact rfl; exact rfl) | (apply OQ.lssN; exact rfl; exact rfl) | (apply OQ.gtrN; exact rfl; exact rfl) | (apply OQ.idxS; exact rfl; exact rfl; exact rfl; exact rfl; exact (by (try simp only []); omega)) | (apply OQ.fld; exact rfl; exact rfl; exact rfl; exact (by decide); exact rfl)) rfl rfl ?_ | refine FC.seq ?_ | refine FC.region ?_ | refine FC.block ?_ | refine FC.skip ?_ | refine FC.exit ?_ | refine FL.nil ?_ | refine FE.next ?_ | refine FE.blk_normal ?_ | refine FE.then_exit ?_ | refine FE.blk_hit ?_ | refine FE.blk_miss rfl ?_ | refine FE.then_ret ?_ | refine FE.blk_ret ?_)
  refine FC.loop (fun k : Nat => [(0, .func (.yield l) #[] #[]), (1, Pt b1 0), (3, .int .i64 (iv m k))]) (fun k w => k ≤ m ∧ J k w) (fun k => m - k) 0 ⟨Nat.zero_le _, h0⟩ (by repeat (first | exact SubE.nil | refine SubE.cons _ _ _ rfl ?_)) ?_
  rintro k w ⟨hk, hJk⟩
  obtain ⟨g1, g2⟩ := hR k w hJk
  have e := iv_eq m k
  by_cases hkm : k < m
  · have e2 : iv m k = ((m - 1 - k : Nat) : Int) := by omega
    have h1 : decide ((0 : Int) ≤ ((m - 1 - k : Nat) : Int)) = true := decide_eq_true (by omega)
    have e3 : iv m (k + 1) = ((m - 1 - k : Nat) : Int) - 1 := by rw [← e2]; rfl
    cases a with
    | none => exact absurd (ha rfl) (by omega)
    | some r =>
    have g2 := g2 hkm r rfl
    have hl : (wc (f k)).length = 65 := by rw [wc, List.length_cons, bc_len (hf k hkm)]
    have hYk := hY k w hkm hJk
    rw [e2]
    repeat (first | refine FL.q (by first | (apply OQ.geqB (b := 0); exact rfl; exact rfl; exact h1) | (apply OQ.move; exact rfl) | (apply OQ.assign; exact rfl) | (apply OQ.nilc; exact rfl) | (apply OQ.len; exact rfl; exact rfl) | (apply OQ.lssN; exact rfl; exact rfl) | (apply OQ.gtrN; exact rfl; exact rfl) | (apply OQ.idxS; exact rfl; exact rfl; exact rfl; exact rfl; exact (by (try simp only []); omega)) | (apply OQ.fld; exact rfl; exact rfl; exact rfl; exact (by decide); exact rfl)) rfl rfl ?_ | refine FC.seq ?_ | refine FC.region ?_ | refine FC.block ?_ | refine FC.skip ?_ | refine FC.exit ?_ | refine FL.nil ?_ | refine FE.next ?_ | refine FE.blk_normal ?_ | refine FE.then_exit ?_ | refine FE.blk_hit ?_ | refine FE.blk_miss rfl ?_ | refine FE.then_ret ?_ | refine FE.blk_ret ?_)
    refine FC.cond rfl (fun _ => ?_) (fun h => by cases h)
    repeat (first | refine FL.q (by first | (apply load_w; exact wsC; exact rfl; exact g1) | (apply OQ.idxS (i := m - 1 - k); exact Try.underlying73; exact dwB; exact rfl; exact rfl; exact (by omega)) | (apply load_wA; exact dwAg; exact dwB; exact hl; exact rfl; exact g2) | (apply OQ.move; exact rfl) | (apply OQ.assign; exact rfl) | (apply OQ.nilc; exact rfl) | (apply OQ.len; exact rfl; exact rfl) | (apply OQ.lssN; exact rfl; exact rfl) | (apply OQ.gtrN; exact rfl; exact rfl) | (apply OQ.idxS; exact rfl; exact rfl; exact rfl; exact rfl; exact (by (try simp only []); omega)) | (apply OQ.fld; exact rfl; exact rfl; exact rfl; exact (by decide); exact rfl)) rfl rfl ?_ | refine FC.seq ?_ | refine FC.region ?_ | refine FC.block ?_ | refine FC.skip ?_ | refine FC.exit ?_ | refine FL.nil ?_ | refine FE.next ?_ | refine FE.blk_normal ?_ | refine FE.then_exit ?_ | refine FE.blk_hit ?_ | refine FE.blk_miss rfl ?_ | refine FE.then_ret ?_ | refine FE.blk_ret ?_)
    refine FL.yield2 (v := N (m - 1 - k)) (v' := .agg (wc (f k)).toArray) rfl rfl rfl rfl hYk ?_
    rintro ee W' (⟨rfl, hJ'⟩ | ⟨rfl, hX'⟩)
    · refine ⟨true, rfl, ?_⟩
      repeat (first | refine FL.q (by first | (apply OQ.not; exact rfl) | (apply OQ.move; exact rfl) | (apply OQ.assign; exact rfl) | (apply OQ.nilc; exact rfl) | (apply OQ.len; exact rfl; exact rfl) | (apply OQ.lssN; exact rfl; exact rfl) | (apply OQ.gtrN; exact rfl; exact rfl) | (apply OQ.idxS; exact rfl; exact rfl; exact rfl; exact rfl; exact (by (try simp only []); omega)) | (apply OQ.fld; exact rfl; exact rfl; exact rfl; exact (by decide); exact rfl)) rfl rfl ?_ | refine FC.seq ?_ | refine FC.region ?_ | refine FC.block ?_ | refine FC.skip ?_ | refine FC.exit ?_ | refine FL.nil ?_ | refine FE.next ?_ | refine FE.blk_normal ?_ | refine FE.then_exit ?_ | refine FE.blk_hit ?_ | refine FE.blk_miss rfl ?_ | refine FE.then_ret ?_ | refine FE.blk_ret ?_)
      refine FC.cond rfl (fun h => by cases h) (fun _ => ?_)
      repeat (first | refine FL.q (by first | (apply OQ.subI (a := ((m - 1 - k : Nat) : Int)) (b := 1); exact rfl; exact rfl; exact (by omega); exact (by omega)) | (apply OQ.move; exact rfl) | (apply OQ.assign; exact rfl) | (apply OQ.nilc; exact rfl) | (apply OQ.len; exact rfl; exact rfl) | (apply OQ.lssN; exact rfl; exact rfl) | (apply OQ.gtrN; exact rfl; exact rfl) | (apply OQ.idxS; exact rfl; exact rfl; exact rfl; exact rfl; exact (by (try simp only []); omega)) | (apply OQ.fld; exact rfl; exact rfl; exact rfl; exact (by decide); exact rfl)) rfl rfl ?_ | refine FC.seq ?_ | refine FC.region ?_ | refine FC.block ?_ | refine FC.skip ?_ | refine FC.exit ?_ | refine FL.nil ?_ | refine FE.next ?_ | refine FE.blk_normal ?_ | refine FE.then_exit ?_ | refine FE.blk_hit ?_ | refine FE.blk_miss rfl ?_ | refine FE.then_ret ?_ | refine FE.blk_ret ?_)
      rw [← e3]
      exact FE.again (i := k) (k + 1) ⟨hkm, hJ'⟩ (by omega) (by repeat (first | exact SubE.nil | refine SubE.cons _ _ _ rfl ?_))
    · refine ⟨false, rfl, ?_⟩
      repeat (first | refine FL.q (by first | (apply OQ.not; exact rfl) | (apply OQ.move; exact rfl) | (apply OQ.assign; exact rfl) | (apply OQ.nilc; exact rfl) | (apply OQ.len; exact rfl; exact rfl) | (apply OQ.lssN; exact rfl; exact rfl) | (apply OQ.gtrN; exact rfl; exact rfl) | (apply OQ.idxS; exact rfl; exact rfl; exact rfl; exact rfl; exact (by (try simp only []); omega)) | (apply OQ.fld; exact rfl; exact rfl; exact rfl; exact (by decide); exact rfl)) rfl rfl ?_ | refine FC.seq ?_ | refine FC.region ?_ | refine FC.block ?_ | refine FC.skip ?_ | refine FC.exit ?_ | refine FL.nil ?_ | refine FE.next ?_ | refine FE.blk_normal ?_ | refine FE.then_exit ?_ | refine FE.blk_hit ?_ | refine FE.blk_miss rfl ?_ | refine FE.then_ret ?_ | refine FE.blk_ret ?_)
      refine FC.cond rfl (fun _ => ?_) (fun h => by cases h)
      refine FC.ret ?_
      repeat (first | refine FL.q (by first | (apply OQ.move; exact rfl) | (apply OQ.assign; exact rfl) | (apply OQ.nilc; exact rfl) | (apply OQ.len; exact rfl; exact rfl) | (apply OQ.lssN; exact rfl; exact rfl) | (apply OQ.gtrN; exact rfl; exact rfl) | (apply OQ.idxS; exact rfl; exact rfl; exact rfl; exact rfl; exact (by (try simp only []); omega)) | (apply OQ.fld; exact rfl; exact rfl; exact rfl; exact (by decide); exact rfl)) rfl rfl ?_ | refine FC.seq ?_ | refine FC.region ?_ | refine FC.block ?_ | refine FC.skip ?_ | refine FC.exit ?_ | refine FL.nil ?_ | refine FE.next ?_ | refine FE.blk_normal ?_ | refine FE.then_exit ?_ | refine FE.blk_hit ?_ | refine FE.blk_miss rfl ?_ | refine FE.then_ret ?_ | refine FE.blk_ret ?_)
      exact FE.ret0 rfl ⟨⟨_, rfl⟩, .inr hX'⟩
  · have h1 : decide ((0 : Int) ≤ iv m k) = false := decide_eq_false (by omega)
    obtain rfl : k = m := by omega
    repeat (first | refine FL.q (by first | (apply OQ.geqB (b := 0); exact rfl; exact rfl; exact h1) | (apply OQ.move; exact rfl) | (apply OQ.assign; exact rfl) | (apply OQ.nilc; exact rfl) | (apply OQ.len; exact rfl; exact rfl) | (apply OQ.lssN; exact rfl; exact rfl) | (apply OQ.gtrN; exact rfl; exact rfl) | (apply OQ.idxS; exact rfl; exact rfl; exact rfl; exact rfl; exact (by (try simp only []); omega)) | (apply OQ.fld; exact rfl; exact rfl; exact rfl; exact (by decide); exact rfl)) rfl rfl ?_ | refine FC.seq ?_ | refine FC.region ?_ | refine FC.block ?_ | refine FC.skip ?_ | refine FC.exit ?_ | refine FL.nil ?_ | refine FE.next ?_ | refine FE.blk_normal ?_ | refine FE.then_exit ?_ | refine FE.blk_hit ?_ | refine FE.blk_miss rfl ?_ | refine FE.then_ret ?_ | refine FE.blk_ret ?_)
    refine FC.cond rfl (fun h => by cases h) (fun _ => ?_)
    repeat (first | refine FL.q (by first | (apply OQ.move; exact rfl) | (apply OQ.assign; exact rfl) | (apply OQ.nilc; exact rfl) | (apply OQ.len; exact rfl; exact rfl) | (apply OQ.lssN; exact rfl; exact rfl) | (apply OQ.gtrN; exact rfl; exact rfl) | (apply OQ.idxS; exact rfl; exact rfl; exact rfl; exact rfl; exact (by (try simp only []); omega)) | (apply OQ.fld; exact rfl; exact rfl; exact rfl; exact (by decide); exact rfl)) rfl rfl ?_ | refine FC.seq ?_ | refine FC.region ?_ | refine FC.block ?_ | refine FC.skip ?_ | refine FC.exit ?_ | refine FL.nil ?_ | refine FE.next ?_ | refine FE.blk_normal ?_ | refine FE.then_exit ?_ | refine FE.blk_hit ?_ | refine FE.blk_miss rfl ?_ | refine FE.then_ret ?_ | refine FE.blk_ret ?_)
    exact FE.end0 rfl ⟨⟨_, rfl⟩, .inl hJk⟩
def undoM (x : Dp) (b14 b3 b1 : Nat) (s : List Bk × List (Nat × Bk)) : List Ent :=
  ⟨x.p, Row 75 [.slice (some ⟨x.q, 0, none⟩) s.1.length x.cap, .slice none 0 0], true⟩ :: ⟨x.q, Sl.Own 32 64 s.1.length x.cap (bcs s.1).flatten, true⟩ :: (accC 77 65 x.a (wcs s.2) ++ [⟨b14, Row 73 [accV x.a s.2.length], true⟩, ⟨b3, Row 73 [accV x.a s.2.length], true⟩, ⟨b1, Row 24 [Pt x.p 0], true⟩])
theorem cells_rowD {e : TypeId} {l : List Value} : ∀ o, Row e l o → o.isCells = true := by rintro o rfl; rfl
theorem cells_ownD {e : TypeId} {k sz cap : Nat} {l : List Value} : ∀ o, Sl.Own e sz k cap l o → o.isCells = true := by rintro o ⟨_, rfl, _⟩; rfl
theorem cells_accC {e : TypeId} {sz : Nat} {q : Acc} {L : List (List Value)} : ∀ x ∈ accC e sz q L, ∀ o, x.A o → o.isCells = true := by
  cases q with
  | none => nofun
  | some p => intro x hx; rw [List.mem_singleton.1 hx]; exact cells_ownD
theorem cells_undo (x : Dp) (b14 b3 b1 : Nat) (s : List Bk × List (Nat × Bk)) : ∀ e ∈ undoM x b14 b3 b1 s, ∀ o, e.A o → o.isCells = true := by
  intro e he
  rcases List.mem_cons.1 he with rfl | he
  · exact cells_rowD
  rcases List.mem_cons.1 he with rfl | he
  · exact cells_ownD
  rcases List.mem_append.1 he with he | he
  · exact cells_accC e he
  · simp only [List.mem_cons, List.not_mem_nil, or_false] at he
    rcases he with rfl | rfl | rfl <;> exact cells_rowD
theorem hasR {N M : List Ent} {b : Nat} {A : Obj → Prop} {wr : Bool} (h : Has M b A wr) : Has (N ++ M) b A wr := by
  induction N with
  | nil => exact h
  | cons e N ih => exact .there ih
theorem goes_undo : Goes Try.prog 38 := ⟨_, Try.func38, rfl, by kernel_rfl⟩
theorem accV_dsk (q : Acc) (k : Nat) : (accV q k).cells = #[accV q k] ∧ (accV q k).oneCell' = true := by cases q <;> exact ⟨rfl, rfl⟩
theorem callFn (f : FuncId) (args : Array Value) (w : World) (h : Goes Try.prog f) : (callFunc f args).run Try.prog w = .ok (.enter f args) w := by
  obtain ⟨fn, h1, h2, h3⟩ := h
  have h2' : ¬ fn.body = none := fun h => by rw [h] at h2; cases h2
  have h3' : ¬ fn.name = "runtime.NumGoroutine" := by simpa using h3
  simp [callFunc, program, Sem.run_bind, Sem.run, h1, h2', h3']
theorem goes_back1 : Goes Try.prog 61 := ⟨_, Try.func61, rfl, by kernel_rfl⟩
/-- the disk's blocks and struct, nothing pending; and the writes that were -/
def undoE (x : Dp) (s : List Bk × List (Nat × Bk)) : List Ent :=
  ⟨x.p, Row 75 [.slice (some ⟨x.q, 0, none⟩) s.1.length x.cap, .slice none 0 0], true⟩ :: ⟨x.q, Sl.Own 32 64 s.1.length x.cap (bcs s.1).flatten, true⟩ :: accC 77 65 x.a (wcs s.2)
set_option maxHeartbeats 16000000 in
theorem undo_any (x : Dp) (bl : List Bk) (pd : List (Nat × Bk)) (h : DkOk x bl pd) (w : World) (hw : Holds w (keys (dkE x bl pd)) (dkE x bl pd) w) :
    Calls Try.prog 38 [Pt x.p 0].toArray w fun e w' => e = .returned (accV x.a pd.length) ∧ Holds w (keys (dkE x bl pd)) (undoE x (undo bl pd)) w' := by
  generalize hS : keys (dkE x bl pd) = S at hw ⊢
  have hm := h.m
  refine enterM (n := 39) Try.func38 rfl rfl rfl hw ?_
  repeat (first | refine JL.q (by first | (apply OQ.move; exact rfl) | (apply OQ.assign; exact rfl) | (apply OQ.nilc; exact rfl) | (apply OQ.len; exact rfl; exact rfl) | (apply OQ.lssN; exact rfl; exact rfl) | (apply OQ.gtrN; exact rfl; exact rfl) | (apply OQ.idxS; exact rfl; exact rfl; exact rfl; exact rfl; exact (by (try simp only []); omega)) | (apply OQ.fld; exact rfl; exact rfl; exact rfl; exact (by decide); exact rfl)) rfl ?_ | refine JC.seq ?_ | refine JC.region ?_ | refine JC.block ?_ | refine JC.skip ?_ | refine JC.exit ?_ | refine JL.nil ?_ | refine JE.next ?_ | refine JE.blk_normal ?_ | refine JE.then_exit ?_ | refine JE.blk_hit ?_ | refine JE.blk_miss rfl ?_ | refine JE.then_ret ?_ | refine JE.blk_ret ?_ | refine JC.label ?_ | refine JL.gon rfl rfl ?_ | refine JL.gskip rfl rfl rfl rfl ?_ | refine JL.gskipU rfl rfl rfl rfl ?_)
  refine JL.box (r := [Pt x.p 0]) rfl rfl rfl fun b1 _ => ?_
  repeat (first | refine JL.q (by first | (apply OQ.load; exact pdC; exact rfl; exact .here; exact (Row.cell (v := Pt x.p 0) rfl)) | (apply OQ.load; exact wsC; exact rfl; exact (.there .here); exact (Row.cell (v := accV x.a pd.length) rfl)) | (apply OQ.move; exact rfl) | (apply OQ.assign; exact rfl) | (apply OQ.nilc; exact rfl) | (apply OQ.len; exact rfl; exact rfl) | (apply OQ.lssN; exact rfl; exact rfl) | (apply OQ.gtrN; exact rfl; exact rfl) | (apply OQ.idxS; exact rfl; exact rfl; exact rfl; exact rfl; exact (by (try simp only []); omega)) | (apply OQ.fld; exact rfl; exact rfl; exact rfl; exact (by decide); exact rfl)) rfl ?_ | refine JC.seq ?_ | refine JC.region ?_ | refine JC.block ?_ | refine JC.skip ?_ | refine JC.exit ?_ | refine JL.nil ?_ | refine JE.next ?_ | refine JE.blk_normal ?_ | refine JE.then_exit ?_ | refine JE.blk_hit ?_ | refine JE.blk_miss rfl ?_ | refine JE.then_ret ?_ | refine JE.blk_ret ?_ | refine JC.label ?_ | refine JL.gon rfl rfl ?_ | refine JL.gskip rfl rfl rfl rfl ?_ | refine JL.gskipU rfl rfl rfl rfl ?_)
  refine JL.alloc (r := [.slice none 0 0]) (by kernel_rfl) rfl fun b3 _ => ?_
  refine JL.store_eq (b := b3) (r := [.slice none 0 0]) (r' := [accV x.a pd.length]) ws1 rfl rfl (accV_dsk _ _).2 (accV_dsk _ _).1 .here (show 0 < 1 by decide) rfl ?_
  repeat (first | refine JL.q (by first | (apply OQ.load; exact pdC; exact rfl; exact (.there .here); exact (Row.cell (v := Pt x.p 0) rfl)) | (apply OQ.move; exact rfl) | (apply OQ.assign; exact rfl) | (apply OQ.nilc; exact rfl) | (apply OQ.len; exact rfl; exact rfl) | (apply OQ.lssN; exact rfl; exact rfl) | (apply OQ.gtrN; exact rfl; exact rfl) | (apply OQ.idxS; exact rfl; exact rfl; exact rfl; exact rfl; exact (by (try simp only []); omega)) | (apply OQ.fld; exact rfl; exact rfl; exact rfl; exact (by decide); exact rfl)) rfl ?_ | refine JC.seq ?_ | refine JC.region ?_ | refine JC.block ?_ | refine JC.skip ?_ | refine JC.exit ?_ | refine JL.nil ?_ | refine JE.next ?_ | refine JE.blk_normal ?_ | refine JE.then_exit ?_ | refine JE.blk_hit ?_ | refine JE.blk_miss rfl ?_ | refine JE.then_ret ?_ | refine JE.blk_ret ?_ | refine JC.label ?_ | refine JL.gon rfl rfl ?_ | refine JL.gskip rfl rfl rfl rfl ?_ | refine JL.gskipU rfl rfl rfl rfl ?_)
  refine JL.store_eq (b := x.p) (r := dkRow x bl pd) (r' := [.slice (some ⟨x.q, 0, none⟩) bl.length x.cap, .slice none 0 0]) ws1 rfl rfl rfl rfl (.there (.there .here)) (show 1 < 2 by decide) rfl ?_
  repeat (first | refine JL.q (by first | (apply OQ.load; exact wsC; exact rfl; exact .here; exact (Row.cell (v := accV x.a pd.length) rfl)) | (apply OQ.move; exact rfl) | (apply OQ.assign; exact rfl) | (apply OQ.nilc; exact rfl) | (apply OQ.len; exact rfl; exact rfl) | (apply OQ.lssN; exact rfl; exact rfl) | (apply OQ.gtrN; exact rfl; exact rfl) | (apply OQ.idxS; exact rfl; exact rfl; exact rfl; exact rfl; exact (by (try simp only []); omega)) | (apply OQ.fld; exact rfl; exact rfl; exact rfl; exact (by decide); exact rfl)) rfl ?_ | refine JC.seq ?_ | refine JC.region ?_ | refine JC.block ?_ | refine JC.skip ?_ | refine JC.exit ?_ | refine JL.nil ?_ | refine JE.next ?_ | refine JE.blk_normal ?_ | refine JE.then_exit ?_ | refine JE.blk_hit ?_ | refine JE.blk_miss rfl ?_ | refine JE.then_ret ?_ | refine JE.blk_ret ?_ | refine JC.label ?_ | refine JL.gon rfl rfl ?_ | refine JL.gskip rfl rfl rfl rfl ?_ | refine JL.gskipU rfl rfl rfl rfl ?_)
  refine JL.callg (ι := Nat) (vs := [accV x.a pd.length]) (fun b => backF b) (fun b => [⟨b, Row 73 [accV x.a pd.length], true⟩]) goes_back rfl rfl (fun b e he => by rw [List.mem_singleton.1 he]) (fun w' _ => back_any _ (accV_dsk _ _).1 w') fun b14 => ?_
  repeat (first | refine JL.q (by first | (apply OQ.move; exact rfl) | (apply OQ.assign; exact rfl) | (apply OQ.nilc; exact rfl) | (apply OQ.len; exact rfl; exact rfl) | (apply OQ.lssN; exact rfl; exact rfl) | (apply OQ.gtrN; exact rfl; exact rfl) | (apply OQ.idxS; exact rfl; exact rfl; exact rfl; exact rfl; exact (by (try simp only []); omega)) | (apply OQ.fld; exact rfl; exact rfl; exact rfl; exact (by decide); exact rfl)) rfl ?_ | refine JC.seq ?_ | refine JC.region ?_ | refine JC.block ?_ | refine JC.skip ?_ | refine JC.exit ?_ | refine JL.nil ?_ | refine JE.next ?_ | refine JE.blk_normal ?_ | refine JE.then_exit ?_ | refine JE.blk_hit ?_ | refine JE.blk_miss rfl ?_ | refine JE.then_ret ?_ | refine JE.blk_ret ?_ | refine JC.label ?_ | refine JL.gon rfl rfl ?_ | refine JL.gskip rfl rfl rfl rfl ?_ | refine JL.gskipU rfl rfl rfl rfl ?_)
  have eM0 : undoM x b14 b3 b1 (undoN bl pd 0) = undoM x b14 b3 b1 (bl, pd) := by rw [undoN_zero]
  refine JC.rangeW (ι := Nat) (τ := Nat × Nat) (κ := Empty) (S := S) (gf := 61) (lb := #[Pt b14 0]) (fun k => (N (pd.length - 1 - k), .agg (wc (nth (undoN bl pd k).2 (pd.length - 1 - k))).toArray))
    (fun k W => W.cell? ⟨b14, 0, none⟩ = some (accV x.a pd.length) ∧ (k < pd.length → ∀ r, x.a = some r → ∀ i u, (wc (nth (undoN bl pd k).2 (pd.length - 1 - k)))[i]? = some u → W.cell? ⟨r.1, 0 + (pd.length - 1 - k) * 65 + i, none⟩ = some u)) pd.length
    (fun k => undoM x b14 b3 b1 (undoN bl pd k)) (fun k i => i = k ∧ k ≤ pd.length) (fun t => ⟨t.2, Row 77 (wc (nth (undoN bl pd t.1).2 (pd.length - 1 - t.1))), true⟩ :: undoM x b14 b3 b1 (undoN bl pd t.1)) (fun k t => [(1, Pt b1 0), (3, Pt b3 0), (4, N (pd.length - 1 - k)), (5, Pt t.2 0)]) (fun k t => t.1 = k) (fun e => e.elim) (fun _ => False)
    rfl (fun args w => callFn _ _ _ goes_back1) (back_seq b14 x.a pd.length h.m (fun e => by rw [h.a e]; rfl) _ fun k hk => ?_) ?_ (fun i => cells_undo x b14 b3 b1 _) ?_ nofun 0 ⟨rfl, Nat.zero_le _⟩ ?_ rfl rfl ?_ ?_ ?_ nofun
  · exact ((h.ok.undoN k (by omega)).p _ (nth_mem (by rw [(undoN_len bl pd k (by omega)).2]; omega))).2
  · rintro k i W ⟨rfl, hk⟩ hH
    have hl2 := (undoN_len bl pd i hk).2
    have okk := h.ok.undoN i hk
    refine ⟨?_, fun hkm r hr j u hu => ?_⟩
    · obtain ⟨o, ho, hA⟩ := hH.get (b := b14) (A := Row 73 [accV x.a (undoN bl pd i).2.length]) (wr := true) (.there (.there (hasR .here)))
      rw [← hl2]
      exact cell_of ho (Row.cell rfl _ hA)
    · obtain ⟨o, ho, hA⟩ := hH.get (b := r.1) (A := Sl.Own 77 65 (wcs (undoN bl pd i).2).length r.2 (wcs (undoN bl pd i).2).flatten) (wr := true) (by unfold undoM; rw [hr]; exact .there (.there .here))
      have hlt : pd.length - 1 - i < (undoN bl pd i).2.length := by omega
      have hc := Own.chunk (i := pd.length - 1 - i) (wcs_len okk) (by rw [wcs_n]; exact hlt) o hA
      rw [wcs_at hlt] at hc
      rw [Nat.zero_add]
      exact cells_of ho hc j u hu
  · intro t e he
    rcases List.mem_cons.1 he with rfl | he
    · exact cells_rowD
    · exact cells_undo x b14 b3 b1 _ e he
  · intro w' hw'
    rw [eM0]
    exact hw'.perm' (List.perm_append_comm (l₁ := [_, _, _]))
  · rintro l k i w1 ⟨rfl, hk⟩ hkm hH
    generalize wrs (undoM x b14 b3 b1 (undoN bl pd i)) = S1
    refine JR.seq (JR.region rfl (lo_then lo_asgQ) (JL.q (OQ.assign rfl) rfl (JL.nil (JE.nextR (JR.region rfl lo_asgQ ?_)))))
    refine JL.alloc dwZ rfl fun b5 _ => ?_
    have ok2 := ((h.ok.undoN i hk).p _ (nth_mem (by rw [(undoN_len bl pd i hk).2]; omega : pd.length - 1 - i < _))).2
    refine JL.store_all (cs := wc (nth (undoN bl pd i).2 (pd.length - 1 - i))) dwB rfl rfl (by rw [wc, List.length_cons, bc_len ok2]) (by rw [wc, List.all_cons, bc_cell]; rfl) .here rfl (JL.nil ?_)
    exact JE.asg (i, b5) rfl (by repeat (first | exact SubE.nil | refine SubE.cons _ _ _ rfl ?_)) (Less.refl _)
  · rintro l k ⟨k', b5⟩ w1 rfl hkm hH
    generalize wrs _ = S1
    have hk : k' ≤ pd.length := by have : k' < pd.length := hkm; omega
    obtain ⟨r, hr⟩ : ∃ r, x.a = some r := by
      cases e : x.a with
      | none => have := h.a e; subst this; exact absurd hkm (by simp)
      | some r => exact ⟨r, rfl⟩
    have hl := undoN_len bl pd k' hk
    have ok := h.ok.undoN k' hk
    have hs := undoN_succ (bl := bl) hkm
    obtain ⟨lb, hlb⟩ : ∃ lb, (undoN bl pd k').1 = lb := ⟨_, rfl⟩
    obtain ⟨ws, hws⟩ : ∃ ws, (undoN bl pd k').2 = ws := ⟨_, rfl⟩
    have hU : undoN bl pd k' = (lb, ws) := by rw [← hlb, ← hws]
    rw [hlb, hws] at hl ok
    rw [hU] at hs
    dsimp only at hl hs ⊢
    rw [hU]
    dsimp only
    obtain ⟨i, hi'⟩ : ∃ i, pd.length - 1 - k' = i := ⟨_, rfl⟩
    have hi : i < ws.length := by omega
    rw [hi'] at hs ⊢
    obtain ⟨w, hww⟩ : ∃ w, nth ws i = w := ⟨_, rfl⟩
    obtain ⟨hw1, hw2⟩ := ok.p _ (nth_mem hi)
    have ew : (wcs ws).getD i [] = wc w := by rw [wcs_at hi, hww]
    rw [hww] at hw1 hw2 ⊢
    have eM : undoM x b14 b3 b1 (lb, ws) = [⟨x.p, Row 75 [.slice (some ⟨x.q, 0, none⟩) lb.length x.cap, .slice none 0 0], true⟩, ⟨x.q, Sl.Own 32 64 lb.length x.cap (bcs lb).flatten, true⟩, ⟨r.1, Sl.Own 77 65 (wcs ws).length r.2 (wcs ws).flatten, true⟩, ⟨b14, Row 73 [accV (some r) ws.length], true⟩, ⟨b3, Row 73 [accV (some r) ws.length], true⟩, ⟨b1, Row 24 [Pt x.p 0], true⟩] := by
      unfold undoM
      rw [hr]
      rfl
    have eL : (wcs ws).set i (((wcs ws).getD i []).take 1 ++ bc (old lb w.1) ++ ((wcs ws).getD i []).drop (1 + 64)) = wcs (ws.set i (w.1, old lb w.1)) := by
      have e1 : (wc w).drop (1 + 64) = [] := List.drop_of_length_le (by rw [wc, List.length_cons, bc_len hw2]; exact Nat.le_refl _)
      rw [ew, e1, List.append_nil]
      show (wcs ws).set i (wc (w.1, old lb w.1)) = _
      simp [wcs, List.map_set]
    have eM2 : undoM x b14 b3 b1 (undoN bl pd (k' + 1)) = [⟨x.p, Row 75 [.slice (some ⟨x.q, 0, none⟩) lb.length x.cap, .slice none 0 0], true⟩, ⟨x.q, Sl.Own 32 64 lb.length x.cap ((bcs lb).set w.1 (bc w.2)).flatten, true⟩, ⟨r.1, Sl.Own 77 65 (wcs ws).length r.2 ((wcs ws).set i (((wcs ws).getD i []).take 1 ++ bc (old lb w.1) ++ ((wcs ws).getD i []).drop (1 + 64))).flatten, true⟩, ⟨b14, Row 73 [accV (some r) ws.length], true⟩, ⟨b3, Row 73 [accV (some r) ws.length], true⟩, ⟨b1, Row 24 [Pt x.p 0], true⟩] := by
      have e3 : (ws.set i (w.1, old lb w.1)).length = ws.length := List.length_set
      rw [hs, eL, bcs_set]
      unfold undoM Dsk.step
      rw [hr]
      dsimp only
      rw [hww, List.length_set, e3, wcs_n ws]
      show _ :: _ :: ([(⟨r.1, Sl.Own 77 65 (wcs (ws.set i (w.1, old lb w.1))).length r.2 _, true⟩ : Ent)] ++ _) = _
      rw [wcs_n, e3]
      rfl
    rw [eM]
    refine JR.block ?_
    show JR _ _ _ _ _ _ _ _ [(1, Pt b1 0), (3, Pt b3 0), (4, N i), (5, Pt b5 0)] _
    let vs : Nat → Nat → Value := fun j y => match j with
      | 0 => accV (some r) ws.length
      | 1 => N i
      | 2 => Pt x.p 0
      | 3 => Pt x.p 0
      | 4 => Pt x.p 0
      | 5 => .slice (some ⟨x.q, 0, none⟩) lb.length x.cap
      | 6 => Pt b5 0
      | 7 => N w.1
      | 8 => Pt x.p 0
      | 9 => Pt x.p 0
      | 10 => Pt x.p 0
      | 11 => .slice (some ⟨x.q, 0, none⟩) lb.length x.cap
      | 12 => Pt b5 0
      | 13 => N w.1
      | 14 => Pt x.q (0 + w.1 * 64)
      | 15 => .agg (bc (old lb w.1)).toArray
      | 16 => Pt b5 1
      | 17 => .agg (bc w.2).toArray
      | 18 => Pt r.1 (0 + i * 65)
      | 19 => Pt r.1 (0 + i * 65 + 1)
      | 21 => Pt x.q (0 + w.1 * 64)
      | _ => N 0
    let Ms : Nat → Nat → List Ent := fun j y => match j with
      | 20 => [⟨r.1, Sl.Own 77 65 (wcs ws).length r.2 ((wcs ws).set i (((wcs ws).getD i []).take 1 ++ bc (old lb w.1) ++ ((wcs ws).getD i []).drop (1 + 64))).flatten, true⟩]
      | 22 => [⟨x.q, Sl.Own 32 64 lb.length x.cap ((bcs lb).set w.1 (bc w.2)).flatten, true⟩]
      | 23 => [⟨b5, Row 77 (wc w), true⟩]
      | 24 => [⟨x.p, Row 75 [.slice (some ⟨x.q, 0, none⟩) lb.length x.cap, .slice none 0 0], true⟩]
      | 25 => [⟨x.q, Sl.Own 32 64 lb.length x.cap (bcs lb).flatten, true⟩]
      | 26 => [⟨r.1, Sl.Own 77 65 (wcs ws).length r.2 (wcs ws).flatten, true⟩]
      | 27 => [⟨b14, Row 73 [accV (some r) ws.length], true⟩]
      | 28 => [⟨b3, Row 73 [accV (some r) ws.length], true⟩]
      | 29 => [⟨b1, Row 24 [Pt x.p 0], true⟩]
      | _ => []
    refine JR.growR (g := ⟨[(1, Pt b1 0), (3, Pt b3 0), (4, N i), (5, Pt b5 0)], 30, vs, Ms, (fun j => match j with | 3 => [(2, 19)] | 4 => [(3, 20)] | 5 => [(4, 21)] | 7 => [(6, 23)] | 9 => [(8, 25)] | 10 => [(9, 26)] | 11 => [(10, 27)] | 13 => [(12, 29)] | 14 => [(11, 28), (13, 30)] | 15 => [(14, 31)] | 17 => [(16, 33)] | 18 => [(0, 17), (1, 18)] | 19 => [(18, 35)] | 20 => [(19, 36), (15, 32)] | 21 => [(5, 22), (7, 24)] | 22 => [(21, 37), (17, 34)] | _ => []), (fun j => match j with | 0 => [28] | 2 => [29] | 5 => [24] | 7 => [23] | 8 => [29] | 11 => [24] | 13 => [23] | 15 => [25] | 17 => [23] | 20 => [26] | 22 => [25] | _ => []), (fun j => match j with | 20 => [26] | 22 => [25] | _ => []), (fun j => match j with | _ => none), fun _ => [], fun _ _ _ => True⟩) [] [24, 22, 20, 27, 28, 29] rfl (lo_blk lo_roundX) mixT (by repeat (first | exact SubE.nil | refine SubE.cons _ _ _ rfl ?_)) (fun _ _ => .nil) ?_ (by kernel_rfl) (by kernel_rfl) (by kernel_rfl) ?_ ?_
    · exact Less.refl _
    · refine ⟨?_, ?_, ?_, ?_, ?_, ?_, ?_, ?_, ?_, ?_, ?_, ?_, ?_, ?_, ?_, ?_, ?_, ?_, ?_, ?_, ?_, ?_, ?_, trivial⟩
      · (intro xx EF MF Q kk; (try refine JL.gon rfl rfl ?_); exact JL.q (OQ.load wsC rfl .here (Row.cell (v := accV (some r) ws.length) rfl)) rfl (JL.nil (kk default nofun)))
      · (intro xx EF MF Q kk; (try refine JL.gon rfl rfl ?_); exact JL.q (OQ.move rfl) rfl (JL.nil (kk default nofun)))
      · (intro xx EF MF Q kk; (try refine JL.gon rfl rfl ?_); exact JL.q (OQ.load pdC rfl .here (Row.cell (v := Pt x.p 0) rfl)) rfl (JL.nil (kk default nofun)))
      · (intro xx EF MF Q kk; (try refine JL.gon rfl rfl ?_); exact JL.q (OQ.nilc rfl) rfl (JL.nil (kk default nofun)))
      · (intro xx EF MF Q kk; (try refine JL.gon rfl rfl ?_); exact JL.q (OQ.fld rfl rfl rfl (by decide) rfl) rfl (JL.nil (kk default nofun)))
      · (intro xx EF MF Q kk; (try refine JL.gon rfl rfl ?_); exact JL.q (OQ.load bsC rfl .here (Row.cell (v := .slice (some ⟨x.q, 0, none⟩) lb.length x.cap) rfl)) rfl (JL.nil (kk default nofun)))
      · (intro xx EF MF Q kk; (try refine JL.gon rfl rfl ?_); exact JL.q (OQ.fld rfl rfl rfl (by decide) rfl) rfl (JL.nil (kk default nofun)))
      · (intro xx EF MF Q kk; (try refine JL.gon rfl rfl ?_); exact JL.q (OQ.load intC rfl .here (Row.cell (v := N w.1) rfl)) rfl (JL.nil (kk default nofun)))
      · (intro xx EF MF Q kk; (try refine JL.gon rfl rfl ?_); exact JL.q (OQ.load pdC rfl .here (Row.cell (v := Pt x.p 0) rfl)) rfl (JL.nil (kk default nofun)))
      · (intro xx EF MF Q kk; (try refine JL.gon rfl rfl ?_); exact JL.q (OQ.nilc rfl) rfl (JL.nil (kk default nofun)))
      · (intro xx EF MF Q kk; (try refine JL.gon rfl rfl ?_); exact JL.q (OQ.fld rfl rfl rfl (by decide) rfl) rfl (JL.nil (kk default nofun)))
      · (intro xx EF MF Q kk; (try refine JL.gon rfl rfl ?_); exact JL.q (OQ.load bsC rfl .here (Row.cell (v := .slice (some ⟨x.q, 0, none⟩) lb.length x.cap) rfl)) rfl (JL.nil (kk default nofun)))
      · (intro xx EF MF Q kk; (try refine JL.gon rfl rfl ?_); exact JL.q (OQ.fld rfl rfl rfl (by decide) rfl) rfl (JL.nil (kk default nofun)))
      · (intro xx EF MF Q kk; (try refine JL.gon rfl rfl ?_); exact JL.q (OQ.load intC rfl .here (Row.cell (v := N w.1) rfl)) rfl (JL.nil (kk default nofun)))
      · (intro xx EF MF Q kk; (try refine JL.gon rfl rfl ?_); exact JL.q (OQ.idxS Try.underlying41 dkB rfl rfl hw1) rfl (JL.nil (kk default nofun)))
      · (intro xx EF MF Q kk; (try refine JL.gon rfl rfl ?_); exact JL.q (OQ.to (OQ.loadC (L := bcs lb) (i := w.1) dkAg dkB rfl (Nat.zero_add _) .here (bcs_len ok) (by rw [bcs_n]; exact hw1)) (by rw [bcs_at hw1]; rfl)) rfl (JL.nil (kk default nofun)))
      · (intro xx EF MF Q kk; (try refine JL.gon rfl rfl ?_); exact JL.q (OQ.fld rfl rfl rfl (by decide) rfl) rfl (JL.nil (kk default nofun)))
      · (intro xx EF MF Q kk; (try refine JL.gon rfl rfl ?_); exact JL.q (OQ.load_agg (cs := bc w.2) dkAg dkB rfl .here (bc_len hw2) (Row.cells (wc_tail w))) rfl (JL.nil (kk default nofun)))
      · (intro xx EF MF Q kk; (try refine JL.gon rfl rfl ?_); exact JL.q (OQ.idxS Try.underlying73 dwB rfl rfl hi) rfl (JL.nil (kk default nofun)))
      · (intro xx EF MF Q kk; (try refine JL.gon rfl rfl ?_); exact JL.q (OQ.fld rfl rfl rfl (by decide) rfl) rfl (JL.nil (kk default nofun)))
      · (intro xx EF MF Q kk; exact JL.storeP (L := wcs ws) (i := i) (off := 1) dkB rfl (by rw [Nat.zero_add]) rfl (bc_len (ok.old hw1)) (bc_cell _) (wcs_len ok) rfl (by rw [wcs_n]; exact hi) (by decide) .here (JL.nil (kk default nofun)))
      · (intro xx EF MF Q kk; (try refine JL.gon rfl rfl ?_); exact JL.q (OQ.idxS Try.underlying41 dkB rfl rfl hw1) rfl (JL.nil (kk default nofun)))
      · (intro xx EF MF Q kk; exact JL.storeC (L := bcs lb) (i := w.1) dkB rfl (Nat.zero_add _) rfl (bc_len hw2) (bc_cell _) (bcs_len ok) (bcs_n lb) hw1 .here (JL.nil (kk default nofun)))
    · intro xx hx
      refine JE.blk_normal (JE.roundN (k' + 1) ⟨rfl, hkm⟩ ?_)
      rw [eM2]
      exact Less.refl _
  · rintro D _ ⟨rfl, _⟩
    have hl2 := (undoN_len bl pd pd.length (Nat.le_refl _)).2
    repeat (first | refine KL.q (by first | (apply OQ.load; exact wsC; exact rfl; exact (.there (.there (.there (hasR (.there .here))))); exact (Row.cell (v := accV x.a (undoN bl pd pd.length).2.length) rfl)) | (apply OQ.move; exact rfl) | (apply OQ.assign; exact rfl) | (apply OQ.nilc; exact rfl) | (apply OQ.len; exact rfl; exact rfl) | (apply OQ.lssN; exact rfl; exact rfl) | (apply OQ.gtrN; exact rfl; exact rfl) | (apply OQ.idxS; exact rfl; exact rfl; exact rfl; exact rfl; exact (by (try simp only []); omega)) | (apply OQ.fld; exact rfl; exact rfl; exact rfl; exact (by decide); exact rfl)) rfl ?_ | refine KC.seq ?_ | refine KC.region ?_ | refine KC.skip ?_ | refine KL.nil ?_ | refine KE.next ?_ | refine KE.blk_normal ?_ | refine KE.then_ret ?_)
    refine KC.ret ?_
    refine KE.ret1 rfl rfl fun w' hw' => ⟨?_, hw'.weak ?_⟩
    · rw [hl2]
    · exact .keep _ _ _ _ _ _ (fun _ h => h) (.keep _ _ _ _ _ _ (fun _ h => h) (less_pre _ _))
end Go.Proofs.Ytopdkpeahhnihaa

/-
  Of no statement by itself: the landed disk's Crash, slices.Clone of blocks, Twin.
  Conditions: each theorem's own.
-/
namespace Go.Proofs.Ytopdkpeahhnihaa
set_option maxRecDepth 10000
open Sl Dsk
section
variable {P : Program} {n : Nat} {E : Env} {C : World → Prop} {dst : Option Tmp} {t t' e ty : TypeId} {pos : String} {aft : Array Edge} {g : Option (Nat × Bool)} {x y : Operand}
theorem OQ.slA_hi {len b j hi sz : Nat} (hu : P.underlying t = some (.array len e)) (hz : szT P e = some sz) (hx : ev E x = some (.pointer (some ⟨b, j, none⟩))) (hh : ev E y = some (N hi)) (h' : hi ≤ len) :
    OQ P n E C ⟨dst, .slice t x none (some y) none, ty, pos, aft, g⟩ (.slice (some ⟨b, j, none⟩) hi len) :=
  OQ.run fun a ha w _ => by
    have h1 := ha.eval hx
    have h2 := ha.eval hh
    have h3 : (underlying t).run P w = .ok (.array len e) w := run_underlying hu w
    have h6 : (⟨b, j, none⟩ : Addr).add 0 = ⟨b, j, none⟩ := by rw [add_off]; rfl
    simp [execOp, h1, h2, Instr.sliceAt, Sem.run_bind, h3, Instr.sureAddr, Instr.sliceBounds, Instr.sliceBound, asIntOf, h', sizeOf_run hz, h6]
end
/-- bytes that lie apart from some blocks -/
def Away (s : Sl8) (S : List Nat) : Prop := s.l ≠ [] → ∀ a, s.ad = some a → a.block ∉ S
theorem undoE_wr (x : Dp) (s : List Bk × List (Nat × Bk)) : ∀ e ∈ undoE x s, e.wr = true := by
  intro e he
  rcases List.mem_cons.1 he with rfl | he
  · rfl
  · rcases List.mem_cons.1 he with rfl | he
    · rfl
    · exact accC_wr _ _ _ _ e he
theorem goes_crash : Goes Try.prog 17 := ⟨_, Try.func17, rfl, by kernel_rfl⟩
set_option maxHeartbeats 16000000 in
theorem crash_any (x : Dp) (bl : List Bk) (pd : List (Nat × Bk)) (s : Sl8) (h : DkOk x bl pd) (w : World) (hs : s.ok w) (hl : s.l.length ≤ 1000000) (hap : Away s (keys (dkE x bl pd))) (hw : Holds w (keys (dkE x bl pd)) (dkE x bl pd) w) :
    Calls Try.prog 17 [Pt x.p 0, s.v].toArray w fun e w' => e = .returned (.tuple #[]) ∧ Holds w (keys (dkE x bl pd)) (dkE ⟨x.p, x.q, x.cap, none⟩ (crash s.l bl pd) []) w' := by
  have hm := h.m
  have hun := fun w' hw' => undo_any x bl pd h w' hw'
  have hul := undo_len bl pd
  have hok := h.ok.undo
  generalize hS : keys (dkE x bl pd) = S at hw hap ⊢
  have hS2 := hS
  have hcr : crash s.l bl pd = redoN s.l (undo bl pd).1 (undo bl pd).2 (undo bl pd).2.length := rfl
  obtain ⟨lb, hlb⟩ : ∃ lb, (undo bl pd).1 = lb := ⟨_, rfl⟩
  obtain ⟨ws, hws⟩ : ∃ ws, (undo bl pd).2 = ws := ⟨_, rfl⟩
  have hU : undo bl pd = (lb, ws) := by rw [← hlb, ← hws]
  rw [hU] at hcr hun hul hok
  dsimp only at hcr hul hok
  have hqa : x.a = none → pd.length = 0 := fun e => by rw [h.a e]; rfl
  refine enter (n := 39) Try.func17 rfl rfl rfl hw ?_
  repeat (first | refine JL.q (by first | (apply OQ.move; exact rfl) | (apply OQ.assign; exact rfl) | (apply OQ.nilc; exact rfl) | (apply OQ.len; exact rfl; exact rfl) | (apply OQ.addN; exact rfl; exact rfl; exact (by (try simp only []); omega)) | (apply OQ.remN; exact rfl; exact rfl; exact (by (try simp only []); omega)) | (apply OQ.lssN; exact rfl; exact rfl) | (apply OQ.gtrN; exact rfl; exact rfl) | (apply OQ.idxS; exact rfl; exact rfl; exact rfl; exact rfl; exact (by (try simp only []); omega)) | (apply OQ.fld; exact rfl; exact rfl; exact rfl; exact (by decide); exact rfl)) rfl ?_ | refine JC.seq ?_ | refine JC.region ?_ | refine JC.block ?_ | refine JC.skip ?_ | refine JC.exit ?_ | refine JL.nil ?_ | refine JE.next ?_ | refine JE.blk_normal ?_ | refine JE.then_exit ?_ | refine JE.blk_hit ?_ | refine JE.blk_miss rfl ?_ | refine JE.then_ret ?_ | refine JE.blk_ret ?_ | refine JC.label ?_ | refine JL.gon rfl rfl ?_ | refine JL.gskip rfl rfl rfl rfl ?_ | refine JL.gskipU rfl rfl rfl rfl ?_)
  refine JL.perm ?_ (List.Perm.of_eq (List.append_nil _).symm)
  refine JL.callW (ι := Unit) (X := dkE x bl pd) (M0 := []) (vs := [Pt x.p 0]) (fun _ => accV x.a pd.length) (fun _ => undoE x (lb, ws)) goes_undo rfl rfl (dkE_wr _ _ _) (fun _ => undoE_wr _ _) (fun w' hw' => ?_) fun _ => ?_
  · exact (hun w' (by simpa [cold] using hw')).mono fun e w2 ⟨h1, h2⟩ => ⟨(), h1, h2⟩
  refine JL.perm ?_ (List.Perm.of_eq (List.append_nil _))
  repeat (first | refine JL.q (by first | (apply OQ.lenV; exact Try.underlying73; exact hqa; exact rfl) | (apply OQ.move; exact rfl) | (apply OQ.assign; exact rfl) | (apply OQ.nilc; exact rfl) | (apply OQ.len; exact rfl; exact rfl) | (apply OQ.addN; exact rfl; exact rfl; exact (by (try simp only []); omega)) | (apply OQ.remN; exact rfl; exact rfl; exact (by (try simp only []); omega)) | (apply OQ.lssN; exact rfl; exact rfl) | (apply OQ.gtrN; exact rfl; exact rfl) | (apply OQ.idxS; exact rfl; exact rfl; exact rfl; exact rfl; exact (by (try simp only []); omega)) | (apply OQ.fld; exact rfl; exact rfl; exact rfl; exact (by decide); exact rfl)) rfl ?_ | refine JC.seq ?_ | refine JC.region ?_ | refine JC.block ?_ | refine JC.skip ?_ | refine JC.exit ?_ | refine JL.nil ?_ | refine JE.next ?_ | refine JE.blk_normal ?_ | refine JE.then_exit ?_ | refine JE.blk_hit ?_ | refine JE.blk_miss rfl ?_ | refine JE.then_ret ?_ | refine JE.blk_ret ?_ | refine JC.label ?_ | refine JL.gon rfl rfl ?_ | refine JL.gskip rfl rfl rfl rfl ?_ | refine JL.gskipU rfl rfl rfl rfl ?_)
  refine JC.loop (fun i : Nat => [(0, Pt x.p 0), (1, s.v), (8, accV x.a pd.length), (9, N pd.length), (10, N i)]) (fun i => undoE x (redoN s.l lb ws i, ws)) (fun i => pd.length - i) (fun i => i ≤ pd.length) 0 (Nat.zero_le _) (by repeat (first | exact SubE.nil | refine SubE.cons _ _ _ rfl ?_)) (by rw [redoN_zero]; exact Less.refl _) ?_
  intro i hi
  repeat (first | refine JL.q (by first | (apply OQ.move; exact rfl) | (apply OQ.assign; exact rfl) | (apply OQ.nilc; exact rfl) | (apply OQ.len; exact rfl; exact rfl) | (apply OQ.addN; exact rfl; exact rfl; exact (by (try simp only []); omega)) | (apply OQ.remN; exact rfl; exact rfl; exact (by (try simp only []); omega)) | (apply OQ.lssN; exact rfl; exact rfl) | (apply OQ.gtrN; exact rfl; exact rfl) | (apply OQ.idxS; exact rfl; exact rfl; exact rfl; exact rfl; exact (by (try simp only []); omega)) | (apply OQ.fld; exact rfl; exact rfl; exact rfl; exact (by decide); exact rfl)) rfl ?_ | refine JC.seq ?_ | refine JC.region ?_ | refine JC.block ?_ | refine JC.skip ?_ | refine JC.exit ?_ | refine JL.nil ?_ | refine JE.next ?_ | refine JE.blk_normal ?_ | refine JE.then_exit ?_ | refine JE.blk_hit ?_ | refine JE.blk_miss rfl ?_ | refine JE.then_ret ?_ | refine JE.blk_ret ?_ | refine JC.label ?_ | refine JL.gon rfl rfl ?_ | refine JL.gskip rfl rfl rfl rfl ?_ | refine JL.gskipU rfl rfl rfl rfl ?_)
  refine JC.cond rfl (fun h2 => ?_) (fun h2 => ?_)
  · have hi' : i < pd.length := by have := of_decide_eq_true h2; omega
    clear h2
    have hiw : i < ws.length := by omega
    obtain ⟨r, hr⟩ : ∃ r, x.a = some r := by
      cases e : x.a with
      | none => have := hqa e; omega
      | some r => exact ⟨r, rfl⟩
    have okL := hok.redoN (picks := s.l) i (by omega)
    have hll := redoN_len s.l lb ws i
    have hsucc := redoN_succ s.l lb ws i
    obtain ⟨L, hL⟩ : ∃ L, redoN s.l lb ws i = L := ⟨_, rfl⟩
    rw [hL] at okL hll hsucc ⊢
    obtain ⟨v, hv⟩ : ∃ v, nth ws i = v := ⟨_, rfl⟩
    obtain ⟨hv1, hv2⟩ := okL.p _ (nth_mem hiw)
    rw [hv] at hv1 hv2 hsucc
    have hwl : (wc v).length = 65 := by rw [wc, List.length_cons, bc_len hv2]
    have hwo : (wc v).all Value.oneCell' = true := by rw [wc, List.all_cons, bc_cell]; rfl
    have eU : undoE x (L, ws) = [⟨x.p, Row 75 [.slice (some ⟨x.q, 0, none⟩) L.length x.cap, .slice none 0 0], true⟩, ⟨x.q, Sl.Own 32 64 L.length x.cap (bcs L).flatten, true⟩, ⟨r.1, Sl.Own 77 65 (wcs ws).length r.2 (wcs ws).flatten, true⟩] := by
      unfold undoE
      rw [hr]
      rfl
    have eU2 : undoE x (redoN s.l lb ws (i + 1), ws) = [⟨x.p, Row 75 [.slice (some ⟨x.q, 0, none⟩) L.length x.cap, .slice none 0 0], true⟩, ⟨x.q, Sl.Own 32 64 L.length x.cap ((bcs L).set v.1 (((bcs L).getD v.1 []).take 0 ++ (bc v.2).take (doneB (pick s.l i)) ++ ((bcs L).getD v.1 []).drop (0 + doneB (pick s.l i)))).flatten, true⟩, ⟨r.1, Sl.Own 77 65 (wcs ws).length r.2 (wcs ws).flatten, true⟩] := by
      rw [hsucc]
      unfold undoE
      rw [hr]
      dsimp only
      rw [part_len, bcs_at hv1]
      have e : bcs (Dsk.part L v (doneB (pick s.l i))) = (bcs L).set v.1 (List.take 0 (bc (old L v.1)) ++ (bc v.2).take (doneB (pick s.l i)) ++ (bc (old L v.1)).drop (0 + doneB (pick s.l i))) := by
        unfold Dsk.part
        rw [← bcs_set]
        simp [bc, List.map_take, List.map_drop]
      rw [e]
      rfl
    rw [eU, hr]
    repeat (first | refine JL.q (by first | (apply OQ.idxS (i := i); exact Try.underlying73; exact dwB; exact rfl; exact rfl; exact hi') | (apply OQ.move; exact rfl) | (apply OQ.assign; exact rfl) | (apply OQ.nilc; exact rfl) | (apply OQ.len; exact rfl; exact rfl) | (apply OQ.addN; exact rfl; exact rfl; exact (by (try simp only []); omega)) | (apply OQ.remN; exact rfl; exact rfl; exact (by (try simp only []); omega)) | (apply OQ.lssN; exact rfl; exact rfl) | (apply OQ.gtrN; exact rfl; exact rfl) | (apply OQ.idxS; exact rfl; exact rfl; exact rfl; exact rfl; exact (by (try simp only []); omega)) | (apply OQ.fld; exact rfl; exact rfl; exact rfl; exact (by decide); exact rfl)) rfl ?_ | refine JC.seq ?_ | refine JC.region ?_ | refine JC.block ?_ | refine JC.skip ?_ | refine JC.exit ?_ | refine JL.nil ?_ | refine JE.next ?_ | refine JE.blk_normal ?_ | refine JE.then_exit ?_ | refine JE.blk_hit ?_ | refine JE.blk_miss rfl ?_ | refine JE.then_ret ?_ | refine JE.blk_ret ?_ | refine JC.label ?_ | refine JL.gon rfl rfl ?_ | refine JL.gskip rfl rfl rfl rfl ?_ | refine JL.gskipU rfl rfl rfl rfl ?_)
    refine JL.q (v := .agg (wc v).toArray) (OQ.to (OQ.loadC (L := wcs ws) (i := i) dwAg dwB rfl (Nat.zero_add _) (.there (.there .here)) (wcs_len hok) (by rw [wcs_n]; exact hiw)) (by rw [wcs_at hiw, hv])) rfl ?_
    refine JL.alloc dwZ rfl fun b5 _ => ?_
    repeat (first | refine JL.q (by first | (apply OQ.move; exact rfl) | (apply OQ.assign; exact rfl) | (apply OQ.nilc; exact rfl) | (apply OQ.len; exact rfl; exact rfl) | (apply OQ.addN; exact rfl; exact rfl; exact (by (try simp only []); omega)) | (apply OQ.remN; exact rfl; exact rfl; exact (by (try simp only []); omega)) | (apply OQ.lssN; exact rfl; exact rfl) | (apply OQ.gtrN; exact rfl; exact rfl) | (apply OQ.idxS; exact rfl; exact rfl; exact rfl; exact rfl; exact (by (try simp only []); omega)) | (apply OQ.fld; exact rfl; exact rfl; exact rfl; exact (by decide); exact rfl)) rfl ?_ | refine JC.seq ?_ | refine JC.region ?_ | refine JC.block ?_ | refine JC.skip ?_ | refine JC.exit ?_ | refine JL.nil ?_ | refine JE.next ?_ | refine JE.blk_normal ?_ | refine JE.then_exit ?_ | refine JE.blk_hit ?_ | refine JE.blk_miss rfl ?_ | refine JE.then_ret ?_ | refine JE.blk_ret ?_ | refine JC.label ?_ | refine JL.gon rfl rfl ?_ | refine JL.gskip rfl rfl rfl rfl ?_ | refine JL.gskipU rfl rfl rfl rfl ?_)
    refine JL.store_all (cs := wc v) dwB rfl rfl hwl hwo .here rfl ?_
    repeat (first | refine JL.q (by first | (apply OQ.move; exact rfl) | (apply OQ.assign; exact rfl) | (apply OQ.nilc; exact rfl) | (apply OQ.len; exact rfl; exact rfl) | (apply OQ.addN; exact rfl; exact rfl; exact (by (try simp only []); omega)) | (apply OQ.remN; exact rfl; exact rfl; exact (by (try simp only []); omega)) | (apply OQ.lssN; exact rfl; exact rfl) | (apply OQ.gtrN; exact rfl; exact rfl) | (apply OQ.idxS; exact rfl; exact rfl; exact rfl; exact rfl; exact (by (try simp only []); omega)) | (apply OQ.fld; exact rfl; exact rfl; exact rfl; exact (by decide); exact rfl)) rfl ?_ | refine JC.seq ?_ | refine JC.region ?_ | refine JC.block ?_ | refine JC.skip ?_ | refine JC.exit ?_ | refine JL.nil ?_ | refine JE.next ?_ | refine JE.blk_normal ?_ | refine JE.then_exit ?_ | refine JE.blk_hit ?_ | refine JE.blk_miss rfl ?_ | refine JE.then_ret ?_ | refine JE.blk_ret ?_ | refine JC.label ?_ | refine JL.gon rfl rfl ?_ | refine JL.gskip rfl rfl rfl rfl ?_ | refine JL.gskipU rfl rfl rfl rfl ?_)
    refine JC.join (ι := Unit) (fun _ => [(6, U8 (pick s.l i)), (4, N i), (5, Pt b5 0), (0, Pt x.p 0), (1, s.v), (8, accV (some r) pd.length), (9, N pd.length), (10, N i)]) (fun _ => [⟨b5, Row 77 (wc v), true⟩, ⟨x.p, Row 75 [.slice (some ⟨x.q, 0, none⟩) L.length x.cap, .slice none 0 0], true⟩, ⟨x.q, Sl.Own 32 64 L.length x.cap (bcs L).flatten, true⟩, ⟨r.1, Sl.Own 77 65 (wcs ws).length r.2 (wcs ws).flatten, true⟩]) (fun _ => True) ?_ fun _ _ => ?_
    · by_cases h0 : s.l = []
      · have hp : pick s.l i = 0#8 := by unfold pick; rw [if_pos h0]; rfl
        rw [hp]
        refine JC.cond_false rfl (by rw [h0]; rfl) ?_
        repeat (first | refine JL.q (by first | (apply OQ.move; exact rfl) | (apply OQ.assign; exact rfl) | (apply OQ.nilc; exact rfl) | (apply OQ.len; exact rfl; exact rfl) | (apply OQ.addN; exact rfl; exact rfl; exact (by (try simp only []); omega)) | (apply OQ.remN; exact rfl; exact rfl; exact (by (try simp only []); omega)) | (apply OQ.lssN; exact rfl; exact rfl) | (apply OQ.gtrN; exact rfl; exact rfl) | (apply OQ.idxS; exact rfl; exact rfl; exact rfl; exact rfl; exact (by (try simp only []); omega)) | (apply OQ.fld; exact rfl; exact rfl; exact rfl; exact (by decide); exact rfl)) rfl ?_ | refine JC.seq ?_ | refine JC.region ?_ | refine JC.block ?_ | refine JC.skip ?_ | refine JC.exit ?_ | refine JL.nil ?_ | refine JE.next ?_ | refine JE.blk_normal ?_ | refine JE.then_exit ?_ | refine JE.blk_hit ?_ | refine JE.blk_miss rfl ?_ | refine JE.then_ret ?_ | refine JE.blk_ret ?_ | refine JC.label ?_ | refine JL.gon rfl rfl ?_ | refine JL.gskip rfl rfl rfl rfl ?_ | refine JL.gskipU rfl rfl rfl rfl ?_)
        exact JE.mid () trivial (by repeat (first | exact SubE.nil | refine SubE.cons _ _ _ rfl ?_)) (Less.refl _)
      · have hpos : 0 < s.l.length := List.length_pos_iff.2 h0
        have hp : pick s.l i = s.l.getD (i % s.l.length) 0 := by unfold pick; rw [if_neg h0]
        obtain ⟨bs, js, hae, hca⟩ := hs.reads.at (by simpa using hpos)
        have him : i % s.l.length < s.l.length := Nat.mod_lt _ hpos
        have hca := hca (i % s.l.length) _ (map_at U8 0 him)
        have hbs : bs ∉ S := hap h0 _ hae
        rw [hp]
        have hsv : s.v = .slice (some ⟨bs, js, none⟩) s.l.length s.cap := by rw [← hae]; rfl
        rw [hsv]
        refine JC.cond_true rfl (decide_eq_true hpos) ?_
        repeat (first | refine JL.q (by first | (apply OQ.len (k := s.l.length); exact Try.underlying33; exact rfl) | (apply OQ.remN (a := i) (b := s.l.length); exact rfl; exact rfl; exact hpos) | (apply OQ.idxS1; exact Try.underlying33; exact u8s; exact rfl; exact rfl; exact him) | (apply OQ.load_old; exact u8c; exact rfl; exact (block_lt_of_cell hca); exact hbs; exact hca) | (apply OQ.move; exact rfl) | (apply OQ.assign; exact rfl) | (apply OQ.nilc; exact rfl) | (apply OQ.len; exact rfl; exact rfl) | (apply OQ.addN; exact rfl; exact rfl; exact (by (try simp only []); omega)) | (apply OQ.remN; exact rfl; exact rfl; exact (by (try simp only []); omega)) | (apply OQ.lssN; exact rfl; exact rfl) | (apply OQ.gtrN; exact rfl; exact rfl) | (apply OQ.idxS; exact rfl; exact rfl; exact rfl; exact rfl; exact (by (try simp only []); omega)) | (apply OQ.fld; exact rfl; exact rfl; exact rfl; exact (by decide); exact rfl)) rfl ?_ | refine JC.seq ?_ | refine JC.region ?_ | refine JC.block ?_ | refine JC.skip ?_ | refine JC.exit ?_ | refine JL.nil ?_ | refine JE.next ?_ | refine JE.blk_normal ?_ | refine JE.then_exit ?_ | refine JE.blk_hit ?_ | refine JE.blk_miss rfl ?_ | refine JE.then_ret ?_ | refine JE.blk_ret ?_ | refine JC.label ?_ | refine JL.gon rfl rfl ?_ | refine JL.gskip rfl rfl rfl rfl ?_ | refine JL.gskipU rfl rfl rfl rfl ?_)
        exact JE.mid () trivial (by repeat (first | exact SubE.nil | refine SubE.cons _ _ _ rfl ?_)) (Less.refl _)
    have hdl := doneB_le (pick s.l i)
    have cd := fun w' => done_any (pick s.l i) w'
    generalize doneB (pick s.l i) = d at hdl cd eU2
    generalize pick s.l i = pk at cd
    repeat (first | refine JL.q (by first | (apply OQ.move; exact rfl) | (apply OQ.assign; exact rfl) | (apply OQ.nilc; exact rfl) | (apply OQ.len; exact rfl; exact rfl) | (apply OQ.addN; exact rfl; exact rfl; exact (by (try simp only []); omega)) | (apply OQ.remN; exact rfl; exact rfl; exact (by (try simp only []); omega)) | (apply OQ.lssN; exact rfl; exact rfl) | (apply OQ.gtrN; exact rfl; exact rfl) | (apply OQ.idxS; exact rfl; exact rfl; exact rfl; exact rfl; exact (by (try simp only []); omega)) | (apply OQ.fld; exact rfl; exact rfl; exact rfl; exact (by decide); exact rfl)) rfl ?_ | refine JC.seq ?_ | refine JC.region ?_ | refine JC.block ?_ | refine JC.skip ?_ | refine JC.exit ?_ | refine JL.nil ?_ | refine JE.next ?_ | refine JE.blk_normal ?_ | refine JE.then_exit ?_ | refine JE.blk_hit ?_ | refine JE.blk_miss rfl ?_ | refine JE.then_ret ?_ | refine JE.blk_ret ?_ | refine JC.label ?_ | refine JL.gon rfl rfl ?_ | refine JL.gskip rfl rfl rfl rfl ?_ | refine JL.gskipU rfl rfl rfl rfl ?_)
    refine JC.tail 12 mixT (by kernel_rfl) ?_
    simp only [List.take_succ_cons, List.take_zero, List.drop_succ_cons, List.drop_zero]
    repeat (first | refine JL.q (by first | (apply OQ.load; exact bsC; exact rfl; exact (.there .here); exact (Row.cell (v := .slice (some ⟨x.q, 0, none⟩) L.length x.cap) rfl)) | (apply OQ.load; exact intC; exact rfl; exact .here; exact (Row.cell (v := N v.1) rfl)) | (apply OQ.idxS (i := v.1); exact Try.underlying41; exact dkB; exact rfl; exact rfl; exact hv1) | (apply OQ.callx (vs := [U8 pk]); exact goes_done; exact rfl; exact (fun w' _ => cd w')) | (apply OQ.slA_hi; exact Try.underlying32; exact u8s; exact rfl; exact rfl; exact hdl) | (apply OQ.slA; exact Try.underlying32; exact u8s; exact rfl) | (apply OQ.move; exact rfl) | (apply OQ.assign; exact rfl) | (apply OQ.nilc; exact rfl) | (apply OQ.len; exact rfl; exact rfl) | (apply OQ.addN; exact rfl; exact rfl; exact (by (try simp only []); omega)) | (apply OQ.remN; exact rfl; exact rfl; exact (by (try simp only []); omega)) | (apply OQ.lssN; exact rfl; exact rfl) | (apply OQ.gtrN; exact rfl; exact rfl) | (apply OQ.idxS; exact rfl; exact rfl; exact rfl; exact rfl; exact (by (try simp only []); omega)) | (apply OQ.fld; exact rfl; exact rfl; exact rfl; exact (by decide); exact rfl)) rfl ?_ | refine JQ.q (by first | (apply OQ.load; exact bsC; exact rfl; exact (.there .here); exact (Row.cell (v := .slice (some ⟨x.q, 0, none⟩) L.length x.cap) rfl)) | (apply OQ.load; exact intC; exact rfl; exact .here; exact (Row.cell (v := N v.1) rfl)) | (apply OQ.idxS (i := v.1); exact Try.underlying41; exact dkB; exact rfl; exact rfl; exact hv1) | (apply OQ.callx (vs := [U8 pk]); exact goes_done; exact rfl; exact (fun w' _ => cd w')) | (apply OQ.slA_hi; exact Try.underlying32; exact u8s; exact rfl; exact rfl; exact hdl) | (apply OQ.slA; exact Try.underlying32; exact u8s; exact rfl) | (apply OQ.move; exact rfl) | (apply OQ.assign; exact rfl) | (apply OQ.nilc; exact rfl) | (apply OQ.len; exact rfl; exact rfl) | (apply OQ.addN; exact rfl; exact rfl; exact (by (try simp only []); omega)) | (apply OQ.remN; exact rfl; exact rfl; exact (by (try simp only []); omega)) | (apply OQ.lssN; exact rfl; exact rfl) | (apply OQ.gtrN; exact rfl; exact rfl) | (apply OQ.idxS; exact rfl; exact rfl; exact rfl; exact rfl; exact (by (try simp only []); omega)) | (apply OQ.fld; exact rfl; exact rfl; exact rfl; exact (by decide); exact rfl)) rfl ?_ | refine JC.seq ?_ | refine JC.region ?_ | refine JC.block ?_ | refine JC.skip ?_ | refine JC.exit ?_ | refine JL.nil ?_ | refine JQ.nil ?_ | refine JQ.nil_tail ?_ | refine JE.next ?_ | refine JE.blk_normal ?_ | refine JE.then_exit ?_ | refine JE.blk_hit ?_ | refine JE.blk_miss rfl ?_ | refine JE.then_ret ?_ | refine JE.blk_ret ?_ | refine JC.label ?_ | refine JL.gon rfl rfl ?_ | refine JQ.gon rfl rfl ?_ | refine JL.gskip rfl rfl rfl rfl ?_ | refine JQ.gskip rfl rfl rfl rfl ?_ | refine JL.gskipU rfl rfl rfl rfl ?_ | refine JQ.gskipU rfl rfl rfl rfl ?_)
    refine JL.copyO (m := d) (sz := 1) (cs := (bc v.2).take d) (j := 0 + v.1 * 64) (A := Sl.Own 32 64 L.length x.cap (bcs L).flatten) (A' := Sl.Own 32 64 L.length x.cap ((bcs L).set v.1 (((bcs L).getD v.1 []).take 0 ++ (bc v.2).take d ++ ((bcs L).getD v.1 []).drop (0 + d))).flatten) Try.underlying33 u8s rfl rfl (.there (.there .here)) (Nat.min_eq_right hdl) (by rw [List.length_take, bc_len hv2]; omega) (fun w' hw' => ?_) (fun c hc => List.all_eq_true.1 (bc_cell v.2) c (List.mem_of_mem_take hc)) (fun o ho => ?_) rfl ?_
    · obtain ⟨o, ho, hA⟩ := hw'.get (b := b5) (A := Row 77 (wc v)) (wr := true) .here
      exact (Reads.block ho (Row.cells (wc_tail v) o hA)).take d
    · have hle : v.1 * 64 + 64 ≤ (bcs L).flatten.length := by rw [chunk_len (bcs_len okL), bcs_n, ← Nat.succ_mul]; exact Nat.mul_le_mul_right _ hv1
      have hcp := chunk_part (c := (bc v.2).take d) (off := 0) (sz' := d) (i := v.1) (bcs_len okL) (by rw [bcs_n]; exact hv1) (by omega)
      rw [Nat.add_zero] at hcp
      obtain ⟨sp, rfl, q1, q2, q3⟩ := ho
      have hxl : ((bcs L).flatten.take (v.1 * 64) ++ (bc v.2).take d ++ (bcs L).flatten.drop (v.1 * 64 + d)).length = (bcs L).flatten.length := by
        have : ((bc v.2).take d).length = d := by rw [List.length_take, bc_len hv2]; omega
        simp only [List.length_append, List.length_take, List.length_drop, this]
        omega
      refine ⟨_, _, rfl, by rw [List.length_append]; omega, sp, ?_, ?_, ?_, q3⟩
      · rw [← hcp, Nat.zero_add, Nat.mul_one, List.take_append_of_le_length (by omega), List.drop_append_of_le_length (by omega)]
        simp
      · rw [← hcp, List.length_append, hxl, ← List.length_append]
        exact q1
      · rw [← hcp, hxl]
        exact q2
    repeat (first | refine JL.q (by first | (apply OQ.move; exact rfl) | (apply OQ.assign; exact rfl) | (apply OQ.nilc; exact rfl) | (apply OQ.len; exact rfl; exact rfl) | (apply OQ.addN; exact rfl; exact rfl; exact (by (try simp only []); omega)) | (apply OQ.remN; exact rfl; exact rfl; exact (by (try simp only []); omega)) | (apply OQ.lssN; exact rfl; exact rfl) | (apply OQ.gtrN; exact rfl; exact rfl) | (apply OQ.idxS; exact rfl; exact rfl; exact rfl; exact rfl; exact (by (try simp only []); omega)) | (apply OQ.fld; exact rfl; exact rfl; exact rfl; exact (by decide); exact rfl)) rfl ?_ | refine JQ.q (by first | (apply OQ.move; exact rfl) | (apply OQ.assign; exact rfl) | (apply OQ.nilc; exact rfl) | (apply OQ.len; exact rfl; exact rfl) | (apply OQ.addN; exact rfl; exact rfl; exact (by (try simp only []); omega)) | (apply OQ.remN; exact rfl; exact rfl; exact (by (try simp only []); omega)) | (apply OQ.lssN; exact rfl; exact rfl) | (apply OQ.gtrN; exact rfl; exact rfl) | (apply OQ.idxS; exact rfl; exact rfl; exact rfl; exact rfl; exact (by (try simp only []); omega)) | (apply OQ.fld; exact rfl; exact rfl; exact rfl; exact (by decide); exact rfl)) rfl ?_ | refine JC.seq ?_ | refine JC.region ?_ | refine JC.block ?_ | refine JC.skip ?_ | refine JC.exit ?_ | refine JL.nil ?_ | refine JQ.nil ?_ | refine JQ.nil_tail ?_ | refine JE.next ?_ | refine JE.blk_normal ?_ | refine JE.then_exit ?_ | refine JE.blk_hit ?_ | refine JE.blk_miss rfl ?_ | refine JE.then_ret ?_ | refine JE.blk_ret ?_ | refine JC.label ?_ | refine JL.gon rfl rfl ?_ | refine JQ.gon rfl rfl ?_ | refine JL.gskip rfl rfl rfl rfl ?_ | refine JQ.gskip rfl rfl rfl rfl ?_ | refine JL.gskipU rfl rfl rfl rfl ?_ | refine JQ.gskipU rfl rfl rfl rfl ?_)
    refine JE.again (i := i) (i + 1) hi' (by omega) ?_ ?_
    · exact (by repeat (first | exact SubE.nil | refine SubE.cons _ _ _ rfl ?_))
    · rw [eU2]
      exact .drop _ _ _ (Less.refl _)
  · have hi' : i = pd.length := by have := of_decide_eq_false h2; omega
    subst hi'
    repeat (first | refine JL.q (by first | (apply OQ.move; exact rfl) | (apply OQ.assign; exact rfl) | (apply OQ.nilc; exact rfl) | (apply OQ.len; exact rfl; exact rfl) | (apply OQ.addN; exact rfl; exact rfl; exact (by (try simp only []); omega)) | (apply OQ.remN; exact rfl; exact rfl; exact (by (try simp only []); omega)) | (apply OQ.lssN; exact rfl; exact rfl) | (apply OQ.gtrN; exact rfl; exact rfl) | (apply OQ.idxS; exact rfl; exact rfl; exact rfl; exact rfl; exact (by (try simp only []); omega)) | (apply OQ.fld; exact rfl; exact rfl; exact rfl; exact (by decide); exact rfl)) rfl ?_ | refine JQ.q (by first | (apply OQ.move; exact rfl) | (apply OQ.assign; exact rfl) | (apply OQ.nilc; exact rfl) | (apply OQ.len; exact rfl; exact rfl) | (apply OQ.addN; exact rfl; exact rfl; exact (by (try simp only []); omega)) | (apply OQ.remN; exact rfl; exact rfl; exact (by (try simp only []); omega)) | (apply OQ.lssN; exact rfl; exact rfl) | (apply OQ.gtrN; exact rfl; exact rfl) | (apply OQ.idxS; exact rfl; exact rfl; exact rfl; exact rfl; exact (by (try simp only []); omega)) | (apply OQ.fld; exact rfl; exact rfl; exact rfl; exact (by decide); exact rfl)) rfl ?_ | refine JC.seq ?_ | refine JC.region ?_ | refine JC.block ?_ | refine JC.skip ?_ | refine JC.exit ?_ | refine JL.nil ?_ | refine JQ.nil ?_ | refine JQ.nil_tail ?_ | refine JE.next ?_ | refine JE.blk_normal ?_ | refine JE.then_exit ?_ | refine JE.blk_hit ?_ | refine JE.blk_miss rfl ?_ | refine JE.then_ret ?_ | refine JE.blk_ret ?_ | refine JC.label ?_ | refine JL.gon rfl rfl ?_ | refine JQ.gon rfl rfl ?_ | refine JL.gskip rfl rfl rfl rfl ?_ | refine JQ.gskip rfl rfl rfl rfl ?_ | refine JL.gskipU rfl rfl rfl rfl ?_ | refine JQ.gskipU rfl rfl rfl rfl ?_)
    refine JE.end0 rfl fun w' hw' => ⟨rfl, hw'.weak ?_⟩
    rw [hcr, hul.2]
    exact .keep _ _ _ _ _ _ (fun _ h => h) (.keep _ _ _ _ _ _ (fun _ h => h) (.nil _))
end Go.Proofs.Ytopdkpeahhnihaa

/-
  Of no statement by itself: rules for calls of the landed disk's functions; slices.Clone of blocks, Twin.
  Conditions: each theorem's own.
-/
namespace Go.Proofs.Ytopdkpeahhnihaa
set_option maxRecDepth 10000
open Sl Dsk
section
variable {P : Program} {n : Nat} {w0 : World} {S : List Nat} {ops : Array Oper} {Q : Exit → Act → World → Prop} {l : List Oper} {E : Env} {M : List Ent} {C : World → Prop}
variable {dst : Option Tmp} {d : Nat} {t t' e ty : TypeId} {pos : String} {aft : Array Edge} {g : Option (Nat × Bool)} {x y : Operand}
/-- a call that writes what came in, told of the world that it is called in -/
theorem JL.callV {ι : Type} {X M0 : List Ent} (vf : ι → Value) (Yf : ι → List Ent) {f : FuncId} {xs : List Operand} {ats : Array TypeId} {vs : List Value} (hg : Goes P f) (hx : evs E xs = some vs) (hd : Nat.blt d n = true) (hX : ∀ e ∈ X, e.wr = true) (hY : ∀ i, ∀ e ∈ Yf i, e.wr = true)
    (hc : ∀ w, Holds w0 S (X ++ M0) w → Holds w (keys X) X w → Calls P f vs.toArray w fun e w' => ∃ i, e = .returned (vf i) ∧ Holds w (keys X) (Yf i) w')
    (k : ∀ i, JL P n w0 S ops Q l ((d, vf i) :: E) (Yf i ++ M0)) : JL P n w0 S ops Q (⟨some d, .call ⟨.value (.func f), xs.toArray, ats⟩, ty, pos, aft, none⟩ :: l) E (X ++ M0) :=
  JL.call (ι := ι) vf (fun i => Yf i ++ M0) hg hx hd (fun w hw => (hc w hw (hw.own.weak (less_pre _ _))).mono fun _ _ ⟨i, h1, h2⟩ => ⟨i, h1, hw.swapW h2 hX (hY i)⟩) k
theorem OQ.isNilD {ad : Option Addr} {k cap : Nat} (hu : P.underlying t = some (.slice e)) (hx : ev E x = some (.slice ad k cap)) (hy : ev E y = some (.slice none 0 0)) :
    OQ P n E C ⟨dst, .binOp .eql t x y t', ty, pos, aft, g⟩ (.bool ad.isNone) :=
  OQ.run fun c ha w _ => by
    have h1 := ha.eval hx
    have h2 := ha.eval hy
    have h4 : (binOp .eql t (.slice ad k cap) (.slice none 0 0)).run P w = .ok (.bool ad.isNone) w := by
      show (do pure (.bool (← Op.equal t (.slice ad k cap) (.slice none 0 0))) : Sem Value).run P w = _
      simp [Sem.run_bind, run_equal_slice_nil w t e ad k cap hu]
    simp [execOp, h1, h2, eqGuard, h4]
theorem OQ.ptrNil {a : Option Addr} (hu : P.underlying t = some (.pointer e)) (hx : ev E x = some (.pointer a)) (hy : ev E y = some (.pointer none)) :
    OQ P n E C ⟨dst, .binOp .eql t x y t', ty, pos, aft, g⟩ (.bool a.isNone) :=
  OQ.run fun c ha w _ => by
    have h1 := ha.eval hx
    have h2 := ha.eval hy
    have h3 : ∀ w, (underlying t).run P w = .ok (.pointer e) w := run_underlying hu
    have h4 : (binOp .eql t (.pointer a) (.pointer none)).run P w = .ok (.bool a.isNone) w := by
      show (do pure (.bool (← Op.equalIn (9999 + 1) t (.pointer a) (.pointer none))) : Sem Value).run P w = _
      unfold Op.equalIn
      cases a <;> simp [Sem.run_bind, h3]
    simp [execOp, h1, h2, eqGuard, h4]
theorem OQ.idxSk {k : IntKind} {len cap b j i sz : Nat} (hu : P.underlying t = some (.slice e)) (hz : szT P e = some sz) (hx : ev E x = some (.slice (some ⟨b, j, none⟩) len cap)) (hy : ev E y = some (.int k (i : Int))) (hi : i < len) :
    OQ P n E C ⟨dst, .indexAddr t x y, ty, pos, aft, g⟩ (.pointer (some ⟨b, j + i * sz, none⟩)) :=
  OQ.run fun a ha w _ => by
    have h1 := ha.eval hx
    have h2 := ha.eval hy
    have h3 : (underlying t).run P w = .ok (.slice e) w := run_underlying hu w
    simp [execOp, h1, h2, Instr.indexAt, asIntOf, Sem.run_bind, h3, hi, sizeOf_run hz, add_off]
end
theorem gdBlk : Try.prog.eqGuardType Try.prog.depth 32 = false := by kernel_rfl
theorem away_old {w0 w : World} {X M : List Ent} {s : Sl8} (hw : Holds w0 [] (X ++ M) w) (hX : ∀ e ∈ X, e.wr = true) (hs : s.ok w0) : Away s (keys X) := by
  intro h0 a ha hm
  obtain ⟨e, he, hb⟩ := List.mem_map.1 hm
  have h1 := hs.lt h0 a ha
  rcases (hw.all e (List.mem_append_left _ he)).2 (hX e he) with h | h
  · cases h
  · omega
theorem away_has {w0 w : World} {S : List Nat} {X M : List Ent} {b : Nat} {A : Obj → Prop} {wr : Bool} (hw : Holds w0 S (X ++ M) w) (hM : Has M b A wr) : b ∉ keys X := by
  have hn := hw.nodup
  rw [List.map_append, List.nodup_append] at hn
  intro hm
  exact hn.2.2 b hm b (List.mem_map_of_mem (f := Ent.b) hM.mem) rfl
theorem DkOk.write {x : Dp} {bl : List Bk} {pd : List (Nat × Bk)} (h : DkOk x bl pd) {n : Nat} {b : Bk} (hn : n < bl.length) (hb : b.length = 64) (hm : pd.length + 1 ≤ 1000000) (y : Nat × Nat) : DkOk ⟨x.p, x.q, x.cap, some y⟩ (bl.set n b) (wrote bl pd n) where
  ok := h.ok.write hn hb
  n0 := by rw [List.length_set]; exact h.n0
  n1 := by rw [List.length_set]; exact h.n1
  m := by rw [wrote, List.length_append]; exact hm
  a := nofun
theorem DkOk.sync {x : Dp} {bl : List Bk} {pd : List (Nat × Bk)} (h : DkOk x bl pd) : DkOk ⟨x.p, x.q, x.cap, none⟩ bl [] := ⟨h.ok.sync, h.n0, h.n1, by simp, fun _ => rfl⟩
theorem DkOk.crash {x : Dp} {bl : List Bk} {pd : List (Nat × Bk)} (h : DkOk x bl pd) (ps : List Bt) : DkOk ⟨x.p, x.q, x.cap, none⟩ (crash ps bl pd) [] := ⟨h.ok.crash, by rw [crash_len]; exact h.n0, by rw [crash_len]; exact h.n1, by simp, fun _ => rfl⟩
theorem DkOk.new {x : Dp} {n : Nat} (h1 : 1 ≤ n) (h2 : n ≤ 65536) : DkOk x (newB n) [] := ⟨Ok.new n, by rw [newB, List.length_replicate]; exact h1, by rw [newB, List.length_replicate]; exact h2, by simp, fun _ => rfl⟩
section
variable {n : Nat} {w0 : World} {S : List Nat} {ops : Array Oper} {Q : Exit → Act → World → Prop} {l : List Oper} {E : Env} {M : List Ent}
variable {d : Nat} {ty : TypeId} {pos : String} {aft : Array Edge} {x1 x2 x3 : Operand} {ats : Array TypeId} {x : Dp} {bl : List Bk} {pd : List (Nat × Bk)}
theorem JL.dnew {k : Nat} (h1 : 1 ≤ k) (h2 : k ≤ 65536) (e1 : ev E x1 = some (N k)) (hd : Nat.blt d n = true)
    (kk : ∀ x : Dp, DkOk x (newB k) [] → JL Try.prog n w0 S ops Q l ((d, .tuple #[Pt x.p 0, N 0]) :: E) (dkE x (newB k) [] ++ M)) : JL Try.prog n w0 S ops Q (⟨some d, .call ⟨.value (.func 10), #[x1], ats⟩, ty, pos, aft, none⟩ :: l) E M :=
  JL.callg (ι := { x : Dp // DkOk x (newB k) [] }) (xs := [x1]) (vs := [N k]) (fun x => .tuple #[Pt x.1.p 0, N 0]) (fun x => dkE x.1 (newB k) []) goes_dnew (by simp [evs, e1]) hd (fun x => dkE_wr _ _ _)
    (fun w _ => (dnew_ok k h1 h2 w).mono fun e w' ⟨x, g1, _, g3⟩ => ⟨⟨x, DkOk.new h1 h2⟩, g1, g3⟩) fun x => kk x.1 x.2
theorem JL.dwrite {k : Nat} {b : Bk} (h : DkOk x bl pd) (hn : k < bl.length) (hb : b.length = 64) (e1 : ev E x1 = some (Pt x.p 0)) (e2 : ev E x2 = some (N k)) (e3 : ev E x3 = some (.agg (bc b).toArray)) (hd : Nat.blt d n = true)
    (kk : ∀ y, JL Try.prog n w0 S ops Q l ((d, N 0) :: E) (dkE ⟨x.p, x.q, x.cap, some y⟩ (bl.set k b) (wrote bl pd k) ++ M)) : JL Try.prog n w0 S ops Q (⟨some d, .call ⟨.value (.func 13), #[x1, x2, x3], ats⟩, ty, pos, aft, none⟩ :: l) E (dkE x bl pd ++ M) :=
  JL.callV (ι := Nat × Nat) (xs := [x1, x2, x3]) (vs := [Pt x.p 0, N k, .agg (bc b).toArray]) (fun _ => N 0) (fun y => dkE ⟨x.p, x.q, x.cap, some y⟩ (bl.set k b) (wrote bl pd k)) goes_dwrite (by simp [evs, e1, e2, e3]) hd (dkE_wr _ _ _) (fun _ => dkE_wr _ _ _)
    (fun w _ hw => dwrite_ok x bl pd k b hn hb h w hw) kk
theorem JL.dsync (e1 : ev E x1 = some (Pt x.p 0)) (hd : Nat.blt d n = true)
    (kk : JL Try.prog n w0 S ops Q l ((d, .tuple #[]) :: E) (dkE ⟨x.p, x.q, x.cap, none⟩ bl [] ++ M)) : JL Try.prog n w0 S ops Q (⟨some d, .call ⟨.value (.func 15), #[x1], ats⟩, ty, pos, aft, none⟩ :: l) E (dkE x bl pd ++ M) :=
  JL.callV (ι := Unit) (xs := [x1]) (vs := [Pt x.p 0]) (fun _ => .tuple #[]) (fun _ => dkE ⟨x.p, x.q, x.cap, none⟩ bl []) goes_dsync (by simp [evs, e1]) hd (dkE_wr _ _ _) (fun _ => dkE_wr _ _ _)
    (fun w _ hw => (dsync_any x bl pd w hw).mono fun e w' ⟨g1, g2⟩ => ⟨(), g1, g2⟩) fun _ => kk
theorem JL.dcrash {s : Sl8} (h : DkOk x bl pd) (hl : s.l.length ≤ 1000000) (hs : ∀ w, Holds w0 S (dkE x bl pd ++ M) w → s.ok w ∧ Away s (keys (dkE x bl pd))) (e1 : ev E x1 = some (Pt x.p 0)) (e2 : ev E x2 = some s.v) (hd : Nat.blt d n = true)
    (kk : JL Try.prog n w0 S ops Q l ((d, .tuple #[]) :: E) (dkE ⟨x.p, x.q, x.cap, none⟩ (crash s.l bl pd) [] ++ M)) : JL Try.prog n w0 S ops Q (⟨some d, .call ⟨.value (.func 17), #[x1, x2], ats⟩, ty, pos, aft, none⟩ :: l) E (dkE x bl pd ++ M) :=
  JL.callV (ι := Unit) (xs := [x1, x2]) (vs := [Pt x.p 0, s.v]) (fun _ => .tuple #[]) (fun _ => dkE ⟨x.p, x.q, x.cap, none⟩ (crash s.l bl pd) []) goes_crash (by simp [evs, e1, e2]) hd (dkE_wr _ _ _) (fun _ => dkE_wr _ _ _)
    (fun w h0 hw => (crash_any x bl pd s h w (hs w h0).1 hl (hs w h0).2 hw).mono fun e w' ⟨g1, g2⟩ => ⟨(), g1, g2⟩) fun _ => kk
end
theorem goes_clone : Goes Try.prog 40 := ⟨_, Try.func40, rfl, by kernel_rfl⟩
theorem all_cells {L : List (List Value)} (h : ∀ c ∈ L, c.all Value.oneCell' = true) : ∀ v ∈ L.flatten, v.oneCell' = true := by
  intro v hv
  obtain ⟨c, hc, hv⟩ := List.mem_flatten.1 hv
  exact List.all_eq_true.1 (h c hc) v hv
theorem bcs_cell (bl : List Bk) : ∀ v ∈ (bcs bl).flatten, v.oneCell' = true := all_cells fun c hc => by
  obtain ⟨b, _, rfl⟩ := List.mem_map.1 hc
  exact bc_cell b
set_option maxHeartbeats 4000000 in
theorem dclone_any (ad : Addr) (cap : Nat) (bl : List Bk) (hb : ∀ x ∈ bl, x.length = 64) (h1 : bl.length ≤ 65536) (w : World) (hr : Reads w (some ad) (bcs bl).flatten) : Calls Try.prog 40 [.slice (some ad) bl.length cap].toArray w fun e w' => ∃ y : Nat × Nat, e = .returned (.slice (some ⟨y.1, 0, none⟩) bl.length y.2) ∧ Holds w [] [⟨y.1, Sl.Own 32 64 bl.length y.2 (bcs bl).flatten, true⟩] w' := by
  refine enter (n := 8) Try.func40 rfl rfl rfl (Holds.start w []) ?_
  have hlen : (bcs bl).flatten.length = bl.length * 64 := by rw [chunk_len (bcs_len (pd := []) ⟨hb, by simp⟩), bcs_n]
  repeat (first | refine JL.q (by first | (apply OQ.isNilD; exact Try.underlying41; exact rfl; exact rfl) | (apply OQ.move; exact rfl) | (apply OQ.assign; exact rfl) | (apply OQ.nilc; exact rfl) | (apply OQ.len; exact rfl; exact rfl) | (apply OQ.addN; exact rfl; exact rfl; exact (by (try simp only []); omega)) | (apply OQ.remN; exact rfl; exact rfl; exact (by (try simp only []); omega)) | (apply OQ.lssN; exact rfl; exact rfl) | (apply OQ.gtrN; exact rfl; exact rfl) | (apply OQ.idxS; exact rfl; exact rfl; exact rfl; exact rfl; exact (by (try simp only []); omega)) | (apply OQ.fld; exact rfl; exact rfl; exact rfl; exact (by decide); exact rfl)) rfl ?_ | refine JC.seq ?_ | refine JC.region ?_ | refine JC.block ?_ | refine JC.skip ?_ | refine JC.exit ?_ | refine JL.nil ?_ | refine JE.next ?_ | refine JE.blk_normal ?_ | refine JE.then_exit ?_ | refine JE.blk_hit ?_ | refine JE.blk_miss rfl ?_ | refine JE.then_ret ?_ | refine JE.blk_ret ?_ | refine JC.label ?_ | refine JL.gon rfl rfl ?_ | refine JL.gskip rfl rfl rfl rfl ?_ | refine JL.gskipU rfl rfl rfl rfl ?_)
  refine JC.cond_false rfl rfl ?_
  repeat (first | refine JL.q (by first | (apply OQ.move; exact rfl) | (apply OQ.assign; exact rfl) | (apply OQ.nilc; exact rfl) | (apply OQ.len; exact rfl; exact rfl) | (apply OQ.addN; exact rfl; exact rfl; exact (by (try simp only []); omega)) | (apply OQ.remN; exact rfl; exact rfl; exact (by (try simp only []); omega)) | (apply OQ.lssN; exact rfl; exact rfl) | (apply OQ.gtrN; exact rfl; exact rfl) | (apply OQ.idxS; exact rfl; exact rfl; exact rfl; exact rfl; exact (by (try simp only []); omega)) | (apply OQ.fld; exact rfl; exact rfl; exact rfl; exact (by decide); exact rfl)) rfl ?_ | refine JC.seq ?_ | refine JC.region ?_ | refine JC.block ?_ | refine JC.skip ?_ | refine JC.exit ?_ | refine JL.nil ?_ | refine JE.next ?_ | refine JE.blk_normal ?_ | refine JE.then_exit ?_ | refine JE.blk_hit ?_ | refine JE.blk_miss rfl ?_ | refine JE.then_ret ?_ | refine JE.blk_ret ?_ | refine JC.label ?_ | refine JL.gon rfl rfl ?_ | refine JL.gskip rfl rfl rfl rfl ?_ | refine JL.gskipU rfl rfl rfl rfl ?_)
  refine JL.litZ Try.underlying41 dkI rfl fun b0 _ => ?_
  repeat (first | refine JL.q (by first | (apply OQ.move; exact rfl) | (apply OQ.assign; exact rfl) | (apply OQ.nilc; exact rfl) | (apply OQ.len; exact rfl; exact rfl) | (apply OQ.addN; exact rfl; exact rfl; exact (by (try simp only []); omega)) | (apply OQ.remN; exact rfl; exact rfl; exact (by (try simp only []); omega)) | (apply OQ.lssN; exact rfl; exact rfl) | (apply OQ.gtrN; exact rfl; exact rfl) | (apply OQ.idxS; exact rfl; exact rfl; exact rfl; exact rfl; exact (by (try simp only []); omega)) | (apply OQ.fld; exact rfl; exact rfl; exact rfl; exact (by decide); exact rfl)) rfl ?_ | refine JC.seq ?_ | refine JC.region ?_ | refine JC.block ?_ | refine JC.skip ?_ | refine JC.exit ?_ | refine JL.nil ?_ | refine JE.next ?_ | refine JE.blk_normal ?_ | refine JE.then_exit ?_ | refine JE.blk_hit ?_ | refine JE.blk_miss rfl ?_ | refine JE.then_ret ?_ | refine JE.blk_ret ?_ | refine JC.label ?_ | refine JL.gon rfl rfl ?_ | refine JL.gskip rfl rfl rfl rfl ?_ | refine JL.gskipU rfl rfl rfl rfl ?_)
  refine JL.append (cs := (bcs bl).flatten) (m := bl.length) (ad := some ad) (sc := cap) (xs := []) (fun b' cap' => [⟨b', Sl.Own 32 64 (0 + bl.length) cap' ([] ++ (bcs bl).flatten), true⟩]) Try.underlying41 dkI rfl rfl (by intro _ _; repeat (first | exact Repl.here | apply Repl.there)) hlen (fun w' hw' => hw'.reads hr (fun _ _ _ => by simp)) (bcs_cell bl) rfl (by decide) (by omega) (by omega) rfl fun b2 cap2 => ?_
  rw [Nat.zero_add, List.nil_append]
  repeat (first | refine JL.q (by first | (apply OQ.move; exact rfl) | (apply OQ.assign; exact rfl) | (apply OQ.nilc; exact rfl) | (apply OQ.len; exact rfl; exact rfl) | (apply OQ.addN; exact rfl; exact rfl; exact (by (try simp only []); omega)) | (apply OQ.remN; exact rfl; exact rfl; exact (by (try simp only []); omega)) | (apply OQ.lssN; exact rfl; exact rfl) | (apply OQ.gtrN; exact rfl; exact rfl) | (apply OQ.idxS; exact rfl; exact rfl; exact rfl; exact rfl; exact (by (try simp only []); omega)) | (apply OQ.fld; exact rfl; exact rfl; exact rfl; exact (by decide); exact rfl)) rfl ?_ | refine JC.seq ?_ | refine JC.region ?_ | refine JC.block ?_ | refine JC.skip ?_ | refine JC.exit ?_ | refine JL.nil ?_ | refine JE.next ?_ | refine JE.blk_normal ?_ | refine JE.then_exit ?_ | refine JE.blk_hit ?_ | refine JE.blk_miss rfl ?_ | refine JE.then_ret ?_ | refine JE.blk_ret ?_ | refine JC.label ?_ | refine JL.gon rfl rfl ?_ | refine JL.gskip rfl rfl rfl rfl ?_ | refine JL.gskipU rfl rfl rfl rfl ?_)
  exact JC.ret (JE.ret1 rfl (RV.tmp rfl) fun w' hw => ⟨(b2, cap2), rfl, hw⟩)
theorem goes_twin : Goes Try.prog 21 := ⟨_, Try.func21, rfl, by kernel_rfl⟩
set_option maxHeartbeats 4000000 in
theorem dtwin_any (x : Dp) (bl : List Bk) (pd : List (Nat × Bk)) (h : DkOk x bl pd) {u w : World} {S : List Nat} {M : List Ent} (hw : Holds u S (dkE x bl pd ++ M) w) : Calls Try.prog 21 [Pt x.p 0].toArray w fun e w' => ∃ z : Dp, e = .returned (Pt z.p 0) ∧ Holds w [] (dkE ⟨z.p, z.q, z.cap, none⟩ bl []) w' := by
  have hc := (dk_cell hw).1
  have hr : Reads w (some ⟨x.q, 0, none⟩) (bcs bl).flatten := by
    obtain ⟨o, ho, hA⟩ := hw.get (b := x.q) (A := Sl.Own 32 64 bl.length x.cap (bcs bl).flatten) (wr := true) (.there .here)
    exact Reads.block ho (Own.cells o hA)
  refine enter (n := 10) Try.func21 rfl rfl rfl (Holds.start w []) ?_
  repeat (first | refine JL.q (by first | (apply OQ.load_old; exact bsC; exact rfl; exact (block_lt_of_cell hc); exact (by simp); exact hc) | (apply OQ.move; exact rfl) | (apply OQ.assign; exact rfl) | (apply OQ.nilc; exact rfl) | (apply OQ.len; exact rfl; exact rfl) | (apply OQ.addN; exact rfl; exact rfl; exact (by (try simp only []); omega)) | (apply OQ.remN; exact rfl; exact rfl; exact (by (try simp only []); omega)) | (apply OQ.lssN; exact rfl; exact rfl) | (apply OQ.gtrN; exact rfl; exact rfl) | (apply OQ.idxS; exact rfl; exact rfl; exact rfl; exact rfl; exact (by (try simp only []); omega)) | (apply OQ.fld; exact rfl; exact rfl; exact rfl; exact (by decide); exact rfl)) rfl ?_ | refine JC.seq ?_ | refine JC.region ?_ | refine JC.block ?_ | refine JC.skip ?_ | refine JC.exit ?_ | refine JL.nil ?_ | refine JE.next ?_ | refine JE.blk_normal ?_ | refine JE.then_exit ?_ | refine JE.blk_hit ?_ | refine JE.blk_miss rfl ?_ | refine JE.then_ret ?_ | refine JE.blk_ret ?_ | refine JC.label ?_ | refine JL.gon rfl rfl ?_ | refine JL.gskip rfl rfl rfl rfl ?_ | refine JL.gskipU rfl rfl rfl rfl ?_)
  refine JL.callg (ι := Nat × Nat) (vs := [.slice (some ⟨x.q, 0, none⟩) bl.length x.cap]) (fun y => .slice (some ⟨y.1, 0, none⟩) bl.length y.2) (fun y => [⟨y.1, Sl.Own 32 64 bl.length y.2 (bcs bl).flatten, true⟩]) goes_clone rfl rfl (fun y e he => by rw [List.mem_singleton.1 he]) (fun w' hw' => dclone_any _ _ bl h.ok.b h.n1 w' (hw'.reads hr (fun _ _ _ => by simp))) fun y => ?_
  repeat (first | refine JL.q (by first | (apply OQ.buildD; exact rfl) | (apply OQ.move; exact rfl) | (apply OQ.assign; exact rfl) | (apply OQ.nilc; exact rfl) | (apply OQ.len; exact rfl; exact rfl) | (apply OQ.addN; exact rfl; exact rfl; exact (by (try simp only []); omega)) | (apply OQ.remN; exact rfl; exact rfl; exact (by (try simp only []); omega)) | (apply OQ.lssN; exact rfl; exact rfl) | (apply OQ.gtrN; exact rfl; exact rfl) | (apply OQ.idxS; exact rfl; exact rfl; exact rfl; exact rfl; exact (by (try simp only []); omega)) | (apply OQ.fld; exact rfl; exact rfl; exact rfl; exact (by decide); exact rfl)) rfl ?_ | refine JC.seq ?_ | refine JC.region ?_ | refine JC.block ?_ | refine JC.skip ?_ | refine JC.exit ?_ | refine JL.nil ?_ | refine JE.next ?_ | refine JE.blk_normal ?_ | refine JE.then_exit ?_ | refine JE.blk_hit ?_ | refine JE.blk_miss rfl ?_ | refine JE.then_ret ?_ | refine JE.blk_ret ?_ | refine JC.label ?_ | refine JL.gon rfl rfl ?_ | refine JL.gskip rfl rfl rfl rfl ?_ | refine JL.gskipU rfl rfl rfl rfl ?_)
  refine JL.box (r := [.slice (some ⟨y.1, 0, none⟩) bl.length y.2, .slice none 0 0]) rfl rfl rfl fun p hp => ?_
  repeat (first | refine JL.q (by first | (apply OQ.move; exact rfl) | (apply OQ.assign; exact rfl) | (apply OQ.nilc; exact rfl) | (apply OQ.len; exact rfl; exact rfl) | (apply OQ.addN; exact rfl; exact rfl; exact (by (try simp only []); omega)) | (apply OQ.remN; exact rfl; exact rfl; exact (by (try simp only []); omega)) | (apply OQ.lssN; exact rfl; exact rfl) | (apply OQ.gtrN; exact rfl; exact rfl) | (apply OQ.idxS; exact rfl; exact rfl; exact rfl; exact rfl; exact (by (try simp only []); omega)) | (apply OQ.fld; exact rfl; exact rfl; exact rfl; exact (by decide); exact rfl)) rfl ?_ | refine JC.seq ?_ | refine JC.region ?_ | refine JC.block ?_ | refine JC.skip ?_ | refine JC.exit ?_ | refine JL.nil ?_ | refine JE.next ?_ | refine JE.blk_normal ?_ | refine JE.then_exit ?_ | refine JE.blk_hit ?_ | refine JE.blk_miss rfl ?_ | refine JE.then_ret ?_ | refine JE.blk_ret ?_ | refine JC.label ?_ | refine JL.gon rfl rfl ?_ | refine JL.gskip rfl rfl rfl rfl ?_ | refine JL.gskipU rfl rfl rfl rfl ?_)
  refine JC.ret (JE.ret1 rfl (RV.tmp rfl) fun w' hw => ⟨⟨p, y.1, y.2, none⟩, rfl, hw⟩)
end Go.Proofs.Ytopdkpeahhnihaa

/-
  Of no statement by itself: calls through an interface's value, told as calls of the method that its type has; for any program P.
  Conditions: each rule's own hypotheses.
-/
namespace Go.Proofs.Ytopdkpeahhnihaa
set_option maxRecDepth 10000
namespace Sl
section
variable {P : Program} {n : Nat} {w0 : World} {S : List Nat} {ops : Array Oper} {Q : Exit → Act → World → Prop} {l : List Oper} {E : Env} {M : List Ent} {C : World → Prop}
variable {dst : Option Tmp} {d : Nat} {t ty : TypeId} {pos name : String} {aft : Array Edge} {g : Option (Nat × Bool)} {r : Operand} {v u : Value} {f : FuncId} {xs : List Operand} {ats ats' : Array TypeId}
theorem less_preX (A M : List Ent) : Less A (A ++ M) := by
  induction A with
  | nil => exact .nil _
  | cons e A ih => exact .keep _ _ _ _ _ _ (fun _ h => h) ih
/-- type t's method of that name is f, which takes v as it is -/
def IsMeth (P : Program) (t : TypeId) (v : Value) (name : String) (f : FuncId) : Prop := pur P (Go.method (P.types.size + Made.depth) t v name) = some (f, v)
theorem exec_inv {a : Act} (hm : IsMeth P t v name f) (hk : Knows n E a) (hr : ev E r = some (.iface t v)) (w : World) :
    (execOp a.eval ⟨dst, .call ⟨.invoke r name, xs.toArray, ats⟩, ty, pos, aft, g⟩).run P w = (execOp a.eval ⟨dst, .call ⟨.value (.func f), (.const v :: xs).toArray, ats'⟩, ty, pos, aft, g⟩).run P w := by
  have h1 := hk.eval hr
  have h2 : (Go.method (P.types.size + Made.depth) t v name).run P w = .ok (f, v) w := pur_run hm
  have e2 : a.eval (.func f) = .func (.func f) #[] #[] := rfl
  have e3 : a.eval (.const v) = v := rfl
  have e4 : List.take xs.length (List.map a.eval xs) = List.map a.eval xs := List.take_of_length_le (by simp)
  simp only [execOp, resolve, Sem.run_bind, Sem.run_pure, Result.andThen_ok, e2, Deferred.ofValue, invoke]
  simp [h1, callMethod, program, Sem.run_bind, Sem.run, h2, e3, e4]
theorem OQ.inv (hm : IsMeth P t v name f) (hr : ev E r = some (.iface t v)) (h : OQ P n E C ⟨dst, .call ⟨.value (.func f), (.const v :: xs).toArray, ats⟩, ty, pos, aft, g⟩ u) : OQ P n E C ⟨dst, .call ⟨.invoke r name, xs.toArray, ats⟩, ty, pos, aft, g⟩ u := by
  refine ⟨fun a ha w hw => ?_⟩
  have h1 := h.go a ha w hw
  unfold Oper.quietAt at h1 ⊢
  rw [exec_inv hm ha hr]
  exact h1
theorem exec_callI {a : Act} {vs : List Value} (hm : IsMeth P t v name f) (hg : Goes P f) (hk : Knows n E a) (hr : ev E r = some (.iface t v)) (hx : evs E xs = some vs) (w : World) :
    (execOp a.eval ⟨dst, .call ⟨.invoke r name, xs.toArray, ats⟩, ty, pos, aft, g⟩).run P w = .ok (.enter f (v :: vs).toArray) w := by
  rw [exec_inv (ats' := ats) hm hk hr]
  exact exec_call hg hk (by simp [evs, hx, ev]) w
/-- a call of any kind that enters f and writes what came in, told of the world that it is called in -/
theorem JL.callE {ι : Type} {op : Op} {X M0 : List Ent} {vs : List Value} (vf : ι → Value) (Yf : ι → List Ent) (hex : ∀ a, Knows n E a → ∀ w, (execOp a.eval ⟨some d, op, ty, pos, aft, none⟩).run P w = .ok (.enter f vs.toArray) w) (hd : Nat.blt d n = true) (hX : ∀ e ∈ X, e.wr = true) (hY : ∀ i, ∀ e ∈ Yf i, e.wr = true)
    (hc : ∀ w, Holds w0 S (X ++ M0) w → Holds w (keys X) X w → Calls P f vs.toArray w fun e w' => ∃ i, e = .returned (vf i) ∧ Holds w (keys X) (Yf i) w')
    (k : ∀ i, JL P n w0 S ops Q l ((d, vf i) :: E) (Yf i ++ M0)) : JL P n w0 S ops Q (⟨some d, op, ty, pos, aft, none⟩ :: l) E (X ++ M0) :=
  ⟨fun a w ha hw => wpList_plain rfl fun K hK => by
    unfold Oper.wp
    rw [hex a ha w]
    exact (hc w hw (hw.own.weak (less_preX _ _))).mono fun e w' ⟨i, h1, h2⟩ => by subst h1; exact hK _ _ ((k i).go _ _ (ha.put d _ hd) (hw.swapW h2 hX (hY i)))⟩
end
end Sl
end Go.Proofs.Ytopdkpeahhnihaa

/-
  Of no statement by itself: what a journal's blocks tell, by definition: marks, parts, records, a half; that what is written is told again.
  Conditions: each theorem's own.
-/
namespace Go.Proofs.Ytopdkpeahhnihaa
namespace Jrn
open Dsk
abbrev Mk := BitVec 32 × BitVec 32 × BitVec 16 × Bool
def num32 (l : Bk) : BitVec 32 := l.foldl (fun (n : BitVec 32) (c : BitVec 8) => (n <<< 8) ||| c.setWidth 32) 0
def numB (l : Bk) : Nat := l.foldl (fun (n : Nat) (c : BitVec 8) => 256 * n + c.toNat) 0
def be (n : BitVec 32) (size : Nat) : Bk := (List.range size).map fun i => (n >>> (8 * (size - 1 - i))).setWidth 8
def placeIn (b : Bk) : BitVec 16 := (num32 ((b.drop 8).take 2)).setWidth 16
def markIn (b : Bk) : Mk := (num32 (b.take 4), num32 ((b.drop 4).take 4), placeIn b % 32768#16, decide (32768 ≤ (placeIn b).toNat))
def plc (m : Mk) : BitVec 32 := if m.2.2.2 then m.2.2.1.setWidth 32 + 32768#32 else m.2.2.1.setWidth 32
def mb (m : Mk) : Bk := be m.1 4 ++ be m.2.1 4 ++ be (plc m) 2
def blockOf (m : Mk) (part : Bk) : Bk := mb m ++ be (BitVec.ofNat 32 part.length) 2 ++ part ++ List.replicate (42 - part.length) 0 ++ mb m
def cnt (b : Bk) : Nat := (num32 ((b.drop 10).take 2)).toNat
def wholeB (b : Bk) : Bool := decide (markIn b = markIn (b.drop 54)) && (decide (cnt b ≤ 42) && (decide (cnt b = 42) || (markIn b).2.2.2))
def partOf (b : Bk) : Bk := (b.drop 12).take (cnt b)

theorem or_shift {n : BitVec 32} {c : BitVec 8} (h : n.toNat < 16777216) : ((n <<< 8) ||| c.setWidth 32).toNat = 256 * n.toNat + c.toNat := by
  rw [BitVec.toNat_or, BitVec.toNat_shiftLeft, BitVec.toNat_setWidth]
  have hc := c.isLt
  rw [Nat.mod_eq_of_lt (by omega : c.toNat < 2 ^ 32), Nat.shiftLeft_eq, Nat.mod_eq_of_lt (by omega)]
  have := Nat.two_pow_add_eq_or_of_lt (i := 8) (b := c.toNat) hc n.toNat
  rw [Nat.mul_comm n.toNat (2 ^ 8), ← this]
theorem num_fold : ∀ (l : Bk) (n : BitVec 32) (k : Nat), n.toNat < 256 ^ k → k + l.length ≤ 4 → (l.foldl (fun (n : BitVec 32) (c : BitVec 8) => (n <<< 8) ||| c.setWidth 32) n).toNat = l.foldl (fun (n : Nat) (c : BitVec 8) => 256 * n + c.toNat) n.toNat ∧ l.foldl (fun (n : Nat) (c : BitVec 8) => 256 * n + c.toNat) n.toNat < 256 ^ (k + l.length)
  | [], n, k, h, _ => ⟨rfl, h⟩
  | c :: l, n, k, h, hl => by
    simp only [List.length_cons] at hl
    have hk : 256 ^ k ≤ 256 ^ 3 := Nat.pow_le_pow_right (by decide) (by omega)
    have hs := or_shift (n := n) (c := c) (by omega)
    have hc := c.isLt
    have hlt : ((n <<< 8) ||| c.setWidth 32).toNat < 256 ^ (k + 1) := by rw [hs, Nat.pow_succ]; omega
    have ih := num_fold l _ (k + 1) hlt (by omega)
    simp only [List.foldl_cons]
    rw [hs] at ih
    refine ⟨ih.1, ?_⟩
    have := ih.2
    simp only [List.length_cons]
    rwa [show k + (l.length + 1) = k + 1 + l.length by omega]
theorem num_toNat {l : Bk} (h : l.length ≤ 4) : (num32 l).toNat = numB l := (num_fold l 0 0 (by decide) (by omega)).1
theorem numB_lt {l : Bk} (h : l.length ≤ 4) : numB l < 256 ^ l.length := by
  have := (num_fold l 0 0 (by decide) (by omega)).2
  rwa [Nat.zero_add] at this
theorem be_len (n : BitVec 32) (s : Nat) : (be n s).length = s := by simp [be]
theorem be4 (n : BitVec 32) : numB (be n 4) = n.toNat := by
  have h := n.isLt
  have e : be n 4 = [(n >>> 24).setWidth 8, (n >>> 16).setWidth 8, (n >>> 8).setWidth 8, (n >>> 0).setWidth 8] := rfl
  rw [e]
  simp only [numB, List.foldl_cons, List.foldl_nil, BitVec.toNat_setWidth, BitVec.toNat_ushiftRight, Nat.shiftRight_eq_div_pow]
  omega
theorem be2 (n : BitVec 32) : numB (be n 2) = n.toNat % 65536 := by
  have e : be n 2 = [(n >>> 8).setWidth 8, (n >>> 0).setWidth 8] := rfl
  rw [e]
  simp only [numB, List.foldl_cons, List.foldl_nil, BitVec.toNat_setWidth, BitVec.toNat_ushiftRight, Nat.shiftRight_eq_div_pow]
  omega
theorem num_be4 (n : BitVec 32) : num32 (be n 4) = n := BitVec.eq_of_toNat_eq (by rw [num_toNat (by rw [be_len]; decide), be4])
theorem num_be2 (n : BitVec 32) : (num32 (be n 2)).toNat = n.toNat % 65536 := by rw [num_toNat (by rw [be_len]; decide), be2]
theorem mb_len (m : Mk) : (mb m).length = 10 := by simp [mb, be_len]
theorem block_len {m : Mk} {part : Bk} (h : part.length ≤ 42) : (blockOf m part).length = 64 := by
  simp only [blockOf, List.length_append, mb_len, be_len, List.length_replicate]
  omega
/-- a mark that may be -/
def okM (m : Mk) : Prop := m.2.2.1.toNat < 32768
theorem mark_mb {m : Mk} (h : okM m) (r : Bk) : markIn (mb m ++ r) = m := by
  obtain ⟨g, n, p, l⟩ := m
  have hp : p.toNat < 32768 := h
  have e1 : (mb (g, n, p, l) ++ r).take 4 = be g 4 := by simp [mb, List.append_assoc, List.take_append, be_len]
  have e2 : ((mb (g, n, p, l) ++ r).drop 4).take 4 = be n 4 := by simp [mb, List.append_assoc, List.drop_append, List.take_append, be_len, List.drop_eq_nil_of_le]
  have e3 : ((mb (g, n, p, l) ++ r).drop 8).take 2 = be (plc (g, n, p, l)) 2 := by simp [mb, List.append_assoc, List.drop_append, List.take_append, be_len, List.drop_eq_nil_of_le]
  have e4 : placeIn (mb (g, n, p, l) ++ r) = (num32 (be (plc (g, n, p, l)) 2)).setWidth 16 := by unfold placeIn; rw [e3]
  have hpl : (plc (g, n, p, l)).toNat = if l then p.toNat + 32768 else p.toNat := by
    unfold plc
    cases l
    · simp only [Bool.false_eq_true, if_false, BitVec.toNat_setWidth]
      omega
    · simp only [if_true, BitVec.toNat_add, BitVec.toNat_setWidth]
      rw [show (32768#32).toNat = 32768 from rfl]
      omega
  have e5 : (placeIn (mb (g, n, p, l) ++ r)).toNat = if l then p.toNat + 32768 else p.toNat := by
    rw [e4, BitVec.toNat_setWidth, num_be2, hpl]
    cases l
    · simp only [Bool.false_eq_true, if_false]; omega
    · simp only [if_true]; omega
  unfold markIn
  rw [e1, e2, num_be4, num_be4, e5]
  have e6 : placeIn (mb (g, n, p, l) ++ r) % 32768#16 = p := by
    apply BitVec.eq_of_toNat_eq
    rw [BitVec.toNat_umod, e5, show (32768#16).toNat = 32768 from rfl]
    cases l
    · simp only [Bool.false_eq_true, if_false]; omega
    · simp only [if_true]; omega
  rw [e6]
  cases l
  · simp only [Bool.false_eq_true, if_false]
    rw [decide_eq_false (by omega)]
  · simp only [if_true]
    rw [decide_eq_true (by omega)]
theorem block_mark {m : Mk} (h : okM m) (part : Bk) : markIn (blockOf m part) = m := by
  unfold blockOf
  simp only [List.append_assoc]
  exact mark_mb h _
theorem block_back {m : Mk} (h : okM m) {part : Bk} (hp : part.length ≤ 42) : markIn ((blockOf m part).drop 54) = m := by
  have e : (blockOf m part).drop 54 = mb m ++ [] := by
    unfold blockOf
    rw [List.drop_append, List.drop_eq_nil_of_le (by simp only [List.length_append, mb_len, be_len, List.length_replicate]; omega)]
    simp only [List.length_append, mb_len, be_len, List.length_replicate]
    rw [show 54 - (10 + 2 + part.length + (42 - part.length)) = 0 by omega]
    simp
  rw [e]
  exact mark_mb h _
theorem block_cnt {m : Mk} {part : Bk} (hp : part.length ≤ 42) : cnt (blockOf m part) = part.length := by
  have e : ((blockOf m part).drop 10).take 2 = be (BitVec.ofNat 32 part.length) 2 := by
    unfold blockOf
    simp only [List.append_assoc]
    rw [List.drop_append_of_le_length (by rw [mb_len]; decide), List.drop_of_length_le (by rw [mb_len]; decide), List.nil_append, List.take_append_of_le_length (by rw [be_len]; decide), List.take_of_length_le (by rw [be_len]; decide)]
  unfold cnt
  rw [e, num_be2, BitVec.toNat_ofNat]
  omega
theorem block_part {m : Mk} {part : Bk} (hp : part.length ≤ 42) : partOf (blockOf m part) = part := by
  unfold partOf
  rw [block_cnt hp]
  unfold blockOf
  simp only [List.append_assoc]
  rw [← List.append_assoc (mb m), List.drop_append_of_le_length (by rw [List.length_append, mb_len, be_len]; decide), List.drop_of_length_le (by rw [List.length_append, mb_len, be_len]; decide), List.nil_append, List.take_append_of_le_length (Nat.le_refl _), List.take_of_length_le (Nat.le_refl _)]
theorem block_whole {m : Mk} (h : okM m) {part : Bk} (hp : part.length ≤ 42) (hl : part.length = 42 ∨ m.2.2.2 = true) : wholeB (blockOf m part) = true := by
  unfold wholeB
  rw [block_mark h, block_back h hp, block_cnt hp]
  rcases hl with hl | hl <;> simp [hl] <;> omega

/-! ### records -/
def nb (n : Nat) : Nat := max 1 (n / 42 + min 1 (n % 42))
theorem nb_pos (n : Nat) : 0 < nb n := by unfold nb; omega
theorem nb_le (n : Nat) : n ≤ nb n * 42 := by unfold nb; omega
theorem nb_lt {n i : Nat} (h : i + 1 < nb n) : (i + 1) * 42 < n := by unfold nb at h; omega
def mk1 (g : BitVec 32) (r : Nat) (n i : Nat) : Mk := (g, BitVec.ofNat 32 r, BitVec.ofNat 16 i, decide (i + 1 = n))
def chunk (rec : Bk) (i : Nat) : Bk := (rec.drop (i * 42)).take 42
def blk (g : BitVec 32) (r : Nat) (rec : Bk) (i : Nat) : Bk := blockOf (mk1 g r (nb rec.length) i) (chunk rec i)
def blks (g : BitVec 32) (r : Nat) (rec : Bk) : List Bk := (List.range (nb rec.length)).map (blk g r rec)
/-- a record of a number, and how many blocks it takes; its blocks come first -/
def rd (g : BitVec 32) (r : Nat) : List Bk → Nat → Bk → Option (Bk × Nat)
  | [], _, _ => none
  | b :: bs, p, acc => if wholeB b = true ∧ markIn b = (g, BitVec.ofNat 32 r, BitVec.ofNat 16 p, (markIn b).2.2.2) then
      (if (markIn b).2.2.2 then some (acc ++ partOf b, p + 1) else rd g r bs (p + 1) (acc ++ partOf b)) else none
theorem rd_le {g : BitVec 32} {r : Nat} : ∀ {bs : List Bk} {p : Nat} {acc rec : Bk} {k : Nat}, rd g r bs p acc = some (rec, k) → p < k ∧ k ≤ p + bs.length
  | [], _, _, _, _, h => by simp [rd] at h
  | b :: bs, p, acc, rec, k, h => by
    unfold rd at h
    split at h
    · split at h
      · simp only [Option.some.injEq, Prod.mk.injEq] at h
        simp only [List.length_cons]
        omega
      · have := rd_le h
        simp only [List.length_cons]
        omega
    · cases h
def toldN (g : BitVec 32) : Nat → List Bk → Nat → List Bk
  | 0, _, _ => []
  | f + 1, bs, n => match rd g n bs 0 [] with
    | some (rec, k) => rec :: toldN g f (bs.drop k) (n + 1)
    | none => []
def told (g : BitVec 32) (bs : List Bk) : List Bk := toldN g (bs.length + 1) bs 0
theorem chunk_len {rec : Bk} (i : Nat) : (chunk rec i).length = min 42 (rec.length - i * 42) := by simp [chunk]
theorem rd_write {g : BitVec 32} {r : Nat} {rec : Bk} (hn : nb rec.length ≤ 32768) (rest : List Bk) : ∀ (d p : Nat), p + d + 1 = nb rec.length →
    rd g r (((List.range (nb rec.length)).drop p).map (blk g r rec) ++ rest) p (rec.take (p * 42)) = some (rec, nb rec.length) := by
  intro d
  induction d with
  | zero =>
    intro p hp
    have hp1 : p < nb rec.length := by omega
    have e : (List.range (nb rec.length)).drop p = p :: (List.range (nb rec.length)).drop (p + 1) := by
      rw [List.drop_eq_getElem_cons (by simpa using hp1)]
      simp
    have hc : (chunk rec p).length ≤ 42 := by rw [chunk_len]; omega
    have hok : okM (mk1 g r (nb rec.length) p) := by
      show (BitVec.ofNat 16 p).toNat < 32768
      rw [BitVec.toNat_ofNat]
      omega
    have hl : (mk1 g r (nb rec.length) p).2.2.2 = true := decide_eq_true (by omega)
    have hm : markIn (blk g r rec p) = mk1 g r (nb rec.length) p := block_mark hok _
    rw [e, List.map_cons, List.cons_append, rd, if_pos ⟨block_whole hok hc (.inr hl), by rw [hm]; rfl⟩, hm, hl, if_pos rfl]
    have hpt : partOf (blk g r rec p) = chunk rec p := block_part hc
    rw [hpt]
    have hle := nb_le rec.length
    have : rec.take (p * 42) ++ chunk rec p = rec := by
      unfold chunk
      rw [List.take_of_length_le (by rw [List.length_drop]; omega : (rec.drop (p * 42)).length ≤ 42), List.take_append_drop]
    rw [this]
    congr 2
  | succ d ih =>
    intro p hp
    have hp1 : p < nb rec.length := by omega
    have e : (List.range (nb rec.length)).drop p = p :: (List.range (nb rec.length)).drop (p + 1) := by
      rw [List.drop_eq_getElem_cons (by simpa using hp1)]
      simp
    have hlt := nb_lt (n := rec.length) (i := p) (by omega)
    have hc : (chunk rec p).length = 42 := by rw [chunk_len]; omega
    have hok : okM (mk1 g r (nb rec.length) p) := by
      show (BitVec.ofNat 16 p).toNat < 32768
      rw [BitVec.toNat_ofNat]
      omega
    have hl : (mk1 g r (nb rec.length) p).2.2.2 = false := decide_eq_false (by omega)
    have hm : markIn (blk g r rec p) = mk1 g r (nb rec.length) p := block_mark hok _
    rw [e, List.map_cons, List.cons_append, rd, if_pos ⟨block_whole hok (by omega) (.inl hc), by rw [hm]; rfl⟩, hm, hl, if_neg (by decide)]
    have hpt : partOf (blk g r rec p) = chunk rec p := block_part (by omega)
    rw [hpt]
    have : rec.take (p * 42) ++ chunk rec p = rec.take ((p + 1) * 42) := by
      unfold chunk
      rw [Nat.succ_mul, List.take_add]
    rw [this]
    exact ih (p + 1) (by omega)
theorem rd_blks {g : BitVec 32} {r : Nat} {rec : Bk} (hn : nb rec.length ≤ 32768) (rest : List Bk) : rd g r (blks g r rec ++ rest) 0 [] = some (rec, nb rec.length) := by
  have h := rd_write (g := g) (r := r) hn rest (nb rec.length - 1) 0 (by have := nb_pos rec.length; omega)
  simpa [blks] using h
theorem blks_len (g : BitVec 32) (r : Nat) (rec : Bk) : (blks g r rec).length = nb rec.length := by simp [blks]
/-- all records' blocks, numbered from n on -/
def allB (g : BitVec 32) : Nat → List Bk → List Bk
  | _, [] => []
  | n, rec :: recs => blks g n rec ++ allB g (n + 1) recs
def room (recs : List Bk) : Nat := (recs.map fun r => nb r.length).sum
theorem allB_len (g : BitVec 32) : ∀ (n : Nat) (recs : List Bk), (allB g n recs).length = room recs
  | _, [] => rfl
  | n, rec :: recs => by
    rw [allB, List.length_append, blks_len, allB_len g (n + 1) recs]
    simp [room]
theorem allB_append (g : BitVec 32) : ∀ (n : Nat) (a b : List Bk), allB g n (a ++ b) = allB g n a ++ allB g (n + a.length) b
  | n, [], b => by simp [allB]
  | n, r :: a, b => by
    rw [List.cons_append, allB, allB, allB_append g (n + 1) a b, List.append_assoc, List.length_cons, show n + 1 + a.length = n + (a.length + 1) by omega]
theorem room_append (a b : List Bk) : room (a ++ b) = room a + room b := by simp [room]
theorem room_ge (recs : List Bk) : recs.length ≤ room recs := by
  induction recs with
  | nil => exact Nat.le_refl _
  | cons r recs ih =>
    have := nb_pos r.length
    simp only [room, List.map_cons, List.sum_cons, List.length_cons] at ih ⊢
    omega
theorem rd_other {g : BitVec 32} {r : Nat} {bs : List Bk} {p : Nat} {acc : Bk} (h : ∀ b ∈ bs, (markIn b).1 ≠ g) : rd g r bs p acc = none := by
  cases bs with
  | nil => rfl
  | cons b bs =>
    unfold rd
    rw [if_neg fun hh => h b (by simp) (by rw [hh.2])]
theorem toldN_all {g : BitVec 32} : ∀ (recs : List Bk) (f n : Nat) (rest : List Bk), recs.length < f → (∀ b ∈ rest, (markIn b).1 ≠ g) → room recs ≤ 32768 → toldN g f (allB g n recs ++ rest) n = recs
  | [], f + 1, n, rest, _, h, _ => by
    show (match rd g n ([] ++ rest) 0 [] with | some (rec, k) => _ | none => _) = _
    rw [List.nil_append, rd_other h]
  | rec :: recs, f + 1, n, rest, hf, h, hr => by
    have hr' : nb rec.length + room recs ≤ 32768 := by simpa [room] using hr
    show (match rd g n (blks g n rec ++ allB g (n + 1) recs ++ rest) 0 [] with | some (rec, k) => _ | none => _) = _
    rw [List.append_assoc, rd_blks (by omega)]
    show rec :: toldN g f ((blks g n rec ++ allB g (n + 1) recs ++ rest).drop (nb rec.length)) (n + 1) = _
    rw [List.append_assoc, List.drop_left' (blks_len _ _ _), toldN_all recs f (n + 1) rest (by simpa using hf) h (by omega)]
/-- what is written is told -/
theorem told_all {g : BitVec 32} {recs rest : List Bk} (h : ∀ b ∈ rest, (markIn b).1 ≠ g) (hr : room recs ≤ 32768) : told g (allB g 0 recs ++ rest) = recs :=
  toldN_all recs _ 0 rest (by have := room_ge recs; rw [List.length_append, allB_len]; omega) h hr
end Jrn
end Go.Proofs.Ytopdkpeahhnihaa

/-
  Of no statement by itself: the landed journal's numbers and marks: numberIn, withNumber, bytes, markIn, blocksFor.
  Conditions: each theorem's own.
-/
namespace Go.Proofs.Ytopdkpeahhnihaa
set_option maxRecDepth 10000
open Sl Dsk Jrn
@[reducible] def U16 (a : BitVec 16) : Value := .int .u16 a.toNat
section
variable {P : Program} {n : Nat} {E : Env} {C : World → Prop} {dst : Option Tmp} {t t' e ty : TypeId} {pos : String} {aft : Array Edge} {g : Option (Nat × Bool)} {x y z : Operand}
theorem wrap16 (a : Nat) : IntKind.u16.wrap (a : Int) = ((a % 65536 : Nat) : Int) := by simp [IntKind.wrap, IntKind.bits, IntKind.signed]
theorem OQ.conv32_16 {d : TypeDesc} {a : BitVec 32} (hs : P.underlying t = some d) (hd : P.underlying t' = some (.int .u16)) (hx : ev E x = some (U32 a)) : OQ P n E C ⟨dst, .convert t t' x, ty, pos, aft, g⟩ (U16 (a.setWidth 16)) :=
  OQ.conv hs hd hx (by rw [wrap16]; simp [U16, BitVec.toNat_setWidth])
theorem OQ.conv16_32 {d : TypeDesc} {a : BitVec 16} (hs : P.underlying t = some d) (hd : P.underlying t' = some (.int .u32)) (hx : ev E x = some (U16 a)) : OQ P n E C ⟨dst, .convert t t' x, ty, pos, aft, g⟩ (U32 (a.setWidth 32)) :=
  OQ.conv hs hd hx (by rw [wrap32]; simp [U32, BitVec.toNat_setWidth])
theorem OQ.conv32_N {d : TypeDesc} {a : BitVec 32} (hs : P.underlying t = some d) (hd : P.underlying t' = some (.int .i64)) (hx : ev E x = some (U32 a)) : OQ P n E C ⟨dst, .convert t t' x, ty, pos, aft, g⟩ (N a.toNat) :=
  OQ.conv hs hd hx (by have := a.isLt; rw [wrapN (by omega) (by omega)])
theorem OQ.convN_16 {d : TypeDesc} {a : Nat} (hs : P.underlying t = some d) (hd : P.underlying t' = some (.int .u16)) (hx : ev E x = some (N a)) : OQ P n E C ⟨dst, .convert t t' x, ty, pos, aft, g⟩ (U16 (BitVec.ofNat 16 a)) :=
  OQ.conv hs hd hx (by rw [wrap16]; simp [U16])
theorem OQ.rem16 {a b : BitVec 16} (hx : ev E x = some (U16 a)) (hy : ev E y = some (U16 b)) (h : b.toNat ≠ 0) : OQ P n E C ⟨dst, .binOp .rem t x y t', ty, pos, aft, g⟩ (U16 (a % b)) :=
  OQ.bin hx hy rfl fun w => by
    have h4 : ((a.toNat : Int).tmod b.toNat) = ((a % b).toNat : Int) := by rw [Int.tmod_eq_emod_of_nonneg (by omega), BitVec.toNat_umod]; exact_mod_cast rfl
    have h5 : ¬ (b.toNat : Int) = 0 := by omega
    have h7 : Op.intDiv .rem .u16 (a.toNat : Int) b.toNat = (Pure.pure (.int .u16 ((a.toNat : Int).tmod b.toNat)) : Sem Value) := by simp only [Op.intDiv, if_neg h5]
    show Sem.run P (Op.intDiv .rem .u16 (a.toNat : Int) b.toNat) w = _
    rw [h7, h4]; rfl
theorem OQ.maxN {a c : Nat} (hx : ev E x = some (N a)) (hy : ev E y = some (N c)) : OQ P n E C ⟨dst, .call ⟨.builtin .max, #[x, y], #[t, t']⟩, ty, pos, aft, g⟩ (N (max a c)) :=
  OQ.run fun ac ha w _ => by
    have h1 := ha.eval hx
    have h2 := ha.eval hy
    have h3 : (if a < c then (c : Int) else (a : Int)) = ((max a c : Nat) : Int) := by split <;> omega
    simp [execOp, h1, h2, resolve, invoke, builtin, Builtin.max_, Builtin.max2, Sem.run_bind, N]
    exact h3
/-- x[lo:hi] of bytes -/
def Sl8.sub (s : Sl8) (lo hi : Nat) : Sl8 := ⟨if s.cap = lo then s.ad else s.ad.map (·.add (lo * 1)), s.cap - lo, (s.l.take hi).drop lo⟩
theorem Sl8.ok.sub {s : Sl8} {w : World} (h : s.ok w) {lo hi : Nat} (h1 : lo ≤ hi) (h2 : hi ≤ s.l.length) : (s.sub lo hi).ok w := by
  have hc := h.len
  refine ⟨by show ((s.l.take hi).drop lo).length ≤ s.cap - lo; rw [List.length_drop, List.length_take]; omega, ?_⟩
  have hr := h.reads.take hi
  rw [← List.map_take] at hr
  have := hr.drop (len := hi) (cap := s.cap) (lo := lo) (by rw [List.length_map, List.length_take]; omega) (by omega) h1
  rwa [← List.map_drop] at this
theorem OQ.sub8 {s : Sl8} {lo hi : Nat} (hu : P.underlying t = some (.slice e)) (hz : szT P e = some 1) (hx : ev E x = some s.v) (hl : ev E y = some (N lo)) (hh : ev E z = some (N hi)) (h1 : lo ≤ hi) (h2 : hi ≤ s.l.length) (hc : s.l.length ≤ s.cap) :
    OQ P n E C ⟨dst, .slice t x (some y) (some z) none, ty, pos, aft, g⟩ (s.sub lo hi).v :=
  OQ.to (OQ.slS_lohi (ad := s.ad) (len := s.l.length) (cap := s.cap) hu hz hx hl hh h1 (by omega)) (by
    have : ((s.l.take hi).drop lo).length = hi - lo := by rw [List.length_drop, List.length_take]; omega
    simp only [Sl8.v, Sl8.sub, this])
end
theorem u32C : scal Try.prog 84 = true := by kernel_rfl
theorem u321 : szT Try.prog 84 = some 1 := by kernel_rfl
theorem u16C : scal Try.prog 107 = true := by kernel_rfl
theorem boolC : scal Try.prog 4 = true := by kernel_rfl
def mkc (m : Mk) : List Value := [U32 m.1, U32 m.2.1, U16 m.2.2.1, .bool m.2.2.2]
theorem mk4 : szT Try.prog 109 = some 4 := by kernel_rfl
theorem mkAg : aggT Try.prog 109 = true := by kernel_rfl
theorem mkZ : zc Try.prog 109 = some (mkc (0, 0, 0, false)) := by kernel_rfl
theorem OQ.buildM {n : Nat} {E : Env} {C : World → Prop} {dst : Option Tmp} {ty : TypeId} {pos : String} {aft : Array Edge} {g : Option (Nat × Bool)} {x1 x2 x3 x4 : Operand} {m : Mk} (h1 : ev E x1 = some (U32 m.1)) (h2 : ev E x2 = some (U32 m.2.1)) (h3 : ev E x3 = some (U16 m.2.2.1)) (h4 : ev E x4 = some (.bool m.2.2.2)) :
    OQ Try.prog n E C ⟨dst, .build 109 #[(0, x1), (1, x2), (2, x3), (3, x4)], ty, pos, aft, g⟩ (.agg (mkc m).toArray) :=
  OQ.run fun a ha w _ => by
    have e1 := ha.eval h1
    have e2 := ha.eval h2
    have e3 := ha.eval h3
    have e4 := ha.eval h4
    have r := run_build (P := Try.prog) w 109 #[(0, U32 m.1), (1, U32 m.2.1), (2, U16 m.2.2.1), (3, .bool m.2.2.2)] (mkc m).toArray (by kernel_rfl)
    simp [execOp, e1, e2, e3, e4, r]
theorem goes_bfor : Goes Try.prog 45 := ⟨_, Try.func45, rfl, by kernel_rfl⟩
theorem bfor_any (n : Nat) (hn : n < 4611686018427387904) (w : World) : Calls Try.prog 45 [N n].toArray w fun e w' => e = .returned (N (nb n)) ∧ Ext w w' := by
  refine enter (n := 10) Try.func45 rfl rfl rfl (Holds.start w []) ?_
  repeat (first | refine JL.q (by first | (apply OQ.quoN (b := 42); exact rfl; exact rfl; exact (by decide); exact (by omega)) | (apply OQ.remN (b := 42); exact rfl; exact rfl; exact (by decide)) | (apply OQ.minN (a := 1); exact rfl; exact rfl) | (apply OQ.addN (a := n / 42); exact rfl; exact rfl; exact (by omega)) | (apply OQ.maxN (a := 1); exact rfl; exact rfl) | (apply OQ.move; exact rfl) | (apply OQ.assign; exact rfl) | (apply OQ.nilc; exact rfl) | (apply OQ.len; exact rfl; exact rfl) | (apply OQ.addN; exact rfl; exact rfl; exact (by (try simp only []); omega)) | (apply OQ.subN; exact rfl; exact rfl; exact (by (try simp only []); omega); exact (by (try simp only []); omega)) | (apply OQ.mulN; exact rfl; exact rfl; exact (by (try simp only []); omega)) | (apply OQ.remN; exact rfl; exact rfl; exact (by (try simp only []); omega)) | (apply OQ.quoN; exact rfl; exact rfl; exact (by (try simp only []); omega); exact (by (try simp only []); omega)) | (apply OQ.lssN; exact rfl; exact rfl) | (apply OQ.gtrN; exact rfl; exact rfl) | (apply OQ.idxS1; exact rfl; exact rfl; exact rfl; exact rfl; exact (by (try simp only []); omega)) | (apply OQ.fld; exact rfl; exact rfl; exact rfl; exact (by decide); exact rfl)) rfl ?_ | refine JC.seq ?_ | refine JC.region ?_ | refine JC.block ?_ | refine JC.skip ?_ | refine JC.exit ?_ | refine JL.nil ?_ | refine JE.next ?_ | refine JE.blk_normal ?_ | refine JE.then_exit ?_ | refine JE.blk_hit ?_ | refine JE.blk_miss rfl ?_ | refine JE.then_ret ?_ | refine JE.blk_ret ?_ | refine JC.label ?_ | refine JL.gon rfl rfl ?_ | refine JL.gskip rfl rfl rfl rfl ?_ | refine JL.gskipU rfl rfl rfl rfl ?_)
  exact JC.ret (JE.ret1 rfl (RV.tmp rfl) fun w' hw => ⟨rfl, hw.chg⟩)
theorem goes_numIn : Goes Try.prog 64 := ⟨_, Try.func64, rfl, by kernel_rfl⟩
set_option maxHeartbeats 4000000 in
theorem numIn_any (s : Sl8) (w : World) (hs : s.ok w) (hl : s.l.length ≤ 1000000) : Calls Try.prog 64 [s.v].toArray w fun e w' => e = .returned (U32 (num32 s.l)) ∧ Ext w w' := by
  refine enter (n := 19) Try.func64 rfl rfl rfl (Holds.start w []) ?_
  repeat (first | refine JL.q (by first | (apply OQ.len (k := s.l.length) (ad := s.ad) (cap := s.cap); exact Try.underlying33; exact rfl) | (apply OQ.move; exact rfl) | (apply OQ.assign; exact rfl) | (apply OQ.nilc; exact rfl) | (apply OQ.len; exact rfl; exact rfl) | (apply OQ.addN; exact rfl; exact rfl; exact (by (try simp only []); omega)) | (apply OQ.subN; exact rfl; exact rfl; exact (by (try simp only []); omega); exact (by (try simp only []); omega)) | (apply OQ.mulN; exact rfl; exact rfl; exact (by (try simp only []); omega)) | (apply OQ.remN; exact rfl; exact rfl; exact (by (try simp only []); omega)) | (apply OQ.quoN; exact rfl; exact rfl; exact (by (try simp only []); omega); exact (by (try simp only []); omega)) | (apply OQ.lssN; exact rfl; exact rfl) | (apply OQ.gtrN; exact rfl; exact rfl) | (apply OQ.idxS1; exact rfl; exact rfl; exact rfl; exact rfl; exact (by (try simp only []); omega)) | (apply OQ.fld; exact rfl; exact rfl; exact rfl; exact (by decide); exact rfl)) rfl ?_ | refine JC.seq ?_ | refine JC.region ?_ | refine JC.block ?_ | refine JC.skip ?_ | refine JC.exit ?_ | refine JL.nil ?_ | refine JE.next ?_ | refine JE.blk_normal ?_ | refine JE.then_exit ?_ | refine JE.blk_hit ?_ | refine JE.blk_miss rfl ?_ | refine JE.then_ret ?_ | refine JE.blk_ret ?_ | refine JC.label ?_ | refine JL.gon rfl rfl ?_ | refine JL.gskip rfl rfl rfl rfl ?_ | refine JL.gskipU rfl rfl rfl rfl ?_)
  refine JC.loop (fun i : Nat => [(6, s.v), (7, N s.l.length), (8, N i), (3, U32 (num32 (s.l.take i)))]) (fun _ => []) (fun i => s.l.length - i) (fun i => i ≤ s.l.length) 0 (Nat.zero_le _) (by repeat (first | exact SubE.nil | refine SubE.cons _ _ _ rfl ?_)) (Less.refl _) ?_
  intro i hi
  repeat (first | refine JL.q (by first | (apply OQ.move; exact rfl) | (apply OQ.assign; exact rfl) | (apply OQ.nilc; exact rfl) | (apply OQ.len; exact rfl; exact rfl) | (apply OQ.addN; exact rfl; exact rfl; exact (by (try simp only []); omega)) | (apply OQ.subN; exact rfl; exact rfl; exact (by (try simp only []); omega); exact (by (try simp only []); omega)) | (apply OQ.mulN; exact rfl; exact rfl; exact (by (try simp only []); omega)) | (apply OQ.remN; exact rfl; exact rfl; exact (by (try simp only []); omega)) | (apply OQ.quoN; exact rfl; exact rfl; exact (by (try simp only []); omega); exact (by (try simp only []); omega)) | (apply OQ.lssN; exact rfl; exact rfl) | (apply OQ.gtrN; exact rfl; exact rfl) | (apply OQ.idxS1; exact rfl; exact rfl; exact rfl; exact rfl; exact (by (try simp only []); omega)) | (apply OQ.fld; exact rfl; exact rfl; exact rfl; exact (by decide); exact rfl)) rfl ?_ | refine JC.seq ?_ | refine JC.region ?_ | refine JC.block ?_ | refine JC.skip ?_ | refine JC.exit ?_ | refine JL.nil ?_ | refine JE.next ?_ | refine JE.blk_normal ?_ | refine JE.then_exit ?_ | refine JE.blk_hit ?_ | refine JE.blk_miss rfl ?_ | refine JE.then_ret ?_ | refine JE.blk_ret ?_ | refine JC.label ?_ | refine JL.gon rfl rfl ?_ | refine JL.gskip rfl rfl rfl rfl ?_ | refine JL.gskipU rfl rfl rfl rfl ?_)
  refine JC.cond rfl (fun h => ?_) (fun h => ?_)
  · have hi' : i < s.l.length := by have := of_decide_eq_true h; omega
    clear h
    obtain ⟨b, j, hae, hca⟩ := hs.reads.at (by simp; omega)
    have hca := hca i _ (map_at U8 0 hi')
    have hsv : s.v = .slice (some ⟨b, j, none⟩) s.l.length s.cap := by rw [← hae]; rfl
    have e : num32 (s.l.take (i + 1)) = (num32 (s.l.take i) <<< 8) ||| (s.l.getD i 0).setWidth 32 := by
      rw [List.take_succ_eq_append_getElem hi']
      unfold num32
      rw [List.foldl_append]
      simp [hi']
    rw [hsv]
    repeat (first | refine JL.q (by first | (apply OQ.idxS1; exact Try.underlying33; exact u8s; exact rfl; exact rfl; exact hi') | (apply OQ.load_old; exact u8c; exact rfl; exact (block_lt_of_cell hca); exact (by simp); exact hca) | (apply OQ.shl32 (k := 8); exact rfl; exact rfl) | (apply OQ.conv8_32; exact Try.underlying5; exact Try.underlying84; exact rfl) | (apply OQ.or32; exact rfl; exact rfl) | (apply OQ.move; exact rfl) | (apply OQ.assign; exact rfl) | (apply OQ.nilc; exact rfl) | (apply OQ.len; exact rfl; exact rfl) | (apply OQ.addN; exact rfl; exact rfl; exact (by (try simp only []); omega)) | (apply OQ.subN; exact rfl; exact rfl; exact (by (try simp only []); omega); exact (by (try simp only []); omega)) | (apply OQ.mulN; exact rfl; exact rfl; exact (by (try simp only []); omega)) | (apply OQ.remN; exact rfl; exact rfl; exact (by (try simp only []); omega)) | (apply OQ.quoN; exact rfl; exact rfl; exact (by (try simp only []); omega); exact (by (try simp only []); omega)) | (apply OQ.lssN; exact rfl; exact rfl) | (apply OQ.gtrN; exact rfl; exact rfl) | (apply OQ.idxS1; exact rfl; exact rfl; exact rfl; exact rfl; exact (by (try simp only []); omega)) | (apply OQ.fld; exact rfl; exact rfl; exact rfl; exact (by decide); exact rfl)) rfl ?_ | refine JC.seq ?_ | refine JC.region ?_ | refine JC.block ?_ | refine JC.skip ?_ | refine JC.exit ?_ | refine JL.nil ?_ | refine JE.next ?_ | refine JE.blk_normal ?_ | refine JE.then_exit ?_ | refine JE.blk_hit ?_ | refine JE.blk_miss rfl ?_ | refine JE.then_ret ?_ | refine JE.blk_ret ?_ | refine JC.label ?_ | refine JL.gon rfl rfl ?_ | refine JL.gskip rfl rfl rfl rfl ?_ | refine JL.gskipU rfl rfl rfl rfl ?_)
    rw [← hsv, ← e]
    exact JE.again (i := i) (i + 1) hi' (by omega) (by repeat (first | exact SubE.nil | refine SubE.cons _ _ _ rfl ?_)) (Less.refl _)
  · have hi' : i = s.l.length := by have := of_decide_eq_false h; omega
    subst hi'
    rw [List.take_length]
    repeat (first | refine JL.q (by first | (apply OQ.move; exact rfl) | (apply OQ.assign; exact rfl) | (apply OQ.nilc; exact rfl) | (apply OQ.len; exact rfl; exact rfl) | (apply OQ.addN; exact rfl; exact rfl; exact (by (try simp only []); omega)) | (apply OQ.subN; exact rfl; exact rfl; exact (by (try simp only []); omega); exact (by (try simp only []); omega)) | (apply OQ.mulN; exact rfl; exact rfl; exact (by (try simp only []); omega)) | (apply OQ.remN; exact rfl; exact rfl; exact (by (try simp only []); omega)) | (apply OQ.quoN; exact rfl; exact rfl; exact (by (try simp only []); omega); exact (by (try simp only []); omega)) | (apply OQ.lssN; exact rfl; exact rfl) | (apply OQ.gtrN; exact rfl; exact rfl) | (apply OQ.idxS1; exact rfl; exact rfl; exact rfl; exact rfl; exact (by (try simp only []); omega)) | (apply OQ.fld; exact rfl; exact rfl; exact rfl; exact (by decide); exact rfl)) rfl ?_ | refine JC.seq ?_ | refine JC.region ?_ | refine JC.block ?_ | refine JC.skip ?_ | refine JC.exit ?_ | refine JL.nil ?_ | refine JE.next ?_ | refine JE.blk_normal ?_ | refine JE.then_exit ?_ | refine JE.blk_hit ?_ | refine JE.blk_miss rfl ?_ | refine JE.then_ret ?_ | refine JE.blk_ret ?_ | refine JC.label ?_ | refine JL.gon rfl rfl ?_ | refine JL.gskip rfl rfl rfl rfl ?_ | refine JL.gskipU rfl rfl rfl rfl ?_)
    exact JC.ret (JE.ret1 rfl (RV.tmp rfl) fun w' hw => ⟨rfl, hw.chg⟩)
theorem goes_wnum : Goes Try.prog 66 := ⟨_, Try.func66, rfl, by kernel_rfl⟩
theorem be_take (n : BitVec 32) {size i : Nat} (h : i < size) : (be n size).take (i + 1) = (be n size).take i ++ [(n >>> (8 * (size - 1 - i))).setWidth 8] := by
  rw [List.take_succ_eq_append_getElem (by rw [be_len]; exact h)]
  simp [be]
set_option maxHeartbeats 8000000 in
theorem wnum_any (q : Acc) (xs : Bk) (n : BitVec 32) (size : Nat) (h0 : 0 < size) (h4 : size ≤ 4) (hq : q = none → xs = []) (hl : xs.length ≤ 1000000) (w : World) (hw : Holds w (keys (accE 5 q (xs.map U8))) (accE 5 q (xs.map U8)) w) :
    Calls Try.prog 66 [accV q xs.length, U32 n, N size].toArray w fun e w' => ∃ r : Nat × Nat, e = .returned (accV (some r) (xs ++ be n size).length) ∧ Holds w (keys (accE 5 q (xs.map U8))) (accE 5 (some r) ((xs ++ be n size).map U8)) w' := by
  generalize keys (accE 5 q (xs.map U8)) = S at hw ⊢
  refine enter (n := 25) Try.func66 rfl rfl rfl hw ?_
  repeat (first | refine JL.q (by first | (apply OQ.move; exact rfl) | (apply OQ.assign; exact rfl) | (apply OQ.nilc; exact rfl) | (apply OQ.len; exact rfl; exact rfl) | (apply OQ.addN; exact rfl; exact rfl; exact (by (try simp only []); omega)) | (apply OQ.subN; exact rfl; exact rfl; exact (by (try simp only []); omega); exact (by (try simp only []); omega)) | (apply OQ.mulN; exact rfl; exact rfl; exact (by (try simp only []); omega)) | (apply OQ.remN; exact rfl; exact rfl; exact (by (try simp only []); omega)) | (apply OQ.quoN; exact rfl; exact rfl; exact (by (try simp only []); omega); exact (by (try simp only []); omega)) | (apply OQ.lssN; exact rfl; exact rfl) | (apply OQ.gtrN; exact rfl; exact rfl) | (apply OQ.idxS1; exact rfl; exact rfl; exact rfl; exact rfl; exact (by (try simp only []); omega)) | (apply OQ.fld; exact rfl; exact rfl; exact rfl; exact (by decide); exact rfl)) rfl ?_ | refine JC.seq ?_ | refine JC.region ?_ | refine JC.block ?_ | refine JC.skip ?_ | refine JC.exit ?_ | refine JL.nil ?_ | refine JE.next ?_ | refine JE.blk_normal ?_ | refine JE.then_exit ?_ | refine JE.blk_hit ?_ | refine JE.blk_miss rfl ?_ | refine JE.then_ret ?_ | refine JE.blk_ret ?_ | refine JC.label ?_ | refine JL.gon rfl rfl ?_ | refine JL.gskip rfl rfl rfl rfl ?_ | refine JL.gskipU rfl rfl rfl rfl ?_)
  refine JC.loop (fun z : Nat × Acc => [(0, accV z.2 (xs ++ (be n size).take z.1).length), (1, U32 n), (2, N size), (8, N size), (9, N z.1)]) (fun z => accE 5 z.2 ((xs ++ (be n size).take z.1).map U8)) (fun z => size - z.1) (fun z => z.1 ≤ size ∧ (z.2 = none → xs ++ (be n size).take z.1 = [] ∧ z.1 = 0)) (0, q) ⟨Nat.zero_le _, fun e => ⟨by rw [hq e]; rfl, rfl⟩⟩ (by rw [List.take_zero, List.append_nil]; exact (by repeat (first | exact SubE.nil | refine SubE.cons _ _ _ rfl ?_))) (by rw [List.take_zero, List.append_nil]; exact Less.refl _) ?_
  rintro ⟨i, q⟩ ⟨hi, hq2⟩
  dsimp only at hi hq2 ⊢
  repeat (first | refine JL.q (by first | (apply OQ.move; exact rfl) | (apply OQ.assign; exact rfl) | (apply OQ.nilc; exact rfl) | (apply OQ.len; exact rfl; exact rfl) | (apply OQ.addN; exact rfl; exact rfl; exact (by (try simp only []); omega)) | (apply OQ.subN; exact rfl; exact rfl; exact (by (try simp only []); omega); exact (by (try simp only []); omega)) | (apply OQ.mulN; exact rfl; exact rfl; exact (by (try simp only []); omega)) | (apply OQ.remN; exact rfl; exact rfl; exact (by (try simp only []); omega)) | (apply OQ.quoN; exact rfl; exact rfl; exact (by (try simp only []); omega); exact (by (try simp only []); omega)) | (apply OQ.lssN; exact rfl; exact rfl) | (apply OQ.gtrN; exact rfl; exact rfl) | (apply OQ.idxS1; exact rfl; exact rfl; exact rfl; exact rfl; exact (by (try simp only []); omega)) | (apply OQ.fld; exact rfl; exact rfl; exact rfl; exact (by decide); exact rfl)) rfl ?_ | refine JC.seq ?_ | refine JC.region ?_ | refine JC.block ?_ | refine JC.skip ?_ | refine JC.exit ?_ | refine JL.nil ?_ | refine JE.next ?_ | refine JE.blk_normal ?_ | refine JE.then_exit ?_ | refine JE.blk_hit ?_ | refine JE.blk_miss rfl ?_ | refine JE.then_ret ?_ | refine JE.blk_ret ?_ | refine JC.label ?_ | refine JL.gon rfl rfl ?_ | refine JL.gskip rfl rfl rfl rfl ?_ | refine JL.gskipU rfl rfl rfl rfl ?_)
  refine JC.cond rfl (fun h => ?_) (fun h => ?_)
  · have hi' : i < size := by have := of_decide_eq_true h; omega
    clear h
    have et := be_take n hi'
    generalize hys : xs ++ (be n size).take i = ys at hq2 ⊢
    have hy2 : xs ++ (be n size).take (i + 1) = ys ++ [(n >>> (8 * (size - 1 - i))).setWidth 8] := by rw [et, ← List.append_assoc, hys]
    have hyl : ys.length ≤ 1000004 := by rw [← hys, List.length_append, List.length_take, be_len]; omega
    repeat (first | refine JL.q (by first | (apply OQ.mulN (a := 8); exact rfl; exact rfl; exact (by omega)) | (apply OQ.shr32 (k := 8 * (size - 1 - i)); exact rfl; exact rfl) | (apply OQ.conv32_8; exact Try.underlying84; exact Try.underlying5; exact rfl) | (apply OQ.move; exact rfl) | (apply OQ.assign; exact rfl) | (apply OQ.nilc; exact rfl) | (apply OQ.len; exact rfl; exact rfl) | (apply OQ.addN; exact rfl; exact rfl; exact (by (try simp only []); omega)) | (apply OQ.subN; exact rfl; exact rfl; exact (by (try simp only []); omega); exact (by (try simp only []); omega)) | (apply OQ.mulN; exact rfl; exact rfl; exact (by (try simp only []); omega)) | (apply OQ.remN; exact rfl; exact rfl; exact (by (try simp only []); omega)) | (apply OQ.quoN; exact rfl; exact rfl; exact (by (try simp only []); omega); exact (by (try simp only []); omega)) | (apply OQ.lssN; exact rfl; exact rfl) | (apply OQ.gtrN; exact rfl; exact rfl) | (apply OQ.idxS1; exact rfl; exact rfl; exact rfl; exact rfl; exact (by (try simp only []); omega)) | (apply OQ.fld; exact rfl; exact rfl; exact rfl; exact (by decide); exact rfl)) rfl ?_ | refine JC.seq ?_ | refine JC.region ?_ | refine JC.block ?_ | refine JC.skip ?_ | refine JC.exit ?_ | refine JL.nil ?_ | refine JE.next ?_ | refine JE.blk_normal ?_ | refine JE.then_exit ?_ | refine JE.blk_hit ?_ | refine JE.blk_miss rfl ?_ | refine JE.then_ret ?_ | refine JE.blk_ret ?_ | refine JC.label ?_ | refine JL.gon rfl rfl ?_ | refine JL.gskip rfl rfl rfl rfl ?_ | refine JL.gskipU rfl rfl rfl rfl ?_)
    refine JL.lit1 Try.underlying33 u8e rfl rfl rfl rfl fun bl _ => ?_
    refine JL.perm (M' := accE 5 q (ys.map U8) ++ [⟨bl, Row 5 [U8 ((n >>> (8 * (size - 1 - i))).setWidth 8)], true⟩]) ?_ (by exact (List.perm_append_singleton _ _).symm)
    refine JL.appendQ (xs := ys.map U8) (cs := [U8 ((n >>> (8 * (size - 1 - i))).setWidth 8)]) (m := 1) (ad := some ⟨bl, 0, none⟩) (sc := 1) q Try.underlying33 u8e (fun e => by rw [(hq2 e).1]; rfl) (by rw [List.length_map]; rfl) rfl rfl (fun w' hw' => ?_) (by simp [Value.oneCell']) rfl (by rw [List.length_map]; omega) (by rw [List.length_map]; omega) rfl fun q' hq' => ?_
    · obtain ⟨o, ho, hA⟩ := hw'.get (b := bl) (A := Row 5 [U8 ((n >>> (8 * (size - 1 - i))).setWidth 8)]) (wr := true) (hasR .here)
      exact Reads.block ho (Row.all o hA)
    have e2 : ys.map U8 ++ [U8 ((n >>> (8 * (size - 1 - i))).setWidth 8)] = (xs ++ (be n size).take (i + 1)).map U8 := by rw [hy2]; simp
    rw [e2] at hq' ⊢
    rw [List.length_map]
    repeat (first | refine JL.q (by first | (apply OQ.move; exact rfl) | (apply OQ.assign; exact rfl) | (apply OQ.nilc; exact rfl) | (apply OQ.len; exact rfl; exact rfl) | (apply OQ.addN; exact rfl; exact rfl; exact (by (try simp only []); omega)) | (apply OQ.subN; exact rfl; exact rfl; exact (by (try simp only []); omega); exact (by (try simp only []); omega)) | (apply OQ.mulN; exact rfl; exact rfl; exact (by (try simp only []); omega)) | (apply OQ.remN; exact rfl; exact rfl; exact (by (try simp only []); omega)) | (apply OQ.quoN; exact rfl; exact rfl; exact (by (try simp only []); omega); exact (by (try simp only []); omega)) | (apply OQ.lssN; exact rfl; exact rfl) | (apply OQ.gtrN; exact rfl; exact rfl) | (apply OQ.idxS1; exact rfl; exact rfl; exact rfl; exact rfl; exact (by (try simp only []); omega)) | (apply OQ.fld; exact rfl; exact rfl; exact rfl; exact (by decide); exact rfl)) rfl ?_ | refine JC.seq ?_ | refine JC.region ?_ | refine JC.block ?_ | refine JC.skip ?_ | refine JC.exit ?_ | refine JL.nil ?_ | refine JE.next ?_ | refine JE.blk_normal ?_ | refine JE.then_exit ?_ | refine JE.blk_hit ?_ | refine JE.blk_miss rfl ?_ | refine JE.then_ret ?_ | refine JE.blk_ret ?_ | refine JC.label ?_ | refine JL.gon rfl rfl ?_ | refine JL.gskip rfl rfl rfl rfl ?_ | refine JL.gskipU rfl rfl rfl rfl ?_)
    refine JE.again (i := (i, q)) (i + 1, q') ⟨hi', fun e => absurd (hq' e) (by rw [hy2]; simp)⟩ (by dsimp only; omega) (by repeat (first | exact SubE.nil | refine SubE.cons _ _ _ rfl ?_)) (less_pre _ _)
  · have hi' : i = size := by have := of_decide_eq_false h; omega
    subst hi'
    cases q with
    | none => have := (hq2 rfl).2; omega
    | some r =>
      rw [List.take_of_length_le (by rw [be_len]; exact Nat.le_refl _)]
      repeat (first | refine JL.q (by first | (apply OQ.move; exact rfl) | (apply OQ.assign; exact rfl) | (apply OQ.nilc; exact rfl) | (apply OQ.len; exact rfl; exact rfl) | (apply OQ.addN; exact rfl; exact rfl; exact (by (try simp only []); omega)) | (apply OQ.subN; exact rfl; exact rfl; exact (by (try simp only []); omega); exact (by (try simp only []); omega)) | (apply OQ.mulN; exact rfl; exact rfl; exact (by (try simp only []); omega)) | (apply OQ.remN; exact rfl; exact rfl; exact (by (try simp only []); omega)) | (apply OQ.quoN; exact rfl; exact rfl; exact (by (try simp only []); omega); exact (by (try simp only []); omega)) | (apply OQ.lssN; exact rfl; exact rfl) | (apply OQ.gtrN; exact rfl; exact rfl) | (apply OQ.idxS1; exact rfl; exact rfl; exact rfl; exact rfl; exact (by (try simp only []); omega)) | (apply OQ.fld; exact rfl; exact rfl; exact rfl; exact (by decide); exact rfl)) rfl ?_ | refine JC.seq ?_ | refine JC.region ?_ | refine JC.block ?_ | refine JC.skip ?_ | refine JC.exit ?_ | refine JL.nil ?_ | refine JE.next ?_ | refine JE.blk_normal ?_ | refine JE.then_exit ?_ | refine JE.blk_hit ?_ | refine JE.blk_miss rfl ?_ | refine JE.then_ret ?_ | refine JE.blk_ret ?_ | refine JC.label ?_ | refine JL.gon rfl rfl ?_ | refine JL.gskip rfl rfl rfl rfl ?_ | refine JL.gskipU rfl rfl rfl rfl ?_)
      exact JC.ret (JE.ret1 rfl (RV.tmp rfl) fun w' hw => ⟨r, rfl, hw⟩)
end Go.Proofs.Ytopdkpeahhnihaa

/-
  Of no statement by itself: what despatchlaw14's DiskTorn gives.
  Conditions: each theorem's own.
-/
namespace Go.Proofs.Ytopdkpeahhnihaa
set_option maxRecDepth 10000
open Sl Dsk
theorem goes_speaks14 : Goes Try.prog 9 := ⟨_, Try.func9, rfl, by kernel_rfl⟩
def b78 : Bk := 7#8 :: 8#8 :: List.replicate 62 0
def b7 : Bk := 7#8 :: List.replicate 63 0
theorem newB_len (n : Nat) : (newB n).length = n := List.length_replicate
theorem speaks_crash : old (crash [5#8] ((newB 2).set 1 b78) (wrote (newB 2) [] 1)) 1 = b7 := by
  rw [crash_one (by decide)]
  rfl
theorem OQ.buildB78 {n : Nat} {E : Env} {C : World → Prop} {dst : Option Tmp} {ty : TypeId} {pos : String} {aft : Array Edge} {g : Option (Nat × Bool)} : OQ Try.prog n E C ⟨dst, .build 32 #[(0, .const (.int .u8 7)), (1, .const (.int .u8 8))], ty, pos, aft, g⟩ (.agg (bc b78).toArray) := OQ.pure rfl rfl (by kernel_rfl)
theorem OQ.buildB7 {n : Nat} {E : Env} {C : World → Prop} {dst : Option Tmp} {ty : TypeId} {pos : String} {aft : Array Edge} {g : Option (Nat × Bool)} : OQ Try.prog n E C ⟨dst, .build 32 #[(0, .const (.int .u8 7))], ty, pos, aft, g⟩ (.agg (bc b7).toArray) := OQ.pure rfl rfl (by kernel_rfl)
theorem drop1 {w0 w : World} {S : List Nat} {e : Ent} {M : List Ent} (h : Holds w0 S (e :: M) w) : Holds w0 S M w := h.weak (.drop _ _ _ (Less.refl _))
/-- bytes of a literal -/
theorem lit_away {w0 w : World} {S : List Nat} {X M : List Ent} {b cap : Nat} {e : TypeId} {l : List Bt} {wr : Bool} (hw : Holds w0 S (X ++ M) w) (hM : Has M b (Row e (l.map U8)) wr) (hc : l.length ≤ cap) : Sl8.ok w ⟨some ⟨b, 0, none⟩, cap, l⟩ ∧ Away ⟨some ⟨b, 0, none⟩, cap, l⟩ (keys X) :=
  ⟨row_ok (hw.weak (less_post _ _)) hM rfl hc, fun _ a ha => by cases ha; exact away_has hw hM⟩
set_option maxHeartbeats 16000000 in
theorem speaks14_any (w : World) : Calls Try.prog 9 [].toArray w fun e w' => e = .returned (.bool true) ∧ Ext w w' := by
  refine enter (n := 36) Try.func9 rfl rfl rfl (Holds.start w []) ?_
  repeat (first | refine JL.q (by first | (apply OQ.move; exact rfl) | (apply OQ.assign; exact rfl) | (apply OQ.nilc; exact rfl) | (apply OQ.len; exact rfl; exact rfl) | (apply OQ.addN; exact rfl; exact rfl; exact (by (try simp only []); omega)) | (apply OQ.remN; exact rfl; exact rfl; exact (by (try simp only []); omega)) | (apply OQ.lssN; exact rfl; exact rfl) | (apply OQ.gtrN; exact rfl; exact rfl) | (apply OQ.idxS; exact rfl; exact rfl; exact rfl; exact rfl; exact (by (try simp only []); omega)) | (apply OQ.fld; exact rfl; exact rfl; exact rfl; exact (by decide); exact rfl)) rfl ?_ | refine JC.seq ?_ | refine JC.region ?_ | refine JC.block ?_ | refine JC.skip ?_ | refine JC.exit ?_ | refine JL.nil ?_ | refine JE.next ?_ | refine JE.blk_normal ?_ | refine JE.then_exit ?_ | refine JE.blk_hit ?_ | refine JE.blk_miss rfl ?_ | refine JE.then_ret ?_ | refine JE.blk_ret ?_ | refine JC.label ?_ | refine JL.gon rfl rfl ?_ | refine JL.gskip rfl rfl rfl rfl ?_ | refine JL.gskipU rfl rfl rfl rfl ?_)
  refine JL.dnew (k := 2) (by decide) (by decide) rfl rfl fun x hx => ?_
  repeat (first | refine JL.q (by first | (apply OQ.extract; exact rfl; exact rfl) | (apply OQ.neB (a := 0) (b := 0) (c := true); exact rfl; exact rfl; exact rfl) | (apply OQ.ptrNil; exact Try.underlying24; exact rfl; exact rfl) | (apply OQ.pick_f; exact rfl; exact rfl) | (apply OQ.buildB78) | (apply OQ.move; exact rfl) | (apply OQ.assign; exact rfl) | (apply OQ.nilc; exact rfl) | (apply OQ.len; exact rfl; exact rfl) | (apply OQ.addN; exact rfl; exact rfl; exact (by (try simp only []); omega)) | (apply OQ.remN; exact rfl; exact rfl; exact (by (try simp only []); omega)) | (apply OQ.lssN; exact rfl; exact rfl) | (apply OQ.gtrN; exact rfl; exact rfl) | (apply OQ.idxS; exact rfl; exact rfl; exact rfl; exact rfl; exact (by (try simp only []); omega)) | (apply OQ.fld; exact rfl; exact rfl; exact rfl; exact (by decide); exact rfl)) rfl ?_ | refine JC.seq ?_ | refine JC.region ?_ | refine JC.block ?_ | refine JC.skip ?_ | refine JC.exit ?_ | refine JL.nil ?_ | refine JE.next ?_ | refine JE.blk_normal ?_ | refine JE.then_exit ?_ | refine JE.blk_hit ?_ | refine JE.blk_miss rfl ?_ | refine JE.then_ret ?_ | refine JE.blk_ret ?_ | refine JC.label ?_ | refine JL.gon rfl rfl ?_ | refine JL.gskip rfl rfl rfl rfl ?_ | refine JL.gskipU rfl rfl rfl rfl ?_)
  refine JL.dwrite (k := 1) (b := b78) hx (by rw [newB_len]; decide) rfl rfl rfl rfl rfl fun y => ?_
  have hx2 := hx.write (n := 1) (b := b78) (by rw [newB_len]; decide) rfl (by decide) y
  repeat (first | refine JL.q (by first | (apply OQ.neB (a := 0) (b := 0) (c := true); exact rfl; exact rfl; exact rfl) | (apply OQ.pick_f; exact rfl; exact rfl) | (apply OQ.move; exact rfl) | (apply OQ.assign; exact rfl) | (apply OQ.nilc; exact rfl) | (apply OQ.len; exact rfl; exact rfl) | (apply OQ.addN; exact rfl; exact rfl; exact (by (try simp only []); omega)) | (apply OQ.remN; exact rfl; exact rfl; exact (by (try simp only []); omega)) | (apply OQ.lssN; exact rfl; exact rfl) | (apply OQ.gtrN; exact rfl; exact rfl) | (apply OQ.idxS; exact rfl; exact rfl; exact rfl; exact rfl; exact (by (try simp only []); omega)) | (apply OQ.fld; exact rfl; exact rfl; exact rfl; exact (by decide); exact rfl)) rfl ?_ | refine JC.seq ?_ | refine JC.region ?_ | refine JC.block ?_ | refine JC.skip ?_ | refine JC.exit ?_ | refine JL.nil ?_ | refine JE.next ?_ | refine JE.blk_normal ?_ | refine JE.then_exit ?_ | refine JE.blk_hit ?_ | refine JE.blk_miss rfl ?_ | refine JE.then_ret ?_ | refine JE.blk_ret ?_ | refine JC.label ?_ | refine JL.gon rfl rfl ?_ | refine JL.gskip rfl rfl rfl rfl ?_ | refine JL.gskipU rfl rfl rfl rfl ?_)
  refine JC.cond_false rfl rfl ?_
  repeat (first | refine JL.q (by first | (apply OQ.move; exact rfl) | (apply OQ.assign; exact rfl) | (apply OQ.nilc; exact rfl) | (apply OQ.len; exact rfl; exact rfl) | (apply OQ.addN; exact rfl; exact rfl; exact (by (try simp only []); omega)) | (apply OQ.remN; exact rfl; exact rfl; exact (by (try simp only []); omega)) | (apply OQ.lssN; exact rfl; exact rfl) | (apply OQ.gtrN; exact rfl; exact rfl) | (apply OQ.idxS; exact rfl; exact rfl; exact rfl; exact rfl; exact (by (try simp only []); omega)) | (apply OQ.fld; exact rfl; exact rfl; exact rfl; exact (by decide); exact rfl)) rfl ?_ | refine JC.seq ?_ | refine JC.region ?_ | refine JC.block ?_ | refine JC.skip ?_ | refine JC.exit ?_ | refine JL.nil ?_ | refine JE.next ?_ | refine JE.blk_normal ?_ | refine JE.then_exit ?_ | refine JE.blk_hit ?_ | refine JE.blk_miss rfl ?_ | refine JE.then_ret ?_ | refine JE.blk_ret ?_ | refine JC.label ?_ | refine JL.gon rfl rfl ?_ | refine JL.gskip rfl rfl rfl rfl ?_ | refine JL.gskipU rfl rfl rfl rfl ?_)
  refine JL.lit1 Try.underlying33 u8e rfl rfl rfl rfl fun bl _ => ?_
  refine JL.perm ?_ (List.perm_middle.symm : (_ :: (dkE _ _ _ ++ [])).Perm _)
  refine JL.dcrash (s := ⟨some ⟨bl, 0, none⟩, 1, [5#8]⟩) hx2 (show 1 ≤ 1000000 by decide) (fun w' hw' => lit_away hw' .here (by decide)) rfl rfl rfl ?_
  have hx3 := hx2.crash [5#8]
  have hr : 1 < (crash [5#8] ((newB 2).set 1 b78) (wrote (newB 2) [] 1)).length := by rw [crash_len, List.length_set, newB_len]; decide
  repeat (first | refine JL.q (by first | (apply OQ.callx (vs := [Pt x.p 0, N 1]); exact goes_dread; exact rfl; exact (fun w' hw' => dread_ok ⟨x.p, x.q, x.cap, none⟩ _ _ 1 hr hx3.ok hw')) | (apply OQ.extract; exact rfl; exact rfl) | (apply OQ.move; exact rfl) | (apply OQ.assign; exact rfl) | (apply OQ.nilc; exact rfl) | (apply OQ.len; exact rfl; exact rfl) | (apply OQ.addN; exact rfl; exact rfl; exact (by (try simp only []); omega)) | (apply OQ.remN; exact rfl; exact rfl; exact (by (try simp only []); omega)) | (apply OQ.lssN; exact rfl; exact rfl) | (apply OQ.gtrN; exact rfl; exact rfl) | (apply OQ.idxS; exact rfl; exact rfl; exact rfl; exact rfl; exact (by (try simp only []); omega)) | (apply OQ.fld; exact rfl; exact rfl; exact rfl; exact (by decide); exact rfl)) rfl ?_ | refine JC.seq ?_ | refine JC.region ?_ | refine JC.block ?_ | refine JC.skip ?_ | refine JC.exit ?_ | refine JL.nil ?_ | refine JE.next ?_ | refine JE.blk_normal ?_ | refine JE.then_exit ?_ | refine JE.blk_hit ?_ | refine JE.blk_miss rfl ?_ | refine JE.then_ret ?_ | refine JE.blk_ret ?_ | refine JC.label ?_ | refine JL.gon rfl rfl ?_ | refine JL.gskip rfl rfl rfl rfl ?_ | refine JL.gskipU rfl rfl rfl rfl ?_)
  refine JL.alloc dkZ rfl fun b3 _ => ?_
  rw [speaks_crash]
  refine JL.store_all (cs := bc b7) dkB rfl rfl rfl rfl .here rfl ?_
  repeat (first | refine JL.q (by first | (apply OQ.eqB (a := 0) (b := 0) (c := true); exact rfl; exact rfl; exact rfl) | (apply OQ.load_agg (cs := bc b7); exact dkAg; exact dkB; exact rfl; exact .here; exact rfl; exact Row.all) | (apply OQ.buildB7) | (apply OQ.eqA_t (r := b7) (q := b7); exact Try.underlying32; exact Try.underlying5; exact u8s; exact gdBlk; exact rfl; exact rfl; exact rfl; exact rfl; exact rfl) | (apply OQ.pick_t; exact rfl; exact rfl) | (apply OQ.move; exact rfl) | (apply OQ.assign; exact rfl) | (apply OQ.nilc; exact rfl) | (apply OQ.len; exact rfl; exact rfl) | (apply OQ.addN; exact rfl; exact rfl; exact (by (try simp only []); omega)) | (apply OQ.remN; exact rfl; exact rfl; exact (by (try simp only []); omega)) | (apply OQ.lssN; exact rfl; exact rfl) | (apply OQ.gtrN; exact rfl; exact rfl) | (apply OQ.idxS; exact rfl; exact rfl; exact rfl; exact rfl; exact (by (try simp only []); omega)) | (apply OQ.fld; exact rfl; exact rfl; exact rfl; exact (by decide); exact rfl)) rfl ?_ | refine JC.seq ?_ | refine JC.region ?_ | refine JC.block ?_ | refine JC.skip ?_ | refine JC.exit ?_ | refine JL.nil ?_ | refine JE.next ?_ | refine JE.blk_normal ?_ | refine JE.then_exit ?_ | refine JE.blk_hit ?_ | refine JE.blk_miss rfl ?_ | refine JE.then_ret ?_ | refine JE.blk_ret ?_ | refine JC.label ?_ | refine JL.gon rfl rfl ?_ | refine JL.gskip rfl rfl rfl rfl ?_ | refine JL.gskipU rfl rfl rfl rfl ?_)
  exact JC.ret (JE.ret1 rfl (RV.tmp rfl) fun w' hw => ⟨rfl, hw.chg⟩)
end Go.Proofs.Ytopdkpeahhnihaa

/-
  Of no statement by itself: two marks compared; slices of a block's bytes.
  Conditions: each theorem's own.
-/
namespace Go.Proofs.Ytopdkpeahhnihaa
set_option maxRecDepth 10000
open Sl Dsk Jrn
section
variable {n : Nat} {E : Env} {C : World → Prop} {dst : Option Tmp} {t t' e ty : TypeId} {pos : String} {aft : Array Edge} {g : Option (Nat × Bool)} {x y z : Operand}
theorem gdMk : Try.prog.eqGuardType Try.prog.depth 109 = false := by kernel_rfl
set_option maxHeartbeats 4000000 in
theorem OQ.neM {m m' : Mk} {r : Bool} (hx : ev E x = some (.agg (mkc m).toArray)) (hy : ev E y = some (.agg (mkc m').toArray)) (h : decide (m = m') = r) :
    OQ Try.prog n E C ⟨dst, .binOp .neq 109 x y t', ty, pos, aft, g⟩ (.bool (!r)) :=
  OQ.run fun k hk w _ => by
    have e1 := hk.eval hx
    have e2 := hk.eval hy
    have h4 := fun w => run_eqGuard_agg (P := Try.prog) (w := w) .neq 109 x y (mkc m).toArray (mkc m').toArray gdMk
    have h5 := fun w => run_neq_struct (P := Try.prog) (w := w) 109 (mkc m).toArray (mkc m').toArray
    have hf : Try.prog.fieldsOf 109 = match Try.prog.underlying 109 with | some (.struct fs) => fs | _ => #[] := by kernel_rfl
    have ei : ∀ (k : IntKind) (t : TypeId) (a b : Int) (w : World), Try.prog.underlying t = some (.int k) → (Op.equalIn 9999 t (.int k a) (.int k b)).run Try.prog w = .ok (a == b) w := fun k t a b w ht => run_equalIn_int (w := w) 9998 t k k a b ht
    have eb : ∀ (a b : Bool) (w : World), (Op.equalIn 9999 4 (.bool a) (.bool b)).run Try.prog w = .ok (a == b) w := fun a b w => run_equalIn_bool w 9998 _ a b Try.underlying4
    have p0 : ∀ (a b c d : Value) w, (part 84 #[a, b, c, d] 0).run Try.prog w = .ok a w := fun a b c d w => by simp [part, isAgg_scal u32C]
    have p1 : ∀ (a b c d : Value) w, (part 84 #[a, b, c, d] 1).run Try.prog w = .ok b w := fun a b c d w => by simp [part, isAgg_scal u32C]
    have p2 : ∀ (a b c d : Value) w, (part 107 #[a, b, c, d] 2).run Try.prog w = .ok c w := fun a b c d w => by simp [part, isAgg_scal u16C]
    have p3 : ∀ (a b c d : Value) w, (part 4 #[a, b, c, d] 3).run Try.prog w = .ok d w := fun a b c d w => by simp [part, isAgg_scal boolC]
    have h3 : (Op.equalIn 10000 109 (.agg (mkc m).toArray) (.agg (mkc m').toArray)).run Try.prog w = .ok r w := by
      rw [show (10000 : Nat) = 9999 + 1 from rfl, run_equalIn_struct (w := w) 9999 _ _ _ (by kernel_rfl) (by kernel_rfl), hf, Try.underlying109]
      subst h
      obtain ⟨g1, r1, q1, l1⟩ := m
      obtain ⟨g2, r2, q2, l2⟩ := m'
      have d1 : ((g1.toNat : Int) == (g2.toNat : Int)) = decide (g1 = g2) := by
        rw [Bool.eq_iff_iff, beq_iff_eq, decide_eq_true_eq]
        exact ⟨fun h => BitVec.eq_of_toNat_eq (by omega), fun h => by rw [h]⟩
      have d2 : ((r1.toNat : Int) == (r2.toNat : Int)) = decide (r1 = r2) := by
        rw [Bool.eq_iff_iff, beq_iff_eq, decide_eq_true_eq]
        exact ⟨fun h => BitVec.eq_of_toNat_eq (by omega), fun h => by rw [h]⟩
      have d3 : ((q1.toNat : Int) == (q2.toNat : Int)) = decide (q1 = q2) := by
        rw [Bool.eq_iff_iff, beq_iff_eq, decide_eq_true_eq]
        exact ⟨fun h => BitVec.eq_of_toNat_eq (by omega), fun h => by rw [h]⟩
      simp only [mkc, U32, U16, Op.eqFields, Sem.run_bind, p0, p1, p2, p3, Result.andThen_ok]
      by_cases c1 : g1 = g2 <;> by_cases c2 : r1 = r2 <;> by_cases c3 : q1 = q2 <;> by_cases c4 : l1 = l2 <;> simp [c1, c2, c3, c4, d1, d2, d3, ei _ _ _ _ _ Try.underlying84, ei _ _ _ _ _ Try.underlying107, eb, p0, p1, p2, p3, Op.eqFields, Sem.run_bind]
    simp only [execOp, e1, e2, Sem.run_bind, h4, Result.andThen_ok, h5, h3]
    rfl
end
end Go.Proofs.Ytopdkpeahhnihaa
