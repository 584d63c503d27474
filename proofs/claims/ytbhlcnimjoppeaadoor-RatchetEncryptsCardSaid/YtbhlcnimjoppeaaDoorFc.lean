/-
  Of no statement by itself: the texts KdfG, Sliv, Slgr, NumA, SealA, StrQ, StrR, StrM, StrO, StrT, StrU, StrV, SealB, CrvA, CrvB, CrvC, CrvD, CrvE, CrvG in one.
  Conditions: each theorem's own.
-/
import Derived.Test.YtbhlcnimjoppeaaDoorFb
import Derived.Test.YtbhlcnimjoppeaaDoorProg
import Init
set_option linter.unusedSimpArgs false
set_option linter.unusedVariables false
/-
  Of no statement by itself: what the reference's Keys gives.
  Conditions: the theorem's own.
-/
namespace Go.Proofs.YtbhlcnimjoppeaaDoor
set_option maxRecDepth 10000
open Sl Sha

theorem goes_rkeys : Goes Tryd.prog 60 := ⟨_, Tryd.func60, rfl, by kernel_rfl⟩
def kj (l : List B) (i j : Nat) : List Value := (((l.drop (32 * i)).take j) ++ List.replicate (32 - j) 0).map U8
theorem kj_length (l : List B) (i j m : Nat) (hl : l.length = 32 * m) (hi : i < m) (hj : j ≤ 32) : (kj l i j).length = 32 := by
  simp [kj]; omega
theorem kj_set (l : List B) (i j m : Nat) (hl : l.length = 32 * m) (hi : i < m) (hj : j < 32) : (kj l i j).set j (U8 (l.getD (32 * i + j) 0)) = kj l i (j + 1) := by
  have h1 : ((l.drop (32 * i)).take j).length = j := by simp; omega
  have h2 : j < (l.drop (32 * i)).length := by simp; omega
  rw [kj, kj, ← List.map_set, List.set_append_right _ _ (by omega), h1, Nat.sub_self, show 32 - j = (32 - (j + 1)) + 1 by omega, List.replicate_succ, List.set_cons_zero, List.take_succ_eq_append_getElem h2, List.append_assoc]
  congr 2
  simp [List.getD, show 32 * i + j < l.length by omega]
theorem kj_all (l : List B) (i : Nat) : kj l i 32 = ((l.drop (32 * i)).take 32).map U8 := by simp [kj]

set_option maxHeartbeats 16000000 in
theorem rkeys_any (k s : Sl8) (p : ByteArray) (m : Nat) (hm : m ≤ 255) (w : World) (hk : k.ok w) (hs : s.ok w) (hkl : k.l.length < 35184372088000) (hsl : s.l.length < 35184372088000) (hpl : p.size < 35184372080000) :
    Calls Tryd.prog 60 [k.v, s.v, .string p, N m].toArray w fun e w' => ∃ x : Nat × Nat, e = .returned (.slice (some ⟨x.1, 0, none⟩) m x.2) ∧ Holds w [] [⟨x.1, Sl.Own 23 32 m x.2 ((expd (hmac k.l s.l) (bytesOf p) (32 * m)).map U8), true⟩] w' := by
  refine enter (n := 47) Tryd.func60 rfl rfl rfl (Holds.start w []) ?_
  repeat (first | refine JL.q (by first | (apply OQ.callx; exact goes_rextract; exact rfl; exact (fun w' hw' => rextract_any k s w' (hk.holds hw' rfl) (hs.holds hw' rfl) hkl hsl)) | (apply OQ.move; exact rfl) | (apply OQ.assign; exact rfl)) rfl ?_ | refine JC.seq ?_ | refine JC.region ?_ | refine JL.nil ?_ | refine JE.next ?_)
  refine JL.s2b Tryd.underlying9 Tryd.underlying27 Tryd.underlying5 rfl rfl fun b18 cap18 => ?_
  repeat (refine JL.q (by first | (apply OQ.move; exact rfl) | (apply OQ.mulN; exact rfl; exact rfl; exact (by (try simp only []); omega))) rfl ?_)
  refine JL.callg (ι := { s' : Sl8 // Gave s' (expd (hmac k.l s.l) (bytesOf p) (32 * m)) s'.cap }) (fun i => i.1.v) (fun i => i.1.ents) goes_rexpand rfl rfl (fun i => Sl8.ents_wr _) (fun w' hw' => (rexpand_any (hmac k.l s.l) (hmac_length _ _) ⟨some ⟨b18, 0, none⟩, cap18, bytesOf p⟩ (32 * m) (by omega) w' (Sl8.ents_ok hw' (fun h => by cases h)) (by rw [bytesOf_length]; exact hpl)).mono fun e w2 ⟨s', h1, h2, h3⟩ => ⟨⟨s', h2⟩, h1, h3⟩) ?_
  rintro ⟨s', hs'⟩
  try dsimp only
  repeat (first | refine JL.q (by (apply OQ.assign; exact rfl)) rfl ?_ | refine JC.seq ?_ | refine JC.region ?_ | refine JL.nil ?_ | refine JE.next ?_)
  refine JL.litZ Tryd.underlying96 e25 rfl fun b22 _ => ?_
  repeat (first | refine JL.q (by (apply OQ.assign; exact rfl)) rfl ?_ | refine JC.seq ?_ | refine JC.region ?_ | refine JC.block ?_ | refine JL.nil ?_ | refine JE.next ?_)
  have hl : s'.l.length = 32 * m := by rw [hs'.val, expd_length]
  refine JC.loop (ι := Nat × Nat × Nat) (fun i => [(3, N m), (9, s'.v), (10, .slice (some ⟨i.2.1, 0, none⟩) i.1 i.2.2), (11, N i.1)]) (fun i => ⟨i.2.1, Sl.Own 23 32 i.1 i.2.2 ((s'.l.take (32 * i.1)).map U8), true⟩ :: s'.ents)
    (fun i => m - i.1) (fun i => i.1 ≤ m) (0, b22, 0) (by dsimp only; omega) (by repeat (first | exact SubE.nil | refine SubE.cons _ _ _ rfl ?_)) (.keep _ _ _ _ _ _ (fun _ h => h) (less_pre _ _)) ?_
  rintro ⟨i, b10, cap10⟩ hi
  dsimp only at hi ⊢
  repeat (first | refine JL.q (by first | (apply OQ.move; exact rfl) | (apply OQ.lssN; exact rfl; exact rfl)) rfl ?_ | refine JC.seq ?_ | refine JC.region ?_ | refine JL.nil ?_ | refine JE.next ?_)
  refine JC.cond rfl (fun h => ?_) (fun h => ?_)
  · have hi' : i < m := of_decide_eq_true h
    clear h hi
    obtain ⟨ad, cap, l⟩ := s'
    cases ad with
    | none =>
      have : l = [] := hs'.none rfl
      have hl : l.length = 32 * m := hl
      rw [this] at hl
      simp at hl
      omega
    | some a =>
    obtain ⟨b, j0, sp⟩ := a
    refine JC.fact (.there .here) (fun o ho => ho.2.2) fun hsp => ?_
    have hsp : sp = none := hsp
    subst hsp
    have hl : l.length = 32 * m := hl
    repeat (first | refine JC.seq ?_ | refine JC.region ?_ | refine JC.block ?_ | refine JC.skip ?_ | refine JE.next ?_)
    refine JL.q (OQ.pure (v := .agg ((List.replicate 32 (0 : B)).map U8).toArray) rfl rfl (by kernel_rfl)) rfl ?_
    refine JL.alloc zc25 rfl fun b12 _ => ?_
    refine JL.store_all s25 rfl rfl (by simp) (all8 _) .here (by simp) ?_
    repeat (first | refine JL.q (by (apply OQ.assign; exact rfl)) rfl ?_ | refine JC.seq ?_ | refine JC.region ?_ | refine JC.block ?_ | refine JL.nil ?_ | refine JE.next ?_)
    refine JC.loop (fun j : Nat => [(3, N m), (9, .slice (some ⟨b, j0, none⟩) l.length cap), (10, .slice (some ⟨b10, 0, none⟩) i cap10), (11, N i), (12, Pt b12 0), (13, N j)])
      (fun j => [⟨b12, Row 23 (kj l i j), true⟩, ⟨b10, Sl.Own 23 32 i cap10 ((l.take (32 * i)).map U8), true⟩, ⟨b, fun o => hasCells o j0 (l.map U8) ∧ l.length ≤ cap ∧ (none : Option Nat) = none, true⟩]) (fun j => 32 - j) (fun j => j ≤ 32) 0 (by omega) (by repeat (first | exact SubE.nil | refine SubE.cons _ _ _ rfl ?_))
      (.keep _ _ _ _ _ _ (fun o ho => by simpa [kj] using ho) (.keep _ _ _ _ _ _ (fun _ h => h) (.keep _ _ _ _ _ _ (fun _ h => h) (Less.nil _)))) ?_
    intro j hj
    repeat (first | refine JL.q (by first | (apply OQ.move; exact rfl) | (apply OQ.lssN; exact rfl; exact rfl)) rfl ?_ | refine JC.seq ?_ | refine JC.region ?_ | refine JL.nil ?_ | refine JE.next ?_)
    refine JC.cond rfl (fun h => ?_) (fun h => ?_)
    · have hj' : j < 32 := of_decide_eq_true h
      clear h hj
      have hx : 32 * i + j < l.length := by omega
      have hat := map_at (r := l) U8 0 hx
      repeat (first | refine JL.q (by first | (apply OQ.idxS1; exact Tryd.underlying27; exact s5; exact rfl; exact rfl; exact hx) | (apply OQ.load; exact c5; exact rfl; exact (.there (.there .here)); exact (fun o ho => has_cell ho.1 hat)) | (apply OQ.move; exact rfl) | (apply OQ.addN; exact rfl; exact rfl; exact (by (try simp only []); omega)) | (apply OQ.mulN; exact rfl; exact rfl; exact (by (try simp only []); omega)) | (apply OQ.idxA0; exact rfl; exact rfl; exact rfl; exact rfl; exact (by (try simp only []); omega))) rfl ?_ | refine JC.seq ?_ | refine JC.region ?_ | refine JC.block ?_ | refine JC.skip ?_ | refine JE.next ?_)
      refine JL.store_eq s5 rfl rfl rfl rfl .here (by rw [kj_length l i j m hl hi' (by omega)]; exact hj') (kj_set l i j m hl hi' hj') ?_
      repeat (first | refine JL.q (by first | (apply OQ.move; exact rfl) | (apply OQ.assign; exact rfl) | (apply OQ.addN; exact rfl; exact rfl; exact (by (try simp only []); omega))) rfl ?_ | refine JC.region ?_ | refine JL.nil ?_ | refine JE.next ?_ | refine JE.blk_normal ?_)
      exact JE.again (i := j) (j + 1) (by omega) (by omega) (by repeat (first | exact SubE.nil | refine SubE.cons _ _ _ rfl ?_)) (Less.refl _)
    · have hj' : ¬ j < 32 := of_decide_eq_false h
      obtain rfl : j = 32 := by omega
      clear h hj hj'
      have hkl' := kj_length l i 32 m hl hi' (Nat.le_refl _)
      rw [kj_all] at hkl' ⊢
      repeat (first | refine JL.q (by first | (apply OQ.load_agg (cs := ((l.drop (32 * i)).take 32).map U8); exact a25; exact s25; exact rfl; exact .here; exact hkl'; exact Row.all) | (apply OQ.move; exact rfl)) rfl ?_ | refine JC.region ?_ | refine JC.exit ?_ | refine JE.next ?_ | refine JE.then_exit ?_ | refine JE.blk_hit ?_)
      refine JL.litA Tryd.underlying96 e25 rfl (by decide) (by decide) rfl hkl' rfl fun b44 _ => ?_
      refine JL.append (cs := ((l.drop (32 * i)).take 32).map U8) (fun b' cap' => [⟨b44, Row 23 (((l.drop (32 * i)).take 32).map U8), true⟩, ⟨b12, Row 23 (((l.drop (32 * i)).take 32).map U8), true⟩, ⟨b', Sl.Own 23 32 (i + 1) cap' ((l.take (32 * i)).map U8 ++ ((l.drop (32 * i)).take 32).map U8), true⟩, ⟨b, fun o => hasCells o j0 (l.map U8) ∧ l.length ≤ cap ∧ (none : Option Nat) = none, true⟩]) Tryd.underlying96 e25 rfl rfl (by intro _ _; repeat (first | exact Repl.here | apply Repl.there)) hkl' (fun w' hw' => ?_) (of_u8 _) rfl (by decide) (by omega) (by omega) rfl fun b10' cap10' => ?_
      · obtain ⟨o, ho, hA⟩ := hw'.get .here
        exact Reads.block ho (Row.all _ hA)
      rw [← List.map_append, ← List.take_add, show 32 * i + 32 = 32 * (i + 1) by omega]
      repeat (first | refine JL.q (by first | (apply OQ.move; exact rfl) | (apply OQ.assign; exact rfl) | (apply OQ.addN; exact rfl; exact rfl; exact (by (try simp only []); omega))) rfl ?_ | refine JC.region ?_ | refine JL.nil ?_ | refine JE.next ?_ | refine JE.blk_normal ?_)
      exact JE.again (ι := Nat × Nat × Nat) (i := (i, b10, cap10)) (i + 1, b10', cap10') (by dsimp only; omega) (by dsimp only; omega) (by repeat (first | exact SubE.nil | refine SubE.cons _ _ _ rfl ?_)) (.drop _ _ _ (.drop _ _ _ (Less.refl _)))
  · have hi' : ¬ i < m := of_decide_eq_false h
    obtain rfl : i = m := by omega
    clear h hi hi'
    repeat (first | refine JL.q (by first | (apply OQ.move; exact rfl) | (apply OQ.assign; exact rfl)) rfl ?_ | refine JC.seq ?_ | refine JC.region ?_ | refine JC.exit ?_ | refine JL.nil ?_ | refine JE.next ?_ | refine JE.then_exit ?_ | refine JE.blk_hit ?_)
    refine JC.ret ?_
    skip
    refine JE.ret1 rfl (RV.tmp rfl) fun w' hw => ⟨(b10, cap10), rfl, hw.weak (.keep _ _ _ _ _ _ (fun o ho => ?_) (Less.nil _))⟩
    rw [List.take_of_length_le (by omega), hs'.val] at ho
    exact ho
end Go.Proofs.YtbhlcnimjoppeaaDoor

/-
  Of no statement by itself: calls through an interface's value, told as calls of the method that its type has; for any program P.
  Conditions: each rule's own hypotheses.
-/
namespace Go.Proofs.YtbhlcnimjoppeaaDoor
set_option maxRecDepth 10000
namespace Sl
section
variable {P : Program} {n : Nat} {w0 : World} {S : List Nat} {ops : Array Oper} {Q : Exit → Act → World → Prop} {l : List Oper} {E : Env} {M : List Ent} {C : World → Prop}
variable {dst : Option Tmp} {d : Nat} {t ty : TypeId} {pos name : String} {aft : Array Edge} {g : Option (Nat × Bool)} {r : Operand} {v u : Value} {f : FuncId} {xs : List Operand} {ats ats' : Array TypeId}
/-- type t's method of that name is f, which takes v as it is -/
def IsMeth (P : Program) (t : TypeId) (v : Value) (name : String) (f : FuncId) : Prop := pur P (Go.method (P.types.size + Made.depth) t v name) = some (f, v)
theorem exec_inv {a : Act} (hm : IsMeth P t v name f) (hk : Knows n E a) (hr : ev E r = some (.iface t v)) (w : World) :
    (execOp a.eval ⟨dst, .call ⟨.invoke r name, xs.toArray, ats⟩, ty, pos, aft, g⟩).run P w = (execOp a.eval ⟨dst, .call ⟨.value (.func f), (.const v :: xs).toArray, ats'⟩, ty, pos, aft, g⟩).run P w := by
  have h1 := hk.eval hr
  have h2 : (Go.method (P.types.size + Made.depth) t v name).run P w = .ok (f, v) w := pur_run hm
  have e2 : a.eval (.func f) = .func (.func f) #[] #[] := rfl
  have e3 : a.eval (.const v) = v := rfl
  have e4 : List.take xs.length (List.map a.eval xs) = List.map a.eval xs := List.take_of_length_le (by simp)
  simp only [execOp, resolve, Sem.run_bind, Sem.run_pure, Result.andThen_ok, e2, Deferred.ofValue, invoke]
  simp [h1, callMethod, program, Sem.run_bind, Sem.run, h2, e3, e4]
theorem OQ.inv (hm : IsMeth P t v name f) (hr : ev E r = some (.iface t v)) (h : OQ P n E C ⟨dst, .call ⟨.value (.func f), (.const v :: xs).toArray, ats⟩, ty, pos, aft, g⟩ u) : OQ P n E C ⟨dst, .call ⟨.invoke r name, xs.toArray, ats⟩, ty, pos, aft, g⟩ u := by
  refine ⟨fun a ha w hw => ?_⟩
  have h1 := h.go a ha w hw
  unfold Oper.quietAt at h1 ⊢
  rw [exec_inv hm ha hr]
  exact h1
end
end Sl
end Go.Proofs.YtbhlcnimjoppeaaDoor

/-
  Of no statement by itself: Slg's rule for regions whose order is open, with any relation between what an operation makes and what the one it stems from made.
  Conditions: the rule's own hypotheses.
-/
namespace Go.Proofs.YtbhlcnimjoppeaaDoor
namespace Sl
variable {Y : Type}
structure GrowR (Y : Type) where
  E0 : Env
  N : Nat
  v : Nat → Y → Value
  M : Nat → Y → List Ent
  need : Nat → List (Nat × Nat)
  inp : Nat → List Nat
  eat : Nat → List Nat
  src : Nat → Option Nat
  E1 : Nat → Env
  R : Nat → Y → Y → Prop
/-- what is known at first of a slot that a later operation writes -/
def GrowR.okE1 (g : GrowR Y) (l : List Oper) (i : Nat) : Bool :=
  (g.E1 i).all fun p => (List.range l.length).all fun k => dstOf l k != some p.1 || (k != i && behindOf l k i)
def GrowR.okOp (g : GrowR Y) (l : List Oper) (i : Nat) (o : Oper) : Bool :=
  (((g.need i).all (fun p => behind o p.1 && dstOf l p.1 == some p.2) && srcOk o (g.src i)) && g.okE1 l i) &&
  ((g.inp i).all (fun j => decide (j < g.N) && (decide (l.length ≤ j) || behind o j)) &&
  ((g.eat i).all (fun j => (g.inp i).contains j) &&
  ((List.range l.length).all (fun k => k == i || (g.eat k).all fun j => !(g.inp i).contains j || behindOf l k i) &&
  (noDup (g.inp i) && (o.after.toList.all (fun e => !Region.binds .any e || decide (e.on < i)) && apartD l g.E0 i o.dst)))))
def GrowR.okFrom (g : GrowR Y) (l : List Oper) : Nat → List Oper → Bool
  | _, [] => true
  | i, o :: r => g.okOp l i o && g.okFrom l (i + 1) r
theorem GrowR.okFrom_at {g : GrowR Y} {l : List Oper} : ∀ {r : List Oper} {i : Nat}, g.okFrom l i r = true → ∀ {j o}, r[j]? = some o → g.okOp l (i + j) o = true
  | [], _, _, j, o, h => by simp at h
  | q :: r, i, hk, j, o, h => by
    simp only [GrowR.okFrom, Bool.and_eq_true] at hk
    cases j with
    | zero =>
      simp only [List.getElem?_cons_zero, Option.some.injEq] at h
      subst h
      exact hk.1
    | succ j =>
      have := GrowR.okFrom_at hk.2 (j := j) (o := o) (by simpa using h)
      rwa [show i + 1 + j = i + (j + 1) by omega] at this
def GrowR.Job (g : GrowR Y) (P : Program) (n : Nat) (w0 : World) (S : List Nat) (l : List Oper) (i : Nat) (o : Oper) : Prop :=
  ∀ (x : Nat → Y) (EF : Env) (MF : List Ent) (Q : Exit → Act → World → Prop),
    (∀ xi : Y, (∀ k, g.src i = some k → g.R i xi (x k)) → JE n w0 S Q .normal (slot o.dst (g.v i xi) ++ ((g.need i).map (fun p => (p.2, g.v p.1 (x p.1))) ++ (g.E0 ++ (g.E1 i ++ EF)))) (g.M i xi ++ (((g.inp i).filter fun j => !(g.eat i).contains j).flatMap (fun j => g.M j (x j)) ++ MF))) →
    JL P n w0 S l.toArray Q [o] ((g.need i).map (fun p => (p.2, g.v p.1 (x p.1))) ++ (g.E0 ++ (g.E1 i ++ EF))) ((g.inp i).flatMap (fun j => g.M j (x j)) ++ MF)
def GrowR.Jobs (g : GrowR Y) (P : Program) (n : Nat) (w0 : World) (S : List Nat) (l : List Oper) : Nat → List Oper → Prop
  | _, [] => True
  | i, o :: r => g.Job P n w0 S l i o ∧ g.Jobs P n w0 S l (i + 1) r
theorem GrowR.Jobs_at {g : GrowR Y} {P : Program} {n : Nat} {w0 : World} {S : List Nat} {l : List Oper} : ∀ {r : List Oper} {i : Nat}, g.Jobs P n w0 S l i r → ∀ {j o}, r[j]? = some o → g.Job P n w0 S l (i + j) o
  | [], _, _, j, o, h => by simp at h
  | q :: r, i, hk, j, o, h => by
    cases j with
    | zero =>
      simp only [List.getElem?_cons_zero, Option.some.injEq] at h
      subst h
      exact hk.1
    | succ j =>
      have := GrowR.Jobs_at hk.2 (j := j) (o := o) (by simpa using h)
      rwa [show i + 1 + j = i + (j + 1) by omega] at this

/-- which makings stand -/
def GrowR.live (g : GrowR Y) (m : Nat) (done : Array Bool) (j : Nat) : Prop := j < g.N ∧ (m ≤ j ∨ done.getD j false = true) ∧ ∀ k, done.getD k false = true → j ∉ g.eat k
structure GrowR.Inv (g : GrowR Y) (n : Nat) (w0 : World) (S : List Nat) (l : List Oper) (done : Array Bool) (x : Nat → Y) (a : Act) (w : World) : Prop where
  size : a.tmps.size = n
  defers : a.defers = []
  dsize : done.size = l.length
  base : ∀ p ∈ g.E0, a.tmps.getD p.1 undef = p.2
  first : ∀ j, j < l.length → done.getD j false = false → ∀ p ∈ g.E1 j, a.tmps.getD p.1 undef = p.2
  vals : ∀ j d, done.getD j false = true → dstOf l j = some d → a.tmps.getD d undef = g.v j (x j)
  rel : ∀ j k, done.getD j false = true → g.src j = some k → g.R j (x j) (x k)
  down : ∀ j i, done.getD j false = true → behindOf l j i = true → done.getD i false = true
  mem : HoldsI w0 S (g.live l.length done) (fun j => g.M j (x j)) w

section
variable {P : Program} {n : Nat} {w0 : World} {S : List Nat} {Q : Exit → Act → World → Prop} {E : Env} {M : List Ent} {g : GrowR Y} {l : List Oper}
theorem GrowR.run (hok : g.okFrom l 0 l = true) (hj : g.Jobs P n w0 S l 0 l)
    (hend : ∀ done x a w, g.Inv n w0 S l done x a w → (∀ j, j < l.length → done.getD j false = true) → Q .normal a w) :
    ∀ (f : Nat) (done : Array Bool) (x : Nat → Y) (a : Act) (w : World), f = (List.range l.length).countP (fun j => !done.getD j false) → g.Inv n w0 S l done x a w → wpAny P .any l.toArray Q f done a w := by
  have hrdy : ∀ done : Array Bool, done.size = l.length → Region.ready .any l.toArray done = [] → ∀ j, j < l.length → done.getD j false = true := by
    intro done hds hr j
    induction j using Nat.strongRecOn with
    | _ j ih =>
      intro hjl
      cases hd : done.getD j false with
      | true => rfl
      | false =>
        obtain ⟨o, ho⟩ : ∃ o, l[j]? = some o := ⟨_, List.getElem?_eq_getElem hjl⟩
        have hk := GrowR.okFrom_at hok ho
        simp only [GrowR.okOp, Bool.and_eq_true, Nat.zero_add] at hk
        have hkk := hk.2.2.2.2.2.1
        have : j ∈ Region.ready .any l.toArray done := by
          rw [mem_ready]
          refine ⟨?_, o, by simpa using ho, fun e he hb => ?_⟩
          · rw [Array.getD_eq_getD_getElem?, Array.getElem?_eq_getElem (by omega)] at hd ⊢
            simpa using hd
          · have := List.all_eq_true.1 hkk e (by simpa using he)
            simp only [hb, Bool.not_true, Bool.false_or, decide_eq_true_eq] at this
            exact ih e.on this (by omega)
        rw [hr] at this
        cases this
  intro f
  induction f with
  | zero =>
    intro done x a w hf hI
    have hall : ∀ j, j < l.length → done.getD j false = true := fun j hjl => by
      have := List.countP_eq_zero.1 hf.symm j (List.mem_range.2 hjl)
      simpa using this
    refine ⟨?_, hend done x a w hI hall⟩
    refine List.eq_nil_iff_forall_not_mem.2 fun i hi => ?_
    obtain ⟨hu, o, ho, _⟩ := mem_ready.1 hi
    have hil : i < l.length := by
      have := (Array.getElem?_eq_some_iff.1 ho).1
      simpa using this
    have := hall i hil
    rw [Array.getD_eq_getD_getElem?, Array.getElem?_eq_getElem (by have := hI.dsize; omega)] at hu this
    simp only [Option.getD_some] at hu this
    rw [hu] at this
    cases this
  | succ f ih =>
    intro done x a w hf hI
    have hds := hI.dsize
    refine ⟨fun h0 => hend done x a w hI (hrdy done hds h0), fun i hi => ?_⟩
    obtain ⟨hu, o, ho, hbe⟩ := mem_ready.1 hi
    have hil : i < l.length := by
      have := (Array.getElem?_eq_some_iff.1 ho).1
      simpa using this
    have ho' : l[i]? = some o := by simpa using ho
    have hu' : done.getD i false = false := by
      rw [Array.getD_eq_getD_getElem?, Array.getElem?_eq_getElem (by omega)] at hu ⊢
      simpa using hu
    have hk := GrowR.okFrom_at hok ho'
    simp only [GrowR.okOp, Bool.and_eq_true, Nat.zero_add] at hk
    obtain ⟨⟨⟨k1, k8⟩, k9⟩, k2, k3, k4, k5, _, k7⟩ := hk
    have hbeh : ∀ j, behind o j = true → done.getD j false = true := fun j hj => by
      simp only [behind, List.any_eq_true, Bool.and_eq_true, beq_iff_eq] at hj
      obtain ⟨e, he, rfl, hb⟩ := hj
      exact hbe e (by simpa using he) hb
    have hbi : ∀ k, behindOf l k i = true → done.getD k false = false := fun k hk => by
      cases h : done.getD k false with
      | false => rfl
      | true => have := hI.down k i h hk; rw [hu'] at this; cases this
    have hinp : ∀ j ∈ g.inp i, g.live l.length done j := by
      intro j hj
      have h2 := List.all_eq_true.1 k2 j hj
      simp only [Bool.and_eq_true, Bool.or_eq_true, decide_eq_true_eq] at h2
      refine ⟨h2.1, h2.2.imp id (hbeh j), fun k hkd hjk => ?_⟩
      have hkl : k < l.length := by
        by_cases h : k < l.length
        · exact h
        · rw [Array.getD_eq_getD_getElem?, Array.getElem?_eq_none (by omega)] at hkd
          cases hkd
      have h4 := List.all_eq_true.1 k4 k (List.mem_range.2 hkl)
      have hki : k ≠ i := fun e => by rw [e, hu'] at hkd; cases hkd
      simp only [Bool.or_eq_true, beq_iff_eq, hki, false_or] at h4
      have h5 := List.all_eq_true.1 h4 j hjk
      simp only [Bool.or_eq_true, Bool.not_eq_true', List.contains_eq_mem, decide_eq_false_iff_not, hj, not_true, false_or] at h5
      rw [hbi k h5] at hkd
      cases hkd
    have hdone_ne : ∀ j, done.getD j false = true → j ≠ i := fun j hj e => by rw [e, hu'] at hj; cases hj
    have hlen : ∀ k, done.getD k false = true → k < l.length := fun k hkd => by
      by_cases h : k < l.length
      · exact h
      · rw [Array.getD_eq_getD_getElem?, Array.getElem?_eq_none (by omega)] at hkd
        cases hkd
    have hdi : dstOf l i = o.dst := by simp [dstOf, ho']
    have hne : ∀ j d, done.getD j false = true → dstOf l j = some d → o.dst ≠ some d := by
      intro j d hjd hd he
      rw [he] at k7
      simp only [apartD, Bool.and_eq_true] at k7
      have := List.all_eq_true.1 k7.1 j (List.mem_range.2 (hlen j hjd))
      simp [hdone_ne j hjd, hd] at this
    have hne0 : ∀ p ∈ g.E0, o.dst ≠ some p.1 := by
      intro p hp he
      rw [he] at k7
      simp only [apartD, Bool.and_eq_true] at k7
      have := List.all_eq_true.1 k7.2 p hp
      simp at this
    let rest : List Nat := (List.range g.N).filter fun j => @decide (g.live l.length done j) (Classical.propDecidable _) && !(g.inp i).contains j
    have hrest : ∀ j, j ∈ rest ↔ g.live l.length done j ∧ j ∉ g.inp i := by
      intro j
      simp only [rest, List.mem_filter, List.mem_range, Bool.and_eq_true, Bool.not_eq_true', List.contains_eq_mem, decide_eq_false_iff_not]
      refine ⟨fun ⟨_, h2, h3⟩ => ⟨@of_decide_eq_true _ (Classical.propDecidable _) h2, h3⟩, fun ⟨h2, h3⟩ => ⟨h2.1, @decide_eq_true _ (Classical.propDecidable _) h2, h3⟩⟩
    have hnd : (g.inp i ++ rest).Nodup := by
      rw [List.nodup_append]
      refine ⟨noDup_spec k5, List.nodup_range.filter _, fun a ha b hb e => ?_⟩
      exact ((hrest b).1 hb).2 (e ▸ ha)
    have H1 := hI.mem.to (g.inp i ++ rest) hnd (fun j hj => by
      rcases List.mem_append.1 hj with h | h
      · exact hinp j h
      · exact ((hrest j).1 h).1)
    rw [List.flatMap_append] at H1
    let EF0 : Env := (List.range l.length).filterMap fun j => if done.getD j false = true then (dstOf l j).map (fun d => (d, g.v j (x j))) else none
    let EF1 : Env := (List.range l.length).flatMap fun j => if done.getD j false = true then [] else g.E1 j
    let EF : Env := EF0 ++ EF1
    have hEF : ∀ p, p ∈ EF0 ↔ ∃ j d, done.getD j false = true ∧ dstOf l j = some d ∧ p = (d, g.v j (x j)) := by
      intro p
      simp only [EF0, List.mem_filterMap, List.mem_range]
      constructor
      · rintro ⟨j, _, hp⟩
        split at hp
        · rename_i hjd
          obtain ⟨d, hd, rfl⟩ := Option.map_eq_some_iff.1 hp
          exact ⟨j, d, hjd, hd, rfl⟩
        · cases hp
      · rintro ⟨j, d, hjd, hd, rfl⟩
        exact ⟨j, hlen j hjd, by rw [if_pos hjd, hd]; rfl⟩
    have hEF1 : ∀ j, j < l.length → done.getD j false = false → ∀ p ∈ g.E1 j, p ∈ EF1 := by
      intro j hjl hjd p hp
      simp only [EF1, List.mem_flatMap, List.mem_range]
      exact ⟨j, hjl, by rw [if_neg (by rw [hjd]; decide)]; exact hp⟩
    have hne1 : ∀ j, j < l.length → done.getD j false = false → ∀ p ∈ g.E1 j, o.dst ≠ some p.1 := by
      intro j hjl hjd p hp he
      have hjo : l[j]? = some (l[j]'hjl) := List.getElem?_eq_getElem hjl
      have hkj := GrowR.okFrom_at hok hjo
      simp only [GrowR.okOp, Bool.and_eq_true, Nat.zero_add] at hkj
      have h9 := List.all_eq_true.1 hkj.1.2 p hp
      have h10 := List.all_eq_true.1 h9 i (List.mem_range.2 hil)
      simp only [hdi, he, bne_self_eq_false, Bool.false_or, Bool.and_eq_true] at h10
      have h11 : behind o j = true := by simpa [behindOf, ho'] using h10.2
      rw [hbeh j h11] at hjd
      cases hjd
    have hneed : ∀ p ∈ g.need i, done.getD p.1 false = true ∧ dstOf l p.1 = some p.2 := by
      intro p hp
      have h1 := List.all_eq_true.1 k1 p hp
      simp only [Bool.and_eq_true, beq_iff_eq] at h1
      exact ⟨hbeh _ h1.1, h1.2⟩
    have hK : ∀ p ∈ ((g.need i).map (fun p => (p.2, g.v p.1 (x p.1))) ++ (g.E0 ++ (g.E1 i ++ EF))), a.tmps.getD p.1 undef = p.2 ∧ o.dst ≠ some p.1 := by
      intro p hp
      rcases List.mem_append.1 hp with h | h
      · obtain ⟨q, hq, rfl⟩ := List.mem_map.1 h
        obtain ⟨h1, h2⟩ := hneed q hq
        exact ⟨hI.vals _ _ h1 h2, hne _ _ h1 h2⟩
      · rcases List.mem_append.1 h with h | h
        · exact ⟨hI.base p h, hne0 p h⟩
        · rcases List.mem_append.1 h with h | h
          · exact ⟨hI.first i hil hu' p h, hne1 i hil hu' p h⟩
          · rcases List.mem_append.1 h with h | h
            · obtain ⟨j, d, h1, h2, rfl⟩ := (hEF p).1 h
              exact ⟨hI.vals _ _ h1 h2, hne _ _ h1 h2⟩
            · simp only [EF1, List.mem_flatMap, List.mem_range] at h
              obtain ⟨j, hjl, h⟩ := h
              cases hjd : done.getD j false with
              | true => rw [hjd] at h; simp at h
              | false =>
                rw [hjd] at h
                simp only [Bool.false_eq_true, if_false] at h
                exact ⟨hI.first j hjl hjd p h, hne1 j hjl hjd p h⟩
    have job := GrowR.Jobs_at hj ho'
    rw [Nat.zero_add] at job
    refine wpOp_of_list ho ((job x EF (rest.flatMap fun j => g.M j (x j)) _ fun xi hxi => ⟨fun a' w' hK' hH' => ?_⟩).go a w (Knows.of hI.size hI.defers fun p hp => (hK p hp).1) H1)
    have hd' : ∀ j, (done.setIfInBounds i true).getD j false = (decide (j = i) || done.getD j false) := fun j => getD_set (by omega)
    refine ih _ (fun j => if j = i then xi else x j) a' w' ?_ ?_
    · have := count_drop (l := List.range l.length) (p := fun j => !done.getD j false) (q := fun j => !(done.setIfInBounds i true).getD j false) (i := i) List.nodup_range (List.mem_range.2 hil) (by simp only [hu']; rfl) (by simp only [hd']; simp) (fun j hj => by simp only [hd']; simp [hj])
      omega
    · have hmem : ∀ p ∈ (slot o.dst (g.v i xi) ++ ((g.need i).map (fun p => (p.2, g.v p.1 (x p.1))) ++ (g.E0 ++ (g.E1 i ++ EF)))), a'.tmps.getD p.1 undef = p.2 := by
        intro p hp
        refine hK'.mem (f := fun t => if o.dst = some t then g.v i xi else a.tmps.getD t undef) (fun q hq => ?_) hp
        rcases List.mem_append.1 hq with h | h
        · cases hod : o.dst with
          | none => rw [hod] at h; cases h
          | some d =>
            rw [hod] at h
            simp only [slot, List.mem_singleton] at h
            subst h
            simp
        · have := hK q h
          simp only [this.2, if_false]
          exact this.1
      refine ⟨hK'.size, hK'.defers, by simp [hds], fun p hp => hmem p (by simp [hp]), fun j hjl hjd p hp => ?_, ?_, ?_, ?_, ?_⟩
      · rw [hd'] at hjd
        simp only [Bool.or_eq_false_iff] at hjd
        exact hmem p (List.mem_append_right _ (List.mem_append_right _ (List.mem_append_right _ (List.mem_append_right _ (List.mem_append_right _ (hEF1 j hjl hjd.2 p hp))))))
      · intro j d hjd hd
        by_cases e : j = i
        · subst e
          rw [hdi] at hd
          have := hmem (d, g.v j xi) (by simp [hd, slot])
          simpa using this
        · rw [hd'] at hjd
          simp only [e, decide_false, Bool.false_or] at hjd
          have := hmem (d, g.v j (x j)) (List.mem_append_right _ (List.mem_append_right _ (List.mem_append_right _ (List.mem_append_right _ (List.mem_append_left _ ((hEF _).2 ⟨j, d, hjd, hd, rfl⟩))))))
          simpa [e] using this
      · intro j k hjd hs
        rw [hd'] at hjd
        by_cases e : j = i
        · subst e
          rw [hs] at k8
          simp only [if_true, hdone_ne k (hbeh k k8), if_false]
          exact hxi k hs
        · simp only [e, decide_false, Bool.false_or] at hjd
          have hjo : l[j]? = some (l[j]'(hlen j hjd)) := List.getElem?_eq_getElem (hlen j hjd)
          have hkj := GrowR.okFrom_at hok hjo
          simp only [GrowR.okOp, Bool.and_eq_true, Nat.zero_add] at hkj
          have h8 := hkj.1.1.2
          rw [hs] at h8
          have hkd := hI.down j k hjd (by simpa [behindOf, hjo, srcOk] using h8)
          simp only [e, hdone_ne k hkd, if_false]
          exact hI.rel j k hjd hs
      · intro j i' hjd hb
        rw [hd'] at hjd ⊢
        by_cases e : j = i
        · subst e
          have : behind o i' = true := by simpa [behindOf, ho'] using hb
          simp [hbeh i' this]
        · simp only [e, decide_false, Bool.false_or] at hjd
          simp [hI.down j i' hjd hb]
      · have hnl : ¬ g.live l.length done i := fun h => by
          rcases h.2.1 with h | h
          · omega
          · rw [hu'] at h; cases h
        have hcg : ∀ L : List Nat, (∀ j ∈ L, g.live l.length done j) → L.flatMap (fun j => g.M j (if j = i then xi else x j)) = L.flatMap fun j => g.M j (x j) := by
          intro L
          induction L with
          | nil => simp
          | cons j L ih =>
            intro h
            have hji : j ≠ i := fun e => hnl (e ▸ h j (by simp))
            simp only [List.flatMap_cons, hji, if_false, ih fun k hk => h k (by simp [hk])]
        refine HoldsI.of (Js := i :: (((g.inp i).filter fun j => !(g.eat i).contains j) ++ rest)) ?_ ?_
        · rw [List.flatMap_cons, List.flatMap_append, hcg _ (fun j hj => hinp j (List.mem_filter.1 hj).1), hcg rest (fun j hj => ((hrest j).1 hj).1)]
          simpa using hH'
        · intro j hj
          by_cases e : j = i
          · simp [e]
          · have hl : g.live l.length done j := by
              refine ⟨hj.1, hj.2.1.imp id (fun h => ?_), fun k hk => hj.2.2 k (by rw [hd']; simp [hk])⟩
              rw [hd'] at h
              simpa [e] using h
            have hne : j ∉ g.eat i := hj.2.2 i (by rw [hd']; simp)
            by_cases hji : j ∈ g.inp i
            · simp [e, hji, hne]
            · have := (hrest j).2 ⟨hl, hji⟩
              simp [e, this]
end
end Sl
end Go.Proofs.YtbhlcnimjoppeaaDoor

/-
  Of no statement by itself: the landed package number: Read, Append.
  Conditions: each theorem's own.
-/
namespace Go.Proofs.YtbhlcnimjoppeaaDoor
set_option maxRecDepth 10000
open Sl Jrn
abbrev Bs := List Bt
theorem goes_numApp : Goes Tryd.prog 66 := ⟨_, Tryd.func66, rfl, by kernel_rfl⟩
theorem be64_take (n : BitVec 64) {size i : Nat} (h : i < size) : (be64 n size).take (i + 1) = (be64 n size).take i ++ [(n >>> (8 * (size - 1 - i))).setWidth 8] := by
  rw [List.take_succ_eq_append_getElem (by rw [be64_len]; exact h)]
  simp [be64]
set_option maxHeartbeats 8000000 in
theorem numApp_any (q : Acc) (xs : Bs) (n : BitVec 64) (size : Nat) (h0 : 0 < size) (h4 : size ≤ 8) (hq : q = none → xs = []) (hl : xs.length ≤ 70000000000000) (w : World) (hw : Holds w (keys (accE 5 q (xs.map U8))) (accE 5 q (xs.map U8)) w) :
    Calls Tryd.prog 66 [accV q xs.length, U64 n, N size].toArray w fun e w' => ∃ r : Nat × Nat, e = .returned (accV (some r) (xs ++ be64 n size).length) ∧ Holds w (keys (accE 5 q (xs.map U8))) (accE 5 (some r) ((xs ++ be64 n size).map U8)) w' := by
  generalize keys (accE 5 q (xs.map U8)) = S at hw ⊢
  refine enter (n := 25) Tryd.func66 rfl rfl rfl hw ?_
  repeat (first | refine JL.q (by first | (apply OQ.move; exact rfl) | (apply OQ.assign; exact rfl)) rfl ?_ | refine JC.seq ?_ | refine JC.region ?_ | refine JC.block ?_ | refine JL.nil ?_ | refine JE.next ?_)
  refine JC.loop (fun z : Nat × Acc => [(0, accV z.2 (xs ++ (be64 n size).take z.1).length), (1, U64 n), (2, N size), (8, N size), (9, N z.1)]) (fun z => accE 5 z.2 ((xs ++ (be64 n size).take z.1).map U8)) (fun z => size - z.1) (fun z => z.1 ≤ size ∧ (z.2 = none → xs ++ (be64 n size).take z.1 = [] ∧ z.1 = 0)) (0, q) ⟨Nat.zero_le _, fun e => ⟨by rw [hq e]; rfl, rfl⟩⟩ (by rw [List.take_zero, List.append_nil]; exact (by repeat (first | exact SubE.nil | refine SubE.cons _ _ _ rfl ?_))) (by rw [List.take_zero, List.append_nil]; exact Less.refl _) ?_
  rintro ⟨i, q⟩ ⟨hi, hq2⟩
  dsimp only at hi hq2 ⊢
  repeat (first | refine JL.q (by (apply OQ.lssN; exact rfl; exact rfl)) rfl ?_ | refine JC.seq ?_ | refine JC.region ?_ | refine JL.nil ?_ | refine JE.next ?_)
  refine JC.cond rfl (fun h => ?_) (fun h => ?_)
  · have hi' : i < size := by have := of_decide_eq_true h; omega
    clear h
    have et := be64_take n hi'
    generalize hys : xs ++ (be64 n size).take i = ys at hq2 ⊢
    have hy2 : xs ++ (be64 n size).take (i + 1) = ys ++ [(n >>> (8 * (size - 1 - i))).setWidth 8] := by rw [et, ← List.append_assoc, hys]
    have hyl : ys.length ≤ 70000000000008 := by rw [← hys, List.length_append, List.length_take, be64_len]; omega
    repeat (first | refine JL.q (by first | (apply OQ.mulN (a := 8); exact rfl; exact rfl; exact (by omega)) | (apply OQ.shr64 (k := 8 * (size - 1 - i)); exact rfl; exact rfl) | (apply OQ.conv64_8; exact Tryd.underlying76; exact Tryd.underlying5; exact rfl) | (apply OQ.move; exact rfl) | (apply OQ.assign; exact rfl) | (apply OQ.subN; exact rfl; exact rfl; exact (by (try simp only []); omega); exact (by (try simp only []); omega))) rfl ?_ | refine JC.seq ?_ | refine JC.region ?_ | refine JC.block ?_ | refine JC.skip ?_ | refine JL.nil ?_ | refine JE.next ?_)
    refine JL.lit1 Tryd.underlying27 u8e rfl rfl rfl rfl fun bl _ => ?_
    refine JL.perm (M' := accE 5 q (ys.map U8) ++ [⟨bl, Row 5 [U8 ((n >>> (8 * (size - 1 - i))).setWidth 8)], true⟩]) ?_ (by exact (List.perm_append_singleton _ _).symm)
    refine JL.appendQ (xs := ys.map U8) (cs := [U8 ((n >>> (8 * (size - 1 - i))).setWidth 8)]) (m := 1) (ad := some ⟨bl, 0, none⟩) (sc := 1) q Tryd.underlying27 u8e (fun e => by rw [(hq2 e).1]; rfl) (by rw [List.length_map]; rfl) rfl rfl (fun w' hw' => ?_) (by simp [Value.oneCell']) rfl (by rw [List.length_map]; omega) (by rw [List.length_map]; omega) rfl fun q' hq' => ?_
    · obtain ⟨o, ho, hA⟩ := hw'.get (b := bl) (A := Row 5 [U8 ((n >>> (8 * (size - 1 - i))).setWidth 8)]) (wr := true) (hasR .here)
      exact Reads.block ho (Row.all o hA)
    have e2 : ys.map U8 ++ [U8 ((n >>> (8 * (size - 1 - i))).setWidth 8)] = (xs ++ (be64 n size).take (i + 1)).map U8 := by rw [hy2]; simp
    rw [e2] at hq' ⊢
    rw [List.length_map]
    repeat (first | refine JL.q (by first | (apply OQ.move; exact rfl) | (apply OQ.assign; exact rfl) | (apply OQ.addN; exact rfl; exact rfl; exact (by (try simp only []); omega))) rfl ?_ | refine JC.region ?_ | refine JL.nil ?_ | refine JE.next ?_ | refine JE.blk_normal ?_)
    refine JE.again (i := (i, q)) (i + 1, q') ⟨hi', fun e => absurd (hq' e) (by rw [hy2]; simp)⟩ (by dsimp only; omega) (by repeat (first | exact SubE.nil | refine SubE.cons _ _ _ rfl ?_)) (less_pre _ _)
  · have hi' : i = size := by have := of_decide_eq_false h; omega
    subst hi'
    cases q with
    | none => have := (hq2 rfl).2; omega
    | some r =>
      rw [List.take_of_length_le (by rw [be64_len]; exact Nat.le_refl _)]
      repeat (first | refine JL.q (by first | (apply OQ.move; exact rfl) | (apply OQ.assign; exact rfl)) rfl ?_ | refine JC.seq ?_ | refine JC.region ?_ | refine JC.exit ?_ | refine JL.nil ?_ | refine JE.next ?_ | refine JE.then_exit ?_ | refine JE.blk_hit ?_)
      exact JC.ret (JE.ret1 rfl (RV.tmp rfl) fun w' hw => ⟨r, rfl, hw⟩)
section
variable {n : Nat} {w0 : World} {S : List Nat} {ops : Array Oper} {Q : Exit → Act → World → Prop} {l : List Oper} {E : Env} {M : List Ent} {C : World → Prop}
variable {dst : Option Tmp} {d : Nat} {ty t t' : TypeId} {pos : String} {aft : Array Edge} {g : Option (Nat × Bool)} {x x1 x2 x3 : Operand} {ats : Array TypeId} {P : Program}
theorem JL.numApp {q : Acc} {xs : Bs} {m : BitVec 64} {size : Nat} (h0 : 0 < size) (h4 : size ≤ 8) (hq : q = none → xs = []) (hl : xs.length ≤ 70000000000000) (e1 : ev E x1 = some (accV q xs.length)) (e2 : ev E x2 = some (U64 m)) (e3 : ev E x3 = some (N size)) (hd : Nat.blt d n = true)
    (kk : ∀ r : Nat × Nat, JL Tryd.prog n w0 S ops Q l ((d, accV (some r) (xs ++ be64 m size).length) :: E) (accE 5 (some r) ((xs ++ be64 m size).map U8) ++ M)) : JL Tryd.prog n w0 S ops Q (⟨some d, .call ⟨.value (.func 66), #[x1, x2, x3], ats⟩, ty, pos, aft, none⟩ :: l) E (accE 5 q (xs.map U8) ++ M) :=
  JL.callW (ι := Nat × Nat) (xs := [x1, x2, x3]) (vs := [accV q xs.length, U64 m, N size]) (fun r => accV (some r) (xs ++ be64 m size).length) (fun r => accE 5 (some r) ((xs ++ be64 m size).map U8)) goes_numApp (by simp [evs, e1, e2, e3]) hd (accE_wr _ _ _) (fun _ => accE_wr _ _ _)
    (fun w hw => numApp_any q xs m size h0 h4 hq hl w (hw.weak (less_pre _ _))) kk
end
end Go.Proofs.YtbhlcnimjoppeaaDoor

/-
  Of no statement by itself: what seal.twoKeys, seal.Same, seal.Message and the reference's Message give.
  Conditions: each theorem's own.
-/
namespace Go.Proofs.YtbhlcnimjoppeaaDoor
set_option maxRecDepth 10000
open Sl Sha Str

theorem JL.lessS {P : Program} {n : Nat} {w0 : World} {S : List Nat} {ops : Array Oper} {Q : Exit → Act → World → Prop} {l : List Oper} {E : Env} {M M' : List Ent} (hM : Less M' M) (h : JL P n w0 S ops Q l E M') : JL P n w0 S ops Q l E M := ⟨fun a w ha hw => h.go a w ha (hw.weak hM)⟩
def sealB : ByteArray := ⟨#[115, 101, 97, 108]⟩
def ekey (key : List B) : List B := expd (hmac [] key) (bytesOf sealB) (2 * 32)
theorem ekey_length (key : List B) : (ekey key).length = 64 := expd_length _ _ _
def k1 (key : List B) : List B := (ekey key).take 32
def k2 (key : List B) : List B := (ekey key).drop 32
theorem k1_length (key : List B) : (k1 key).length = 32 := by rw [k1, List.length_take, ekey_length]; rfl
theorem k2_length (key : List B) : (k2 key).length = 32 := by rw [k2, List.length_drop, ekey_length]
theorem k1_cells (key : List B) : (((ekey key).map U8).drop (0 + 0 * 32)).take ((k1 key).map U8).length = (k1 key).map U8 := by
  rw [List.length_map, k1_length, k1, List.map_take]; rfl
theorem k2_cells (key : List B) : (((ekey key).map U8).drop (0 + 1 * 32)).take ((k2 key).map U8).length = (k2 key).map U8 := by
  have h := ekey_length key
  rw [List.length_map, k2_length, k2, List.map_drop, show 0 + 1 * 32 = 32 from rfl, List.take_of_length_le (by simp [h])]
theorem goes_two : Goes Tryd.prog 49 := ⟨_, Tryd.func49, rfl, by kernel_rfl⟩
theorem goes_message : Goes Tryd.prog 51 := ⟨_, Tryd.func51, rfl, by kernel_rfl⟩
theorem goes_rmessage : Goes Tryd.prog 62 := ⟨_, Tryd.func62, rfl, by kernel_rfl⟩
def needO : Nat → List (Nat × Nat)
  | 1 => [(0, 11)]
  | 2 => [(1, 12)]
  | 4 => [(3, 14)]
  | 5 => [(4, 15)]
  | 6 => [(2, 13)]
  | 7 => [(5, 16)]
  | _ => []
def inpO : Nat → List Nat
  | 2 => [8]
  | 5 => [8]
  | 6 => [10]
  | 7 => [9]
  | _ => []
def eatO : Nat → List Nat
  | 6 => [10]
  | 7 => [9]
  | _ => []

theorem keysE_any (key : List B) (hk : key.length = 32) (b1 : Nat) (w : World) (hG : GOk w) (hr : Sl8.ok w ⟨some ⟨b1, 0, none⟩, 32, key⟩) :
    Calls Tryd.prog 63 [nilS.v, .slice (some ⟨b1, 0, none⟩) 32 32, .string sealB, N 2].toArray w fun e w' => ∃ b, e = .returned (.tuple #[.slice (some ⟨b, 0, none⟩) 2 2, N 0]) ∧ Holds w [] [⟨b, Row 23 ((ekey key).map U8), true⟩] w' := by
  have := keys_any nilS ⟨some ⟨b1, 0, none⟩, 32, key⟩ sealB 2 (by decide) w hG (nilS_ok _) hr (by simp [nilS]) (show key.length < 4611686018427387000 by omega) (by decide)
  rw [show Sl8.v ⟨some ⟨b1, 0, none⟩, 32, key⟩ = .slice (some ⟨b1, 0, none⟩) 32 32 by simp [Sl8.v, hk]] at this
  rw [ekey]
  exact this

set_option maxHeartbeats 2000000 in
theorem two_any (key : List B) (hk : key.length = 32) (w : World) (hG : GOk w) :
    Calls Tryd.prog 49 [.agg (key.map U8).toArray].toArray w fun e w' => e = .returned (.tuple #[.agg ((k1 key).map U8).toArray, .agg ((k2 key).map U8).toArray]) ∧ Ext w w' := by
  have hKeys := keysE_any key hk
  have h1 : ((k1 key).map U8).length = 32 := by rw [List.length_map, k1_length]
  have h2 : ((k2 key).map U8).length = 32 := by rw [List.length_map, k2_length]
  have c1 := k1_cells key
  have c2 := k2_cells key
  generalize ekey key = ek at hKeys c1 c2
  generalize k1 key = a1 at h1 c1 ⊢
  generalize k2 key = a2 at h2 c2 ⊢
  refine enter (n := 17) Tryd.func49 rfl rfl rfl (Holds.start w []) ?_
  repeat (first | refine JC.seq ?_ | refine JC.region ?_)
  refine JL.box (r := key.map U8) rfl rfl rfl fun b1 _ => ?_
  refine JL.alloc zc25 rfl fun b2 _ => ?_
  refine JL.alloc zc25 rfl fun b3 _ => ?_
  repeat (first | refine JL.q (by (apply OQ.slA; exact Tryd.underlying23; exact s5; exact rfl)) rfl ?_ | refine JC.seq ?_ | refine JC.region ?_ | refine JL.nil ?_ | refine JE.next ?_)
  refine JL.callg (ι := Nat) (vs := [nilS.v, .slice (some ⟨b1, 0, none⟩) 32 32, .string sealB, N 2]) (fun b => .tuple #[.slice (some ⟨b, 0, none⟩) 2 2, N 0]) (fun b => [⟨b, Row 23 (ek.map U8), true⟩]) goes_keys rfl rfl (fun i => by simp) (fun w' hw' => hKeys b1 w' (hG.chg hw'.chg (by simp)) (row_ok hw' (.there (.there .here)) rfl (Nat.le_of_eq hk))) fun bk => ?_
  try dsimp only
  repeat (first | refine JL.q (by first | (apply OQ.extract; exact rfl; exact rfl) | (apply OQ.move; exact rfl) | (apply OQ.assign; exact rfl)) rfl ?_ | refine JC.seq ?_ | refine JL.nil ?_ | refine JE.next ?_)
  let vs : Nat → X → Value := fun j _ => match j with
    | 0 => .slice (some ⟨bk, 0, none⟩) 2 2
    | 1 => Pt bk (0 + 0 * 32)
    | 2 => .agg (a1.map U8).toArray
    | 3 => .slice (some ⟨bk, 0, none⟩) 2 2
    | 4 => Pt bk (0 + 1 * 32)
    | _ => .agg (a2.map U8).toArray
  let Ms : Nat → X → List Ent := fun j _ => match j with
    | 6 => [⟨b2, Row 23 (a1.map U8), true⟩]
    | 7 => [⟨b3, Row 23 (a2.map U8), true⟩]
    | 8 => [⟨bk, Row 23 (ek.map U8), true⟩]
    | 9 => [⟨b3, Row 23 ((List.replicate 32 (0 : B)).map U8), true⟩]
    | 10 => [⟨b2, Row 23 ((List.replicate 32 (0 : B)).map U8), true⟩]
    | 11 => [⟨b1, Row 23 (key.map U8), true⟩]
    | _ => []
  refine JC.grow (g := ⟨[(2, Pt b2 0), (3, Pt b3 0), (4, .slice (some ⟨bk, 0, none⟩) 2 2)], 12, vs, Ms, needO, inpO, eatO, fun _ => none⟩) [] [6, 7] mixed (by repeat (first | exact SubE.nil | refine SubE.cons _ _ _ rfl ?_)) (Less.refl _) (by kernel_rfl) (by kernel_rfl) (by kernel_rfl) ?_ ?_
  · refine ⟨?_, ?_, ?_, ?_, ?_, ?_, ?_, ?_, trivial⟩
    iterate 6 (focus (intro x EF MF Q kk; (try refine JL.gon rfl rfl ?_); exact JL.q (by first | (apply OQ.idxS; exact Tryd.underlying96; exact s25; exact rfl; exact rfl; exact (by decide)) | (apply OQ.load_agg (cs := a1.map U8); exact a25; exact s25; exact rfl; exact .here; exact h1; exact (Row.cells c1)) | (apply OQ.load_agg (cs := a2.map U8); exact a25; exact s25; exact rfl; exact .here; exact h2; exact (Row.cells c2)) | (apply OQ.move; exact rfl)) rfl (JL.nil (kk default nofun))))
    · intro x EF MF Q kk
      exact JL.store_all s25 rfl rfl h1 (all8 _) .here (by simp) (JL.nil (kk (0, 0) nofun))
    · intro x EF MF Q kk
      exact JL.store_all s25 rfl rfl h2 (all8 _) .here (by simp) (JL.nil (kk (0, 0) nofun))
  · intro x _
    repeat (refine JE.next ?_)
    refine JC.ret ?_
    skip
    exact JE.ret2 rfl (RV.cell_agg a25 s25 rfl .here h1 Row.all) (RV.cell_agg a25 s25 rfl (.there .here) h2 Row.all) fun w' hw => ⟨rfl, hw.chg⟩

/-! ### seal.Same -/
/-! ### the message -/
def mp (nonce side : List B) (i : Nat) : List B := nonce ++ (be8 (BitVec.ofNat 64 side.length)).take i
theorem mp_length {nonce : List B} (hn : nonce.length = 12) (side : List B) (i : Nat) (h : i ≤ 8) : (mp nonce side i).length = 12 + i := by simp [mp, hn, be8_length]; omega
theorem mp_succ (nonce side : List B) (i : Nat) (h : i < 8) : (mp nonce side i).map U8 ++ [U8 (((BitVec.ofNat 64 side.length) >>> (8 * (7 - i))).setWidth 8)] = (mp nonce side (i + 1)).map U8 := by
  rw [mp, mp, be8_take _ i h]; simp
theorem mp_all (nonce side c : List B) : mp nonce side 8 ++ side ++ c = msg nonce side c := by
  rw [mp, List.take_of_length_le (by rw [be8_length]; omega), msg]

set_option maxHeartbeats 16000000 in
theorem message_any (nonce : List B) (s c : Sl8) (hn : nonce.length = 12) (w : World) (hs : s.ok w) (hc : c.ok w) (hsl : s.l.length < 35184372088832) (hcl : c.l.length < 35184372088832) :
    Calls Tryd.prog 51 [.agg (nonce.map U8).toArray, s.v, c.v].toArray w fun e w' => ∃ x : Nat × Nat, e = .returned (.slice (some ⟨x.1, 0, none⟩) (msg nonce s.l c.l).length x.2) ∧ Holds w [] [⟨x.1, Sl.Own 5 1 (msg nonce s.l c.l).length x.2 ((msg nonce s.l c.l).map U8), true⟩] w' := by
  have hml := msg_length nonce s.l c.l
  rw [hn] at hml
  refine enter (n := 29) Tryd.func51 rfl rfl rfl (Holds.start w []) ?_
  repeat (first | refine JC.seq ?_ | refine JC.region ?_)
  refine JL.box (r := nonce.map U8) rfl rfl rfl fun b3 _ => ?_
  repeat (first | refine JL.q (by first | (apply OQ.move; exact rfl) | (apply OQ.assign; exact rfl) | (apply OQ.len; exact rfl; exact rfl) | (apply OQ.addN; exact rfl; exact rfl; exact (by (try simp only []); omega))) rfl ?_ | refine JC.seq ?_ | refine JC.region ?_ | refine JL.nil ?_ | refine JE.next ?_)
  refine JL.make0 (c := 20 + s.l.length + c.l.length) Tryd.underlying27 e5 rfl rfl (by omega) rfl fun b7 _ => ?_
  repeat (first | refine JL.q (by first | (apply OQ.slA; exact Tryd.underlying67; exact s5; exact rfl) | (apply OQ.move; exact rfl) | (apply OQ.assign; exact rfl)) rfl ?_ | refine JC.seq ?_ | refine JC.region ?_ | refine JL.nil ?_ | refine JE.next ?_)
  refine JL.append (cs := nonce.map U8) (fun b' cap' => [⟨b', Sl.Own 5 1 (0 + 12) cap' ([] ++ nonce.map U8), true⟩, ⟨b3, Row 67 (nonce.map U8), true⟩]) Tryd.underlying27 e5 rfl rfl (by intro _ _; repeat (first | exact Repl.here | apply Repl.there)) (by simpa using hn) (fun w' hw' => (row_ok (cap := 12) hw' (.there .here) rfl (Nat.le_of_eq hn)).reads) (of_u8 _) rfl (by decide) (by decide) (by decide) rfl fun b7 cap7 => ?_
  rw [List.nil_append, Nat.zero_add]
  repeat (first | refine JL.q (by first | (apply OQ.len (k := s.l.length) (ad := s.ad) (cap := s.cap); exact Tryd.underlying27; exact rfl) | (apply OQ.convN_64; exact Tryd.underlying3; exact Tryd.underlying76; exact rfl) | (apply OQ.move; exact rfl) | (apply OQ.assign; exact rfl)) rfl ?_ | refine JC.seq ?_ | refine JC.region ?_ | refine JL.nil ?_ | refine JE.next ?_)
  refine JL.lessS (M' := accE 5 (some (b7, cap7)) (nonce.map U8) ++ []) (.keep _ _ _ _ _ _ (fun o ho => by rw [List.length_map, hn]; exact ho) (.nil _)) ?_
  refine JL.numApp (q := some (b7, cap7)) (xs := nonce) (m := BitVec.ofNat 64 s.l.length) (size := 8) (by decide) (by decide) nofun (by omega) (by rw [hn]; rfl) rfl rfl rfl fun r => ?_
  obtain ⟨b8', cap8⟩ := r
  have hm8 : nonce ++ Jrn.be64 (BitVec.ofNat 64 s.l.length) 8 = mp nonce s.l 8 := by
    unfold mp
    rw [List.take_of_length_le (by rw [be8_length]; omega)]
    rfl
  rw [hm8]
  have hml8 : (mp nonce s.l 8).length = 20 := mp_length hn s.l 8 (Nat.le_refl _)
  refine JL.lessS (M' := [⟨b8', Sl.Own 5 1 20 cap8 ((mp nonce s.l 8).map U8), true⟩]) (.keep _ _ _ _ _ _ (fun o ho => by rw [List.length_map, hml8] at ho; exact ho) (.nil _)) ?_
  rw [hml8]
  show JL _ _ _ _ _ _ _ ((_, .slice (some ⟨b8', 0, none⟩) 20 cap8) :: _) _
  repeat (first | refine JL.q (by first | (apply OQ.move; exact rfl) | (apply OQ.assign; exact rfl)) rfl ?_ | refine JC.seq ?_ | refine JC.region ?_ | refine JL.nil ?_ | refine JE.next ?_)
  refine JL.append (cs := s.l.map U8) (fun b' cap' => [⟨b', Sl.Own 5 1 (20 + s.l.length) cap' ((mp nonce s.l 8).map U8 ++ s.l.map U8), true⟩]) Tryd.underlying27 e5 rfl rfl (by intro _ _; repeat (first | exact Repl.here | apply Repl.there)) (by simp) (fun w' hw' => (hs.holds hw' rfl).reads) (of_u8 _) rfl (by decide) (by omega) (by omega) rfl fun b7 cap7 => ?_
  repeat (first | refine JL.q (by first | (apply OQ.move; exact rfl) | (apply OQ.assign; exact rfl)) rfl ?_ | refine JC.seq ?_ | refine JC.region ?_ | refine JL.nil ?_ | refine JE.next ?_)
  refine JL.append (cs := c.l.map U8) (fun b' cap' => [⟨b', Sl.Own 5 1 (20 + s.l.length + c.l.length) cap' ((mp nonce s.l 8).map U8 ++ s.l.map U8 ++ c.l.map U8), true⟩]) Tryd.underlying27 e5 rfl rfl (by intro _ _; repeat (first | exact Repl.here | apply Repl.there)) (by simp) (fun w' hw' => (hc.holds hw' rfl).reads) (of_u8 _) rfl (by decide) (by omega) (by omega) rfl fun b7 cap7 => ?_
  rw [← List.map_append, ← List.map_append, mp_all, show 20 + s.l.length + c.l.length = (msg nonce s.l c.l).length by omega]
  repeat (first | refine JL.q (by (apply OQ.assign; exact rfl)) rfl ?_ | refine JL.nil ?_ | refine JE.next ?_)
  refine JC.ret ?_
  skip
  exact JE.ret1 rfl (RV.tmp rfl) fun w' hw => ⟨(b7, cap7), rfl, hw⟩

set_option maxHeartbeats 16000000 in
theorem rmessage_any (nonce : List B) (s c : Sl8) (hn : nonce.length = 12) (w : World) (hs : s.ok w) (hc : c.ok w) (hsl : s.l.length < 35184372088832) (hcl : c.l.length < 35184372088832) :
    Calls Tryd.prog 62 [.agg (nonce.map U8).toArray, s.v, c.v].toArray w fun e w' => ∃ x : Nat × Nat, e = .returned (.slice (some ⟨x.1, 0, none⟩) (msg nonce s.l c.l).length x.2) ∧ Holds w [] [⟨x.1, Sl.Own 5 1 (msg nonce s.l c.l).length x.2 ((msg nonce s.l c.l).map U8), true⟩] w' := by
  have hml := msg_length nonce s.l c.l
  rw [hn] at hml
  refine enter (n := 32) Tryd.func62 rfl rfl rfl (Holds.start w []) ?_
  repeat (first | refine JC.seq ?_ | refine JC.region ?_)
  refine JL.box (r := nonce.map U8) rfl rfl rfl fun b3 _ => ?_
  repeat (first | refine JL.q (by (apply OQ.assign; exact rfl)) rfl ?_ | refine JC.seq ?_ | refine JC.region ?_ | refine JL.nil ?_ | refine JE.next ?_)
  refine JL.litZ Tryd.underlying27 e5 rfl fun b9 _ => ?_
  repeat (refine JL.q (by (apply OQ.slA; exact Tryd.underlying67; exact s5; exact rfl)) rfl ?_)
  refine JL.append (cs := nonce.map U8) (fun b' cap' => [⟨b', Sl.Own 5 1 (0 + 12) cap' ([] ++ nonce.map U8), true⟩, ⟨b3, Row 67 (nonce.map U8), true⟩]) Tryd.underlying27 e5 rfl rfl (by intro _ _; repeat (first | exact Repl.here | apply Repl.there)) (by simpa using hn) (fun w' hw' => (row_ok (cap := 12) hw' (.there .here) rfl (Nat.le_of_eq hn)).reads) (of_u8 _) rfl (by decide) (by decide) (by decide) rfl fun b7 cap7 => ?_
  rw [List.nil_append, Nat.zero_add]
  repeat (first | refine JL.q (by (apply OQ.assign; exact rfl)) rfl ?_ | refine JC.seq ?_ | refine JC.region ?_ | refine JC.block ?_ | refine JL.nil ?_ | refine JE.next ?_)
  refine JC.loop (ι := Nat × Nat × Nat) (fun i => [(1, s.v), (2, c.v), (7, .slice (some ⟨i.2.1, 0, none⟩) (12 + i.1) i.2.2), (8, .int .i64 (7 - (i.1 : Int)))])
    (fun i => [⟨i.2.1, Sl.Own 5 1 (12 + i.1) i.2.2 ((mp nonce s.l i.1).map U8), true⟩]) (fun i => 8 - i.1) (fun i => i.1 ≤ 8) (0, b7, cap7) (by dsimp only; omega) (by repeat (first | exact SubE.nil | refine SubE.cons _ _ _ rfl ?_)) (.keep _ _ _ _ _ _ (fun o ho => by simpa [mp] using ho) (Less.nil _)) ?_
  rintro ⟨i, b7, cap7⟩ hi
  dsimp only at hi ⊢
  repeat (first | refine JL.q (by first | (apply OQ.geqI; exact rfl; exact rfl) | (apply OQ.move; exact rfl)) rfl ?_ | refine JC.seq ?_ | refine JC.region ?_ | refine JL.nil ?_ | refine JE.next ?_)
  refine JC.cond rfl (fun h => ?_) (fun h => ?_)
  · have hi' : i < 8 := by
      have : (0 : Int) ≤ 7 - (i : Int) := of_decide_eq_true h
      omega
    clear h hi
    rw [show (7 - (i : Int)) = ((7 - i : Nat) : Int) by omega]
    repeat (first | refine JL.q (by first | (apply OQ.move; exact rfl) | (apply OQ.len; exact rfl; exact rfl) | (apply OQ.shr64; exact rfl; exact rfl) | (apply OQ.mulN; exact rfl; exact rfl; exact (by (try simp only []); omega)) | (apply OQ.conv64_8; exact rfl; exact rfl; exact rfl) | (apply OQ.convN_64; exact rfl; exact rfl; exact rfl)) rfl ?_ | refine JC.seq ?_ | refine JC.region ?_ | refine JC.block ?_ | refine JC.skip ?_ | refine JE.next ?_)
    refine JL.lit1 Tryd.underlying27 e5 rfl rfl rfl rfl fun b33 _ => ?_
    refine JL.append (cs := [U8 (((BitVec.ofNat 64 s.l.length) >>> (8 * (7 - i))).setWidth 8)]) (fun b' cap' => [⟨b33, Row 5 [U8 (((BitVec.ofNat 64 s.l.length) >>> (8 * (7 - i))).setWidth 8)], true⟩, ⟨b', Sl.Own 5 1 (12 + i + 1) cap' ((mp nonce s.l i).map U8 ++ [U8 (((BitVec.ofNat 64 s.l.length) >>> (8 * (7 - i))).setWidth 8)]), true⟩]) Tryd.underlying27 e5 rfl rfl (by intro _ _; repeat (first | exact Repl.here | apply Repl.there)) rfl (fun w' hw' => ?_) (by simp [Value.oneCell']) rfl (by decide) (by omega) (by omega) rfl fun b7' cap7' => ?_
    · obtain ⟨o, ho, hA⟩ := hw'.get .here
      exact Reads.block ho (Row.all _ hA)
    rw [mp_succ _ _ _ hi', Nat.add_assoc 12 i 1]
    repeat (first | refine JL.q (by first | (apply OQ.subI; exact rfl; exact rfl; exact (by omega); exact (by omega)) | (apply OQ.move; exact rfl) | (apply OQ.assign; exact rfl)) rfl ?_ | refine JC.region ?_ | refine JL.nil ?_ | refine JE.next ?_ | refine JE.blk_normal ?_)
    rw [show ((7 - i : Nat) : Int) - 1 = 7 - ((i + 1 : Nat) : Int) by omega]
    exact JE.again (ι := Nat × Nat × Nat) (i := (i, b7, cap7)) (i + 1, b7', cap7') (by dsimp only; omega) (by dsimp only; omega) (by repeat (first | exact SubE.nil | refine SubE.cons _ _ _ rfl ?_)) (.drop _ _ _ (Less.refl _))
  · have hi' : ¬ i < 8 := by
      have : ¬ (0 : Int) ≤ 7 - (i : Int) := of_decide_eq_false h
      omega
    obtain rfl : i = 8 := by omega
    clear h hi hi'
    repeat (first | refine JL.q (by (apply OQ.move; exact rfl)) rfl ?_ | refine JC.seq ?_ | refine JC.region ?_ | refine JC.exit ?_ | refine JE.next ?_ | refine JE.then_exit ?_ | refine JE.blk_hit ?_)
    refine JL.append (cs := s.l.map U8) (fun b' cap' => [⟨b', Sl.Own 5 1 (12 + 8 + s.l.length) cap' ((mp nonce s.l 8).map U8 ++ s.l.map U8), true⟩]) Tryd.underlying27 e5 rfl rfl (by intro _ _; repeat (first | exact Repl.here | apply Repl.there)) (by simp) (fun w' hw' => (hs.holds hw' rfl).reads) (of_u8 _) rfl (by decide) (by omega) (by omega) rfl fun b7 cap7 => ?_
    repeat (first | refine JL.q (by first | (apply OQ.move; exact rfl) | (apply OQ.assign; exact rfl)) rfl ?_ | refine JC.seq ?_ | refine JC.region ?_ | refine JL.nil ?_ | refine JE.next ?_)
    refine JL.append (cs := c.l.map U8) (fun b' cap' => [⟨b', Sl.Own 5 1 (12 + 8 + s.l.length + c.l.length) cap' ((mp nonce s.l 8).map U8 ++ s.l.map U8 ++ c.l.map U8), true⟩]) Tryd.underlying27 e5 rfl rfl (by intro _ _; repeat (first | exact Repl.here | apply Repl.there)) (by simp) (fun w' hw' => (hc.holds hw' rfl).reads) (of_u8 _) rfl (by decide) (by omega) (by omega) rfl fun b7 cap7 => ?_
    rw [← List.map_append, ← List.map_append, mp_all, show 12 + 8 + s.l.length + c.l.length = (msg nonce s.l c.l).length by omega]
    repeat (first | refine JL.q (by (apply OQ.assign; exact rfl)) rfl ?_ | refine JL.nil ?_ | refine JE.next ?_)
    refine JC.ret ?_
    skip
    exact JE.ret1 rfl (RV.tmp rfl) fun w' hw => ⟨(b7, cap7), rfl, hw⟩
end Go.Proofs.YtbhlcnimjoppeaaDoor

/-
  Of no statement by itself: what math/bits.RotateLeft32 (to the left), stream.Quarter and despatchlaw03.speaks give.
  Conditions: each theorem's own.
-/
namespace Go.Proofs.YtbhlcnimjoppeaaDoor
set_option maxRecDepth 10000
open Sl Sha Str

theorem mixQ : Tryd.prog.follows .mixedOrders = true := by kernel_rfl
theorem q1s : szT Tryd.prog 86 = some 1 := by kernel_rfl
theorem q1c : scal Tryd.prog 86 = true := by kernel_rfl
theorem q4s : szT Tryd.prog 164 = some 4 := by kernel_rfl
theorem q4a : aggT Tryd.prog 164 = true := by kernel_rfl
theorem q4z : zc Tryd.prog 164 = some ((List.replicate 4 (0 : W)).map U32) := by kernel_rfl
theorem goes_rotl : Goes Tryd.prog 125 := ⟨_, Tryd.func125, rfl, by kernel_rfl⟩
theorem goes_quarter : Goes Tryd.prog 113 := ⟨_, Tryd.func113, rfl, by kernel_rfl⟩
theorem all32q (l : List W) : (l.map U32).all Value.oneCell' = true := by simp [Value.oneCell']

theorem pos_and : ∀ k : Nat, k < 32 → (BitVec.ofNat 64 k &&& 31#64).toNat = k := by decide
theorem rotl_any (x : W) (k : Nat) (hk : k < 32) (w : World) : Calls Tryd.prog 125 [U32 x, N k].toArray w fun e w' => e = .returned (U32 (rotl x k)) ∧ Ext w w' := by
  have hna := pos_and k hk
  refine enter (n := 17) Tryd.func125 rfl rfl rfl (Holds.start w []) ?_
  refine JC.seq (JC.region ?_)
  repeat (refine JL.q (by (apply OQ.assign; exact rfl)) rfl ?_)
  refine JL.nil (JE.next (JC.seq (JC.region ?_)))
  refine JL.q (OQ.move rfl) rfl ?_
  refine JL.q (OQ.convN_64 rfl rfl rfl) rfl ?_
  refine JL.q (OQ.and64 (b := 31#64) rfl rfl) rfl ?_
  generalize (BitVec.ofNat 64 k &&& 31#64) = s at hna
  repeat (refine JL.q (by (apply OQ.assign; exact rfl)) rfl ?_)
  refine JL.nil (JE.next (JC.seq (JC.region ?_)))
  repeat (refine JL.q (by first | (apply OQ.move; exact rfl) | (apply OQ.shl32; exact rfl; exact rfl)) rfl ?_)
  refine JL.q (OQ.sub64 (a := 32#64) rfl rfl (by rw [hna]; simp only [BitVec.toNat_ofNat]; omega)) rfl ?_
  repeat (refine JL.q (by first | (apply OQ.assign; exact rfl) | (apply OQ.or32; exact rfl; exact rfl) | (apply OQ.shr32; exact rfl; exact rfl)) rfl ?_)
  refine JL.nil (JE.next (JC.ret (JE.ret1 rfl (RV.tmp rfl) ?_)))
  refine fun w' hw => ⟨?_, hw.chg⟩
  have h2 : (32#64 - s).toNat = 32 - k := by rw [BitVec.toNat_sub_of_le (by simp only [BitVec.le_def, hna, BitVec.toNat_ofNat]; omega), hna]; rfl
  rw [h2, hna, rotl]

set_option maxHeartbeats 8000000 in
theorem quarter_any (a b c d : W) (w : World) : Calls Tryd.prog 113 [.agg ([a, b, c, d].map U32).toArray].toArray w fun e w' => e = .returned (.agg ((qr a b c d).map U32).toArray) ∧ Ext w w' := by
  refine enter (n := 48) Tryd.func113 rfl rfl rfl (Holds.start w []) ?_
  repeat (first | refine JC.seq ?_ | refine JC.region ?_)
  refine JL.box (r := [a, b, c, d].map U32) rfl rfl rfl fun b1 _ => ?_
  refine JL.alloc q4z rfl fun b2 _ => ?_
  repeat (first | refine JC.seq ?_ | refine JL.nil ?_ | refine JE.next ?_)
  refine JC.quiet mixQ (by kernel_rfl) ?_
  repeat (first | refine JL.q (by first | (apply OQ.idxA0; exact Tryd.underlying164; exact q1s; exact rfl; exact rfl; exact (by (try simp only []); omega)) | (apply OQ.load; exact q1c; exact rfl; exact (.there .here); exact (Row.cell rfl)) | (apply OQ.callx; exact goes_rotl; exact rfl; exact (fun w' _ => rotl_any _ _ (by decide) w')) | (apply OQ.move; exact rfl) | (apply OQ.assign; exact rfl) | (apply OQ.add32; exact rfl; exact rfl) | (apply OQ.xor32; exact rfl; exact rfl)) rfl ?_ | refine JQ.q (by first | (apply OQ.idxA0; exact Tryd.underlying164; exact q1s; exact rfl; exact rfl; exact (by (try simp only []); omega)) | (apply OQ.load; exact q1c; exact rfl; exact (.there .here); exact (Row.cell rfl)) | (apply OQ.callx; exact goes_rotl; exact rfl; exact (fun w' _ => rotl_any _ _ (by decide) w')) | (apply OQ.move; exact rfl) | (apply OQ.assign; exact rfl) | (apply OQ.add32; exact rfl; exact rfl) | (apply OQ.xor32; exact rfl; exact rfl)) rfl ?_ | refine JC.seq ?_ | refine JC.region ?_ | refine JL.nil ?_ | refine JQ.nil ?_ | refine JE.next ?_)
  refine JL.q (OQ.pure (v := .agg ((qr a b c d).map U32).toArray) rfl rfl (by kernel_rfl)) rfl ?_
  refine JL.store_all q4s rfl rfl rfl (all32q _) .here rfl ?_
  repeat (first | refine JL.nil ?_ | refine JE.next ?_)
  refine JC.ret (JE.ret1 rfl (RV.cell_agg q4a q4s rfl .here rfl Row.all) ?_)
  exact fun w' hw => ⟨rfl, hw.chg⟩

end Go.Proofs.YtbhlcnimjoppeaaDoor

/-
  Of no statement by itself: what the reference's left, Quarter and word, and stream.word and stream.beginning give.
  Conditions: each theorem's own.
-/
namespace Go.Proofs.YtbhlcnimjoppeaaDoor
set_option maxRecDepth 10000
open Sl Sha Str

theorem goes_left : Goes Tryd.prog 126 := ⟨_, Tryd.func126, rfl, by kernel_rfl⟩
theorem goes_rquarter : Goes Tryd.prog 118 := ⟨_, Tryd.func118, rfl, by kernel_rfl⟩
theorem goes_sword : Goes Tryd.prog 112 := ⟨_, Tryd.func112, rfl, by kernel_rfl⟩
theorem goes_rword : Goes Tryd.prog 116 := ⟨_, Tryd.func116, rfl, by kernel_rfl⟩
theorem goes_beginning : Goes Tryd.prog 82 := ⟨_, Tryd.func82, rfl, by kernel_rfl⟩
theorem b4s : szT Tryd.prog 161 = some 4 := by kernel_rfl
theorem b4a : aggT Tryd.prog 161 = true := by kernel_rfl
theorem w16s : szT Tryd.prog 128 = some 16 := by kernel_rfl
theorem w16a : aggT Tryd.prog 128 = true := by kernel_rfl
theorem w16z : zc Tryd.prog 128 = some ((List.replicate 16 (0 : W)).map U32) := by kernel_rfl
theorem nos : szT Tryd.prog 67 = some 12 := by kernel_rfl
theorem noa : aggT Tryd.prog 67 = true := by kernel_rfl

set_option maxHeartbeats 8000000 in
theorem left_any (x : W) (k : Nat) (hk : k < 32) (w : World) : Calls Tryd.prog 126 [U32 x, N k].toArray w fun e w' => e = .returned (U32 (rotl x k)) ∧ Ext w w' := by
  refine enter (n := 13) Tryd.func126 rfl rfl rfl (Holds.start w []) ?_
  repeat (first | refine JL.q (by (apply OQ.assign; exact rfl)) rfl ?_ | refine JC.seq ?_ | refine JC.region ?_ | refine JL.nil ?_ | refine JE.next ?_)
  refine JC.quiet mixQ (by kernel_rfl) ?_
  repeat (first | refine JQ.q (by first | (apply OQ.move; exact rfl) | (apply OQ.assign; exact rfl) | (apply OQ.or32; exact rfl; exact rfl) | (apply OQ.shr32; exact rfl; exact rfl) | (apply OQ.shl32; exact rfl; exact rfl) | (apply OQ.subN; exact rfl; exact rfl; exact (by (try simp only []); omega); exact (by (try simp only []); omega))) rfl ?_ | refine JQ.nil ?_ | refine JE.next ?_)
  refine JC.ret (JE.ret1 rfl (RV.tmp rfl) ?_)
  exact fun w' hw => ⟨rfl, hw.chg⟩
set_option maxHeartbeats 8000000 in
theorem rquarter_any (a b c d : W) (w : World) : Calls Tryd.prog 118 [.agg ([a, b, c, d].map U32).toArray].toArray w fun e w' => e = .returned (.agg ((qr a b c d).map U32).toArray) ∧ Ext w w' := by
  refine enter (n := 48) Tryd.func118 rfl rfl rfl (Holds.start w []) ?_
  repeat (first | refine JC.seq ?_ | refine JC.region ?_)
  refine JL.box (r := [a, b, c, d].map U32) rfl rfl rfl fun b1 _ => ?_
  refine JL.alloc q4z rfl fun b2 _ => ?_
  repeat (first | refine JC.seq ?_ | refine JL.nil ?_ | refine JE.next ?_)
  refine JC.quiet mixQ (by kernel_rfl) ?_
  repeat (first | refine JL.q (by first | (apply OQ.idxA0; exact Tryd.underlying164; exact q1s; exact rfl; exact rfl; exact (by (try simp only []); omega)) | (apply OQ.load; exact q1c; exact rfl; exact (.there .here); exact (Row.cell rfl)) | (apply OQ.callx; exact goes_left; exact rfl; exact (fun w' _ => left_any _ _ (by decide) w')) | (apply OQ.move; exact rfl) | (apply OQ.assign; exact rfl) | (apply OQ.add32; exact rfl; exact rfl) | (apply OQ.xor32; exact rfl; exact rfl)) rfl ?_ | refine JQ.q (by first | (apply OQ.idxA0; exact Tryd.underlying164; exact q1s; exact rfl; exact rfl; exact (by (try simp only []); omega)) | (apply OQ.load; exact q1c; exact rfl; exact (.there .here); exact (Row.cell rfl)) | (apply OQ.callx; exact goes_left; exact rfl; exact (fun w' _ => left_any _ _ (by decide) w')) | (apply OQ.move; exact rfl) | (apply OQ.assign; exact rfl) | (apply OQ.add32; exact rfl; exact rfl) | (apply OQ.xor32; exact rfl; exact rfl)) rfl ?_ | refine JC.seq ?_ | refine JC.region ?_ | refine JL.nil ?_ | refine JQ.nil ?_ | refine JE.next ?_)
  refine JL.q (OQ.pure (v := .agg ((qr a b c d).map U32).toArray) rfl rfl (by kernel_rfl)) rfl ?_
  refine JL.store_all q4s rfl rfl rfl (all32q _) .here rfl ?_
  repeat (first | refine JL.nil ?_ | refine JE.next ?_)
  refine JC.ret (JE.ret1 rfl (RV.cell_agg q4a q4s rfl .here rfl Row.all) ?_)
  exact fun w' hw => ⟨rfl, hw.chg⟩

def w4 (l : List B) (i : Nat) : List B := [l.getD (4 * i) 0, l.getD (4 * i + 1) 0, l.getD (4 * i + 2) 0, l.getD (4 * i + 3) 0]
theorem w4_eq (l : List B) (i : Nat) (h : 4 * i + 4 ≤ l.length) : (l.drop (4 * i)).take 4 = w4 l i := by
  apply List.ext_getElem
  · simp [w4]; omega
  · intro j h1 h2
    have h2 : j < 4 := h2
    rcases j with _ | _ | _ | _ | j <;> first | omega | simp [w4, List.getD, show 4 * i < l.length by omega, show 4 * i + 1 < l.length by omega, show 4 * i + 2 < l.length by omega, show 4 * i + 3 < l.length by omega]
theorem w4_cells (l : List B) (i : Nat) (h : 4 * i + 4 ≤ l.length) : ((l.map U8).drop (0 + 4 * i)).take ((w4 l i).map U8).length = (w4 l i).map U8 := by
  rw [Nat.zero_add, show ((w4 l i).map U8).length = 4 from rfl, ← List.map_drop, ← List.map_take, w4_eq l i h]
set_option maxHeartbeats 8000000 in
theorem sword_any (l : List B) (i : Nat) (w : World) : Calls Tryd.prog 112 [.agg ((w4 l i).map U8).toArray].toArray w fun e w' => e = .returned (U32 (wd l i)) ∧ Ext w w' := by
  refine enter (n := 21) Tryd.func112 rfl rfl rfl (Holds.start w []) ?_
  repeat (first | refine JC.seq ?_ | refine JC.region ?_)
  refine JL.box (r := (w4 l i).map U8) rfl rfl rfl fun b1 _ => ?_
  repeat (first | refine JL.q (by first | (apply OQ.idxA0; exact Tryd.underlying161; exact s5; exact rfl; exact rfl; exact (by (try simp only []); omega)) | (apply OQ.load; exact c5; exact rfl; exact .here; exact (Row.cell rfl)) | (apply OQ.assign; exact rfl) | (apply OQ.or32; exact rfl; exact rfl) | (apply OQ.shl32; exact rfl; exact rfl) | (apply OQ.conv8_32; exact rfl; exact rfl; exact rfl)) rfl ?_ | refine JC.seq ?_ | refine JC.region ?_ | refine JL.nil ?_ | refine JE.next ?_)
  refine JC.ret (JE.ret1 rfl (RV.tmp rfl) ?_)
  exact fun w' hw => ⟨rfl, hw.chg⟩
set_option maxHeartbeats 8000000 in
theorem rword_any (l : List B) (i b j cap : Nat) (w : World) (h : ∀ k, k < 4 → w.cell? ⟨b, j + k, none⟩ = some (U8 (l.getD (4 * i + k) 0))) : Calls Tryd.prog 116 [.slice (some ⟨b, j, none⟩) 4 cap].toArray w fun e w' => e = .returned (U32 (wd l i)) ∧ Ext w w' := by
  refine enter (n := 25) Tryd.func116 rfl rfl rfl (Holds.start w []) ?_
  have h0 := h 0 (by decide)
  have h1 := h 1 (by decide)
  have h2 := h 2 (by decide)
  have h3 := h 3 (by decide)
  have hb := block_lt_of_cell h0
  repeat (first | refine JL.q (by (apply OQ.assign; exact rfl)) rfl ?_ | refine JC.seq ?_ | refine JC.region ?_ | refine JL.nil ?_ | refine JE.next ?_)
  refine JC.quiet mixQ (by kernel_rfl) ?_
  repeat (first | refine JQ.q (by first | (apply OQ.idxS1; exact Tryd.underlying27; exact s5; exact rfl; exact rfl; exact (by decide)) | (apply OQ.load_old; exact c5; exact rfl; exact hb; exact (by simp); exact h0) | (apply OQ.load_old; exact c5; exact rfl; exact hb; exact (by simp); exact h1) | (apply OQ.load_old; exact c5; exact rfl; exact hb; exact (by simp); exact h2) | (apply OQ.load_old; exact c5; exact rfl; exact hb; exact (by simp); exact h3) | (apply OQ.mul32 (b := 256#32); exact rfl; exact rfl) | (apply OQ.mul32 (b := 65536#32); exact rfl; exact rfl) | (apply OQ.mul32 (b := 16777216#32); exact rfl; exact rfl) | (apply OQ.move; exact rfl) | (apply OQ.assign; exact rfl) | (apply OQ.add32; exact rfl; exact rfl) | (apply OQ.conv8_32; exact rfl; exact rfl; exact rfl)) rfl ?_ | refine JQ.nil ?_ | refine JE.next ?_)
  refine JC.ret (JE.ret1 rfl (RV.tmp rfl) ?_)
  exact fun w' hw => ⟨by rw [wd, wd_add]; rfl, hw.chg⟩

/-! ### the words that a block begins with -/
def bgA (key : List B) (i : Nat) : List W := (c4 ++ wds key i) ++ List.replicate (12 - i) 0
def bgB (key : List B) (ctr : W) (nonce : List B) (i : Nat) : List W := (c4 ++ wds key 8 ++ [ctr] ++ wds nonce i) ++ List.replicate (3 - i) 0
theorem set_end {l : List W} {k i : Nat} (hl : l.length = i) (h0 : 0 < k) (x : W) : (l ++ List.replicate k 0).set i x = (l ++ [x]) ++ List.replicate (k - 1) 0 := by
  subst hl
  obtain ⟨k, rfl⟩ : ∃ j, k = j + 1 := ⟨k - 1, by omega⟩
  rw [List.set_append_right _ _ (Nat.le_refl _), Nat.sub_self, List.replicate_succ, List.set_cons_zero]
  simp
theorem bgA_length (key : List B) (i : Nat) (h : i ≤ 8) : (bgA key i).length = 16 := by simp [bgA, c4, wds_length]; omega
theorem bgB_length (key : List B) (ctr : W) (nonce : List B) (i : Nat) (h : i ≤ 3) : (bgB key ctr nonce i).length = 16 := by simp [bgB, c4, wds_length]; omega
theorem bgA_set (key : List B) (i : Nat) (h : i < 8) : ((bgA key i).map U32).set (4 + i) (U32 (wd key i)) = (bgA key (i + 1)).map U32 := by
  rw [← List.map_set, bgA, set_end (by simp [c4, wds_length]; omega) (by omega), bgA, show wds key (i + 1) = wds key i ++ [wd key i] from rfl, show 12 - i - 1 = 12 - (i + 1) by omega]
  simp
theorem bgA_ctr (key : List B) (ctr : W) (nonce : List B) : ((bgA key 8).map U32).set 12 (U32 ctr) = (bgB key ctr nonce 0).map U32 := by
  rw [← List.map_set, bgA, set_end (by simp [c4, wds_length]) (by decide), bgB, wds]
  simp
theorem bgB_set (key : List B) (ctr : W) (nonce : List B) (i : Nat) (h : i < 3) : ((bgB key ctr nonce i).map U32).set (13 + i) (U32 (wd nonce i)) = (bgB key ctr nonce (i + 1)).map U32 := by
  rw [← List.map_set, bgB, set_end (by simp [c4, wds_length]; omega) (by omega), bgB, show wds nonce (i + 1) = wds nonce i ++ [wd nonce i] from rfl, show 3 - i - 1 = 3 - (i + 1) by omega]
  simp
theorem bgB_all (key : List B) (ctr : W) (nonce : List B) : bgB key ctr nonce 3 = sbegin key ctr nonce := by simp [bgB, sbegin]

set_option maxHeartbeats 8000000 in
theorem beginning_any (key : List B) (ctr : W) (nonce : List B) (hk : key.length = 32) (hn : nonce.length = 12) (w : World) :
    Calls Tryd.prog 82 [.agg (key.map U8).toArray, U32 ctr, .agg (nonce.map U8).toArray].toArray w fun e w' => e = .returned (.agg ((sbegin key ctr nonce).map U32).toArray) ∧ Ext w w' := by
  refine enter (n := 40) Tryd.func82 rfl rfl rfl (Holds.start w []) ?_
  repeat (first | refine JC.seq ?_ | refine JC.region ?_)
  refine JL.box (r := key.map U8) rfl rfl rfl fun b3 _ => ?_
  refine JL.box (r := nonce.map U8) rfl rfl rfl fun b5 _ => ?_
  refine JL.alloc w16z rfl fun b6 _ => ?_
  repeat (first | refine JC.seq ?_ | refine JC.region ?_ | refine JL.nil ?_ | refine JE.next ?_)
  refine JL.q (OQ.pure (v := .agg ((bgA key 0).map U32).toArray) rfl rfl (by kernel_rfl)) rfl ?_
  refine JL.alloc w16z rfl fun b7 _ => ?_
  refine JL.store_all w16s rfl rfl rfl (all32q _) .here (by simp) ?_
  repeat (first | refine JL.q (by (apply OQ.move; exact rfl)) rfl ?_ | refine JC.seq ?_ | refine JC.region ?_ | refine JC.block ?_ | refine JL.nil ?_ | refine JE.next ?_)
  refine JC.loop (fun i : Nat => [(1, U32 ctr), (3, Pt b3 0), (5, Pt b5 0), (6, Pt b6 0), (7, Pt b7 0), (11, N i)])
    (fun i => [⟨b7, Row 128 ((bgA key i).map U32), true⟩, ⟨b6, Row 128 ((List.replicate 16 (0 : W)).map U32), true⟩, ⟨b5, Row 67 (nonce.map U8), true⟩, ⟨b3, Row 23 (key.map U8), true⟩])
    (fun i => 8 - i) (fun i => i ≤ 8) 0 (by omega) (by repeat (first | exact SubE.nil | refine SubE.cons _ _ _ rfl ?_)) (Less.refl _) ?_
  intro i hi
  repeat (first | refine JL.q (by (apply OQ.lssN; exact rfl; exact rfl)) rfl ?_ | refine JC.seq ?_ | refine JC.region ?_ | refine JL.nil ?_ | refine JE.next ?_)
  refine JC.cond rfl (fun h => ?_) (fun h => ?_)
  · have hi' : i < 8 := of_decide_eq_true h
    clear h hi
    repeat (first | refine JL.q (by first | (apply OQ.slA_lo; exact Tryd.underlying23; exact s5; exact rfl; exact rfl; exact (show 4 * i < 32 by omega)) | (apply OQ.arr (k := 4); exact Tryd.underlying161; exact rfl; exact (show 4 ≤ 32 - 4 * i by omega)) | (apply OQ.load_agg (cs := (w4 key i).map U8); exact b4a; exact b4s; exact rfl; exact (.there (.there (.there .here))); exact rfl; exact (Row.cells (w4_cells key i (by omega)))) | (apply OQ.callx; exact goes_sword; exact rfl; exact (fun w' _ => sword_any key i w')) | (apply OQ.idxA0; exact Tryd.underlying128; exact q1s; exact rfl; exact rfl; exact (by (try simp only []); omega)) | (apply OQ.move; exact rfl) | (apply OQ.assign; exact rfl) | (apply OQ.addN; exact rfl; exact rfl; exact (by (try simp only []); omega)) | (apply OQ.mulN; exact rfl; exact rfl; exact (by (try simp only []); omega))) rfl ?_ | refine JC.seq ?_ | refine JC.region ?_ | refine JC.block ?_ | refine JC.skip ?_ | refine JL.nil ?_ | refine JE.next ?_)
    refine JL.store_eq q1s rfl rfl rfl rfl .here (by rw [List.length_map, bgA_length _ _ (by omega)]; (try simp only []); omega) (bgA_set key i hi') ?_
    repeat (first | refine JL.q (by first | (apply OQ.move; exact rfl) | (apply OQ.addN; exact rfl; exact rfl; exact (by (try simp only []); omega))) rfl ?_ | refine JC.region ?_ | refine JL.nil ?_ | refine JE.next ?_ | refine JE.blk_normal ?_)
    exact JE.again (i := i) (i + 1) (by omega) (by omega) (by repeat (first | exact SubE.nil | refine SubE.cons _ _ _ rfl ?_)) (Less.refl _)
  · have hi' : ¬ i < 8 := of_decide_eq_false h
    obtain rfl : i = 8 := by omega
    clear h hi hi'
    repeat (first | refine JL.q (by first | (apply OQ.idxA0; exact Tryd.underlying128; exact q1s; exact rfl; exact rfl; exact (by decide)) | (apply OQ.move; exact rfl)) rfl ?_ | refine JC.seq ?_ | refine JC.region ?_ | refine JC.exit ?_ | refine JE.next ?_ | refine JE.then_exit ?_ | refine JE.blk_hit ?_)
    refine JL.store_eq q1s rfl rfl rfl rfl .here (by rw [List.length_map, bgA_length _ _ (by omega)]; decide) (bgA_ctr key ctr nonce) ?_
    repeat (first | refine JL.q (by (apply OQ.move; exact rfl)) rfl ?_ | refine JC.seq ?_ | refine JC.region ?_ | refine JC.block ?_ | refine JL.nil ?_ | refine JE.next ?_)
    refine JC.loop (fun i : Nat => [(3, Pt b3 0), (5, Pt b5 0), (6, Pt b6 0), (7, Pt b7 0), (26, N i)])
      (fun i => [⟨b7, Row 128 ((bgB key ctr nonce i).map U32), true⟩, ⟨b6, Row 128 ((List.replicate 16 (0 : W)).map U32), true⟩, ⟨b5, Row 67 (nonce.map U8), true⟩, ⟨b3, Row 23 (key.map U8), true⟩])
      (fun i => 3 - i) (fun i => i ≤ 3) 0 (by omega) (by repeat (first | exact SubE.nil | refine SubE.cons _ _ _ rfl ?_)) (Less.refl _) ?_
    intro i hi
    repeat (first | refine JL.q (by (apply OQ.lssN; exact rfl; exact rfl)) rfl ?_ | refine JC.seq ?_ | refine JC.region ?_ | refine JL.nil ?_ | refine JE.next ?_)
    refine JC.cond rfl (fun h => ?_) (fun h => ?_)
    · have hi' : i < 3 := of_decide_eq_true h
      clear h hi
      repeat (first | refine JL.q (by first | (apply OQ.slA_lo; exact Tryd.underlying67; exact s5; exact rfl; exact rfl; exact (show 4 * i < 12 by omega)) | (apply OQ.arr (k := 4); exact Tryd.underlying161; exact rfl; exact (show 4 ≤ 12 - 4 * i by omega)) | (apply OQ.load_agg (cs := (w4 nonce i).map U8); exact b4a; exact b4s; exact rfl; exact (.there (.there .here)); exact rfl; exact (Row.cells (w4_cells nonce i (by omega)))) | (apply OQ.callx; exact goes_sword; exact rfl; exact (fun w' _ => sword_any nonce i w')) | (apply OQ.idxA0; exact Tryd.underlying128; exact q1s; exact rfl; exact rfl; exact (by (try simp only []); omega)) | (apply OQ.move; exact rfl) | (apply OQ.assign; exact rfl) | (apply OQ.addN; exact rfl; exact rfl; exact (by (try simp only []); omega)) | (apply OQ.mulN; exact rfl; exact rfl; exact (by (try simp only []); omega))) rfl ?_ | refine JC.seq ?_ | refine JC.region ?_ | refine JC.block ?_ | refine JC.skip ?_ | refine JL.nil ?_ | refine JE.next ?_)
      refine JL.store_eq q1s rfl rfl rfl rfl .here (by rw [List.length_map, bgB_length _ _ _ _ (by omega)]; (try simp only []); omega) (bgB_set key ctr nonce i hi') ?_
      repeat (first | refine JL.q (by first | (apply OQ.move; exact rfl) | (apply OQ.addN; exact rfl; exact rfl; exact (by (try simp only []); omega))) rfl ?_ | refine JC.region ?_ | refine JL.nil ?_ | refine JE.next ?_ | refine JE.blk_normal ?_)
      exact JE.again (i := i) (i + 1) (by omega) (by omega) (by repeat (first | exact SubE.nil | refine SubE.cons _ _ _ rfl ?_)) (Less.refl _)
    · have hi' : ¬ i < 3 := of_decide_eq_false h
      obtain rfl : i = 3 := by omega
      clear h hi hi'
      have hl : ((bgB key ctr nonce 3).map U32).length = 16 := by rw [List.length_map, bgB_length _ _ _ _ (by omega)]
      repeat (first | refine JL.q (by (apply OQ.load_agg (cs := (bgB key ctr nonce 3).map U32); exact w16a; exact w16s; exact rfl; exact .here; exact hl; exact Row.all)) rfl ?_ | refine JC.seq ?_ | refine JC.region ?_ | refine JC.exit ?_ | refine JE.next ?_ | refine JE.then_exit ?_ | refine JE.blk_hit ?_)
      refine JL.store_all w16s rfl rfl hl (all32q _) (.there .here) (by simp) ?_
      repeat (first | refine JL.nil ?_ | refine JE.next ?_)
      refine JC.ret (JE.ret1 rfl (RV.cell_agg w16a w16s rfl (.there .here) hl Row.all) ?_)
      exact fun w' hw => ⟨by rw [bgB_all], hw.chg⟩
end Go.Proofs.YtbhlcnimjoppeaaDoor

/-
  Of no statement by itself: what stream.mixed and stream.Block give.
  Conditions: each theorem's own; the listed table of quarters.
-/
namespace Go.Proofs.YtbhlcnimjoppeaaDoor
set_option maxRecDepth 10000
open Sl Sha Str

/-- the variable stream.quarters holds the quarters' words -/
def GQ (w : World) : Prop := ∃ e fr, w.heap[0]? = some (.cells (ordF.map N).toArray e fr)
theorem GQ.lt {w : World} (h : GQ w) : 0 < w.heap.size := by
  obtain ⟨e, fr, h⟩ := h
  exact (Array.getElem?_eq_some_iff.1 h).1
theorem GQ.cells {w : World} (h : GQ w) : ∀ i u, (ordF.map N)[i]? = some u → w.cell? ⟨0, 0 + i, none⟩ = some u := by
  obtain ⟨e, fr, h⟩ := h
  intro i u hu
  simpa [World.cell?, h] using hu
theorem GQ.chg {S : List Nat} {w w' : World} (h : GQ w) (hc : Chg S w w') (h0 : 0 ∉ S) : GQ w' := by
  have hl := h.lt
  obtain ⟨e, fr, h⟩ := h
  exact ⟨e, fr, (hc.block _ hl h0).trans h⟩
theorem goes_mixed : Goes Tryd.prog 83 := ⟨_, Tryd.func83, rfl, by kernel_rfl⟩
theorem in1s : szT Tryd.prog 3 = some 1 := by kernel_rfl
theorem in1c : scal Tryd.prog 3 = true := by kernel_rfl
theorem i4s : szT Tryd.prog 74 = some 4 := by kernel_rfl
theorem i4a : aggT Tryd.prog 74 = true := by kernel_rfl
theorem i4z : zc Tryd.prog 74 = some ((List.replicate 4 0).map N) := by kernel_rfl
theorem i8s : szT Tryd.prog 163 = some 32 := by kernel_rfl
theorem i8a : aggT Tryd.prog 163 = true := by kernel_rfl
theorem u64z : zc Tryd.prog 125 = some ((List.replicate 64 (0 : B)).map U8) := by kernel_rfl
theorem allN (l : List Nat) : (l.map N).all Value.oneCell' = true := by simp [Value.oneCell']

def o4 (q : Nat) : List Nat := [oi q 0, oi q 1, oi q 2, oi q 3]
theorem o4_nat : ∀ q < 8, (ordF.drop (q * 4)).take 4 = o4 q := by decide
theorem o4_eq (q : Nat) (h : q < 8) : ((ordF.map N).drop (q * 4)).take 4 = (o4 q).map N := by rw [← List.map_drop, ← List.map_take, o4_nat q h]
theorem o4_get (q k : Nat) (hk : k < 4) : ((o4 q).map N)[k]? = some (N (oi q k)) := by
  have : k = 0 ∨ k = 1 ∨ k = 2 ∨ k = 3 := by omega
  rcases this with rfl | rfl | rfl | rfl <;> rfl
theorem w_get {s : List W} {j : Nat} (h : j < s.length) : (s.map U32)[j]? = some (U32 (s.getD j 0)) := map_at U32 0 h
def blA (s : List W) (i : Nat) : List B := bl s i ++ List.replicate (64 - 4 * i) 0
theorem set4 {l : List B} {k m : Nat} (hl : l.length = m) (h : 4 ≤ k) (a b c d : B) : ((((((l ++ List.replicate k 0).map U8).set m (U8 a)).set (m + 1) (U8 b)).set (m + 2) (U8 c)).set (m + 3) (U8 d)) = (l ++ [a, b, c, d] ++ List.replicate (k - 4) 0).map U8 := by
  subst hl
  obtain ⟨k, rfl⟩ : ∃ j, k = j + 4 := ⟨k - 4, by omega⟩
  simp only [← List.map_set, Nat.add_sub_cancel, List.replicate_succ]
  congr 1
  rw [List.set_append_right _ _ (Nat.le_refl _), List.set_append_right _ _ (by omega), List.set_append_right _ _ (by omega), List.set_append_right _ _ (by omega)]
  simp [List.append_assoc, List.set_cons_succ, List.set_cons_zero]
theorem blA_length (s : List W) (i : Nat) (h : i ≤ 16) : ((blA s i).map U8).length = 64 := by simp [blA, bl_length]; omega
theorem blA_set (s : List W) (i : Nat) (h : i < 16) (x : W) (hx : x = (st s 80).getD i 0 + s.getD i 0) : (((((blA s i).map U8).set (4 * i) (U8 (x.setWidth 8))).set (4 * i + 1) (U8 ((x >>> 8).setWidth 8))).set (4 * i + 2) (U8 ((x >>> 16).setWidth 8))).set (4 * i + 3) (U8 ((x >>> 24).setWidth 8)) = (blA s (i + 1)).map U8 := by
  subst hx
  rw [blA, set4 (bl_length s i) (by omega), blA, bl, show 64 - 4 * i - 4 = 64 - 4 * (i + 1) by omega]
  rfl
def needH : Nat → List (Nat × Nat)
  | 1 => [(0, 19)]
  | 2 => [(1, 20)]
  | 3 => [(2, 21)]
  | 5 => [(4, 23)]
  | 6 => [(5, 24)]
  | 7 => [(6, 25)]
  | 9 => [(8, 27)]
  | 10 => [(9, 28)]
  | 11 => [(10, 29)]
  | 13 => [(12, 31)]
  | 14 => [(13, 32)]
  | 15 => [(14, 33)]
  | 16 => [(3, 22), (7, 26), (11, 30), (15, 34)]
  | 17 => [(16, 35)]
  | 19 => [(18, 6), (17, 36)]
  | _ => []
def inpH : Nat → List Nat
  | 1 => [20]
  | 3 => [21]
  | 5 => [20]
  | 7 => [21]
  | 9 => [20]
  | 11 => [21]
  | 13 => [20]
  | 15 => [21]
  | 19 => [18]
  | _ => []
def eatH : Nat → List Nat
  | 19 => [18]
  | _ => []
def srcH : Nat → Option Nat
  | 19 => some 18
  | _ => none
def needI : Nat → List (Nat × Nat)
  | 1 => [(0, 37)]
  | 3 => [(2, 39)]
  | 5 => [(4, 41)]
  | 7 => [(6, 43)]
  | 9 => [(8, 45)]
  | 11 => [(10, 47)]
  | 13 => [(12, 49)]
  | 15 => [(14, 51)]
  | 16 => [(1, 38)]
  | 17 => [(16, 53), (9, 46)]
  | 18 => [(3, 40)]
  | 19 => [(18, 54), (11, 48)]
  | 20 => [(5, 42)]
  | 21 => [(20, 55), (13, 50)]
  | 22 => [(7, 44)]
  | 23 => [(22, 56), (15, 52)]
  | _ => []
def inpI : Nat → List Nat
  | 1 => [25]
  | 3 => [25]
  | 5 => [25]
  | 7 => [25]
  | 9 => [24]
  | 11 => [24]
  | 13 => [24]
  | 15 => [24]
  | 17 => [26]
  | 19 => [17]
  | 21 => [19]
  | 23 => [21]
  | _ => []
def eatI : Nat → List Nat
  | 17 => [26]
  | 19 => [17]
  | 21 => [19]
  | 23 => [21]
  | _ => []

set_option maxHeartbeats 16000000 in
set_option maxRecDepth 8000 in
theorem mixed_any (s : List W) (hs : s.length = 16) (w : World) (hQ : GQ w) : Calls Tryd.prog 83 [.agg (s.map U32).toArray].toArray w fun e w' => e = .returned (.agg ((block s).map U8).toArray) ∧ Ext w w' := by
  have hsl : (s.map U32).length = 16 := by simpa using hs
  refine enter (n := 97) Tryd.func83 rfl rfl rfl (Holds.start w []) ?_
  repeat (first | refine JC.seq ?_ | refine JC.region ?_)
  refine JL.box (r := s.map U32) rfl rfl rfl fun b1 _ => ?_
  refine JL.alloc u64z rfl fun b2 _ => ?_
  repeat (first | refine JC.seq ?_ | refine JC.region ?_ | refine JL.nil ?_ | refine JE.next ?_)
  refine JL.alloc w16z rfl fun b3 _ => ?_
  repeat (first | refine JC.seq ?_ | refine JL.nil ?_ | refine JE.next ?_)
  refine JC.tail 2 mixQ (by kernel_rfl) ?_
  simp only [List.take_succ_cons, List.take_zero, List.drop_succ_cons, List.drop_zero]
  repeat (first | refine JQ.q (by (apply OQ.slA; exact Tryd.underlying128; exact q1s; exact rfl)) rfl ?_ | refine JQ.nil_tail ?_)
  refine JL.copy (cs := s.map U32) (r' := (st s 0).map U32) Tryd.underlying162 q1s rfl rfl .here hsl (fun w' hw' => ?_) (fun v hv => List.all_eq_true.1 (all32q s) v hv) (by simp) (by rw [List.take_of_length_le (l := s.map U32) (by omega)]; simp [st]) rfl ?_
  · obtain ⟨o, ho, hA⟩ := hw'.get (.there (.there .here))
    exact Reads.block ho (Row.all _ hA)
  repeat (first | refine JL.q (by (apply OQ.move; exact rfl)) rfl ?_ | refine JC.seq ?_ | refine JC.region ?_ | refine JC.block ?_ | refine JL.nil ?_ | refine JE.next ?_)
  refine JC.loop (fun r : Nat => [(1, Pt b1 0), (2, Pt b2 0), (3, Pt b3 0), (13, N r)])
    (fun r => [⟨b3, Row 128 ((st s (8 * r)).map U32), true⟩, ⟨b2, Row 125 ((List.replicate 64 (0 : B)).map U8), true⟩, ⟨b1, Row 128 (s.map U32), true⟩])
    (fun r => 10 - r) (fun r => r ≤ 10) 0 (by omega) (by repeat (first | exact SubE.nil | refine SubE.cons _ _ _ rfl ?_)) (Less.refl _) ?_
  intro r hr
  repeat (first | refine JL.q (by (apply OQ.lssN; exact rfl; exact rfl)) rfl ?_ | refine JC.seq ?_ | refine JC.region ?_ | refine JL.nil ?_ | refine JE.next ?_)
  refine JC.cond rfl (fun h => ?_) (fun h => ?_)
  · have hr' : r < 10 := of_decide_eq_true h
    clear h hr
    repeat (first | refine JL.q (by first | (apply OQ.load_agg_old (cs := ordF.map N); exact i8a; exact rfl; exact i8s; exact hQ.lt; exact (by simp); exact hQ.cells) | (apply OQ.move; exact rfl)) rfl ?_ | refine JC.seq ?_ | refine JC.region ?_ | refine JC.block ?_ | refine JC.skip ?_ | refine JL.nil ?_ | refine JE.next ?_)
    refine JC.loop (fun q : Nat => [(1, Pt b1 0), (2, Pt b2 0), (3, Pt b3 0), (13, N r), (15, .agg (ordF.map N).toArray), (16, N q)])
      (fun q => [⟨b3, Row 128 ((st s (8 * r + q)).map U32), true⟩, ⟨b2, Row 125 ((List.replicate 64 (0 : B)).map U8), true⟩, ⟨b1, Row 128 (s.map U32), true⟩])
      (fun q => 8 - q) (fun q => q ≤ 8) 0 (by omega) (by repeat (first | exact SubE.nil | refine SubE.cons _ _ _ rfl ?_)) (Less.refl _) ?_
    intro q hq
    repeat (first | refine JL.q (by (apply OQ.lssN; exact rfl; exact rfl)) rfl ?_ | refine JC.seq ?_ | refine JC.region ?_ | refine JL.nil ?_ | refine JE.next ?_)
    refine JC.cond rfl (fun h => ?_) (fun h => ?_)
    · have hq' : q < 8 := of_decide_eq_true h
      clear h hq
      have hv16 : (st s (8 * r + q)).length = 16 := by rw [st_length, hs]
      have hnext : st s (8 * r + (q + 1)) = put4 (st s (8 * r + q)) q (q4 (st s (8 * r + q)) q) 4 := by
        rw [← Nat.add_assoc, st, qs, show (8 * r + q) % 8 = q by omega]
      generalize st s (8 * r + q) = v at hv16 hnext
      have hlt := fun k hk => oi_lt q hq' k hk
      have hget : ∀ k, k < 4 → (v.map U32)[oi q k]? = some (U32 (v.getD (oi q k) 0)) := fun k hk => w_get (by rw [hv16]; exact hlt k hk)
      repeat (first | refine JL.q (by (apply OQ.indexA; exact Tryd.underlying163; exact i4s; exact i4a; exact rfl; exact rfl; exact hq'; exact (o4_eq q hq'))) rfl ?_ | refine JC.seq ?_ | refine JC.region ?_ | refine JC.block ?_ | refine JC.skip ?_ | refine JE.next ?_)
      refine JL.alloc i4z rfl fun b5 _ => ?_
      refine JL.store_all i4s rfl rfl rfl (allN _) .here (by simp) ?_
      repeat (first | refine JC.seq ?_ | refine JL.nil ?_ | refine JE.next ?_)
      let vs : Nat → X → Value := fun i x => if i < 16 then (match i % 4 with | 0 => Pt b5 (i / 4) | 1 => N (oi q (i / 4)) | 2 => Pt b3 (oi q (i / 4)) | _ => U32 (v.getD (oi q (i / 4)) 0)) else match i with
        | 18 => Pt x.1 0
        | 16 => .agg (([v.getD (oi q 0) 0, v.getD (oi q 1) 0, v.getD (oi q 2) 0, v.getD (oi q 3) 0] : List W).map U32).toArray
        | _ => .agg ((q4 v q).map U32).toArray
      let Ms : Nat → X → List Ent := fun i x => match i with
        | 18 => [⟨x.1, Row 164 ((List.replicate 4 (0 : W)).map U32), true⟩]
        | 19 => [⟨x.1, Row 164 ((q4 v q).map U32), true⟩]
        | 20 => [⟨b5, Row 74 ((o4 q).map N), true⟩]
        | 21 => [⟨b3, Row 128 (v.map U32), true⟩]
        | 22 => [⟨b2, Row 125 ((List.replicate 64 (0 : B)).map U8), true⟩, ⟨b1, Row 128 (s.map U32), true⟩]
        | _ => []
      refine JC.grow (g := ⟨[(1, Pt b1 0), (2, Pt b2 0), (3, Pt b3 0), (5, Pt b5 0), (13, N r), (15, .agg (ordF.map N).toArray), (16, N q)], 23, vs, Ms, needH, inpH, eatH, srcH⟩) [(18, 6)] [19, 20, 21, 22] mixQ (by repeat (first | exact SubE.nil | refine SubE.cons _ _ _ rfl ?_)) (Less.refl _) (by kernel_rfl) (by kernel_rfl) (by kernel_rfl) ?_ ?_
      · refine ⟨?_, ?_, ?_, ?_, ?_, ?_, ?_, ?_, ?_, ?_, ?_, ?_, ?_, ?_, ?_, ?_, ?_, ?_, ?_, ?_, trivial⟩
        iterate 16 (focus (intro x EF MF Q kk; (try refine JL.gon rfl rfl ?_); exact JL.q (by first | (apply OQ.idxA0; exact Tryd.underlying74; exact in1s; exact rfl; exact rfl; exact (by decide)) | (apply OQ.load; exact in1c; exact rfl; exact .here; exact (Row.cell rfl)) | (apply OQ.idxA0; exact Tryd.underlying128; exact q1s; exact rfl; exact rfl; exact (hlt _ (by decide))) | (apply OQ.load; exact q1c; exact rfl; exact .here; exact (Row.cell (hget _ (by decide))))) rfl (JL.nil (kk default nofun))))
        · intro x EF MF Q kk
          exact JL.q (OQ.pure (v := .agg (([v.getD (oi q 0) 0, v.getD (oi q 1) 0, v.getD (oi q 2) 0, v.getD (oi q 3) 0] : List W).map U32).toArray) rfl rfl (by kernel_rfl)) rfl (JL.nil (kk (0, 0) nofun))
        · intro x EF MF Q kk
          exact JL.q (OQ.callx goes_quarter rfl fun w' _ => quarter_any _ _ _ _ w') rfl (JL.nil (kk (0, 0) nofun))
        · intro x EF MF Q kk
          exact JL.alloc q4z rfl fun b _ => JL.nil (kk (b, 0) nofun)
        · intro x EF MF Q kk
          exact JL.store_all q4s rfl rfl rfl (all32q _) .here rfl (JL.nil (kk (x 18) (fun k h => by cases h; rfl)))
      · intro x hx
        have h19 := hx 19 18 (by decide) rfl
        show JE _ _ _ _ _ [(6, Pt (x 18).1 0), (1, Pt b1 0), (2, Pt b2 0), (3, Pt b3 0), (5, Pt b5 0), (13, N r), (15, .agg (ordF.map N).toArray), (16, N q)] [⟨(x 19).1, Row 164 ((q4 v q).map U32), true⟩, ⟨b5, Row 74 ((o4 q).map N), true⟩, ⟨b3, Row 128 (v.map U32), true⟩, ⟨b2, Row 125 ((List.replicate 64 (0 : B)).map U8), true⟩, ⟨b1, Row 128 (s.map U32), true⟩]
        rw [h19]
        generalize (x 18).1 = b6
        clear hx h19 x vs Ms
        repeat (refine JE.next ?_)
        let vs : Nat → X → Value := fun i _ => if i < 8 then (match i % 2 with | 0 => Pt b5 (i / 2) | _ => N (oi q (i / 2))) else if i < 16 then (match i % 2 with | 0 => Pt b6 ((i - 8) / 2) | _ => U32 ((q4 v q).getD ((i - 8) / 2) 0)) else Pt b3 (oi q ((i - 16) / 2))
        let Ms : Nat → X → List Ent := fun i _ => match i with
          | 17 => [⟨b3, Row 128 ((put4 v q (q4 v q) 1).map U32), true⟩]
          | 19 => [⟨b3, Row 128 ((put4 v q (q4 v q) 2).map U32), true⟩]
          | 21 => [⟨b3, Row 128 ((put4 v q (q4 v q) 3).map U32), true⟩]
          | 23 => [⟨b3, Row 128 ((put4 v q (q4 v q) 4).map U32), true⟩]
          | 24 => [⟨b6, Row 164 ((q4 v q).map U32), true⟩]
          | 25 => [⟨b5, Row 74 ((o4 q).map N), true⟩]
          | 26 => [⟨b3, Row 128 ((put4 v q (q4 v q) 0).map U32), true⟩]
          | 27 => [⟨b2, Row 125 ((List.replicate 64 (0 : B)).map U8), true⟩, ⟨b1, Row 128 (s.map U32), true⟩]
          | _ => []
        have hput : ∀ k, ((put4 v q (q4 v q) k).map U32).length = 16 := fun k => by rw [List.length_map, put4_length, hv16]
        have hset : ∀ k, ((put4 v q (q4 v q) k).map U32).set (oi q k) (U32 ((q4 v q).getD k 0)) = (put4 v q (q4 v q) (k + 1)).map U32 := fun k => by rw [put4, List.map_set]
        refine JC.grow (g := ⟨[(1, Pt b1 0), (2, Pt b2 0), (3, Pt b3 0), (5, Pt b5 0), (6, Pt b6 0), (13, N r), (15, .agg (ordF.map N).toArray), (16, N q)], 28, vs, Ms, needI, inpI, eatI, fun _ => none⟩) [] [23, 27] mixQ (by repeat (first | exact SubE.nil | refine SubE.cons _ _ _ rfl ?_)) (Less.refl _) (by kernel_rfl) (by kernel_rfl) (by kernel_rfl) ?_ ?_
        · refine ⟨?_, ?_, ?_, ?_, ?_, ?_, ?_, ?_, ?_, ?_, ?_, ?_, ?_, ?_, ?_, ?_, ?_, ?_, ?_, ?_, ?_, ?_, ?_, ?_, trivial⟩
          iterate 16 (focus (intro x EF MF Q kk; (try refine JL.gon rfl rfl ?_); exact JL.q (by first | (apply OQ.idxA0; exact Tryd.underlying74; exact in1s; exact rfl; exact rfl; exact (by decide)) | (apply OQ.load; exact in1c; exact rfl; exact .here; exact (Row.cell rfl)) | (apply OQ.idxA0; exact Tryd.underlying164; exact q1s; exact rfl; exact rfl; exact (by decide))) rfl (JL.nil (kk default nofun))))
          iterate 4 ((focus (intro x EF MF Q kk; (try refine JL.gon rfl rfl ?_); exact JL.q (by (apply OQ.idxA0; exact Tryd.underlying128; exact q1s; exact rfl; exact rfl; exact (hlt _ (by decide)))) rfl (JL.nil (kk default nofun)))); (focus (intro x EF MF Q kk; exact JL.store_eq q1s rfl rfl rfl rfl .here (by rw [hput]; exact hlt _ (by decide)) (hset _) (JL.nil (kk (0, 0) nofun)))))
        · intro x hx
          clear hx
          show JE _ _ _ _ _ [(1, Pt b1 0), (2, Pt b2 0), (3, Pt b3 0), (5, Pt b5 0), (6, Pt b6 0), (13, N r), (15, .agg (ordF.map N).toArray), (16, N q)] [⟨b3, Row 128 ((put4 v q (q4 v q) 4).map U32), true⟩, ⟨b2, Row 125 ((List.replicate 64 (0 : B)).map U8), true⟩, ⟨b1, Row 128 (s.map U32), true⟩]
          rw [← hnext]
          clear x vs Ms hput hset
          repeat (first | refine JL.q (by first | (apply OQ.move; exact rfl) | (apply OQ.addN; exact rfl; exact rfl; exact (by (try simp only []); omega))) rfl ?_ | refine JC.region ?_ | refine JL.nil ?_ | refine JE.next ?_ | refine JE.blk_normal ?_)
          exact JE.again (i := q) (q + 1) (by omega) (by omega) (by repeat (first | exact SubE.nil | refine SubE.cons _ _ _ rfl ?_)) (Less.refl _)
    · have hq' : ¬ q < 8 := of_decide_eq_false h
      obtain rfl : q = 8 := by omega
      clear h hq hq'
      repeat (first | refine JL.q (by first | (apply OQ.move; exact rfl) | (apply OQ.addN; exact rfl; exact rfl; exact (by (try simp only []); omega))) rfl ?_ | refine JC.region ?_ | refine JC.exit ?_ | refine JL.nil ?_ | refine JE.next ?_ | refine JE.blk_normal ?_ | refine JE.then_exit ?_ | refine JE.blk_hit ?_)
      exact JE.again (i := r) (r + 1) (by omega) (by omega) (by repeat (first | exact SubE.nil | refine SubE.cons _ _ _ rfl ?_)) (Less.refl _)
  · have hr' : ¬ r < 10 := of_decide_eq_false h
    obtain rfl : r = 10 := by omega
    clear h hr hr'
    have hv16 : (st s (8 * 10)).length = 16 := by rw [st_length, hs]
    have hblA := blA_set s
    rw [show st s (8 * 10) = st s 80 from rfl] at hv16 ⊢
    generalize hv : st s 80 = v at hv16 hblA ⊢
    have hvl : (v.map U32).length = 16 := by simpa using hv16
    repeat (first | refine JC.seq ?_ | refine JC.region ?_ | refine JC.exit ?_ | refine JE.next ?_ | refine JE.then_exit ?_ | refine JE.blk_hit ?_)
    refine JL.alloc u64z rfl fun b7 _ => ?_
    repeat (first | refine JL.q (by first | (apply OQ.load_agg (cs := v.map U32); exact w16a; exact w16s; exact rfl; exact (.there .here); exact hvl; exact Row.all) | (apply OQ.move; exact rfl)) rfl ?_ | refine JC.seq ?_ | refine JC.region ?_ | refine JC.block ?_ | refine JL.nil ?_ | refine JE.next ?_)
    refine JC.loop (fun i : Nat => [(1, Pt b1 0), (2, Pt b2 0), (7, Pt b7 0), (59, .agg (v.map U32).toArray), (60, N i)])
      (fun i => [⟨b7, Row 125 ((blA s i).map U8), true⟩, ⟨b2, Row 125 ((List.replicate 64 (0 : B)).map U8), true⟩, ⟨b1, Row 128 (s.map U32), true⟩])
      (fun i => 16 - i) (fun i => i ≤ 16) 0 (by omega) (by repeat (first | exact SubE.nil | refine SubE.cons _ _ _ rfl ?_)) (.keep _ _ _ _ _ _ (fun _ h => h) (.drop _ _ _ (Less.refl _))) ?_
    intro i hi
    repeat (first | refine JL.q (by (apply OQ.lssN; exact rfl; exact rfl)) rfl ?_ | refine JC.seq ?_ | refine JC.region ?_ | refine JL.nil ?_ | refine JE.next ?_)
    refine JC.cond rfl (fun h => ?_) (fun h => ?_)
    · have hi' : i < 16 := of_decide_eq_true h
      clear h hi
      have hbl := blA_length s i (by omega)
      have hset := hblA i hi' _ rfl
      repeat (first | refine JL.q (by first | (apply OQ.index; exact Tryd.underlying128; exact q1s; exact q1c; exact rfl; exact rfl; exact hi'; exact (w_get (by omega))) | (apply OQ.idxA0; exact Tryd.underlying128; exact q1s; exact rfl; exact rfl; exact hi') | (apply OQ.load; exact q1c; exact rfl; exact (.there (.there .here)); exact (Row.cell (w_get (by omega)))) | (apply OQ.move; exact rfl) | (apply OQ.assign; exact rfl) | (apply OQ.add32; exact rfl; exact rfl) | (apply OQ.shr32; exact rfl; exact rfl) | (apply OQ.addN; exact rfl; exact rfl; exact (by (try simp only []); omega)) | (apply OQ.mulN; exact rfl; exact rfl; exact (by (try simp only []); omega)) | (apply OQ.conv32_8; exact rfl; exact rfl; exact rfl) | (apply OQ.idxA0; exact rfl; exact rfl; exact rfl; exact rfl; exact (by (try simp only []); omega))) rfl ?_ | refine JC.seq ?_ | refine JC.region ?_ | refine JC.block ?_ | refine JC.skip ?_ | refine JL.nil ?_ | refine JE.next ?_)
      generalize (blA s i).map U8 = r0 at hbl hset
      generalize v.getD i 0 + s.getD i 0 = z at hset
      skip
      refine JL.store_row rfl rfl s5 rfl rfl .here (by (try simp only []); omega) ?_
      repeat (refine JL.q (by (apply OQ.idxA0; exact Tryd.underlying125; exact s5; exact rfl; exact rfl; exact (by (try simp only []); omega))) rfl ?_)
      refine JL.store_row rfl rfl s5 rfl rfl .here (by rw [List.length_set]; (try simp only []); omega) ?_
      repeat (refine JL.q (by (apply OQ.idxA0; exact Tryd.underlying125; exact s5; exact rfl; exact rfl; exact (by (try simp only []); omega))) rfl ?_)
      refine JL.store_row rfl rfl s5 rfl rfl .here (by rw [List.length_set, List.length_set]; (try simp only []); omega) ?_
      repeat (refine JL.q (by (apply OQ.idxA0; exact Tryd.underlying125; exact s5; exact rfl; exact rfl; exact (by (try simp only []); omega))) rfl ?_)
      refine JL.store_eq s5 rfl rfl rfl rfl .here (by rw [List.length_set, List.length_set, List.length_set]; (try simp only []); omega) hset ?_
      repeat (first | refine JL.q (by first | (apply OQ.move; exact rfl) | (apply OQ.addN; exact rfl; exact rfl; exact (by (try simp only []); omega))) rfl ?_ | refine JC.region ?_ | refine JL.nil ?_ | refine JE.next ?_ | refine JE.blk_normal ?_)
      exact JE.again (i := i) (i + 1) (by omega) (by omega) (by repeat (first | exact SubE.nil | refine SubE.cons _ _ _ rfl ?_)) (Less.refl _)
    · have hi' : ¬ i < 16 := of_decide_eq_false h
      obtain rfl : i = 16 := by omega
      clear h hi hi'
      have hbl : blA s 16 = block s := by simp [blA, block]
      have hl := blA_length s 16 (by omega)
      rw [hbl] at hl ⊢
      repeat (first | refine JL.q (by (apply OQ.load_agg (cs := (block s).map U8); exact a60; exact s60; exact rfl; exact .here; exact hl; exact Row.all)) rfl ?_ | refine JC.seq ?_ | refine JC.region ?_ | refine JC.exit ?_ | refine JE.next ?_ | refine JE.then_exit ?_ | refine JE.blk_hit ?_)
      refine JL.store_all s60 rfl rfl hl (all8 _) (.there .here) (by simp) ?_
      repeat (first | refine JL.nil ?_ | refine JE.next ?_)
      refine JC.ret (JE.ret1 rfl (RV.cell_agg a60 s60 rfl (.there .here) hl Row.all) ?_)
      exact fun w' hw => ⟨rfl, hw.chg⟩

end Go.Proofs.YtbhlcnimjoppeaaDoor

/-
  Of no statement by itself: what the reference's Order and Block give.
  Conditions: each theorem's own.
-/
namespace Go.Proofs.YtbhlcnimjoppeaaDoor
set_option maxRecDepth 10000
open Sl Sha Str

theorem Sl.Has.of_mem {M : List Ent} {b : Nat} {A : Obj → Prop} {wr : Bool} (h : ⟨b, A, wr⟩ ∈ M) : Has M b A wr := by
  induction M with
  | nil => cases h
  | cons e M ih =>
    simp only [List.mem_cons] at h
    rcases h with h | h
    · subst h; exact .here
    · exact .there (ih h)
theorem Sl.Holds.perm {w0 w : World} {S : List Nat} {M M' : List Ent} (h : Holds w0 S M w) (hp : M.Perm M') : Holds w0 S M' w :=
  ⟨h.chg, (hp.map Ent.b).nodup_iff.1 h.nodup, fun e he => h.all e (hp.mem_iff.2 he)⟩
theorem JL.permS {P : Program} {n : Nat} {w0 : World} {S : List Nat} {ops : Array Oper} {Q : Exit → Act → World → Prop} {l : List Oper} {E : Env} {M M' : List Ent} (hp : M.Perm M') (h : JL P n w0 S ops Q l E M') : JL P n w0 S ops Q l E M := ⟨fun a w ha hw => h.go a w ha (hw.perm hp)⟩
theorem JL.store_own {P : Program} {n : Nat} {w0 : World} {S : List Nat} {ops : Array Oper} {Q : Exit → Act → World → Prop} {l : List Oper} {E : Env} {M M' : List Ent} {b j k cap : Nat} {t e ty : TypeId} {pos : String} {aft : Array Edge} {v : Value} {x y : Operand} {xs xs' : List Value}
    (hz : szT P t = some 1) (hx : ev E x = some (.pointer (some ⟨b, j, none⟩))) (hy : ev E y = some v) (hv : v.oneCell' = true) (hcl : v.cells = #[v]) (hu : Upd M b (Sl.Own e 1 k cap xs) (Sl.Own e 1 k cap xs') M') (hj : j < xs.length) (he : xs.set j v = xs')
    (kk : JL P n w0 S ops Q l E M') : JL P n w0 S ops Q (⟨none, .store t x y, ty, pos, aft, none⟩ :: l) E M :=
  JL.store hx hy hz hv hcl hu (by
    rintro o ⟨sp, rfl, h2, h3, h4⟩
    subst he
    refine ⟨_, _, rfl, by simp only [List.size_toArray, List.length_append]; omega, sp, ?_, by simpa using h2, by simpa using h3, h4⟩
    simp only [List.setIfInBounds_toArray]
    rw [List.set_append_left _ _ hj]) kk
theorem goes_order : Goes Tryd.prog 117 := ⟨_, Tryd.func117, rfl, by kernel_rfl⟩
theorem goes_rblock : Goes Tryd.prog 88 := ⟨_, Tryd.func88, rfl, by kernel_rfl⟩
theorem ei24 : EI Tryd.prog 86 (.int .u32 0) 1 4 := by unfold EI; kernel_rfl
theorem ei3 : EI Tryd.prog 3 (.int .i64 0) 1 8 := by unfold EI; kernel_rfl
theorem ei58 : EI Tryd.prog 173 (.slice none 0 0) 1 24 := by unfold EI; kernel_rfl
theorem is58 : szT Tryd.prog 173 = some 1 := by kernel_rfl
theorem ic58 : scal Tryd.prog 173 = true := by kernel_rfl

/-- the order's rows: one of eight, and the row of these -/
def d8 : List Nat := [7, 6, 5, 4, 3, 2, 1, 0]
def osl (f : Nat → Nat) (i : Nat) : Value := .slice (some ⟨f i, 0, none⟩) 4 4
def ordE (bo : Nat) (f : Nat → Nat) : List Ent := ⟨bo, Row 173 [osl f 0, osl f 1, osl f 2, osl f 3, osl f 4, osl f 5, osl f 6, osl f 7], true⟩ :: d8.map fun i => ⟨f i, Row 3 ((o4 i).map N), true⟩
theorem ordE_wr (bo : Nat) (f : Nat → Nat) : ∀ e ∈ ordE bo f, e.wr = true := by
  intro e he
  simp only [ordE, d8, List.map_cons, List.map_nil, List.mem_cons, List.not_mem_nil, or_false] at he
  rcases he with rfl | rfl | rfl | rfl | rfl | rfl | rfl | rfl | rfl <;> rfl
theorem ordE_mem (bo : Nat) (f : Nat → Nat) (i : Nat) (h : i < 8) : (⟨f i, Row 3 ((o4 i).map N), true⟩ : Ent) ∈ ordE bo f := by
  have : i = 0 ∨ i = 1 ∨ i = 2 ∨ i = 3 ∨ i = 4 ∨ i = 5 ∨ i = 6 ∨ i = 7 := by omega
  rcases this with rfl | rfl | rfl | rfl | rfl | rfl | rfl | rfl <;> simp [ordE, d8]
theorem ordE_has (bo : Nat) (f : Nat → Nat) (i : Nat) (h : i < 8) (M : List Ent) : Has (ordE bo f ++ M) (f i) (Row 3 ((o4 i).map N)) true := Has.of_mem (List.mem_append_left _ (ordE_mem bo f i h))
theorem ordE_has0 (bo : Nat) (f : Nat → Nat) (i : Nat) (h : i < 8) : Has (ordE bo f) (f i) (Row 3 ((o4 i).map N)) true := Has.of_mem (ordE_mem bo f i h)
theorem osl_get (f : Nat → Nat) (i : Nat) (h : i < 8) : [osl f 0, osl f 1, osl f 2, osl f 3, osl f 4, osl f 5, osl f 6, osl f 7][i]? = some (osl f i) := by
  have : i = 0 ∨ i = 1 ∨ i = 2 ∨ i = 3 ∨ i = 4 ∨ i = 5 ∨ i = 6 ∨ i = 7 := by omega
  rcases this with rfl | rfl | rfl | rfl | rfl | rfl | rfl | rfl <;> rfl
theorem N_cells (l : List Nat) : ∀ v ∈ l.map N, v.cells = #[v] := by
  intro v hv
  obtain ⟨x, _, rfl⟩ := List.mem_map.1 hv
  rfl

set_option maxHeartbeats 8000000 in
theorem order_any (w : World) : Calls Tryd.prog 117 ([] : List Value).toArray w fun e w' => ∃ i : Nat × (Nat → Nat), e = .returned (.slice (some ⟨i.1, 0, none⟩) 8 8) ∧ Holds w [] (ordE i.1 i.2) w' := by
  refine enter (n := 10) Tryd.func117 rfl rfl rfl (Holds.start w []) ?_
  repeat (first | refine JL.q (by (apply OQ.assign; exact rfl)) rfl ?_ | refine JC.seq ?_ | refine JC.region ?_ | refine JL.nil ?_ | refine JE.next ?_)
  refine JL.litL (xs := [.const (N 0), .const (N 4), .const (N 8), .const (N 12)]) (vs := (o4 0).map N) Tryd.underlying173 ei3 rfl rfl rfl (allN _) (N_cells _) rfl (by decide) (by decide) rfl fun b0 _ => ?_
  refine JL.litL (xs := [.const (N 1), .const (N 5), .const (N 9), .const (N 13)]) (vs := (o4 1).map N) Tryd.underlying173 ei3 rfl rfl rfl (allN _) (N_cells _) rfl (by decide) (by decide) rfl fun b1 _ => ?_
  refine JL.litL (xs := [.const (N 2), .const (N 6), .const (N 10), .const (N 14)]) (vs := (o4 2).map N) Tryd.underlying173 ei3 rfl rfl rfl (allN _) (N_cells _) rfl (by decide) (by decide) rfl fun b2 _ => ?_
  refine JL.litL (xs := [.const (N 3), .const (N 7), .const (N 11), .const (N 15)]) (vs := (o4 3).map N) Tryd.underlying173 ei3 rfl rfl rfl (allN _) (N_cells _) rfl (by decide) (by decide) rfl fun b3 _ => ?_
  refine JL.litL (xs := [.const (N 0), .const (N 5), .const (N 10), .const (N 15)]) (vs := (o4 4).map N) Tryd.underlying173 ei3 rfl rfl rfl (allN _) (N_cells _) rfl (by decide) (by decide) rfl fun b4 _ => ?_
  refine JL.litL (xs := [.const (N 1), .const (N 6), .const (N 11), .const (N 12)]) (vs := (o4 5).map N) Tryd.underlying173 ei3 rfl rfl rfl (allN _) (N_cells _) rfl (by decide) (by decide) rfl fun b5 _ => ?_
  refine JL.litL (xs := [.const (N 2), .const (N 7), .const (N 8), .const (N 13)]) (vs := (o4 6).map N) Tryd.underlying173 ei3 rfl rfl rfl (allN _) (N_cells _) rfl (by decide) (by decide) rfl fun b6 _ => ?_
  refine JL.litL (xs := [.const (N 3), .const (N 4), .const (N 9), .const (N 14)]) (vs := (o4 7).map N) Tryd.underlying173 ei3 rfl rfl rfl (allN _) (N_cells _) rfl (by decide) (by decide) rfl fun b7 _ => ?_
  let f : Nat → Nat := fun i => match i with | 0 => b0 | 1 => b1 | 2 => b2 | 3 => b3 | 4 => b4 | 5 => b5 | 6 => b6 | _ => b7
  refine JL.litL (xs := [.tmp 1, .tmp 2, .tmp 3, .tmp 4, .tmp 5, .tmp 6, .tmp 7, .tmp 8]) (vs := [osl f 0, osl f 1, osl f 2, osl f 3, osl f 4, osl f 5, osl f 6, osl f 7]) Tryd.underlying171 ei58 rfl rfl rfl rfl (by simp [osl, Value.cells]) rfl (by decide) (by decide) rfl fun b9 _ => ?_
  repeat (first | refine JL.q (by (apply OQ.assign; exact rfl)) rfl ?_ | refine JL.nil ?_ | refine JE.next ?_)
  refine JC.ret ?_
  skip
  exact JE.ret1 rfl (RV.tmp rfl) fun w' hw => ⟨(b9, f), rfl, hw⟩

def needJ : Nat → List (Nat × Nat)
  | 3 => [(1, 61), (2, 62)]
  | 4 => [(3, 63)]
  | 5 => [(4, 64)]
  | 6 => [(5, 65)]
  | 7 => [(0, 60), (6, 66)]
  | 8 => [(7, 67)]
  | 12 => [(10, 70), (11, 71)]
  | 13 => [(12, 72)]
  | 14 => [(13, 73)]
  | 15 => [(14, 74)]
  | 16 => [(9, 69), (15, 75)]
  | 17 => [(16, 76)]
  | 21 => [(19, 79), (20, 80)]
  | 22 => [(21, 81)]
  | 23 => [(22, 82)]
  | 24 => [(23, 83)]
  | 25 => [(18, 78), (24, 84)]
  | 26 => [(25, 85)]
  | 30 => [(28, 88), (29, 89)]
  | 31 => [(30, 90)]
  | 32 => [(31, 91)]
  | 33 => [(32, 92)]
  | 34 => [(27, 87), (33, 93)]
  | 35 => [(34, 94)]
  | 36 => [(8, 68), (17, 77), (26, 86), (35, 95)]
  | 37 => [(36, 96)]
  | 39 => [(38, 14), (37, 97)]
  | _ => []
def inpJ : Nat → List Nat
  | 4 => [42]
  | 6 => [42]
  | 8 => [40]
  | 13 => [42]
  | 15 => [42]
  | 17 => [40]
  | 22 => [42]
  | 24 => [42]
  | 26 => [40]
  | 31 => [42]
  | 33 => [42]
  | 35 => [40]
  | 39 => [38]
  | _ => []
def eatJ : Nat → List Nat
  | 39 => [38]
  | _ => []
def srcJ : Nat → Option Nat
  | 39 => some 38
  | _ => none

set_option maxHeartbeats 16000000 in
set_option maxRecDepth 8000 in
theorem rblock_any (key : List B) (ctr : W) (nonce : List B) (hk : key.length = 32) (hn : nonce.length = 12) (w : World) :
    Calls Tryd.prog 88 [.agg (key.map U8).toArray, U32 ctr, .agg (nonce.map U8).toArray].toArray w fun e w' => ∃ x : Nat × Nat, e = .returned (.slice (some ⟨x.1, 0, none⟩) 64 x.2) ∧ Holds w [] [⟨x.1, Sl.Own 5 1 64 x.2 ((ks key ctr nonce).map U8), true⟩] w' := by
  refine enter (n := 143) Tryd.func88 rfl rfl rfl (Holds.start w []) ?_
  repeat (first | refine JC.seq ?_ | refine JC.region ?_)
  refine JL.box (r := key.map U8) rfl rfl rfl fun b3 _ => ?_
  refine JL.box (r := nonce.map U8) rfl rfl rfl fun b5 _ => ?_
  repeat (first | refine JL.q (by (apply OQ.assign; exact rfl)) rfl ?_ | refine JC.seq ?_ | refine JC.region ?_ | refine JL.nil ?_ | refine JE.next ?_)
  refine JL.litL (xs := [.const (U32 0x61707865), .const (U32 0x3320646e), .const (U32 0x79622d32), .const (U32 0x6b206574)]) (vs := c4.map U32) Tryd.underlying162 ei24 rfl rfl rfl (all32q _) (by simp [Value.cells]) rfl (by decide) (by decide) rfl fun b7 _ => ?_
  repeat (first | refine JL.q (by (apply OQ.assign; exact rfl)) rfl ?_ | refine JC.seq ?_ | refine JC.region ?_ | refine JC.block ?_ | refine JL.nil ?_ | refine JE.next ?_)
  refine JC.loop (ι := Nat × Nat × Nat) (fun i => [(1, U32 ctr), (3, Pt b3 0), (5, Pt b5 0), (7, .slice (some ⟨i.2.1, 0, none⟩) (4 + i.1) i.2.2), (8, N (4 * i.1))])
    (fun i => [⟨i.2.1, Sl.Own 86 1 (4 + i.1) i.2.2 ((c4 ++ wds key i.1).map U32), true⟩, ⟨b5, Row 67 (nonce.map U8), true⟩, ⟨b3, Row 23 (key.map U8), true⟩])
    (fun i => 8 - i.1) (fun i => i.1 ≤ 8) (0, b7, 4) (by dsimp only; omega) (by repeat (first | exact SubE.nil | refine SubE.cons _ _ _ rfl ?_)) (.keep _ _ _ _ _ _ (row_ownG rfl) (Less.refl _)) ?_
  rintro ⟨j, b7, cap7⟩ hj
  dsimp only at hj ⊢
  repeat (first | refine JL.q (by first | (apply OQ.move; exact rfl) | (apply OQ.lssN; exact rfl; exact rfl)) rfl ?_ | refine JC.seq ?_ | refine JC.region ?_ | refine JL.nil ?_ | refine JE.next ?_)
  refine JC.cond rfl (fun h => ?_) (fun h => ?_)
  · have hj' : j < 8 := by
      have : 4 * j < 32 := of_decide_eq_true h
      omega
    clear h hj
    have hw4 := w4_cells key j (by omega)
    have hgt : ∀ k, k < 4 → (w4 key j)[k]? = some (key.getD (4 * j + k) 0) := fun k hk => by
      have : k = 0 ∨ k = 1 ∨ k = 2 ∨ k = 3 := by omega
      rcases this with rfl | rfl | rfl | rfl <;> rfl
    repeat (first | refine JL.q (by first | (apply OQ.slA_lohi; exact Tryd.underlying23; exact s5; exact rfl; exact rfl; exact rfl; exact (show 4 * j < 32 by omega); exact (show 4 * j ≤ 4 * j + 4 by omega); exact (show 4 * j + 4 ≤ 32 by omega)) | (apply OQ.move; exact rfl) | (apply OQ.addN; exact rfl; exact rfl; exact (by (try simp only []); omega))) rfl ?_ | refine JC.seq ?_ | refine JC.region ?_ | refine JC.block ?_ | refine JC.skip ?_ | refine JE.next ?_)
    rw [Nat.add_sub_cancel_left]
    repeat (refine JL.q (by (apply OQ.callx; exact goes_rword; exact rfl; exact (fun w' hw' => rword_any key j b3 (0 + 4 * j) (32 - 4 * j) w' (fun k hk => by obtain ⟨o, ho, hA⟩ := hw'.get (.there (.there .here)); exact cells_of ho (Row.cells hw4 _ hA) k _ (by rw [List.getElem?_map, hgt k hk]; rfl))))) rfl ?_)
    refine JL.lit1 Tryd.underlying162 ei24 rfl rfl rfl rfl fun b30 _ => ?_
    refine JL.append (cs := [U32 (wd key j)]) (fun b' cap' => [⟨b30, Row 86 [U32 (wd key j)], true⟩, ⟨b', Sl.Own 86 1 (4 + j + 1) cap' ((c4 ++ wds key j).map U32 ++ [U32 (wd key j)]), true⟩, ⟨b5, Row 67 (nonce.map U8), true⟩, ⟨b3, Row 23 (key.map U8), true⟩]) Tryd.underlying162 ei24 rfl rfl (by intro _ _; repeat (first | exact Repl.here | apply Repl.there)) rfl (fun w' hw' => ?_) (by simp [Value.oneCell']) rfl (by decide) (by omega) (by omega) rfl fun b7' cap7' => ?_
    · obtain ⟨o, ho, hA⟩ := hw'.get .here
      exact Reads.block ho (Row.all _ hA)
    repeat (first | refine JL.q (by first | (apply OQ.move; exact rfl) | (apply OQ.assign; exact rfl) | (apply OQ.addN; exact rfl; exact rfl; exact (by (try simp only []); omega))) rfl ?_ | refine JC.region ?_ | refine JL.nil ?_ | refine JE.next ?_ | refine JE.blk_normal ?_)
    rw [show 4 * j + 4 = 4 * (j + 1) by omega]
    exact JE.again (ι := Nat × Nat × Nat) (i := (j, b7, cap7)) (j + 1, b7', cap7') (by dsimp only; omega) (by dsimp only; omega) (by repeat (first | exact SubE.nil | refine SubE.cons _ _ _ rfl ?_)) (.drop _ _ _ (.keep _ _ _ _ _ _ (fun o ho => by simpa [wds, List.append_assoc, Nat.add_assoc] using ho) (Less.refl _)))
  · have hj' : ¬ j < 8 := by
      have : ¬ 4 * j < 32 := of_decide_eq_false h
      omega
    obtain rfl : j = 8 := by omega
    clear h hj hj'
    repeat (first | refine JL.q (by (apply OQ.move; exact rfl)) rfl ?_ | refine JC.seq ?_ | refine JC.region ?_ | refine JC.exit ?_ | refine JE.next ?_ | refine JE.then_exit ?_ | refine JE.blk_hit ?_)
    refine JL.lit1 Tryd.underlying162 ei24 rfl rfl rfl rfl fun b34 _ => ?_
    refine JL.append (cs := [U32 ctr]) (fun b' cap' => [⟨b34, Row 86 [U32 ctr], true⟩, ⟨b', Sl.Own 86 1 (4 + 8 + 1) cap' ((c4 ++ wds key 8).map U32 ++ [U32 ctr]), true⟩, ⟨b5, Row 67 (nonce.map U8), true⟩, ⟨b3, Row 23 (key.map U8), true⟩]) Tryd.underlying162 ei24 rfl rfl (by intro _ _; repeat (first | exact Repl.here | apply Repl.there)) rfl (fun w' hw' => ?_) (by simp [Value.oneCell']) rfl (by decide) (by decide) (by decide) rfl fun b7' cap7' => ?_
    · obtain ⟨o, ho, hA⟩ := hw'.get .here
      exact Reads.block ho (Row.all _ hA)
    repeat (first | refine JL.q (by (apply OQ.assign; exact rfl)) rfl ?_ | refine JC.seq ?_ | refine JC.region ?_ | refine JC.block ?_ | refine JL.nil ?_ | refine JE.next ?_)
    refine JC.loop (ι := Nat × Nat × Nat) (fun i => [(5, Pt b5 0), (7, .slice (some ⟨i.2.1, 0, none⟩) (13 + i.1) i.2.2), (9, N (4 * i.1))])
      (fun i => [⟨i.2.1, Sl.Own 86 1 (13 + i.1) i.2.2 ((c4 ++ wds key 8 ++ [ctr] ++ wds nonce i.1).map U32), true⟩, ⟨b5, Row 67 (nonce.map U8), true⟩])
      (fun i => 3 - i.1) (fun i => i.1 ≤ 3) (0, b7', cap7') (by dsimp only; omega) (by repeat (first | exact SubE.nil | refine SubE.cons _ _ _ rfl ?_)) (.drop _ _ _ (.keep _ _ _ _ _ _ (fun o ho => by simpa [wds] using ho) (.keep _ _ _ _ _ _ (fun _ h => h) (Less.nil _)))) ?_
    rintro ⟨j, b7, cap7⟩ hj
    dsimp only at hj ⊢
    repeat (first | refine JL.q (by first | (apply OQ.move; exact rfl) | (apply OQ.lssN; exact rfl; exact rfl)) rfl ?_ | refine JC.seq ?_ | refine JC.region ?_ | refine JL.nil ?_ | refine JE.next ?_)
    refine JC.cond rfl (fun h => ?_) (fun h => ?_)
    · have hj' : j < 3 := by
        have : 4 * j < 12 := of_decide_eq_true h
        omega
      clear h hj
      have hw4 := w4_cells nonce j (by omega)
      have hgt : ∀ k, k < 4 → (w4 nonce j)[k]? = some (nonce.getD (4 * j + k) 0) := fun k hk => by
        have : k = 0 ∨ k = 1 ∨ k = 2 ∨ k = 3 := by omega
        rcases this with rfl | rfl | rfl | rfl <;> rfl
      repeat (first | refine JL.q (by first | (apply OQ.slA_lohi; exact Tryd.underlying67; exact s5; exact rfl; exact rfl; exact rfl; exact (show 4 * j < 12 by omega); exact (show 4 * j ≤ 4 * j + 4 by omega); exact (show 4 * j + 4 ≤ 12 by omega)) | (apply OQ.move; exact rfl) | (apply OQ.addN; exact rfl; exact rfl; exact (by (try simp only []); omega))) rfl ?_ | refine JC.seq ?_ | refine JC.region ?_ | refine JC.block ?_ | refine JC.skip ?_ | refine JE.next ?_)
      rw [Nat.add_sub_cancel_left]
      repeat (refine JL.q (by (apply OQ.callx; exact goes_rword; exact rfl; exact (fun w' hw' => rword_any nonce j b5 (0 + 4 * j) (12 - 4 * j) w' (fun k hk => by obtain ⟨o, ho, hA⟩ := hw'.get (.there .here); exact cells_of ho (Row.cells hw4 _ hA) k _ (by rw [List.getElem?_map, hgt k hk]; rfl))))) rfl ?_)
      refine JL.lit1 Tryd.underlying162 ei24 rfl rfl rfl rfl fun b46 _ => ?_
      refine JL.append (cs := [U32 (wd nonce j)]) (fun b' cap' => [⟨b46, Row 86 [U32 (wd nonce j)], true⟩, ⟨b', Sl.Own 86 1 (13 + j + 1) cap' ((c4 ++ wds key 8 ++ [ctr] ++ wds nonce j).map U32 ++ [U32 (wd nonce j)]), true⟩, ⟨b5, Row 67 (nonce.map U8), true⟩]) Tryd.underlying162 ei24 rfl rfl (by intro _ _; repeat (first | exact Repl.here | apply Repl.there)) rfl (fun w' hw' => ?_) (by simp [Value.oneCell']) rfl (by decide) (by omega) (by omega) rfl fun b7' cap7' => ?_
      · obtain ⟨o, ho, hA⟩ := hw'.get .here
        exact Reads.block ho (Row.all _ hA)
      repeat (first | refine JL.q (by first | (apply OQ.move; exact rfl) | (apply OQ.assign; exact rfl) | (apply OQ.addN; exact rfl; exact rfl; exact (by (try simp only []); omega))) rfl ?_ | refine JC.region ?_ | refine JL.nil ?_ | refine JE.next ?_ | refine JE.blk_normal ?_)
      rw [show 4 * j + 4 = 4 * (j + 1) by omega]
      exact JE.again (ι := Nat × Nat × Nat) (i := (j, b7, cap7)) (j + 1, b7', cap7') (by dsimp only; omega) (by dsimp only; omega) (by repeat (first | exact SubE.nil | refine SubE.cons _ _ _ rfl ?_)) (.drop _ _ _ (.keep _ _ _ _ _ _ (fun o ho => by rw [show wds nonce (j + 1) = wds nonce j ++ [wd nonce j] from rfl]; simpa [List.append_assoc, Nat.add_assoc] using ho) (Less.refl _)))
    · have hj' : ¬ j < 3 := by
        have : ¬ 4 * j < 12 := of_decide_eq_false h
        omega
      obtain rfl : j = 3 := by omega
      clear h hj hj'
      rw [show c4 ++ wds key 8 ++ [ctr] ++ wds nonce 3 = sbegin key ctr nonce from rfl]
      have hks : ks key ctr nonce = block (sbegin key ctr nonce) := rfl
      have hs := sbegin_length key ctr nonce
      generalize sbegin key ctr nonce = s at hks hs ⊢
      have hsl : (s.map U32).length = 16 := by simpa using hs
      repeat (first | refine JC.seq ?_ | refine JC.region ?_ | refine JC.exit ?_ | refine JE.next ?_ | refine JE.then_exit ?_ | refine JE.blk_hit ?_)
      refine JL.litZ Tryd.underlying162 ei24 rfl fun b48 _ => ?_
      repeat (refine JL.q (by (apply OQ.move; exact rfl)) rfl ?_)
      refine JL.append (cs := s.map U32) (fun b' cap' => [⟨b', Sl.Own 86 1 (0 + 16) cap' ([] ++ s.map U32), true⟩, ⟨b7, Sl.Own 86 1 16 cap7 (s.map U32), true⟩, ⟨b5, Row 67 (nonce.map U8), true⟩]) Tryd.underlying162 ei24 rfl rfl (by intro _ _; repeat (first | exact Repl.here | apply Repl.there)) hsl (fun w' hw' => ?_) (fun v hv => List.all_eq_true.1 (all32q s) v hv) rfl (by decide) (by decide) (by decide) rfl fun b10 cap10 => ?_
      · obtain ⟨o, ho, hA⟩ := hw'.get (.there .here)
        exact Reads.block ho (Sl.Own.cells _ hA)
      rw [List.nil_append, Nat.zero_add]
      repeat (first | refine JL.q (by (apply OQ.assign; exact rfl)) rfl ?_ | refine JC.seq ?_ | refine JC.region ?_ | refine JL.nil ?_ | refine JE.next ?_)
      refine JL.callg (ι := Nat × (Nat → Nat)) (fun i => .slice (some ⟨i.1, 0, none⟩) 8 8) (fun i => ordE i.1 i.2) goes_order rfl rfl (fun i => ordE_wr _ _) (fun w' _ => order_any w') ?_
      rintro ⟨bo, f⟩
      dsimp only
      refine JL.permS List.perm_append_comm ?_
      repeat (first | refine JL.q (by (apply OQ.assign; exact rfl)) rfl ?_ | refine JC.seq ?_ | refine JC.region ?_ | refine JC.block ?_ | refine JL.nil ?_ | refine JE.next ?_)
      refine JC.loop (fun r : Nat => [(7, .slice (some ⟨b7, 0, none⟩) 16 cap7), (10, .slice (some ⟨b10, 0, none⟩) 16 cap10), (11, .slice (some ⟨bo, 0, none⟩) 8 8), (12, N r)])
        (fun r => ⟨b10, Sl.Own 86 1 16 cap10 ((st s (8 * r)).map U32), true⟩ :: ⟨b7, Sl.Own 86 1 16 cap7 (s.map U32), true⟩ :: ordE bo f)
        (fun r => 10 - r) (fun r => r ≤ 10) 0 (by omega) (by repeat (first | exact SubE.nil | refine SubE.cons _ _ _ rfl ?_)) (.keep _ _ _ _ _ _ (fun _ h => h) (.keep _ _ _ _ _ _ (fun _ h => h) (.drop _ _ _ (Less.refl _)))) ?_
      intro r hr
      repeat (first | refine JL.q (by first | (apply OQ.move; exact rfl) | (apply OQ.lssN; exact rfl; exact rfl)) rfl ?_ | refine JC.seq ?_ | refine JC.region ?_ | refine JL.nil ?_ | refine JE.next ?_)
      refine JC.cond rfl (fun h => ?_) (fun h => ?_)
      · have hr' : r < 10 := of_decide_eq_true h
        clear h hr
        repeat (first | refine JL.q (by (apply OQ.assign; exact rfl)) rfl ?_ | refine JC.seq ?_ | refine JC.region ?_ | refine JC.block ?_ | refine JC.skip ?_ | refine JL.nil ?_ | refine JE.next ?_)
        refine JC.loop (fun q : Nat => [(7, .slice (some ⟨b7, 0, none⟩) 16 cap7), (10, .slice (some ⟨b10, 0, none⟩) 16 cap10), (11, .slice (some ⟨bo, 0, none⟩) 8 8), (12, N r), (13, N q)])
          (fun q => ⟨b10, Sl.Own 86 1 16 cap10 ((st s (8 * r + q)).map U32), true⟩ :: ⟨b7, Sl.Own 86 1 16 cap7 (s.map U32), true⟩ :: ordE bo f)
          (fun q => 8 - q) (fun q => q ≤ 8) 0 (by omega) (by repeat (first | exact SubE.nil | refine SubE.cons _ _ _ rfl ?_)) (Less.refl _) ?_
        intro q hq
        repeat (first | refine JL.q (by first | (apply OQ.move; exact rfl) | (apply OQ.lssN; exact rfl; exact rfl)) rfl ?_ | refine JC.seq ?_ | refine JC.region ?_ | refine JL.nil ?_ | refine JE.next ?_)
        refine JC.cond rfl (fun h => ?_) (fun h => ?_)
        · have hq' : q < 8 := of_decide_eq_true h
          clear h hq
          have hv16 : (st s (8 * r + q)).length = 16 := by rw [st_length, hs]
          have hnext : st s (8 * r + (q + 1)) = put4 (st s (8 * r + q)) q (q4 (st s (8 * r + q)) q) 4 := by
            rw [← Nat.add_assoc, st, qs, show (8 * r + q) % 8 = q by omega]
          generalize st s (8 * r + q) = v at hv16 hnext
          have hlt := fun k hk => oi_lt q hq' k hk
          have hget : ∀ k, k < 4 → (v.map U32)[oi q k]? = some (U32 (v.getD (oi q k) 0)) := fun k hk => w_get (by rw [hv16]; exact hlt k hk)
          repeat (first | refine JC.seq ?_ | refine JC.block ?_ | refine JC.skip ?_ | refine JE.next ?_)
          let vs : Nat → X → Value := fun i x => if i < 36 then (match i % 9 with
            | 0 => .slice (some ⟨b10, 0, none⟩) 16 cap10
            | 1 => .slice (some ⟨bo, 0, none⟩) 8 8
            | 2 => N q
            | 3 => Pt bo q
            | 4 => osl f q
            | 5 => Pt (f q) (i / 9)
            | 6 => N (oi q (i / 9))
            | 7 => Pt b10 (oi q (i / 9))
            | _ => U32 (v.getD (oi q (i / 9)) 0)) else match i with
            | 38 => Pt x.1 0
            | 36 => .agg (([v.getD (oi q 0) 0, v.getD (oi q 1) 0, v.getD (oi q 2) 0, v.getD (oi q 3) 0] : List W).map U32).toArray
            | _ => .agg ((q4 v q).map U32).toArray
          let Ms : Nat → X → List Ent := fun i x => match i with
            | 38 => [⟨x.1, Row 164 ((List.replicate 4 (0 : W)).map U32), true⟩]
            | 39 => [⟨x.1, Row 164 ((q4 v q).map U32), true⟩]
            | 40 => [⟨b10, Sl.Own 86 1 16 cap10 (v.map U32), true⟩]
            | 41 => [⟨b7, Sl.Own 86 1 16 cap7 (s.map U32), true⟩]
            | 42 => ordE bo f
            | _ => []
          refine JC.grow (g := ⟨[(7, .slice (some ⟨b7, 0, none⟩) 16 cap7), (10, .slice (some ⟨b10, 0, none⟩) 16 cap10), (11, .slice (some ⟨bo, 0, none⟩) 8 8), (12, N r), (13, N q)], 43, vs, Ms, needJ, inpJ, eatJ, srcJ⟩) [(38, 14)] [39, 40, 41, 42] mixQ (by repeat (first | exact SubE.nil | refine SubE.cons _ _ _ rfl ?_)) (Less.refl _) (by kernel_rfl) (by kernel_rfl) (by kernel_rfl) ?_ ?_
          · refine ⟨?_, ?_, ?_, ?_, ?_, ?_, ?_, ?_, ?_, ?_, ?_, ?_, ?_, ?_, ?_, ?_, ?_, ?_, ?_, ?_, ?_, ?_, ?_, ?_, ?_, ?_, ?_, ?_, ?_, ?_, ?_, ?_, ?_, ?_, ?_, ?_, ?_, ?_, ?_, ?_, trivial⟩
            iterate 36 (focus (intro x EF MF Q kk; (try refine JL.gon rfl rfl ?_); exact JL.q (by first | (apply OQ.idxS0; exact Tryd.underlying171; exact is58; exact rfl; exact rfl; exact hq') | (apply OQ.load; exact ic58; exact rfl; exact .here; exact (Row.cell (osl_get f q hq'))) | (apply OQ.idxS0; exact Tryd.underlying173; exact in1s; exact rfl; exact rfl; exact (by decide)) | (apply OQ.load; exact in1c; exact rfl; exact (ordE_has bo f q hq' _); exact (Row.cell (o4_get q _ (by decide)))) | (apply OQ.idxS0; exact Tryd.underlying162; exact q1s; exact rfl; exact rfl; exact (hlt _ (by decide))) | (apply OQ.load; exact q1c; exact rfl; exact .here; exact (Sl.Own.cell (hget _ (by decide)))) | (apply OQ.move; exact rfl)) rfl (JL.nil (kk default nofun))))
            · intro x EF MF Q kk
              exact JL.q (OQ.pure (v := .agg (([v.getD (oi q 0) 0, v.getD (oi q 1) 0, v.getD (oi q 2) 0, v.getD (oi q 3) 0] : List W).map U32).toArray) rfl rfl (by kernel_rfl)) rfl (JL.nil (kk (0, 0) nofun))
            · intro x EF MF Q kk
              exact JL.q (OQ.callx goes_rquarter rfl fun w' _ => rquarter_any _ _ _ _ w') rfl (JL.nil (kk (0, 0) nofun))
            · intro x EF MF Q kk
              exact JL.alloc q4z rfl fun b _ => JL.nil (kk (b, 0) nofun)
            · intro x EF MF Q kk
              exact JL.store_all q4s rfl rfl rfl (all32q _) .here rfl (JL.nil (kk (x 38) (fun k h => by cases h; rfl)))
          · intro x hx
            have h39 := hx 39 38 (by decide) rfl
            show JE _ _ _ _ _ [(14, Pt (x 38).1 0), (7, .slice (some ⟨b7, 0, none⟩) 16 cap7), (10, .slice (some ⟨b10, 0, none⟩) 16 cap10), (11, .slice (some ⟨bo, 0, none⟩) 8 8), (12, N r), (13, N q)] (⟨(x 39).1, Row 164 ((q4 v q).map U32), true⟩ :: ⟨b10, Sl.Own 86 1 16 cap10 (v.map U32), true⟩ :: ⟨b7, Sl.Own 86 1 16 cap7 (s.map U32), true⟩ :: ordE bo f)
            rw [h39]
            generalize (x 38).1 = b14
            clear hx h39 x vs Ms
            repeat (first | refine JL.q (by (apply OQ.assign; exact rfl)) rfl ?_ | refine JC.seq ?_ | refine JC.region ?_ | refine JC.block ?_ | refine JL.nil ?_ | refine JE.next ?_)
            refine JC.loop (fun k : Nat => [(7, .slice (some ⟨b7, 0, none⟩) 16 cap7), (10, .slice (some ⟨b10, 0, none⟩) 16 cap10), (11, .slice (some ⟨bo, 0, none⟩) 8 8), (12, N r), (13, N q), (14, Pt b14 0), (15, N k)])
              (fun k => ⟨b14, Row 164 ((q4 v q).map U32), true⟩ :: ⟨b10, Sl.Own 86 1 16 cap10 ((put4 v q (q4 v q) k).map U32), true⟩ :: ⟨b7, Sl.Own 86 1 16 cap7 (s.map U32), true⟩ :: ordE bo f)
              (fun k => 4 - k) (fun k => k ≤ 4) 0 (by omega) (by repeat (first | exact SubE.nil | refine SubE.cons _ _ _ rfl ?_)) (Less.refl _) ?_
            intro k hk
            repeat (first | refine JL.q (by first | (apply OQ.move; exact rfl) | (apply OQ.lssN; exact rfl; exact rfl)) rfl ?_ | refine JC.seq ?_ | refine JC.region ?_ | refine JL.nil ?_ | refine JE.next ?_)
            refine JC.cond rfl (fun h => ?_) (fun h => ?_)
            · have hk' : k < 4 := of_decide_eq_true h
              clear h hk
              repeat (first | refine JC.seq ?_ | refine JC.block ?_ | refine JC.skip ?_ | refine JE.next ?_)
              refine JC.tail 12 mixQ (by kernel_rfl) ?_
              simp only [List.take_succ_cons, List.take_zero, List.drop_succ_cons, List.drop_zero]
              have hput : ((put4 v q (q4 v q) k).map U32).length = 16 := by rw [List.length_map, put4_length, hv16]
              have hq4 : ((q4 v q).map U32)[k]? = some (U32 ((q4 v q).getD k 0)) := w_get (by rw [q4_length]; exact hk')
              repeat (first | refine JQ.q (by first | (apply OQ.idxS0; exact Tryd.underlying171; exact is58; exact rfl; exact rfl; exact hq') | (apply OQ.load; exact ic58; exact rfl; exact (.there (.there (.there .here))); exact (Row.cell (osl_get f q hq'))) | (apply OQ.idxS0 (len := 4); exact Tryd.underlying173; exact in1s; exact rfl; exact rfl; exact hk') | (apply OQ.load; exact in1c; exact rfl; exact (.there (.there (.there (ordE_has0 bo f q hq')))); exact (Row.cell (o4_get q k hk'))) | (apply OQ.idxA0; exact Tryd.underlying164; exact q1s; exact rfl; exact rfl; exact hk') | (apply OQ.load; exact q1c; exact rfl; exact .here; exact (Row.cell hq4)) | (apply OQ.idxS0; exact Tryd.underlying162; exact q1s; exact rfl; exact rfl; exact (hlt k hk')) | (apply OQ.move; exact rfl)) rfl ?_ | refine JQ.nil_tail ?_)
              refine JL.store_own (xs' := (put4 v q (q4 v q) (k + 1)).map U32) q1s rfl rfl rfl rfl (.there .here) (by rw [hput]; exact hlt k hk') (by rw [put4, List.map_set]) ?_
              repeat (first | refine JL.q (by first | (apply OQ.move; exact rfl) | (apply OQ.assign; exact rfl) | (apply OQ.addN; exact rfl; exact rfl; exact (by (try simp only []); omega))) rfl ?_ | refine JC.region ?_ | refine JL.nil ?_ | refine JE.next ?_ | refine JE.blk_normal ?_)
              exact JE.again (i := k) (k + 1) (by omega) (by omega) (by repeat (first | exact SubE.nil | refine SubE.cons _ _ _ rfl ?_)) (Less.refl _)
            · have hk' : ¬ k < 4 := of_decide_eq_false h
              obtain rfl : k = 4 := by omega
              clear h hk hk'
              rw [← hnext]
              repeat (first | refine JL.q (by first | (apply OQ.move; exact rfl) | (apply OQ.assign; exact rfl) | (apply OQ.addN; exact rfl; exact rfl; exact (by (try simp only []); omega))) rfl ?_ | refine JC.region ?_ | refine JC.exit ?_ | refine JL.nil ?_ | refine JE.next ?_ | refine JE.blk_normal ?_ | refine JE.then_exit ?_ | refine JE.blk_hit ?_)
              exact JE.again (i := q) (q + 1) (by omega) (by omega) (by repeat (first | exact SubE.nil | refine SubE.cons _ _ _ rfl ?_)) (.drop _ _ _ (Less.refl _))
        · have hq' : ¬ q < 8 := of_decide_eq_false h
          obtain rfl : q = 8 := by omega
          clear h hq hq'
          repeat (first | refine JL.q (by first | (apply OQ.move; exact rfl) | (apply OQ.assign; exact rfl) | (apply OQ.addN; exact rfl; exact rfl; exact (by (try simp only []); omega))) rfl ?_ | refine JC.region ?_ | refine JC.exit ?_ | refine JL.nil ?_ | refine JE.next ?_ | refine JE.blk_normal ?_ | refine JE.then_exit ?_ | refine JE.blk_hit ?_)
          exact JE.again (i := r) (r + 1) (by omega) (by omega) (by repeat (first | exact SubE.nil | refine SubE.cons _ _ _ rfl ?_)) (Less.refl _)
      · have hr' : ¬ r < 10 := of_decide_eq_false h
        obtain rfl : r = 10 := by omega
        clear h hr hr'
        have hv16 : (st s (8 * 10)).length = 16 := by rw [st_length, hs]
        have hbls : ∀ i, bl s (i + 1) = bl s i ++ le4 ((st s 80).getD i 0 + s.getD i 0) := fun _ => rfl
        rw [show st s (8 * 10) = st s 80 from rfl] at hv16 ⊢
        generalize hv : st s 80 = v at hv16 hbls ⊢
        repeat (first | refine JC.seq ?_ | refine JC.region ?_ | refine JC.exit ?_ | refine JE.next ?_ | refine JE.then_exit ?_ | refine JE.blk_hit ?_)
        refine JL.litZ Tryd.underlying27 e5 rfl fun b16 _ => ?_
        repeat (first | refine JL.q (by (apply OQ.assign; exact rfl)) rfl ?_ | refine JC.seq ?_ | refine JC.region ?_ | refine JC.block ?_ | refine JL.nil ?_ | refine JE.next ?_)
        refine JC.loop (ι := Nat × Nat × Nat) (fun i => [(7, .slice (some ⟨b7, 0, none⟩) 16 cap7), (10, .slice (some ⟨b10, 0, none⟩) 16 cap10), (16, .slice (some ⟨i.2.1, 0, none⟩) (4 * i.1) i.2.2), (17, N i.1)])
          (fun i => [⟨i.2.1, Sl.Own 5 1 (4 * i.1) i.2.2 ((bl s i.1).map U8), true⟩, ⟨b10, Sl.Own 86 1 16 cap10 (v.map U32), true⟩, ⟨b7, Sl.Own 86 1 16 cap7 (s.map U32), true⟩])
          (fun i => 16 - i.1) (fun i => i.1 ≤ 16) (0, b16, 0) (by dsimp only; omega) (by repeat (first | exact SubE.nil | refine SubE.cons _ _ _ rfl ?_)) (.keep _ _ _ _ _ _ (fun _ h => h) (.keep _ _ _ _ _ _ (fun _ h => h) (.keep _ _ _ _ _ _ (fun _ h => h) (Less.nil _)))) ?_
        rintro ⟨i, b16, cap16⟩ hi
        dsimp only at hi ⊢
        repeat (first | refine JL.q (by first | (apply OQ.move; exact rfl) | (apply OQ.lssN; exact rfl; exact rfl)) rfl ?_ | refine JC.seq ?_ | refine JC.region ?_ | refine JL.nil ?_ | refine JE.next ?_)
        refine JC.cond rfl (fun h => ?_) (fun h => ?_)
        · have hi' : i < 16 := of_decide_eq_true h
          clear h hi
          repeat (first | refine JC.seq ?_ | refine JC.block ?_ | refine JC.skip ?_ | refine JE.next ?_)
          refine JC.quiet mixQ (by kernel_rfl) ?_
          repeat (first | refine JL.q (by first | (apply OQ.idxS0; exact Tryd.underlying162; exact q1s; exact rfl; exact rfl; exact hi') | (apply OQ.load (b := b10); exact q1c; exact rfl; exact (.there .here); exact (Sl.Own.cell (w_get (by omega)))) | (apply OQ.load (b := b7); exact q1c; exact rfl; exact (.there (.there .here)); exact (Sl.Own.cell (w_get (by omega)))) | (apply OQ.move; exact rfl) | (apply OQ.assign; exact rfl) | (apply OQ.add32; exact rfl; exact rfl) | (apply OQ.shr32; exact rfl; exact rfl) | (apply OQ.conv32_8; exact rfl; exact rfl; exact rfl)) rfl ?_ | refine JQ.q (by first | (apply OQ.idxS0; exact Tryd.underlying162; exact q1s; exact rfl; exact rfl; exact hi') | (apply OQ.load (b := b10); exact q1c; exact rfl; exact (.there .here); exact (Sl.Own.cell (w_get (by omega)))) | (apply OQ.load (b := b7); exact q1c; exact rfl; exact (.there (.there .here)); exact (Sl.Own.cell (w_get (by omega)))) | (apply OQ.move; exact rfl) | (apply OQ.assign; exact rfl) | (apply OQ.add32; exact rfl; exact rfl) | (apply OQ.shr32; exact rfl; exact rfl) | (apply OQ.conv32_8; exact rfl; exact rfl; exact rfl)) rfl ?_ | refine JC.region ?_ | refine JQ.nil ?_ | refine JE.next ?_)
          have hnx := hbls i
          generalize v.getD i 0 + s.getD i 0 = z at hnx
          refine JL.litL (xs := [.tmp 130, .tmp 133, .tmp 136, .tmp 139]) (vs := (le4 z).map U8) Tryd.underlying27 e5 rfl rfl rfl (all8 _) (by simp [Value.cells]) rfl (by decide) (by decide) rfl fun b140 _ => ?_
          refine JL.append (cs := (le4 z).map U8) (fun b' cap' => [⟨b140, Row 5 ((le4 z).map U8), true⟩, ⟨b', Sl.Own 5 1 (4 * i + 4) cap' ((bl s i).map U8 ++ (le4 z).map U8), true⟩, ⟨b10, Sl.Own 86 1 16 cap10 (v.map U32), true⟩, ⟨b7, Sl.Own 86 1 16 cap7 (s.map U32), true⟩]) Tryd.underlying27 e5 rfl rfl (by intro _ _; repeat (first | exact Repl.here | apply Repl.there)) rfl (fun w' hw' => ?_) (of_u8 _) rfl (by decide) (by omega) (by omega) rfl fun b16' cap16' => ?_
          · obtain ⟨o, ho, hA⟩ := hw'.get .here
            exact Reads.block ho (Row.all _ hA)
          rw [← List.map_append, ← hnx, show 4 * i + 4 = 4 * (i + 1) by omega]
          repeat (first | refine JL.q (by first | (apply OQ.move; exact rfl) | (apply OQ.assign; exact rfl) | (apply OQ.addN; exact rfl; exact rfl; exact (by (try simp only []); omega))) rfl ?_ | refine JC.region ?_ | refine JL.nil ?_ | refine JE.next ?_ | refine JE.blk_normal ?_)
          exact JE.again (ι := Nat × Nat × Nat) (i := (i, b16, cap16)) (i + 1, b16', cap16') (by dsimp only; omega) (by dsimp only; omega) (by repeat (first | exact SubE.nil | refine SubE.cons _ _ _ rfl ?_)) (.drop _ _ _ (Less.refl _))
        · have hi' : ¬ i < 16 := of_decide_eq_false h
          obtain rfl : i = 16 := by omega
          clear h hi hi'
          rw [hks]
          repeat (first | refine JL.q (by first | (apply OQ.move; exact rfl) | (apply OQ.assign; exact rfl)) rfl ?_ | refine JC.seq ?_ | refine JC.region ?_ | refine JC.exit ?_ | refine JL.nil ?_ | refine JE.next ?_ | refine JE.then_exit ?_ | refine JE.blk_hit ?_)
          refine JC.ret ?_
          skip
          exact JE.ret1 rfl (RV.tmp rfl) fun w' hw => ⟨(b16, cap16), rfl, hw.weak (.keep _ _ _ _ _ _ (fun _ h => h) (Less.nil _))⟩
end Go.Proofs.YtbhlcnimjoppeaaDoor

/-
  Of no statement by itself: what stream.Turn gives.
  Conditions: the theorem's own; the listed table of quarters.
-/
namespace Go.Proofs.YtbhlcnimjoppeaaDoor
set_option maxRecDepth 10000
open Sl Sha Str

theorem goes_turnb : Goes Tryd.prog 50 := ⟨_, Tryd.func50, rfl, by kernel_rfl⟩
theorem OQ.slS_in {P : Program} {n : Nat} {E : Env} {C : World → Prop} {dst : Option Tmp} {t ty e : TypeId} {pos : String} {aft : Array Edge} {g : Option (Nat × Bool)} {x y z : Operand} {len cap b j lo hi : Nat} (hu : P.underlying t = some (.slice e)) (hz : szT P e = some 1) (hx : ev E x = some (.slice (some ⟨b, j, none⟩) len cap)) (hl : ev E y = some (N lo)) (hh : ev E z = some (N hi)) (h : lo ≤ hi) (h' : hi ≤ cap) (h2 : lo < cap) :
    OQ P n E C ⟨dst, .slice t x (some y) (some z) none, ty, pos, aft, g⟩ (.slice (some ⟨b, j + lo, none⟩) (hi - lo) (cap - lo)) := by
  have := OQ.slS_lohi (P := P) (n := n) (E := E) (C := C) (dst := dst) (ty := ty) (pos := pos) (aft := aft) (g := g) hu hz hx hl hh h h'
  rw [if_neg (by omega), Nat.mul_one] at this
  simpa [add_off] using this

section
variable (key : List B) (ctr : W) (nonce l : List B)
/-- turned as far as j, noughts behind -/
def tz (j : Nat) : List B := turn key ctr nonce (l.take j) ++ List.replicate (l.length - j) 0
theorem tz_length (j : Nat) (h : j ≤ l.length) : ((tz key ctr nonce l j).map U8).length = l.length := by simp [tz, turn_length]; omega
theorem tz_zero : List.replicate (l.length * 1) (Value.int .u8 0) = (tz key ctr nonce l (min (64 * 0) l.length)).map U8 := by simp [tz, turn, turnAt, U8]
theorem tz_all : tz key ctr nonce l l.length = turn key ctr nonce l := by simp [tz]
theorem tz_set (q i : Nat) (hi : i < 64) (h : 64 * q + i < l.length) : ((tz key ctr nonce l (64 * q + i)).map U8).set (64 * q + i) (U8 (l.getD (64 * q + i) 0 ^^^ (ks key (ctr + BitVec.ofNat 32 q) nonce).getD i 0)) = (tz key ctr nonce l (64 * q + i + 1)).map U8 := by
  rw [← sb_at key ctr nonce q i hi]
  generalize 64 * q + i = j at h ⊢
  have hl : (turn key ctr nonce (l.take j)).length = j := by rw [turn_length, List.length_take]; omega
  rw [← List.map_set, tz, List.set_append_right _ _ (by omega), hl, Nat.sub_self, tz, turn_succ key ctr nonce l j h, show l.length - j = (l.length - (j + 1)) + 1 by omega, List.replicate_succ, List.set_cons_zero]
  simp
theorem ctr_succ (q : Nat) : ctr + BitVec.ofNat 32 q + 1#32 = ctr + BitVec.ofNat 32 (q + 1) := by rw [BitVec.add_assoc, BitVec.ofNat_add]
end

set_option maxHeartbeats 16000000 in
set_option maxRecDepth 4000 in
theorem turn_any' (key : List B) (ctr : W) (nonce : List B) (s : Sl8) (hk : key.length = 32) (hn : nonce.length = 12) (w : World) (hQ : GQ w) (hs : s.ok w) (hsl : s.l.length < 140737488355328) :
    Calls Tryd.prog 50 [.agg (key.map U8).toArray, U32 ctr, .agg (nonce.map U8).toArray, s.v].toArray w fun e w' => ∃ b, e = .returned (.slice (some ⟨b, 0, none⟩) s.l.length s.l.length) ∧ Holds w [] [⟨b, Row 5 ((turn key ctr nonce s.l).map U8), true⟩] w' := by
  refine enter (n := 60) Tryd.func50 rfl rfl rfl (Holds.start w []) ?_
  repeat (first | refine JC.seq ?_ | refine JC.region ?_)
  refine JL.box (r := key.map U8) rfl rfl rfl fun b4 _ => ?_
  refine JL.box (r := nonce.map U8) rfl rfl rfl fun b6 _ => ?_
  repeat (first | refine JL.q (by first | (apply OQ.load_agg (cs := key.map U8); exact a25; exact s25; exact rfl; exact (.there .here); exact (by simpa using hk); exact Row.all) | (apply OQ.load_agg (cs := nonce.map U8); exact noa; exact nos; exact rfl; exact .here; exact (by simpa using hn); exact Row.all) | (apply OQ.callx; exact goes_beginning; exact rfl; exact (fun w' _ => beginning_any key ctr nonce hk hn w')) | (apply OQ.move; exact rfl) | (apply OQ.assign; exact rfl)) rfl ?_ | refine JC.seq ?_ | refine JC.region ?_ | refine JL.nil ?_ | refine JE.next ?_)
  refine JL.alloc w16z rfl fun b9 _ => ?_
  have hbl : ∀ c, ((sbegin key c nonce).map U32).length = 16 := fun c => by rw [List.length_map, sbegin_length]
  refine JL.store_all w16s rfl rfl (hbl _) (all32q _) .here (by simp) ?_
  repeat (first | refine JL.q (by first | (apply OQ.move; exact rfl) | (apply OQ.len; exact rfl; exact rfl)) rfl ?_ | refine JC.seq ?_ | refine JC.region ?_ | refine JL.nil ?_ | refine JE.next ?_)
  refine JL.make Tryd.underlying27 e5 rfl (by decide) (c := s.l.length) rfl rfl (by omega) (by omega) rfl fun b10 _ => ?_
  rw [tz_zero key ctr nonce]
  repeat (first | refine JL.q (by (apply OQ.assign; exact rfl)) rfl ?_ | refine JC.seq ?_ | refine JC.region ?_ | refine JC.block ?_ | refine JL.nil ?_ | refine JE.next ?_)
  refine JC.loop (fun q : Nat => [(3, s.v), (9, Pt b9 0), (10, .slice (some ⟨b10, 0, none⟩) s.l.length s.l.length), (11, N (64 * q))])
    (fun q => [⟨b10, Row 5 ((tz key ctr nonce s.l (min (64 * q) s.l.length)).map U8), true⟩, ⟨b9, Row 128 ((sbegin key (ctr + BitVec.ofNat 32 q) nonce).map U32), true⟩])
    (fun q => s.l.length + 64 - 64 * q) (fun q => 64 * q < s.l.length + 64) 0 (by omega) (by repeat (first | exact SubE.nil | refine SubE.cons _ _ _ rfl ?_)) (.keep _ _ _ _ _ _ (fun _ h => h) (.keep _ _ _ _ _ _ (fun o ho => by simpa using ho) (Less.nil _))) ?_
  intro q hq
  repeat (first | refine JL.q (by first | (apply OQ.move; exact rfl) | (apply OQ.len; exact rfl; exact rfl) | (apply OQ.lssN; exact rfl; exact rfl)) rfl ?_ | refine JC.seq ?_ | refine JC.region ?_ | refine JL.nil ?_ | refine JE.next ?_)
  refine JC.cond rfl (fun h => ?_) (fun h => ?_)
  · have hq' : 64 * q < s.l.length := of_decide_eq_true h
    clear h hq
    obtain ⟨bb, jb, hae, hcell⟩ := hs.reads.at (by simp; omega)
    have hav : s.v = .slice (some ⟨bb, jb, none⟩) s.l.length s.cap := by rw [← hae]; rfl
    have hcap := hs.len
    have hksl : ((ks key (ctr + BitVec.ofNat 32 q) nonce).map U8).length = 64 := by rw [List.length_map, ks_length]
    repeat (first | refine JL.q (by first | (apply OQ.load_agg (cs := (sbegin key (ctr + BitVec.ofNat 32 q) nonce).map U32); exact w16a; exact w16s; exact rfl; exact (.there .here); exact (hbl _); exact Row.all) | (apply OQ.callx; exact goes_mixed; exact rfl; exact (fun w' hw' => mixed_any (sbegin key (ctr + BitVec.ofNat 32 q) nonce) (sbegin_length _ _ _) w' (hQ.chg hw'.chg (by simp))))) rfl ?_ | refine JC.seq ?_ | refine JC.region ?_ | refine JC.block ?_ | refine JC.skip ?_ | refine JE.next ?_)
    refine JL.alloc u64z rfl fun b12 _ => ?_
    refine JL.store_all s60 rfl rfl hksl (all8 _) .here (by simp) ?_
    rw [hav]
    obtain ⟨c, hc⟩ : ∃ c, c = min (64 * q + 64) s.l.length - 64 * q := ⟨_, rfl⟩
    have hc1 : c ≤ 64 := by omega
    have hc2 : 64 * q + c ≤ s.l.length := by omega
    repeat (first | refine JL.q (by first | (apply OQ.minN; exact rfl; exact rfl) | (apply OQ.slS_in; exact Tryd.underlying27; exact s5; exact rfl; exact rfl; exact rfl; exact (by (try simp only []); omega); exact (by (try simp only []); omega); exact (by (try simp only []); omega)) | (apply OQ.move; exact rfl) | (apply OQ.len; exact rfl; exact rfl) | (apply OQ.addN; exact rfl; exact rfl; exact (by (try simp only []); omega))) rfl ?_ | refine JC.seq ?_ | refine JC.region ?_ | refine JC.block ?_ | refine JL.nil ?_ | refine JE.next ?_)
    rw [← hc, Nat.min_eq_left (by omega : 64 * q ≤ s.l.length)]
    refine JC.loop (fun i : Nat => [(3, .slice (some ⟨bb, jb, none⟩) s.l.length s.cap), (9, Pt b9 0), (10, .slice (some ⟨b10, 0, none⟩) s.l.length s.l.length), (11, N (64 * q)), (12, Pt b12 0), (37, .slice (some ⟨bb, jb + 64 * q, none⟩) c (s.cap - 64 * q)), (38, N c), (39, N i)])
      (fun i => [⟨b12, Row 125 ((ks key (ctr + BitVec.ofNat 32 q) nonce).map U8), true⟩, ⟨b10, Row 5 ((tz key ctr nonce s.l (64 * q + i)).map U8), true⟩, ⟨b9, Row 128 ((sbegin key (ctr + BitVec.ofNat 32 q) nonce).map U32), true⟩])
      (fun i => c - i) (fun i => i ≤ c) 0 (by omega) (by repeat (first | exact SubE.nil | refine SubE.cons _ _ _ rfl ?_)) (Less.refl _) ?_
    intro i hi
    repeat (first | refine JL.q (by (apply OQ.lssN; exact rfl; exact rfl)) rfl ?_ | refine JC.seq ?_ | refine JC.region ?_ | refine JL.nil ?_ | refine JE.next ?_)
    refine JC.cond rfl (fun h => ?_) (fun h => ?_)
    · have hi' : i < c := of_decide_eq_true h
      clear h hi
      have hci : w.cell? ⟨bb, jb + 64 * q + i, none⟩ = some (U8 (s.l.getD (64 * q + i) 0)) := by
        rw [Nat.add_assoc]
        exact hcell _ _ (map_at U8 0 (by omega))
      repeat (first | refine JL.q (by first | (apply OQ.idxS1; exact Tryd.underlying27; exact s5; exact rfl; exact rfl; exact hi') | (apply OQ.load_old; exact c5; exact rfl; exact (block_lt_of_cell hci); exact (by simp); exact hci) | (apply OQ.idxA0; exact Tryd.underlying125; exact s5; exact rfl; exact rfl; exact (by (try simp only []); omega)) | (apply OQ.load; exact c5; exact rfl; exact .here; exact (Row.cell (map_at U8 0 (by rw [ks_length]; omega)))) | (apply OQ.idxS0; exact Tryd.underlying27; exact s5; exact rfl; exact rfl; exact (show 64 * q + i < s.l.length by omega)) | (apply OQ.move; exact rfl) | (apply OQ.assign; exact rfl) | (apply OQ.xor8; exact rfl; exact rfl) | (apply OQ.addN; exact rfl; exact rfl; exact (by (try simp only []); omega))) rfl ?_ | refine JC.seq ?_ | refine JC.region ?_ | refine JC.block ?_ | refine JC.skip ?_ | refine JL.nil ?_ | refine JE.next ?_)
      refine JL.store_eq s5 rfl rfl rfl rfl (.there .here) (by rw [tz_length _ _ _ _ _ (by omega)]; omega) (tz_set key ctr nonce s.l q i (by omega) (by omega)) ?_
      repeat (first | refine JL.q (by first | (apply OQ.move; exact rfl) | (apply OQ.addN; exact rfl; exact rfl; exact (by (try simp only []); omega))) rfl ?_ | refine JC.region ?_ | refine JL.nil ?_ | refine JE.next ?_ | refine JE.blk_normal ?_)
      exact JE.again (i := i) (i + 1) (by omega) (by omega) (by repeat (first | exact SubE.nil | refine SubE.cons _ _ _ rfl ?_)) (Less.refl _)
    · have hi' : ¬ i < c := of_decide_eq_false h
      obtain rfl : i = c := by omega
      clear h hi hi'
      have hg : ((sbegin key (ctr + BitVec.ofNat 32 q) nonce).map U32)[12]? = some (U32 (ctr + BitVec.ofNat 32 q)) := by
        have := w_get (s := sbegin key (ctr + BitVec.ofNat 32 q) nonce) (j := 12) (by rw [sbegin_length]; decide)
        rwa [sbegin_get] at this
      have hset : ((sbegin key (ctr + BitVec.ofNat 32 q) nonce).map U32).set 12 (U32 (ctr + BitVec.ofNat 32 q + 1#32)) = (sbegin key (ctr + BitVec.ofNat 32 (q + 1)) nonce).map U32 := by
        rw [← List.map_set, sbegin_set, ctr_succ]
      rw [← hav]
      repeat (first | refine JL.q (by first | (apply OQ.idxA0; exact Tryd.underlying128; exact q1s; exact rfl; exact rfl; exact (by decide)) | (apply OQ.load; exact q1c; exact rfl; exact (.there (.there .here)); exact (Row.cell hg)) | (apply OQ.add32 (b := 1#32); exact rfl; exact rfl)) rfl ?_ | refine JC.region ?_ | refine JC.exit ?_ | refine JE.next ?_ | refine JE.then_exit ?_ | refine JE.blk_hit ?_)
      refine JL.store_eq q1s rfl rfl rfl rfl (.there (.there .here)) (by rw [hbl]; decide) hset ?_
      repeat (first | refine JL.q (by first | (apply OQ.move; exact rfl) | (apply OQ.assign; exact rfl) | (apply OQ.addN; exact rfl; exact rfl; exact (by (try simp only []); omega))) rfl ?_ | refine JC.region ?_ | refine JL.nil ?_ | refine JE.next ?_ | refine JE.blk_normal ?_)
      rw [show 64 * q + 64 = 64 * (q + 1) by omega]
      exact JE.again (i := q) (q + 1) (by omega) (by omega) (by repeat (first | exact SubE.nil | refine SubE.cons _ _ _ rfl ?_)) (.drop _ _ _ (.keep _ _ _ _ _ _ (fun o ho => by rw [show min (64 * (q + 1)) s.l.length = 64 * q + i by omega]; exact ho) (Less.refl _)))
  · have hq' : ¬ 64 * q < s.l.length := of_decide_eq_false h
    clear h
    repeat (first | refine JL.q (by first | (apply OQ.move; exact rfl) | (apply OQ.assign; exact rfl)) rfl ?_ | refine JC.seq ?_ | refine JC.region ?_ | refine JC.exit ?_ | refine JL.nil ?_ | refine JE.next ?_ | refine JE.then_exit ?_ | refine JE.blk_hit ?_)
    refine JC.ret ?_
    skip
    refine JE.ret1 rfl (RV.tmp rfl) fun w' hw => ⟨b10, rfl, hw.weak (.keep _ _ _ _ _ _ (fun o ho => ?_) (Less.nil _))⟩
    rw [Nat.min_eq_right (by omega), tz_all] at ho
    exact ho
end Go.Proofs.YtbhlcnimjoppeaaDoor

/-
  Of no statement by itself: what the reference's Turn gives.
  Conditions: each theorem's own.
-/
namespace Go.Proofs.YtbhlcnimjoppeaaDoor
set_option maxRecDepth 10000
open Sl Sha Str

theorem goes_rturn : Goes Tryd.prog 61 := ⟨_, Tryd.func61, rfl, by kernel_rfl⟩
def needK : Nat → List (Nat × Nat)
  | 3 => [(1, 42), (2, 43)]
  | 4 => [(3, 44)]
  | 8 => [(6, 47), (7, 48)]
  | 9 => [(5, 46), (8, 49)]
  | 10 => [(9, 50)]
  | 11 => [(4, 45), (10, 51)]
  | 12 => [(11, 52)]
  | 13 => [(0, 41), (12, 53)]
  | 14 => [(13, 54)]
  | _ => []
def inpK : Nat → List Nat
  | 10 => [15]
  | 13 => [16, 12]
  | _ => []
def eatK : Nat → List Nat
  | 13 => [16]
  | _ => []
def srcK : Nat → Option Nat
  | 14 => some 13
  | _ => none

set_option maxHeartbeats 16000000 in
set_option maxRecDepth 8000 in
theorem rturn_any (key : List B) (ctr : W) (nonce : List B) (s : Sl8) (hk : key.length = 32) (hn : nonce.length = 12) (w : World) (hs : s.ok w) (hsl : s.l.length < 35184372088832) :
    Calls Tryd.prog 61 [.agg (key.map U8).toArray, U32 ctr, .agg (nonce.map U8).toArray, s.v].toArray w fun e w' => ∃ x : Nat × Nat, e = .returned (.slice (some ⟨x.1, 0, none⟩) s.l.length x.2) ∧ Holds w [] [⟨x.1, Sl.Own 5 1 s.l.length x.2 ((turn key ctr nonce s.l).map U8), true⟩] w' := by
  refine enter (n := 56) Tryd.func61 rfl rfl rfl (Holds.start w []) ?_
  repeat (first | refine JC.seq ?_ | refine JC.region ?_)
  refine JL.box (r := key.map U8) rfl rfl rfl fun b4 _ => ?_
  refine JL.box (r := nonce.map U8) rfl rfl rfl fun b6 _ => ?_
  repeat (first | refine JL.q (by (apply OQ.assign; exact rfl)) rfl ?_ | refine JC.seq ?_ | refine JC.region ?_ | refine JL.nil ?_ | refine JE.next ?_)
  refine JL.litZ Tryd.underlying27 e5 rfl fun b9 _ => ?_
  repeat (first | refine JL.q (by (apply OQ.assign; exact rfl)) rfl ?_ | refine JC.seq ?_ | refine JC.region ?_ | refine JC.block ?_ | refine JL.nil ?_ | refine JE.next ?_)
  refine JC.loop (ι := Nat × Nat × Nat) (fun i => [(1, U32 ctr), (3, s.v), (4, Pt b4 0), (6, Pt b6 0), (9, .slice (some ⟨i.2.1, 0, none⟩) (min (64 * i.1) s.l.length) i.2.2), (10, N (64 * i.1))])
    (fun i => [⟨i.2.1, Sl.Own 5 1 (min (64 * i.1) s.l.length) i.2.2 ((turn key ctr nonce (s.l.take (min (64 * i.1) s.l.length))).map U8), true⟩, ⟨b6, Row 67 (nonce.map U8), true⟩, ⟨b4, Row 23 (key.map U8), true⟩])
    (fun i => s.l.length + 64 - 64 * i.1) (fun i => 64 * i.1 < s.l.length + 64) (0, b9, 0) (by dsimp only; omega) ?_ (.keep _ _ _ _ _ _ (fun o ho => by simpa [turn, turnAt] using ho) (Less.refl _)) ?_
  · dsimp only
    rw [show min (64 * 0) s.l.length = 0 by omega]
    exact (by repeat (first | exact SubE.nil | refine SubE.cons _ _ _ rfl ?_))
  rintro ⟨q, b9, cap9⟩ hq
  dsimp only at hq ⊢
  repeat (first | refine JL.q (by first | (apply OQ.move; exact rfl) | (apply OQ.len; exact rfl; exact rfl) | (apply OQ.lssN; exact rfl; exact rfl)) rfl ?_ | refine JC.seq ?_ | refine JC.region ?_ | refine JL.nil ?_ | refine JE.next ?_)
  refine JC.cond rfl (fun h => ?_) (fun h => ?_)
  · have hq' : 64 * q < s.l.length := of_decide_eq_true h
    clear h hq
    obtain ⟨bb, jb, hae, hcell⟩ := hs.reads.at (by simp; omega)
    have hav : s.v = .slice (some ⟨bb, jb, none⟩) s.l.length s.cap := by rw [← hae]; rfl
    have hcap := hs.len
    rw [Nat.min_eq_left (by omega : 64 * q ≤ s.l.length)]
    repeat (first | refine JL.q (by first | (apply OQ.load_agg (cs := key.map U8); exact a25; exact s25; exact rfl; exact (.there (.there .here)); exact (by simpa using hk); exact Row.all) | (apply OQ.load_agg (cs := nonce.map U8); exact noa; exact nos; exact rfl; exact (.there .here); exact (by simpa using hn); exact Row.all) | (apply OQ.convN_32; exact rfl; exact rfl; exact rfl) | (apply OQ.move; exact rfl) | (apply OQ.add32; exact rfl; exact rfl) | (apply OQ.quoN; exact rfl; exact rfl; exact (by (try simp only []); omega); exact (by (try simp only []); omega))) rfl ?_ | refine JC.seq ?_ | refine JC.region ?_ | refine JC.block ?_ | refine JC.skip ?_ | refine JE.next ?_)
    rw [Nat.mul_div_cancel_left q (by decide)]
    refine JL.callg (ι := Nat × Nat) (fun x => .slice (some ⟨x.1, 0, none⟩) 64 x.2) (fun x => [⟨x.1, Sl.Own 5 1 64 x.2 ((ks key (ctr + BitVec.ofNat 32 q) nonce).map U8), true⟩]) goes_rblock rfl rfl (fun i => by simp) (fun w' _ => rblock_any key (ctr + BitVec.ofNat 32 q) nonce hk hn w') ?_
    rintro ⟨b11, cap11⟩
    dsimp only
    repeat (first | refine JL.q (by first | (apply OQ.move; exact rfl) | (apply OQ.assign; exact rfl)) rfl ?_ | refine JC.seq ?_ | refine JC.region ?_ | refine JC.block ?_ | refine JL.nil ?_ | refine JE.next ?_)
    rw [hav]
    have hsucc := fun i (hi : i < 64) (h : 64 * q + i < s.l.length) => (turn_succ key ctr nonce s.l (64 * q + i) h).trans (by rw [sb_at key ctr nonce q i hi])
    have hksl := ks_length key (ctr + BitVec.ofNat 32 q) nonce
    generalize ks key (ctr + BitVec.ofNat 32 q) nonce = kk0 at hsucc hksl
    obtain ⟨c, hc⟩ : ∃ c, c = min (64 * q + 64) s.l.length - 64 * q := ⟨_, rfl⟩
    refine JC.loop (ι := Nat × Nat × Nat) (fun i => [(1, U32 ctr), (3, .slice (some ⟨bb, jb, none⟩) s.l.length s.cap), (4, Pt b4 0), (6, Pt b6 0), (9, .slice (some ⟨i.2.1, 0, none⟩) (64 * q + i.1) i.2.2), (10, N (64 * q)), (11, .slice (some ⟨b11, 0, none⟩) 64 cap11), (12, N (64 * q + i.1))])
      (fun i => [⟨b11, Sl.Own 5 1 64 cap11 (kk0.map U8), true⟩, ⟨i.2.1, Sl.Own 5 1 (64 * q + i.1) i.2.2 ((turn key ctr nonce (s.l.take (64 * q + i.1))).map U8), true⟩, ⟨b6, Row 67 (nonce.map U8), true⟩, ⟨b4, Row 23 (key.map U8), true⟩])
      (fun i => c - i.1) (fun i => i.1 ≤ c) (0, b9, cap9) (by dsimp only; omega) (by repeat (first | exact SubE.nil | refine SubE.cons _ _ _ rfl ?_)) (Less.refl _) ?_
    rintro ⟨i, b9, cap9⟩ hi
    dsimp only at hi ⊢
    by_cases h : i < c
    · have h1 : 64 * q + i < 64 * q + 64 := by omega
      have h2 : 64 * q + i < s.l.length := by omega
      have hi64 : i < 64 := by omega
      have hx := hsucc i hi64 h2
      have hci : w.cell? ⟨bb, jb + (64 * q + i), none⟩ = some (U8 (s.l.getD (64 * q + i) 0)) := hcell _ _ (map_at U8 0 h2)
      have hsub : 64 * q + i - 64 * q = i := by omega
      repeat (first | refine JL.q (by first | (apply OQ.lssN_t; exact rfl; exact rfl; exact h1) | (apply OQ.lssN_t; exact rfl; exact rfl; exact h2) | (apply OQ.pick_t; exact rfl; exact rfl) | (apply OQ.move; exact rfl) | (apply OQ.len; exact rfl; exact rfl) | (apply OQ.addN; exact rfl; exact rfl; exact (by (try simp only []); omega))) rfl ?_ | refine JC.seq ?_ | refine JC.region ?_ | refine JL.nil ?_ | refine JE.next ?_ | refine JL.gon rfl rfl ?_)
      refine JC.cond_true rfl rfl ?_
      repeat (first | refine JC.seq ?_ | refine JC.block ?_ | refine JC.skip ?_ | refine JE.next ?_)
      let vs : Nat → X → Value := fun j x => match j with
        | 0 => .slice (some ⟨b9, 0, none⟩) (64 * q + i) cap9
        | 1 => .slice (some ⟨bb, jb, none⟩) s.l.length s.cap
        | 2 => N (64 * q + i)
        | 3 => Pt bb (jb + (64 * q + i))
        | 4 => U8 (s.l.getD (64 * q + i) 0)
        | 5 => .slice (some ⟨b11, 0, none⟩) 64 cap11
        | 6 => N (64 * q + i)
        | 7 => N (64 * q)
        | 8 => N (64 * q + i - 64 * q)
        | 9 => Pt b11 (64 * q + i - 64 * q)
        | 10 => U8 (kk0.getD i 0)
        | 11 => U8 (s.l.getD (64 * q + i) 0 ^^^ kk0.getD i 0)
        | 12 => .slice (some ⟨x.1, 0, none⟩) 1 1
        | _ => .slice (some ⟨x.1, 0, none⟩) (64 * q + i + 1) x.2
      let Ms : Nat → X → List Ent := fun j x => match j with
        | 12 => [⟨x.1, Row 5 [U8 (s.l.getD (64 * q + i) 0 ^^^ kk0.getD i 0)], true⟩]
        | 13 => [⟨x.1, Sl.Own 5 1 (64 * q + i + 1) x.2 ((turn key ctr nonce (s.l.take (64 * q + i))).map U8 ++ [U8 (s.l.getD (64 * q + i) 0 ^^^ kk0.getD i 0)]), true⟩]
        | 15 => [⟨b11, Sl.Own 5 1 64 cap11 (kk0.map U8), true⟩]
        | 16 => [⟨b9, Sl.Own 5 1 (64 * q + i) cap9 ((turn key ctr nonce (s.l.take (64 * q + i))).map U8), true⟩]
        | 17 => [⟨b6, Row 67 (nonce.map U8), true⟩, ⟨b4, Row 23 (key.map U8), true⟩]
        | _ => []
      refine JC.growO (g := ⟨[(1, U32 ctr), (3, .slice (some ⟨bb, jb, none⟩) s.l.length s.cap), (4, Pt b4 0), (6, Pt b6 0), (10, N (64 * q)), (11, .slice (some ⟨b11, 0, none⟩) 64 cap11), (12, N (64 * q + i))], 18, vs, Ms, needK, inpK, eatK, srcK, fun j => match j with | 0 => [(9, .slice (some ⟨b9, 0, none⟩) (64 * q + i) cap9)] | _ => []⟩) [(14, 9)] [15, 13, 17] mixQ (by repeat (first | exact SubE.nil | refine SubE.cons _ _ _ rfl ?_)) (fun j _ => match j with | 0 => (by repeat (first | exact SubE.nil | refine SubE.cons _ _ _ rfl ?_)) | _ + 1 => .nil) (Less.refl _) (by kernel_rfl) (by kernel_rfl) (by kernel_rfl) ?_ ?_
      · refine ⟨?_, ?_, ?_, ?_, ?_, ?_, ?_, ?_, ?_, ?_, ?_, ?_, ?_, ?_, ?_, trivial⟩
        iterate 12 (focus (intro x EF MF Q kk; (try refine JL.gon rfl rfl ?_); exact JL.q (by first | (apply OQ.idxS1 (b := bb); exact Tryd.underlying27; exact s5; exact rfl; exact rfl; exact h2) | (apply OQ.load_old; exact c5; exact rfl; exact (block_lt_of_cell hci); exact (by simp); exact hci) | (apply OQ.idxS0 (b := b11); exact Tryd.underlying27; exact s5; exact rfl; exact rfl; exact (by rw [hsub]; exact hi64)) | (apply OQ.load; exact c5; exact rfl; exact .here; exact (Sl.Own.cell (by rw [hsub]; exact map_at U8 0 (by omega)))) | (apply OQ.move; exact rfl) | (apply OQ.xor8; exact rfl; exact rfl) | (apply OQ.subN; exact rfl; exact rfl; exact (by (try simp only []); omega); exact (by (try simp only []); omega))) rfl (JL.nil (kk default nofun))))
        · intro x EF MF Q kk
          exact JL.lit1 Tryd.underlying27 e5 rfl rfl rfl rfl fun b _ => JL.nil (kk (b, 0) nofun)
        · intro x EF MF Q kk
          refine JL.append (cs := [U8 (s.l.getD (64 * q + i) 0 ^^^ kk0.getD i 0)]) (fun b' cap' => ⟨b', Sl.Own 5 1 (64 * q + i + 1) cap' ((turn key ctr nonce (s.l.take (64 * q + i))).map U8 ++ [U8 (s.l.getD (64 * q + i) 0 ^^^ kk0.getD i 0)]), true⟩ :: ⟨(x 12).1, Row 5 [U8 (s.l.getD (64 * q + i) 0 ^^^ kk0.getD i 0)], true⟩ :: MF) Tryd.underlying27 e5 rfl rfl (fun _ _ => .here) rfl (fun w' hw' => ?_) (by simp [Value.oneCell']) rfl (by decide) (by omega) (by omega) rfl fun b' cap' => JL.nil (kk (b', cap') nofun)
          obtain ⟨o, ho, hA⟩ := hw'.get (.there .here)
          exact Reads.block ho (Row.all _ hA)
        · intro x EF MF Q kk
          exact JL.q (OQ.assign rfl) rfl (JL.nil (kk (x 13) (fun k h => by cases h; rfl)))
      · intro x hx'
        have h14 := hx' 14 13 (by decide) rfl
        show JE _ _ _ _ _ [(9, .slice (some ⟨(x 14).1, 0, none⟩) (64 * q + i + 1) (x 14).2), (1, U32 ctr), (3, .slice (some ⟨bb, jb, none⟩) s.l.length s.cap), (4, Pt b4 0), (6, Pt b6 0), (10, N (64 * q)), (11, .slice (some ⟨b11, 0, none⟩) 64 cap11), (12, N (64 * q + i))]
          [⟨b11, Sl.Own 5 1 64 cap11 (kk0.map U8), true⟩, ⟨(x 13).1, Sl.Own 5 1 (64 * q + i + 1) (x 13).2 ((turn key ctr nonce (s.l.take (64 * q + i))).map U8 ++ [U8 (s.l.getD (64 * q + i) 0 ^^^ kk0.getD i 0)]), true⟩, ⟨b6, Row 67 (nonce.map U8), true⟩, ⟨b4, Row 23 (key.map U8), true⟩]
        rw [h14]
        obtain ⟨b9', cap9'⟩ := x 13
        clear hx' h14 x vs Ms
        dsimp only
        rw [show (turn key ctr nonce (s.l.take (64 * q + i))).map U8 ++ [U8 (s.l.getD (64 * q + i) 0 ^^^ kk0.getD i 0)] = (turn key ctr nonce (s.l.take (64 * q + i + 1))).map U8 by rw [hx]; simp, Nat.add_assoc (64 * q) i 1]
        repeat (first | refine JL.q (by first | (apply OQ.move; exact rfl) | (apply OQ.assign; exact rfl) | (apply OQ.addN; exact rfl; exact rfl; exact (by (try simp only []); omega))) rfl ?_ | refine JC.region ?_ | refine JL.nil ?_ | refine JE.next ?_ | refine JE.blk_normal ?_)
        exact JE.again (ι := Nat × Nat × Nat) (i := (i, b9, cap9)) (i + 1, b9', cap9') (by dsimp only; omega) (by dsimp only; omega) (by repeat (first | exact SubE.nil | refine SubE.cons _ _ _ rfl ?_)) (Less.refl _)
    · have hi' : i = c := by omega
      subst hi'
      rw [← hav]
      have hm : min (64 * (q + 1)) s.l.length = 64 * q + i := by omega
      by_cases h1 : 64 * q + i < 64 * q + 64
      · have h2 : ¬ 64 * q + i < s.l.length := by omega
        repeat (first | refine JL.q (by first | (apply OQ.lssN_t; exact rfl; exact rfl; exact h1) | (apply OQ.lssN_f; exact rfl; exact rfl; exact h2) | (apply OQ.pick_t; exact rfl; exact rfl) | (apply OQ.move; exact rfl) | (apply OQ.len; exact rfl; exact rfl) | (apply OQ.addN; exact rfl; exact rfl; exact (by (try simp only []); omega))) rfl ?_ | refine JC.seq ?_ | refine JC.region ?_ | refine JL.nil ?_ | refine JE.next ?_ | refine JL.gon rfl rfl ?_)
        refine JC.cond_false rfl rfl ?_
        repeat (first | refine JL.q (by first | (apply OQ.move; exact rfl) | (apply OQ.assign; exact rfl) | (apply OQ.addN; exact rfl; exact rfl; exact (by (try simp only []); omega))) rfl ?_ | refine JC.region ?_ | refine JC.exit ?_ | refine JL.nil ?_ | refine JE.next ?_ | refine JE.blk_normal ?_ | refine JE.then_exit ?_ | refine JE.blk_hit ?_)
        rw [show 64 * q + 64 = 64 * (q + 1) by omega]
        refine JE.again (ι := Nat × Nat × Nat) (i := (q, b9, cap9)) (q + 1, b9, cap9) (by dsimp only; omega) (by dsimp only; omega) ?_ (.drop _ _ _ (by dsimp only; rw [hm]; exact Less.refl _))
        dsimp only
        rw [hm]
        exact (by repeat (first | exact SubE.nil | refine SubE.cons _ _ _ rfl ?_))
      · repeat (first | refine JL.q (by first | (apply OQ.lssN_f; exact rfl; exact rfl; exact h1) | (apply OQ.pick_f; exact rfl; exact rfl) | (apply OQ.move; exact rfl) | (apply OQ.addN; exact rfl; exact rfl; exact (by (try simp only []); omega))) rfl ?_ | refine JC.seq ?_ | refine JC.region ?_ | refine JL.nil ?_ | refine JE.next ?_ | refine JL.gskip rfl rfl rfl rfl ?_)
        refine JC.cond_false rfl rfl ?_
        repeat (first | refine JL.q (by first | (apply OQ.move; exact rfl) | (apply OQ.assign; exact rfl) | (apply OQ.addN; exact rfl; exact rfl; exact (by (try simp only []); omega))) rfl ?_ | refine JC.region ?_ | refine JC.exit ?_ | refine JL.nil ?_ | refine JE.next ?_ | refine JE.blk_normal ?_ | refine JE.then_exit ?_ | refine JE.blk_hit ?_)
        rw [show 64 * q + 64 = 64 * (q + 1) by omega]
        refine JE.again (ι := Nat × Nat × Nat) (i := (q, b9, cap9)) (q + 1, b9, cap9) (by dsimp only; omega) (by dsimp only; omega) ?_ (.drop _ _ _ (by dsimp only; rw [hm]; exact Less.refl _))
        dsimp only
        rw [hm]
        exact (by repeat (first | exact SubE.nil | refine SubE.cons _ _ _ rfl ?_))
  · have hq' : ¬ 64 * q < s.l.length := of_decide_eq_false h
    clear h
    rw [Nat.min_eq_right (by omega), List.take_length]
    repeat (first | refine JL.q (by first | (apply OQ.move; exact rfl) | (apply OQ.assign; exact rfl)) rfl ?_ | refine JC.seq ?_ | refine JC.region ?_ | refine JC.exit ?_ | refine JL.nil ?_ | refine JE.next ?_ | refine JE.then_exit ?_ | refine JE.blk_hit ?_)
    refine JC.ret ?_
    skip
    exact JE.ret1 rfl (RV.tmp rfl) fun w' hw => ⟨(b9, cap9), rfl, hw.weak (.keep _ _ _ _ _ _ (fun _ h => h) (Less.nil _))⟩
end Go.Proofs.YtbhlcnimjoppeaaDoor

/-
  Of no statement by itself: what Turn and the reference's Turn give, once more; the two parts of a cut slice.
  Conditions: each theorem's own.
-/
namespace Go.Proofs.YtbhlcnimjoppeaaDoor
set_option maxRecDepth 10000
open Sl Sha Str

theorem turnO_any (key : List B) (ctr : W) (nonce : List B) (s : Sl8) {va : Value} (hva : s.v = va) (hk : key.length = 32) (hn : nonce.length = 12) (w : World) (hQ : GQ w) (hs : s.ok w) (hsl : s.l.length < 140737488355328) :
    Calls Tryd.prog 50 [.agg (key.map U8).toArray, U32 ctr, .agg (nonce.map U8).toArray, va].toArray w fun e w' => ∃ b, e = .returned (.slice (some ⟨b, 0, none⟩) s.l.length s.l.length) ∧ Holds w [] [⟨b, Sl.Own 5 1 s.l.length s.l.length ((turn key ctr nonce s.l).map U8), true⟩] w' := by
  subst hva
  exact (turn_any' key ctr nonce s hk hn w hQ hs hsl).mono fun e w' ⟨b, h1, h2⟩ => ⟨b, h1, h2.weak (.keep _ _ _ _ _ _ (row_own (by simp [turn_length])) (Less.nil _))⟩
theorem rturnO_any (key : List B) (ctr : W) (nonce : List B) (s : Sl8) {va : Value} (hva : s.v = va) (hk : key.length = 32) (hn : nonce.length = 12) (w : World) (hs : s.ok w) (hsl : s.l.length < 35184372088832) :
    Calls Tryd.prog 61 [.agg (key.map U8).toArray, U32 ctr, .agg (nonce.map U8).toArray, va].toArray w fun e w' => ∃ x : Nat × Nat, e = .returned (.slice (some ⟨x.1, 0, none⟩) s.l.length x.2) ∧ Holds w [] [⟨x.1, Sl.Own 5 1 s.l.length x.2 ((turn key ctr nonce s.l).map U8), true⟩] w' := by
  subst hva
  exact rturn_any key ctr nonce s hk hn w hs hsl
end Go.Proofs.YtbhlcnimjoppeaaDoor

/-
  Of no statement by itself: what seal.Seal and seal.Open give.
  Conditions: each theorem's own; the listed tables.
-/
namespace Go.Proofs.YtbhlcnimjoppeaaDoor
set_option maxRecDepth 10000
open Sl Sha Str

/-- sealed by two keys, and opened -/
def sealK (a1 a2 nonce side p : List B) : List B := turn a1 1#32 nonce p ++ hmac a2 (msg nonce side (turn a1 1#32 nonce p))
theorem hmacL (k b : List B) : (hmac k b).length = 32 := rfl
theorem sealK_length (a1 a2 nonce side p : List B) : (sealK a1 a2 nonce side p).length = p.length + 32 := by rw [sealK, List.length_append, turn_length, hmacL]
theorem goes_seal : Goes Tryd.prog 27 := ⟨_, Tryd.func27, rfl, by kernel_rfl⟩
theorem messageV {nonce : List B} {s c : Sl8} {vc : Value} (hvc : c.v = vc) (hn : nonce.length = 12) {w : World} (hs : s.ok w) (hc : c.ok w) (hsl : s.l.length < 35184372088832) (hcl : c.l.length < 35184372088832) :
    Calls Tryd.prog 51 [.agg (nonce.map U8).toArray, s.v, vc].toArray w fun e w' => ∃ x : Nat × Nat, e = .returned (.slice (some ⟨x.1, 0, none⟩) (msg nonce s.l c.l).length x.2) ∧ Holds w [] [⟨x.1, Sl.Own 5 1 (msg nonce s.l c.l).length x.2 ((msg nonce s.l c.l).map U8), true⟩] w' := by
  subst hvc
  exact message_any nonce s c hn w hs hc hsl hcl
theorem tag_ok {w0 w : World} {S : List Nat} {M : List Ent} {a2 m : List B} (ha : a2.length = 32) (hml : m.length < 1000000000) {b10 bL bm cm : Nat} (hw : Holds w0 S M w) (hG : GOk w) (h1 : Has M b10 (Row 23 (a2.map U8)) true) (h2 : Has M bL (Row 27 [.slice (some ⟨bm, 0, none⟩) m.length cm]) true) (h3 : Has M bm (Sl.Own 5 1 m.length cm (m.map U8)) true) :
    Calls Tryd.prog 48 [.slice (some ⟨b10, 0, none⟩) 32 32, .slice (some ⟨bL, 0, none⟩) 1 1].toArray w fun e w'' => e = .returned (.agg ((hmac a2 m).map U8).toArray) ∧ Ext w w'' := by
  obtain ⟨o2, ho2, hA2⟩ := hw.get h2
  have := hmac_any ⟨some ⟨b10, 0, none⟩, 32, a2⟩ (some ⟨bL, 0, none⟩) 1 [⟨some ⟨bm, 0, none⟩, cm, m⟩] w hG (row_ok hw h1 rfl (Nat.le_of_eq ha)) (Reads.block ho2 (Row.all _ hA2)) (by simpa using ownb_ok hw h3) (show a2.length < 4611686018427387904 by omega) (by simp) (by simp [total]; omega)
  simpa [Sl8.v, ha] using this
def needP : Nat → List (Nat × Nat)
  | 4 => [(1, 24), (2, 25), (3, 26)]
  | 5 => [(4, 27)]
  | 6 => [(0, 23), (5, 28)]
  | 8 => [(7, 12), (6, 29)]
  | _ => []
def inpP : Nat → List Nat
  | 1 => [12]
  | 4 => [9]
  | 5 => [4]
  | 6 => [5, 10]
  | 8 => [7]
  | _ => []
def eatP : Nat → List Nat
  | 5 => [4]
  | 8 => [7]
  | _ => []
def srcP : Nat → Option Nat
  | 8 => some 7
  | _ => none
set_option maxHeartbeats 4000000 in
set_option maxRecDepth 4000 in
theorem seal_any (key nonce : List B) (s p : Sl8) (hk : key.length = 32) (hn : nonce.length = 12) (w : World) (hG : GOk w) (hQ : GQ w) (hs : s.ok w) (hp : p.ok w) (hsl : s.l.length < 100000000) (hpl : p.l.length < 100000000) :
    Calls Tryd.prog 27 [.agg (key.map U8).toArray, .agg (nonce.map U8).toArray, s.v, p.v].toArray w fun e w' => ∃ x : Nat × Nat, e = .returned (.slice (some ⟨x.1, 0, none⟩) (p.l.length + 32) x.2) ∧ Holds w [] [⟨x.1, Sl.Own 5 1 (p.l.length + 32) x.2 ((sealK (k1 key) (k2 key) nonce s.l p.l).map U8), true⟩] w' := by
  have hTwo := two_any key hk
  have h1 := k1_length key
  have h2 := k2_length key
  generalize k1 key = a1 at hTwo h1 ⊢
  generalize k2 key = a2 at hTwo h2 ⊢
  have hTl := turn_length a1 1#32 nonce p.l
  have hT0 := fun w' (h : GQ w') (h' : p.ok w') => turnO_any a1 1#32 nonce p rfl h1 hn w' h h' (by omega)
  rw [sealK]
  generalize turn a1 1#32 nonce p.l = T at hTl hT0 ⊢
  have hml := msg_length nonce s.l T
  have hM0 := fun (w' : World) (b c : Nat) (hs' : s.ok w') (h : Sl8.ok w' ⟨some ⟨b, 0, none⟩, c, T⟩) => messageV (c := ⟨some ⟨b, 0, none⟩, c, T⟩) (vc := .slice (some ⟨b, 0, none⟩) p.l.length c) (by simp [Sl8.v, hTl]) hn hs' h (show s.l.length < 35184372088832 by omega) (show T.length < 35184372088832 by omega)
  simp only [] at hM0
  rw [hn, hTl] at hml
  generalize msg nonce s.l T = m at hml hM0 ⊢
  refine enter (n := 40) Tryd.func27 rfl rfl rfl (Holds.start w []) ?_
  repeat (first | refine JC.seq ?_ | refine JC.region ?_)
  refine JL.box (r := key.map U8) rfl rfl rfl fun b4 _ => ?_
  refine JL.box (r := nonce.map U8) rfl rfl rfl fun b5 _ => ?_
  repeat (first | refine JL.q (by first | (apply OQ.load_agg (cs := key.map U8); exact a25; exact s25; exact rfl; exact (.there .here); exact (by simpa using hk); exact Row.all) | (apply OQ.callx; exact goes_two; exact rfl; exact (fun w' hw' => hTwo w' (hG.chg hw'.chg (by simp)))) | (apply OQ.extract; exact rfl; exact rfl) | (apply OQ.move; exact rfl) | (apply OQ.assign; exact rfl)) rfl ?_ | refine JC.seq ?_ | refine JC.region ?_ | refine JL.nil ?_ | refine JE.next ?_)
  refine JL.alloc zc25 rfl fun b9 _ => ?_
  refine JL.alloc zc25 rfl fun b10 _ => ?_
  skip
  refine JL.store_all s25 rfl rfl (by simpa using h1) (all8 _) (.there .here) (by simp) ?_
  refine JL.store_all s25 rfl rfl (by simpa using h2) (all8 _) .here (by simp) ?_
  repeat (first | refine JL.q (by first | (apply OQ.load_agg (cs := a1.map U8); exact a25; exact s25; exact rfl; exact (.there .here); exact (by simpa using h1); exact Row.all) | (apply OQ.load_agg (cs := nonce.map U8); exact noa; exact nos; exact rfl; exact (.there (.there .here)); exact (by simpa using hn); exact Row.all) | (apply OQ.move; exact rfl)) rfl ?_ | refine JC.seq ?_ | refine JC.region ?_ | refine JL.nil ?_ | refine JE.next ?_)
  refine JL.callg (ι := Nat) (fun b => .slice (some ⟨b, 0, none⟩) p.l.length p.l.length) (fun b => [⟨b, Sl.Own 5 1 p.l.length p.l.length (T.map U8), true⟩]) goes_turnb rfl rfl (fun i => by simp) (fun w' hw' => hT0 w' (hQ.chg hw'.chg (by simp)) (hp.holds hw' rfl)) fun b11 => ?_
  try dsimp only
  repeat (first | refine JL.q (by (apply OQ.assign; exact rfl)) rfl ?_ | refine JC.seq ?_ | refine JL.nil ?_ | refine JE.next ?_)
  let vs : Nat → X3 → Value := fun j x => match j with
    | 0 => .slice (some ⟨b10, 0, none⟩) 32 32
    | 1 => .agg (nonce.map U8).toArray
    | 2 => s.v
    | 3 => .slice (some ⟨b11, 0, none⟩) p.l.length p.l.length
    | 4 => .slice (some ⟨x.1, 0, none⟩) m.length x.2.1
    | 5 => .slice (some ⟨x.1, 0, none⟩) 1 1
    | 6 => .agg ((hmac a2 m).map U8).toArray
    | _ => Pt x.1 0
  let Ms : Nat → X3 → List Ent := fun j x => match j with
    | 4 => [⟨x.1, Sl.Own 5 1 m.length x.2.1 (m.map U8), true⟩]
    | 5 => [⟨x.1, Row 27 [.slice (some ⟨x.2.1, 0, none⟩) m.length x.2.2], true⟩, ⟨x.2.1, Sl.Own 5 1 m.length x.2.2 (m.map U8), true⟩]
    | 7 => [⟨x.1, Row 23 ((List.replicate 32 (0 : B)).map U8), true⟩]
    | 8 => [⟨x.1, Row 23 ((hmac a2 m).map U8), true⟩]
    | 9 => [⟨b11, Sl.Own 5 1 p.l.length p.l.length (T.map U8), true⟩]
    | 10 => [⟨b10, Row 23 (a2.map U8), true⟩]
    | 11 => [⟨b9, Row 23 (a1.map U8), true⟩]
    | 12 => [⟨b5, Row 67 (nonce.map U8), true⟩]
    | 13 => [⟨b4, Row 23 (key.map U8), true⟩]
    | _ => []
  refine JC.grow (g := ⟨[(2, s.v), (5, Pt b5 0), (10, Pt b10 0), (11, .slice (some ⟨b11, 0, none⟩) p.l.length p.l.length)], 14, vs, Ms, needP, inpP, eatP, srcP⟩) [(7, 12)] [8, 9] mixed (by repeat (first | exact SubE.nil | refine SubE.cons _ _ _ rfl ?_)) (Less.refl _) (by kernel_rfl) (by kernel_rfl) (by kernel_rfl) ?_ ?_
  · refine ⟨?_, ?_, ?_, ?_, ?_, ?_, ?_, ?_, ?_, trivial⟩
    iterate 4 (focus (intro x EF MF Q kk; (try refine JL.gon rfl rfl ?_); exact JL.q (by first | (apply OQ.slA; exact Tryd.underlying23; exact s5; exact rfl) | (apply OQ.load_agg (cs := nonce.map U8); exact noa; exact nos; exact rfl; exact .here; exact (by simpa using hn); exact Row.all) | (apply OQ.move; exact rfl)) rfl (JL.nil (kk default nofun))))
    · intro x EF MF Q kk
      exact JL.callg (ι := Nat × Nat) (fun x => .slice (some ⟨x.1, 0, none⟩) m.length x.2) (fun x => [⟨x.1, Sl.Own 5 1 m.length x.2 (m.map U8), true⟩]) goes_message rfl rfl (fun i => by simp) (fun w' hw' => hM0 w' b11 p.l.length (hs.holds hw' rfl) (ownb_ok hw' .here)) fun i => JL.nil (kk (i.1, i.2, 0) nofun)
    · intro x EF MF Q kk
      exact JL.lit1 Tryd.underlying88 e22 rfl rfl rfl rfl fun b _ => JL.nil (kk (b, (x 4).1, (x 4).2.1) nofun)
    · intro x EF MF Q kk
      exact JL.q (OQ.callx (vs := [.slice (some ⟨b10, 0, none⟩) 32 32, .slice (some ⟨(x 5).1, 0, none⟩) 1 1]) goes_hmac rfl fun w' hw' => tag_ok h2 (by omega) hw' (hG.chg hw'.chg (by simp)) (.there (.there .here)) .here (.there .here)) rfl (JL.nil (kk default nofun))
    · intro x EF MF Q kk
      exact JL.alloc zc25 rfl fun b _ => JL.nil (kk (b, 0, 0) nofun)
    · intro x EF MF Q kk
      exact JL.store_all s25 rfl rfl (shal _) (all8 _) .here (by simp) (JL.nil (kk (x 7) (fun k h => by cases h; rfl)))
  · intro x hx
    have h8 := hx 8 7 (by decide) rfl
    show JE _ _ _ _ _ [(12, Pt (x 7).1 0), (2, s.v), (5, Pt b5 0), (10, Pt b10 0), (11, .slice (some ⟨b11, 0, none⟩) p.l.length p.l.length)] [⟨(x 8).1, Row 23 ((hmac a2 m).map U8), true⟩, ⟨b11, Sl.Own 5 1 p.l.length p.l.length (T.map U8), true⟩]
    rw [h8]
    generalize (x 7).1 = b12
    clear hx h8 x vs Ms
    repeat (first | refine JL.q (by first | (apply OQ.move; exact rfl) | (apply OQ.len; exact rfl; exact rfl) | (apply OQ.addN; exact rfl; exact rfl; exact (by (try simp only []); omega))) rfl ?_ | refine JC.seq ?_ | refine JC.region ?_ | refine JE.next ?_)
    refine JL.make0 (c := p.l.length + 32) Tryd.underlying27 e5 rfl rfl (by omega) rfl fun b13 _ => ?_
    repeat (first | refine JL.q (by first | (apply OQ.move; exact rfl) | (apply OQ.assign; exact rfl)) rfl ?_ | refine JC.seq ?_ | refine JC.region ?_ | refine JL.nil ?_ | refine JE.next ?_)
    refine JL.append (cs := T.map U8) (fun b' cap' => [⟨b', Sl.Own 5 1 (0 + p.l.length) cap' ([] ++ T.map U8), true⟩, ⟨b12, Row 23 ((hmac a2 m).map U8), true⟩, ⟨b11, Sl.Own 5 1 p.l.length p.l.length (T.map U8), true⟩]) Tryd.underlying27 e5 rfl rfl (by intro _ _; repeat (first | exact Repl.here | apply Repl.there)) (by simpa using hTl) (fun w' hw' => (ownb_ok hw' (.there (.there .here))).reads) (of_u8 _) rfl (by decide) (by omega) (by omega) rfl fun b13 cap13 => ?_
    rw [List.nil_append, Nat.zero_add]
    repeat (first | refine JL.q (by first | (apply OQ.slA; exact Tryd.underlying23; exact s5; exact rfl) | (apply OQ.move; exact rfl) | (apply OQ.assign; exact rfl)) rfl ?_ | refine JC.seq ?_ | refine JC.region ?_ | refine JL.nil ?_ | refine JE.next ?_)
    refine JL.append (cs := (hmac a2 m).map U8) (fun b' cap' => [⟨b', Sl.Own 5 1 (p.l.length + 32) cap' (T.map U8 ++ (hmac a2 m).map U8), true⟩, ⟨b12, Row 23 ((hmac a2 m).map U8), true⟩, ⟨b11, Sl.Own 5 1 p.l.length p.l.length (T.map U8), true⟩]) Tryd.underlying27 e5 rfl rfl (by intro _ _; repeat (first | exact Repl.here | apply Repl.there)) (shal _) (fun w' hw' => (row_ok (cap := 32) hw' (.there .here) rfl (Nat.le_of_eq (hmacL _ _))).reads) (of_u8 _) rfl (by decide) (by omega) (by omega) rfl fun b13 cap13 => ?_
    rw [← List.map_append]
    repeat (first | refine JL.q (by (apply OQ.assign; exact rfl)) rfl ?_ | refine JL.nil ?_ | refine JE.next ?_)
    refine JC.ret ?_
    skip
    exact JE.ret1 rfl (RV.tmp rfl) fun w' hw => ⟨(b13, cap13), rfl, hw.weak (.keep _ _ _ _ _ _ (fun _ h => h) (Less.nil _))⟩

end Go.Proofs.YtbhlcnimjoppeaaDoor

/-
  Of no statement by itself: numbers that have no parts, Fermat's little theorem, and that 2^255 - 19 is such a number; no program stands here.
  Conditions: none but each lemma's own.
-/
namespace Go.Proofs.YtbhlcnimjoppeaaDoor
namespace Crv
def Prim (n : Nat) : Prop := 1 < n ∧ ∀ m, m ∣ n → m = 1 ∨ m = n
/-- binomials -/
def ch : Nat → Nat → Nat
  | _, 0 => 1
  | 0, _ + 1 => 0
  | n + 1, k + 1 => ch n k + ch n (k + 1)
theorem ch_zero (n : Nat) : ch n 0 = 1 := by cases n <;> rfl
theorem ch_over : ∀ n k : Nat, n < k → ch n k = 0
  | 0, 0, h => absurd h (by decide)
  | 0, _ + 1, _ => rfl
  | n + 1, 0, h => absurd h (by omega)
  | n + 1, k + 1, h => by
    show ch n k + ch n (k + 1) = 0
    rw [ch_over n k (by omega), ch_over n (k + 1) (by omega)]
theorem ch_self : ∀ n : Nat, ch n n = 1
  | 0 => rfl
  | n + 1 => by
    show ch n n + ch n (n + 1) = 1
    rw [ch_self n, ch_over n (n + 1) (by omega)]
theorem ch_mul : ∀ n j : Nat, (j + 1) * ch (n + 1) (j + 1) = (n + 1) * ch n j
  | 0, 0 => by decide
  | 0, j + 1 => by
    show (j + 1 + 1) * (ch 0 (j + 1) + ch 0 (j + 1 + 1)) = (0 + 1) * ch 0 (j + 1)
    simp [ch]
  | n + 1, 0 => by
    have h := ch_mul n 0
    show (0 + 1) * (ch (n + 1) 0 + ch (n + 1) (0 + 1)) = (n + 1 + 1) * ch (n + 1) 0
    rw [ch_zero] at *
    omega
  | n + 1, k + 1 => by
    have h1 := ch_mul n k
    have h2 := ch_mul n (k + 1)
    have h3 : ch (n + 1) (k + 1) = ch n k + ch n (k + 1) := rfl
    show (k + 1 + 1) * (ch (n + 1) (k + 1) + ch (n + 1) (k + 1 + 1)) = (n + 1 + 1) * ch (n + 1) (k + 1)
    have e1 : (k + 1 + 1) * (ch (n + 1) (k + 1) + ch (n + 1) (k + 1 + 1)) = (k + 1) * ch (n + 1) (k + 1) + ch (n + 1) (k + 1) + (k + 1 + 1) * ch (n + 1) (k + 1 + 1) := by
      rw [Nat.mul_add, Nat.add_mul (k + 1) 1, Nat.one_mul]
    have e2 : (n + 1 + 1) * ch (n + 1) (k + 1) = (n + 1) * ch n k + (n + 1) * ch n (k + 1) + ch (n + 1) (k + 1) := by
      rw [Nat.add_mul (n + 1) 1, Nat.one_mul, h3, Nat.mul_add]
    rw [e1, e2, h1, h2]; omega
/-- the sum's first k parts -/
def bs (a n : Nat) : Nat → Nat
  | 0 => 0
  | k + 1 => bs a n k + ch n k * a ^ k
theorem bs_step (a n : Nat) : ∀ k, bs a (n + 1) (k + 1) = bs a n (k + 1) + a * bs a n k
  | 0 => by simp [bs, ch_zero]
  | k + 1 => by
    have h := bs_step a n k
    have e1 : bs a (n + 1) (k + 1 + 1) = bs a (n + 1) (k + 1) + (ch n k + ch n (k + 1)) * a ^ (k + 1) := rfl
    have e2 : bs a n (k + 1 + 1) = bs a n (k + 1) + ch n (k + 1) * a ^ (k + 1) := rfl
    have e3 : bs a n (k + 1) = bs a n k + ch n k * a ^ k := rfl
    have e4 : a * bs a n (k + 1) = a * bs a n k + ch n k * a ^ (k + 1) := by
      rw [e3, Nat.mul_add, Nat.pow_succ, Nat.mul_left_comm, Nat.mul_comm a (a ^ k)]
    rw [e1, h, e2, e4, Nat.add_mul]; omega
theorem binom (a : Nat) : ∀ n, (a + 1) ^ n = bs a n (n + 1)
  | 0 => by simp [bs, ch]
  | n + 1 => by
    have h := binom a n
    rw [bs_step, Nat.pow_succ, h, Nat.mul_add, Nat.mul_one, Nat.mul_comm]
    have : bs a n (n + 1 + 1) = bs a n (n + 1) + ch n (n + 1) * a ^ (n + 1) := rfl
    rw [this, ch_over n (n + 1) (by omega)]; omega
theorem Prim.euclid {p a b : Nat} (h : Prim p) (d : p ∣ a * b) : p ∣ a ∨ p ∣ b := by
  cases h.2 (Nat.gcd p a) (Nat.gcd_dvd_left p a) with
  | inl e => exact Or.inr (Nat.Coprime.dvd_of_dvd_mul_left e d)
  | inr e => exact Or.inl (e ▸ Nat.gcd_dvd_right p a)
theorem Prim.ch {p : Nat} (h : Prim p) (j : Nat) (h0 : 0 < j) (h1 : j < p) : p ∣ ch p j := by
  obtain ⟨n, rfl⟩ : ∃ n, p = n + 1 := ⟨p - 1, by have := h.1; omega⟩
  obtain ⟨k, rfl⟩ : ∃ k, j = k + 1 := ⟨j - 1, by omega⟩
  have e := ch_mul n k
  cases h.euclid (a := k + 1) (b := Crv.ch (n + 1) (k + 1)) ⟨_, e⟩ with
  | inl d => exact absurd (Nat.le_of_dvd (by omega) d) (by omega)
  | inr d => exact d
theorem bs_mod {p : Nat} (h : Prim p) (a : Nat) : ∀ k, k < p → bs a p (k + 1) % p = 1 % p
  | 0, _ => by simp [bs, ch_zero]
  | k + 1, hk => by
    have e : bs a p (k + 1 + 1) = bs a p (k + 1) + Crv.ch p (k + 1) * a ^ (k + 1) := rfl
    obtain ⟨c, hc⟩ := h.ch (k + 1) (by omega) hk
    rw [e, hc, Nat.mul_assoc, Nat.add_mul_mod_self_left]
    exact bs_mod h a k (by omega)
theorem frob {p : Nat} (h : Prim p) (a : Nat) : (a + 1) ^ p % p = (a ^ p + 1) % p := by
  obtain ⟨n, rfl⟩ : ∃ n, p = n + 1 := ⟨p - 1, by have := h.1; omega⟩
  rw [binom]
  have e : bs a (n + 1) (n + 1 + 1) = bs a (n + 1) (n + 1) + Crv.ch (n + 1) (n + 1) * a ^ (n + 1) := rfl
  rw [e, ch_self, Nat.one_mul, Nat.add_mod, bs_mod h a n (by omega), ← Nat.add_mod, Nat.add_comm]
theorem fermat0 {p : Nat} (h : Prim p) : ∀ a : Nat, a ^ p % p = a % p
  | 0 => by rw [Nat.zero_pow (by have := h.1; omega)]
  | a + 1 => by rw [frob h, Nat.add_mod, fermat0 h a, ← Nat.add_mod]
theorem fermat {p : Nat} (h : Prim p) (a : Nat) (ha : ¬ p ∣ a) : a ^ (p - 1) % p = 1 := by
  have h1 := h.1
  have e := fermat0 h a
  have e2 : a ^ p = a * a ^ (p - 1) := by
    have : p = (p - 1) + 1 := by omega
    rw [Nat.mul_comm, ← Nat.pow_succ, Nat.succ_eq_add_one, ← this]
  have pos : 0 < a ^ (p - 1) := Nat.pow_pos (Nat.pos_of_ne_zero (fun h => ha (h ▸ Nat.dvd_zero p)))
  have d : p ∣ a * (a ^ (p - 1) - 1) := by
    rw [Nat.mul_sub, Nat.mul_one, ← e2]
    exact (Nat.dvd_of_mod_eq_zero (Nat.sub_mod_eq_zero_of_mod_eq e))
  cases h.euclid d with
  | inl d => exact absurd d ha
  | inr d =>
    obtain ⟨c, hc⟩ := d
    have : a ^ (p - 1) = 1 + p * c := by omega
    rw [this, Nat.add_mul_mod_self_left, Nat.mod_eq_of_lt h1]
theorem pow_gcd {r c : Nat} : ∀ m n : Nat, c ^ m % r = 1 % r → c ^ n % r = 1 % r → c ^ Nat.gcd m n % r = 1 % r := by
  intro m n
  induction m, n using Nat.gcd.induction with
  | H0 n => intro _ h; rw [Nat.gcd_zero_left]; exact h
  | H1 m n hm ih =>
    intro h1 h2
    rw [Nat.gcd_rec]
    refine ih ?_ h1
    have e : c ^ n = (c ^ m) ^ (n / m) * c ^ (n % m) := by
      rw [← Nat.pow_mul, ← Nat.pow_add, Nat.div_add_mod]
    rw [e, Nat.mul_mod, Nat.pow_mod, h1, ← Nat.pow_mod, Nat.one_pow, ← Nat.mul_mod, Nat.one_mul] at h2
    exact h2
theorem part (n : Nat) : 1 < n → ∃ r, Prim r ∧ r ∣ n := by
  induction n using Nat.strongRecOn with
  | _ n ih =>
    intro h
    by_cases hp : Prim n
    · exact ⟨n, hp, Nat.dvd_refl n⟩
    · have : ∃ m, m ∣ n ∧ m ≠ 1 ∧ m ≠ n := by
        refine Classical.byContradiction fun hn => hp ⟨h, fun m hm => ?_⟩
        by_cases h1 : m = 1
        · exact Or.inl h1
        · by_cases h2 : m = n
          · exact Or.inr h2
          · exact absurd ⟨m, hm, h1, h2⟩ hn
      obtain ⟨m, hm, h1, h2⟩ := this
      have hle := Nat.le_of_dvd (by omega) hm
      have h0 : m ≠ 0 := fun e => by rw [e] at hm; have := Nat.eq_zero_of_zero_dvd hm; omega
      obtain ⟨r, hr, hd⟩ := ih m (by omega) (by omega)
      exact ⟨r, hr, Nat.dvd_trans hd hm⟩
theorem small (n : Nat) (h : 1 < n) (no : ∀ r, Prim r → r ∣ n → n < r * r) : Prim n := by
  refine ⟨h, fun m hm => ?_⟩
  by_cases h1 : m = 1
  · exact Or.inl h1
  by_cases h2 : m = n
  · exact Or.inr h2
  exfalso
  obtain ⟨k, hk⟩ := hm
  have m0 : m ≠ 0 := fun e => by rw [e, Nat.zero_mul] at hk; omega
  have k0 : k ≠ 0 := fun e => by rw [e, Nat.mul_zero] at hk; omega
  have k1 : k ≠ 1 := fun e => by rw [e, Nat.mul_one] at hk; exact h2 hk.symm
  have two : ∀ a b, n = a * b → 1 < a → a ≤ b → False := fun a b e ha hab => by
    obtain ⟨r, hr, hd⟩ := part a ha
    have q1 := no r hr (Nat.dvd_trans hd ⟨b, e⟩)
    have q2 := Nat.le_of_dvd (by omega) hd
    have q3 := Nat.mul_le_mul q2 (Nat.le_trans q2 hab)
    omega
  cases Nat.le_total m k with
  | inl hl => exact two m k hk (by omega) hl
  | inr hl => exact two k m (by rw [hk, Nat.mul_comm]) (by omega) hl
theorem pock {N r q k a : Nat} (hr : Prim r) (hd : r ∣ N) (hN : 1 < N) (hq : Prim q) (hk : N - 1 = k * q)
    (h1 : a ^ (k * q) % N = 1) (h2 : Nat.gcd (a ^ k % N + N - 1) N = 1) : q ∣ r - 1 := by
  have r1 := hr.1
  have hp : ∀ x, x % N % r = x % r := fun x => Nat.mod_mod_of_dvd x hd
  have e1 : (a ^ k) ^ q % r = 1 % r := by rw [← Nat.pow_mul, ← hp, h1]
  have na : ¬ r ∣ a ^ k := fun d => by
    obtain ⟨c, hc⟩ := d
    have : q ≠ 0 := by have := hq.1; omega
    obtain ⟨q', rfl⟩ : ∃ q', q = q' + 1 := ⟨q - 1, by omega⟩
    rw [Nat.pow_succ, hc, Nat.mul_comm, Nat.mul_assoc, Nat.mul_mod_right, Nat.mod_eq_of_lt r1] at e1
    exact absurd e1 (by decide)
  have e2 : (a ^ k) ^ (r - 1) % r = 1 % r := by rw [fermat hr _ na, Nat.mod_eq_of_lt r1]
  have e3 := pow_gcd _ _ e1 e2
  cases hq.2 _ (Nat.gcd_dvd_left q (r - 1)) with
  | inr e => rw [← e]; exact Nat.gcd_dvd_right q (r - 1)
  | inl e =>
    exfalso
    rw [e, Nat.pow_one, ← hp] at e3
    have d : r ∣ a ^ k % N + N - 1 := by
      have := Nat.sub_mod_eq_zero_of_mod_eq e3
      have d1 := Nat.dvd_of_mod_eq_zero this
      have : a ^ k % N + N - 1 = (a ^ k % N - 1) + N := by
        have : a ^ k % N ≠ 0 := fun z => by rw [z, Nat.zero_mod, Nat.mod_eq_of_lt r1] at e3; exact absurd e3 (by decide)
        omega
      rw [this]
      exact Nat.dvd_add d1 hd
    have d2 := Nat.dvd_gcd d hd
    rw [h2] at d2
    have := Nat.le_of_dvd (by decide) d2
    omega
/-- one number is enough: it is greater than the root -/
theorem pock1 {N q k a : Nat} (hN : 1 < N) (hq : Prim q) (hk : N - 1 = k * q) (big : N < q * q)
    (h1 : a ^ (k * q) % N = 1) (h2 : Nat.gcd (a ^ k % N + N - 1) N = 1) : Prim N := by
  refine small N hN fun r hr hd => ?_
  have d := pock hr hd hN hq hk h1 h2
  have := hr.1
  have l := Nat.le_of_dvd (by omega) d
  have := Nat.mul_le_mul (Nat.le_trans l (Nat.sub_le r 1)) (Nat.le_trans l (Nat.sub_le r 1))
  omega
/-- two numbers: their product is greater than the root -/
theorem pock2 {N q k q' k' a : Nat} (hN : 1 < N) (hq : Prim q) (hk : N - 1 = k * q) (hq' : Prim q') (hk' : N - 1 = k' * q') (ne : Nat.gcd q q' = 1) (big : N < q * q' * (q * q'))
    (h1 : a ^ (k * q) % N = 1) (h2 : Nat.gcd (a ^ k % N + N - 1) N = 1) (h3 : Nat.gcd (a ^ k' % N + N - 1) N = 1) : Prim N := by
  refine small N hN fun r hr hd => ?_
  have d := Nat.Coprime.mul_dvd_of_dvd_of_dvd ne (pock hr hd hN hq hk h1 h2) (pock hr hd hN hq' hk' (by rw [← hk', hk]; exact h1) h3)
  have := hr.1
  have l := Nat.le_of_dvd (by omega) d
  have := Nat.mul_le_mul (Nat.le_trans l (Nat.sub_le r 1)) (Nat.le_trans l (Nat.sub_le r 1))
  omega
/-- a power, kept small -/
def pm (n : Nat) : Nat → Nat → Nat → Nat → Nat
  | 0, _, _, acc => acc
  | f + 1, b, e, acc => pm n f (b * b % n) (e / 2) (if e % 2 = 1 then acc * b % n else acc)
theorem pm_eq (n : Nat) : ∀ f b e acc : Nat, e < 2 ^ f → pm n f b e acc % n = acc * b ^ e % n
  | 0, b, e, acc, h => by
    have : e = 0 := by omega
    subst this; simp [pm]
  | f + 1, b, e, acc, h => by
    show pm n f (b * b % n) (e / 2) (if e % 2 = 1 then acc * b % n else acc) % n = _
    rw [pm_eq n f _ _ _ (by rw [Nat.pow_succ] at h; omega)]
    have eb : b ^ e = b ^ (e % 2) * (b * b) ^ (e / 2) := by
      rw [← Nat.pow_two, ← Nat.pow_mul, ← Nat.pow_add, Nat.mod_add_div]
    rw [Nat.mul_mod, ← Nat.pow_mod, ← Nat.mul_mod, eb]
    split
    next h1 => rw [h1, Nat.pow_one, Nat.mul_mod, Nat.mod_mod, ← Nat.mul_mod, Nat.mul_assoc]
    next h1 =>
      have : e % 2 = 0 := by omega
      rw [this, Nat.pow_zero, Nat.one_mul]
theorem pm_is {n f b e v : Nat} (h : e < 2 ^ f) (hv : pm n f b e 1 % n = v) : b ^ e % n = v := by
  rw [← hv, pm_eq n f b e 1 h, Nat.one_mul]
/-- no number from 2 up to here goes into n -/
def trial (n : Nat) : Nat → Bool
  | 0 => true
  | k + 1 => (n % (k + 2) != 0) && trial n k
theorem trial_no (n : Nat) : ∀ k, trial n k = true → ∀ d, 2 ≤ d → d < k + 2 → n % d ≠ 0
  | 0, _, d, h, h2 => by omega
  | k + 1, ht, d, h, h2 => by
    simp only [trial, Bool.and_eq_true, bne_iff_ne, ne_eq] at ht
    by_cases e : d = k + 2
    · rw [e]; exact ht.1
    · exact trial_no n k ht.2 d h (by omega)
theorem trial_prim {n : Nat} (k : Nat) (h : 1 < n) (ht : trial n k = true) (big : n < (k + 2) * (k + 2)) : Prim n := by
  refine small n h fun r hr hd => ?_
  by_cases hk : r < k + 2
  · exact absurd (Nat.mod_eq_zero_of_dvd hd) (trial_no n k ht r hr.1 hk)
  · have := Nat.mul_le_mul (Nat.le_of_not_lt hk) (Nat.le_of_not_lt hk)
    omega
theorem pock2' {N q q' : Nat} (f a k k' v v' : Nat) (hq : Prim q) (hq' : Prim q') (hN : 1 < N) (hk : N - 1 = k * q) (hk' : N - 1 = k' * q') (ne : Nat.gcd q q' = 1) (big : N < q * q' * (q * q'))
    (hf : N ≤ 2 ^ f) (e1 : pm N f a k 1 % N = v) (e2 : pm N f a k' 1 % N = v') (e3 : pm N f a (k * q) 1 % N = 1)
    (g1 : Nat.gcd (v + N - 1) N = 1) (g2 : Nat.gcd (v' + N - 1) N = 1) : Prim N := by
  have l1 : k ≤ k * q := Nat.le_mul_of_pos_right k (Nat.lt_trans Nat.zero_lt_one hq.1)
  have l2 : k' ≤ k' * q' := Nat.le_mul_of_pos_right k' (Nat.lt_trans Nat.zero_lt_one hq'.1)
  refine pock2 hN hq hk hq' hk' ne big (a := a) (pm_is (by omega) e3) ?_ ?_
  · rw [pm_is (by omega) e1]; exact g1
  · rw [pm_is (by omega) e2]; exact g2
theorem pock1' {N q : Nat} (f a k v : Nat) (hq : Prim q) (hN : 1 < N) (hk : N - 1 = k * q) (big : N < q * q)
    (hf : N ≤ 2 ^ f) (e1 : pm N f a k 1 % N = v) (e3 : pm N f a (k * q) 1 % N = 1) (g1 : Nat.gcd (v + N - 1) N = 1) : Prim N := by
  have l1 : k ≤ k * q := Nat.le_mul_of_pos_right k (Nat.lt_trans Nat.zero_lt_one hq.1)
  refine pock1 hN hq hk big (a := a) (pm_is (by omega) e3) ?_
  rw [pm_is (by omega) e1]; exact g1
theorem prim_127 : Prim 127 := trial_prim 10 (by decide) (by decide +kernel) (by decide)
theorem prim_353 : Prim 353 := trial_prim 17 (by decide) (by decide +kernel) (by decide)
theorem prim_75707 : Prim 75707 := trial_prim 274 (by decide) (by decide +kernel) (by decide)
theorem prim_a : Prim 8574133 := trial_prim 2927 (by decide) (by decide +kernel) (by decide)
theorem prim_b : Prim 1919519569386763 :=
  pock2' (N := 1919519569386763) 51 2 223873314 15114327318006 1059928654987441 576774792492622 prim_a prim_127 (by decide +kernel) (by decide +kernel) (by decide +kernel) (by decide +kernel) (by decide +kernel) (by decide +kernel) (by decide +kernel) (by decide +kernel) (by decide +kernel) (by decide +kernel) (by decide +kernel)
theorem prim_c : Prim 75445702479781427272750846543864801 :=
  pock2' (N := 75445702479781427272750846543864801) 116 2 39304471641247389600 996548568557483816196003626400 56747016255153332959347766392083459 58781699294900834553279248901967638 prim_b prim_75707 (by decide +kernel) (by decide +kernel) (by decide +kernel) (by decide +kernel) (by decide +kernel) (by decide +kernel) (by decide +kernel) (by decide +kernel) (by decide +kernel) (by decide +kernel) (by decide +kernel)
theorem prim_d : Prim 74058212732561358302231226437062788676166966415465897661863160754340907 :=
  pock2' (N := 74058212732561358302231226437062788676166966415465897661863160754340907) 236 2 981609426360740691344999861639072106 209796636636151156663544550813209033076960244803019540118592523383402 69490809710348678725736597923071784769591275419387514694139338586948360 8562916886866218785688304546164188478888058893729309188831496247839076 prim_c prim_353 (by decide +kernel) (by decide +kernel) (by decide +kernel) (by decide +kernel) (by decide +kernel) (by decide +kernel) (by decide +kernel) (by decide +kernel) (by decide +kernel) (by decide +kernel) (by decide +kernel)
abbrev P : Nat := 57896044618658097711785492504343953926634992332820282019728792003956564819949
theorem prim_P : Prim P :=
  pock1' (N := P) 255 2 781764 427094198651976259540344842774561673889945192655078505504941250475370961481 prim_d (by decide +kernel) (by decide +kernel) (by decide +kernel) (by decide +kernel) (by decide +kernel) (by decide +kernel) (by decide +kernel)
end Crv
end Go.Proofs.YtbhlcnimjoppeaaDoor

/-
  Of no statement by itself: the numbers modulo 2^255 - 19: each but nought has an inverse, and one of two certain multiples of each has a root; no program stands here.
  Conditions: none but each lemma's own.
-/
namespace Go.Proofs.YtbhlcnimjoppeaaDoor
namespace Crv
abbrev F := Fin P
def pw (x : F) : Nat → F
  | 0 => 1
  | n + 1 => pw x n * x
theorem pw_val (x : F) : ∀ n, (pw x n).val = x.val ^ n % P
  | 0 => rfl
  | n + 1 => by
    show (pw x n * x).val = _
    rw [Fin.val_mul, pw_val x n, Nat.pow_succ, Nat.mul_mod, Nat.mod_mod, ← Nat.mul_mod]
theorem pw_add (x : F) (m : Nat) : ∀ n, pw x (m + n) = pw x m * pw x n
  | 0 => by show pw x m = pw x m * 1; grobner
  | n + 1 => by
    show pw x (m + n) * x = pw x m * (pw x n * x)
    rw [pw_add x m n]; grobner
theorem pw_mul (x y : F) : ∀ n, pw (x * y) n = pw x n * pw y n
  | 0 => by show (1 : F) = 1 * 1; grobner
  | n + 1 => by
    show pw (x * y) n * (x * y) = pw x n * x * (pw y n * y)
    rw [pw_mul x y n]; grobner
theorem val_ne {x : F} (h : x ≠ 0) : ¬ P ∣ x.val := fun d => h (by
  apply Fin.ext
  have := Nat.eq_zero_of_dvd_of_lt d x.isLt
  rw [this]; rfl)
theorem fermatF {x : F} (h : x ≠ 0) : pw x (P - 1) = 1 := by
  apply Fin.ext
  rw [pw_val, fermat prim_P _ (val_ne h)]; rfl
def inv (x : F) : F := pw x (P - 2)
theorem mul_inv {x : F} (h : x ≠ 0) : x * inv x = 1 := by
  have := fermatF h
  have e : P - 1 = (P - 2) + 1 := by decide
  rw [e] at this
  have t : pw x (P - 2) * x = 1 := this
  show x * pw x (P - 2) = 1
  grobner
theorem mul_zero {x y : F} (h : x * y = 0) : x = 0 ∨ y = 0 := by
  by_cases hx : x = 0
  · exact Or.inl hx
  · have := mul_inv hx
    exact Or.inr (by grobner)
theorem mul_ne {x y : F} (hx : x ≠ 0) (hy : y ≠ 0) : x * y ≠ 0 := fun h => by
  cases mul_zero h with
  | inl h => exact hx h
  | inr h => exact hy h
theorem cancel {c x y : F} (h : c ≠ 0) (e : c * x = c * y) : x = y := by
  have := mul_inv h
  grobner
theorem sq_zero {x : F} (h : x * x = 0) : x = 0 := (mul_zero h).elim id id
theorem two_ne : (2 : F) ≠ 0 := by decide
/-- half of what comes before p -/
def chi (x : F) : F := pw x 28948022309329048855892746252171976963317496166410141009864396001978282409974
theorem chi_sq {x : F} (h : x ≠ 0) : chi x * chi x = 1 := by
  unfold chi
  rw [← pw_add, ← fermatF h]
  exact congrArg (pw x) (by decide)
theorem chi_mul (x y : F) : chi (x * y) = chi x * chi y := pw_mul x y _
/-- its square is -1 -/
def im : F := 19681161376707505956807079304988542015446066515923890162744021073123829784752
theorem im_sq : im * im = -1 := by decide +kernel
theorem root {x : F} (hc : chi x = 1) : ∃ s, x = s * s := by
  let q := pw x 14474011154664524427946373126085988481658748083205070504932198000989141204987
  let s := pw x 7237005577332262213973186563042994240829374041602535252466099000494570602494
  have e1 : q * q = 1 := by
    rw [← hc]; show pw x _ * pw x _ = pw x _
    rw [← pw_add]
  have e2 : s * s = q * x := by
    show pw x _ * pw x _ = pw x (14474011154664524427946373126085988481658748083205070504932198000989141204987 + 1)
    rw [← pw_add]
  have e3 : (q - 1) * (q + 1) = 0 := by grobner
  cases mul_zero e3 with
  | inl h => exact ⟨s, by grobner⟩
  | inr h =>
    have := im_sq
    exact ⟨im * s, by grobner⟩
/-- the curve's number -/
def ca : F := 486662
theorem pw_pm (x : F) {e f v : Nat} (he : e < 2 ^ f) (h : pm P f x.val e 1 % P = v) : (pw x e).val = v := by
  rw [pw_val]; exact pm_is he h
theorem chi_ca : chi (ca * ca - 4) = -1 := by
  apply Fin.ext
  exact pw_pm (f := 255) _ (by decide) (by decide +kernel)
/-- of what is left of the curve's square less 4, no root is there -/
theorem no_root (t : F) : t * t ≠ ca * ca - 4 := fun h => by
  have h0 : t ≠ 0 := fun e => by
    rw [e] at h
    revert h
    decide +kernel
  have e := chi_sq h0
  rw [← chi_mul, h, chi_ca] at e
  revert e
  decide +kernel
end Crv
end Go.Proofs.YtbhlcnimjoppeaaDoor

/-
  Of no statement by itself: four identities of the curve x^2 + y^2 = 1 + d x^2 y^2, each with what it is a sum of; no program stands here.
  Conditions: none.
-/
namespace Go.Proofs.YtbhlcnimjoppeaaDoor
namespace Crv
def c0_on (d x1 y1 x2 y2 : F) : F := (x2*x2*x2*x2) + (y2*y2*y2*y2) + (-2*x2*x2*y2*y2*y2*y2) + (-2*x2*x2*x2*x2*y2*y2) + (4*x2*x2*y2*y2) + (-d*d*x2*x2*x2*x2*y2*y2*y2*y2) + (-2*d*x2*x2*y2*y2) + (2*d*x2*x2*x2*x2*y2*y2*y2*y2) + (d*d*x1*x1*x2*x2*x2*x2*y2*y2*y2*y2) + (d*d*x2*x2*x2*x2*y1*y1*y2*y2*y2*y2) + (-d*x1*x1*x2*x2*y2*y2*y2*y2) + (-d*x1*x1*x2*x2*x2*x2*y2*y2) + (-d*x2*x2*y1*y1*y2*y2*y2*y2) + (-d*x2*x2*x2*x2*y1*y1*y2*y2) + (d*d*d*x1*x1*x2*x2*x2*x2*y1*y1*y2*y2*y2*y2)
def c1_on (d x1 y1 x2 y2 : F) : F := (1) + (x2*x2) + (y2*y2) + (-x1*x1*x2*x2) + (-x1*x1*y2*y2) + (-x2*x2*y1*y1) + (-y1*y1*y2*y2) + (-2*x2*x2*y2*y2) + (d*x2*x2*y2*y2) + (2*x1*x1*x2*x2*y2*y2) + (2*x2*x2*y1*y1*y2*y2) + (d*x1*x1*x1*x1*x2*x2*y2*y2) + (d*x2*x2*y1*y1*y1*y1*y2*y2) + (-2*d*x1*x1*x2*x2*y2*y2) + (-2*d*x2*x2*y1*y1*y2*y2)
theorem cert_on (d x1 y1 x2 y2 : F) : (x1*y2+x2*y1)*(x1*y2+x2*y1)*((1-d*x1*x2*y1*y2)*(1-d*x1*x2*y1*y2))+(y1*y2-x1*x2)*(y1*y2-x1*x2)*((1+d*x1*x2*y1*y2)*(1+d*x1*x2*y1*y2))-(1-d*x1*x2*y1*y2)*(1-d*x1*x2*y1*y2)*((1+d*x1*x2*y1*y2)*(1+d*x1*x2*y1*y2))-d*((x1*y2+x2*y1)*(x1*y2+x2*y1))*((y1*y2-x1*x2)*(y1*y2-x1*x2))
    = c0_on d x1 y1 x2 y2*(-d*x1*x1*y1*y1 + x1*x1 + y1*y1 - 1) + c1_on d x1 y1 x2 y2*(-d*x2*x2*y2*y2 + x2*x2 + y2*y2 - 1) := by
  unfold c0_on c1_on
  grobner
def c0_x (d x1 y1 x2 y2 x3 y3 : F) : F := (d*x1*x2*x2*x2*x3*y2*y2) + (d*x1*x2*x2*y2*y2*y2*y3*y3*y3) + (d*x2*x2*x3*x3*x3*y1*y2*y2*y2) + (d*x2*x2*x2*y1*y2*y2*y3*y3*y3) + (-d*x1*x2*x2*y2*y2*y2*y3) + (-d*x1*x2*x2*x2*x3*x3*x3*y2*y2) + (-d*x2*x2*x3*y1*y2*y2*y2) + (-d*x2*x2*x2*y1*y2*y2*y3) + (d*x1*x2*x3*y2*y2*y2*y2*y3*y3) + (d*d*x1*x2*x2*x2*x2*x3*x3*y2*y2*y2*y3) + (d*d*x2*x2*x2*x2*x3*y1*y2*y2*y2*y3*y3) + (d*d*x2*x2*x2*x3*x3*y1*y2*y2*y2*y2*y3) + (-d*x1*x2*x2*x2*x2*x3*x3*y2*y3) + (-d*x2*x3*x3*y1*y2*y2*y2*y2*y3) + (-d*x2*x2*x2*x2*x3*y1*y2*y3*y3) + (-d*d*x1*x2*x2*x2*x3*y2*y2*y2*y2*y3*y3)
def c1_x (d x1 y1 x2 y2 x3 y3 : F) : F := (x1*x2*x3*x3*x3) + (x1*y2*y3) + (x1*x1*x1*x2*x3) + (x2*y1*y3) + (x2*y1*y1*y1*y3*y3*y3) + (x3*y1*y2) + (x1*x1*x1*y2*y3*y3*y3) + (x3*x3*x3*y1*y1*y1*y2) + (-x1*x2*x3) + (-x1*y2*y3*y3*y3) + (-x2*y1*y3*y3*y3) + (-x2*y1*y1*y1*y3) + (-x1*x1*x1*x2*x3*x3*x3) + (-x3*y1*y1*y1*y2) + (-x3*x3*x3*y1*y2) + (-x1*x1*x1*y2*y3) + (x1*x2*x3*y1*y1) + (x1*x2*x3*y3*y3) + (x1*y1*y1*y2*y3*y3*y3) + (x1*x1*x2*y1*y3*y3*y3) + (x2*x3*x3*y1*y1*y1*y3) + (x3*y1*y1*y1*y2*y3*y3) + (x1*x1*x3*x3*x3*y1*y2) + (x1*x1*x1*x3*x3*y2*y3) + (-x1*x2*x3*x3*x3*y1*y1) + (-x1*x3*x3*y2*y3) + (-x1*y1*y1*y2*y3) + (-x1*x1*x1*x2*x3*y3*y3) + (-x1*x1*x2*y1*y3) + (-x2*x3*x3*y1*y3) + (-x1*x1*x3*y1*y2) + (-x3*y1*y2*y3*y3) + (d*x1*x3*x3*y2*y3*y3*y3) + (d*x2*x3*x3*y1*y3*y3*y3) + (d*x1*x1*x1*x2*x3*x3*x3*y3*y3) + (d*x3*x3*x3*y1*y2*y3*y3) + (x1*x3*x3*y1*y1*y2*y3) + (x1*x1*x2*x3*x3*y1*y3) + (x1*x1*x3*y1*y2*y3*y3) + (-d*x1*x2*x3*x3*x3*y3*y3) + (-d*x2*x3*x3*y1*y1*y1*y3*y3*y3) + (-d*x1*x1*x1*x3*x3*y2*y3*y3*y3) + (-d*x3*x3*x3*y1*y1*y1*y2*y3*y3) + (-x1*x2*x3*y1*y1*y3*y3) + (d*x1*x2*x3*y2*y2*y3*y3) + (d*x1*x2*x3*x3*x3*y1*y1*y3*y3) + (d*x2*x3*x3*y1*y1*y1*y2*y2*y3) + (d*x2*x2*x3*y1*y1*y1*y2*y3*y3) + (d*x1*x1*x1*x2*x2*x3*x3*y2*y3) + (-d*x1*x2*x2*x3*x3*y2*y3) + (-d*x1*x3*x3*y1*y1*y2*y3*y3*y3) + (-d*x1*x1*x1*x2*x3*y2*y2*y3*y3) + (-d*x2*x3*x3*y1*y2*y2*y3) + (-d*x1*x1*x2*x3*x3*y1*y3*y3*y3) + (-d*x2*x2*x3*y1*y2*y3*y3) + (-d*x1*x1*x3*x3*x3*y1*y2*y3*y3) + (d*x1*x2*x2*x3*x3*y1*y1*y2*y3) + (d*x1*x1*x2*x3*x3*y1*y2*y2*y3) + (d*x1*x1*x2*x2*x3*y1*y2*y3*y3) + (d*d*x1*x2*x3*x3*x3*y1*y1*y2*y2*y3*y3) + (-d*x1*x2*x3*y1*y1*y2*y2*y3*y3) + (-d*d*x1*x2*x2*x3*x3*y1*y1*y2*y3*y3*y3) + (-d*d*x1*x1*x2*x3*x3*y1*y2*y2*y3*y3*y3) + (-d*d*x1*x1*x2*x2*x3*x3*x3*y1*y2*y3*y3)
def c2_x (d x1 y1 x2 y2 x3 y3 : F) : F := (x1*x2*x3) + (x1*y2*y2*y2*y3) + (x2*y1*y1*y1*y3) + (x3*y1*y2*y2*y2) + (x3*y1*y1*y1*y2) + (x1*x1*x1*x2*x2*x2*x3) + (x2*x2*x2*y1*y3) + (x1*x1*x1*y2*y3) + (-x1*x2*x2*x2*x3) + (-x1*y2*y3) + (-x1*x1*x1*x2*x3) + (-x2*y1*y3) + (-x3*y1*y2) + (-x3*y1*y1*y1*y2*y2*y2) + (-x1*x1*x1*y2*y2*y2*y3) + (-x2*x2*x2*y1*y1*y1*y3) + (x1*x2*x2*x2*x3*y1*y1) + (x1*x2*x2*y2*y3) + (x1*y1*y1*y2*y3) + (x1*x1*x1*x2*x3*y2*y2) + (x1*x1*x2*y1*y3) + (x2*y1*y2*y2*y3) + (x1*x1*x3*y1*y2) + (x2*x2*x3*y1*y2) + (-x1*x2*x3*y1*y1) + (-x1*x2*x3*y2*y2) + (-x1*y1*y1*y2*y2*y2*y3) + (-x2*y1*y1*y1*y2*y2*y3) + (-x1*x1*x3*y1*y2*y2*y2) + (-x2*x2*x3*y1*y1*y1*y2) + (-x1*x1*x2*x2*x2*y1*y3) + (-x1*x1*x1*x2*x2*y2*y3) + (x1*x2*x3*y1*y1*y2*y2) + (-x1*x2*x2*y1*y1*y2*y3) + (-x1*x1*x2*y1*y2*y2*y3) + (-x1*x1*x2*x2*x3*y1*y2) + (d*x1*x2*x2*y1*y1*y2*y3) + (d*x1*x1*x2*y1*y2*y2*y3) + (d*x1*x1*x2*x2*x3*y1*y2) + (-d*x1*x2*x3*y1*y1*y2*y2)
theorem cert_x (d x1 y1 x2 y2 x3 y3 : F) : ((x1*y2+x2*y1)*(1-d*x1*x2*y1*y2)*y3+x3*(y1*y2-x1*x2)*(1+d*x1*x2*y1*y2))*((1-d*x2*x3*y2*y3)*(1+d*x2*x3*y2*y3)+d*x1*(x2*y3+x3*y2)*y1*(y2*y3-x2*x3))-(x1*(y2*y3-x2*x3)*(1+d*x2*x3*y2*y3)+(x2*y3+x3*y2)*y1*(1-d*x2*x3*y2*y3))*((1-d*x1*x2*y1*y2)*(1+d*x1*x2*y1*y2)+d*(x1*y2+x2*y1)*x3*(y1*y2-x1*x2)*y3)
    = c0_x d x1 y1 x2 y2 x3 y3*(-d*x1*x1*y1*y1 + x1*x1 + y1*y1 - 1) + c1_x d x1 y1 x2 y2 x3 y3*(-d*x2*x2*y2*y2 + x2*x2 + y2*y2 - 1) + c2_x d x1 y1 x2 y2 x3 y3*(-d*x3*x3*y3*y3 + x3*x3 + y3*y3 - 1) := by
  unfold c0_x c1_x c2_x
  grobner
def c0_y (d x1 y1 x2 y2 x3 y3 : F) : F := (d*x1*x2*x2*x3*y2*y2*y2) + (d*x1*x2*x2*x2*y2*y2*y3) + (d*x2*x2*x2*x3*y1*y2*y2) + (d*x2*x2*y1*y2*y2*y2*y3*y3*y3) + (-d*x1*x2*x2*x3*x3*x3*y2*y2*y2) + (-d*x1*x2*x2*x2*y2*y2*y3*y3*y3) + (-d*x2*x2*y1*y2*y2*y2*y3) + (-d*x2*x2*x2*x3*x3*x3*y1*y2*y2) + (d*x1*x2*x3*x3*y2*y2*y2*y2*y3) + (d*x1*x2*x2*x2*x2*x3*y2*y3*y3) + (d*x2*x3*y1*y2*y2*y2*y2*y3*y3) + (d*d*x2*x2*x2*x2*x3*x3*y1*y2*y2*y2*y3) + (-d*x2*x2*x2*x2*x3*x3*y1*y2*y3) + (-d*d*x1*x2*x2*x2*x2*x3*y2*y2*y2*y3*y3) + (-d*d*x1*x2*x2*x2*x3*x3*y2*y2*y2*y2*y3) + (-d*d*x2*x2*x2*x3*y1*y2*y2*y2*y2*y3*y3)
def c1_y (d x1 y1 x2 y2 x3 y3 : F) : F := (x1*x2*y3*y3*y3) + (x1*x3*x3*x3*y2) + (x2*x3*y1*y1*y1) + (x2*x3*x3*x3*y1) + (x1*x1*x1*x2*y3) + (x1*x1*x1*x3*y2) + (y1*y2*y3) + (y1*y1*y1*y2*y3*y3*y3) + (-x1*x2*y3) + (-x1*x3*y2) + (-x2*x3*y1) + (-x1*x1*x1*x2*y3*y3*y3) + (-x2*x3*x3*x3*y1*y1*y1) + (-y1*y2*y3*y3*y3) + (-y1*y1*y1*y2*y3) + (-x1*x1*x1*x3*x3*x3*y2) + (x1*x2*x3*x3*y3) + (x1*x2*y1*y1*y3) + (x1*x3*y1*y1*y2) + (x1*x3*y2*y3*y3) + (x1*x1*x2*x3*y1) + (x2*x3*y1*y3*y3) + (x1*x1*y1*y2*y3*y3*y3) + (x3*x3*y1*y1*y1*y2*y3) + (-x1*x2*y1*y1*y3*y3*y3) + (-x1*x3*x3*x3*y1*y1*y2) + (-x2*x3*y1*y1*y1*y3*y3) + (-x1*x1*x2*x3*x3*x3*y1) + (-x1*x1*x1*x2*x3*x3*y3) + (-x1*x1*x1*x3*y2*y3*y3) + (-x1*x1*y1*y2*y3) + (-x3*x3*y1*y2*y3) + (d*x1*x1*x1*x2*x3*x3*y3*y3*y3) + (d*x2*x3*x3*x3*y1*y1*y1*y3*y3) + (d*x3*x3*y1*y2*y3*y3*y3) + (d*x1*x1*x1*x3*x3*x3*y2*y3*y3) + (x1*x1*x3*x3*y1*y2*y3) + (-d*x1*x2*x3*x3*y3*y3*y3) + (-d*x1*x3*x3*x3*y2*y3*y3) + (-d*x2*x3*x3*x3*y1*y3*y3) + (-d*x3*x3*y1*y1*y1*y2*y3*y3*y3) + (-x1*x2*x3*x3*y1*y1*y3) + (-x1*x3*y1*y1*y2*y3*y3) + (-x1*x1*x2*x3*y1*y3*y3) + (d*x1*x2*x3*x3*y2*y2*y3) + (d*x1*x2*x3*x3*y1*y1*y3*y3*y3) + (d*x1*x2*x2*x3*y2*y3*y3) + (d*x1*x3*x3*x3*y1*y1*y2*y3*y3) + (d*x2*x3*y1*y2*y2*y3*y3) + (d*x1*x1*x2*x3*x3*x3*y1*y3*y3) + (d*x2*x2*x3*x3*y1*y1*y1*y2*y3) + (-d*x2*x3*y1*y1*y1*y2*y2*y3*y3) + (-d*x1*x1*x1*x2*x3*x3*y2*y2*y3) + (-d*x1*x1*x1*x2*x2*x3*y2*y3*y3) + (-d*x2*x2*x3*x3*y1*y2*y3) + (-d*x1*x1*x3*x3*y1*y2*y3*y3*y3) + (d*x1*x1*x2*x2*x3*x3*y1*y2*y3) + (d*d*x1*x2*x3*x3*y1*y1*y2*y2*y3*y3*y3) + (d*d*x1*x2*x2*x3*x3*x3*y1*y1*y2*y3*y3) + (d*d*x1*x1*x2*x3*x3*x3*y1*y2*y2*y3*y3) + (-d*x1*x2*x3*x3*y1*y1*y2*y2*y3) + (-d*x1*x2*x2*x3*y1*y1*y2*y3*y3) + (-d*x1*x1*x2*x3*y1*y2*y2*y3*y3) + (-d*d*x1*x1*x2*x2*x3*x3*y1*y2*y3*y3*y3)
def c2_y (d x1 y1 x2 y2 x3 y3 : F) : F := (x1*x2*y3) + (x1*x3*y2) + (x2*x3*y1) + (x1*x1*x1*x3*y2*y2*y2) + (x2*x2*x2*x3*y1*y1*y1) + (y1*y2*y2*y2*y3) + (y1*y1*y1*y2*y3) + (x1*x1*x1*x2*x2*x2*y3) + (-x1*x3*y2*y2*y2) + (-x1*x2*x2*x2*y3) + (-x2*x3*y1*y1*y1) + (-x1*x1*x1*x2*y3) + (-x2*x2*x2*x3*y1) + (-x1*x1*x1*x3*y2) + (-y1*y2*y3) + (-y1*y1*y1*y2*y2*y2*y3) + (x1*x3*y1*y1*y2*y2*y2) + (x1*x2*x2*x2*y1*y1*y3) + (x2*x3*y1*y1*y1*y2*y2) + (x1*x1*x1*x2*y2*y2*y3) + (x1*x1*x2*x2*x2*x3*y1) + (x1*x1*x1*x2*x2*x3*y2) + (x1*x1*y1*y2*y3) + (x2*x2*y1*y2*y3) + (-x1*x2*y1*y1*y3) + (-x1*x2*y2*y2*y3) + (-x1*x2*x2*x3*y2) + (-x1*x3*y1*y1*y2) + (-x1*x1*x2*x3*y1) + (-x2*x3*y1*y2*y2) + (-x1*x1*y1*y2*y2*y2*y3) + (-x2*x2*y1*y1*y1*y2*y3) + (x1*x2*y1*y1*y2*y2*y3) + (x1*x2*x2*x3*y1*y1*y2) + (x1*x1*x2*x3*y1*y2*y2) + (-x1*x1*x2*x2*y1*y2*y3) + (d*x1*x1*x2*x2*y1*y2*y3) + (-d*x1*x2*y1*y1*y2*y2*y3) + (-d*x1*x2*x2*x3*y1*y1*y2) + (-d*x1*x1*x2*x3*y1*y2*y2)
theorem cert_y (d x1 y1 x2 y2 x3 y3 : F) : ((y1*y2-x1*x2)*(1+d*x1*x2*y1*y2)*y3-(x1*y2+x2*y1)*x3*(1-d*x1*x2*y1*y2))*((1-d*x2*x3*y2*y3)*(1+d*x2*x3*y2*y3)-d*x1*(x2*y3+x3*y2)*y1*(y2*y3-x2*x3))-(y1*(y2*y3-x2*x3)*(1+d*x2*x3*y2*y3)-x1*(x2*y3+x3*y2)*(1-d*x2*x3*y2*y3))*((1-d*x1*x2*y1*y2)*(1+d*x1*x2*y1*y2)-d*(x1*y2+x2*y1)*x3*(y1*y2-x1*x2)*y3)
    = c0_y d x1 y1 x2 y2 x3 y3*(-d*x1*x1*y1*y1 + x1*x1 + y1*y1 - 1) + c1_y d x1 y1 x2 y2 x3 y3*(-d*x2*x2*y2*y2 + x2*x2 + y2*y2 - 1) + c2_y d x1 y1 x2 y2 x3 y3*(-d*x3*x3*y3*y3 + x3*x3 + y3*y3 - 1) := by
  unfold c0_y c1_y c2_y
  grobner
def c0_diff (d y1 x2 y2 : F) : F := (4*x2*x2*y1*y2) + (-4*d*x2*x2*y1*y2*y2*y2)
def c1_diff (y1 y2 : F) : F := (-4*y1*y1*y1*y2) + (4*y1*y2)
theorem cert_diff (d x1 y1 x2 y2 : F) : ((1-d*x1*x2*y1*y2+y1*y2-x1*x2)*(1+d*x1*x2*y1*y2+y1*y2+x1*x2))*((y1-y2)*(y1-y2))-((1-d*x1*x2*y1*y2-y1*y2+x1*x2)*(1+d*x1*x2*y1*y2-y1*y2-x1*x2))*((y1+y2)*(y1+y2))
    = c0_diff d y1 x2 y2*(-d*x1*x1*y1*y1 + x1*x1 + y1*y1 - 1) + c1_diff y1 y2*(-d*x2*x2*y2*y2 + x2*x2 + y2*y2 - 1) := by
  unfold c0_diff c1_diff
  grobner
end Crv
end Go.Proofs.YtbhlcnimjoppeaaDoor

/-
  Of no statement by itself: the points of x^2 + y^2 = 1 + d x^2 y^2, where d has no root, are a commuting group; no program stands here.
  Conditions: none but each lemma's own.
-/
namespace Go.Proofs.YtbhlcnimjoppeaaDoor
namespace Crv
def NS (d : F) : Prop := ∀ t, t * t ≠ d
def On (d : F) (p : F × F) : Prop := p.1 * p.1 + p.2 * p.2 = 1 + d * p.1 * p.1 * p.2 * p.2
def kk (d : F) (p q : F × F) : F := d * p.1 * q.1 * p.2 * q.2
theorem den {d : F} {p q : F × F} (ns : NS d) (hp : On d p) (hq : On d q) {ε : F} (hε : ε * ε = 1) : kk d p q ≠ ε := by
  obtain ⟨x1, y1⟩ := p
  obtain ⟨x2, y2⟩ := q
  unfold kk On at *
  simp only at *
  intro h
  have e1 : (x1 + ε * y1) * (x1 + ε * y1) = d * (x1 * y1) * (x1 * y1) * ((x2 + y2) * (x2 + y2)) := by grobner
  have e2 : (x1 - ε * y1) * (x1 - ε * y1) = d * (x1 * y1) * (x1 * y1) * ((x2 - y2) * (x2 - y2)) := by grobner
  have one : (1 : F) ≠ 0 := by decide
  have n0 : x1 * y1 ≠ 0 := fun z => one (by grobner)
  have step : ∀ a b : F, a * a = d * (x1 * y1) * (x1 * y1) * (b * b) → b = 0 := fun a b e => by
    refine Classical.byContradiction fun hb => ?_
    have i := mul_inv (mul_ne n0 hb)
    exact ns (a * inv (x1 * y1 * b)) (by grobner)
  have z1 := step _ _ e1
  have z2 := step _ _ e2
  have z3 : (2 : F) * x2 = 0 := by grobner
  have z4 : x2 = 0 := (mul_zero z3).elim (fun h => absurd h two_ne) id
  exact one (by grobner)
theorem den_p {d : F} {p q : F × F} (ns : NS d) (hp : On d p) (hq : On d q) : 1 + kk d p q ≠ 0 := fun h =>
  den ns hp hq (ε := -1) (by decide) (by grobner)
theorem den_m {d : F} {p q : F × F} (ns : NS d) (hp : On d p) (hq : On d q) : 1 - kk d p q ≠ 0 := fun h =>
  den ns hp hq (ε := 1) (by decide) (by grobner)
def add (d : F) (p q : F × F) : F × F := ((p.1 * q.2 + q.1 * p.2) * inv (1 + kk d p q), (p.2 * q.2 - p.1 * q.1) * inv (1 - kk d p q))
theorem add_x {d : F} {p q : F × F} (ns : NS d) (hp : On d p) (hq : On d q) : (add d p q).1 * (1 + kk d p q) = p.1 * q.2 + q.1 * p.2 := by
  have := mul_inv (den_p ns hp hq)
  show (p.1 * q.2 + q.1 * p.2) * inv (1 + kk d p q) * (1 + kk d p q) = _
  generalize inv (1 + kk d p q) = i at *
  generalize kk d p q = k at *
  grobner
theorem add_y {d : F} {p q : F × F} (ns : NS d) (hp : On d p) (hq : On d q) : (add d p q).2 * (1 - kk d p q) = p.2 * q.2 - p.1 * q.1 := by
  have := mul_inv (den_m ns hp hq)
  show (p.2 * q.2 - p.1 * q.1) * inv (1 - kk d p q) * (1 - kk d p q) = _
  generalize inv (1 - kk d p q) = i at *
  generalize kk d p q = k at *
  grobner
theorem of_two {a b c0 c1 z0 z1 : F} (h : a - b = c0 * z0 + c1 * z1) (h0 : z0 = 0) (h1 : z1 = 0) : a = b := by grobner
theorem of_two' {a c0 c1 z0 z1 : F} (h : a = c0 * z0 + c1 * z1) (h0 : z0 = 0) (h1 : z1 = 0) : a = 0 := by grobner
theorem of_three {a b c0 c1 c2 z0 z1 z2 : F} (h : a - b = c0 * z0 + c1 * z1 + c2 * z2) (h0 : z0 = 0) (h1 : z1 = 0) (h2 : z2 = 0) : a = b := by grobner
theorem curve0 {d x y : F} (h : x * x + y * y = 1 + d * x * x * y * y) : -d*x*x*y*y + x*x + y*y - 1 = 0 := by grobner
theorem fin_on {d k a b x y : F} (hx : x * (1 + k) = a) (hy : y * (1 - k) = b)
    (c : a * a * ((1 - k) * (1 - k)) + b * b * ((1 + k) * (1 + k)) - (1 - k) * (1 - k) * ((1 + k) * (1 + k)) - d * (a * a) * (b * b) = 0) :
    (1 + k) * (1 - k) * ((1 + k) * (1 - k)) * (x * x + y * y) = (1 + k) * (1 - k) * ((1 + k) * (1 - k)) * (1 + d * x * x * y * y) := by
  subst hx
  subst hy
  grobner
theorem add_on {d : F} {p q : F × F} (ns : NS d) (hp : On d p) (hq : On d q) : On d (add d p q) := by
  have hx := add_x ns hp hq
  have hy := add_y ns hp hq
  have nn := mul_ne (den_p ns hp hq) (den_m ns hp hq)
  exact cancel (mul_ne nn nn) (fin_on hx hy (of_two' (cert_on d p.1 p.2 q.1 q.2) (curve0 hp) (curve0 hq)))
theorem leg_d {d k a b x y u v : F} (h1 : x * (1 + k) = a) (h2 : y * (1 - k) = b) : (1 - k) * (1 + k) + d * a * u * b * v = (1 - k) * (1 + k) * (1 + d * x * u * y * v) := by
  subst h1
  subst h2
  grobner
theorem leg_lx {d k a b x y u v l : F} (h1 : x * (1 + k) = a) (h2 : y * (1 - k) = b) (hl : l * (1 + d * x * u * y * v) = x * v + u * y) : l * ((1 - k) * (1 + k) + d * a * u * b * v) = a * (1 - k) * v + u * b * (1 + k) := by
  rw [leg_d h1 h2]
  subst h1
  subst h2
  generalize 1 + d * x * u * y * v = z at *
  grobner
theorem leg_ly {d k a b x y u v l : F} (h1 : x * (1 + k) = a) (h2 : y * (1 - k) = b) (hl : l * (1 - d * x * u * y * v) = y * v - x * u) : l * ((1 - k) * (1 + k) - d * a * u * b * v) = b * (1 + k) * v - a * u * (1 - k) := by
  have e : (1 - k) * (1 + k) - d * a * u * b * v = (1 - k) * (1 + k) * (1 - d * x * u * y * v) := by
    subst h1
    subst h2
    grobner
  rw [e]
  subst h1
  subst h2
  generalize 1 - d * x * u * y * v = z at *
  grobner
theorem leg_rx {d k a b x y u v l : F} (h1 : x * (1 + k) = a) (h2 : y * (1 - k) = b) (hl : l * (1 + d * u * x * v * y) = u * y + x * v) : l * ((1 - k) * (1 + k) + d * u * a * v * b) = u * b * (1 + k) + a * v * (1 - k) := by
  have e := leg_lx h1 h2 (l := l) (d := d) (u := u) (v := v) (by clear h1 h2; grobner)
  clear h1 h2 hl
  grobner
theorem leg_ry {d k a b x y u v l : F} (h1 : x * (1 + k) = a) (h2 : y * (1 - k) = b) (hl : l * (1 - d * u * x * v * y) = v * y - u * x) : l * ((1 - k) * (1 + k) - d * u * a * v * b) = v * b * (1 + k) - u * a * (1 - k) := by
  have e := leg_ly h1 h2 (l := l) (d := d) (u := u) (v := v) (by clear h1 h2; grobner)
  clear h1 h2 hl
  grobner
theorem leg_n {d k a b x y u v : F} (h1 : x * (1 + k) = a) (h2 : y * (1 - k) = b) (n1 : 1 + k ≠ 0) (n2 : 1 - k ≠ 0) (n3 : 1 + d * x * u * y * v ≠ 0) : (1 - k) * (1 + k) + d * a * u * b * v ≠ 0 := by
  rw [leg_d h1 h2]
  exact mul_ne (mul_ne n2 n1) n3
theorem leg_m {d k a b x y u v : F} (h1 : x * (1 + k) = a) (h2 : y * (1 - k) = b) (n1 : 1 + k ≠ 0) (n2 : 1 - k ≠ 0) (n3 : 1 - d * x * u * y * v ≠ 0) : (1 - k) * (1 + k) - d * a * u * b * v ≠ 0 := by
  have e : (1 - k) * (1 + k) - d * a * u * b * v = (1 - k) * (1 + k) * (1 - d * x * u * y * v) := by
    subst h1
    subst h2
    clear n1 n2 n3
    grobner
  rw [e]
  exact mul_ne (mul_ne n2 n1) n3
theorem leg_n' {d k a b x y u v : F} (h1 : x * (1 + k) = a) (h2 : y * (1 - k) = b) (n1 : 1 + k ≠ 0) (n2 : 1 - k ≠ 0) (n3 : 1 + d * u * x * v * y ≠ 0) : (1 - k) * (1 + k) + d * u * a * v * b ≠ 0 := by
  have e : ∀ x y : F, d * u * x * v * y = d * x * u * y * v := fun x y => by clear h1 h2 n1 n2 n3; grobner
  rw [e]
  exact leg_n h1 h2 n1 n2 (by rw [← e]; exact n3)
theorem leg_m' {d k a b x y u v : F} (h1 : x * (1 + k) = a) (h2 : y * (1 - k) = b) (n1 : 1 + k ≠ 0) (n2 : 1 - k ≠ 0) (n3 : 1 - d * u * x * v * y ≠ 0) : (1 - k) * (1 + k) - d * u * a * v * b ≠ 0 := by
  have e : ∀ x y : F, d * u * x * v * y = d * x * u * y * v := fun x y => by clear h1 h2 n1 n2 n3; grobner
  rw [e]
  exact leg_m h1 h2 n1 n2 (by rw [← e]; exact n3)
theorem cross {l r a b c e : F} (h1 : l * b = a) (h2 : r * e = c) (h : a * e = c * b) (n1 : b ≠ 0) (n2 : e ≠ 0) : l = r := by
  refine cancel (mul_ne n1 n2) ?_
  subst h1
  subst h2
  grobner
theorem assoc {d : F} {p q r : F × F} (ns : NS d) (hp : On d p) (hq : On d q) (hr : On d r) : add d (add d p q) r = add d p (add d q r) := by
  have h12 := add_on ns hp hq
  have h23 := add_on ns hq hr
  have a1 := add_x ns hp hq
  have a2 := add_y ns hp hq
  have b1 := add_x ns hq hr
  have b2 := add_y ns hq hr
  have l1 := add_x ns h12 hr
  have l2 := add_y ns h12 hr
  have r1 := add_x ns hp h23
  have r2 := add_y ns hp h23
  have np := den_p ns hp hq
  have nm := den_m ns hp hq
  have mp := den_p ns hq hr
  have mm := den_m ns hq hr
  have lp := den_p ns h12 hr
  have lm := den_m ns h12 hr
  have rp := den_p ns hp h23
  have rm := den_m ns hp h23
  have cx := of_three (cert_x d p.1 p.2 q.1 q.2 r.1 r.2) (curve0 hp) (curve0 hq) (curve0 hr)
  have cy := of_three (cert_y d p.1 p.2 q.1 q.2 r.1 r.2) (curve0 hp) (curve0 hq) (curve0 hr)
  generalize add d (add d p q) r = l at *
  generalize add d p (add d q r) = t at *
  generalize add d p q = s at *
  generalize add d q r = w at *
  obtain ⟨x1, y1⟩ := p
  obtain ⟨x2, y2⟩ := q
  obtain ⟨x3, y3⟩ := r
  obtain ⟨x12, y12⟩ := s
  obtain ⟨x23, y23⟩ := w
  obtain ⟨lx, ly⟩ := l
  obtain ⟨tx, ty⟩ := t
  unfold kk On at *
  simp only at *
  clear hp hq hr h12 h23
  generalize d * x1 * x2 * y1 * y2 = k at *
  generalize d * x2 * x3 * y2 * y3 = m at *
  generalize x1 * y2 + x2 * y1 = nx at *
  generalize y1 * y2 - x1 * x2 = ny at *
  generalize x2 * y3 + x3 * y2 = mx at *
  generalize y2 * y3 - x2 * x3 = my at *
  have ex : lx = tx := cross (leg_lx a1 a2 l1) (leg_rx b1 b2 r1) cx (leg_n a1 a2 np nm lp) (leg_n' b1 b2 mp mm rp)
  have ey : ly = ty := cross (leg_ly a1 a2 l2) (leg_ry b1 b2 r2) cy (leg_m a1 a2 np nm lm) (leg_m' b1 b2 mp mm rm)
  rw [ex, ey]
theorem add_comm (d : F) (p q : F × F) : add d p q = add d q p := by
  have e : kk d p q = kk d q p := by unfold kk; grobner
  unfold add
  rw [e]
  apply Prod.ext
  · show (p.1 * q.2 + q.1 * p.2) * _ = (q.1 * p.2 + p.1 * q.2) * _
    congr 1
    grobner
  · show (p.2 * q.2 - p.1 * q.1) * _ = (q.2 * p.2 - q.1 * p.1) * _
    congr 1
    grobner
def O : F × F := (0, 1)
theorem on_O (d : F) : On d O := by
  show (0 : F) * 0 + 1 * 1 = 1 + d * 0 * 0 * 1 * 1
  grobner
theorem inv_one : inv 1 = 1 := by
  have := mul_inv (x := 1) (by decide)
  grobner
theorem O_add (d : F) (p : F × F) : add d O p = p := by
  have e : kk d O p = 0 := by show d * 0 * p.1 * 1 * p.2 = 0; grobner
  unfold add
  rw [e]
  have e1 : (1 + 0 : F) = 1 := by decide
  have e2 : (1 - 0 : F) = 1 := by decide
  rw [e1, e2, inv_one]
  apply Prod.ext
  · show (0 * p.2 + p.1 * 1) * 1 = p.1
    grobner
  · show (1 * p.2 - 0 * p.1) * 1 = p.2
    grobner
def neg (p : F × F) : F × F := (-p.1, p.2)
theorem on_neg {d : F} {p : F × F} (h : On d p) : On d (neg p) := by
  show -p.1 * -p.1 + p.2 * p.2 = 1 + d * -p.1 * -p.1 * p.2 * p.2
  unfold On at h
  grobner
theorem add_neg {d : F} {p : F × F} (ns : NS d) (h : On d p) : add d p (neg p) = O := by
  have x := add_x ns h (on_neg h)
  have y := add_y ns h (on_neg h)
  have n1 := den_p ns h (on_neg h)
  have n2 := den_m ns h (on_neg h)
  generalize add d p (neg p) = r at *
  obtain ⟨rx, ry⟩ := r
  obtain ⟨px, py⟩ := p
  unfold neg kk On at *
  simp only at *
  have ex : rx = 0 := by
    refine cancel n1 ?_
    generalize 1 + d * px * -px * py * py = z at *
    grobner
  have ey : ry = 1 := by
    refine cancel n2 ?_
    have : 1 - d * px * -px * py * py = py * py - px * -px := by clear x y n1 n2 ex; grobner
    rw [← this] at y
    generalize 1 - d * px * -px * py * py = z at *
    clear x n1 n2 this ex h
    grobner
  rw [ex, ey]; rfl
/-- p so many times -/
def nP (d : F) (p : F × F) : Nat → F × F
  | 0 => O
  | n + 1 => add d (nP d p n) p
theorem on_nP {d : F} {p : F × F} (ns : NS d) (h : On d p) : ∀ n, On d (nP d p n)
  | 0 => on_O d
  | n + 1 => add_on ns (on_nP ns h n) h
theorem nP_add {d : F} {p : F × F} (ns : NS d) (h : On d p) (m : Nat) : ∀ n, nP d p (m + n) = add d (nP d p m) (nP d p n)
  | 0 => by
    show nP d p m = add d (nP d p m) O
    rw [add_comm, O_add]
  | n + 1 => by
    show add d (nP d p (m + n)) p = add d (nP d p m) (add d (nP d p n) p)
    rw [nP_add ns h m n, assoc ns (on_nP ns h m) (on_nP ns h n) h]
end Crv
end Go.Proofs.YtbhlcnimjoppeaaDoor

/-
  Of no statement by itself: the ladder of X25519 over the numbers modulo 2^255 - 19, and that to multiply by one even number and then by another one is the same in either order; no program stands here.
  Conditions: none but each lemma's own.
-/
namespace Go.Proofs.YtbhlcnimjoppeaaDoor
namespace Crv
structure L4 where
  x2 : F
  z2 : F
  x3 : F
  z3 : F
/-- one step, as the document tells it, between the exchanges -/
def core (x1 : F) (s : L4) : L4 :=
  let a := s.x2 + s.z2
  let b := s.x2 - s.z2
  let c := s.x3 + s.z3
  let d := s.x3 - s.z3
  let da := d * a
  let cb := c * b
  let aa := a * a
  let bb := b * b
  let e := aa - bb
  ⟨aa * bb, e * (aa + 121665 * e), (da + cb) * (da + cb), x1 * ((da - cb) * (da - cb))⟩
def swap (b : Bool) (s : L4) : L4 := if b then ⟨s.x3, s.z3, s.x2, s.z2⟩ else s
def lad (x1 : F) (k : Nat) : Nat → L4 → L4
  | 0, s => s
  | n + 1, s => lad x1 k n (swap (k.testBit n) (core x1 (swap (k.testBit n) s)))
def mulF (k : Nat) (u : F) : F := (lad u k 255 ⟨1, 0, u, 1⟩).x2 * inv (lad u k 255 ⟨1, 0, u, 1⟩).z2
/-- the pair stands for the point of this second coordinate -/
def Rep (σ y X Z : F) : Prop := ∃ l, l ≠ 0 ∧ X = l * (1 + y) ∧ Z = l * (σ * (1 - y))
structure Par (σ d : F) : Prop where
  one : σ * σ = 1
  num : d * (σ * ca + 2) = σ * ca - 2
  ns : NS d
theorem rep_of {σ y X Z : F} (h1 : σ * σ = 1) (h : σ * (1 + y) * Z = (1 - y) * X) (n : X = 0 → Z = 0 → False) : Rep σ y X Z := by
  have h2 := mul_inv two_ne
  refine ⟨(X + σ * Z) * inv 2, fun z => ?_, ?_, ?_⟩
  · have z1 : X + σ * Z = 0 := by
      refine (mul_zero z).elim id fun e => ?_
      rw [e] at h2
      have one : (1 : F) ≠ 0 := by decide
      exact absurd (by grobner) one
    have e : (2 : F) * X = 0 := by
      clear z h2 n
      grobner
    have e1 : X = 0 := (mul_zero e).elim (fun h => absurd h two_ne) id
    refine n e1 ?_
    clear z h2 n
    grobner
  · clear n
    generalize inv 2 = i at *
    grobner
  · clear n
    generalize inv 2 = i at *
    grobner
theorem dbl_id {d : F} {p : F × F} (ns : NS d) (hp : On d p) : (1 + (add d p p).2) * ((1 - p.2 * p.2) * (1 - d * p.2 * p.2)) = (1 - (add d p p).2) * (p.2 * p.2 * (1 - d)) := by
  have hy := add_y ns hp hp
  have n := den_m ns hp hp
  generalize add d p p = r at *
  obtain ⟨rx, y2⟩ := r
  obtain ⟨x, y⟩ := p
  unfold kk On at *
  simp only at *
  have e : 1 - d * x * x * y * y = 2 - x * x - y * y := by clear hy n; grobner
  rw [e] at hy n
  refine cancel n ?_
  have e1 : (2 - x * x - y * y) * (1 + y2) = 2 - 2 * (x * x) := by clear n e; grobner
  have e2 : (2 - x * x - y * y) * (1 - y2) = 2 - 2 * (y * y) := by clear n e e1; grobner
  have e3 : (2 - x * x - y * y) * ((1 + y2) * ((1 - y * y) * (1 - d * y * y))) = (2 - 2 * (x * x)) * ((1 - y * y) * (1 - d * y * y)) := by rw [← e1]; clear n e e1 e2 hy hp; grobner
  have e4 : (2 - x * x - y * y) * ((1 - y2) * (y * y * (1 - d))) = (2 - 2 * (y * y)) * (y * y * (1 - d)) := by rw [← e2]; clear n e e1 e2 e3 hy hp; grobner
  rw [e3, e4]
  clear e3 e4 e1 e2 n e hy
  grobner
theorem diff_id {d : F} {p q : F × F} (ns : NS d) (hp : On d p) (hq : On d q) :
    (1 + (add d p q).2) * (1 + (add d p (neg q)).2) * ((p.2 - q.2) * (p.2 - q.2)) = (1 - (add d p q).2) * (1 - (add d p (neg q)).2) * ((p.2 + q.2) * (p.2 + q.2)) := by
  have a := add_y ns hp hq
  have b := add_y ns hp (on_neg hq)
  have n1 := den_m ns hp hq
  have n2 := den_m ns hp (on_neg hq)
  have c := of_two (cert_diff d p.1 p.2 q.1 q.2) (curve0 hp) (curve0 hq)
  generalize add d p q = r at *
  generalize add d p (neg q) = t at *
  obtain ⟨rx, ry⟩ := r
  obtain ⟨tx, ty⟩ := t
  obtain ⟨x1, y1⟩ := p
  obtain ⟨x2, y2⟩ := q
  unfold neg kk On at *
  simp only at *
  clear hp hq
  have e : 1 - d * x1 * -x2 * y1 * y2 = 1 + d * x1 * x2 * y1 * y2 := by clear a b n1 n2 c; grobner
  rw [e] at b n2
  generalize d * x1 * x2 * y1 * y2 = k at *
  have e1 : (1 - k) * (1 + ry) = 1 - k + y1 * y2 - x1 * x2 := by clear b n1 n2 c e; grobner
  have e2 : (1 - k) * (1 - ry) = 1 - k - y1 * y2 + x1 * x2 := by clear b n1 n2 c e e1; grobner
  have e3 : (1 + k) * (1 + ty) = 1 + k + y1 * y2 + x1 * x2 := by clear a n1 n2 c e e1 e2; grobner
  have e4 : (1 + k) * (1 - ty) = 1 + k - y1 * y2 - x1 * x2 := by clear a n1 n2 c e e1 e2 e3; grobner
  rw [← e1, ← e2, ← e3, ← e4] at c
  refine cancel (mul_ne n1 n2) ?_
  clear e1 e2 e3 e4 a b e n1 n2
  generalize 1 + ry = r1 at *
  generalize 1 - ry = r2 at *
  generalize 1 + ty = t1 at *
  generalize 1 - ty = t2 at *
  generalize 1 + k = k1 at *
  generalize 1 - k = k2 at *
  generalize y1 - y2 = f at *
  generalize y1 + y2 = g at *
  grobner
theorem neg_sym (d : F) (p q : F × F) : (add d p (neg q)).2 = (add d q (neg p)).2 := by
  show (p.2 * q.2 - p.1 * -q.1) * inv (1 - d * p.1 * -q.1 * p.2 * q.2) = (q.2 * p.2 - q.1 * -p.1) * inv (1 - d * q.1 * -p.1 * q.2 * p.2)
  have e1 : p.2 * q.2 - p.1 * -q.1 = q.2 * p.2 - q.1 * -p.1 := by grobner
  have e2 : 1 - d * p.1 * -q.1 * p.2 * q.2 = 1 - d * q.1 * -p.1 * q.2 * p.2 := by grobner
  rw [e1, e2]
theorem Par.d_ne {σ d : F} (h : Par σ d) : 1 - d ≠ 0 := fun z => h.ns 1 (by grobner)
theorem rep_dbl {σ d : F} (hp : Par σ d) {p : F × F} (h : On d p) {s : L4} (r : Rep σ p.2 s.x2 s.z2) (x1 : F) : Rep σ (add d p p).2 (core x1 s).x2 (core x1 s).z2 := by
  obtain ⟨l, l0, ex, ez⟩ := r
  have id := dbl_id hp.ns h
  have nd := hp.d_ne
  have h1 := hp.one
  have h2 := hp.num
  show Rep σ (add d p p).2 ((s.x2 + s.z2) * (s.x2 + s.z2) * ((s.x2 - s.z2) * (s.x2 - s.z2))) (((s.x2 + s.z2) * (s.x2 + s.z2) - (s.x2 - s.z2) * (s.x2 - s.z2)) * ((s.x2 + s.z2) * (s.x2 + s.z2) + 121665 * ((s.x2 + s.z2) * (s.x2 + s.z2) - (s.x2 - s.z2) * (s.x2 - s.z2))))
  rw [ex, ez]
  generalize p.2 = y at *
  generalize (add d p p).2 = y2 at *
  clear ex ez h hp
  have fx : (l * (1 + y) + l * (σ * (1 - y))) * (l * (1 + y) + l * (σ * (1 - y))) * ((l * (1 + y) - l * (σ * (1 - y))) * (l * (1 + y) - l * (σ * (1 - y)))) = 16 * (l * l * (l * l)) * (y * y) := by
    have e : (l * (1 + y) + l * (σ * (1 - y))) * (l * (1 + y) - l * (σ * (1 - y))) = l * l * (4 * y) := by clear id h2 nd l0; grobner
    clear id h1 h2 nd l0
    generalize l * (1 + y) + l * (σ * (1 - y)) = a at *
    generalize l * (1 + y) - l * (σ * (1 - y)) = b at *
    grobner
  have ge : (l * (1 + y) + l * (σ * (1 - y))) * (l * (1 + y) + l * (σ * (1 - y))) - (l * (1 + y) - l * (σ * (1 - y))) * (l * (1 + y) - l * (σ * (1 - y))) = 4 * (l * l) * (σ * (1 - y * y)) := by clear id h1 h2 nd l0 fx; grobner
  have ga : (l * (1 + y) + l * (σ * (1 - y))) * (l * (1 + y) + l * (σ * (1 - y))) = l * l * (2 + 2 * (y * y) + 2 * (σ * (1 - y * y))) := by clear id h2 nd l0 fx ge; grobner
  rw [fx, ge, ga]
  have ca4 : (121665 : F) * 4 = ca - 2 := by decide +kernel
  have gz : (1 - d) * (4 * (l * l) * (σ * (1 - y * y)) * (l * l * (2 + 2 * (y * y) + 2 * (σ * (1 - y * y))) + 121665 * (4 * (l * l) * (σ * (1 - y * y))))) = 16 * (l * l * (l * l)) * (σ * ((1 - y * y) * (1 - d * y * y))) := by
    have e1 : l * l * (2 + 2 * (y * y) + 2 * (σ * (1 - y * y))) + 121665 * (4 * (l * l) * (σ * (1 - y * y))) = l * l * (2 + 2 * (y * y) + σ * ca * (1 - y * y)) := by
      clear id h1 h2 nd l0 fx ge ga
      generalize ca = A at *
      grobner
    have e2 : (1 - d) * (2 + 2 * (y * y) + σ * ca * (1 - y * y)) = 4 * (1 - d * y * y) := by
      clear id h1 nd l0 fx ge ga e1 ca4
      generalize ca = A at *
      grobner
    rw [e1]
    clear id h1 h2 nd l0 fx ge ga e1 ca4
    generalize 2 + 2 * (y * y) + σ * ca * (1 - y * y) = w at *
    grobner
  generalize 4 * (l * l) * (σ * (1 - y * y)) * (l * l * (2 + 2 * (y * y) + 2 * (σ * (1 - y * y))) + 121665 * (4 * (l * l) * (σ * (1 - y * y)))) = Z at *
  have n16 : 16 * (l * l * (l * l)) ≠ 0 := mul_ne (by decide) (mul_ne (mul_ne l0 l0) (mul_ne l0 l0))
  clear fx ge ga ca4 h2 l0
  generalize 16 * (l * l * (l * l)) = K at *
  refine rep_of h1 (cancel nd ?_) fun z1 z2 => ?_
  · have e : (1 - d) * (σ * (1 + y2) * Z) = σ * (1 + y2) * ((1 - d) * Z) := by clear id h1 gz nd n16; grobner
    rw [e, gz]
    clear e gz nd n16
    generalize (1 - y * y) * (1 - d * y * y) = w at *
    grobner
  · have y0 : y = 0 := (mul_zero z1).elim (fun h => absurd h n16) sq_zero
    have s0 : σ ≠ 0 := fun e => by
      rw [e] at h1
      have : (0 : F) * 0 ≠ 1 := by decide
      exact this h1
    refine mul_ne n16 s0 ?_
    rw [y0, z2] at gz
    clear id h1 nd n16 z1 z2 y0 s0
    grobner
theorem rep_add {σ d u : F} (hp : Par σ d) {p q : F × F} (h : On d p) (h' : On d q) {s : L4} (r : Rep σ p.2 s.x2 s.z2) (r' : Rep σ q.2 s.x3 s.z3)
    (hu : u ≠ 0) (hd : u * (σ * (1 - (add d p (neg q)).2)) = 1 + (add d p (neg q)).2) : Rep σ (add d p q).2 (core u s).x3 (core u s).z3 := by
  obtain ⟨l, l0, ex, ez⟩ := r
  obtain ⟨m, m0, fx, fz⟩ := r'
  have id := diff_id hp.ns h h'
  have ty := add_y hp.ns h (on_neg h')
  have h1 := hp.one
  show Rep σ (add d p q).2 (((s.x3 - s.z3) * (s.x2 + s.z2) + (s.x3 + s.z3) * (s.x2 - s.z2)) * ((s.x3 - s.z3) * (s.x2 + s.z2) + (s.x3 + s.z3) * (s.x2 - s.z2)))
    (u * (((s.x3 - s.z3) * (s.x2 + s.z2) - (s.x3 + s.z3) * (s.x2 - s.z2)) * ((s.x3 - s.z3) * (s.x2 + s.z2) - (s.x3 + s.z3) * (s.x2 - s.z2))))
  rw [ex, ez, fx, fz]
  generalize (add d p q).2 = ry at *
  generalize add d p (neg q) = t at *
  obtain ⟨tx, t⟩ := t
  obtain ⟨x1, y1⟩ := p
  obtain ⟨x2, y2⟩ := q
  unfold neg kk On at *
  simp only at *
  clear ex ez fx fz hp
  have one : (1 : F) ≠ 0 := by decide
  have ga : (m * (1 + y2) - m * (σ * (1 - y2))) * (l * (1 + y1) + l * (σ * (1 - y1))) + (m * (1 + y2) + m * (σ * (1 - y2))) * (l * (1 + y1) - l * (σ * (1 - y1))) = 4 * (l * m) * (y1 + y2) := by
    clear id ty h h' hu hd l0 m0 one
    grobner
  have gb : (m * (1 + y2) - m * (σ * (1 - y2))) * (l * (1 + y1) + l * (σ * (1 - y1))) - (m * (1 + y2) + m * (σ * (1 - y2))) * (l * (1 + y1) - l * (σ * (1 - y1))) = 4 * (l * m) * (σ * (y2 - y1)) := by
    clear id ty h h' hu hd l0 m0 one ga h1
    grobner
  rw [ga, gb]
  have n4 : 4 * (l * m) ≠ 0 := mul_ne (by decide) (mul_ne l0 m0)
  clear ga gb l0 m0
  generalize 4 * (l * m) = K at *
  have t1 : 1 - t ≠ 0 := fun z => by
    have e : (2 : F) = 0 := by
      rw [z] at hd
      clear id ty h h' hu h1 one n4
      grobner
    exact two_ne e
  refine rep_of h1 (cancel t1 ?_) fun z1 z2 => ?_
  · have e : (1 - t) * (σ * (1 + ry) * (u * (K * (σ * (y2 - y1)) * (K * (σ * (y2 - y1)))))) = K * K * (σ * σ) * ((1 + ry) * (u * (σ * (1 - t))) * ((y1 - y2) * (y1 - y2))) := by
      clear id ty h h' hu hd h1 one n4 t1
      grobner
    rw [e, hd, id, h1]
    clear id ty h h' hu hd h1 one n4 t1 e
    grobner
  · have a1 : y1 + y2 = 0 := (mul_zero (sq_zero z1)).elim (fun h => absurd h n4) (fun h => h)
    have a2 : σ * (y2 - y1) = 0 := (mul_zero ((mul_zero z2).elim (fun h => absurd h hu) sq_zero)).elim (fun h => absurd h n4) (fun h => h)
    have a3 : y2 - y1 = 0 := by clear id ty h h' hu hd one n4 t1 z1 z2 a1; grobner
    have a4 : (2 : F) * y1 = 0 := by clear id ty h h' hu hd one n4 t1 z1 z2 a2 h1; grobner
    have a5 : y1 = 0 := (mul_zero a4).elim (fun h => absurd h two_ne) (fun h => h)
    have a6 : y2 = 0 := by rw [a5] at a1; clear id ty h h' hu hd one n4 t1 z1 z2 a2 h1 a3 a4 a5; grobner
    rw [a5] at h ty
    rw [a6] at h' ty
    have b1 : x1 * x1 = 1 := by clear id ty h' hu hd one n4 t1 z1 z2 a1 a2 h1 a3 a4 a5 a6; grobner
    have b2 : x2 * x2 = 1 := by clear id ty h hu hd one n4 t1 z1 z2 a1 a2 h1 a3 a4 a5 a6 b1; grobner
    have b3 : t = x1 * x2 := by clear id h h' hu hd one n4 t1 z1 z2 a1 a2 h1 a3 a4 a5 a6 b1 b2; grobner
    have b4 : (1 - t) * (1 + t) = 0 := by clear id h h' hu hd one n4 t1 z1 z2 a1 a2 h1 a3 a4 a5 a6 ty; grobner
    have b5 : 1 + t = 0 := (mul_zero b4).elim (fun h => absurd h t1) (fun h => h)
    have s0 : σ ≠ 0 := fun e => by
      rw [e] at h1
      have : (0 : F) * 0 ≠ 1 := by decide
      exact this h1
    rw [b5] at hd
    exact mul_ne hu (mul_ne s0 t1) hd
end Crv
end Go.Proofs.YtbhlcnimjoppeaaDoor

/-
  Of no statement by itself: the ladder of X25519 gives the point so many times, so that two even numbers may be taken in either order; no program stands here.
  Conditions: none but each lemma's own.
-/
namespace Go.Proofs.YtbhlcnimjoppeaaDoor
namespace Crv
theorem add_diff {d : F} {p r : F × F} (ns : NS d) (hp : On d p) (hr : On d r) : add d (add d r p) (neg r) = p := by
  rw [add_comm d r p, assoc ns hp hr (on_neg hr), add_neg ns hr, add_comm, O_add]
theorem nP_dbl {d : F} {p : F × F} (ns : NS d) (h : On d p) (m : Nat) : add d (nP d p m) (nP d p m) = nP d p (2 * m) := by
  rw [← nP_add ns h, Nat.two_mul]
theorem nP_next {d : F} {p : F × F} (ns : NS d) (h : On d p) (m : Nat) : add d (nP d p m) (nP d p (m + 1)) = nP d p (2 * m + 1) := by
  rw [← nP_add ns h]
  congr 1
  omega
/-- the state stands for the point m times, and once more -/
def Inv (σ d : F) (p : F × F) (m : Nat) (s : L4) : Prop := Rep σ (nP d p m).2 s.x2 s.z2 ∧ Rep σ (nP d p (m + 1)).2 s.x3 s.z3
theorem Inv.step {σ d u : F} {p : F × F} (hp : Par σ d) (h : On d p) (hu : u ≠ 0) (hd : u * (σ * (1 - p.2)) = 1 + p.2) {m : Nat} {s : L4} (i : Inv σ d p m s) (b : Bool) :
    Inv σ d p (2 * m + b.toNat) (swap b (core u (swap b s))) := by
  obtain ⟨i1, i2⟩ := i
  have o1 := on_nP hp.ns h m
  have o2 := on_nP hp.ns h (m + 1)
  have df : add d (nP d p (m + 1)) (neg (nP d p m)) = p := add_diff hp.ns h o1
  have dg : (add d (nP d p m) (neg (nP d p (m + 1)))).2 = p.2 := by rw [neg_sym, df]
  cases b with
  | false =>
    have a1 := rep_dbl hp o1 i1 u
    have a2 := rep_add hp o1 o2 i1 i2 hu (by rw [dg]; exact hd)
    rw [nP_dbl hp.ns h] at a1
    rw [nP_next hp.ns h] at a2
    exact ⟨a1, a2⟩
  | true =>
    have a1 := rep_dbl hp o2 (s := ⟨s.x3, s.z3, s.x2, s.z2⟩) i2 u
    have a2 := rep_add hp o2 o1 (s := ⟨s.x3, s.z3, s.x2, s.z2⟩) i2 i1 hu (by rw [df]; exact hd)
    rw [nP_dbl hp.ns h] at a1
    rw [add_comm, nP_next hp.ns h] at a2
    exact ⟨a2, a1⟩
theorem bits_next (k n : Nat) : k % 2 ^ (n + 1) = (k.testBit n).toNat * 2 ^ n + k % 2 ^ n := by
  rw [Nat.pow_succ, Nat.mod_mul, Nat.testBit_eq_decide_div_mod_eq, Nat.add_comm, Nat.mul_comm]
  congr 2
  by_cases h : k / 2 ^ n % 2 = 1
  · rw [h]; rfl
  · have h0 : k / 2 ^ n % 2 = 0 := by omega
    rw [h0]; rfl
theorem Inv.all {σ d u : F} {p : F × F} (hp : Par σ d) (h : On d p) (hu : u ≠ 0) (hd : u * (σ * (1 - p.2)) = 1 + p.2) (k : Nat) :
    ∀ n m s, Inv σ d p m s → Inv σ d p (m * 2 ^ n + k % 2 ^ n) (lad u k n s)
  | 0, m, s, i => by
    have e : m * 2 ^ 0 + k % 2 ^ 0 = m := by rw [Nat.pow_zero, Nat.mod_one, Nat.mul_one]; rfl
    rw [e]; exact i
  | n + 1, m, s, i => by
    have r := Inv.all hp h hu hd k n _ _ (i.step hp h hu hd (k.testBit n))
    have e : m * 2 ^ (n + 1) + k % 2 ^ (n + 1) = (2 * m + (k.testBit n).toNat) * 2 ^ n + k % 2 ^ n := by
      rw [bits_next, Nat.add_mul, Nat.pow_succ, Nat.mul_comm (2 ^ n) 2, ← Nat.mul_assoc, Nat.mul_comm m 2, Nat.add_assoc]
    rw [e]; exact r
/-- the number of a point: 0 of the two that have none -/
def U (σ : F) (p : F × F) : F := (1 + p.2) * inv (σ * (1 - p.2))
theorem point {σ u s : F} (h1 : σ * σ = 1) (hs : σ * (σ * ca + 2) * (u * (u * u + ca * u + 1)) = s * s) : ∃ d p, Par σ d ∧ On d p ∧ U σ p = u := by
  have nr := no_root
  have hc : σ * ca + 2 ≠ 0 := fun z => nr 0 (by
    generalize ca = A at *
    clear nr hs
    grobner)
  have hv : σ * u + 1 ≠ 0 := fun z => nr s (by
    rw [← hs]
    generalize ca = A at *
    clear nr hs hc
    grobner)
  have hD : u * u + ca * u + 1 ≠ 0 := fun z => nr (2 * u + ca) (by
    generalize ca = A at *
    clear nr hs hc hv
    grobner)
  have ic := mul_inv hc
  have iv := mul_inv hv
  have iD := mul_inv hD
  have num : (σ * ca - 2) * inv (σ * ca + 2) * (σ * ca + 2) = σ * ca - 2 := by
    clear hs hv hD iv iD nr h1
    generalize inv (σ * ca + 2) = a at *
    generalize σ * ca + 2 = b at *
    generalize σ * ca - 2 = c at *
    grobner
  have ns : NS ((σ * ca - 2) * inv (σ * ca + 2)) := fun t e => nr (t * (σ * ca + 2)) (by
    rw [← e] at num
    clear hs hv hD iv iD nr e ic hc
    generalize ca = A at *
    grobner)
  have hx : s * inv (u * u + ca * u + 1) * (u * u + ca * u + 1) = s := by
    clear hs hv ns iv nr ic hc num h1
    generalize inv (u * u + ca * u + 1) = a at *
    generalize u * u + ca * u + 1 = b at *
    grobner
  have hy : (σ * u - 1) * inv (σ * u + 1) * (σ * u + 1) = σ * u - 1 := by
    clear hs hD ns iD nr ic hc num h1 hx
    generalize inv (σ * u + 1) = a at *
    generalize σ * u + 1 = b at *
    generalize σ * u - 1 = c at *
    grobner
  generalize s * inv (u * u + ca * u + 1) = x at *
  generalize (σ * u - 1) * inv (σ * u + 1) = y at *
  generalize (σ * ca - 2) * inv (σ * ca + 2) = d at *
  refine ⟨d, (x, y), ⟨h1, num, ns⟩, ?_, ?_⟩
  · show x * x + y * y = 1 + d * x * x * y * y
    have e1 : x * x * (u * u + ca * u + 1) = (σ * ca + 2) * (σ * u) := by
      refine cancel hD ?_
      clear nr hc hv hD ic iv iD num ns hy
      have e : (u * u + ca * u + 1) * (x * x * (u * u + ca * u + 1)) = s * s := by
        rw [← hx]
        clear hx hs h1
        generalize u * u + ca * u + 1 = D at *
        grobner
      rw [e, ← hs]
      clear e hx hs
      generalize u * u + ca * u + 1 = D at *
      generalize ca = A at *
      grobner
    refine cancel hD (cancel (mul_ne hv hv) ?_)
    have l : (σ * u + 1) * (σ * u + 1) * ((u * u + ca * u + 1) * (x * x + y * y)) = (σ * ca + 2) * (σ * u) * ((σ * u + 1) * (σ * u + 1)) + (u * u + ca * u + 1) * ((σ * u - 1) * (σ * u - 1)) := by
      rw [← e1, ← hy]
      clear e1 hy hx hs nr hc hv hD ic iv iD num ns h1
      generalize σ * u + 1 = E at *
      generalize u * u + ca * u + 1 = D at *
      grobner
    have r : (σ * u + 1) * (σ * u + 1) * ((u * u + ca * u + 1) * (1 + d * x * x * y * y)) = (u * u + ca * u + 1) * ((σ * u + 1) * (σ * u + 1)) + d * (σ * ca + 2) * (σ * u) * ((σ * u - 1) * (σ * u - 1)) := by
      have e2 : d * (σ * ca + 2) * (σ * u) = d * (x * x * (u * u + ca * u + 1)) := by
        rw [e1]
        clear l e1 hy hx hs nr hc hv hD ic iv iD num ns h1
        generalize σ * ca + 2 = C at *
        generalize σ * u = v at *
        grobner
      rw [e2, ← hy]
      clear l e1 e2 hy hx hs nr hc hv hD ic iv iD num ns h1
      generalize σ * u + 1 = E at *
      generalize u * u + ca * u + 1 = D at *
      grobner
    rw [l, r, num]
    clear l r e1 hy hx hs nr hc hv hD ic iv iD num ns
    generalize ca = A at *
    grobner
  · show (1 + y) * inv (σ * (1 - y)) = u
    have e1 : (σ * u + 1) * (1 + y) = 2 * (σ * u) := by
      clear hx hs nr hc hv hD ic iv iD num ns h1
      grobner
    have e2 : (σ * u + 1) * (1 - y) = 2 := by
      clear hx hs nr hc hv hD ic iv iD num ns h1 e1
      grobner
    have e3 : u * (σ * (1 - y)) = 1 + y := by
      refine cancel hv ?_
      rw [e1]
      clear hx hs nr hc hv hD ic iv iD num ns h1 e1 hy
      grobner
    have n : σ * (1 - y) ≠ 0 := fun z => by
      have e4 : (2 : F) = 0 := by
        clear hx hs nr hc hv hD ic iv iD num ns e1 hy e3
        grobner
      exact two_ne e4
    have i := mul_inv n
    rw [← e3]
    clear hx hs nr hc hv hD ic iv iD num ns e1 hy e3 e2 n h1
    generalize inv (σ * (1 - y)) = a at *
    generalize σ * (1 - y) = b at *
    grobner
end Crv
end Go.Proofs.YtbhlcnimjoppeaaDoor
