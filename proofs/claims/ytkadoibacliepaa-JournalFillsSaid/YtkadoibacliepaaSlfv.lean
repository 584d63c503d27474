/-
  Of no statement by itself: rules for function values of one byte, and for labels that are jumped to, over partial knowledge of frame and memory, for any program P.
  Conditions: each rule's own hypotheses.
-/
import Derived.Test.YtkadoibacliepaaSlp
import Derived.Test.YtkadoibacliepaaSlsu
import Derived.ScopeJumps
namespace Go.Proofs.Ytkadoibacliepaa
set_option maxRecDepth 10000
namespace Sl
/-- a function value of a byte: it answers p, and keeps all blocks -/
def Fun8 (P : Program) (w0 : World) (fv : Value) (p : Bt → Bool) : Prop :=
  ∃ (f : FuncId) (caps : List Value), fv = .func (.func f) #[] caps.toArray ∧ Goes P f ∧ ∀ (c : Bt) (w : World), Ext w0 w → Calls P f (U8 c :: caps).toArray w fun e w' => e = .returned (.bool (p c)) ∧ Ext w w'
theorem Fun8.ext {P : Program} {w0 w1 : World} {fv : Value} {p : Bt → Bool} (h : Fun8 P w0 fv p) (hx : Ext w0 w1) : Fun8 P w1 fv p := by
  obtain ⟨f, caps, h1, h2, h3⟩ := h
  exact ⟨f, caps, h1, h2, fun c w hw => h3 c w (hx.trans hw)⟩
theorem Fun8.holds {P : Program} {w0 w1 : World} {M : List Ent} {fv : Value} {p : Bt → Bool} (h : Fun8 P w0 fv p) (hw : Holds w0 [] M w1) : Fun8 P w1 fv p := h.ext hw.chg
section
variable {P : Program} {n : Nat} {w0 : World} {S : List Nat} {Q Q' : Exit → Act → World → Prop} {E E' : Env} {M M' : List Ent}
variable {dst : Option Tmp} {ty : TypeId} {pos : String} {aft : Array Edge} {g : Option (Nat × Bool)} {x y : Operand} {ats : Array TypeId}
theorem exec_callv {f : FuncId} {caps : List Value} {xs : List Operand} {vs : List Value} {a : Act} (hg : Goes P f) (hk : Knows n E a) (hf : ev E x = some (.func (.func f) #[] caps.toArray)) (hx : evs E xs = some vs) (w : World) :
    (execOp a.eval ⟨dst, .call ⟨.value x, xs.toArray, ats⟩, ty, pos, aft, g⟩).run P w = .ok (.enter f (vs ++ caps).toArray) w := by
  obtain ⟨fn, h1, h2, h3⟩ := hg
  have hm : xs.toArray.map a.eval = vs.toArray := by simp [evs_map hk hx]
  have h2' : ¬ fn.body = none := fun h => by rw [h] at h2; cases h2
  have h3' : ¬ fn.name = "runtime.NumGoroutine" := by simpa using h3
  have hf' := hk.eval hf
  simp [execOp, resolve, Sem.run_bind, hm, hf', Deferred.ofValue, invoke, callFunc, program, Sem.run, h1, h2', h3']
/-- a call of such a function value -/
theorem OQ.callF {fv : Value} {p : Bt → Bool} {c : Bt} {b : Bool} (hF : Fun8 P w0 fv p) (hx : ev E x = some fv) (hy : ev E y = some (U8 c)) (h : p c = b) : OQ P n E (Holds w0 [] M) ⟨dst, .call ⟨.value x, #[y], ats⟩, ty, pos, aft, g⟩ (.bool b) := by
  obtain ⟨f, caps, h1, h2, h3⟩ := hF
  subst h1
  refine ⟨fun a hk w hw => ?_⟩
  have hy' : evs E [y] = some [U8 c] := by simp [evs, hy]
  unfold Oper.quietAt
  rw [show (#[y] : Array Operand) = [y].toArray from rfl, exec_callv (xs := [y]) h2 hk hx hy' w]
  refine ⟨rfl, (h3 c w hw.chg).mono fun e w' ⟨k1, k2⟩ => ⟨?_, hw.ext k2⟩⟩
  rw [k1, h]
theorem OQ.mkF {f : FuncId} {xs : Array Operand} {caps : List Value} (hx : evs E xs.toList = some caps) : OQ P n E (Holds w0 S M) ⟨dst, .makeFunc (.func f) #[] xs, ty, pos, aft, g⟩ (.func (.func f) #[] caps.toArray) := by
  refine OQ.run fun a hk w _ => ?_
  have hm : xs.map a.eval = caps.toArray := by
    have h1 := evs_map hk hx
    rw [← h1]
    apply Array.ext'
    simp
  simp [execOp, Instr.makeFunc, Sem.run_bind, hm]
theorem JC.mono {c : Code} (h : JC P n w0 S Q c E M) (hq : ∀ e a w, Q e a w → Q' e a w) : JC P n w0 S Q' c E M :=
  ⟨fun a w ha hw b k cs => let ⟨e, a', w', h1, h2⟩ := h.go a w ha hw b k cs; ⟨e, a', w', hq e a' w' h1, h2⟩⟩
theorem OQ.neSB {C : World → Prop} {t t' : TypeId} {l r : List Bt} {c : Bool} (hx : ev E x = some (Z l)) (hy : ev E y = some (Z r)) (h : decide (l = r) = c) : OQ P n E C ⟨dst, .binOp .neq t x y t', ty, pos, aft, g⟩ (.bool (!c)) := h ▸ OQ.neS hx hy
theorem OQ.eqSB {C : World → Prop} {t t' : TypeId} {l r : List Bt} {c : Bool} (hx : ev E x = some (Z l)) (hy : ev E y = some (Z r)) (h : decide (l = r) = c) : OQ P n E C ⟨dst, .binOp .eql t x y t', ty, pos, aft, g⟩ (.bool c) := h ▸ OQ.eqS hx hy
/-! ### a label that is jumped to -/
abbrev Jmp (n : Nat) (w0 : World) (S : List Nat) {ι : Type} (Ei : ι → Env) (Mi : ι → List Ent) (p : ι → Prop) : Act → World → Prop := fun a w => ∃ j, p j ∧ Knows n (Ei j) a ∧ Holds w0 S (Mi j) w
theorem JC.scope {ι : Type} (l : Nat) (Ei : ι → Env) (Mi : ι → List Ent) (μ : ι → Nat) (I : ι → Prop) {c rest : Code} (hf : findLabel c l = some rest)
    (first : JC P n w0 S (Exit.jump l (Jmp n w0 S Ei Mi I) Q) c E M)
    (pass : ∀ i, I i → JC P n w0 S (Exit.jump l (Jmp n w0 S Ei Mi fun j => I j ∧ μ j < μ i) Q) rest (Ei i) (Mi i)) : JC P n w0 S Q (.scope c) E M := by
  refine ⟨fun a0 w0' ha0 hw0 b k cs => ?_⟩
  have hg : gotoIn l (.inScope c :: k) = some (.code rest :: .inScope c :: k) := by simp [gotoIn, hf]
  have key : ∀ m i, μ i = m → I i → ∀ a w, Knows n (Ei i) a → Holds w0 S (Mi i) w → ∃ e a' w', Q e a' w' ∧ Arrives P (lone (b.at a (.code rest :: .inScope c :: k)) cs w) b k cs e a' w' := by
    intro m
    induction m using Nat.strongRecOn with
    | _ m ih =>
      intro i hm hI a w ha hw
      obtain ⟨e, a₁, w₁, hq, harr⟩ := (pass i hI).go a w ha hw b (.inScope c :: k) cs
      cases e with
      | normal => exact ⟨.normal, a₁, w₁, hq, Steps.trans harr (.one step_inScope)⟩
      | exit id => exact ⟨.exit id, a₁, w₁, hq, fun k' hk => harr k' (by simp [exitTo, hk])⟩
      | goto l' =>
        obtain ⟨rfl, j, ⟨hJ, hlt⟩, ha₁, hw₁⟩ := hq
        obtain ⟨e₂, a₂, w₂, hq₂, harr₂⟩ := ih (μ j) (by omega) j rfl hJ a₁ w₁ ha₁ hw₁
        exact ⟨e₂, a₂, w₂, hq₂, .of_steps (harr _ hg) harr₂⟩
      | ret => exact ⟨_, a₁, w₁, hq, harr⟩
      | panic ch => exact ⟨_, a₁, w₁, hq, harr⟩
      | outgrown => exact ⟨_, a₁, w₁, hq, harr⟩
  obtain ⟨e, a₁, w₁, hq, harr⟩ := first.go a0 w0' ha0 hw0 b (.inScope c :: k) cs
  cases e with
  | normal => exact ⟨.normal, a₁, w₁, hq, .head step_scope (Steps.trans harr (.one step_inScope))⟩
  | exit id => exact ⟨.exit id, a₁, w₁, hq, fun k' hk => .head step_scope (harr k' (by simp [exitTo, hk]))⟩
  | goto l' =>
    obtain ⟨rfl, j, hJ, ha₁, hw₁⟩ := hq
    obtain ⟨e₂, a₂, w₂, hq₂, harr₂⟩ := key _ j rfl hJ a₁ w₁ ha₁ hw₁
    exact ⟨e₂, a₂, w₂, hq₂, .of_steps (.head step_scope (harr _ hg)) harr₂⟩
  | ret => exact ⟨_, a₁, w₁, hq, .of_steps (.one step_scope) harr⟩
  | panic ch => exact ⟨_, a₁, w₁, hq, .of_steps (.one step_scope) harr⟩
  | outgrown => exact ⟨_, a₁, w₁, hq, .of_steps (.one step_scope) harr⟩
/-- what the passes give serves the way to the label too -/
theorem JC.land {ι : Type} {l : Nat} {Ei : ι → Env} {Mi : ι → List Ent} {I : ι → Prop} {rest : Code} {p : ι → Prop} (h : JC P n w0 S (Exit.jump l (Jmp n w0 S Ei Mi p) Q) rest E' M') (hp : ∀ j, p j → I j) (hE : SubE E E') (hM : Less M' M) :
    JC P n w0 S (Exit.jump l (Jmp n w0 S Ei Mi I) Q) rest E M :=
  (h.mono fun e a w hq => by
    cases e with
    | goto l' => exact ⟨hq.1, let ⟨j, h1, h2⟩ := hq.2; ⟨j, hp j h1, h2⟩⟩
    | _ => exact hq).weak hE hM
theorem JC.goto {l : Nat} (h : JE n w0 S Q (.goto l) E M) : JC P n w0 S Q (.goto l) E M := ⟨fun a w ha hw => wp_goto (h.go a w ha hw)⟩
theorem JE.jump_to {ι : Type} {l : Nat} {Ei : ι → Env} {Mi : ι → List Ent} {p : ι → Prop} (j : ι) (hp : p j) (hE : SubE E (Ei j)) (hM : Less (Mi j) M) : JE n w0 S (Exit.jump l (Jmp n w0 S Ei Mi p) Q) (.goto l) E M :=
  ⟨fun _ _ ha hw => ⟨rfl, j, hp, ha.sub hE, hw.weak hM⟩⟩
theorem JE.jump_ret {l : Nat} {J : Act → World → Prop} (h : JE n w0 S Q .ret E M) : JE n w0 S (Exit.jump l J Q) .ret E M := ⟨h.go⟩
theorem JE.jump_normal {l : Nat} {J : Act → World → Prop} (h : JE n w0 S Q .normal E M) : JE n w0 S (Exit.jump l J Q) .normal E M := ⟨h.go⟩
theorem JE.then_goto {K : Act → World → Prop} {l : Nat} (h : JE n w0 S Q (.goto l) E M) : JE n w0 S (Exit.then K Q) (.goto l) E M := ⟨h.go⟩
theorem JE.blk_goto {id l : Nat} (h : JE n w0 S Q (.goto l) E M) : JE n w0 S (Exit.inBlock id Q) (.goto l) E M := ⟨h.go⟩
end
end Sl
end Go.Proofs.Ytkadoibacliepaa
