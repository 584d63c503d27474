/-
  Of no statement by itself: calls through an interface's value, told as calls of the method that its type has; for any program P.
  Conditions: each rule's own hypotheses.
-/
import Derived.Test.YtkadoibacliepaaSlwi
namespace Go.Proofs.Ytkadoibacliepaa
set_option maxRecDepth 10000
namespace Sl
section
variable {P : Program} {n : Nat} {w0 : World} {S : List Nat} {ops : Array Oper} {Q : Exit → Act → World → Prop} {l : List Oper} {E : Env} {M : List Ent} {C : World → Prop}
variable {dst : Option Tmp} {d : Nat} {t ty : TypeId} {pos name : String} {aft : Array Edge} {g : Option (Nat × Bool)} {r : Operand} {v u : Value} {f : FuncId} {xs : List Operand} {ats ats' : Array TypeId}
theorem less_preX (A M : List Ent) : Less A (A ++ M) := by
  induction A with
  | nil => exact .nil _
  | cons e A ih => exact .keep _ _ _ _ _ _ (fun _ h => h) ih
/-- type t's method of that name is f, which takes v as it is -/
def IsMeth (P : Program) (t : TypeId) (v : Value) (name : String) (f : FuncId) : Prop := pur P (Go.method (P.types.size + Made.depth) t v name) = some (f, v)
theorem exec_inv {a : Act} (hm : IsMeth P t v name f) (hk : Knows n E a) (hr : ev E r = some (.iface t v)) (w : World) :
    (execOp a.eval ⟨dst, .call ⟨.invoke r name, xs.toArray, ats⟩, ty, pos, aft, g⟩).run P w = (execOp a.eval ⟨dst, .call ⟨.value (.func f), (.const v :: xs).toArray, ats'⟩, ty, pos, aft, g⟩).run P w := by
  have h1 := hk.eval hr
  have h2 : (Go.method (P.types.size + Made.depth) t v name).run P w = .ok (f, v) w := pur_run hm
  have e2 : a.eval (.func f) = .func (.func f) #[] #[] := rfl
  have e3 : a.eval (.const v) = v := rfl
  have e4 : List.take xs.length (List.map a.eval xs) = List.map a.eval xs := List.take_of_length_le (by simp)
  simp only [execOp, resolve, Sem.run_bind, Sem.run_pure, Result.andThen_ok, e2, Deferred.ofValue, invoke]
  simp [h1, callMethod, program, Sem.run_bind, Sem.run, h2, e3, e4]
theorem OQ.inv (hm : IsMeth P t v name f) (hr : ev E r = some (.iface t v)) (h : OQ P n E C ⟨dst, .call ⟨.value (.func f), (.const v :: xs).toArray, ats⟩, ty, pos, aft, g⟩ u) : OQ P n E C ⟨dst, .call ⟨.invoke r name, xs.toArray, ats⟩, ty, pos, aft, g⟩ u := by
  refine ⟨fun a ha w hw => ?_⟩
  have h1 := h.go a ha w hw
  unfold Oper.quietAt at h1 ⊢
  rw [exec_inv hm ha hr]
  exact h1
theorem exec_callI {a : Act} {vs : List Value} (hm : IsMeth P t v name f) (hg : Goes P f) (hk : Knows n E a) (hr : ev E r = some (.iface t v)) (hx : evs E xs = some vs) (w : World) :
    (execOp a.eval ⟨dst, .call ⟨.invoke r name, xs.toArray, ats⟩, ty, pos, aft, g⟩).run P w = .ok (.enter f (v :: vs).toArray) w := by
  rw [exec_inv (ats' := ats) hm hk hr]
  exact exec_call hg hk (by simp [evs, hx, ev]) w
/-- a call of any kind that enters f and writes what came in, told of the world that it is called in -/
theorem JL.callE {ι : Type} {op : Op} {X M0 : List Ent} {vs : List Value} (vf : ι → Value) (Yf : ι → List Ent) (hex : ∀ a, Knows n E a → ∀ w, (execOp a.eval ⟨some d, op, ty, pos, aft, none⟩).run P w = .ok (.enter f vs.toArray) w) (hd : Nat.blt d n = true) (hX : ∀ e ∈ X, e.wr = true) (hY : ∀ i, ∀ e ∈ Yf i, e.wr = true)
    (hc : ∀ w, Holds w0 S (X ++ M0) w → Holds w (keys X) X w → Calls P f vs.toArray w fun e w' => ∃ i, e = .returned (vf i) ∧ Holds w (keys X) (Yf i) w')
    (k : ∀ i, JL P n w0 S ops Q l ((d, vf i) :: E) (Yf i ++ M0)) : JL P n w0 S ops Q (⟨some d, op, ty, pos, aft, none⟩ :: l) E (X ++ M0) :=
  ⟨fun a w ha hw => wpList_plain rfl fun K hK => by
    unfold Oper.wp
    rw [hex a ha w]
    exact (hc w hw (hw.own.weak (less_preX _ _))).mono fun e w' ⟨i, h1, h2⟩ => by subst h1; exact hK _ _ ((k i).go _ _ (ha.put d _ hd) (hw.swapW h2 hX (hY i)))⟩
end
end Sl
end Go.Proofs.Ytkadoibacliepaa
