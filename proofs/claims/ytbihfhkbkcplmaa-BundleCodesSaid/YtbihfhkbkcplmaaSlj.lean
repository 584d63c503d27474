/-
  Of no statement by itself: rules for literals of slices whose elements have many cells.
  Conditions: each rule's own hypotheses.
-/
import Derived.Test.YtbihfhkbkcplmaaSlk
import Derived.Great.FillDense
namespace Go.Proofs.Ytbihfhkbkcplmaa
namespace Sl
section
variable {P : Program} {n : Nat} {w0 : World} {S : List Nat} {ops : Array Oper} {Q : Exit → Act → World → Prop} {l : List Oper} {E : Env} {M : List Ent}
variable {d : Nat} {t e ty : TypeId} {pos : String} {aft : Array Edge} {v z : Value} {x : Operand} {sz by' : Nat} {cs : List Value}
theorem buildA_run {w : World} (hu : P.underlying t = some (.slice e)) (hi : EI P e z sz by') (_hz : z.cells.size = sz) (h0 : 0 < sz) (hsm : sz ≤ 16777216) (hl : cs.length = sz) :
    (Instr.buildSlice t 1 #[(0, .agg cs.toArray)]).run P w = .ok (.slice (some ⟨w.heap.size, 0, none⟩) 1 1) { w with heap := w.heap.push (.cells cs.toArray e (0, 0)) } := by
  have h3 : (underlying t).run P w = .ok (.slice e) w := run_underlying hu w
  obtain ⟨i, h4, h5, _⟩ := hi.get
  obtain ⟨r, h6, h7, h8⟩ := Great.fill_dense h0 [.agg cs.toArray] 0 ((Array.range (1 * sz)).map (z.cells[· % z.cells.size]!)) (by simp [Value.cells, hl]) (by simp)
  have hr : r = cs.toArray := by
    apply Array.ext_getElem?
    intro k
    rw [h8 k]
    by_cases hk : k < sz
    · rw [if_pos (by simp; omega)]
      simp [Nat.div_eq_of_lt hk, Nat.mod_eq_of_lt hk, Value.cells]
    · rw [if_neg (by simp; omega), Array.getElem?_eq_none (by simp; omega), Array.getElem?_eq_none (by simp; omega)]
  subst hr
  have h9 : ¬ (16777216 < 1 * sz) := by omega
  have h10 : ¬ (1 * sz = 0) := by omega
  simp only [List.zipIdx_cons, List.zipIdx_nil, List.map_cons, List.map_nil] at h6
  have h11 : (zeroValue e).run P w = .ok z w := by simp [zeroValue, typeInfo, h4, h5]
  have h12 : ¬ (16777216 < sz) := by omega
  have h13 : ¬ (sz = 0) := by omega
  rw [Nat.one_mul] at h6
  simp [Instr.buildSlice, Sem.run_bind, h3, sizeOf_run hi.sz, h11, h12, h13, h6, newRow, newObj, Sem.run]
theorem JL.litA (hu : P.underlying t = some (.slice e)) (hi : EI P e z sz by') (hz : z.cells.size = sz) (h0 : 0 < sz) (hsm : sz ≤ 16777216) (hx : ev E x = some (.agg cs.toArray)) (hl : cs.length = sz) (hd : Nat.blt d n = true)
    (k : ∀ b, w0.heap.size ≤ b → JL P n w0 S ops Q l ((d, .slice (some ⟨b, 0, none⟩) 1 1) :: E) (⟨b, Row e cs, true⟩ :: M)) : JL P n w0 S ops Q (⟨some d, .buildSlice t 1 #[(0, x)], ty, pos, aft, none⟩ :: l) E M :=
  ⟨fun a w ha hw => wpList_plain rfl fun K hK => by
    unfold Oper.wp
    have hm : (#[(0, x)] : Array (Nat × Operand)).map (fun (i, x) => (i, a.eval x)) = #[(0, .agg cs.toArray)] := by simp [ha.eval hx]
    simp only [execOp, hm, Sem.run_bind, buildA_run hu hi hz h0 hsm hl, Result.andThen_ok]
    exact hK _ _ ((k w.heap.size hw.chg.size).go _ _ (ha.put d _ hd) (hw.push _ rfl rfl rfl rfl rfl))⟩
theorem buildZ_run {w : World} (hu : P.underlying t = some (.slice e)) (hi : EI P e z sz by') : (Instr.buildSlice t 0 #[]).run P w = .ok (.slice (some ⟨w.heap.size, 0, none⟩) 0 0) { w with heap := w.heap.push (.cells ([] : List Value).toArray e (0, 0)) } := by
  have h3 : (underlying t).run P w = .ok (.slice e) w := run_underlying hu w
  have hr : Array.range 0 = #[] := by decide
  simp [Instr.buildSlice, Sem.run_bind, h3, sizeOf_run hi.sz, Instr.fill, newRow, newObj, Sem.run, hr]
theorem JL.litZ (hu : P.underlying t = some (.slice e)) (hi : EI P e z sz by') (hd : Nat.blt d n = true)
    (k : ∀ b, w0.heap.size ≤ b → JL P n w0 S ops Q l ((d, .slice (some ⟨b, 0, none⟩) 0 0) :: E) (⟨b, Own e sz 0 0 [], true⟩ :: M)) : JL P n w0 S ops Q (⟨some d, .buildSlice t 0 #[], ty, pos, aft, none⟩ :: l) E M :=
  ⟨fun a w ha hw => wpList_plain rfl fun K hK => by
    unfold Oper.wp
    have hm : (#[] : Array (Nat × Operand)).map (fun (i, x) => (i, a.eval x)) = #[] := by simp
    simp only [execOp, hm, Sem.run_bind, buildZ_run hu hi, Result.andThen_ok]
    exact hK _ _ ((k w.heap.size hw.chg.size).go _ _ (ha.put d _ hd) (hw.push (.cells ([] : List Value).toArray e (0, 0)) ⟨[], rfl, by simp, by simp, Nat.le_refl _⟩ rfl rfl rfl rfl))⟩
end
end Sl
end Go.Proofs.Ytbihfhkbkcplmaa
