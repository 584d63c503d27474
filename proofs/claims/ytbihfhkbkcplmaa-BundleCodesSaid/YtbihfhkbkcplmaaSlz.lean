/-
  Of no statement by itself: rules for calls that make a block or write one, over X's partial knowledge of frame and memory, for any program P.
  Conditions: each rule's own hypotheses.
-/
import Derived.Test.YtbihfhkbkcplmaaSly
namespace Go.Proofs.Ytbihfhkbkcplmaa
namespace Sl
section
variable {P : Program} {n : Nat} {w0 : World} {S : List Nat} {ops : Array Oper} {Q : Exit → Act → World → Prop} {l : List Oper} {E : Env} {M M' : List Ent}
variable {d b : Nat} {ty : TypeId} {pos : String} {aft : Array Edge} {v : Value} {A A' : Obj → Prop} {f : FuncId} {xs : List Operand} {ats : Array TypeId} {vs : List Value}
/-- a call that makes a block and hands it back -/
theorem JL.callf {ι : Type} (bf : ι → Nat) (vf : ι → Value) (Af : ι → Obj → Prop) (hg : Goes P f) (hx : evs E xs = some vs) (hd : Nat.blt d n = true)
    (hc : ∀ w, Holds w0 S M w → Calls P f vs.toArray w fun e w' => ∃ i, e = .returned (vf i) ∧ Ext w w' ∧ w.heap.size ≤ bf i ∧ ∃ o, w'.heap[bf i]? = some o ∧ Af i o)
    (k : ∀ i, w0.heap.size ≤ bf i → JL P n w0 S ops Q l ((d, vf i) :: E) (⟨bf i, Af i, true⟩ :: M)) : JL P n w0 S ops Q (⟨some d, .call ⟨.value (.func f), xs.toArray, ats⟩, ty, pos, aft, none⟩ :: l) E M :=
  JL.call (ι := { i : ι // w0.heap.size ≤ bf i }) (fun i => vf i.1) (fun i => ⟨bf i.1, Af i.1, true⟩ :: M) hg hx hd
    (fun w hw => (hc w hw).mono fun _ _ ⟨i, h1, h2, h3, _, h4, h5⟩ => ⟨⟨i, Nat.le_trans hw.chg.size h3⟩, h1, hw.fresh h2 h3 h4 h5⟩) (fun i => k i.1 i.2)
/-- a call that writes one block -/
theorem JL.callu (hu : Upd M b A A' M') (hg : Goes P f) (hx : evs E xs = some vs) (hd : Nat.blt d n = true)
    (hc : ∀ w, Holds w0 S M w → Calls P f vs.toArray w fun e w' => e = .returned v ∧ Chg [b] w w' ∧ ∃ o, w'.heap[b]? = some o ∧ A' o)
    (k : JL P n w0 S ops Q l ((d, v) :: E) M') : JL P n w0 S ops Q (⟨some d, .call ⟨.value (.func f), xs.toArray, ats⟩, ty, pos, aft, none⟩ :: l) E M :=
  JL.call (ι := Unit) (fun _ => v) (fun _ => M') hg hx hd (fun _ hw => (hc _ hw).mono fun _ _ ⟨h1, h2, _, h4, h5⟩ => ⟨(), h1, hw.turn hu h2 h4 h5⟩) (fun _ => k)

/-! ### literals of slices -/
variable {t e : TypeId} {x : Operand} {z : Value} {by' : Nat}
theorem range0 : Array.range 0 = #[] := by decide
theorem range1 : Array.range 1 = #[0] := by decide
theorem range3 : Array.range 3 = #[0, 1, 2] := by decide
theorem build0_run {w : World} (hu : P.underlying t = some (.slice e)) (hi : EI P e z 1 by') : (Instr.buildSlice t 0 #[]).run P w = .ok (.slice (some ⟨w.heap.size, 0, none⟩) 0 0) { w with heap := w.heap.push (.cells ([] : List Value).toArray e (0, 0)) } := by
  have h3 : (underlying t).run P w = .ok (.slice e) w := run_underlying hu w
  simp [Instr.buildSlice, Sem.run_bind, h3, sizeOf_run hi.sz, Instr.fill, newRow, newObj, Sem.run, range0]
theorem build1_run {w : World} (hu : P.underlying t = some (.slice e)) (hi : EI P e z 1 by') (_hz : z.cells.size = 1) (hv : v.cells = #[v]) : (Instr.buildSlice t 1 #[(0, v)]).run P w = .ok (.slice (some ⟨w.heap.size, 0, none⟩) 1 1) { w with heap := w.heap.push (.cells [v].toArray e (0, 0)) } := by
  have h3 : (underlying t).run P w = .ok (.slice e) w := run_underlying hu w
  obtain ⟨i, h4, h5, _⟩ := hi.get
  simp [Instr.buildSlice, Sem.run_bind, h3, sizeOf_run hi.sz, zeroValue, typeInfo, h4, h5, Instr.fill, hv, newRow, newObj, Sem.run, range1]
theorem build3_run {w : World} {v1 v2 v3 : Value} (hu : P.underlying t = some (.slice e)) (hi : EI P e z 1 by') (_hz : z.cells.size = 1) (hv1 : v1.cells = #[v1]) (hv2 : v2.cells = #[v2]) (hv3 : v3.cells = #[v3]) :
    (Instr.buildSlice t 3 #[(0, v1), (1, v2), (2, v3)]).run P w = .ok (.slice (some ⟨w.heap.size, 0, none⟩) 3 3) { w with heap := w.heap.push (.cells [v1, v2, v3].toArray e (0, 0)) } := by
  have h3 : (underlying t).run P w = .ok (.slice e) w := run_underlying hu w
  obtain ⟨i, h4, h5, _⟩ := hi.get
  simp [Instr.buildSlice, Sem.run_bind, h3, sizeOf_run hi.sz, zeroValue, typeInfo, h4, h5, Instr.fill, hv1, hv2, hv3, newRow, newObj, Sem.run, range3]
theorem JL.lit0 (hu : P.underlying t = some (.slice e)) (hi : EI P e z 1 by') (hd : Nat.blt d n = true)
    (k : ∀ b, w0.heap.size ≤ b → JL P n w0 S ops Q l ((d, .slice (some ⟨b, 0, none⟩) 0 0) :: E) (⟨b, Row e [], true⟩ :: M)) : JL P n w0 S ops Q (⟨some d, .buildSlice t 0 #[], ty, pos, aft, none⟩ :: l) E M :=
  ⟨fun a w ha hw => wpList_plain rfl fun K hK => by
    unfold Oper.wp
    have hm : (#[] : Array (Nat × Operand)).map (fun (i, x) => (i, a.eval x)) = #[] := by simp
    simp only [execOp, hm, Sem.run_bind, build0_run hu hi, Result.andThen_ok]
    exact hK _ _ ((k w.heap.size hw.chg.size).go _ _ (ha.put d _ hd) (hw.push _ rfl rfl rfl rfl rfl))⟩
theorem JL.lit1 (hu : P.underlying t = some (.slice e)) (hi : EI P e z 1 by') (hz : z.cells.size = 1) (hx : ev E x = some v) (hv : v.cells = #[v]) (hd : Nat.blt d n = true)
    (k : ∀ b, w0.heap.size ≤ b → JL P n w0 S ops Q l ((d, .slice (some ⟨b, 0, none⟩) 1 1) :: E) (⟨b, Row e [v], true⟩ :: M)) : JL P n w0 S ops Q (⟨some d, .buildSlice t 1 #[(0, x)], ty, pos, aft, none⟩ :: l) E M :=
  ⟨fun a w ha hw => wpList_plain rfl fun K hK => by
    unfold Oper.wp
    have hm : (#[(0, x)] : Array (Nat × Operand)).map (fun (i, x) => (i, a.eval x)) = #[(0, v)] := by simp [ha.eval hx]
    simp only [execOp, hm, Sem.run_bind, build1_run hu hi hz hv, Result.andThen_ok]
    exact hK _ _ ((k w.heap.size hw.chg.size).go _ _ (ha.put d _ hd) (hw.push _ rfl rfl rfl rfl rfl))⟩
theorem JL.lit3 {x1 x2 x3 : Operand} {v1 v2 v3 : Value} (hu : P.underlying t = some (.slice e)) (hi : EI P e z 1 by') (hz : z.cells.size = 1) (hx1 : ev E x1 = some v1) (hx2 : ev E x2 = some v2) (hx3 : ev E x3 = some v3) (hv1 : v1.cells = #[v1]) (hv2 : v2.cells = #[v2]) (hv3 : v3.cells = #[v3]) (hd : Nat.blt d n = true)
    (k : ∀ b, w0.heap.size ≤ b → JL P n w0 S ops Q l ((d, .slice (some ⟨b, 0, none⟩) 3 3) :: E) (⟨b, Row e [v1, v2, v3], true⟩ :: M)) : JL P n w0 S ops Q (⟨some d, .buildSlice t 3 #[(0, x1), (1, x2), (2, x3)], ty, pos, aft, none⟩ :: l) E M :=
  ⟨fun a w ha hw => wpList_plain rfl fun K hK => by
    unfold Oper.wp
    have hm : (#[(0, x1), (1, x2), (2, x3)] : Array (Nat × Operand)).map (fun (i, x) => (i, a.eval x)) = #[(0, v1), (1, v2), (2, v3)] := by simp [ha.eval hx1, ha.eval hx2, ha.eval hx3]
    simp only [execOp, hm, Sem.run_bind, build3_run hu hi hz hv1 hv2 hv3, Result.andThen_ok]
    exact hK _ _ ((k w.heap.size hw.chg.size).go _ _ (ha.put d _ hd) (hw.push _ rfl rfl rfl rfl rfl))⟩

theorem JL.weak {E' : Env} (h : JL P n w0 S ops Q l E' M') (hE : SubE E E') (hM : Less M' M) : JL P n w0 S ops Q l E M := ⟨fun a w ha hw => h.go a w (ha.sub hE) (hw.weak hM)⟩

/-! ### int with its sign -/
variable {C : World → Prop} {dst : Option Tmp} {g : Option (Nat × Bool)} {y : Operand} {t' : TypeId}
theorem OQ.geqI {a b : Int} (hx : ev E x = some (.int .i64 a)) (hy : ev E y = some (.int .i64 b)) : OQ P n E C ⟨dst, .binOp .geq t x y t', ty, pos, aft, g⟩ (.bool (decide (b ≤ a))) :=
  OQ.bin hx hy rfl fun _ => okBool rfl
theorem OQ.gtrI {a b : Int} (hx : ev E x = some (.int .i64 a)) (hy : ev E y = some (.int .i64 b)) : OQ P n E C ⟨dst, .binOp .gtr t x y t', ty, pos, aft, g⟩ (.bool (decide (b < a))) :=
  OQ.bin hx hy rfl fun _ => okBool rfl
theorem OQ.lssI {a b : Int} (hx : ev E x = some (.int .i64 a)) (hy : ev E y = some (.int .i64 b)) : OQ P n E C ⟨dst, .binOp .lss t x y t', ty, pos, aft, g⟩ (.bool (decide (a < b))) :=
  OQ.bin hx hy rfl fun _ => okBool rfl
theorem OQ.leqI {a b : Int} (hx : ev E x = some (.int .i64 a)) (hy : ev E y = some (.int .i64 b)) : OQ P n E C ⟨dst, .binOp .leq t x y t', ty, pos, aft, g⟩ (.bool (decide (a ≤ b))) :=
  OQ.bin hx hy rfl fun _ => okBool rfl
theorem OQ.subI {a b : Int} (hx : ev E x = some (.int .i64 a)) (hy : ev E y = some (.int .i64 b)) (h1 : -9223372036854775808 ≤ a - b) (h2 : a - b < 9223372036854775808) : OQ P n E C ⟨dst, .binOp .sub t x y t', ty, pos, aft, g⟩ (.int .i64 (a - b)) :=
  OQ.bin hx hy rfl fun _ => okInt (k := .i64) (show IntKind.i64.wrap (a - b) = a - b from wrapN h1 h2)
end
end Sl
end Go.Proofs.Ytbihfhkbkcplmaa
