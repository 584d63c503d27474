/-
  Of no statement by itself: rules for calls, loads, stores, new blocks, a function's entry and its return, over X's partial knowledge of frame and memory, for any program P.
  Conditions: each rule's own hypotheses.
-/
import Derived.Test.YtbihfhkbkcplmaaSlb
import Derived.Laws.Cells
import Derived.Laws.CopyRow
import Derived.Laws.Rows
namespace Go.Proofs.Ytbihfhkbkcplmaa
namespace Sl

/-! ### what is known of a block -/
def cellAt : Obj → Nat → Option Value
  | .cells c _ _, j => c[j]?
  | _, _ => none
/-- exactly these cells, none of them frozen -/
def Row (e : TypeId) (l : List Value) : Obj → Prop := fun o => o = .cells l.toArray e (0, 0)
/-- these cells first, whatever lies behind them; none frozen -/
def Buf (e : TypeId) (l : List Value) : Obj → Prop := fun o => ∃ sp : List Value, o = .cells (l ++ sp).toArray e (0, 0)
/-- cells from j on -/
def hasCells (o : Obj) (j : Nat) (cs : List Value) : Prop := ∃ c e fr, o = .cells c e fr ∧ ∀ i, i < cs.length → c[j + i]? = cs[i]?

theorem Row.cell {e : TypeId} {l : List Value} {j : Nat} {v : Value} (h : l[j]? = some v) : ∀ o, Row e l o → cellAt o j = some v := by
  rintro o rfl
  simpa [cellAt] using h
theorem Buf.cell {e : TypeId} {l : List Value} {j : Nat} {v : Value} (h : l[j]? = some v) : ∀ o, Buf e l o → cellAt o j = some v := by
  rintro o ⟨sp, rfl⟩
  have hj : j < l.length := (List.getElem?_eq_some_iff.1 h).1
  simpa [cellAt, List.getElem?_append_left hj] using h
theorem Row.cells {e : TypeId} {l cs : List Value} {j : Nat} (h : (l.drop j).take cs.length = cs) : ∀ o, Row e l o → hasCells o j cs := by
  rintro o rfl
  refine ⟨_, _, _, rfl, fun i hi => ?_⟩
  rw [← h]
  simp [hi]
theorem Row.all {e : TypeId} {l : List Value} : ∀ o, Row e l o → hasCells o 0 l := Row.cells (by simp)

/-! ### types -/
def aggT (P : Program) (t : TypeId) : Bool :=
  match P.underlying t with
  | some (.struct _) | some (.array _ _) => true
  | _ => false
def scal (P : Program) (t : TypeId) : Bool :=
  match P.underlying t with
  | some (.struct _) | some (.array _ _) | none => false
  | _ => true
def szT (P : Program) (t : TypeId) : Option Nat := (P.info? t).map (·.size)

section
variable {P : Program} {t : TypeId} {w w' : World} {b j : Nat} {v : Value} {cs : List Value}

theorem isAgg_scal (h : scal P t = true) (w : World) : (isAgg t).run P w = .ok false w := by
  unfold scal at h
  cases hu : P.underlying t with
  | none => simp [hu] at h
  | some d =>
    unfold isAgg
    rw [Sem.run_bind, run_underlying hu w]
    cases d <;> simp_all
theorem isAgg_agg (h : aggT P t = true) (w : World) : (isAgg t).run P w = .ok true w := by
  unfold aggT at h
  cases hu : P.underlying t with
  | none => simp [hu] at h
  | some d =>
    unfold isAgg
    rw [Sem.run_bind, run_underlying hu w]
    cases d <;> simp_all
theorem sizeOf_run {k : Nat} (h : szT P t = some k) (w : World) : (sizeOf t).run P w = .ok k w := by
  unfold szT at h
  cases hq : P.info? t with
  | none => simp [hq] at h
  | some i =>
    have hs : i.size = k := by simpa [hq] using h
    simp [sizeOf, typeInfo, hq, hs]

theorem add_off (b j i : Nat) : (⟨b, j, none⟩ : Addr).add i = ⟨b, j + i, none⟩ := by
  unfold Addr.add
  split <;> simp_all

theorem loadVar_scal (hs : scal P t = true) (hc : w.cell? ⟨b, j, none⟩ = some v) : (loadVar t ⟨b, j, none⟩).run P w = .ok v w := by
  simp [loadVar, Sem.run_bind, isAgg_scal hs, load, Sem.run, hc]
theorem loadVar_agg (ha : aggT P t = true) (hz : szT P t = some cs.length) (hc : ∀ i u, cs[i]? = some u → w.cell? ⟨b, j + i, none⟩ = some u) : (loadVar t ⟨b, j, none⟩).run P w = .ok (.agg cs.toArray) w := by
  have hl : (loadCells ⟨b, j, none⟩ cs.length).run P w = .ok cs.toArray w := run_loadCells_list (P := P) w ⟨b, j, none⟩ cs (fun i u hu => by rw [add_off]; exact hc i u hu)
  simp [loadVar, Sem.run_bind, isAgg_agg ha, sizeOf_run hz, hl]

theorem cell_of {o : Obj} (ho : w.heap[b]? = some o) (h : cellAt o j = some v) : w.cell? ⟨b, j, none⟩ = some v := by
  unfold World.cell?
  simp only [ho]
  cases o <;> simp_all [cellAt]
theorem cells_of {o : Obj} (ho : w.heap[b]? = some o) (h : hasCells o j cs) : ∀ i u, cs[i]? = some u → w.cell? ⟨b, j + i, none⟩ = some u := by
  intro i u hu
  obtain ⟨c, e, fr, rfl, hc⟩ := h
  have hi : i < cs.length := (List.getElem?_eq_some_iff.1 hu).1
  exact cell_of ho (by simp [cellAt, hc i hi, hu])
end

section
variable {P : Program} {n : Nat} {w0 : World} {S : List Nat} {ops : Array Oper} {Q : Exit → Act → World → Prop} {l : List Oper} {E : Env} {M M' : List Ent} {C : World → Prop}
variable {dst : Option Tmp} {d b j : Nat} {op : Op} {t ty : TypeId} {pos : String} {aft : Array Edge} {g : Option (Nat × Bool)} {v : Value} {x y : Operand} {A A' : Obj → Prop} {wr : Bool} {cs : List Value}

/-! ### loads -/
theorem OQ.load_at (ha : ∀ w, C w → (loadVar t ⟨b, j, none⟩).run P w = .ok v w) (hx : ev E x = some (.pointer (some ⟨b, j, none⟩))) : OQ P n E C ⟨dst, .load t x, ty, pos, aft, g⟩ v :=
  OQ.run fun a hk w hw => by
    have := hk.eval hx
    simp [execOp, this, Instr.loadAt, Instr.sureAddr, ha w hw]
theorem OQ.load (hs : scal P t = true) (hx : ev E x = some (.pointer (some ⟨b, j, none⟩))) (hM : Has M b A wr) (hA : ∀ o, A o → cellAt o j = some v) : OQ P n E (Holds w0 S M) ⟨dst, .load t x, ty, pos, aft, g⟩ v :=
  OQ.load_at (fun _ hw => let ⟨_, ho, hAo⟩ := hw.get hM; loadVar_scal hs (cell_of ho (hA _ hAo))) hx
theorem OQ.load_old (hs : scal P t = true) (hx : ev E x = some (.pointer (some ⟨b, j, none⟩))) (hb : b < w0.heap.size) (hS : b ∉ S) (hc : w0.cell? ⟨b, j, none⟩ = some v) : OQ P n E (Holds w0 S M) ⟨dst, .load t x, ty, pos, aft, g⟩ v :=
  OQ.load_at (fun w hw => loadVar_scal hs (by simpa [World.cell?, hw.old hb hS] using hc)) hx
theorem OQ.load_agg {k : Nat} (ha : aggT P t = true) (hz' : szT P t = some k) (hx : ev E x = some (.pointer (some ⟨b, j, none⟩))) (hM : Has M b A wr) (hl : cs.length = k) (hA : ∀ o, A o → hasCells o j cs) : OQ P n E (Holds w0 S M) ⟨dst, .load t x, ty, pos, aft, g⟩ (.agg cs.toArray) :=
  OQ.load_at (fun _ hw => let ⟨_, ho, hAo⟩ := hw.get hM; loadVar_agg ha (hl ▸ hz') (cells_of ho (hA _ hAo))) hx
theorem OQ.load_agg_old (ha : aggT P t = true) (hx : ev E x = some (.pointer (some ⟨b, j, none⟩))) (hz : szT P t = some cs.length) (hb : b < w0.heap.size) (hS : b ∉ S) (hc : ∀ i u, cs[i]? = some u → w0.cell? ⟨b, j + i, none⟩ = some u) : OQ P n E (Holds w0 S M) ⟨dst, .load t x, ty, pos, aft, g⟩ (.agg cs.toArray) :=
  OQ.load_at (fun w hw => loadVar_agg ha hz (fun i u hu => by simpa [World.cell?, hw.old hb hS] using hc i u hu)) hx

/-! ### calls of functions with a body -/
def Goes (P : Program) (f : FuncId) : Prop := ∃ fn, P.funcs[f]? = some fn ∧ fn.body.isNone = false ∧ (fn.name == "runtime.NumGoroutine") = false
def evs (E : Env) : List Operand → Option (List Value)
  | [] => some []
  | x :: xs => match ev E x, evs E xs with
    | some v, some vs => some (v :: vs)
    | _, _ => none
theorem evs_map {a : Act} (hk : Knows n E a) : ∀ {xs : List Operand} {vs : List Value}, evs E xs = some vs → xs.map a.eval = vs
  | [], vs, h => by simpa [evs] using h
  | x :: xs, vs, h => by
    simp only [evs] at h
    cases h1 : ev E x with
    | none => simp [h1] at h
    | some v =>
      cases h2 : evs E xs with
      | none => simp [h1, h2] at h
      | some us =>
        simp only [h1, h2, Option.some.injEq] at h
        subst h
        simp [hk.eval h1, evs_map hk h2]
theorem exec_call {f : FuncId} {xs : List Operand} {ats : Array TypeId} {vs : List Value} {a : Act} (hg : Goes P f) (hk : Knows n E a) (hx : evs E xs = some vs) (w : World) :
    (execOp a.eval ⟨dst, .call ⟨.value (.func f), xs.toArray, ats⟩, ty, pos, aft, g⟩).run P w = .ok (.enter f vs.toArray) w := by
  obtain ⟨fn, h1, h2, h3⟩ := hg
  have hm : xs.toArray.map a.eval = vs.toArray := by simp [evs_map hk hx]
  have h2' : ¬ fn.body = none := fun h => by rw [h] at h2; cases h2
  have h3' : ¬ fn.name = "runtime.NumGoroutine" := by simpa using h3
  simp [execOp, resolve, Sem.run_bind, hm, Act.eval, Deferred.ofValue, invoke, callFunc, program, Sem.run, h1, h2', h3']
theorem OQ.call {f : FuncId} {xs : List Operand} {ats : Array TypeId} {vs : List Value} (hg : Goes P f) (hx : evs E xs = some vs) (hc : ∀ w, C w → Calls P f vs.toArray w fun e w' => e = .returned v ∧ C w') : OQ P n E C ⟨dst, .call ⟨.value (.func f), xs.toArray, ats⟩, ty, pos, aft, g⟩ v := by
  refine ⟨fun a hk w hw => ?_⟩
  unfold Oper.quietAt
  rw [exec_call hg hk hx w]
  exact ⟨rfl, hc w hw⟩
/-- .. of a function that keeps all blocks that are there. -/
theorem OQ.callx {f : FuncId} {xs : List Operand} {ats : Array TypeId} {vs : List Value} (hg : Goes P f) (hx : evs E xs = some vs) (hc : ∀ w, Holds w0 S M w → Calls P f vs.toArray w fun e w' => e = .returned v ∧ Ext w w') :
    OQ P n E (Holds w0 S M) ⟨dst, .call ⟨.value (.func f), xs.toArray, ats⟩, ty, pos, aft, g⟩ v :=
  OQ.call hg hx fun w hw => (hc w hw).mono fun _ _ ⟨h1, h2⟩ => ⟨h1, hw.ext h2⟩

theorem JL.call {ι : Type} (vf : ι → Value) (Mf : ι → List Ent) {f : FuncId} {xs : List Operand} {ats : Array TypeId} {vs : List Value} (hg : Goes P f) (hx : evs E xs = some vs) (hd : Nat.blt d n = true)
    (hc : ∀ w, Holds w0 S M w → Calls P f vs.toArray w fun e w' => ∃ i, e = .returned (vf i) ∧ Holds w0 S (Mf i) w')
    (k : ∀ i, JL P n w0 S ops Q l ((d, vf i) :: E) (Mf i)) : JL P n w0 S ops Q (⟨some d, .call ⟨.value (.func f), xs.toArray, ats⟩, ty, pos, aft, none⟩ :: l) E M :=
  ⟨fun a w ha hw => wpList_plain rfl fun K hK => by
    unfold Oper.wp
    rw [exec_call hg ha hx w]
    exact (hc w hw).mono fun e w' ⟨i, h1, h2⟩ => by subst h1; exact hK _ _ ((k i).go _ _ (ha.put d _ hd) h2)⟩

/-! ### new blocks -/
def pnew {α : Type} (P : Program) : Sem α → Option (Obj × (Nat → Sem α))
  | .new o k => some (o, k)
  | .program k => pnew P (k P)
  | .mark _ k => pnew P k
  | _ => none
theorem pnew_run {α : Type} {vf : Nat → α} {ob : Obj} {kk : Nat → Sem α} : ∀ {s : Sem α} {w : World}, pnew P s = some (ob, kk) → (∀ r, pur P (kk r) = some (vf r)) → s.run P w = .ok (vf w.heap.size) { w with heap := w.heap.push ob }
  | .new o k, w, h, h2 => by
    simp only [pnew, Option.some.injEq, Prod.mk.injEq] at h
    obtain ⟨rfl, rfl⟩ := h
    exact pur_run (h2 _)
  | .program k, w, h, h2 => by simp only [pnew] at h; exact pnew_run (s := k P) h h2
  | .mark _ k, w, h, h2 => by simp only [pnew] at h; exact pnew_run (s := k) h h2
  | .load .., _, h, _ | .store .., _, h, _ | .pure .., _, h, _ | .shape .., _, h, _ | .freeze .., _, h, _ | .frozen .., _, h, _ | .getObj .., _, h, _ | .setObj .., _, h, _ | .choose .., _, h, _ | .sys .., _, h, _ | .halt .., _, h, _ => by simp [pnew] at h
theorem exec_evd {o : Oper} {a : Act} (hs : noSel o.op = true) (hk : known E o.op = true) (ha : Knows n E a) : execOp a.eval o = execOp (evd E) o := by
  refine execOp_congr _ (fun cs b hh => ?_) fun x hx => ?_
  · rw [hh] at hs; simp [noSel] at hs
  · simp only [known, List.all_eq_true] at hk
    obtain ⟨u, hu⟩ := Option.isSome_iff_exists.1 (hk x (by simpa using hx))
    rw [ha.eval hu, evd, hu]; rfl
theorem JL.new (A : Obj → Prop) (vf : Nat → Value) {ob : Obj} {kk : Nat → Sem Next} (hs : noSel op = true) (hk : known E op = true) (h1 : pnew P (execOp (evd E) ⟨some d, op, ty, pos, aft, none⟩) = some (ob, kk))
    (h2 : ∀ r, pur P (kk r) = some (.value (vf r))) (hA : A ob) (hd : Nat.blt d n = true)
    (k : ∀ b, w0.heap.size ≤ b → JL P n w0 S ops Q l ((d, vf b) :: E) (⟨b, A, true⟩ :: M)) : JL P n w0 S ops Q (⟨some d, op, ty, pos, aft, none⟩ :: l) E M :=
  ⟨fun a w ha hw => wpList_plain rfl fun K hK => by
    unfold Oper.wp
    rw [exec_evd hs hk ha, pnew_run (vf := fun r => Next.value (vf r)) h1 h2]
    exact hK _ _ ((k w.heap.size hw.chg.size).go _ _ (ha.put d _ hd) (hw.push ob hA rfl rfl rfl rfl))⟩

@[reducible] def Pt (b j : Nat) : Value := .pointer (some ⟨b, j, none⟩)
def zc (P : Program) (t : TypeId) : Option (List Value) := ((P.info? t).bind (·.zero)).map (·.cells.toList)
theorem JL.alloc {r : List Value} (hz : zc P t = some r) (hd : Nat.blt d n = true)
    (k : ∀ b, w0.heap.size ≤ b → JL P n w0 S ops Q l ((d, Pt b 0) :: E) (⟨b, Row t r, true⟩ :: M)) : JL P n w0 S ops Q (⟨some d, .alloc t, ty, pos, aft, none⟩ :: l) E M :=
  ⟨fun a w ha hw => wpList_plain rfl fun K hK => by
    have hr : (Instr.alloc t true (.tuple #[])).run P w = .ok (Pt w.heap.size 0) { w with heap := w.heap.push (.cells r.toArray t (0, 0)) } := by
      unfold zc at hz
      cases hq : P.info? t with
      | none => simp [hq] at hz
      | some i =>
        cases hi : i.zero with
        | none => simp [hq, hi] at hz
        | some z =>
          simp only [hq, hi, Option.bind_some, Option.map_some, Option.some.injEq] at hz
          have h1 : z.cells = r.toArray := by rw [← hz]
          simp [Instr.alloc, zeroValue, typeInfo, Sem.run_bind, hq, hi, newVar, newRow, newObj, h1, Sem.run]
    unfold Oper.wp
    simp only [execOp, Sem.run_bind, hr, Result.andThen_ok]
    exact hK _ _ ((k w.heap.size hw.chg.size).go _ _ (ha.put d _ hd) (hw.push (.cells r.toArray t (0, 0)) rfl rfl rfl rfl rfl))⟩
theorem JL.box {r : List Value} (hx : ev E x = some v) (hr : v.cells = r.toArray) (hd : Nat.blt d n = true)
    (k : ∀ b, w0.heap.size ≤ b → JL P n w0 S ops Q l ((d, Pt b 0) :: E) (⟨b, Row t r, true⟩ :: M)) : JL P n w0 S ops Q (⟨some d, .box t x, ty, pos, aft, none⟩ :: l) E M :=
  ⟨fun a w ha hw => wpList_plain rfl fun K hK => by
    have h1 : (Instr.box t v).run P w = .ok (Pt w.heap.size 0) { w with heap := w.heap.push (.cells r.toArray t (0, 0)) } := by
      simp [Instr.box, newVar, newRow, newObj, hr, Sem.run]
    unfold Oper.wp
    simp only [execOp, ha.eval hx, Sem.run_bind, h1, Result.andThen_ok]
    exact hK _ _ ((k w.heap.size hw.chg.size).go _ _ (ha.put d _ hd) (hw.push (.cells r.toArray t (0, 0)) rfl rfl rfl rfl rfl))⟩
theorem map_at {α : Type} (f : α → Value) (d : α) {r : List α} {j : Nat} (h : j < r.length) : (r.map f)[j]? = some (f (r.getD j d)) := by
  simp [h]

/-! ### stores -/
theorem setCell_heap {w : World} {c : Array Value} {e : TypeId} {fr : Nat × Nat} (ho : w.heap[b]? = some (.cells c e fr)) :
    (w.setCell ⟨b, j, none⟩ v).heap[b]? = some (.cells (c.setIfInBounds j v) e fr) := by
  simp [World.setCell, Array.getElem?_modify, ho]
theorem setCell_other {w : World} {k : Nat} (h : k ≠ b) : (w.setCell ⟨b, j, none⟩ v).heap[k]? = w.heap[k]? := by
  simp [World.setCell, Array.getElem?_modify, Ne.symm h]
theorem setCell_size {w : World} : (w.setCell ⟨b, j, none⟩ v).heap.size = w.heap.size := by simp [World.setCell]

theorem store_run {w : World} {c : Array Value} {e : TypeId} (hv : v.oneCell' = true) (ho : w.heap[b]? = some (.cells c e (0, 0))) (hj : j < c.size) :
    (Go.store ⟨b, j, none⟩ v).run P w = .ok () (w.setCell ⟨b, j, none⟩ v) := by
  have hc : w.cell? ⟨b, j, none⟩ = some c[j] := by simp [World.cell?, ho, hj]
  have hf : w.frozen? ⟨b, j, none⟩ = false := by simp [World.frozen?, ho]
  cases v <;> simp_all [Go.store, Sem.run, Value.oneCell']

theorem storeCells_run {e : TypeId} : ∀ (vs : List Value) (i : Nat) (w : World) (c : List Value), (∀ v ∈ vs, v.oneCell' = true) → w.heap[b]? = some (.cells c.toArray e (0, 0)) → j + i + vs.length ≤ c.length →
    ∃ w', (storeCells ⟨b, j, none⟩ vs i).run P w = .ok () w' ∧ w'.heap[b]? = some (.cells (c.take (j + i) ++ vs ++ c.drop (j + i + vs.length)).toArray e (0, 0)) ∧ w'.heap.size = w.heap.size ∧
      (∀ k, k ≠ b → w'.heap[k]? = w.heap[k]?) ∧ w'.os = w.os ∧ w'.tape = w.tape ∧ w'.output = w.output
  | [], i, w, c, _, ho, _ => ⟨w, rfl, by simpa using ho, rfl, fun _ _ => rfl, rfl, rfl, rfl⟩
  | v :: vs, i, w, c, h1, ho, hl => by
    simp only [List.length_cons] at hl
    obtain ⟨w', r1, r2, r3, r4, r5, r6, r7⟩ := storeCells_run (e := e) vs (i + 1) (w.setCell ⟨b, j + i, none⟩ v) (c.set (j + i) v) (fun u hu => h1 u (by simp [hu])) (by
      rw [setCell_heap ho]; simp) (by simp; omega)
    refine ⟨w', ?_, ?_, r3.trans setCell_size, fun k hk => (r4 k hk).trans (setCell_other hk), r5, r6, r7⟩
    · simp only [storeCells, Sem.run_bind, add_off]
      rw [store_run (h1 v (by simp)) ho (by simp; omega)]
      exact r1
    · rw [r2]
      congr 3
      rw [List.take_set, List.drop_set, if_pos (by omega)]
      rw [show j + (i + 1) = j + i + 1 by omega, List.take_add_one]
      simp only [List.getElem?_eq_getElem (show j + i < c.length by omega), Option.toList_some, List.length_cons]
      rw [List.set_append_right _ _ (by rw [List.length_take]; omega)]
      simp [List.length_take, Nat.min_eq_left (show j + i ≤ c.length by omega), Nat.add_assoc, Nat.add_comm, Nat.add_left_comm]

theorem JL.eff {hb : Option Tmp} (h : ∀ a w, Knows n E a → Holds w0 S M w → ∃ w', (execOp a.eval ⟨hb, op, ty, pos, aft, none⟩).run P w = .ok .skip w' ∧ wpList P ops Q l (a.put hb undef) w') : JL P n w0 S ops Q (⟨hb, op, ty, pos, aft, none⟩ :: l) E M :=
  ⟨fun a w ha hw => wpList_plain rfl fun K hK => by
    obtain ⟨w', h1, h2⟩ := h a w ha hw
    unfold Oper.wp
    rw [h1]
    exact hK _ _ h2⟩

theorem JL.store (hx : ev E x = some (.pointer (some ⟨b, j, none⟩))) (hy : ev E y = some v) (hz : szT P t = some 1) (hv : v.oneCell' = true) (hcl : v.cells = #[v]) (hu : Upd M b A A' M')
    (hA : ∀ o, A o → ∃ c e, o = .cells c e (0, 0) ∧ j < c.size ∧ A' (.cells (c.setIfInBounds j v) e (0, 0)))
    (k : JL P n w0 S ops Q l E M') : JL P n w0 S ops Q (⟨none, .store t x y, ty, pos, aft, none⟩ :: l) E M :=
  JL.eff fun a w ha hw => by
    obtain ⟨o, ho, hAo⟩ := hw.get hu.has
    obtain ⟨c, e, rfl, hj, hA'⟩ := hA o hAo
    refine ⟨w.setCell ⟨b, j, none⟩ v, ?_, k.go _ _ (ha.put_none _) (hw.write hu hA' (setCell_heap ho) setCell_size (fun _ h => setCell_other h) rfl rfl rfl)⟩
    have hs : (storeCells ⟨b, j, none⟩ [v] 0).run P w = .ok () (w.setCell ⟨b, j, none⟩ v) := by
      simp only [storeCells, Sem.run_bind, add_off, Nat.add_zero]
      rw [store_run hv ho hj]; rfl
    simp [execOp, ha.eval hx, ha.eval hy, Instr.storeAt, Instr.sureAddr, Sem.run_bind, storeVar, sizeOf_run hz, hcl, hs]
theorem JL.store_row {r : List Value} {e : TypeId} (hx : ev E x = some (.pointer (some ⟨b, j, none⟩))) (hy : ev E y = some v) (hz : szT P t = some 1) (hv : v.oneCell' = true) (hcl : v.cells = #[v]) (hu : Upd M b (Row e r) (Row e (r.set j v)) M') (hj : j < r.length)
    (k : JL P n w0 S ops Q l E M') : JL P n w0 S ops Q (⟨none, .store t x y, ty, pos, aft, none⟩ :: l) E M :=
  JL.store hx hy hz hv hcl hu (fun o ho => ⟨_, _, ho, by simpa using hj, by simp [Row]⟩) k
theorem JL.store_eq {r r' : List Value} {e : TypeId} (hz : szT P t = some 1) (hx : ev E x = some (.pointer (some ⟨b, j, none⟩))) (hy : ev E y = some v) (hv : v.oneCell' = true) (hcl : v.cells = #[v]) (hu : Upd M b (Row e r) (Row e r') M') (hj : j < r.length) (he : r.set j v = r')
    (k : JL P n w0 S ops Q l E M') : JL P n w0 S ops Q (⟨none, .store t x y, ty, pos, aft, none⟩ :: l) E M :=
  JL.store hx hy hz hv hcl hu (fun o ho => ⟨_, _, ho, by simpa using hj, by simp [Row, he]⟩) k
theorem JL.store_agg {k : Nat} (hz' : szT P t = some k) (hx : ev E x = some (.pointer (some ⟨b, j, none⟩))) (hy : ev E y = some (.agg cs.toArray)) (hl : cs.length = k) (hv : cs.all Value.oneCell' = true) (hu : Upd M b A A' M')
    (hA : ∀ o, A o → ∃ r e, o = .cells (List.toArray r) e (0, 0) ∧ j + cs.length ≤ r.length ∧ A' (.cells (r.take j ++ cs ++ r.drop (j + cs.length)).toArray e (0, 0)))
    (k : JL P n w0 S ops Q l E M') : JL P n w0 S ops Q (⟨none, .store t x y, ty, pos, aft, none⟩ :: l) E M :=
  JL.eff fun a w ha hw => by
    have hz : szT P t = some cs.length := hl ▸ hz'
    obtain ⟨o, ho, hAo⟩ := hw.get hu.has
    obtain ⟨r, e, rfl, hj, hA'⟩ := hA o hAo
    obtain ⟨w', r1, r2, r3, r4, r5, r6, r7⟩ := storeCells_run (P := P) (j := j) cs 0 w r (fun v hv' => List.all_eq_true.1 hv v hv') ho (by omega)
    refine ⟨w', ?_, k.go _ _ (ha.put_none _) (hw.write hu hA' (by simpa using r2) r3 r4 r5 r6 r7)⟩
    simp [execOp, ha.eval hx, ha.eval hy, Instr.storeAt, Instr.sureAddr, Sem.run_bind, storeVar, sizeOf_run hz, Value.cells, r1]
/-- .. over the whole row -/
theorem JL.store_all {r : List Value} {e : TypeId} {m : Nat} (hz : szT P t = some m) (hx : ev E x = some (.pointer (some ⟨b, 0, none⟩))) (hy : ev E y = some (.agg cs.toArray)) (hc : cs.length = m) (hv : cs.all Value.oneCell' = true) (hu : Upd M b (Row e r) (Row e cs) M')
    (hr : r.length = m) (k : JL P n w0 S ops Q l E M') : JL P n w0 S ops Q (⟨none, .store t x y, ty, pos, aft, none⟩ :: l) E M :=
  JL.store_agg hz hx hy hc hv hu (fun o ho => ⟨r, e, ho, by omega, by simp [Row, hc, ← hr]⟩) k

/-! ### entry and return -/
def enum : Nat → List Value → Env
  | _, [] => []
  | i, v :: vs => (i, v) :: enum (i + 1) vs
theorem lk_enum : ∀ (vs : List Value) (i t : Nat) (v : Value), lk (enum i vs) t = some v → i ≤ t ∧ vs[t - i]? = some v
  | [], _, _, _, h => by simp [enum, lk] at h
  | u :: vs, i, t, v, h => by
    simp only [enum, lk] at h
    by_cases e : i = t
    · subst e
      simp at h
      simp [h]
    · have : Nat.beq i t = false := Bool.eq_false_iff.2 fun h => e (Nat.eq_of_beq_eq_true h)
      rw [this] at h
      obtain ⟨h1, h2⟩ := lk_enum vs (i + 1) t v h
      refine ⟨by omega, ?_⟩
      rw [show t - i = (t - (i + 1)) + 1 by omega]
      simpa using h2
theorem Knows.enter (vs : List Value) (hl : vs.length ≤ n) : Knows n (enum 0 vs) ⟨vs.toArray ++ Array.replicate (n - vs.toArray.size) undef, []⟩ := by
  refine ⟨by simp; omega, rfl, fun t v h => ?_⟩
  obtain ⟨_, h2⟩ := lk_enum vs 0 t v h
  have ht : t < vs.length := (List.getElem?_eq_some_iff.1 h2).1
  simp only [Nat.sub_zero] at h2
  have h3 := (List.getElem?_eq_some_iff.1 h2).2
  simp [Array.getD_eq_getD_getElem?, Array.getElem?_append, ht, h3]
theorem enter {f : FuncId} {fn : Func} {c : Code} {vs : List Value} {w : World} {R : Ending → World → Prop} (hf : P.funcs[f]? = some fn) (hb : fn.body = some c) (hn : fn.ntmps = n) (hl : Nat.ble vs.length n = true)
    (hM : Holds w S M w) (h : JC P n w S (bodyPost P fn R) c (enum 0 vs) M) : Calls P f vs.toArray w R := by
  refine calls_of_wp hf hb (h.go _ _ ?_ hM)
  rw [hn]
  exact Knows.enter vs (by simpa using hl)

def rvRun (tmps : Array Value) : ResultVar → Sem Value
  | .tmp t => pure (tmps.getD t undef)
  | .cell p ty => do loadVar ty (← asAddr (tmps.getD p undef))
theorem results_eq (fn : Func) (tmps : Array Value) : results fn tmps = (do let vs ← fn.results.mapM (rvRun tmps); pure (if h : vs.size = 1 then vs[0] else .tuple vs)) := by
  unfold results
  congr 2
def RV (P : Program) (n : Nat) (w0 : World) (S : List Nat) (E : Env) (M : List Ent) (r : ResultVar) (v : Value) : Prop :=
  ∀ a w, Knows n E a → Holds w0 S M w → (rvRun a.tmps r).run P w = .ok v w
theorem RV.tmp {t : Tmp} (h : lk E t = some v) : RV P n w0 S E M (.tmp t) v := fun a w ha _ => by
  simp only [rvRun, ha.all t v h]; rfl
theorem RV.cell_agg {p : Tmp} {k : Nat} (ha : aggT P t = true) (hz : szT P t = some k) (h : lk E p = some (.pointer (some ⟨b, 0, none⟩))) (hM : Has M b A wr) (hl : cs.length = k) (hA : ∀ o, A o → hasCells o 0 cs) : RV P n w0 S E M (.cell p t) (.agg cs.toArray) := fun a w hk hw => by
  obtain ⟨o, ho, hAo⟩ := hw.get hM
  have := loadVar_agg (P := P) ha (hl ▸ hz) (cells_of ho (hA o hAo))
  simp [rvRun, hk.all p _ h, asAddr, this]
theorem RV.cell {p : Tmp} (h : lk E p = some (.pointer (some ⟨b, 0, none⟩))) (ha : scal P t = true) (hM : Has M b A wr) (hA : ∀ o, A o → cellAt o 0 = some v) : RV P n w0 S E M (.cell p t) v := fun a w hk hw => by
  obtain ⟨o, ho, hAo⟩ := hw.get hM
  have := loadVar_scal (P := P) ha (cell_of ho (hA o hAo))
  simp [rvRun, hk.all p _ h, asAddr, this]

variable {fn : Func} {R : Ending → World → Prop} {r1 r2 r3 : ResultVar} {v1 v2 v3 : Value}
theorem JE.ret0 (hr : fn.results = #[]) (hR : ∀ w, Holds w0 S M w → R (.returned (.tuple #[])) w) : JE n w0 S (bodyPost P fn R) .ret E M := ⟨fun a w ha hw =>
  ⟨ha.defers, .tuple #[], by simp [results, hr], hR w hw⟩⟩
theorem JE.end0 (hr : fn.results = #[]) (hR : ∀ w, Holds w0 S M w → R (.returned (.tuple #[])) w) : JE n w0 S (bodyPost P fn R) .normal E M := ⟨fun a w ha hw =>
  ⟨ha.defers, .tuple #[], by simp [results, hr], hR w hw⟩⟩
theorem JE.ret1 (hr : fn.results = #[r1]) (h1 : RV P n w0 S E M r1 v1) (hR : ∀ w, Holds w0 S M w → R (.returned v1) w) : JE n w0 S (bodyPost P fn R) .ret E M := by
  refine ⟨fun a w ha hw => ?_⟩
  refine ⟨ha.defers, v1, ?_, hR w hw⟩
  have e1 := h1 a w ha hw
  rw [results_eq, hr]
  simp [e1]
theorem JE.ret2 (hr : fn.results = #[r1, r2]) (h1 : RV P n w0 S E M r1 v1) (h2 : RV P n w0 S E M r2 v2) (hR : ∀ w, Holds w0 S M w → R (.returned (.tuple #[v1, v2])) w) : JE n w0 S (bodyPost P fn R) .ret E M := by
  refine ⟨fun a w ha hw => ?_⟩
  refine ⟨ha.defers, .tuple #[v1, v2], ?_, hR w hw⟩
  have e1 := h1 a w ha hw
  have e2 := h2 a w ha hw
  rw [results_eq, hr]
  simp [Sem.run_bind, e1, e2]
end
end Sl
end Go.Proofs.Ytbihfhkbkcplmaa
