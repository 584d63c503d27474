/-
  Of no statement by itself: rules for literals of slices of any length, for cuts with two bounds, for the smaller of two ints, for parts of arrays of arrays, and for equality of arrays of words.
  Conditions: each rule's own hypotheses.
-/
import Derived.Test.YtbihfhkbkcplmaaSlj
namespace Go.Proofs.Ytbihfhkbkcplmaa
namespace Sl
section
variable {P : Program} {n : Nat} {w0 : World} {S : List Nat} {ops : Array Oper} {Q : Exit → Act → World → Prop} {l : List Oper} {E : Env} {M : List Ent} {C : World → Prop}
variable {dst : Option Tmp} {d b : Nat} {t t' e ty : TypeId} {pos : String} {aft : Array Edge} {g : Option (Nat × Bool)} {v zv : Value} {x y z : Operand} {by' : Nat}
/-- 'x[lo:hi]' of an array behind its address -/
theorem OQ.slA_lohi {len j lo hi : Nat} (hu : P.underlying t = some (.array len e)) (hz : szT P e = some 1) (hx : ev E x = some (.pointer (some ⟨b, j, none⟩))) (hl : ev E y = some (N lo)) (hh : ev E z = some (N hi)) (h : lo < len) (h2 : lo ≤ hi) (h3 : hi ≤ len) :
    OQ P n E C ⟨dst, .slice t x (some y) (some z) none, ty, pos, aft, g⟩ (.slice (some ⟨b, j + lo, none⟩) (hi - lo) (len - lo)) :=
  OQ.run fun a ha w _ => by
    have h1 := ha.eval hx
    have h4 := ha.eval hl
    have h6 := ha.eval hh
    have h7 : (underlying t).run P w = .ok (.array len e) w := run_underlying hu w
    have h5 : ¬ len = lo := by omega
    simp [execOp, h1, h4, h6, Instr.sliceAt, Sem.run_bind, h7, Instr.sureAddr, Instr.sliceBounds, Instr.sliceBound, asIntOf, h2, h3, sizeOf_run hz, h5, add_off]
/-- 'x[lo:hi]' of a slice -/
theorem OQ.slS_lohi {len cap lo hi sz : Nat} {ad : Option Addr} (hu : P.underlying t = some (.slice e)) (hz : szT P e = some sz) (hx : ev E x = some (.slice ad len cap)) (hl : ev E y = some (N lo)) (hh : ev E z = some (N hi)) (h : lo ≤ hi) (h' : hi ≤ cap) :
    OQ P n E C ⟨dst, .slice t x (some y) (some z) none, ty, pos, aft, g⟩ (.slice (if cap = lo then ad else ad.map (·.add (lo * sz))) (hi - lo) (cap - lo)) :=
  OQ.run fun a ha w _ => by
    have h1 := ha.eval hx
    have h2 := ha.eval hl
    have h4 := ha.eval hh
    have h3 : (underlying t).run P w = .ok (.slice e) w := run_underlying hu w
    simp [execOp, h1, h2, h4, Instr.sliceAt, Sem.run_bind, h3, Instr.slice, Instr.sliceBounds, Instr.sliceBound, asIntOf, h, h', sizeOf_run hz]
theorem OQ.minN {a c : Nat} (hx : ev E x = some (N a)) (hy : ev E y = some (N c)) : OQ P n E C ⟨dst, .call ⟨.builtin .min, #[x, y], #[t, t']⟩, ty, pos, aft, g⟩ (N (min a c)) :=
  OQ.run fun ac ha w _ => by
    have h1 := ha.eval hx
    have h2 := ha.eval hy
    have h3 : (if c < a then (c : Int) else (a : Int)) = ((min a c : Nat) : Int) := by split <;> omega
    simp [execOp, h1, h2, resolve, invoke, builtin, Builtin.min_, Builtin.min2, Sem.run_bind, N, h3]
/-- a part of an array of arrays -/
theorem OQ.indexA {len i sz : Nat} {cs ps : List Value} (hu : P.underlying t = some (.array len e)) (hz : szT P e = some sz) (ha' : aggT P e = true) (hx : ev E x = some (.agg cs.toArray)) (hy : ev E y = some (N i)) (hi : i < len) (hv : (cs.drop (i * sz)).take sz = ps) :
    OQ P n E C ⟨dst, .index t x y, ty, pos, aft, g⟩ (.agg ps.toArray) :=
  OQ.run fun a ha w _ => by
    have h1 := ha.eval hx
    have h2 := ha.eval hy
    have h3 : (underlying t).run P w = .ok (.array len e) w := run_underlying hu w
    simp [execOp, h1, h2, Instr.index, asIntOf, Sem.run_bind, h3, hi, sizeOf_run hz, part, isAgg_agg ha', hv]
theorem OQ.convN_32 {td : TypeDesc} {a : Nat} (hs : P.underlying t = some td) (hd : P.underlying t' = some (.int .u32)) (hx : ev E x = some (N a)) : OQ P n E C ⟨dst, .convert t t' x, ty, pos, aft, g⟩ (U32 (BitVec.ofNat 32 a)) :=
  OQ.conv hs hd hx (by rw [wrap32]; simp [U32])

/-! ### a guard whose own operation was skipped -/
theorem yielded_undef {j s : Nat} (h : (ops[j]?).bind (·.dst) = some s) (hl : lk E s = some undef) (hs : Nat.blt s n = true) {a : Act} (ha : Knows n E a) : yielded ops a.tmps j = none := by
  have hlt : s < n := by simpa using hs
  have h1 := ha.all s undef hl
  have h2 : a.tmps[s]? = some undef := by
    have : s < a.tmps.size := by rw [ha.size]; exact hlt
    rw [Array.getElem?_eq_getElem this]
    simpa [Array.getD, this] using h1
  simp [yielded, h, h2, undef]
theorem JL.gskipU {j s : Nat} {want : Bool} {op : Op} (h : (ops[j]?).bind (·.dst) = some s) (hl : lk E s = some undef) (hs : Nat.blt s n = true) (hd : Nat.blt d n = true) (k : JL P n w0 S ops Q l ((d, undef) :: E) M) :
    JL P n w0 S ops Q (⟨some d, op, ty, pos, aft, some (j, want)⟩ :: l) E M :=
  ⟨fun a w ha hw => wpList_skip (by simp [Region.wanted, yielded_undef h hl hs ha]) (k.go _ _ (ha.put d undef hd) hw)⟩
theorem JQ.gskipU {j s : Nat} {want : Bool} {op : Op} {Φ : Act → Prop} (h : (ops[j]?).bind (·.dst) = some s) (hl : lk E s = some undef) (hs : Nat.blt s n = true) (hd : Nat.blt d n = true) (k : JQ P n w0 S ops M Φ l ((d, undef) :: E)) :
    JQ P n w0 S ops M Φ (⟨some d, op, ty, pos, aft, some (j, want)⟩ :: l) E :=
  ⟨fun a ha => wpQuiet_step fun _ hK => by
    have hw : Region.wanted ⟨some d, op, ty, pos, aft, some (j, want)⟩ (yielded ops a.tmps) = false := by simp [Region.wanted, yielded_undef h hl hs ha]
    rw [hw]
    simp only [Bool.false_eq_true, if_false]
    exact hK _ (k.go _ (ha.put d undef hd))⟩

/-! ### literals of slices of one-cell elements -/
def pairs : Nat → List Operand → List (Nat × Operand)
  | _, [] => []
  | i, x :: xs => (i, x) :: pairs (i + 1) xs
theorem pairs_map {a : Act} (hk : Knows n E a) : ∀ {xs : List Operand} {vs : List Value} (i : Nat), evs E xs = some vs → (pairs i xs).map (fun p => (p.1, a.eval p.2)) = (vs.zipIdx i).map fun x => (x.2, x.1)
  | [], vs, i, h => by
    simp only [evs, Option.some.injEq] at h
    subst h
    rfl
  | x :: xs, vs, i, h => by
    simp only [evs] at h
    cases h1 : ev E x with
    | none => simp [h1] at h
    | some v =>
      cases h2 : evs E xs with
      | none => simp [h1, h2] at h
      | some us =>
        simp only [h1, h2, Option.some.injEq] at h
        subst h
        simp [pairs, hk.eval h1, pairs_map hk (i + 1) h2]
theorem buildL_run {w : World} {vs : List Value} {m : Nat} (hu : P.underlying t = some (.slice e)) (hi : EI P e zv 1 by') (hz : zv.cells.size = 1) (h1 : ∀ v ∈ vs, v.cells = #[v]) (hm : vs.length = m) (h0 : 0 < m) (hsm : m ≤ 16777216) :
    (Instr.buildSlice t m ((vs.zipIdx 0).map fun x => (x.2, x.1)).toArray).run P w = .ok (.slice (some ⟨w.heap.size, 0, none⟩) m m) { w with heap := w.heap.push (.cells vs.toArray e (0, 0)) } := by
  have h3 : (underlying t).run P w = .ok (.slice e) w := run_underlying hu w
  obtain ⟨i, h4, h5, _⟩ := hi.get
  have h6 := Great.fill_flat vs ((Array.range (m * 1)).map (zv.cells[· % zv.cells.size]!)) h1 (by simp [hm])
  have h9 : ¬ (16777216 < m) := by omega
  have h10 : ¬ (m = 0) := by omega
  have h11 : (zeroValue e).run P w = .ok zv w := by simp [zeroValue, typeInfo, h4, h5]
  simp only [Nat.mul_one] at h6
  simp [Instr.buildSlice, Sem.run_bind, h3, sizeOf_run hi.sz, h9, h10, h11, h6, newRow, newObj, Sem.run]
theorem JL.litL {xs : List Operand} {ps : Array (Nat × Operand)} {vs : List Value} {m : Nat} (hu : P.underlying t = some (.slice e)) (hi : EI P e zv 1 by') (hz : zv.cells.size = 1) (hps : ps = (pairs 0 xs).toArray) (hx : evs E xs = some vs) (h1 : vs.all (fun v => v.oneCell') = true) (h2 : ∀ v ∈ vs, v.cells = #[v]) (hm : vs.length = m) (h0 : 0 < m) (hsm : m ≤ 16777216) (hd : Nat.blt d n = true)
    (k : ∀ b, w0.heap.size ≤ b → JL P n w0 S ops Q l ((d, .slice (some ⟨b, 0, none⟩) m m) :: E) (⟨b, Row e vs, true⟩ :: M)) : JL P n w0 S ops Q (⟨some d, .buildSlice t m ps, ty, pos, aft, none⟩ :: l) E M :=
  ⟨fun a w ha hw => wpList_plain rfl fun K hK => by
    unfold Oper.wp
    have hm' : ps.map (fun (i, x) => (i, a.eval x)) = ((vs.zipIdx 0).map fun x => (x.2, x.1)).toArray := by
      rw [hps, List.map_toArray, ← pairs_map ha 0 hx]
    simp only [execOp, hm', Sem.run_bind, buildL_run hu hi hz h2 hm h0 hsm, Result.andThen_ok]
    exact hK _ _ ((k w.heap.size hw.chg.size).go _ _ (ha.put d _ hd) (hw.push _ rfl rfl rfl rfl rfl))⟩

/-! ### equality of arrays of words -/
theorem all_range_eqW : ∀ (xs ys : List (BitVec 32)), xs.length = ys.length → ((List.range xs.length).all fun i => xs.getD i 0 == ys.getD i 0) = (xs == ys)
  | [], [], _ => rfl
  | x :: xs, y :: ys, h => by
    have ih := all_range_eqW xs ys (by simpa using h)
    rw [List.length_cons, List.range_succ_eq_map, List.all_cons, List.all_map]
    simp only [List.getD_cons_zero, Function.comp_def, List.getD_cons_succ, ih]
    simp [List.cons_beq_cons]
  | [], _ :: _, h => by simp at h
  | _ :: _, [], h => by simp at h
theorem run_equalIn_words (w : World) (dd : Nat) {m : Nat} (ht : P.underlying t = some (.array m e)) (he : P.underlying e = some (.int .u32)) (hsz : ∀ w, (sizeOf e).run P w = .ok 1 w)
    (xs ys : List (BitVec 32)) (hx : xs.length = m) (hy : ys.length = m) :
    (Op.equalIn (dd + 2) t (.agg (xs.map U32).toArray) (.agg (ys.map U32).toArray)).run P w = .ok (xs == ys) w := by
  rw [← all_range_eqW xs ys (hx.trans hy.symm), hx, List.range_eq_range', Op.equalIn]
  simp only [Sem.run_bind, run_underlying ht, Result.andThen_ok, hsz, Std.Legacy.Range.forIn_eq_forIn_range', Std.Legacy.Range.size, Nat.sub_zero, Nat.add_sub_cancel, Nat.div_one]
  have hl : ∀ i ∈ List.range' 0 m 1, i < m := fun i hi => by simpa using (List.mem_range'_1.1 hi).2
  generalize List.range' 0 m 1 = l at hl ⊢
  induction l with
  | nil => simp
  | cons i l ih =>
    have hi : i < m := hl i (by simp)
    have px : (part e (xs.map U32).toArray (i * 1)).run P w = .ok (U32 (xs.getD i 0)) w := by
      simp [part, isAgg, run_underlying he, List.getD, List.getElem?_eq_getElem (show i < xs.length by omega)]
    have py : (part e (ys.map U32).toArray (i * 1)).run P w = .ok (U32 (ys.getD i 0)) w := by
      simp [part, isAgg, run_underlying he, List.getD, List.getElem?_eq_getElem (show i < ys.length by omega)]
    have pe : (Op.equalIn (dd + 1) e (U32 (xs.getD i 0)) (U32 (ys.getD i 0))).run P w = .ok (xs.getD i 0 == ys.getD i 0) w := by
      rw [U32, U32, run_equalIn_int w dd e .u32 .u32 _ _ he]
      congr 1
      rw [Bool.eq_iff_iff]
      simp only [beq_iff_eq]
      exact ⟨fun h => BitVec.eq_of_toNat_eq (by omega), fun h => by rw [h]⟩
    simp only [List.forIn_cons, Sem.run_bind, px, py, pe, Result.andThen_ok, List.all_cons]
    cases hb : (xs.getD i 0 == ys.getD i 0)
    · simp
    · simp only [Bool.not_true, Bool.false_eq_true, if_false, Sem.run_pure, Result.andThen_ok, Bool.true_and]
      exact ih fun j hj => hl j (by simp [hj])
theorem eq_listW (r q : List (BitVec 32)) : (r == q) = decide (r = q) := by
  rw [Bool.eq_iff_iff]; simp
theorem OQ.eqW {m : Nat} {r q : List (BitVec 32)} (hu : P.underlying t = some (.array m e)) (he : P.underlying e = some (.int .u32)) (hz : szT P e = some 1) (hgd : P.eqGuardType P.depth t = false) (hx : ev E x = some (.agg (r.map U32).toArray)) (hy : ev E y = some (.agg (q.map U32).toArray)) (hr : r.length = m) (hq : q.length = m) :
    OQ P n E C ⟨dst, .binOp .eql t x y t', ty, pos, aft, g⟩ (.bool (decide (r = q))) :=
  OQ.run fun a ha w _ => by
    have h1 := ha.eval hx
    have h2 := ha.eval hy
    have h3 := fun w => run_equalIn_words (P := P) w 9998 hu he (fun w => sizeOf_run hz w) r q hr hq
    rw [eq_listW] at h3
    have h4 := fun w => run_eqGuard_agg (P := P) (w := w) .eql t x y (r.map U32).toArray (q.map U32).toArray hgd
    have h5 := fun w => run_eql_struct (P := P) (w := w) t (r.map U32).toArray (q.map U32).toArray
    simp only [execOp, h1, h2, Sem.run_bind, h4, Result.andThen_ok, h5, h3]
    rfl
theorem OQ.eqW_t {m : Nat} {r q : List (BitVec 32)} (hu : P.underlying t = some (.array m e)) (he : P.underlying e = some (.int .u32)) (hz : szT P e = some 1) (hgd : P.eqGuardType P.depth t = false) (hx : ev E x = some (.agg (r.map U32).toArray)) (hy : ev E y = some (.agg (q.map U32).toArray)) (hr : r.length = m) (hq : q.length = m) (h : r = q) :
    OQ P n E C ⟨dst, .binOp .eql t x y t', ty, pos, aft, g⟩ (.bool true) := (decide_eq_true h : decide (r = q) = true) ▸ OQ.eqW hu he hz hgd hx hy hr hq
end
end Sl
end Go.Proofs.Ytbihfhkbkcplmaa
