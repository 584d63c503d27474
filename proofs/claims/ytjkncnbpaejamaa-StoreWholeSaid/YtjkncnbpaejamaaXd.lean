/-
  Of no statement by itself: the texts Slmp, StoA, StoB, StoC, StoS, Shpx, StoD, StoE, StoF, StoG, TorB, StoW, StoY, StoH, StoI, Slja, Slj3, StoJ in one.
  Conditions: each theorem's own.
-/
import Derived.Test.YtjkncnbpaejamaaXc
import Derived.Laws.IdiomRangeMap
import Derived.Shelf.SlMaps.Clone
import Derived.Shelf.Sort.Plain
import Derived.Shelf.Slices.In.SortNone
import Derived.Sort.OwnSorted
set_option linter.unusedSimpArgs false
set_option linter.unusedVariables false
/-
  Of no statement by itself: rules for maps whose keys are texts: makes, looks, stores, deletes, ranges in whatever order; over X's partial knowledge of frame and memory, for any program P.
  Conditions: each rule's own hypotheses.
-/
namespace Go.Proofs.Ytjkncnbpaejamaa
set_option maxRecDepth 10000
open Sl
/-- an entry: its key, its value, when it came -/
structure ME (α : Type) where
  key : List Bt
  val : α
  born : Nat
def ME.en {α : Type} (f : α → Value) (e : ME α) : MapEntry := ⟨Z e.key, f e.val, e.born⟩
/-- a map's block: its entries in the order in which they came; f tells how a value stands there -/
def MB {α : Type} (f : α → Value) (es : List (ME α)) (c : Nat) : Obj → Prop := fun o => o = .map (es.map (ME.en f)).toArray c
def IB (b : Nat) (since : Nat) (seen : List Nat) (last : Nat) : Obj → Prop := fun o => o = .mapIter (some b) since seen.toArray last
variable {α : Type}
def findM (k : List Bt) : List (ME α) → Nat → Option (Nat × α)
  | [], _ => none
  | e :: es, i => if k = e.key then some (i, e.val) else findM k es (i + 1)
def look (es : List (ME α)) (k : List Bt) : Option α := (findM k es 0).map Prod.snd
def putL (k : List Bt) (v : α) (c : Nat) : List (ME α) → List (ME α)
  | [] => [⟨k, v, c⟩]
  | e :: es => if k = e.key then ⟨k, v, e.born⟩ :: es else e :: putL k v c es
def putC (k : List Bt) (es : List (ME α)) (c : Nat) : Nat := if (look es k).isSome then c else c + 1
def delL (k : List Bt) : List (ME α) → List (ME α)
  | [] => []
  | e :: es => if k = e.key then es else e :: delL k es
structure WF {α : Type} (es : List (ME α)) (c : Nat) : Prop where
  keys : (es.map ME.key).Nodup
  borns : (es.map ME.born).Nodup
  lt : ∀ e ∈ es, e.born < c
theorem strB_inj {l r : List Bt} (h : strB l = strB r) : l = r := by rw [← bytesOf_strB l, h, bytesOf_strB]
theorem strB_beq (l r : List Bt) : (strB l == strB r) = decide (l = r) := by
  show ((l.map UInt8.ofBitVec).toArray == (r.map UInt8.ofBitVec).toArray) = _
  by_cases h : l = r
  · subst h; simp
  · rw [decide_eq_false h]
    refine beq_eq_false_iff_ne.2 fun e => h (strB_inj ?_)
    show (⟨(l.map UInt8.ofBitVec).toArray⟩ : ByteArray) = ⟨(r.map UInt8.ofBitVec).toArray⟩
    rw [e]
theorem findNow_str (f : α → Value) (k : List Bt) : ∀ (es : List (ME α)) (i : Nat), Instr.findNow .string (Z k) (es.map (ME.en f)) i = some ((findM k es i).map fun p => (p.1, f p.2))
  | [], i => rfl
  | e :: es, i => by
    rw [List.map_cons, Instr.findNow]
    have h : Instr.sameNow .string (Z k) (e.en f).key = some (decide (k = e.key)) := by
      show some (strB k == strB e.key) = _
      rw [strB_beq]
    rw [h, findM]
    by_cases hk : k = e.key
    · rw [decide_eq_true hk, if_pos hk]
      rfl
    · rw [decide_eq_false hk, if_neg hk]
      exact findNow_str f k es (i + 1)
theorem findM_shift (k : List Bt) : ∀ (es : List (ME α)) (i : Nat), findM k es i = (findM k es 0).map fun p => (p.1 + i, p.2)
  | [], i => rfl
  | e :: es, i => by
    rw [findM, findM]
    split
    · simp
    · rw [findM_shift k es (i + 1), findM_shift k es (0 + 1), Option.map_map]
      congr 1
      funext p
      simp only [Function.comp_apply, Prod.mk.injEq, and_true]
      omega
theorem findM_none {k : List Bt} : ∀ {es : List (ME α)} {i : Nat}, findM k es i = none ↔ k ∉ es.map ME.key
  | [], i => by simp [findM]
  | e :: es, i => by
    rw [findM]
    by_cases h : k = e.key
    · rw [if_pos h]; simp [h]
    · rw [if_neg h, findM_none]; simp [h]
theorem look_none {es : List (ME α)} {k : List Bt} : look es k = none ↔ k ∉ es.map ME.key := by
  unfold look
  rw [Option.map_eq_none_iff]
  exact findM_none
theorem look_cons (e : ME α) (es : List (ME α)) (k : List Bt) : look (e :: es) k = if k = e.key then some e.val else look es k := by
  unfold look
  rw [findM]
  split
  · rfl
  · rw [findM_shift, Option.map_map]; rfl
theorem putL_new {k : List Bt} {v : α} {c : Nat} : ∀ {es : List (ME α)} {i : Nat}, findM k es i = none → putL k v c es = es ++ [⟨k, v, c⟩]
  | [], _, _ => rfl
  | e :: es, i, h => by
    rw [findM] at h
    by_cases hk : k = e.key
    · rw [if_pos hk] at h; cases h
    · rw [if_neg hk] at h
      rw [putL, if_neg hk, putL_new h]; rfl
theorem putL_old (f : α → Value) {k : List Bt} {v u : α} {c : Nat} : ∀ {es : List (ME α)} {i j : Nat}, findM k es i = some (j, u) → i ≤ j ∧ j - i < es.length ∧ (es.map (ME.en f)).modify (j - i) (fun e => { e with key := Z k, val := f v }) = (putL k v c es).map (ME.en f)
  | e :: es, i, j, h => by
    rw [findM] at h
    by_cases hk : k = e.key
    · rw [if_pos hk, Option.some.injEq, Prod.mk.injEq] at h
      obtain ⟨rfl, rfl⟩ := h
      rw [putL, if_pos hk]
      simp [ME.en]
    · rw [if_neg hk] at h
      obtain ⟨h1, h2, h3⟩ := putL_old f (v := v) (c := c) h
      rw [putL, if_neg hk]
      refine ⟨by omega, by rw [List.length_cons]; omega, ?_⟩
      rw [show j - i = (j - (i + 1)) + 1 by omega, List.map_cons, List.modify_succ_cons, h3, List.map_cons]
theorem delL_new {k : List Bt} : ∀ {es : List (ME α)} {i : Nat}, findM k es i = none → delL k es = es
  | [], _, _ => rfl
  | e :: es, i, h => by
    rw [findM] at h
    by_cases hk : k = e.key
    · rw [if_pos hk] at h; cases h
    · rw [if_neg hk] at h
      rw [delL, if_neg hk, delL_new h]
theorem delL_old (f : α → Value) {k : List Bt} {u : α} : ∀ {es : List (ME α)} {i j : Nat}, findM k es i = some (j, u) → i ≤ j ∧ j - i < es.length ∧ (es.map (ME.en f)).eraseIdx (j - i) = (delL k es).map (ME.en f)
  | e :: es, i, j, h => by
    rw [findM] at h
    by_cases hk : k = e.key
    · rw [if_pos hk, Option.some.injEq, Prod.mk.injEq] at h
      obtain ⟨rfl, rfl⟩ := h
      rw [delL, if_pos hk]
      simp
    · rw [if_neg hk] at h
      obtain ⟨h1, h2, h3⟩ := delL_old f h
      rw [delL, if_neg hk]
      refine ⟨by omega, by rw [List.length_cons]; omega, ?_⟩
      rw [show j - i = (j - (i + 1)) + 1 by omega, List.map_cons, List.eraseIdx_cons_succ, h3, List.map_cons]
theorem putL_keys (k : List Bt) (v : α) (c : Nat) : ∀ (es : List (ME α)), (putL k v c es).map ME.key = if k ∈ es.map ME.key then es.map ME.key else es.map ME.key ++ [k]
  | [] => by simp [putL]
  | e :: es => by
    rw [putL]
    by_cases h : k = e.key
    · rw [if_pos h, if_pos (by simp [h])]; simp [h]
    · rw [if_neg h, List.map_cons, putL_keys k v c es]
      by_cases h2 : k ∈ es.map ME.key
      · rw [if_pos h2, if_pos (by simp only [List.map_cons, List.mem_cons]; exact .inr h2)]; rfl
      · rw [if_neg h2, if_neg (by simp only [List.map_cons, List.mem_cons, not_or]; exact ⟨h, h2⟩)]; rfl
theorem putL_borns (k : List Bt) (v : α) (c : Nat) : ∀ (es : List (ME α)), (putL k v c es).map ME.born = if k ∈ es.map ME.key then es.map ME.born else es.map ME.born ++ [c]
  | [] => by simp [putL]
  | e :: es => by
    rw [putL]
    by_cases h : k = e.key
    · rw [if_pos h, if_pos (by simp [h])]; simp
    · rw [if_neg h, List.map_cons, putL_borns k v c es]
      by_cases h2 : k ∈ es.map ME.key
      · rw [if_pos h2, if_pos (by simp only [List.map_cons, List.mem_cons]; exact .inr h2)]; rfl
      · rw [if_neg h2, if_neg (by simp only [List.map_cons, List.mem_cons, not_or]; exact ⟨h, h2⟩)]; rfl
theorem delL_sub (k : List Bt) : ∀ (es : List (ME α)), (delL k es).Sublist es
  | [] => .slnil
  | e :: es => by
    rw [delL]
    split
    · exact List.sublist_cons_self _ _
    · exact (delL_sub k es).cons_cons _
theorem WF.nil : WF ([] : List (ME α)) 0 := ⟨.nil, .nil, nofun⟩
theorem WF.put {es : List (ME α)} {c : Nat} (h : WF es c) (k : List Bt) (v : α) : WF (putL k v c es) (putC k es c) := by
  have hl : (look es k).isSome = decide (k ∈ es.map ME.key) := by
    by_cases hk : k ∈ es.map ME.key
    · rw [decide_eq_true hk]
      cases he : look es k with
      | none => exact absurd hk (look_none.1 he)
      | some v => rfl
    · rw [decide_eq_false hk, look_none.2 hk]; rfl
  unfold putC
  rw [hl]
  by_cases hk : k ∈ es.map ME.key
  · rw [decide_eq_true hk, if_pos rfl]
    refine ⟨by rw [putL_keys, if_pos hk]; exact h.keys, by rw [putL_borns, if_pos hk]; exact h.borns, fun e he => ?_⟩
    have := List.mem_map_of_mem (f := ME.born) he
    rw [putL_borns, if_pos hk] at this
    obtain ⟨e', h1, h2⟩ := List.mem_map.1 this
    rw [← h2]
    exact h.lt e' h1
  · rw [decide_eq_false hk, if_neg (by simp)]
    refine ⟨?_, ?_, fun e he => ?_⟩
    · rw [putL_keys, if_neg hk]
      exact List.nodup_append.2 ⟨h.keys, by simp, fun a ha b hb e => hk (by rw [List.mem_singleton.1 hb] at e; exact e ▸ ha)⟩
    · rw [putL_borns, if_neg hk]
      refine List.nodup_append.2 ⟨h.borns, by simp, fun a ha b hb e => ?_⟩
      obtain ⟨e', h1, h2⟩ := List.mem_map.1 ha
      have := h.lt e' h1
      rw [List.mem_singleton.1 hb] at e
      omega
    · have := List.mem_map_of_mem (f := ME.born) he
      rw [putL_borns, if_neg hk, List.mem_append] at this
      rcases this with h1 | h1
      · obtain ⟨e', h1, h2⟩ := List.mem_map.1 h1
        have := h.lt e' h1
        omega
      · rw [List.mem_singleton.1 h1]; omega
theorem WF.del {es : List (ME α)} {c : Nat} (h : WF es c) (k : List Bt) : WF (delL k es) c :=
  ⟨h.keys.sublist ((delL_sub k es).map _), h.borns.sublist ((delL_sub k es).map _), fun e he => h.lt e ((delL_sub k es).subset he)⟩
/-! ### as rows of pairs: which is which doesn't hang on the order -/
theorem putL_perm (k : List Bt) (v : α) (c : Nat) : ∀ (es : List (ME α)), (es.map ME.key).Nodup → ((putL k v c es).map fun e => (e.key, e.val)).Perm ((k, v) :: (es.filter fun e => decide (e.key ≠ k)).map fun e => (e.key, e.val))
  | [], _ => .refl _
  | e :: es, h => by
    obtain ⟨h1, h2⟩ := List.nodup_cons.1 (by simpa using h : (e.key :: es.map ME.key).Nodup)
    rw [putL]
    by_cases hk : k = e.key
    · rw [if_pos hk, List.filter_cons_of_neg (by simp [hk]), List.map_cons, List.filter_eq_self.2 fun x hx => by
        simp only [ne_eq, decide_eq_true_eq]
        intro h3
        exact h1 (by rw [← hk, ← h3]; exact List.mem_map_of_mem hx)]
    · rw [if_neg hk, List.filter_cons_of_pos (by simp [Ne.symm hk]), List.map_cons, List.map_cons]
      exact (List.Perm.cons _ (putL_perm k v c es h2)).trans (List.Perm.swap _ _ _)
theorem delL_filter (k : List Bt) : ∀ (es : List (ME α)), (es.map ME.key).Nodup → delL k es = es.filter fun e => decide (e.key ≠ k)
  | [], _ => rfl
  | e :: es, h => by
    obtain ⟨h1, h2⟩ := List.nodup_cons.1 (by simpa using h : (e.key :: es.map ME.key).Nodup)
    rw [delL]
    by_cases hk : k = e.key
    · rw [if_pos hk, List.filter_cons_of_neg (by simp [hk]), List.filter_eq_self.2 fun x hx => by
        simp only [ne_eq, decide_eq_true_eq]
        intro h3
        exact h1 (by rw [← hk, ← h3]; exact List.mem_map_of_mem hx)]
    · rw [if_neg hk, List.filter_cons_of_pos (by simp [Ne.symm hk]), delL_filter k es h2]
/-! ### the operations -/
section
variable {P : Program} {n : Nat} {w0 : World} {S : List Nat} {ops : Array Oper} {Q : Exit → Act → World → Prop} {l : List Oper} {E : Env} {M M' : List Ent}
variable {dst : Option Tmp} {d b r : Nat} {t t' k e ty : TypeId} {pos : String} {aft : Array Edge} {g : Option (Nat × Bool)} {x y z : Operand} {α : Type} {f : α → Value} {es : List (ME α)} {c : Nat} {key : List Bt} {v : α} {zv : Value} {wr : Bool}
theorem checkKey_str (em : Bool) (hk : P.underlying k = some .string) (w : World) : (Instr.checkKey em 10000 k (Z key)).run P w = .ok () w := by
  have h1 : ∀ w, (underlying k).run P w = .ok .string w := run_underlying hk
  rw [show (10000 : Nat) = 9999 + 1 from rfl, Instr.checkKey]
  simp only [Sem.run_bind, h1, Result.andThen_ok, Sem.run_pure]
theorem findKey_str (hk : P.underlying k = some .string) (w : World) : (Instr.findKey k (Z key) (es.map (ME.en f))).run P w = .ok ((findM key es 0).map fun p => (p.1, f p.2)) w := by
  simp [Instr.findKey, Sem.run_bind, run_underlying hk, findNow_str]
theorem getMap {w : World} (h : w.heap[b]? = some (.map (es.map (ME.en f)).toArray c)) : (getObj b).run P w = .ok (.map (es.map (ME.en f)).toArray c) w := by
  simp [getObj, Sem.run, h]
theorem setMap {w : World} {o : Obj} (h : w.heap[b]? = some (.map (es.map (ME.en f)).toArray c)) : (setObj b o).run P w = .ok () { w with heap := w.heap.setIfInBounds b o } := by
  simp [setObj, Sem.run, h]
def lookV (v : Option Value) (zv : Value) : Bool → Value
  | true => .tuple #[v.getD zv, .bool v.isSome]
  | false => v.getD zv
theorem lookup_run {ok : Bool} (ht : P.underlying t = some (.map k e)) (hk : P.underlying k = some .string) (hz : ∀ w, (zeroValue e).run P w = .ok zv w) {w : World} (h : w.heap[b]? = some (.map (es.map (ME.en f)).toArray c)) :
    (Instr.lookup t (.map (some b)) (Z key) ok).run P w = .ok (lookV ((look es key).map f) zv ok) w := by
  have h1 : ∀ w, (underlying t).run P w = .ok (.map k e) w := run_underlying ht
  simp only [Instr.lookup, Sem.run_bind, h1, Result.andThen_ok, getMap h, Sem.run_pure, checkKey_str _ hk, findKey_str hk, List.toList_toArray]
  unfold look
  cases findM key es 0 with
  | none =>
    simp only [Option.map_none, Sem.run_bind, hz, Result.andThen_ok, Sem.run_pure]
    cases ok <;> rfl
  | some p =>
    simp only [Option.map_some, Sem.run_bind, Result.andThen_ok, Sem.run_pure]
    cases ok <;> rfl
theorem zero_of (hz : (P.info? e).bind (·.zero) = some zv) (w : World) : (zeroValue e).run P w = .ok zv w := by
  cases hq : P.info? e with
  | none => simp [hq] at hz
  | some i =>
    cases hi : i.zero with
    | none => simp [hq, hi] at hz
    | some z =>
      simp [hq, hi] at hz
      simp [zeroValue, typeInfo, Sem.run_bind, hq, hi, hz]
/-- v, ok := m[k] and m[k] -/
theorem OQ.look {ok : Bool} (ht : P.underlying t = some (.map k e)) (hk : P.underlying k = some .string) (hz : (P.info? e).bind (·.zero) = some zv) (hx : ev E x = some (.map (some b))) (hy : ev E y = some (Z key)) (hM : Has M b (MB f es c) wr) :
    OQ P n E (Holds w0 S M) ⟨dst, .lookup t x y ok, ty, pos, aft, g⟩ (lookV ((look es key).map f) zv ok) :=
  OQ.run fun a ha w hw => by
    have h1 := ha.eval hx
    have h2 := ha.eval hy
    obtain ⟨o, ho, rfl⟩ := hw.get hM
    simp [execOp, h1, h2, Sem.run_bind, lookup_run (ok := ok) ht hk (zero_of hz) ho]
theorem JL.makeMap (f : α → Value) {rs : Option Operand} (hrs : rs = none) (hd : Nat.blt d n = true)
    (kk : ∀ b, w0.heap.size ≤ b → JL P n w0 S ops Q l ((d, .map (some b)) :: E) (⟨b, MB f [] 0, true⟩ :: M)) : JL P n w0 S ops Q (⟨some d, .makeMap t rs, ty, pos, aft, none⟩ :: l) E M :=
  ⟨fun a w ha hw => wpList_plain rfl fun K hK => by
    subst hrs
    unfold Oper.wp
    simp only [execOp, Instr.makeMap, newObj, Sem.run_bind, Sem.run, Option.map_none, Sem.run_pure, Result.andThen_ok]
    exact hK _ _ ((kk w.heap.size hw.chg.size).go _ _ (ha.put d _ hd) (hw.push (.map #[] 0) rfl rfl rfl rfl rfl))⟩
theorem mapUpdate_run (ht : P.underlying t = some (.map k e)) (hk : P.underlying k = some .string) {w : World} (h : w.heap[b]? = some (.map (es.map (ME.en f)).toArray c)) :
    (Instr.mapUpdate t (.map (some b)) (Z key) (f v)).run P w = .ok () { w with heap := w.heap.setIfInBounds b (.map ((putL key v c es).map (ME.en f)).toArray (putC key es c)) } := by
  have h1 : ∀ w, (underlying t).run P w = .ok (.map k e) w := run_underlying ht
  simp only [Instr.mapUpdate, Sem.run_bind, h1, Result.andThen_ok, getMap h, checkKey_str _ hk, findKey_str hk, List.toList_toArray]
  unfold putC look
  cases hf : findM key es 0 with
  | none =>
    have e1 := putL_new (v := v) (c := c) hf
    simp only [setMap h, Option.map_none, Option.isSome_none, e1]
    simp [ME.en]
  | some p =>
    obtain ⟨j, u⟩ := p
    obtain ⟨_, h2, h3⟩ := putL_old f (v := v) (c := c) hf
    rw [Nat.sub_zero] at h2 h3
    have hn : findM key es 0 ≠ none := by rw [hf]; simp
    have hkj : ((es.map (ME.en f)).toArray[j]?).map (·.key) = some (Z key) := by
      have : ∀ {es : List (ME α)} {i j : Nat}, findM key es i = some (j, u) → ((es.map (ME.en f))[j - i]?).map (·.key) = some (Z key) := by
        intro es
        induction es with
        | nil => intro i j h; cases h
        | cons e es ih =>
          intro i j h
          rw [findM] at h
          by_cases hk : key = e.key
          · rw [if_pos hk, Option.some.injEq, Prod.mk.injEq] at h
            obtain ⟨rfl, _⟩ := h
            simp [ME.en, hk]
          · rw [if_neg hk] at h
            have h9 := (putL_old f (v := v) (c := c) h).1
            have := ih h
            rw [show j - i = (j - (i + 1)) + 1 by omega, List.map_cons, List.getElem?_cons_succ]
            exact this
      have := this hf
      rw [Nat.sub_zero] at this
      simpa using this
    have hst : (Instr.keyThatStays (Z key) (Z key)).run P w = .ok (Z key) w := by
      have : Instr.sameBits 10000 (Z key) (Z key) = true := by show (strB key == strB key) = true; rw [strB_beq, decide_eq_true rfl]
      simp only [Instr.keyThatStays, this, if_true, Sem.run_pure]
    simp only [Sem.run_bind, hkj, Option.getD_some, hst, Result.andThen_ok, setMap h, Option.map_some, Option.isSome_some, if_true]
    rw [← h3]
    simp
/-- m[k] = v -/
theorem JL.mapPut (ht : P.underlying t = some (.map k e)) (hk : P.underlying k = some .string) (hx : ev E x = some (.map (some b))) (hy : ev E y = some (Z key)) (hz : ev E z = some (f v))
    (hu : Upd M b (MB f es c) (MB f (putL key v c es) (putC key es c)) M')
    (kk : JL P n w0 S ops Q l E M') : JL P n w0 S ops Q (⟨none, .mapUpdate t x y z, ty, pos, aft, none⟩ :: l) E M :=
  ⟨fun a w ha hw => wpList_plain rfl fun K hK => by
    obtain ⟨o, ho, rfl⟩ := hw.get hu.has
    have hlt := (Array.getElem?_eq_some_iff.1 ho).1
    unfold Oper.wp
    simp only [execOp, ha.eval hx, ha.eval hy, ha.eval hz, Sem.run_bind, mapUpdate_run ht hk ho, Result.andThen_ok]
    refine hK _ _ (kk.go _ _ (ha.put_none _) (hw.write hu (o' := .map ((putL key v c es).map (ME.en f)).toArray (putC key es c)) rfl ?_ ?_ ?_ rfl rfl rfl))
    · simp [hlt]
    · simp
    · intro k hk
      simp [Array.getElem?_setIfInBounds, Ne.symm hk]⟩
theorem delete_run (ht : P.underlying t = some (.map k e)) (hk : P.underlying k = some .string) {w : World} (h : w.heap[b]? = some (.map (es.map (ME.en f)).toArray c)) :
    (Builtin.delete_ #[t, k] ty #[.map (some b), Z key]).run P w = .ok (.tuple #[]) { w with heap := w.heap.setIfInBounds b (.map ((delL key es).map (ME.en f)).toArray c) } := by
  have h1 : ∀ w, (underlying t).run P w = .ok (.map k e) w := run_underlying ht
  simp only [Builtin.delete_, List.getElem?_toArray, List.getElem?_cons_zero, List.getElem?_cons_succ, Sem.run_bind, h1, Result.andThen_ok, getMap h, checkKey_str _ hk, findKey_str hk, List.toList_toArray]
  cases hf : findM key es 0 with
  | none =>
    simp only [Option.map_none, Sem.run_bind, setMap h, Result.andThen_ok, Sem.run_pure, delL_new hf]
  | some p =>
    obtain ⟨j, u⟩ := p
    obtain ⟨_, h2, h3⟩ := delL_old f hf
    rw [Nat.sub_zero] at h2 h3
    have e3 : ((es.map (ME.en f)).toArray.eraseIdxIfInBounds j) = ((delL key es).map (ME.en f)).toArray := by
      rw [← h3]
      apply Array.toList_inj.1
      simp [Array.eraseIdxIfInBounds, h2]
    simp only [Option.map_some, Sem.run_bind, setMap h, Result.andThen_ok, Sem.run_pure, e3]
/-- range m -/
theorem JL.mapRange (ht : P.underlying t = some (.map k e)) (hx : ev E x = some (.map (some b))) (hM : Has M b (MB f es c) wr) (hd : Nat.blt d n = true)
    (kk : ∀ r, w0.heap.size ≤ r → JL P n w0 S ops Q l ((d, Pt r 0) :: E) (⟨r, IB b c [] c, true⟩ :: M)) : JL P n w0 S ops Q (⟨some d, .range t x, ty, pos, aft, none⟩ :: l) E M :=
  ⟨fun a w ha hw => wpList_plain rfl fun K hK => by
    obtain ⟨o, ho, rfl⟩ := hw.get hM
    unfold Oper.wp
    simp only [execOp, ha.eval hx, Sem.run_bind, run_range_map w t k e b _ c ht ho, Result.andThen_ok]
    exact hK _ _ ((kk w.heap.size hw.chg.size).go _ _ (ha.put d _ hd) (hw.push (.mapIter (some b) c #[] c) rfl rfl rfl rfl rfl))⟩
theorem next_run {w : World} {seen : List Nat} (hf : WF es c) (hb : w.heap[b]? = some (.map (es.map (ME.en f)).toArray c)) (hr : w.heap[r]? = some (.mapIter (some b) c seen.toArray c)) :
    ((∀ e ∈ es, e.born ∈ seen) ∧ (Instr.next (Pt r 0) false ty).run P w = .ok (.tuple #[.bool false]) w) ∨
    ∃ e ∈ es, e.born ∉ seen ∧ ∃ dr, (Instr.next (Pt r 0) false ty).run P w = .ok (.tuple #[.bool true, Z e.key, f e.val]) { w with drawn := dr, heap := w.heap.setIfInBounds r (.mapIter (some b) c (seen ++ [e.born]).toArray c) } := by
  have hold : ∀ x ∈ (es.map (ME.en f)).toArray.toList, x.born < c := fun x hx => by
    obtain ⟨e, he, rfl⟩ := List.mem_map.1 (by simpa using hx : x ∈ es.map (ME.en f))
    exact hf.lt e he
  have hg : ∀ w : World, w.heap[b]? = some (.map (es.map (ME.en f)).toArray c) → w.heap[r]? = some (.mapIter (some b) c seen.toArray c) → (getObj r).run P w = .ok (.mapIter (some b) c seen.toArray c) w := fun w _ h => by simp [getObj, Sem.run, h]
  simp only [Instr.next, Sem.run_bind, hg w hb hr, getMap hb, Result.andThen_ok, next_test_false seen.toArray _ c c hold (Nat.le_refl _), Bool.false_eq_true, if_false]
  have hL : Array.filter (fun e => !seen.toArray.contains e.born) (es.map (ME.en f)).toArray = ((es.filter fun e => !seen.contains e.born).map (ME.en f)).toArray := by
    rw [List.filter_toArray, List.filter_map]
    congr 3
    funext e
    exact congrArg (fun x => !x) (List.contains_toArray ..)
  rw [hL]
  have hmem : ∀ e ∈ es.filter (fun e => !seen.contains e.born), e ∈ es ∧ e.born ∉ seen := fun e he => by simpa using he
  have hall : (es.filter fun e => !seen.contains e.born) = [] → ∀ e ∈ es, e.born ∈ seen := fun h e he => by
    have := List.filter_eq_nil_iff.1 h e he
    simpa using this
  generalize (es.filter fun e => !seen.contains e.born) = L at hmem hall ⊢
  have e1 : Array.filter (fun x => decide (x.born < c)) (L.map (ME.en f)).toArray = (L.map (ME.en f)).toArray := Array.filter_eq_self.2 fun x hx => by
    obtain ⟨e, he, rfl⟩ := List.mem_map.1 (by simpa using hx : x ∈ L.map (ME.en f))
    exact decide_eq_true (hf.lt e (hmem e he).1)
  have e2 : Array.filter (fun x => decide (x.born ≥ c)) (L.map (ME.en f)).toArray = #[] := by
    rw [Array.filter_eq_empty_iff]
    intro x hx
    obtain ⟨e, he, rfl⟩ := List.mem_map.1 (by simpa using hx : x ∈ L.map (ME.en f))
    have := hf.lt e (hmem e he).1
    simp only [decide_eq_true_eq]
    show ¬ e.born ≥ c
    omega
  simp only [e1, e2, Array.append_empty]
  cases L with
  | nil =>
    left
    refine ⟨hall rfl, ?_⟩
    simp [choose, Sem.run, Question.forced]
  | cons e0 L =>
    right
    have hne : ((e0 :: L).map (ME.en f)).toArray.isEmpty = false := by simp
    simp only [hne, Bool.false_eq_true, if_false, Array.empty_append, Array.size_map]
    have hsz : ((e0 :: L).map (ME.en f)).toArray.size = (e0 :: L).length := by simp
    rw [hsz]
    have hch : ∃ (j : Nat) (dr : Nat), j < (e0 :: L).length ∧ (choose (Question.mapNext (e0 :: L).length)).run P w = .ok j { w with drawn := dr } := by
      by_cases hf : (e0 :: L).length ≤ 1
      · exact ⟨0, w.drawn, by simp, by simp only [choose, Sem.run, Question.forced, hf, decide_true, if_true]⟩
      · exact ⟨_, w.drawn + 1, Nat.mod_lt _ (by simp), by
          simp only [choose, Sem.run, Question.forced, decide_eq_true_eq, hf, if_false, Question.cut]
          rfl⟩
    obtain ⟨j, dr, hj, hrun⟩ := hch
    refine ⟨(e0 :: L)[j], (hmem _ (List.getElem_mem hj)).1, (hmem _ (List.getElem_mem hj)).2, dr, ?_⟩
    have hset : ∀ o', (setObj r o').run P { w with drawn := dr } = .ok () { w with drawn := dr, heap := w.heap.setIfInBounds r o' } := fun o' => by
      simp [setObj, Sem.run, hr]
    have hjj : ((e0 :: L).map (ME.en f)).toArray[j]? = some ((e0 :: L)[j].en f) := by
      rw [List.getElem?_toArray, List.getElem?_map, List.getElem?_eq_getElem hj]; rfl
    simp only [hrun, Array.getElem?_map, hjj, Option.map_some, Result.andThen_ok, Sem.run_bind, hset, Sem.run_pure]
    congr 3
    simp [ME.en]
/-- the next entry of a range, whichever -/
theorem JL.mapNext {seen : List Nat} (hf : WF es c) (hx : ev E x = some (Pt r 0)) (hb : Has M b (MB f es c) wr) {Mf : List Nat → List Ent} (hu : ∀ s', Upd M r (IB b c seen c) (IB b c s' c) (Mf s')) (hd : Nat.blt d n = true)
    (k1 : (∀ e ∈ es, e.born ∈ seen) → JL P n w0 S ops Q l ((d, .tuple #[.bool false]) :: E) M)
    (k2 : ∀ e ∈ es, e.born ∉ seen → JL P n w0 S ops Q l ((d, .tuple #[.bool true, Z e.key, f e.val]) :: E) (Mf (seen ++ [e.born]))) : JL P n w0 S ops Q (⟨some d, .next x false, ty, pos, aft, none⟩ :: l) E M := by
  refine ⟨fun a w ha hw => wpList_plain rfl fun K hK => ?_⟩
  obtain ⟨o, ho, rfl⟩ := hw.get hb
  obtain ⟨o2, ho2, rfl⟩ := hw.get (hu seen).has
  have hlt := (Array.getElem?_eq_some_iff.1 ho2).1
  rcases next_run (P := P) (ty := ty) hf ho ho2 with ⟨h1, h2⟩ | ⟨e, he, hne, dr, h2⟩
  · unfold Oper.wp
    simp only [execOp, ha.eval hx, Sem.run_bind, h2, Result.andThen_ok]
    exact hK _ _ ((k1 h1).go _ _ (ha.put d _ hd) hw)
  · unfold Oper.wp
    simp only [execOp, ha.eval hx, Sem.run_bind, h2, Result.andThen_ok]
    refine hK _ _ ((k2 e he hne).go _ _ (ha.put d _ hd) (hw.write (hu _) (o' := .mapIter (some b) c (seen ++ [e.born]).toArray c) rfl ?_ ?_ ?_ rfl rfl rfl))
    · simp [hlt]
    · simp
    · intro k hk
      simp [Array.getElem?_setIfInBounds, Ne.symm hk]
/-- the key and the value of the round -/
theorem OQ.entry {seen : List Nat} {m : ME α} {wr' : Bool} (hf : WF es c) (hx : ev E x = some (Pt r 0)) (hb : Has M b (MB f es c) wr) (hi : Has M r (IB b c (seen ++ [m.born]) c) wr') (hm : m ∈ es) :
    OQ P n E (Holds w0 S M) ⟨dst, .entry x, ty, pos, aft, g⟩ (.tuple #[Z m.key, f m.val]) :=
  OQ.run fun a ha w hw => by
    have h1 := ha.eval hx
    obtain ⟨o, ho, rfl⟩ := hw.get hb
    obtain ⟨o2, ho2, rfl⟩ := hw.get hi
    have hg : (getObj r).run P w = .ok (.mapIter (some b) c (seen ++ [m.born]).toArray c) w := by simp [getObj, Sem.run, ho2]
    have hfd : (es.map (ME.en f)).toArray.find? (·.born == (m.en f).born) = some (m.en f) := by
      rw [← Array.find?_toList]
      exact find_born (m.en f) (es.map (ME.en f)) (by rw [List.map_map]; exact hf.borns) (List.mem_map_of_mem hm)
    have hbk : (seen ++ [m.born]).toArray.back? = some (m.en f).born := by simp [ME.en]
    simp only [execOp, h1, Instr.entry, Sem.run_bind, hg, Result.andThen_ok, hbk, getMap ho, bne_self_eq_false, Bool.false_eq_true, if_false, hfd, Sem.run_pure]
    rfl
end
end Go.Proofs.Ytjkncnbpaejamaa

/-
  Of no statement by itself: pairs in memory; the landed store's mayBe, appendPair, counted, firstPair.
  Conditions: each theorem's own.
-/
namespace Go.Proofs.Ytjkncnbpaejamaa
set_option maxRecDepth 10000
open Sl Dsk Jrn Sto
/-- a pair in memory -/
structure PqS where
  key : Bk
  s : Sl8
  gone : Bool
def PqS.cs (p : PqS) : List Value := [Z p.key, p.s.v, .bool p.gone]
def PqS.p (p : PqS) : Pq := ⟨p.key, p.s.l, p.gone⟩
theorem pr3 : szT Try.prog 44 = some 3 := by kernel_rfl
theorem prAg : aggT Try.prog 44 = true := by kernel_rfl
theorem prZ : zc Try.prog 44 = some [Z [], .slice none 0 0, .bool false] := by kernel_rfl
theorem prI : EI Try.prog 44 (.agg #[Z [], .slice none 0 0, .bool false]) 3 48 := by unfold EI; kernel_rfl
theorem PqS.one (p : PqS) : p.cs.all Value.oneCell' = true := by simp [PqS.cs, Value.oneCell', Sl8.v]
section
variable {P : Program} {n : Nat} {E : Env} {C : World → Prop} {dst : Option Tmp} {t ty e : TypeId} {pos : String} {aft : Array Edge} {g : Option (Nat × Bool)} {x y x1 x2 x3 : Operand} {s : Sl8} {m : Nat} {k : IntKind}
theorem OQ.buildP {key : Bk} {b : Bool} (h1 : ev E x1 = some (Z key)) (h2 : ev E x2 = some s.v) (h3 : ev E x3 = some (.bool b)) :
    OQ Try.prog n E C ⟨dst, .build 44 #[(0, x1), (1, x2), (2, x3)], ty, pos, aft, g⟩ (.agg #[Z key, s.v, .bool b]) :=
  OQ.run fun a ha w _ => by
    have e1 := ha.eval h1
    have e2 := ha.eval h2
    have e3 := ha.eval h3
    have r := run_build (P := Try.prog) w 44 #[(0, Z key), (1, s.v), (2, .bool b)] #[Z key, s.v, .bool b] (by kernel_rfl)
    simp [execOp, e1, e2, e3, r]
/-- x[:m] and x[m:] by a number of any kind -/
theorem OQ.fstK (hu : P.underlying t = some (.slice e)) (hz : szT P e = some 1) (hx : ev E x = some s.v) (hh : ev E y = some (.int k (m : Int))) (h : m ≤ s.l.length) (hc : s.l.length ≤ s.cap) :
    OQ P n E C ⟨dst, .slice t x none (some y) none, ty, pos, aft, g⟩ (s.fst m).v :=
  OQ.to (OQ.run fun a ha w _ => by
    have h1 := ha.eval hx
    have h2 := ha.eval hh
    have h3 : (underlying t).run P w = .ok (.slice e) w := run_underlying hu w
    have h4 : m ≤ s.cap := Nat.le_trans h hc
    simp [execOp, h1, h2, Sl8.v, Instr.sliceAt, Sem.run_bind, h3, Instr.slice, Instr.sliceBounds, Instr.sliceBound, asIntOf, h4, sizeOf_run hz]) (Sl8.fst_v s m h)
theorem OQ.sndK (hu : P.underlying t = some (.slice e)) (hz : szT P e = some 1) (hx : ev E x = some s.v) (hl : ev E y = some (.int k (m : Int))) (h : m ≤ s.l.length) :
    OQ P n E C ⟨dst, .slice t x (some y) none none, ty, pos, aft, g⟩ (s.snd m).v :=
  OQ.to (OQ.run fun a ha w _ => by
    have h1 := ha.eval hx
    have h2 := ha.eval hl
    have h3 : (underlying t).run P w = .ok (.slice e) w := run_underlying hu w
    simp [execOp, h1, h2, Sl8.v, Instr.sliceAt, Sem.run_bind, h3, Instr.slice, Instr.sliceBounds, Instr.sliceBound, asIntOf, h, sizeOf_run hz]) (Sl8.snd_v s m)
end
theorem goes_mayBe : Goes Try.prog 45 := ⟨_, Try.func45, rfl, by kernel_rfl⟩
theorem okP_int (p : Pq) : okP p = (decide ((1 : Int) ≤ (p.key.length : Int)) && (decide ((p.key.length : Int) ≤ 1000) && !(p.gone && decide ((0 : Int) < (p.val.length : Int))))) := by
  unfold okP
  have h1 : decide ((1 : Int) ≤ (p.key.length : Int)) = decide (1 ≤ p.key.length) := decide_eq_decide.2 (by omega)
  have h2 : decide ((p.key.length : Int) ≤ 1000) = decide (p.key.length ≤ 1000) := decide_eq_decide.2 (by omega)
  have h3 : decide ((0 : Int) < (p.val.length : Int)) = decide (0 < p.val.length) := decide_eq_decide.2 (by omega)
  rw [h1, h2, h3]
set_option maxHeartbeats 8000000 in
theorem mayBe_any (p : PqS) (w : World) : Calls Try.prog 45 [.agg p.cs.toArray].toArray w fun e w' => e = .returned (.bool (okP p.p)) ∧ Ext w w' := by
  refine enter (n := 24) Try.func45 rfl rfl rfl (Holds.start w []) ?_
  obtain ⟨key, s, gone⟩ := p
  obtain ⟨c1, g1⟩ : ∃ c, decide ((1 : Int) ≤ (key.length : Int)) = c := ⟨_, rfl⟩
  obtain ⟨c2, g2⟩ : ∃ c, decide ((key.length : Int) ≤ 1000) = c := ⟨_, rfl⟩
  obtain ⟨c3, g3⟩ : ∃ c, decide ((0 : Int) < (s.l.length : Int)) = c := ⟨_, rfl⟩
  have e : okP (PqS.p ⟨key, s, gone⟩) = (c1 && (c2 && !(gone && c3))) := by rw [okP_int, ← g1, ← g2, ← g3]; rfl
  rw [e]
  repeat (first | refine JC.seq ?_ | refine JC.region ?_)
  refine JL.box (r := [Z key, s.v, .bool gone]) rfl rfl rfl fun b1 _ => ?_
  cases c1 <;> cases c2 <;> cases gone <;> cases c3
  all_goals (
    repeat (first | refine JL.q (by first | (apply OQ.load; exact strC; exact rfl; exact .here; exact (Row.cell (v := Z key) rfl)) | (apply OQ.lenS; exact Try.underlying9; exact rfl) | (apply OQ.geqB (b := 1); exact rfl; exact rfl; exact g1) | (apply OQ.leqB (b := 1000); exact rfl; exact rfl; exact g2) | (apply OQ.load; exact boolC; exact rfl; exact .here; exact (Row.cell (v := .bool true) rfl)) | (apply OQ.load; exact boolC; exact rfl; exact .here; exact (Row.cell (v := .bool false) rfl)) | (apply OQ.load; exact slCj; exact rfl; exact .here; exact (Row.cell (v := s.v) rfl)) | (apply OQ.len (k := s.l.length) (ad := s.ad) (cap := s.cap); exact Try.underlying33; exact rfl) | (apply OQ.gtrB (b := 0); exact rfl; exact rfl; exact g3) | (apply OQ.pick_t; exact rfl; exact rfl) | (apply OQ.pick_f; exact rfl; exact rfl) | (apply OQ.not; exact rfl) | (apply OQ.move; exact rfl) | (apply OQ.assign; exact rfl) | (apply OQ.fld; exact rfl; exact rfl; exact rfl; exact (by decide); exact rfl)) rfl ?_ | refine JC.seq ?_ | refine JC.region ?_ | refine JL.nil ?_ | refine JE.next ?_ | refine JL.gon rfl rfl ?_ | refine JL.gskip rfl rfl rfl rfl ?_ | refine JL.gskipU rfl rfl rfl rfl ?_)
    exact JC.ret (JE.ret1 rfl (RV.tmp rfl) fun w' hw => ⟨rfl, hw.chg⟩))
theorem goes_appP : Goes Try.prog 46 := ⟨_, Try.func46, rfl, by kernel_rfl⟩
section
variable {n : Nat} {w0 : World} {S : List Nat} {ops : Array Oper} {Q : Exit → Act → World → Prop} {l : List Oper} {E : Env} {M : List Ent}
variable {d : Nat} {ty : TypeId} {pos : String} {aft : Array Edge} {x1 x2 x3 : Operand} {ats : Array TypeId}
theorem JL.numAppN {q : Acc} {xs : Bk} {m size : Nat} (h0 : 0 < size) (h4 : size ≤ 8) (hm : m < 4294967296) (hq : q = none → xs = []) (hl : xs.length ≤ 70000000000000) (e1 : ev E x1 = some (accV q xs.length)) (e2 : ev E x2 = some (U64 (BitVec.ofNat 64 m))) (e3 : ev E x3 = some (N size)) (hd : Nat.blt d n = true)
    (kk : ∀ r : Nat × Nat, JL Try.prog n w0 S ops Q l ((d, accV (some r) (xs ++ be (BitVec.ofNat 32 m) size).length) :: E) (accE 5 (some r) ((xs ++ be (BitVec.ofNat 32 m) size).map U8) ++ M)) : JL Try.prog n w0 S ops Q (⟨some d, .call ⟨.value (.func 61), #[x1, x2, x3], ats⟩, ty, pos, aft, none⟩ :: l) E (accE 5 q (xs.map U8) ++ M) :=
  JL.numApp h0 h4 hq hl e1 e2 e3 hd (be64_nat hm size ▸ kk)
end
set_option maxHeartbeats 16000000 in
theorem appP_any (q : Acc) (xs : Bk) (p : PqS) (hq : q = none → xs = []) (hl : xs.length ≤ 60000000000000) (hok : okP p.p = true) (hv : p.s.l.length < 4294967296) (w : World) (hs : p.s.ok w) (hap : Away p.s (keys (accE 5 q (xs.map U8)))) (hw : Holds w (keys (accE 5 q (xs.map U8))) (accE 5 q (xs.map U8)) w) :
    Calls Try.prog 46 [accV q xs.length, .agg p.cs.toArray].toArray w fun e w' => ∃ r : Nat × Nat, e = .returned (accV (some r) (xs ++ encP p.p).length) ∧ Holds w (keys (accE 5 q (xs.map U8))) (accE 5 (some r) ((xs ++ encP p.p).map U8)) w' := by
  generalize keys (accE 5 q (xs.map U8)) = S at hw hap ⊢
  obtain ⟨key, s, gone⟩ := p
  have hk := okP_len hok
  dsimp only [PqS.p] at hk hv hs hap hok ⊢
  refine enter (n := 32) Try.func46 rfl rfl rfl hw ?_
  repeat (first | refine JC.seq ?_ | refine JC.region ?_)
  refine JL.box (r := [Z key, s.v, .bool gone]) rfl rfl rfl fun b3 _ => ?_
  repeat (first | refine JL.q (by first | (apply OQ.load; exact boolC; exact rfl; exact .here; exact (Row.cell (v := .bool gone) rfl)) | (apply OQ.assign; exact rfl) | (apply OQ.fld; exact rfl; exact rfl; exact rfl; exact (by decide); exact rfl)) rfl ?_ | refine JC.seq ?_ | refine JC.region ?_ | refine JL.nil ?_ | refine JE.next ?_)
  refine JC.join (ι := Unit) (fun _ => [(0, accV q xs.length), (3, Pt b3 0), (5, U8 (if gone then 1#8 else 0#8))]) (fun _ => accE 5 q (xs.map U8) ++ [⟨b3, Row 44 [Z key, s.v, .bool gone], true⟩]) (fun _ => True) ?_ fun _ _ => ?_
  · refine JC.cond rfl (fun hc => ?_) (fun hc => ?_)
    · subst hc
      repeat (first | refine JL.q (by (apply OQ.assign; exact rfl)) rfl ?_ | refine JC.region ?_ | refine JL.nil ?_)
      exact JE.perm (List.perm_append_comm (l₁ := [_])) (JE.mid () trivial (by repeat (first | exact SubE.nil | refine SubE.cons _ _ _ rfl ?_)) (Less.refl _))
    · subst hc
      repeat (refine JC.skip ?_)
      exact JE.perm (List.perm_append_comm (l₁ := [_])) (JE.mid () trivial (by repeat (first | exact SubE.nil | refine SubE.cons _ _ _ rfl ?_)) (Less.refl _))
  have he : xs ++ encP ⟨key, s.l, gone⟩ = xs ++ [if gone then 1#8 else 0#8] ++ be (BitVec.ofNat 32 key.length) 2 ++ key ++ be (BitVec.ofNat 32 s.l.length) 4 ++ s.l := by
    unfold encP
    simp [List.append_assoc]
  rw [he]
  generalize (if gone = true then 1#8 else 0#8) = sg
  repeat (first | refine JL.q (by (apply OQ.move; exact rfl)) rfl ?_ | refine JC.seq ?_ | refine JC.region ?_)
  refine JL.lit1 (v := U8 sg) Try.underlying33 u8e rfl rfl rfl rfl fun b10 _ => ?_
  refine JL.perm (M' := accE 5 q (xs.map U8) ++ [⟨b10, Row 5 [U8 sg], true⟩, ⟨b3, Row 44 [Z key, s.v, .bool gone], true⟩]) ?_ (by exact List.perm_middle.symm)
  refine JL.appendQ (xs := xs.map U8) (cs := [U8 sg]) (m := 1) (ad := some ⟨b10, 0, none⟩) (sc := 1) q Try.underlying33 u8e (fun e => by rw [hq e]; rfl) (by rw [List.length_map]; rfl) rfl rfl (fun w' hw' => ?_) (by simp [Value.oneCell']) rfl (by rw [List.length_map]; omega) (by rw [List.length_map]; omega) rfl fun q1 hq1 => ?_
  · obtain ⟨o, ho, hA⟩ := hw'.get (b := b10) (A := Row 5 [U8 sg]) (wr := true) (hasR .here)
    exact Reads.block ho (Row.all o hA)
  cases q1 with
  | none => exact absurd (hq1 rfl) (by simp)
  | some r1 =>
  clear hq1
  rw [show xs.map U8 ++ [U8 sg] = (xs ++ [sg]).map U8 by simp, List.length_map]
  have l1 : (xs ++ [sg]).length = xs.length + 1 := by simp
  generalize xs ++ [sg] = y1 at l1
  repeat (first | refine JL.q (by first | (apply OQ.load; exact strC; exact rfl; exact (hasR (N := accE 5 (some r1) (y1.map U8)) (.there .here)); exact (Row.cell (v := Z key) rfl)) | (apply OQ.lenS; exact Try.underlying9; exact rfl) | (apply OQ.convN_64; exact Try.underlying3; exact Try.underlying119; exact rfl) | (apply OQ.move; exact rfl) | (apply OQ.assign; exact rfl) | (apply OQ.fld; exact rfl; exact rfl; exact rfl; exact (by decide); exact rfl)) rfl ?_ | refine JC.seq ?_ | refine JC.region ?_ | refine JL.nil ?_ | refine JE.next ?_)
  refine JL.numAppN (q := some r1) (xs := y1) (m := key.length) (size := 2) (by decide) (by decide) (by omega) nofun (by omega) rfl rfl rfl rfl fun r2 => ?_
  have l2 : (y1 ++ be (BitVec.ofNat 32 key.length) 2).length = xs.length + 3 := by rw [List.length_append, be_len, l1]
  generalize y1 ++ be (BitVec.ofNat 32 key.length) 2 = y2 at l2
  repeat (first | refine JL.q (by first | (apply OQ.load; exact strC; exact rfl; exact (hasR (N := accE 5 (some r2) (y2.map U8)) (.there .here)); exact (Row.cell (v := Z key) rfl)) | (apply OQ.move; exact rfl) | (apply OQ.assign; exact rfl) | (apply OQ.fld; exact rfl; exact rfl; exact rfl; exact (by decide); exact rfl)) rfl ?_ | refine JC.seq ?_ | refine JC.region ?_ | refine JL.nil ?_ | refine JE.next ?_)
  refine JL.appendZ (r := key) (xs := y2.map U8) (some r2) Try.underlying33 Try.underlying9 u8e nofun (by rw [List.length_map]; rfl) rfl (fun e => by rw [e] at hk; simp at hk) (by rw [List.length_map]; omega) rfl fun r3 => ?_
  rw [← List.map_append, List.length_map]
  have l3 : (y2 ++ key).length = xs.length + 3 + key.length := by rw [List.length_append, l2]
  generalize y2 ++ key = y3 at l3
  repeat (first | refine JL.q (by first | (apply OQ.load; exact slCj; exact rfl; exact (hasR (N := accE 5 (some r3) (y3.map U8)) (.there .here)); exact (Row.cell (v := s.v) rfl)) | (apply OQ.len (k := s.l.length) (ad := s.ad) (cap := s.cap); exact Try.underlying33; exact rfl) | (apply OQ.convN_64; exact Try.underlying3; exact Try.underlying119; exact rfl) | (apply OQ.move; exact rfl) | (apply OQ.assign; exact rfl) | (apply OQ.fld; exact rfl; exact rfl; exact rfl; exact (by decide); exact rfl)) rfl ?_ | refine JC.seq ?_ | refine JC.region ?_ | refine JL.nil ?_ | refine JE.next ?_)
  refine JL.numAppN (q := some r3) (xs := y3) (m := s.l.length) (size := 4) (by decide) (by decide) hv nofun (by omega) rfl rfl rfl rfl fun r4 => ?_
  have l4 : (y3 ++ be (BitVec.ofNat 32 s.l.length) 4).length = xs.length + 7 + key.length := by rw [List.length_append, be_len, l3]; omega
  generalize y3 ++ be (BitVec.ofNat 32 s.l.length) 4 = y4 at l4
  repeat (first | refine JL.q (by first | (apply OQ.load; exact slCj; exact rfl; exact (hasR (N := accE 5 (some r4) (y4.map U8)) (.there .here)); exact (Row.cell (v := s.v) rfl)) | (apply OQ.move; exact rfl) | (apply OQ.assign; exact rfl) | (apply OQ.fld; exact rfl; exact rfl; exact rfl; exact (by decide); exact rfl)) rfl ?_ | refine JC.seq ?_ | refine JC.region ?_ | refine JL.nil ?_ | refine JE.next ?_)
  refine JL.appendQ (xs := y4.map U8) (cs := s.l.map U8) (m := s.l.length) (ad := s.ad) (sc := s.cap) (some r4) Try.underlying33 u8e nofun (by rw [List.length_map]; rfl) rfl (by simp) (fun w' hw' => (hs.away hw' hap).reads) (all8U _) rfl (by rw [List.length_map]; omega) (by rw [List.length_map]; omega) rfl fun q5 hq5 => ?_
  cases q5 with
  | none =>
    have := congrArg List.length (List.append_eq_nil_iff.1 (hq5 rfl)).1
    rw [List.length_map, List.length_nil] at this
    omega
  | some r5 =>
  clear hq5
  rw [← List.map_append, List.length_map]
  repeat (first | refine JL.q (by (apply OQ.assign; exact rfl)) rfl ?_ | refine JL.nil ?_ | refine JE.next ?_)
  exact JC.ret (JE.ret1 rfl (RV.tmp rfl) fun w' hw => ⟨r5, rfl, hw.weak (less_pre _ _)⟩)
theorem goes_counted : Goes Try.prog 62 := ⟨_, Try.func62, rfl, by kernel_rfl⟩
/-- what counted tells -/
def cntV (s : Sl8) (size : Nat) : Value := match cntd s.l size with
  | none => .tuple #[.slice none 0 0, .slice none 0 0, .bool false]
  | some (k, _) => .tuple #[((s.snd size).fst k.length).v, ((s.snd size).snd k.length).v, .bool true]
set_option maxHeartbeats 8000000 in
theorem counted_any (s : Sl8) (size : Nat) (h4 : size ≤ 4) (w : World) (hs : s.ok w) (hl : s.l.length < 9223372036854775808) : Calls Try.prog 62 [s.v, N size].toArray w fun e w' => e = .returned (cntV s size) ∧ Ext w w' := by
  refine enter (n := 30) Try.func62 rfl rfl rfl (Holds.start w []) ?_
  cases g1 : decide ((s.l.length : Int) < (size : Int))
  case true =>
    have e : cntV s size = .tuple #[.slice none 0 0, .slice none 0 0, .bool false] := by unfold cntV cntd; rw [if_pos (by have := of_decide_eq_true g1; omega)]
    rw [e]
    repeat (first | refine JL.q (by first | (apply OQ.len (k := s.l.length) (ad := s.ad) (cap := s.cap); exact Try.underlying33; exact rfl) | (apply OQ.lssB; exact rfl; exact rfl; exact g1) | (apply OQ.move; exact rfl) | (apply OQ.assign; exact rfl)) rfl ?_ | refine JC.seq ?_ | refine JC.region ?_ | refine JL.nil ?_ | refine JE.next ?_)
    refine JC.cond_true rfl rfl ?_
    repeat (first | refine JL.q (by (apply OQ.assign; exact rfl)) rfl ?_ | refine JC.seq ?_ | refine JC.region ?_ | refine JL.nil ?_ | refine JE.next ?_)
    refine JC.ret ?_
    repeat (refine JE.then_ret ?_)
    exact JE.ret3 rfl (RV.tmp rfl) (RV.tmp rfl) (RV.tmp rfl) fun w' hw => ⟨rfl, hw.chg⟩
  have hsz : size ≤ s.l.length := by have := of_decide_eq_false g1; omega
  have hc := hs.len
  have lf : (s.fst size).l.length = size := by show (s.l.take size).length = _; rw [List.length_take]; omega
  have ls : (s.snd size).l.length = s.l.length - size := by show (s.l.drop size).length = _; rw [List.length_drop]
  have cN := fun w' (ok : s.ok w') => numRead_any (s.fst size) w' (ok.fst size) (by rw [lf]; omega)
  have hn : (num64 (s.fst size).l).toNat = numB (s.l.take size) := num64_toNat (by rw [lf]; omega)
  have hlt : numB (s.l.take size) < 4294967296 := by
    have h1 := numB_lt (l := s.l.take size) (by rw [List.length_take]; omega)
    have : 256 ^ (s.l.take size).length ≤ 256 ^ 4 := Nat.pow_le_pow_right (by decide) (by rw [List.length_take]; omega)
    omega
  have hcd : cntd s.l size = if (s.l.drop size).length < numB (s.l.take size) then none else some ((s.l.drop size).take (numB (s.l.take size)), (s.l.drop size).drop (numB (s.l.take size))) := by unfold cntd; rw [if_neg (by omega)]
  generalize numB (s.l.take size) = k at hn hlt hcd
  have hvv : U64 (num64 (s.fst size).l) = .int .u64 (k : Int) := by show Value.int .u64 _ = _; rw [hn]
  rw [hvv] at cN
  repeat (first | refine JL.q (by first | (apply OQ.len (k := s.l.length) (ad := s.ad) (cap := s.cap); exact Try.underlying33; exact rfl) | (apply OQ.lssB; exact rfl; exact rfl; exact g1) | (apply OQ.move; exact rfl) | (apply OQ.assign; exact rfl)) rfl ?_ | refine JC.seq ?_ | refine JC.region ?_ | refine JL.nil ?_ | refine JE.next ?_)
  refine JC.cond_false rfl rfl ?_
  repeat (first | refine JC.seq ?_ | refine JC.skip ?_ | refine JE.next ?_)
  refine JC.quiet mixT (by kernel_rfl) ?_
  repeat (first | refine JL.q (by first | (apply OQ.fstK (s := s) (m := size); exact Try.underlying33; exact u8s; exact rfl; exact rfl; exact hsz; exact hc) | (apply OQ.callx (vs := [(s.fst size).v]); exact goes_numRead; exact rfl; exact (fun w' hw' => cN w' (hs.holds hw' rfl))) | (apply OQ.sndK (s := s) (m := size); exact Try.underlying33; exact u8s; exact rfl; exact rfl; exact hsz) | (apply OQ.len (k := (s.snd size).l.length) (ad := (s.snd size).ad) (cap := (s.snd size).cap); exact Try.underlying33; exact rfl) | (apply OQ.convN_64; exact Try.underlying3; exact Try.underlying119; exact rfl) | (apply OQ.move; exact rfl) | (apply OQ.assign; exact rfl)) rfl ?_ | refine JQ.q (by first | (apply OQ.fstK (s := s) (m := size); exact Try.underlying33; exact u8s; exact rfl; exact rfl; exact hsz; exact hc) | (apply OQ.callx (vs := [(s.fst size).v]); exact goes_numRead; exact rfl; exact (fun w' hw' => cN w' (hs.holds hw' rfl))) | (apply OQ.sndK (s := s) (m := size); exact Try.underlying33; exact u8s; exact rfl; exact rfl; exact hsz) | (apply OQ.len (k := (s.snd size).l.length) (ad := (s.snd size).ad) (cap := (s.snd size).cap); exact Try.underlying33; exact rfl) | (apply OQ.convN_64; exact Try.underlying3; exact Try.underlying119; exact rfl) | (apply OQ.move; exact rfl) | (apply OQ.assign; exact rfl)) rfl ?_ | refine JC.seq ?_ | refine JC.region ?_ | refine JQ.nil ?_ | refine JE.next ?_)
  have hw64 : ((BitVec.ofNat 64 (s.snd size).l.length).toNat : Int) = ((s.snd size).l.length : Int) := by rw [BitVec.toNat_ofNat, ls]; omega
  cases g2 : decide (((BitVec.ofNat 64 (s.snd size).l.length).toNat : Int) < (k : Int))
  case true =>
    have e : cntV s size = .tuple #[.slice none 0 0, .slice none 0 0, .bool false] := by
      unfold cntV
      rw [hcd, if_pos (by have := of_decide_eq_true g2; rw [hw64, ls] at this; rw [List.length_drop]; omega)]
    rw [e]
    repeat (first | refine JL.q (by (apply OQ.gtrB; exact rfl; exact rfl; exact g2)) rfl ?_ | refine JL.nil ?_ | refine JE.next ?_)
    refine JC.cond_true rfl rfl ?_
    repeat (first | refine JL.q (by (apply OQ.assign; exact rfl)) rfl ?_ | refine JC.seq ?_ | refine JC.region ?_ | refine JL.nil ?_ | refine JE.next ?_)
    refine JC.ret ?_
    repeat (refine JE.then_ret ?_)
    exact JE.ret3 rfl (RV.tmp rfl) (RV.tmp rfl) (RV.tmp rfl) fun w' hw => ⟨rfl, hw.chg⟩
  have hk : k ≤ (s.snd size).l.length := by have := of_decide_eq_false g2; rw [hw64] at this; omega
  have e : cntV s size = .tuple #[((s.snd size).fst k).v, ((s.snd size).snd k).v, .bool true] := by
    unfold cntV
    rw [hcd, if_neg (by rw [ls] at hk; rw [List.length_drop]; omega)]
    dsimp only
    rw [List.length_take, List.length_drop, Nat.min_eq_left (by rw [ls] at hk; exact hk)]
  rw [e]
  have hcs : (s.snd size).l.length ≤ (s.snd size).cap := (hs.snd size hsz).len
  repeat (first | refine JL.q (by (apply OQ.gtrB; exact rfl; exact rfl; exact g2)) rfl ?_ | refine JL.nil ?_ | refine JE.next ?_)
  refine JC.cond_false rfl rfl ?_
  repeat (first | refine JC.seq ?_ | refine JC.skip ?_ | refine JE.next ?_)
  refine JC.quiet mixT (by kernel_rfl) ?_
  repeat (first | refine JQ.q (by first | (apply OQ.fstK (s := s.snd size) (m := k); exact Try.underlying33; exact u8s; exact rfl; exact rfl; exact hk; exact hcs) | (apply OQ.sndK (s := s.snd size) (m := k); exact Try.underlying33; exact u8s; exact rfl; exact rfl; exact hk) | (apply OQ.move; exact rfl) | (apply OQ.assign; exact rfl)) rfl ?_ | refine JQ.nil ?_ | refine JE.next ?_)
  refine JC.ret ?_
  skip
  exact JE.ret3 rfl (RV.tmp rfl) (RV.tmp rfl) (RV.tmp rfl) fun w' hw => ⟨rfl, hw.chg⟩
theorem clone_s (s : Sl8) (w : World) (hs : s.ok w) (hl : s.l.length ≤ 4294967296) : Calls Try.prog 42 [s.v].toArray w fun e w' => ∃ q : {q : Acc // q = none → s.l = []}, e = .returned (accS q.1 s.l).v ∧ Holds w [] (accE 5 q.1 (s.l.map U8)) w' :=
  (clone_any s w hs hl).mono fun e w' ⟨q, h1, h2, h3⟩ => ⟨⟨q, h2⟩, by rw [accS_v]; exact h1, h3⟩
theorem goes_fstP : Goes Try.prog 47 := ⟨_, Try.func47, rfl, by kernel_rfl⟩
/-- what firstPair tells -/
structure Fz where
  key : Bk
  q : Acc
  v : Bk
  g : Bool
  r : Sl8
  there : Bool
def Fz.V (z : Fz) : Value := .tuple #[.agg #[Z z.key, (accS z.q z.v).v, .bool z.g], z.r.v, .bool z.there]
structure Fz.ok (z : Fz) (s : Sl8) : Prop where
  q : z.q = none → z.v = []
  t : fstP s.l = if z.there then some (⟨z.key, z.v, z.g⟩, z.r.l) else none
  r : z.there = true → ∀ w : World, s.ok w → z.r.ok w
theorem snd_l (s : Sl8) (m : Nat) : (s.snd m).l = s.l.drop m := rfl
theorem fst_l (s : Sl8) (m : Nat) : (s.fst m).l = s.l.take m := rfl
theorem cntV_is (s : Sl8) (size : Nat) : ∃ (k r : Sl8) (b : Bool), cntV s size = .tuple #[k.v, r.v, .bool b] ∧ (cntd s.l size = if b then some (k.l, r.l) else none) ∧ (∀ w : World, s.ok w → k.ok w ∧ r.ok w) ∧ k.l.length ≤ s.l.length ∧ r.l.length ≤ s.l.length := by
  cases h : cntd s.l size with
  | none => exact ⟨nilS, nilS, false, by unfold cntV; rw [h]; rfl, rfl, fun w _ => ⟨nilS_ok w, nilS_ok w⟩, Nat.zero_le _, Nat.zero_le _⟩
  | some kr =>
    obtain ⟨k, r⟩ := kr
    have h1 := cntd_len h
    have e1 : s.l.drop size = k ++ r := by
      have hs : size ≤ s.l.length := by omega
      have h2 := h1.2
      have h3 : (s.l.take size).length = size := by rw [List.length_take]; omega
      rw [h2, List.append_assoc, List.drop_left' h3]
    have e2 : ((s.snd size).fst k.length).l = k := by rw [fst_l, snd_l, e1, List.take_left' rfl]
    have e3 : ((s.snd size).snd k.length).l = r := by rw [snd_l, snd_l, e1, List.drop_left' rfl]
    refine ⟨(s.snd size).fst k.length, (s.snd size).snd k.length, true, by unfold cntV; rw [h], by rw [e2, e3]; rfl, fun w ok => ⟨(ok.snd size (by omega)).fst _, (ok.snd size (by omega)).snd _ (by rw [snd_l, e1, List.length_append]; omega)⟩, by rw [e2]; omega, by rw [e3]; omega⟩
theorem sgn_le (c : Bt) : decide ((c.toNat : Int) ≤ 1) = decide (c.toNat ≤ 1) := decide_eq_decide.2 (by omega)
set_option maxHeartbeats 32000000 in
theorem fstP_any (s : Sl8) (w : World) (hs : s.ok w) (h0 : s.l ≠ []) (hl : s.l.length ≤ 4294967296) : Calls Try.prog 47 [s.v].toArray w fun e w' => ∃ z : {z : Fz // z.ok s}, e = .returned z.1.V ∧ Holds w [] (accE 5 z.1.q (z.1.v.map U8)) w' := by
  have hpos : 0 < s.l.length := List.length_pos_iff.2 h0
  obtain ⟨ba, ja, hae, hca⟩ := hs.reads.at (by rw [List.length_map]; exact hpos)
  have hca := hca 0 _ (map_at U8 0 hpos)
  have hsv : s.v = .slice (some ⟨ba, ja, none⟩) s.l.length s.cap := by rw [← hae]; rfl
  have hla : s.l = s.l.getD 0 0 :: s.l.drop 1 := by
    cases hll : s.l with
    | nil => exact absurd hll h0
    | cons a t => rfl
  generalize s.l.getD 0 0 = c at hca hla
  refine enter (n := 47) Try.func47 rfl rfl rfl (Holds.start w []) ?_
  repeat (first | refine JC.seq ?_ | refine JC.region ?_)
  refine JL.alloc prZ rfl fun b2 _ => ?_
  rw [hsv]
  repeat (first | refine JL.q (by first | (apply OQ.idxS1 (i := 0); exact Try.underlying33; exact u8s; exact rfl; exact rfl; exact hpos) | (apply OQ.load_old; exact u8c; exact rfl; exact (block_lt_of_cell hca); exact (by simp); exact hca) | (apply OQ.move; exact rfl) | (apply OQ.assign; exact rfl)) rfl ?_ | refine JC.seq ?_ | refine JC.region ?_ | refine JL.nil ?_ | refine JE.next ?_)
  rw [← hsv]
  have ok1 := hs.snd 1 hpos
  obtain ⟨ks, r1, hk, ek, ck, okk1, lk, lr1⟩ := cntV_is (s.snd 1) 2
  obtain ⟨vs8, r2, hv, ev, cv, okv1, lv, lr2⟩ := cntV_is r1 4
  have okk := (okk1 w ok1).1
  have okr1 := (okk1 w ok1).2
  have okv := (okv1 w okr1).1
  have ls1 : (s.snd 1).l.length ≤ s.l.length := by rw [snd_l, List.length_drop]; omega
  have c1 := fun {w' : World} (ok : (s.snd 1).ok w') => counted_any (s.snd 1) 2 (by decide) w' ok (by omega)
  have c2 := fun {w' : World} (ok : r1.ok w') => counted_any r1 4 (by decide) w' ok (by omega)
  rw [ek] at c1
  rw [ev] at c2
  have hvl : vs8.l.length ≤ 4294967296 := by omega
  repeat (first | refine JL.q (by first | (apply OQ.sndK (s := s) (m := 1); exact Try.underlying33; exact u8s; exact rfl; exact rfl; exact hpos) | (apply OQ.callx (vs := [(s.snd 1).v, N 2]); exact goes_counted; exact rfl; exact (fun w' hw' => c1 (ok1.holds hw' rfl))) | (apply OQ.callx (vs := [r1.v, N 4]); exact goes_counted; exact rfl; exact (fun w' hw' => c2 (okr1.holds hw' rfl))) | (apply OQ.extract; exact rfl; exact rfl) | (apply OQ.move; exact rfl) | (apply OQ.assign; exact rfl)) rfl ?_ | refine JC.seq ?_ | refine JC.region ?_ | refine JL.nil ?_ | refine JE.next ?_)
  obtain ⟨g, hg⟩ : ∃ g, decide ((c.toNat : Int) = 1) = g := ⟨_, rfl⟩
  have hg2 : decide (c.toNat = 1) = g := by rw [← hg]; exact decide_eq_decide.2 (by omega)
  have ⟨rv, hRV⟩ : ∃ rv, r2.v = rv := ⟨_, rfl⟩
  rw [hRV]
  haveI : Inhabited {q : Acc // q = none → vs8.l = []} := ⟨⟨some (0, 0), nofun⟩⟩
  let vs : Nat → {q : Acc // q = none → vs8.l = []} → Value := fun j y => match j with
    | 0 => ks.v
    | 1 => Z ks.l
    | 2 => vs8.v
    | 3 => (accS y.1 vs8.l).v
    | 4 => U8 c
    | 5 => .bool g
    | 6 => .agg #[Z ks.l, (accS y.1 vs8.l).v, .bool g]
    | _ => N 0
  let Ms : Nat → {q : Acc // q = none → vs8.l = []} → List Ent := fun j y => match j with
    | 3 => accE 5 y.1 (vs8.l.map U8)
    | 7 => [⟨b2, Row 44 [Z ks.l, (accS y.1 vs8.l).v, .bool g], true⟩]
    | 8 => [⟨b2, Row 44 [Z [], .slice none 0 0, .bool false], true⟩]
    | _ => []
  refine JC.grow (g := ⟨[(0, s.v), (2, Pt b2 0), (3, rv), (5, U8 c), (6, ks.v), (7, .bool hk), (8, vs8.v), (9, .bool hv)], 9, vs, Ms, (fun j => match j with | 1 => [(0, 26)] | 3 => [(2, 28)] | 5 => [(4, 30)] | 6 => [(1, 27), (3, 29), (5, 31)] | 7 => [(6, 32)] | _ => []), (fun j => match j with | 7 => [8] | _ => []), (fun j => match j with | 7 => [8] | _ => []), (fun j => match j with | 6 => some 3 | 7 => some 6 | _ => none)⟩) [] [7, 3] mixT (by repeat (first | exact SubE.nil | refine SubE.cons _ _ _ rfl ?_)) ?_ (by kernel_rfl) (by kernel_rfl) (by kernel_rfl) ?_ ?_
  · exact Less.refl _
  · refine ⟨?_, ?_, ?_, ?_, ?_, ?_, ?_, ?_, trivial⟩
    · (intro xx EF MF Q kk; (try refine JL.gon rfl rfl ?_); exact JL.q (OQ.move rfl) rfl (JL.nil (kk default nofun)))
    · (intro xx EF MF Q kk; (try refine JL.gon rfl rfl ?_); exact JL.q (OQ.b2s (s := ks) Try.underlying33 Try.underlying5 Try.underlying9 rfl (fun w' hw' => okk.holds hw' rfl)) rfl (JL.nil (kk default nofun)))
    · (intro xx EF MF Q kk; (try refine JL.gon rfl rfl ?_); exact JL.q (OQ.move rfl) rfl (JL.nil (kk default nofun)))
    · (intro xx EF MF Q kk; exact JL.callg (ι := {q : Acc // q = none → vs8.l = []}) (vs := [vs8.v]) (fun q => (accS q.1 vs8.l).v) (fun q => accE 5 q.1 (vs8.l.map U8)) goes_clone rfl rfl (fun _ => accE_wr _ _ _) (fun w' hw' => clone_s vs8 w' (okv.holds hw' rfl) hvl) fun q => JL.nil (kk q nofun))
    · (intro xx EF MF Q kk; (try refine JL.gon rfl rfl ?_); exact JL.q (OQ.move rfl) rfl (JL.nil (kk default nofun)))
    · (intro xx EF MF Q kk; (try refine JL.gon rfl rfl ?_); exact JL.q (OQ.eqB (a := (c.toNat : Int)) (b := 1) rfl rfl hg) rfl (JL.nil (kk default nofun)))
    · (intro xx EF MF Q kk; exact JL.q (OQ.buildP rfl rfl rfl) rfl (JL.nil (kk (xx 3) (fun k h => by cases h; rfl))))
    · (intro xx EF MF Q kk; exact JL.store_all (cs := [Z ks.l, (accS (xx 6).1 vs8.l).v, .bool g]) pr3 rfl rfl rfl (by simp [Value.oneCell', Sl8.v]) .here rfl (JL.nil (kk (xx 6) (fun k h => by cases h; rfl))))
  · intro xx hx
    have e1 := hx 7 6 (by decide) rfl
    have e2 := hx 6 3 (by decide) rfl
    show JE _ _ _ _ _ [(0, s.v), (2, Pt b2 0), (3, rv), (5, U8 c), (6, ks.v), (7, .bool hk), (8, vs8.v), (9, .bool hv)] ([⟨b2, Row 44 [Z ks.l, (accS (xx 7).1 vs8.l).v, .bool g], true⟩] ++ (accE 5 (xx 3).1 (vs8.l.map U8) ++ []))
    rw [e1, e2]
    generalize xx 3 = q3
    clear hx e1 e2 xx vs Ms
    obtain ⟨q3, hq3⟩ := q3
    dsimp only
    refine JE.next ?_
    refine JC.seq ?_
    have hcp : (accS q3 vs8.l).l = vs8.l := accS_l hq3
    obtain ⟨c5, g5⟩ : ∃ c5, decide ((c.toNat : Int) ≤ 1) = c5 := ⟨_, rfl⟩
    have g5' : decide (c.toNat ≤ 1) = c5 := by rw [← sgn_le]; exact g5
    have cM := fun (w' : World) => mayBe_any ⟨ks.l, accS q3 vs8.l, g⟩ w'
    have eM : (PqS.mk ks.l (accS q3 vs8.l) g).p = ⟨ks.l, vs8.l, g⟩ := by show Pq.mk _ _ _ = _; rw [hcp]
    rw [eM] at cM
    have hfs : fstP s.l = if (hk && (hv && (c5 && okP ⟨ks.l, vs8.l, g⟩))) = true then some (⟨ks.l, vs8.l, g⟩, r2.l) else none := by
      rw [hla, fstP]
      rw [snd_l] at ck
      rw [ck]
      cases hk
      · rfl
      · simp only [if_true]
        rw [cv]
        cases hv
        · rfl
        · simp only [if_true, hg2]
          cases c5
          · rw [if_neg (fun hh => by rw [decide_eq_true hh.1] at g5'; cases g5')]; rfl
          · cases hok : okP ⟨ks.l, vs8.l, g⟩
            · rw [if_neg (fun hh => by cases hh.2)]; rfl
            · rw [if_pos ⟨of_decide_eq_true g5', rfl⟩]; rfl
    have hfin : ∀ there, there = (hk && (hv && (c5 && okP ⟨ks.l, vs8.l, g⟩))) → (Fz.mk ks.l q3 vs8.l g r2 there).ok s := fun there ht => ⟨hq3, by rw [ht]; exact hfs, fun _ w' ok => (okv1 w' (okk1 w' (ok.snd 1 hpos)).2).2⟩
    have hfin := hfin _ rfl
    generalize okP ⟨ks.l, vs8.l, g⟩ = ok4 at cM hfin
    clear hfs ck cv ek ev c1 c2
    cases hk
    · skip
      let vs : Nat → Unit → Value := fun j y => match j with
        | 0 => .agg (PqS.mk ks.l (accS q3 vs8.l) g).cs.toArray
        | 1 => rv
        | 2 => .bool false
        | 3 => .bool false
        | 4 => undef
        | 5 => .bool false
        | 6 => .bool false
        | 7 => undef
        | 8 => undef
        | 9 => .bool false
        | 10 => .bool false
        | 11 => undef
        | 12 => undef
        | 13 => .bool false
        | 15 => rv
        | 16 => .bool false
        | _ => N 0
      let Ms : Nat → Unit → List Ent := fun j y => match j with
        | 14 => [⟨b2, Row 44 (PqS.mk ks.l (accS q3 vs8.l) g).cs, true⟩]
        | 17 => [⟨b2, Row 44 (PqS.mk ks.l (accS q3 vs8.l) g).cs, true⟩]
        | 18 => accE 5 q3 (vs8.l.map U8)
        | _ => []
      refine JC.growO (g := ⟨[(2, Pt b2 0), (5, U8 c), (7, .bool false), (9, .bool hv)], 19, vs, Ms, (fun j => match j with | 3 => [(2, 35)] | 4 => [(3, 36)] | 5 => [(3, 36), (4, 37)] | 6 => [(5, 38)] | 7 => [(6, 39)] | 8 => [(7, 40), (6, 39)] | 9 => [(6, 39), (8, 41)] | 10 => [(9, 42)] | 11 => [(10, 43)] | 12 => [(11, 44), (10, 43)] | 13 => [(10, 43), (12, 45)] | 14 => [(0, 33)] | 15 => [(1, 34)] | 16 => [(13, 46)] | _ => []), (fun j => match j with | 0 => [17] | 14 => [17] | _ => []), (fun j => match j with | 14 => [17] | _ => []), (fun j => match j with | _ => none), (fun j => match j with | 1 => [(3, rv)] | _ => [])⟩) [(15, 3), (16, 4)] [14, 18] mixT (by repeat (first | exact SubE.nil | refine SubE.cons _ _ _ rfl ?_)) (fun i _ => by dsimp only; split <;> first | exact SubE.nil | exact (by repeat (first | exact SubE.nil | refine SubE.cons _ _ _ rfl ?_))) ?_ (by kernel_rfl) (by kernel_rfl) (by kernel_rfl) ?_ ?_
      · exact Less.refl _
      · refine ⟨?_, ?_, ?_, ?_, ?_, ?_, ?_, ?_, ?_, ?_, ?_, ?_, ?_, ?_, ?_, ?_, ?_, trivial⟩
        · (intro xx EF MF Q kk; (try refine JL.gon rfl rfl ?_); exact JL.q (OQ.load_agg (cs := (PqS.mk ks.l (accS q3 vs8.l) g).cs) prAg pr3 rfl .here rfl Row.all) rfl (JL.nil (kk default nofun)))
        · (intro xx EF MF Q kk; (try refine JL.gon rfl rfl ?_); exact JL.q (OQ.move rfl) rfl (JL.nil (kk default nofun)))
        · (intro xx EF MF Q kk; (try refine JL.gon rfl rfl ?_); exact JL.q (OQ.move rfl) rfl (JL.nil (kk default nofun)))
        · (intro xx EF MF Q kk; (try refine JL.gon rfl rfl ?_); exact JL.q (OQ.move rfl) rfl (JL.nil (kk default nofun)))
        · (intro xx EF MF Q kk; exact JL.gskip rfl rfl rfl rfl (JL.nil (kk default nofun)))
        · (intro xx EF MF Q kk; (try refine JL.gon rfl rfl ?_); exact JL.q (OQ.pick_f rfl rfl) rfl (JL.nil (kk default nofun)))
        · (intro xx EF MF Q kk; (try refine JL.gon rfl rfl ?_); exact JL.q (OQ.move rfl) rfl (JL.nil (kk default nofun)))
        · (intro xx EF MF Q kk; exact JL.gskip rfl rfl rfl rfl (JL.nil (kk default nofun)))
        · (intro xx EF MF Q kk; exact JL.gskip rfl rfl rfl rfl (JL.nil (kk default nofun)))
        · (intro xx EF MF Q kk; (try refine JL.gon rfl rfl ?_); exact JL.q (OQ.pick_f rfl rfl) rfl (JL.nil (kk default nofun)))
        · (intro xx EF MF Q kk; (try refine JL.gon rfl rfl ?_); exact JL.q (OQ.move rfl) rfl (JL.nil (kk default nofun)))
        · (intro xx EF MF Q kk; exact JL.gskip rfl rfl rfl rfl (JL.nil (kk default nofun)))
        · (intro xx EF MF Q kk; exact JL.gskip rfl rfl rfl rfl (JL.nil (kk default nofun)))
        · (intro xx EF MF Q kk; (try refine JL.gon rfl rfl ?_); exact JL.q (OQ.pick_f rfl rfl) rfl (JL.nil (kk default nofun)))
        · (intro xx EF MF Q kk; exact JL.store_all (cs := (PqS.mk ks.l (accS q3 vs8.l) g).cs) pr3 rfl rfl rfl (PqS.one _) .here rfl (JL.nil (kk default nofun)))
        · (intro xx EF MF Q kk; (try refine JL.gon rfl rfl ?_); exact JL.q (OQ.assign rfl) rfl (JL.nil (kk default nofun)))
        · (intro xx EF MF Q kk; (try refine JL.gon rfl rfl ?_); exact JL.q (OQ.assign rfl) rfl (JL.nil (kk default nofun)))
      · intro xx hx
        show JE _ _ _ _ _ [(3, rv), (4, .bool false), (2, Pt b2 0), (5, U8 c), (7, .bool false), (9, .bool hv)] ([⟨b2, Row 44 (PqS.mk ks.l (accS q3 vs8.l) g).cs, true⟩] ++ (accE 5 q3 (vs8.l.map U8) ++ []))
        clear hx xx vs Ms
        refine JE.next ?_
        exact JC.ret (JE.ret3 rfl (RV.cell_agg (cs := (PqS.mk ks.l (accS q3 vs8.l) g).cs) prAg pr3 rfl .here rfl Row.all) (RV.tmp rfl) (RV.tmp rfl) fun w' hw => ⟨⟨_, hfin⟩, by rw [← hRV]; rfl, (hw.weak (.drop _ _ _ (less_pre _ _)))⟩)
    · cases hv
      · skip
        let vs : Nat → Unit → Value := fun j y => match j with
          | 0 => .agg (PqS.mk ks.l (accS q3 vs8.l) g).cs.toArray
          | 1 => rv
          | 2 => .bool true
          | 3 => .bool true
          | 4 => .bool false
          | 5 => .bool false
          | 6 => .bool false
          | 7 => undef
          | 8 => undef
          | 9 => .bool false
          | 10 => .bool false
          | 11 => undef
          | 12 => undef
          | 13 => .bool false
          | 15 => rv
          | 16 => .bool false
          | _ => N 0
        let Ms : Nat → Unit → List Ent := fun j y => match j with
          | 14 => [⟨b2, Row 44 (PqS.mk ks.l (accS q3 vs8.l) g).cs, true⟩]
          | 17 => [⟨b2, Row 44 (PqS.mk ks.l (accS q3 vs8.l) g).cs, true⟩]
          | 18 => accE 5 q3 (vs8.l.map U8)
          | _ => []
        refine JC.growO (g := ⟨[(2, Pt b2 0), (5, U8 c), (7, .bool true), (9, .bool false)], 19, vs, Ms, (fun j => match j with | 3 => [(2, 35)] | 4 => [(3, 36)] | 5 => [(3, 36), (4, 37)] | 6 => [(5, 38)] | 7 => [(6, 39)] | 8 => [(7, 40), (6, 39)] | 9 => [(6, 39), (8, 41)] | 10 => [(9, 42)] | 11 => [(10, 43)] | 12 => [(11, 44), (10, 43)] | 13 => [(10, 43), (12, 45)] | 14 => [(0, 33)] | 15 => [(1, 34)] | 16 => [(13, 46)] | _ => []), (fun j => match j with | 0 => [17] | 14 => [17] | _ => []), (fun j => match j with | 14 => [17] | _ => []), (fun j => match j with | _ => none), (fun j => match j with | 1 => [(3, rv)] | _ => [])⟩) [(15, 3), (16, 4)] [14, 18] mixT (by repeat (first | exact SubE.nil | refine SubE.cons _ _ _ rfl ?_)) (fun i _ => by dsimp only; split <;> first | exact SubE.nil | exact (by repeat (first | exact SubE.nil | refine SubE.cons _ _ _ rfl ?_))) ?_ (by kernel_rfl) (by kernel_rfl) (by kernel_rfl) ?_ ?_
        · exact Less.refl _
        · refine ⟨?_, ?_, ?_, ?_, ?_, ?_, ?_, ?_, ?_, ?_, ?_, ?_, ?_, ?_, ?_, ?_, ?_, trivial⟩
          · (intro xx EF MF Q kk; (try refine JL.gon rfl rfl ?_); exact JL.q (OQ.load_agg (cs := (PqS.mk ks.l (accS q3 vs8.l) g).cs) prAg pr3 rfl .here rfl Row.all) rfl (JL.nil (kk default nofun)))
          · (intro xx EF MF Q kk; (try refine JL.gon rfl rfl ?_); exact JL.q (OQ.move rfl) rfl (JL.nil (kk default nofun)))
          · (intro xx EF MF Q kk; (try refine JL.gon rfl rfl ?_); exact JL.q (OQ.move rfl) rfl (JL.nil (kk default nofun)))
          · (intro xx EF MF Q kk; (try refine JL.gon rfl rfl ?_); exact JL.q (OQ.move rfl) rfl (JL.nil (kk default nofun)))
          · (intro xx EF MF Q kk; (try refine JL.gon rfl rfl ?_); exact JL.q (OQ.move rfl) rfl (JL.nil (kk default nofun)))
          · (intro xx EF MF Q kk; (try refine JL.gon rfl rfl ?_); exact JL.q (OQ.pick_t rfl rfl) rfl (JL.nil (kk default nofun)))
          · (intro xx EF MF Q kk; (try refine JL.gon rfl rfl ?_); exact JL.q (OQ.move rfl) rfl (JL.nil (kk default nofun)))
          · (intro xx EF MF Q kk; exact JL.gskip rfl rfl rfl rfl (JL.nil (kk default nofun)))
          · (intro xx EF MF Q kk; exact JL.gskip rfl rfl rfl rfl (JL.nil (kk default nofun)))
          · (intro xx EF MF Q kk; (try refine JL.gon rfl rfl ?_); exact JL.q (OQ.pick_f rfl rfl) rfl (JL.nil (kk default nofun)))
          · (intro xx EF MF Q kk; (try refine JL.gon rfl rfl ?_); exact JL.q (OQ.move rfl) rfl (JL.nil (kk default nofun)))
          · (intro xx EF MF Q kk; exact JL.gskip rfl rfl rfl rfl (JL.nil (kk default nofun)))
          · (intro xx EF MF Q kk; exact JL.gskip rfl rfl rfl rfl (JL.nil (kk default nofun)))
          · (intro xx EF MF Q kk; (try refine JL.gon rfl rfl ?_); exact JL.q (OQ.pick_f rfl rfl) rfl (JL.nil (kk default nofun)))
          · (intro xx EF MF Q kk; exact JL.store_all (cs := (PqS.mk ks.l (accS q3 vs8.l) g).cs) pr3 rfl rfl rfl (PqS.one _) .here rfl (JL.nil (kk default nofun)))
          · (intro xx EF MF Q kk; (try refine JL.gon rfl rfl ?_); exact JL.q (OQ.assign rfl) rfl (JL.nil (kk default nofun)))
          · (intro xx EF MF Q kk; (try refine JL.gon rfl rfl ?_); exact JL.q (OQ.assign rfl) rfl (JL.nil (kk default nofun)))
        · intro xx hx
          show JE _ _ _ _ _ [(3, rv), (4, .bool false), (2, Pt b2 0), (5, U8 c), (7, .bool true), (9, .bool false)] ([⟨b2, Row 44 (PqS.mk ks.l (accS q3 vs8.l) g).cs, true⟩] ++ (accE 5 q3 (vs8.l.map U8) ++ []))
          clear hx xx vs Ms
          refine JE.next ?_
          exact JC.ret (JE.ret3 rfl (RV.cell_agg (cs := (PqS.mk ks.l (accS q3 vs8.l) g).cs) prAg pr3 rfl .here rfl Row.all) (RV.tmp rfl) (RV.tmp rfl) fun w' hw => ⟨⟨_, hfin⟩, by rw [← hRV]; rfl, (hw.weak (.drop _ _ _ (less_pre _ _)))⟩)
      · cases c5
        · skip
          let vs : Nat → Unit → Value := fun j y => match j with
            | 0 => .agg (PqS.mk ks.l (accS q3 vs8.l) g).cs.toArray
            | 1 => rv
            | 2 => .bool true
            | 3 => .bool true
            | 4 => .bool true
            | 5 => .bool true
            | 6 => .bool true
            | 7 => U8 c
            | 8 => .bool false
            | 9 => .bool false
            | 10 => .bool false
            | 11 => undef
            | 12 => undef
            | 13 => .bool false
            | 15 => rv
            | 16 => .bool false
            | _ => N 0
          let Ms : Nat → Unit → List Ent := fun j y => match j with
            | 14 => [⟨b2, Row 44 (PqS.mk ks.l (accS q3 vs8.l) g).cs, true⟩]
            | 17 => [⟨b2, Row 44 (PqS.mk ks.l (accS q3 vs8.l) g).cs, true⟩]
            | 18 => accE 5 q3 (vs8.l.map U8)
            | _ => []
          refine JC.growO (g := ⟨[(2, Pt b2 0), (5, U8 c), (7, .bool true), (9, .bool true)], 19, vs, Ms, (fun j => match j with | 3 => [(2, 35)] | 4 => [(3, 36)] | 5 => [(3, 36), (4, 37)] | 6 => [(5, 38)] | 7 => [(6, 39)] | 8 => [(7, 40), (6, 39)] | 9 => [(6, 39), (8, 41)] | 10 => [(9, 42)] | 11 => [(10, 43)] | 12 => [(11, 44), (10, 43)] | 13 => [(10, 43), (12, 45)] | 14 => [(0, 33)] | 15 => [(1, 34)] | 16 => [(13, 46)] | _ => []), (fun j => match j with | 0 => [17] | 14 => [17] | _ => []), (fun j => match j with | 14 => [17] | _ => []), (fun j => match j with | _ => none), (fun j => match j with | 1 => [(3, rv)] | _ => [])⟩) [(15, 3), (16, 4)] [14, 18] mixT (by repeat (first | exact SubE.nil | refine SubE.cons _ _ _ rfl ?_)) (fun i _ => by dsimp only; split <;> first | exact SubE.nil | exact (by repeat (first | exact SubE.nil | refine SubE.cons _ _ _ rfl ?_))) ?_ (by kernel_rfl) (by kernel_rfl) (by kernel_rfl) ?_ ?_
          · exact Less.refl _
          · refine ⟨?_, ?_, ?_, ?_, ?_, ?_, ?_, ?_, ?_, ?_, ?_, ?_, ?_, ?_, ?_, ?_, ?_, trivial⟩
            · (intro xx EF MF Q kk; (try refine JL.gon rfl rfl ?_); exact JL.q (OQ.load_agg (cs := (PqS.mk ks.l (accS q3 vs8.l) g).cs) prAg pr3 rfl .here rfl Row.all) rfl (JL.nil (kk default nofun)))
            · (intro xx EF MF Q kk; (try refine JL.gon rfl rfl ?_); exact JL.q (OQ.move rfl) rfl (JL.nil (kk default nofun)))
            · (intro xx EF MF Q kk; (try refine JL.gon rfl rfl ?_); exact JL.q (OQ.move rfl) rfl (JL.nil (kk default nofun)))
            · (intro xx EF MF Q kk; (try refine JL.gon rfl rfl ?_); exact JL.q (OQ.move rfl) rfl (JL.nil (kk default nofun)))
            · (intro xx EF MF Q kk; (try refine JL.gon rfl rfl ?_); exact JL.q (OQ.move rfl) rfl (JL.nil (kk default nofun)))
            · (intro xx EF MF Q kk; (try refine JL.gon rfl rfl ?_); exact JL.q (OQ.pick_t rfl rfl) rfl (JL.nil (kk default nofun)))
            · (intro xx EF MF Q kk; (try refine JL.gon rfl rfl ?_); exact JL.q (OQ.move rfl) rfl (JL.nil (kk default nofun)))
            · (intro xx EF MF Q kk; (try refine JL.gon rfl rfl ?_); exact JL.q (OQ.move rfl) rfl (JL.nil (kk default nofun)))
            · (intro xx EF MF Q kk; (try refine JL.gon rfl rfl ?_); exact JL.q (OQ.leqB (a := (c.toNat : Int)) (b := 1) rfl rfl g5) rfl (JL.nil (kk default nofun)))
            · (intro xx EF MF Q kk; (try refine JL.gon rfl rfl ?_); exact JL.q (OQ.pick_t rfl rfl) rfl (JL.nil (kk default nofun)))
            · (intro xx EF MF Q kk; (try refine JL.gon rfl rfl ?_); exact JL.q (OQ.move rfl) rfl (JL.nil (kk default nofun)))
            · (intro xx EF MF Q kk; exact JL.gskip rfl rfl rfl rfl (JL.nil (kk default nofun)))
            · (intro xx EF MF Q kk; exact JL.gskip rfl rfl rfl rfl (JL.nil (kk default nofun)))
            · (intro xx EF MF Q kk; (try refine JL.gon rfl rfl ?_); exact JL.q (OQ.pick_f rfl rfl) rfl (JL.nil (kk default nofun)))
            · (intro xx EF MF Q kk; exact JL.store_all (cs := (PqS.mk ks.l (accS q3 vs8.l) g).cs) pr3 rfl rfl rfl (PqS.one _) .here rfl (JL.nil (kk default nofun)))
            · (intro xx EF MF Q kk; (try refine JL.gon rfl rfl ?_); exact JL.q (OQ.assign rfl) rfl (JL.nil (kk default nofun)))
            · (intro xx EF MF Q kk; (try refine JL.gon rfl rfl ?_); exact JL.q (OQ.assign rfl) rfl (JL.nil (kk default nofun)))
          · intro xx hx
            show JE _ _ _ _ _ [(3, rv), (4, .bool false), (2, Pt b2 0), (5, U8 c), (7, .bool true), (9, .bool true)] ([⟨b2, Row 44 (PqS.mk ks.l (accS q3 vs8.l) g).cs, true⟩] ++ (accE 5 q3 (vs8.l.map U8) ++ []))
            clear hx xx vs Ms
            refine JE.next ?_
            exact JC.ret (JE.ret3 rfl (RV.cell_agg (cs := (PqS.mk ks.l (accS q3 vs8.l) g).cs) prAg pr3 rfl .here rfl Row.all) (RV.tmp rfl) (RV.tmp rfl) fun w' hw => ⟨⟨_, hfin⟩, by rw [← hRV]; rfl, (hw.weak (.drop _ _ _ (less_pre _ _)))⟩)
        · skip
          let vs : Nat → Unit → Value := fun j y => match j with
            | 0 => .agg (PqS.mk ks.l (accS q3 vs8.l) g).cs.toArray
            | 1 => rv
            | 2 => .bool true
            | 3 => .bool true
            | 4 => .bool true
            | 5 => .bool true
            | 6 => .bool true
            | 7 => U8 c
            | 8 => .bool true
            | 9 => .bool true
            | 10 => .bool true
            | 11 => .agg (PqS.mk ks.l (accS q3 vs8.l) g).cs.toArray
            | 12 => .bool ok4
            | 13 => .bool ok4
            | 15 => rv
            | 16 => .bool ok4
            | _ => N 0
          let Ms : Nat → Unit → List Ent := fun j y => match j with
            | 14 => [⟨b2, Row 44 (PqS.mk ks.l (accS q3 vs8.l) g).cs, true⟩]
            | 17 => [⟨b2, Row 44 (PqS.mk ks.l (accS q3 vs8.l) g).cs, true⟩]
            | 18 => accE 5 q3 (vs8.l.map U8)
            | _ => []
          refine JC.growO (g := ⟨[(2, Pt b2 0), (5, U8 c), (7, .bool true), (9, .bool true)], 19, vs, Ms, (fun j => match j with | 3 => [(2, 35)] | 4 => [(3, 36)] | 5 => [(3, 36), (4, 37)] | 6 => [(5, 38)] | 7 => [(6, 39)] | 8 => [(7, 40), (6, 39)] | 9 => [(6, 39), (8, 41)] | 10 => [(9, 42)] | 11 => [(10, 43)] | 12 => [(11, 44), (10, 43)] | 13 => [(10, 43), (12, 45)] | 14 => [(0, 33)] | 15 => [(1, 34)] | 16 => [(13, 46)] | _ => []), (fun j => match j with | 0 => [17] | 11 => [17] | 14 => [17] | _ => []), (fun j => match j with | 14 => [17] | _ => []), (fun j => match j with | _ => none), (fun j => match j with | 1 => [(3, rv)] | _ => [])⟩) [(15, 3), (16, 4)] [14, 18] mixT (by repeat (first | exact SubE.nil | refine SubE.cons _ _ _ rfl ?_)) (fun i _ => by dsimp only; split <;> first | exact SubE.nil | exact (by repeat (first | exact SubE.nil | refine SubE.cons _ _ _ rfl ?_))) ?_ (by kernel_rfl) (by kernel_rfl) (by kernel_rfl) ?_ ?_
          · exact Less.refl _
          · refine ⟨?_, ?_, ?_, ?_, ?_, ?_, ?_, ?_, ?_, ?_, ?_, ?_, ?_, ?_, ?_, ?_, ?_, trivial⟩
            · (intro xx EF MF Q kk; (try refine JL.gon rfl rfl ?_); exact JL.q (OQ.load_agg (cs := (PqS.mk ks.l (accS q3 vs8.l) g).cs) prAg pr3 rfl .here rfl Row.all) rfl (JL.nil (kk default nofun)))
            · (intro xx EF MF Q kk; (try refine JL.gon rfl rfl ?_); exact JL.q (OQ.move rfl) rfl (JL.nil (kk default nofun)))
            · (intro xx EF MF Q kk; (try refine JL.gon rfl rfl ?_); exact JL.q (OQ.move rfl) rfl (JL.nil (kk default nofun)))
            · (intro xx EF MF Q kk; (try refine JL.gon rfl rfl ?_); exact JL.q (OQ.move rfl) rfl (JL.nil (kk default nofun)))
            · (intro xx EF MF Q kk; (try refine JL.gon rfl rfl ?_); exact JL.q (OQ.move rfl) rfl (JL.nil (kk default nofun)))
            · (intro xx EF MF Q kk; (try refine JL.gon rfl rfl ?_); exact JL.q (OQ.pick_t rfl rfl) rfl (JL.nil (kk default nofun)))
            · (intro xx EF MF Q kk; (try refine JL.gon rfl rfl ?_); exact JL.q (OQ.move rfl) rfl (JL.nil (kk default nofun)))
            · (intro xx EF MF Q kk; (try refine JL.gon rfl rfl ?_); exact JL.q (OQ.move rfl) rfl (JL.nil (kk default nofun)))
            · (intro xx EF MF Q kk; (try refine JL.gon rfl rfl ?_); exact JL.q (OQ.leqB (a := (c.toNat : Int)) (b := 1) rfl rfl g5) rfl (JL.nil (kk default nofun)))
            · (intro xx EF MF Q kk; (try refine JL.gon rfl rfl ?_); exact JL.q (OQ.pick_t rfl rfl) rfl (JL.nil (kk default nofun)))
            · (intro xx EF MF Q kk; (try refine JL.gon rfl rfl ?_); exact JL.q (OQ.move rfl) rfl (JL.nil (kk default nofun)))
            · (intro xx EF MF Q kk; (try refine JL.gon rfl rfl ?_); exact JL.q (OQ.load_agg (cs := (PqS.mk ks.l (accS q3 vs8.l) g).cs) prAg pr3 rfl .here rfl Row.all) rfl (JL.nil (kk default nofun)))
            · (intro xx EF MF Q kk; (try refine JL.gon rfl rfl ?_); exact JL.q (OQ.callx (vs := [.agg (PqS.mk ks.l (accS q3 vs8.l) g).cs.toArray]) goes_mayBe rfl (fun w' _ => cM w')) rfl (JL.nil (kk default nofun)))
            · (intro xx EF MF Q kk; (try refine JL.gon rfl rfl ?_); exact JL.q (OQ.pick_t rfl rfl) rfl (JL.nil (kk default nofun)))
            · (intro xx EF MF Q kk; exact JL.store_all (cs := (PqS.mk ks.l (accS q3 vs8.l) g).cs) pr3 rfl rfl rfl (PqS.one _) .here rfl (JL.nil (kk default nofun)))
            · (intro xx EF MF Q kk; (try refine JL.gon rfl rfl ?_); exact JL.q (OQ.assign rfl) rfl (JL.nil (kk default nofun)))
            · (intro xx EF MF Q kk; (try refine JL.gon rfl rfl ?_); exact JL.q (OQ.assign rfl) rfl (JL.nil (kk default nofun)))
          · intro xx hx
            show JE _ _ _ _ _ [(3, rv), (4, .bool ok4), (2, Pt b2 0), (5, U8 c), (7, .bool true), (9, .bool true)] ([⟨b2, Row 44 (PqS.mk ks.l (accS q3 vs8.l) g).cs, true⟩] ++ (accE 5 q3 (vs8.l.map U8) ++ []))
            clear hx xx vs Ms
            refine JE.next ?_
            exact JC.ret (JE.ret3 rfl (RV.cell_agg (cs := (PqS.mk ks.l (accS q3 vs8.l) g).cs) prAg pr3 rfl .here rfl Row.all) (RV.tmp rfl) (RV.tmp rfl) fun w' hw => ⟨⟨_, hfin⟩, by rw [← hRV]; rfl, (hw.weak (.drop _ _ _ (less_pre _ _)))⟩)
end Go.Proofs.Ytjkncnbpaejamaa

/-
  Of no statement by itself: slices of pairs; the landed store's Encode, Decode.
  Conditions: each theorem's own.
-/
namespace Go.Proofs.Ytjkncnbpaejamaa
set_option maxRecDepth 10000
open Sl Dsk Jrn Sto
/-- a slice of pairs -/
structure SlP where
  ad : Option Addr
  cap : Nat
  l : List PqS
def SlP.v (s : SlP) : Value := .slice s.ad s.l.length s.cap
def SlP.ps (s : SlP) : List Pq := s.l.map PqS.p
structure SlP.ok (w : World) (s : SlP) : Prop where
  len : s.l.length ≤ s.cap
  reads : Reads w s.ad (s.l.map PqS.cs).flatten
  all : ∀ p ∈ s.l, p.s.ok w
def noP : PqS := ⟨[], nilS, false⟩
theorem cs3 (l : List PqS) : ∀ c ∈ l.map PqS.cs, c.length = 3 := by
  intro c hc
  obtain ⟨d, _, rfl⟩ := List.mem_map.1 hc
  rfl
theorem SlP.ok.at {w : World} {s : SlP} (h : s.ok w) {i : Nat} (hi : i < s.l.length) : ∃ b j, s.ad = some ⟨b, j, none⟩ ∧ b < w.heap.size ∧ ∀ k u, ((s.l.getD i noP).cs)[k]? = some u → w.cell? ⟨b, j + i * 3 + k, none⟩ = some u := by
  have hl := chunk_len (cs3 s.l)
  rw [List.length_map] at hl
  have h0 : 0 < (s.l.map PqS.cs).flatten.length := by omega
  obtain ⟨b, j, e, hc⟩ := h.reads.at h0
  refine ⟨b, j, e, ?_, fun k u hu => ?_⟩
  · obtain ⟨v, hv⟩ : ∃ v, (s.l.map PqS.cs).flatten[0]? = some v := ⟨_, List.getElem?_eq_getElem h0⟩
    exact block_lt_of_cell (hc 0 v hv)
  · have hat := chunk_at (i := i) (cs3 s.l) (by rw [List.length_map]; exact hi)
    have e2 : (s.l.map PqS.cs).getD i [] = (s.l.getD i noP).cs := by simp [hi]
    rw [e2] at hat
    rw [← hat, List.getElem?_take] at hu
    split at hu
    · rw [List.getElem?_drop] at hu
      rw [Nat.add_assoc]
      exact hc _ u hu
    · cases hu
theorem SlP.get_mem {s : SlP} {i : Nat} (hi : i < s.l.length) : s.l.getD i noP ∈ s.l := by
  rw [List.getD_eq_getElem?_getD, List.getElem?_eq_getElem hi]
  exact List.getElem_mem _
theorem SlP.ok.holds {w0 w : World} {S : List Nat} {M : List Ent} {s : SlP} (h : s.ok w0) (hw : Holds w0 S M w) (hS : S = []) : s.ok w := ⟨h.len, hw.reads h.reads (fun _ a _ => by rw [hS]; simp), fun p hp => (h.all p hp).holds hw hS⟩
structure AwayP (s : SlP) (S : List Nat) : Prop where
  a : s.l ≠ [] → ∀ a, s.ad = some a → a.block ∉ S
  all : ∀ p ∈ s.l, Away p.s S
theorem SlP.ok.away {w0 w : World} {S : List Nat} {M : List Ent} {s : SlP} (h : s.ok w0) (hw : Holds w0 S M w) (ha : AwayP s S) : s.ok w := by
  refine ⟨h.len, hw.reads h.reads fun h0 a e => ha.a (fun h1 => h0 (by rw [h1]; rfl)) a e, fun p hp => (h.all p hp).away hw (ha.all p hp)⟩
theorem SlP.take1 {s : SlP} {i : Nat} (hi : i < s.l.length) : s.ps.take (i + 1) = s.ps.take i ++ [(s.l.getD i noP).p] := by
  unfold SlP.ps
  rw [List.take_add_one]
  simp [List.getD_eq_getElem?_getD, hi]
theorem goes_sEnc : Goes Try.prog 28 := ⟨_, Try.func28, rfl, by kernel_rfl⟩
theorem encL_snoc (l : List Pq) (p : Pq) : encL (l ++ [p]) = encL l ++ encP p := by simp [encL]
theorem encL_le {l : List Pq} (h : ∀ p ∈ l, p.key.length ≤ 1000 ∧ p.val.length ≤ 4000000) : (encL l).length ≤ l.length * 4001007 := by
  induction l with
  | nil => simp [encL]
  | cons p l ih =>
    have h1 := h p (by simp)
    have h2 := ih fun q hq => h q (by simp [hq])
    have e : encL (p :: l) = encP p ++ encL l := rfl
    rw [e, List.length_append, encP_len, List.length_cons]
    omega
theorem okL_take {l : List Pq} {i : Nat} {p : Pq} (ht : l.take (i + 1) = l.take i ++ [p]) (hp : okP p = false) : okL l = false := by
  have hm : p ∈ l := List.mem_of_mem_take (i := i + 1) (by rw [ht]; simp)
  unfold okL
  rw [List.all_eq_false]
  exact ⟨p, hm, by rw [hp]; simp⟩
set_option maxHeartbeats 16000000 in
theorem sEnc_any (s : SlP) (w : World) (hs : s.ok w) (hn : s.l.length ≤ 1000000) (hv : ∀ p ∈ s.l, p.s.l.length ≤ 4000000) :
    Calls Try.prog 28 [s.v].toArray w fun e w' => ∃ q : {q : Acc // q = none → (if okL s.ps then encL s.ps else []) = []}, e = .returned (.tuple #[accV q.1 (if okL s.ps then encL s.ps else []).length, N (if okL s.ps then 0 else 1)]) ∧ Holds w [] (accE 5 q.1 ((if okL s.ps then encL s.ps else []).map U8)) w' := by
  refine enter (n := 21) Try.func28 rfl rfl rfl (Holds.start w []) ?_
  repeat (first | refine JL.q (by first | (apply OQ.len (k := s.l.length) (ad := s.ad) (cap := s.cap); exact Try.underlying32; exact rfl) | (apply OQ.move; exact rfl) | (apply OQ.assign; exact rfl)) rfl ?_ | refine JC.seq ?_ | refine JC.region ?_ | refine JC.block ?_ | refine JL.nil ?_ | refine JE.next ?_)
  refine JC.loop (fun z : Nat × Acc => [(4, accV z.2 (encL (s.ps.take z.1)).length), (7, s.v), (8, N s.l.length), (9, N z.1)]) (fun z => accE 5 z.2 ((encL (s.ps.take z.1)).map U8)) (fun z => s.l.length - z.1) (fun z => z.1 ≤ s.l.length ∧ okL (s.ps.take z.1) = true ∧ (z.2 = none → encL (s.ps.take z.1) = [])) (0, none) ⟨Nat.zero_le _, rfl, fun _ => rfl⟩ (by repeat (first | exact SubE.nil | refine SubE.cons _ _ _ rfl ?_)) (Less.refl _) ?_
  rintro ⟨i, q⟩ ⟨hi, hok, hq⟩
  dsimp only at hi hok hq ⊢
  repeat (first | refine JL.q (by (apply OQ.lssN; exact rfl; exact rfl)) rfl ?_ | refine JC.seq ?_ | refine JC.region ?_ | refine JL.nil ?_ | refine JE.next ?_)
  refine JC.cond rfl (fun hc => ?_) (fun hc => ?_)
  · have hi' : i < s.l.length := Nat.lt_of_not_le fun h => by have := of_decide_eq_true hc; omega
    clear hc
    obtain ⟨b, j, e, lb, c⟩ := hs.at hi'
    have hm := SlP.get_mem hi'
    have ht := SlP.take1 hi'
    generalize s.l.getD i noP = p at c hm ht
    have hsv : s.v = .slice (some ⟨b, j, none⟩) s.l.length s.cap := by rw [← e]; rfl
    rw [hsv]
    repeat (first | refine JL.q (by first | (apply OQ.idxS (i := i); exact Try.underlying32; exact pr3; exact rfl; exact rfl; exact hi') | (apply OQ.load_agg_old (cs := p.cs); exact prAg; exact rfl; exact pr3; exact lb; exact (by simp); exact c)) rfl ?_ | refine JC.seq ?_ | refine JC.region ?_ | refine JC.block ?_ | refine JC.skip ?_ | refine JE.next ?_)
    rw [← hsv]
    refine JL.alloc prZ rfl fun b6 _ => ?_
    refine JL.store_all (cs := p.cs) pr3 rfl rfl rfl p.one .here rfl ?_
    have cM := fun (w' : World) => mayBe_any p w'
    cases g1 : okP p.p
    case false =>
      have ho : okL s.ps = false := okL_take ht g1
      rw [ho]
      rw [g1] at cM
      repeat (first | refine JL.q (by first | (apply OQ.load_agg (cs := p.cs); exact prAg; exact pr3; exact rfl; exact .here; exact rfl; exact Row.all) | (apply OQ.callx (vs := [.agg p.cs.toArray]); exact goes_mayBe; exact rfl; exact (fun w' _ => cM w')) | (apply OQ.not; exact rfl)) rfl ?_ | refine JC.seq ?_ | refine JC.region ?_ | refine JL.nil ?_ | refine JE.next ?_)
      refine JC.cond_true rfl rfl ?_
      repeat (first | refine JL.q (by (apply OQ.assign; exact rfl)) rfl ?_ | refine JC.seq ?_ | refine JC.region ?_ | refine JL.nil ?_ | refine JE.next ?_)
      refine JC.ret ?_
      repeat (first | refine JE.then_ret ?_ | refine JE.blk_ret ?_)
      exact JE.ret2 rfl (RV.tmp rfl) (RV.tmp rfl) fun w' hw => ⟨⟨none, fun _ => rfl⟩, rfl, hw.weak (.nil _)⟩
    case true =>
      rw [g1] at cM
      have hkl := okP_len g1
      have hvl := hv p hm
      have hle := encL_le (l := s.ps.take i) (fun p hp => by
        unfold okL at hok
        have h1 := okP_len (List.all_eq_true.1 hok p hp)
        obtain ⟨x, hx, rfl⟩ := List.mem_map.1 (List.mem_of_mem_take hp)
        exact ⟨h1.2.1, hv x hx⟩)
      have hll : (s.ps.take i).length ≤ 1000000 := by rw [List.length_take]; omega
      repeat (first | refine JL.q (by first | (apply OQ.load_agg (cs := p.cs); exact prAg; exact pr3; exact rfl; exact .here; exact rfl; exact Row.all) | (apply OQ.callx (vs := [.agg p.cs.toArray]); exact goes_mayBe; exact rfl; exact (fun w' _ => cM w')) | (apply OQ.not; exact rfl)) rfl ?_ | refine JC.seq ?_ | refine JC.region ?_ | refine JL.nil ?_ | refine JE.next ?_)
      refine JC.cond_false rfl rfl ?_
      repeat (first | refine JL.q (by first | (apply OQ.load_agg (cs := p.cs); exact prAg; exact pr3; exact rfl; exact .here; exact rfl; exact Row.all) | (apply OQ.move; exact rfl)) rfl ?_ | refine JC.region ?_ | refine JC.skip ?_ | refine JE.next ?_)
      refine JL.perm (M' := accE 5 q ((encL (s.ps.take i)).map U8) ++ [⟨b6, Row 44 p.cs, true⟩]) ?_ (by exact List.perm_append_comm (l₁ := [_]))
      refine JL.callV (ι := Nat × Nat) (vs := [accV q (encL (s.ps.take i)).length, .agg p.cs.toArray]) (fun r => accV (some r) (encL (s.ps.take i) ++ encP p.p).length) (fun r => accE 5 (some r) ((encL (s.ps.take i) ++ encP p.p).map U8)) goes_appP rfl rfl (accE_wr _ _ _) (fun _ => accE_wr _ _ _) (fun w' h0 hw' => appP_any q _ p hq (by omega) g1 (by show p.s.l.length < _; omega) w' ((hs.all p hm).holds h0 rfl) (away_old h0 (accE_wr _ _ _) (hs.all p hm)) hw') fun r => ?_
      rw [← encL_snoc, ← ht]
      repeat (first | refine JL.q (by first | (apply OQ.move; exact rfl) | (apply OQ.assign; exact rfl) | (apply OQ.addN; exact rfl; exact rfl; exact (by (try simp only []); omega))) rfl ?_ | refine JC.region ?_ | refine JL.nil ?_ | refine JE.next ?_ | refine JE.blk_normal ?_)
      refine JE.again (i := (i, q)) (i + 1, some r) ⟨hi', ?_, nofun⟩ (by dsimp only; omega) (by repeat (first | exact SubE.nil | refine SubE.cons _ _ _ rfl ?_)) (less_pre _ _)
      rw [ht]
      unfold okL at hok ⊢
      rw [List.all_append, hok]
      simp [g1]
  · have hi' : i = s.l.length := by have := of_decide_eq_false hc; omega
    have hf : s.ps.take i = s.ps := List.take_of_length_le (by unfold SlP.ps; rw [List.length_map]; omega)
    rw [hf] at hok hq ⊢
    rw [hok]
    repeat (first | refine JL.q (by first | (apply OQ.move; exact rfl) | (apply OQ.assign; exact rfl)) rfl ?_ | refine JC.seq ?_ | refine JC.region ?_ | refine JC.exit ?_ | refine JL.nil ?_ | refine JE.next ?_ | refine JE.then_exit ?_ | refine JE.blk_hit ?_)
    exact JC.ret (JE.ret2 rfl (RV.tmp rfl) (RV.tmp rfl) fun w' hw => ⟨⟨q, hq⟩, rfl, hw⟩)
/-- pairs that were made anew -/
structure Gp where
  q : Acc
  ps : List PqS
  hq : q = none → ps = []
  h0 : ∀ p ∈ ps, p.s.ad = none → p.s.l = []
def Gp.v (z : Gp) : Value := accV z.q z.ps.length
def Gp.l (z : Gp) : List Pq := z.ps.map PqS.p
def Gp.E (z : Gp) : List Ent := accC 44 3 z.q (z.ps.map PqS.cs) ++ flatE (z.ps.map PqS.s)
theorem Gp.wr (z : Gp) : ∀ e ∈ z.E, e.wr = true := by
  intro e he
  rcases List.mem_append.1 he with h | h
  · exact accC_wr _ _ _ _ e h
  · exact flatE_wr _ e h
def Gp.s (z : Gp) : SlP := match z.q with
  | none => ⟨none, 0, []⟩
  | some p => ⟨some ⟨p.1, 0, none⟩, p.2, z.ps⟩
theorem Gp.v_eq (z : Gp) : z.s.v = z.v := by
  obtain ⟨q, ps, hq, h0⟩ := z
  cases q with
  | none => rfl
  | some p => rfl
theorem Gp.s_l (z : Gp) : z.s.l = z.ps := by
  obtain ⟨q, ps, hq, h0⟩ := z
  cases q with
  | none => exact (hq rfl).symm
  | some p => rfl
theorem Gp.s_ps (z : Gp) : z.s.ps = z.l := by unfold SlP.ps Gp.l; rw [z.s_l]
theorem Gp.ok {z : Gp} {w0 w : World} {S : List Nat} {A M : List Ent} (h : Holds w0 S (A ++ (z.E ++ M)) w) : z.s.ok w := by
  obtain ⟨q, ps, hq, h0⟩ := z
  cases q with
  | none => exact ⟨Nat.le_refl _, Reads.nil _ _, nofun⟩
  | some p =>
    obtain ⟨o, ho, hA⟩ := h.get (b := p.1) (A := Sl.Own 44 3 (ps.map PqS.cs).length p.2 (ps.map PqS.cs).flatten) (wr := true) (hasR (N := A) .here)
    have hc := hA
    obtain ⟨sp, _, _, _, h4⟩ := hc
    rw [List.length_map] at h4
    refine ⟨h4, Reads.block ho (Sl.Own.cells o hA), fun y hy => ?_⟩
    have hf : Holds w0 S ((A ++ accC 44 3 (some p) (ps.map PqS.cs)) ++ flatE (ps.map PqS.s)) w := by
      have := h.weak (M' := A ++ (accC 44 3 (some p) (ps.map PqS.cs) ++ flatE (ps.map PqS.s))) (less_two (Less.refl _) (by
        show Less _ ((accC 44 3 (some p) (ps.map PqS.cs) ++ flatE (ps.map PqS.s)) ++ M)
        exact less_pre _ _))
      rwa [← List.append_assoc] at this
    exact flat_ok hf (fun x hx hn => by
      obtain ⟨u, hu, rfl⟩ := List.mem_map.1 hx
      exact h0 u hu hn) y.s (List.mem_map_of_mem hy)
def gp0 : Gp := ⟨none, [], fun _ => rfl, nofun⟩
theorem goes_sDec : Goes Try.prog 29 := ⟨_, Try.func29, rfl, by kernel_rfl⟩
abbrev GpOf (o : Option (List Pq)) := {z : Gp // z.l = o.getD []}
def decV (o : Option (List Pq)) (z : Gp) : Value := .tuple #[z.v, N (if o.isSome then 0 else 3)]
theorem perm_d (bl b5 : Ent) (A C F : List Ent) : (bl :: (b5 :: (A ++ (C ++ F)))).Perm (bl :: (C ++ ((F ++ A) ++ [b5]))) := by
  refine List.Perm.cons _ ?_
  rw [show C ++ ((F ++ A) ++ [b5]) = (C ++ F ++ A) ++ [b5] by simp]
  refine List.Perm.trans ?_ (List.perm_append_singleton _ _).symm
  refine List.Perm.cons _ ?_
  rw [show C ++ F ++ A = (C ++ F) ++ A by simp]
  exact List.perm_append_comm
set_option maxHeartbeats 16000000 in
theorem sDec_any (s : Sl8) (w : World) (hs : s.ok w) (hl : s.l.length ≤ 4294967296) :
    Calls Try.prog 29 [s.v].toArray w fun e w' => ∃ z : GpOf (dec s.l), e = .returned (decV (dec s.l) z.1) ∧ Holds w [] z.1.E w' := by
  refine enter (n := 25) Try.func29 rfl rfl rfl (Holds.start w []) ?_
  repeat (first | refine JL.q (by (apply OQ.assign; exact rfl)) rfl ?_ | refine JC.seq ?_ | refine JC.region ?_ | refine JC.block ?_ | refine JL.nil ?_ | refine JE.next ?_)
  refine JC.loop (fun z : Sl8 × Gp => [(0, z.1.v), (4, z.2.v)]) (fun z => z.2.E) (fun z => z.1.l.length) (fun z => z.1.ok w ∧ dec s.l = (dec z.1.l).map (z.2.l ++ ·) ∧ z.2.ps.length + z.1.l.length ≤ s.l.length) (s, gp0) ⟨hs, by show _ = (dec s.l).map ([] ++ ·); cases dec s.l <;> simp, by show 0 + s.l.length ≤ s.l.length; omega⟩ (by repeat (first | exact SubE.nil | refine SubE.cons _ _ _ rfl ?_)) (.nil _) ?_
  rintro ⟨r, q, ps, hq, h0⟩ ⟨hr, hd, hn⟩
  dsimp only [Gp.v, Gp.l] at hr hd hn ⊢
  cases g1 : decide ((0 : Int) < (r.l.length : Int))
  case false =>
    have he : r.l = [] := List.length_eq_zero_iff.1 (by have := of_decide_eq_false g1; omega)
    rw [he, dec_nil] at hd
    rw [hd]
    repeat (first | refine JL.q (by first | (apply OQ.len (k := r.l.length) (ad := r.ad) (cap := r.cap); exact Try.underlying33; exact rfl) | (apply OQ.gtrB (b := 0); exact rfl; exact rfl; exact g1) | (apply OQ.move; exact rfl)) rfl ?_ | refine JC.seq ?_ | refine JC.region ?_ | refine JL.nil ?_ | refine JE.next ?_)
    refine JC.cond_false rfl rfl ?_
    repeat (first | refine JL.q (by first | (apply OQ.move; exact rfl) | (apply OQ.assign; exact rfl)) rfl ?_ | refine JC.seq ?_ | refine JC.region ?_ | refine JC.exit ?_ | refine JL.nil ?_ | refine JE.next ?_ | refine JE.then_exit ?_ | refine JE.blk_hit ?_)
    exact JC.ret (JE.ret2 rfl (RV.tmp rfl) (RV.tmp rfl) fun w' hw => ⟨⟨⟨q, ps, hq, h0⟩, by show ps.map PqS.p = (some (ps.map PqS.p ++ [])).getD []; simp⟩, rfl, hw⟩)
  have hne : r.l ≠ [] := fun e => by rw [e] at g1; simp at g1
  rw [dec_step hne] at hd
  repeat (first | refine JL.q (by first | (apply OQ.len (k := r.l.length) (ad := r.ad) (cap := r.cap); exact Try.underlying33; exact rfl) | (apply OQ.gtrB (b := 0); exact rfl; exact rfl; exact g1) | (apply OQ.move; exact rfl)) rfl ?_ | refine JC.seq ?_ | refine JC.region ?_ | refine JL.nil ?_ | refine JE.next ?_)
  refine JC.cond_true rfl rfl ?_
  repeat (first | refine JL.q (by (apply OQ.move; exact rfl)) rfl ?_ | refine JC.seq ?_ | refine JC.region ?_ | refine JC.block ?_ | refine JC.skip ?_ | refine JE.next ?_)
  refine JL.callg (ι := {z : Fz // z.ok r}) (vs := [r.v]) (fun z => z.1.V) (fun z => accE 5 z.1.q (z.1.v.map U8)) goes_fstP rfl rfl (fun _ => accE_wr _ _ _) (fun w' hw' => fstP_any r w' (hr.holds hw' rfl) hne (by omega)) fun z => ?_
  obtain ⟨⟨key, q1, v, g, r2, there⟩, hz⟩ := z
  have hz1 := hz.q; have hz2 := hz.t; have hz3 := hz.r
  dsimp only at hz1 hz2 hz3 ⊢
  dsimp only [Fz.V]
  repeat (refine JL.q (by first | (apply OQ.extract; exact rfl; exact rfl) | (apply OQ.move; exact rfl)) rfl ?_)
  refine JL.alloc prZ rfl fun b5 _ => ?_
  refine JL.store_all (cs := (PqS.mk key (accS q1 v) g).cs) pr3 rfl rfl rfl (PqS.one _) .here rfl ?_
  have hcp : (accS q1 v).l = v := accS_l hz1
  cases there
  case false =>
    rw [if_neg (by simp)] at hz2
    rw [hz2] at hd
    rw [show dec s.l = none from hd]
    repeat (first | refine JL.q (by first | (apply OQ.not; exact rfl) | (apply OQ.move; exact rfl) | (apply OQ.assign; exact rfl)) rfl ?_ | refine JC.seq ?_ | refine JC.region ?_ | refine JL.nil ?_ | refine JE.next ?_)
    refine JC.cond_true rfl rfl ?_
    repeat (first | refine JL.q (by (apply OQ.assign; exact rfl)) rfl ?_ | refine JC.seq ?_ | refine JC.region ?_ | refine JL.nil ?_ | refine JE.next ?_)
    refine JC.ret ?_
    repeat (first | refine JE.then_ret ?_ | refine JE.blk_ret ?_)
    exact JE.ret2 rfl (RV.tmp rfl) (RV.tmp rfl) fun w' hw => ⟨⟨gp0, rfl⟩, rfl, hw.weak (.nil _)⟩
  rw [if_pos rfl] at hz2
  rw [hz2] at hd
  dsimp only at hd
  have hsz := (fstP_some hz2).2
  dsimp only at hsz
  have hr2 := hz3 rfl w hr
  have hq0 : q = none → ps.map PqS.cs = [] := fun e => by rw [hq e]; rfl
  have hm : (ps.map PqS.cs).length = ps.length := List.length_map _
  repeat (first | refine JL.q (by first | (apply OQ.not; exact rfl) | (apply OQ.move; exact rfl) | (apply OQ.assign; exact rfl)) rfl ?_ | refine JC.seq ?_ | refine JC.region ?_ | refine JL.nil ?_ | refine JE.next ?_)
  refine JC.cond_false rfl rfl ?_
  repeat (first | refine JL.q (by first | (apply OQ.load_agg (cs := (PqS.mk key (accS q1 v) g).cs); exact prAg; exact pr3; exact rfl; exact .here; exact rfl; exact Row.all) | (apply OQ.move; exact rfl)) rfl ?_ | refine JC.seq ?_ | refine JC.region ?_ | refine JC.skip ?_ | refine JE.next ?_)
  refine JL.litA (cs := (PqS.mk key (accS q1 v) g).cs) Try.underlying32 prI rfl (by decide) (by decide) rfl rfl rfl fun bl _ => ?_
  refine JL.perm (M' := ⟨bl, Row 44 (PqS.mk key (accS q1 v) g).cs, true⟩ :: (accC 44 3 q (ps.map PqS.cs) ++ ((flatE (ps.map PqS.s) ++ accE 5 q1 (v.map U8)) ++ [⟨b5, Row 44 (PqS.mk key (accS q1 v) g).cs, true⟩]))) ?_ (perm_d _ _ _ _ _)
  refine JL.appendC (c := (PqS.mk key (accS q1 v) g).cs) (L := ps.map PqS.cs) q Try.underlying32 prI hq0 (by rw [hm]; rfl) rfl rfl (fun u hu => List.all_eq_true.1 (PqS.one _) u hu) rfl (by decide) (by rw [hm]; omega) (by rw [hm]; omega) rfl fun b' cap' => ?_
  have eM : ps.map PqS.cs ++ [(PqS.mk key (accS q1 v) g).cs] = (ps ++ [PqS.mk key (accS q1 v) g]).map PqS.cs := by rw [List.map_append, List.map_singleton]
  rw [eM, List.length_map]
  repeat (first | refine JL.q (by first | (apply OQ.move; exact rfl) | (apply OQ.assign; exact rfl)) rfl ?_ | refine JC.region ?_ | refine JL.nil ?_ | refine JE.next ?_ | refine JE.blk_normal ?_)
  refine JE.again (i := (r, ⟨q, ps, hq, h0⟩)) (r2, ⟨some (b', cap'), ps ++ [PqS.mk key (accS q1 v) g], nofun, fun p hp hn => ?_⟩) ⟨hr2, ?_, ?_⟩ (by dsimp only; omega) (by repeat (first | exact SubE.nil | refine SubE.cons _ _ _ rfl ?_)) ?_
  · rcases List.mem_append.1 hp with hp | hp
    · exact h0 p hp hn
    · rw [List.mem_singleton.1 hp] at hn ⊢
      exact accS_none hn
  · dsimp only [Gp.l]
    rw [hd, List.map_append, List.map_singleton]
    have : (PqS.mk key (accS q1 v) g).p = ⟨key, v, g⟩ := by show Pq.mk _ _ _ = _; rw [hcp]
    rw [this]
    cases dec r2.l with
    | none => rfl
    | some l => simp
  · dsimp only
    rw [List.length_append, List.length_singleton]
    omega
  · dsimp only [Gp.E]
    refine less_two (Less.refl _) ?_
    rw [List.map_append, List.map_singleton]
    have := less_two (flat_snoc (e := 5) (ps.map PqS.s) q1 v) (.nil [⟨b5, Row 44 (PqS.mk key (accS q1 v) g).cs, true⟩])
    rwa [List.append_nil] at this
end Go.Proofs.Ytjkncnbpaejamaa

/-
  Of no statement by itself: the landed store's values: do, maps.Clone, behind.
  Conditions: each theorem's own.
-/
namespace Go.Proofs.Ytjkncnbpaejamaa
set_option maxRecDepth 10000
open Sl Dsk Jrn Sto
abbrev MV := List (ME Sl8)
def doM (z : MV × Nat) (p : PqS) : MV × Nat := if p.gone then (delL p.key z.1, z.2) else (putL p.key p.s z.2 z.1, putC p.key z.1 z.2)
def doMs (z : MV × Nat) (l : List PqS) : MV × Nat := l.foldl doM z
def mvp (mm : MV) : VL := mm.map fun e => (e.key, e.val.l)
def MapIs (mm : MV) (vs : VL) : Prop := (mvp mm).Perm vs
theorem doM_wf {z : MV × Nat} (h : WF z.1 z.2) (p : PqS) : WF (doM z p).1 (doM z p).2 := by
  unfold doM
  split
  · exact h.del _
  · exact h.put _ _
theorem doMs_wf : ∀ (l : List PqS) {z : MV × Nat}, WF z.1 z.2 → WF (doMs z l).1 (doMs z l).2
  | [], _, h => h
  | p :: l, _, h => doMs_wf l (doM_wf h p)
theorem mvp_filter (k : Bk) (mm : MV) : mvp (mm.filter fun e => decide (e.key ≠ k)) = (mvp mm).filter fun q => decide (q.1 ≠ k) := by
  unfold mvp
  rw [List.filter_map]
  rfl
theorem doM_is {z : MV × Nat} {vs : VL} (h : WF z.1 z.2) (hs : Srt vs) (hm : MapIs z.1 vs) (p : PqS) : MapIs (doM z p).1 (doV vs p.p) := by
  unfold doM doV MapIs
  by_cases hg : p.gone = true
  · rw [if_pos hg, if_pos (show p.p.gone = true from hg), delV_filter hs]
    show (mvp (delL p.key z.1)).Perm _
    rw [delL_filter _ _ h.keys, mvp_filter]
    exact hm.filter _
  · rw [if_neg hg, if_neg (show ¬ p.p.gone = true from hg)]
    have h1 := (putL_perm p.key p.s z.2 z.1 h.keys).map fun q : Bk × Sl8 => (q.1, q.2.l)
    rw [List.map_map, List.map_cons, List.map_map] at h1
    refine List.Perm.trans h1 (List.Perm.trans (List.Perm.cons _ ?_) (insV_perm hs).symm)
    show (mvp (z.1.filter fun e => decide (e.key ≠ p.key))).Perm _
    rw [mvp_filter]
    exact hm.filter _
theorem doMs_is : ∀ (l : List PqS) {z : MV × Nat} {vs : VL}, WF z.1 z.2 → Srt vs → MapIs z.1 vs → MapIs (doMs z l).1 (doL vs (l.map PqS.p))
  | [], _, _, _, _, h => h
  | p :: l, _, _, h, hs, hm => doMs_is l (doM_wf h p) (doV_srt hs) (doM_is h hs hm p)
/-- the values' bytes are among the old ones and the pairs' -/
theorem doM_sub {z : MV × Nat} (h : WF z.1 z.2) (p : PqS) : ∃ r, ((doM z p).1.map ME.val ++ r).Perm (z.1.map ME.val ++ [p.s]) := by
  unfold doM
  split
  · obtain ⟨r, hr⟩ := ((delL_sub p.key z.1).map ME.val).exists_perm_append
    exact ⟨r ++ [p.s], by rw [← List.append_assoc]; exact hr.symm.append_right _⟩
  · have h1 := (putL_perm p.key p.s z.2 z.1 h.keys).map fun q : Bk × Sl8 => q.2
    rw [List.map_map, List.map_cons, List.map_map] at h1
    obtain ⟨r, hr⟩ := ((List.filter_sublist (p := fun e : ME Sl8 => decide (e.key ≠ p.key)) (l := z.1)).map ME.val).exists_perm_append
    refine ⟨r, (h1.append_right r).trans ?_⟩
    show (p.s :: ((z.1.filter fun e => decide (e.key ≠ p.key)).map ME.val ++ r)).Perm _
    exact (List.Perm.cons _ hr.symm).trans (List.perm_append_singleton _ _).symm
theorem doMs_sub : ∀ (l : List PqS) {z : MV × Nat}, WF z.1 z.2 → ∃ r, ((doMs z l).1.map ME.val ++ r).Perm (z.1.map ME.val ++ l.map PqS.s)
  | [], _, _ => ⟨[], by simp [doMs]⟩
  | p :: l, z, h => by
    obtain ⟨r1, h1⟩ := doM_sub h p
    obtain ⟨r2, h2⟩ := doMs_sub l (doM_wf h p)
    refine ⟨r2 ++ r1, ?_⟩
    rw [← List.append_assoc]
    refine (h2.append_right r1).trans ?_
    have e : (z.1.map ME.val ++ (p :: l).map PqS.s) = (z.1.map ME.val ++ [p.s]) ++ l.map PqS.s := by simp
    rw [e, List.append_assoc]
    refine ((List.perm_append_comm (l₁ := l.map PqS.s)).append_left _).trans ?_
    rw [← List.append_assoc]
    exact h1.append_right _
theorem doMs_snoc (z : MV × Nat) (l : List PqS) (p : PqS) : doMs z (l ++ [p]) = doM (doMs z l) p := by simp [doMs]
abbrev MvB (z : MV × Nat) : Obj → Prop := MB Sl8.v z.1 z.2
section
variable {P : Program} {n : Nat} {w0 : World} {S : List Nat} {ops : Array Oper} {Q : Exit → Act → World → Prop} {l : List Oper} {E : Env} {M M' : List Ent}
variable {b : Nat} {t k e ty : TypeId} {pos : String} {aft : Array Edge} {x y : Operand} {α : Type} {f : α → Value} {es : List (ME α)} {c : Nat} {key : List Bt}
/-- delete(m, k), as a statement -/
theorem JL.mapDel0 (ht : P.underlying t = some (.map k e)) (hk : P.underlying k = some .string) (hx : ev E x = some (.map (some b))) (hy : ev E y = some (Z key))
    (hu : Upd M b (MB f es c) (MB f (delL key es) c) M')
    (kk : JL P n w0 S ops Q l E M') : JL P n w0 S ops Q (⟨none, .call ⟨.builtin .delete, #[x, y], #[t, k]⟩, ty, pos, aft, none⟩ :: l) E M :=
  ⟨fun a w ha hw => wpList_plain rfl fun K hK => by
    obtain ⟨o, ho, rfl⟩ := hw.get hu.has
    have hlt := (Array.getElem?_eq_some_iff.1 ho).1
    unfold Oper.wp
    simp only [execOp, resolve, invoke, builtin, Sem.run_bind, Sem.run_pure, Result.andThen_ok, List.map_toArray, List.map_cons, List.map_nil, ha.eval hx, ha.eval hy, delete_run (ty := ty) ht hk ho]
    refine hK _ _ (kk.go _ _ (ha.put_none _) (hw.write hu (o' := .map ((delL key es).map (ME.en f)).toArray c) rfl ?_ ?_ ?_ rfl rfl rfl))
    · simp [hlt]
    · simp
    · intro k hk
      simp [Array.getElem?_setIfInBounds, Ne.symm hk]⟩
end
theorem goes_do : Goes Try.prog 33 := ⟨_, Try.func33, rfl, by kernel_rfl⟩
set_option maxHeartbeats 16000000 in
theorem do_any (s : SlP) (b : Nat) (mm : MV) (c : Nat) (w : World) (hs : s.ok w) (hn : s.l.length ≤ 4294967296) (ha : AwayP s [b]) (hw : Holds w [b] [⟨b, MvB (mm, c), true⟩] w) :
    Calls Try.prog 33 [.map (some b), s.v].toArray w fun e w' => e = .returned (.tuple #[]) ∧ Holds w [b] [⟨b, MvB (doMs (mm, c) s.l), true⟩] w' := by
  refine enter (n := 23) Try.func33 rfl rfl rfl hw ?_
  repeat (first | refine JL.q (by first | (apply OQ.len (k := s.l.length) (ad := s.ad) (cap := s.cap); exact Try.underlying32; exact rfl) | (apply OQ.move; exact rfl)) rfl ?_ | refine JC.seq ?_ | refine JC.region ?_ | refine JC.block ?_ | refine JL.nil ?_ | refine JE.next ?_)
  refine JC.loop (fun i : Nat => [(0, .map (some b)), (6, s.v), (7, N s.l.length), (8, N i)]) (fun i => [⟨b, MvB (doMs (mm, c) (s.l.take i)), true⟩]) (fun i => s.l.length - i) (fun i => i ≤ s.l.length) 0 (Nat.zero_le _) (by repeat (first | exact SubE.nil | refine SubE.cons _ _ _ rfl ?_)) (Less.refl _) ?_
  intro i hi
  repeat (first | refine JL.q (by (apply OQ.lssN; exact rfl; exact rfl)) rfl ?_ | refine JC.seq ?_ | refine JC.region ?_ | refine JL.nil ?_ | refine JE.next ?_)
  refine JC.cond rfl (fun hc => ?_) (fun hc => ?_)
  · have hi' : i < s.l.length := Nat.lt_of_not_le fun h => by have := of_decide_eq_true hc; omega
    clear hc
    obtain ⟨bb, j, e, lb, cc⟩ := hs.at hi'
    have hm := SlP.get_mem hi'
    have ht : s.l.take (i + 1) = s.l.take i ++ [s.l.getD i noP] := by
      rw [List.take_add_one]
      simp [List.getD_eq_getElem?_getD, hi']
    generalize s.l.getD i noP = p at cc hm ht
    have hne : s.l ≠ [] := fun h => by rw [h] at hi'; exact absurd hi' (Nat.not_lt_zero _)
    have hbb : bb ∉ [b] := ha.a hne _ e
    have hsv : s.v = .slice (some ⟨bb, j, none⟩) s.l.length s.cap := by rw [← e]; rfl
    rw [hsv]
    repeat (first | refine JL.q (by first | (apply OQ.idxS (i := i); exact Try.underlying32; exact pr3; exact rfl; exact rfl; exact hi') | (apply OQ.load_agg_old (cs := p.cs); exact prAg; exact rfl; exact pr3; exact lb; exact hbb; exact cc)) rfl ?_ | refine JC.seq ?_ | refine JC.region ?_ | refine JC.block ?_ | refine JC.skip ?_ | refine JE.next ?_)
    rw [← hsv]
    refine JL.alloc prZ rfl fun b6 _ => ?_
    refine JL.store_all (cs := p.cs) pr3 rfl rfl rfl p.one .here rfl ?_
    repeat (first | refine JL.q (by first | (apply OQ.load; exact boolC; exact rfl; exact .here; exact (Row.cell (v := .bool p.gone) rfl)) | (apply OQ.fld; exact rfl; exact rfl; exact rfl; exact (by decide); exact rfl)) rfl ?_ | refine JC.seq ?_ | refine JC.region ?_ | refine JL.nil ?_ | refine JE.next ?_)
    have e2 : doMs (mm, c) (s.l.take (i + 1)) = doM (doMs (mm, c) (s.l.take i)) p := by rw [ht, doMs_snoc]
    unfold doM at e2
    refine JC.cond rfl (fun hc => ?_) (fun hc => ?_)
    · rw [if_pos hc] at e2
      repeat (first | refine JL.q (by first | (apply OQ.load; exact strC; exact rfl; exact .here; exact (Row.cell (v := Z p.key) rfl)) | (apply OQ.move; exact rfl) | (apply OQ.fld; exact rfl; exact rfl; exact rfl; exact (by decide); exact rfl)) rfl ?_ | refine JC.region ?_)
      refine JL.mapDel0 Try.underlying65 Try.underlying9 rfl rfl (.there .here) ?_
      repeat (first | refine JL.q (by first | (apply OQ.move; exact rfl) | (apply OQ.addN; exact rfl; exact rfl; exact (by (try simp only []); omega))) rfl ?_ | refine JC.region ?_ | refine JL.nil ?_ | refine JE.next ?_ | refine JE.blk_normal ?_)
      refine JE.again (i := i) (i + 1) hi' (by omega) (by repeat (first | exact SubE.nil | refine SubE.cons _ _ _ rfl ?_)) ?_
      show Less [⟨b, MvB (doMs (mm, c) (s.l.take (i + 1))), true⟩] _
      rw [e2]
      exact .drop _ _ _ (Less.refl _)
    · rw [if_neg (by rw [hc]; simp)] at e2
      repeat (first | refine JL.q (by first | (apply OQ.load; exact strC; exact rfl; exact .here; exact (Row.cell (v := Z p.key) rfl)) | (apply OQ.load; exact slCj; exact rfl; exact .here; exact (Row.cell (v := p.s.v) rfl)) | (apply OQ.move; exact rfl) | (apply OQ.fld; exact rfl; exact rfl; exact rfl; exact (by decide); exact rfl)) rfl ?_ | refine JC.region ?_)
      refine JL.mapPut (f := Sl8.v) (v := p.s) Try.underlying65 Try.underlying9 rfl rfl rfl (.there .here) ?_
      repeat (first | refine JL.q (by first | (apply OQ.move; exact rfl) | (apply OQ.addN; exact rfl; exact rfl; exact (by (try simp only []); omega))) rfl ?_ | refine JC.region ?_ | refine JL.nil ?_ | refine JE.next ?_ | refine JE.blk_normal ?_)
      refine JE.again (i := i) (i + 1) hi' (by omega) (by repeat (first | exact SubE.nil | refine SubE.cons _ _ _ rfl ?_)) ?_
      show Less [⟨b, MvB (doMs (mm, c) (s.l.take (i + 1))), true⟩] _
      rw [e2]
      exact .drop _ _ _ (Less.refl _)
  · have hi' : i = s.l.length := by have := of_decide_eq_false hc; omega
    rw [hi', List.take_length]
    repeat (first | refine JC.exit ?_ | refine JE.then_exit ?_ | refine JE.blk_hit ?_)
    exact JE.end0 rfl fun w' hw => ⟨rfl, hw⟩
section
variable {P : Program} {n : Nat} {w0 : World} {S : List Nat} {ops : Array Oper} {Q : Exit → Act → World → Prop} {l : List Oper} {E : Env} {M : List Ent} {C : World → Prop}
variable {d b : Nat} {t t' k e ty : TypeId} {dst : Option Tmp} {pos : String} {aft : Array Edge} {g : Option (Nat × Bool)} {x y : Operand} {α : Type} {f : α → Value} {es : List (ME α)} {c : Nat}
theorem OQ.mapNil {p : Option Nat} (hu : P.underlying t = some (.map k e)) (hx : ev E x = some (.map p)) (hy : ev E y = some (.map none)) :
    OQ P n E C ⟨dst, .binOp .eql t x y t', ty, pos, aft, g⟩ (.bool p.isNone) :=
  OQ.run fun a ha w _ => by
    have h1 := ha.eval hx
    have h2 := ha.eval hy
    simp [execOp, h1, h2, eqGuard, run_eql_map_nil_sl w t k e p hu]
theorem OQ.mapIface (hu : P.underlying t = some (.map k e)) {v : Value} (hx : ev E x = some v) : OQ P n E C ⟨dst, .makeInterface t x, ty, pos, aft, g⟩ (.iface t v) :=
  OQ.run fun a ha w _ => by
    have h1 := ha.eval hx
    have h2 : (Instr.makeInterface t v).run P w = .ok (.iface t v) w := by simp [Instr.makeInterface, run_underlying hu, Sem.run_bind]
    simp [execOp, h1, h2]
theorem OQ.mapAssert (hu : P.underlying t = some (.map k e)) {v : Value} {xT : TypeId} (hx : ev E x = some (.iface t v)) : OQ P n E C ⟨dst, .typeAssert x xT t false, ty, pos, aft, g⟩ v :=
  OQ.run fun a ha w _ => by
    have h1 := ha.eval hx
    simp [execOp, h1, run_typeAssert_map_sl w t xT k e v hu]
/-- maps.clone, by the model's entry -/
structure IsClone (P : Program) (f : FuncId) : Prop where
  go : ∃ fn, P.funcs[f]? = some fn ∧ (fn.name == "runtime.NumGoroutine") = false ∧ fn.body.isNone = true ∧ Extern.findNext fn = none ∧ Extern.find fn = some Extern.MapsClone.clone
theorem JL.mapClone {fi : FuncId} {ats : Array TypeId} {wr : Bool} (hf : IsClone P fi) (hx : ev E x = some (.iface t (.map (some b)))) (hM : Has M b (MB f es c) wr) (hd : Nat.blt d n = true)
    (kk : ∀ b', w0.heap.size ≤ b' → JL P n w0 S ops Q l ((d, .iface t (.map (some b'))) :: E) (⟨b', MB f es c, true⟩ :: M)) : JL P n w0 S ops Q (⟨some d, .call ⟨.value (.func fi), #[x], ats⟩, ty, pos, aft, none⟩ :: l) E M :=
  ⟨fun a w ha hw => wpList_plain rfl fun K hK => by
    obtain ⟨o, ho, rfl⟩ := hw.get hM
    obtain ⟨fn, h1, h2, h3, h4, h5⟩ := hf.go
    have r := run_callFunc_extern h1 h2 h3 h4 h5 #[.iface t (.map (some b))] w
    rw [run_maps_clone_sl (P := P) w t ho] at r
    simp only [Result.andThen] at r
    have r' : (execOp a.eval ⟨some d, .call ⟨.value (.func fi), #[x], ats⟩, ty, pos, aft, none⟩).run P w = .ok (.value (.iface t (.map (some w.heap.size)))) (w.alloc (.map (es.map (ME.en f)).toArray c)) := by
      have k1 := ha.eval hx
      rw [← r]
      simp [execOp, resolve, Sem.run_bind, Act.eval, Deferred.ofValue, invoke, k1]
      simp [Act.eval] at k1
      simp [k1]
    unfold Oper.wp
    rw [r']
    exact hK _ _ ((kk w.heap.size hw.chg.size).go _ _ (ha.put d _ hd) (hw.push (.map (es.map (ME.en f)).toArray c) rfl rfl rfl rfl rfl))⟩
end
theorem isClone : IsClone Try.prog 74 := ⟨_, Try.func74, by kernel_rfl, rfl, by kernel_rfl, by kernel_rfl⟩
theorem goes_mclone : Goes Try.prog 64 := ⟨_, Try.func64, rfl, by kernel_rfl⟩
set_option maxHeartbeats 16000000 in
theorem mclone_any (b : Nat) (z : MV × Nat) (w : World) (hb : ∃ o, w.heap[b]? = some o ∧ MvB z o) :
    Calls Try.prog 64 [.map (some b)].toArray w fun e w' => ∃ b', e = .returned (.map (some b')) ∧ Holds w [] [⟨b', MvB z, true⟩] w' := by
  obtain ⟨o, ho, hA⟩ := hb
  refine enter (n := 9) Try.func64 rfl rfl rfl (Holds.seen (S := []) ho hA) ?_
  repeat (first | refine JL.q (by first | (apply OQ.mapNil; exact Try.underlying65; exact rfl; exact rfl) | (apply OQ.move; exact rfl) | (apply OQ.assign; exact rfl)) rfl ?_ | refine JC.seq ?_ | refine JC.region ?_ | refine JL.nil ?_ | refine JE.next ?_)
  refine JC.cond_false rfl rfl ?_
  repeat (first | refine JL.q (by first | (apply OQ.mapIface; exact Try.underlying65; exact rfl) | (apply OQ.move; exact rfl)) rfl ?_ | refine JC.seq ?_ | refine JC.region ?_ | refine JC.skip ?_ | refine JE.next ?_)
  refine JL.mapClone isClone rfl .here rfl fun b' _ => ?_
  repeat (first | refine JL.q (by first | (apply OQ.mapAssert; exact Try.underlying65; exact rfl) | (apply OQ.assign; exact rfl)) rfl ?_ | refine JL.nil ?_ | refine JE.next ?_)
  exact JC.ret (JE.ret1 rfl (RV.tmp rfl) fun w' hw => ⟨b', rfl, hw.weak (less_pre _ _)⟩)
theorem SlP.ok.lt {w : World} {s : SlP} (h : s.ok w) (h0 : s.l ≠ []) (a : Addr) (e : s.ad = some a) : a.block < w.heap.size := by
  have : 0 < s.l.length := List.length_pos_iff.2 h0
  obtain ⟨b, j, e', lb, _⟩ := h.at this
  rw [e, Option.some.injEq] at e'
  rw [e']
  exact lb
theorem awayP_old {w0 w : World} {X M : List Ent} {s : SlP} (hw : Holds w0 [] (X ++ M) w) (hX : ∀ e ∈ X, e.wr = true) (hs : s.ok w0) : AwayP s (keys X) := by
  refine ⟨fun h0 a ha hm => ?_, fun p hp => away_old hw hX (hs.all p hp)⟩
  obtain ⟨e, he, hb⟩ := List.mem_map.1 hm
  have h1 := hs.lt h0 a ha
  rcases (hw.all e (List.mem_append_left _ he)).2 (hX e he) with h | h
  · cases h
  · omega
theorem goes_behind : Goes Try.prog 50 := ⟨_, Try.func50, rfl, by kernel_rfl⟩
set_option maxHeartbeats 16000000 in
theorem behind_any (b : Nat) (z : MV × Nat) (s : SlP) (w : World) (hb : ∃ o, w.heap[b]? = some o ∧ MvB z o) (hs : s.ok w) (hn : s.l.length ≤ 4294967296) :
    Calls Try.prog 50 [.map (some b), s.v].toArray w fun e w' => ∃ b', e = .returned (.map (some b')) ∧ Holds w [] [⟨b', MvB (doMs z s.l), true⟩] w' := by
  obtain ⟨o, ho, hA⟩ := hb
  refine enter (n := 12) Try.func50 rfl rfl rfl (Holds.seen (S := []) ho hA) ?_
  repeat (first | refine JL.q (by first | (apply OQ.move; exact rfl) | (apply OQ.assign; exact rfl)) rfl ?_ | refine JC.seq ?_ | refine JC.region ?_ | refine JL.nil ?_ | refine JE.next ?_)
  refine JL.callg (ι := Nat) (vs := [.map (some b)]) (fun b' => .map (some b')) (fun b' => [⟨b', MvB z, true⟩]) goes_mclone rfl rfl (by simp) (fun w' hw' => mclone_any b z w' (hw'.get .here)) fun b' => ?_
  repeat (first | refine JL.q (by first | (apply OQ.move; exact rfl) | (apply OQ.assign; exact rfl)) rfl ?_ | refine JC.seq ?_ | refine JC.region ?_ | refine JL.nil ?_ | refine JE.next ?_)
  refine JL.callV (ι := Unit) (X := [⟨b', MvB z, true⟩]) (vs := [.map (some b'), s.v]) (fun _ => .tuple #[]) (fun _ => [⟨b', MvB (doMs z s.l), true⟩]) goes_do rfl rfl (by simp) (by simp) (fun w' h0 hw' => (do_any s b' z.1 z.2 w' (hs.holds h0 rfl) hn (awayP_old h0 (by simp) hs) hw').mono fun _ _ ⟨h1, h2⟩ => ⟨(), h1, h2⟩) fun _ => ?_
  repeat (first | refine JL.q (by first | (apply OQ.move; exact rfl) | (apply OQ.assign; exact rfl)) rfl ?_ | refine JC.seq ?_ | refine JC.region ?_ | refine JL.nil ?_ | refine JE.next ?_)
  exact JC.ret (JE.ret1 rfl (RV.tmp rfl) fun w' hw => ⟨b', rfl, hw.weak (less_pre _ _)⟩)
end Go.Proofs.Ytjkncnbpaejamaa

/-
  Of no statement by itself: slices.Sort over texts, by the library's contract over any program; rows of texts in the order of their bytes.
  Conditions: each theorem's own.
-/
namespace Go.Proofs.Ytjkncnbpaejamaa
set_option maxRecDepth 10000
namespace Sto
open Dsk Jrn
def toU (k : Bk) : List UInt8 := k.map UInt8.ofBitVec
def unU (x : List UInt8) : Bk := x.map UInt8.toBitVec
theorem unU_toU (k : Bk) : unU (toU k) = k := by simp [unU, toU, Function.comp_def]
theorem toU_unU (x : List UInt8) : toU (unU x) = x := by simp [unU, toU, Function.comp_def]
theorem klt_toU : ∀ (a b : Bk), klt a b = decide (toU a < toU b)
  | [], [] => by simp [klt, toU]
  | [], _ :: _ => by simp [klt, toU]
  | _ :: _, [] => by simp [klt, toU]
  | a :: l, b :: r => by
    have ih := klt_toU l r
    have e1 : toU (a :: l) = UInt8.ofBitVec a :: toU l := rfl
    have e2 : toU (b :: r) = UInt8.ofBitVec b :: toU r := rfl
    have h1 : (UInt8.ofBitVec a < UInt8.ofBitVec b) ↔ a.toNat < b.toNat := Iff.rfl
    have h2 : (UInt8.ofBitVec a = UInt8.ofBitVec b) ↔ a.toNat = b.toNat := ⟨fun h => by have := congrArg UInt8.toBitVec h; simpa using congrArg BitVec.toNat this, fun h => by rw [BitVec.eq_of_toNat_eq h]⟩
    rw [klt, e1, e2, ih]
    by_cases c1 : a.toNat < b.toNat
    · rw [if_pos c1]
      exact (decide_eq_true (List.cons_lt_cons_iff.2 (.inl (h1.2 c1)))).symm
    · rw [if_neg c1]
      by_cases c2 : b.toNat < a.toNat
      · rw [if_pos c2]
        refine (decide_eq_false fun h => ?_).symm
        rcases List.cons_lt_cons_iff.1 h with h | h
        · exact c1 (h1.1 h)
        · have := h2.1 h.1; omega
      · rw [if_neg c2]
        refine decide_eq_decide.2 ⟨fun h => List.cons_lt_cons_iff.2 (.inr ⟨h2.2 (by omega), h⟩), fun h => ?_⟩
        rcases List.cons_lt_cons_iff.1 h with h | h
        · exact absurd (h1.1 h) c1
        · exact h.2
theorem le_klt (a b : Bk) : decide (toU a ≤ toU b) = !klt b a := by
  rw [klt_toU, ← decide_not]
  exact decide_eq_decide.2 List.not_lt.symm
def sortK (ks : List Bk) : List Bk := ((ks.map toU).mergeSort fun x y => decide (x ≤ y)).map unU
theorem sortK_toU (ks : List Bk) : (sortK ks).map toU = (ks.map toU).mergeSort fun x y => decide (x ≤ y) := by
  unfold sortK
  rw [List.map_map, show toU ∘ unU = id from funext toU_unU, List.map_id]
theorem sortK_perm (ks : List Bk) : (sortK ks).Perm ks := by
  unfold sortK
  have h := (List.mergeSort_perm (ks.map toU) fun x y => decide (x ≤ y)).map unU
  rwa [List.map_map, show unU ∘ toU = id from funext unU_toU, List.map_id] at h
theorem sortK_len (ks : List Bk) : (sortK ks).length = ks.length := (sortK_perm ks).length_eq
theorem sortK_pair (ks : List Bk) : (sortK ks).Pairwise fun a b => klt b a = false := by
  have tr : ∀ a b c : List UInt8, decide (a ≤ b) = true → decide (b ≤ c) = true → decide (a ≤ c) = true := fun a b c h1 h2 => by simp only [decide_eq_true_eq] at *; exact List.le_trans h1 h2
  have to : ∀ a b : List UInt8, (decide (a ≤ b) || decide (b ≤ a)) = true := fun a b => by simp only [Bool.or_eq_true, decide_eq_true_eq]; exact List.le_total a b
  have h := List.pairwise_mergeSort tr to (ks.map toU)
  rw [← sortK_toU, List.pairwise_map] at h
  exact h.imp fun {a b} h => by rw [le_klt] at h; simpa using h
theorem sortK_is {ks ts : List Bk} (hp : ks.Perm ts) (ht : ts.Pairwise fun a b => klt a b = true) : sortK ks = ts := by
  refine List.Perm.eq_of_pairwise (le := fun a b => klt b a = false) (fun a b _ _ h1 h2 => ?_) (sortK_pair ks) (ht.imp fun h => klt_asymm h) ((sortK_perm ks).trans hp)
  by_cases e : a = b
  · exact e
  · have := klt_total a b e h2; rw [h1] at this; cases this
end Sto
open Sl Dsk Jrn Sto Go.Shelf Go.Sort
def sortRen16 : Ren := ⟨fun | 190 => 54 | 125 => 67 | 258 => 66 | 128 => 84 | 129 => 85 | 302 => 75 | 303 => 76 | 304 => 77 | 305 => 78 | 306 => 79 | 307 => 80 | 308 => 81 | 309 => 82 | 310 => 83 | 333 => 88 | 329 => 89 | 330 => 90 | 334 => 91 | 335 => 92 | 336 => 93 | 344 => 94 | n => n,
  fun | 31 => 41 | 9 => 9 | 3 => 3 | 46 => 74 | 0 => 0 | 51 => 100 | 53 => 119 | 4 => 4 | 183 => 139 | 182 => 138 | 131 => 143 | 5 => 5 | 218 => 150 | 222 => 154 | 228 => 157 | 229 => 158 | n => n,
  fun n => n⟩
theorem sort16 : Lays.n190 Try.prog sortRen16 := {
  mixed := by kernel_rfl
  f125 := Try.func67.trans (congrArg some (by kernel_rfl))
  f128 := Try.func84.trans (congrArg some (by kernel_rfl))
  f129 := Try.func85.trans (congrArg some (by kernel_rfl))
  f190 := Try.func54.trans (congrArg some (by kernel_rfl))
  f258 := Try.func66.trans (congrArg some (by kernel_rfl))
  f302 := Try.func75.trans (congrArg some (by kernel_rfl))
  f303 := Try.func76.trans (congrArg some (by kernel_rfl))
  f304 := Try.func77.trans (congrArg some (by kernel_rfl))
  f305 := Try.func78.trans (congrArg some (by kernel_rfl))
  f306 := Try.func79.trans (congrArg some (by kernel_rfl))
  f307 := Try.func80.trans (congrArg some (by kernel_rfl))
  f308 := Try.func81.trans (congrArg some (by kernel_rfl))
  f309 := Try.func82.trans (congrArg some (by kernel_rfl))
  f310 := Try.func83.trans (congrArg some (by kernel_rfl))
  f329 := Try.func89.trans (congrArg some (by kernel_rfl))
  f330 := Try.func90.trans (congrArg some (by kernel_rfl))
  f333 := Try.func88.trans (congrArg some (by kernel_rfl))
  f334 := Try.func91.trans (congrArg some (by kernel_rfl))
  f335 := Try.func92.trans (congrArg some (by kernel_rfl))
  f336 := Try.func93.trans (congrArg some (by kernel_rfl))
  f344 := Try.func94.trans (congrArg some (by kernel_rfl))
  t0 := Try.underlying0
  a0 := Try.isAgg0
  z0 := Try.sizeOf0
  v0 := Try.zeroValue0
  t3 := Try.underlying3
  a3 := Try.isAgg3
  z3 := Try.sizeOf3
  v3 := Try.zeroValue3
  t4 := Try.underlying4
  a4 := Try.isAgg4
  z4 := Try.sizeOf4
  v4 := Try.zeroValue4
  t5 := Try.underlying5
  a5 := Try.isAgg5
  z5 := Try.sizeOf5
  v5 := Try.zeroValue5
  t9 := Try.underlying9
  a9 := Try.isAgg9
  z9 := Try.sizeOf9
  v9 := Try.zeroValue9
  t31 := Try.underlying41
  a31 := Try.isAgg41
  z31 := Try.sizeOf41
  v31 := Try.zeroValue41
  t46 := Try.underlying74
  a46 := Try.isAgg74
  z46 := Try.sizeOf74
  v46 := Try.zeroValue74
  t51 := Try.underlying100
  a51 := Try.isAgg100
  z51 := Try.sizeOf100
  v51 := Try.zeroValue100
  t53 := Try.underlying119
  a53 := Try.isAgg119
  z53 := Try.sizeOf119
  v53 := Try.zeroValue119
  t131 := Try.underlying143
  a131 := Try.isAgg143
  z131 := Try.sizeOf143
  v131 := Try.zeroValue143
  t182 := Try.underlying138
  a182 := Try.isAgg138
  z182 := Try.sizeOf138
  v182 := Try.zeroValue138
  t183 := Try.underlying139
  a183 := Try.isAgg139
  z183 := Try.sizeOf139
  v183 := Try.zeroValue139
  t218 := Try.underlying150
  a218 := Try.isAgg150
  z218 := Try.sizeOf150
  v218 := Try.zeroValue150
  t222 := Try.underlying154
  a222 := Try.isAgg154
  z222 := Try.sizeOf154
  v222 := Try.zeroValue154
  t228 := Try.underlying157
  a228 := Try.isAgg157
  z228 := Try.sizeOf157
  v228 := Try.zeroValue157
  t229 := Try.underlying158
  a229 := Try.isAgg158
  z229 := Try.sizeOf158
  v229 := Try.zeroValue158 }
theorem goes_sortS : Goes Try.prog 54 := ⟨_, Try.func54, rfl, by kernel_rfl⟩
theorem sorts_any (q : Acc) (ks : List Bk) (hq : q = none → ks = []) (hl : ks.length ≤ 4294967296) (w : World) (hw : Sl.Holds w (keys (accE 9 q (ks.map Z))) (accE 9 q (ks.map Z)) w) :
    Calls Try.prog 54 [accV q ks.length].toArray w fun e w' => e = .returned (.tuple #[]) ∧ Sl.Holds w (keys (accE 9 q (ks.map Z))) (accE 9 q ((sortK ks).map Z)) w' := by
  cases q with
  | none =>
    rw [hq rfl]
    exact (Any.slices_Sort_string_none sort16 none 0 w).mono fun e w' ⟨h1, h2⟩ => ⟨h1, by rw [h2]; exact Sl.Holds.start _ _⟩
  | some p =>
    obtain ⟨g, cap⟩ := p
    obtain ⟨o, ho, sp, rfl, h1, h2, h3⟩ := hw.get (b := g) (A := Sl.Own 9 1 (ks.map Z).length cap (ks.map Z)) (wr := true) .here
    have e1 : (ks.map toU).map encStr = ks.map Z := by rw [List.map_map]; rfl
    have hH : Go.Sort.Holds encStr w g 0 (ks.map toU).toArray := holds_of_block ho (by
      rw [e1, List.length_map, List.toList_toArray]
      exact List.take_left' (List.length_map _))
    have hlt : g < w.heap.size := (Array.getElem?_eq_some_iff.1 ho).1
    have h := Any.slices_Sort_string sort16 g 0 cap (ks.map toU) w hH hlt (by rw [List.length_map]; omega)
    rw [List.length_map] at h
    refine h.mono fun e w' ⟨he, n, os, hw'⟩ => ⟨he, ?_⟩
    rw [← sortK_toU] at hw'
    subst hw'
    have e2 : ((sortK ks).map toU).map encStr = (sortK ks).map Z := by rw [List.map_map]; rfl
    have hsz : ((sortK ks).map Z).length = (ks.map Z).length := by rw [List.length_map, List.length_map, sortK_len]
    refine ⟨⟨rfl, rfl, rfl, by simp [grow, putRow, mapBlock, Sort.ahead], fun k hk hS => ?_⟩, by simp [accE], fun x hx => ?_⟩
    · rw [heap_grow_old _ _ (by simpa using hk)]
      have : g ≠ k := fun e => hS (by simp [keys, accE, e])
      simp [putRow, mapBlock, Sort.ahead, Array.getElem?_modify, this]
    · have hx' : x = ⟨g, Sl.Own 9 1 ((sortK ks).map Z).length cap ((sortK ks).map Z), true⟩ := List.mem_singleton.1 hx
      subst hx'
      refine ⟨⟨_, heap_sorted _ ho, ?_⟩, fun _ => .inl (by simp [keys, accE])⟩
      have hk := take_putCells (ks.map Z ++ sp).toArray ((sortK ks).map toU) (by simp [sortK_len])
      rw [e2, List.length_map, ← List.length_map (f := Z)] at hk
      have hcat := List.take_append_drop ((sortK ks).map Z).length (putCells encStr 0 ((sortK ks).map toU).toArray (ks.map Z ++ sp).toArray).toList
      rw [hk] at hcat
      refine ⟨(putCells encStr 0 ((sortK ks).map toU).toArray (ks.map Z ++ sp).toArray).toList.drop ((sortK ks).map Z).length, ?_, ?_, by simp, by rw [hsz]; exact h3⟩
      · rw [hcat, Array.toArray_toList]
      · rw [hcat]
        simp only [putCells, Array.length_toList, Array.size_mapIdx]
        simpa using h1
end Go.Proofs.Ytjkncnbpaejamaa

/-
  Of no statement by itself: strings.HasPrefix at any texts.
  Conditions: each theorem's own.
-/
namespace Go.Proofs.Ytjkncnbpaejamaa
set_option maxRecDepth 10000
open Sl
theorem goes_shpx : Goes Try.prog 53 := ⟨_, Try.func53, rfl, by kernel_rfl⟩
theorem goes_shpy : Goes Try.prog 65 := ⟨_, Try.func65, rfl, by kernel_rfl⟩
set_option maxHeartbeats 2000000 in
theorem shpy_any (s d : List Bt) (w : World) : Calls Try.prog 65 [Z s, Z d].toArray w fun e w' => e = .returned (.bool (decide (s.take d.length = d))) ∧ Ext w w' := by
  refine enter (n := 18) Try.func65 rfl rfl rfl (Holds.start w []) ?_
  cases h1 : decide ((d.length : Int) ≤ (s.length : Int))
  · have hF : decide (s.take d.length = d) = false := decide_eq_false fun e => by
      have := congrArg List.length e
      rw [List.length_take] at this
      have := of_decide_eq_false h1
      omega
    rw [hF]
    repeat (first | refine JL.q (by first | (apply OQ.lenS; exact Try.underlying9; exact rfl) | (apply OQ.geqB (b := (d.length : Int)); exact rfl; exact rfl; exact h1) | (apply OQ.pick_f; exact rfl; exact rfl) | (apply OQ.move; exact rfl) | (apply OQ.assign; exact rfl)) rfl ?_ | refine JC.seq ?_ | refine JC.region ?_ | refine JL.nil ?_ | refine JE.next ?_ | refine JL.gskip rfl rfl rfl rfl ?_)
    exact JC.ret (JE.ret1 rfl (RV.tmp rfl) fun w' hw => ⟨rfl, hw.chg⟩)
  · have hle : d.length ≤ s.length := by have := of_decide_eq_true h1; omega
    cases h2 : decide (s.take d.length = d)
    all_goals (repeat (first | refine JL.q (by first | (apply OQ.lenS; exact Try.underlying9; exact rfl) | (apply OQ.geqB (b := (d.length : Int)); exact rfl; exact rfl; exact h1) | (apply OQ.subS_hi (j := d.length); exact Try.underlying9; exact rfl; exact rfl; exact hle) | (apply OQ.eqSB; exact rfl; exact rfl; exact h2) | (apply OQ.pick_t; exact rfl; exact rfl) | (apply OQ.move; exact rfl) | (apply OQ.assign; exact rfl)) rfl ?_ | refine JC.seq ?_ | refine JC.region ?_ | refine JL.nil ?_ | refine JE.next ?_ | refine JL.gon rfl rfl ?_))
    all_goals exact JC.ret (JE.ret1 rfl (RV.tmp rfl) fun w' hw => ⟨rfl, hw.chg⟩)
theorem shpx_any (s d : List Bt) (w : World) : Calls Try.prog 53 [Z s, Z d].toArray w fun e w' => e = .returned (.bool (decide (s.take d.length = d))) ∧ Ext w w' := by
  refine enter (n := 8) Try.func53 rfl rfl rfl (Holds.start w []) ?_
  have hq := fun w' => shpy_any s d w'
  repeat (first | refine JL.q (by first | (apply OQ.callx (vs := [Z s, Z d]); exact goes_shpy; exact rfl; exact (fun w' _ => hq w')) | (apply OQ.move; exact rfl) | (apply OQ.assign; exact rfl)) rfl ?_ | refine JC.seq ?_ | refine JC.region ?_ | refine JL.nil ?_ | refine JE.next ?_)
  exact JC.ret (JE.ret1 rfl (RV.tmp rfl) fun w' hw => ⟨rfl, hw.chg⟩)
end Go.Proofs.Ytjkncnbpaejamaa

/-
  Of no statement by itself: the landed store's values: keys, pairs.
  Conditions: each theorem's own.
-/
namespace Go.Proofs.Ytjkncnbpaejamaa
set_option maxRecDepth 10000
open Sl Dsk Jrn Sto
theorem strS16 : szT Try.prog 9 = some 1 := by kernel_rfl
theorem strI16 : EI Try.prog 9 (Z []) 1 16 := by unfold EI; kernel_rfl
def preB16 (front k : Bk) : Bool := decide (k.take front.length = front)
/-- the keys with a front, rising -/
def keysM (mm : MV) (front : Bk) : List Bk := sortK ((mm.filter fun e => preB16 front e.key).map ME.key)
theorem sortK_eq {ks ts : List Bk} (h : ks.Perm ts) : sortK ks = sortK ts :=
  List.Perm.eq_of_pairwise (le := fun a b => klt b a = false) (fun a b _ _ h1 h2 => by
    by_cases e : a = b
    · exact e
    · have := klt_total a b e h2; rw [h1] at this; cases this) (sortK_pair ks) (sortK_pair ts) ((sortK_perm ks).trans (h.trans (sortK_perm ts).symm))
theorem keysM_is {mm : MV} {vs : VL} (hs : Srt vs) (hm : MapIs mm vs) (front : Bk) : keysM mm front = (vs.filter fun p => preB16 front p.1).map Prod.fst := by
  unfold keysM
  refine sortK_is ?_ ?_
  · have h := (hm.filter fun p => preB16 front p.1).map Prod.fst
    unfold mvp at h
    rw [List.filter_map, List.map_map] at h
    exact h
  · rw [List.pairwise_map]
    exact hs.sublist List.filter_sublist
theorem keysM_len {mm : MV} {front : Bk} : (keysM mm front).length ≤ mm.length := by
  unfold keysM
  rw [sortK_len, List.length_map]
  exact List.length_filter_le _ _
structure Ks where
  q : Acc
  done : MV
  rest : MV
def Ks.ks (z : Ks) (front : Bk) : List Bk := (z.done.filter fun e => preB16 front e.key).map ME.key
theorem goes_keys : Goes Try.prog 35 := ⟨_, Try.func35, rfl, by kernel_rfl⟩
set_option maxHeartbeats 16000000 in
theorem keys_any (b : Nat) (mm : MV) (c : Nat) (front : Bk) (w : World) (hf : WF mm c) (hb : ∃ o, w.heap[b]? = some o ∧ MvB (mm, c) o) (hn : mm.length ≤ 4294967296) :
    Calls Try.prog 35 [.map (some b), Z front].toArray w fun e w' => ∃ q : {q : Acc // q = none → keysM mm front = []}, e = .returned (accV q.1 (keysM mm front).length) ∧ Holds w [] (accE 9 q.1 ((keysM mm front).map Z)) w' := by
  obtain ⟨o, ho, hA⟩ := hb
  refine enter (n := 23) Try.func35 rfl rfl rfl (Holds.seen (S := []) ho hA) ?_
  repeat (first | refine JL.q (by first | (apply OQ.move; exact rfl) | (apply OQ.assign; exact rfl)) rfl ?_ | refine JC.seq ?_ | refine JC.region ?_ | refine JL.nil ?_ | refine JE.next ?_)
  refine JL.mapRange Try.underlying65 rfl .here rfl fun r _ => ?_
  repeat (first | refine JC.block ?_ | refine JL.nil ?_ | refine JE.next ?_)
  refine JC.loop (fun z : Ks => [(1, Z front), (5, accV z.q (z.ks front).length), (8, Pt r 0)]) (fun z => ⟨r, IB b c (z.done.map ME.born) c, true⟩ :: ⟨b, MvB (mm, c), false⟩ :: accE 9 z.q ((z.ks front).map Z)) (fun z => z.rest.length) (fun z => (z.done ++ z.rest).Perm mm ∧ (z.q = none → z.ks front = [])) ⟨none, [], mm⟩ ⟨.refl _, fun _ => rfl⟩ (by repeat (first | exact SubE.nil | refine SubE.cons _ _ _ rfl ?_)) (Less.refl _) ?_
  rintro ⟨q, done, rest⟩ ⟨hp, hq⟩
  dsimp only [Ks.ks] at hp hq ⊢
  generalize hks : (done.filter fun e => preB16 front e.key).map ME.key = ks at hq
  have hlen : ks.length ≤ mm.length := by
    rw [← hks, List.length_map]
    refine Nat.le_trans (List.length_filter_le _ _) ?_
    rw [← hp.length_eq, List.length_append]
    omega
  repeat (first | refine JC.seq ?_ | refine JC.region ?_)
  refine JL.mapNext (f := Sl8.v) hf rfl (.there .here) (fun s' => .here) rfl (fun hall => ?_) (fun m hm hnew => ?_)
  · repeat (first | refine JL.q (by (apply OQ.extract; exact rfl; exact rfl)) rfl ?_ | refine JC.seq ?_ | refine JL.nil ?_ | refine JE.next ?_)
    refine JC.cond_false rfl rfl ?_
    have hr : rest = [] := by
      cases rest with
      | nil => rfl
      | cons x rest =>
        obtain ⟨y, hy, e⟩ := List.mem_map.1 (hall x (hp.mem_iff.1 (by simp)))
        have hnd := (hp.map ME.born).nodup_iff.2 hf.borns
        rw [List.map_append, List.map_cons, List.nodup_append] at hnd
        exact absurd e (hnd.2.2 _ (List.mem_map_of_mem hy) _ (by simp))
    subst hr
    rw [List.append_nil] at hp
    have hkk : sortK ks = keysM mm front := by
      rw [← hks]
      exact sortK_eq ((hp.filter _).map _)
    repeat (first | refine JL.q (by (apply OQ.move; exact rfl)) rfl ?_ | refine JC.seq ?_ | refine JC.region ?_ | refine JC.exit ?_ | refine JE.next ?_ | refine JE.then_exit ?_ | refine JE.blk_hit ?_)
    refine JL.perm (M' := accE 9 q (ks.map Z) ++ [⟨r, IB b c (done.map ME.born) c, true⟩, ⟨b, MvB (mm, c), false⟩]) ?_ (by exact List.perm_append_comm (l₁ := [_, _]))
    refine JL.callV (ι := Unit) (vs := [accV q ks.length]) (fun _ => .tuple #[]) (fun _ => accE 9 q ((sortK ks).map Z)) goes_sortS rfl rfl (accE_wr _ _ _) (fun _ => accE_wr _ _ _) (fun w' h0 hw' => (sorts_any q ks hq (by omega) w' hw').mono fun _ _ ⟨h1, h2⟩ => ⟨(), h1, h2⟩) fun _ => ?_
    rw [hkk]
    have hl2 : ks.length = (keysM mm front).length := by rw [← hkk, sortK_len]
    rw [hl2]
    repeat (first | refine JL.q (by first | (apply OQ.move; exact rfl) | (apply OQ.assign; exact rfl)) rfl ?_ | refine JC.seq ?_ | refine JC.region ?_ | refine JL.nil ?_ | refine JE.next ?_)
    exact JC.ret (JE.ret1 rfl (RV.tmp rfl) fun w' hw => ⟨⟨q, fun e => by rw [← hkk, hq e]; exact List.length_eq_zero_iff.1 (sortK_len [])⟩, rfl, hw.weak (less_pre _ _)⟩)
  · have hmr : m ∈ rest := by
      rcases List.mem_append.1 (hp.mem_iff.2 hm) with h | h
      · exact absurd (List.mem_map_of_mem h) hnew
      · exact h
    obtain ⟨s1, s2, rfl⟩ := List.append_of_mem hmr
    have hp' : ((done ++ [m]) ++ (s1 ++ s2)).Perm mm := by
      refine List.Perm.trans ?_ hp
      rw [List.append_assoc]
      exact (List.Perm.append_left _ (by rw [List.singleton_append]; exact List.perm_middle.symm))
    have hmu : (s1 ++ s2).length < (s1 ++ m :: s2).length := by simp
    repeat (first | refine JL.q (by (apply OQ.extract; exact rfl; exact rfl)) rfl ?_ | refine JC.seq ?_ | refine JL.nil ?_ | refine JE.next ?_)
    refine JC.cond_true rfl rfl ?_
    have hpx := fun w' => shpx_any m.key front w'
    cases g1 : decide (m.key.take front.length = front)
    · rw [g1] at hpx
      repeat (first | refine JL.q (by first | (apply OQ.entry; exact hf; exact rfl; exact (.there .here); exact .here; exact hm) | (apply OQ.extract; exact rfl; exact rfl) | (apply OQ.callx (vs := [Z m.key, Z front]); exact goes_shpx; exact rfl; exact (fun w' _ => hpx w')) | (apply OQ.move; exact rfl) | (apply OQ.assign; exact rfl)) rfl ?_ | refine JC.seq ?_ | refine JC.region ?_ | refine JC.block ?_ | refine JC.skip ?_ | refine JL.nil ?_ | refine JE.next ?_)
      refine JC.cond_false rfl rfl ?_
      repeat (first | refine JC.skip ?_ | refine JE.blk_normal ?_)
      have hk2 : ((done ++ [m]).filter fun e => preB16 front e.key).map ME.key = ks := by
        rw [List.filter_append, List.map_append, hks]
        have : preB16 front m.key = false := g1
        simp [this]
      refine JE.again (i := Ks.mk q done (s1 ++ m :: s2)) ⟨q, done ++ [m], s1 ++ s2⟩ ⟨hp', ?_⟩ hmu ?_ ?_
      · dsimp only [Ks.ks]; rw [hk2]; exact hq
      · dsimp only [Ks.ks]; rw [hk2]; exact (by repeat (first | exact SubE.nil | refine SubE.cons _ _ _ rfl ?_))
      · dsimp only [Ks.ks]; rw [hk2, List.map_append]; exact Less.refl _
    · rw [g1] at hpx
      repeat (first | refine JL.q (by first | (apply OQ.entry; exact hf; exact rfl; exact (.there .here); exact .here; exact hm) | (apply OQ.extract; exact rfl; exact rfl) | (apply OQ.callx (vs := [Z m.key, Z front]); exact goes_shpx; exact rfl; exact (fun w' _ => hpx w')) | (apply OQ.move; exact rfl) | (apply OQ.assign; exact rfl)) rfl ?_ | refine JC.seq ?_ | refine JC.region ?_ | refine JC.block ?_ | refine JC.skip ?_ | refine JL.nil ?_ | refine JE.next ?_)
      refine JC.cond_true rfl rfl ?_
      repeat (first | refine JL.q (by (apply OQ.move; exact rfl)) rfl ?_ | refine JC.region ?_)
      refine JL.lit1 (v := Z m.key) Try.underlying41 strI16 rfl rfl rfl rfl fun bl _ => ?_
      refine JL.perm (M' := accE 9 q (ks.map Z) ++ [⟨bl, Row 9 [Z m.key], true⟩, ⟨r, IB b c (done.map ME.born ++ [m.born]) c, true⟩, ⟨b, MvB (mm, c), false⟩]) ?_ (by exact List.perm_append_comm (l₁ := [_, _, _]))
      refine JL.appendQ (xs := ks.map Z) (cs := [Z m.key]) (m := 1) (ad := some ⟨bl, 0, none⟩) (sc := 1) q Try.underlying41 strI16 (fun e => by rw [hq e]; rfl) (by rw [List.length_map]; rfl) rfl rfl (fun w' hw' => ?_) (by simp [Value.oneCell']) rfl (by rw [List.length_map]; omega) (by rw [List.length_map]; omega) rfl fun q1 hq1 => ?_
      · obtain ⟨o, ho, hA⟩ := hw'.get (b := bl) (A := Row 9 [Z m.key]) (wr := true) (hasR .here)
        exact Reads.block ho (Row.all o hA)
      have hk2 : ((done ++ [m]).filter fun e => preB16 front e.key).map ME.key = ks ++ [m.key] := by
        rw [List.filter_append, List.map_append, hks]
        have : preB16 front m.key = true := g1
        simp [this]
      rw [show ks.map Z ++ [Z m.key] = (ks ++ [m.key]).map Z by simp, List.length_map]
      repeat (first | refine JL.q (by (apply OQ.assign; exact rfl)) rfl ?_ | refine JL.nil ?_ | refine JE.blk_normal ?_)
      refine JE.perm (List.perm_append_comm (l₂ := [_, _, _])) ?_
      refine JE.again (i := Ks.mk q done (s1 ++ m :: s2)) ⟨q1, done ++ [m], s1 ++ s2⟩ ⟨hp', ?_⟩ hmu ?_ ?_
      · dsimp only [Ks.ks]; rw [hk2]; intro e; have := hq1 e; simp at this
      · dsimp only [Ks.ks]; rw [hk2]; exact (by repeat (first | exact SubE.nil | refine SubE.cons _ _ _ rfl ?_))
      · dsimp only [Ks.ks]; rw [hk2, List.map_append]; exact .drop _ _ _ (Less.refl _)
/-- the pairs that make the values of nothing, in memory -/
def pairsM (mm : MV) : List PqS := (keysM mm []).map fun k => ⟨k, (look mm k).getD nilS, false⟩
theorem look_in {mm : MV} {k : Bk} {s : Sl8} : look mm k = some s → ∃ e ∈ mm, e.key = k ∧ e.val = s := by
  induction mm with
  | nil => intro h; cases h
  | cons x mm ih =>
    intro h
    rw [look_cons] at h
    split at h
    · next hk => exact ⟨x, by simp, hk.symm, Option.some.inj h⟩
    · obtain ⟨e, he, h1⟩ := ih h
      exact ⟨e, by simp [he], h1⟩
theorem look_get {mm : MV} {vs : VL} {c : Nat} (hf : WF mm c) (hs : Srt vs) (hm : MapIs mm vs) (k : Bk) : (look mm k).map Sl8.l = getV vs k := by
  cases h : look mm k with
  | none =>
    have h1 := look_none.1 h
    cases h2 : getV vs k with
    | none => rfl
    | some v =>
      have := hm.mem_iff.2 ((getV_mem hs.keys).1 h2)
      obtain ⟨e, he, h3⟩ := List.mem_map.1 this
      exact absurd (List.mem_map.2 ⟨e, he, congrArg Prod.fst h3⟩) h1
  | some s =>
    obtain ⟨e, he, h1, h2⟩ := look_in h
    exact ((getV_mem hs.keys).2 (hm.mem_iff.1 (List.mem_map.2 ⟨e, he, by rw [h1, h2]⟩))).symm
theorem pairsM_is {mm : MV} {vs : VL} {c : Nat} (hf : WF mm c) (hs : Srt vs) (hm : MapIs mm vs) : (pairsM mm).map PqS.p = pairsV vs := by
  unfold pairsM pairsV
  rw [keysM_is hs hm, List.filter_eq_self.2 fun p _ => by show decide (p.1.take 0 = []) = true; simp, List.map_map, List.map_map]
  refine List.map_congr_left fun p hp => ?_
  have h := look_get hf hs hm p.1
  rw [(getV_mem hs.keys).2 (show (p.1, p.2) ∈ vs from hp)] at h
  cases h2 : look mm p.1 with
  | none => rw [h2] at h; cases h
  | some s =>
    rw [h2] at h
    simp only [Option.map_some, Option.some.injEq] at h
    simp [PqS.p, h2, h]
theorem pairsM_in {mm : MV} {p : PqS} (h : p ∈ pairsM mm) : p.s = nilS ∨ p.s ∈ mm.map ME.val := by
  obtain ⟨k, _, rfl⟩ := List.mem_map.1 h
  dsimp only
  cases h2 : look mm k with
  | none => exact .inl rfl
  | some s =>
    obtain ⟨e, he, _, h1⟩ := look_in h2
    exact .inr (List.mem_map.2 ⟨e, he, h1⟩)
theorem pairsM_len {mm : MV} : (pairsM mm).length ≤ mm.length := by unfold pairsM; rw [List.length_map]; exact keysM_len
section
variable {n : Nat} {E : Env} {C : World → Prop} {dst : Option Tmp} {ty : TypeId} {pos : String} {aft : Array Edge} {g : Option (Nat × Bool)} {x1 x2 : Operand} {s : Sl8}
theorem OQ.buildP2 {key : Bk} (h1 : ev E x1 = some (Z key)) (h2 : ev E x2 = some s.v) :
    OQ Try.prog n E C ⟨dst, .build 44 #[(0, x1), (1, x2)], ty, pos, aft, g⟩ (.agg #[Z key, s.v, .bool false]) :=
  OQ.run fun a ha w _ => by
    have e1 := ha.eval h1
    have e2 := ha.eval h2
    have r := run_build (P := Try.prog) w 44 #[(0, Z key), (1, s.v)] #[Z key, s.v, .bool false] (by kernel_rfl)
    simp [execOp, e1, e2, r]
end
theorem sl8Z16 : (Try.prog.info? 33).bind (·.zero) = some (.slice none 0 0) := by kernel_rfl
theorem look_v (o : Option Sl8) : lookV (o.map Sl8.v) (.slice none 0 0) false = (o.getD nilS).v := by cases o <;> rfl
theorem goes_pairs : Goes Try.prog 51 := ⟨_, Try.func51, rfl, by kernel_rfl⟩
set_option maxHeartbeats 16000000 in
theorem pairs_any (b : Nat) (mm : MV) (c : Nat) (w : World) (hf : WF mm c) (hb : ∃ o, w.heap[b]? = some o ∧ MvB (mm, c) o) (hn : mm.length ≤ 4294967296) :
    Calls Try.prog 51 [.map (some b)].toArray w fun e w' => ∃ q : {q : Acc // q = none → pairsM mm = []}, e = .returned (accV q.1 (pairsM mm).length) ∧ Holds w [] (accC 44 3 q.1 ((pairsM mm).map PqS.cs)) w' := by
  have hb0 := hb
  obtain ⟨o, ho, hA⟩ := hb
  have hlen := pairsM_len (mm := mm)
  refine enter (n := 23) Try.func51 rfl rfl rfl (Holds.seen (S := []) ho hA) ?_
  repeat (first | refine JL.q (by first | (apply OQ.move; exact rfl) | (apply OQ.assign; exact rfl)) rfl ?_ | refine JC.seq ?_ | refine JC.region ?_ | refine JL.nil ?_ | refine JE.next ?_)
  refine JL.callg (ι := {q : Acc // q = none → keysM mm [] = []}) (vs := [.map (some b), Z []]) (fun q => accV q.1 (keysM mm []).length) (fun q => accE 9 q.1 ((keysM mm []).map Z)) goes_keys rfl rfl (fun _ => accE_wr _ _ _) (fun w' hw' => keys_any b mm c [] w' hf (hw'.get .here) hn) fun qk => ?_
  obtain ⟨qk, hqk⟩ := qk
  dsimp only
  have hpk : (pairsM mm).length = (keysM mm []).length := by unfold pairsM; rw [List.length_map]
  generalize hks : keysM mm [] = ks at hqk hpk
  have hav : ∃ (ad : Option Addr) (cap : Nat), accV qk ks.length = .slice ad ks.length cap := by
    cases qk with
    | none => exact ⟨none, 0, by rw [hqk rfl]; rfl⟩
    | some p => exact ⟨_, _, rfl⟩
  obtain ⟨ad, cap, hav⟩ := hav
  rw [hav]
  repeat (first | refine JL.q (by first | (apply OQ.len (k := ks.length) (ad := ad) (cap := cap); exact Try.underlying41; exact rfl) | (apply OQ.move; exact rfl)) rfl ?_ | refine JC.block ?_ | refine JL.nil ?_ | refine JE.next ?_)
  rw [← hav]
  refine JC.loop (fun z : Nat × Acc => [(0, .map (some b)), (3, accV z.2 ((pairsM mm).take z.1).length), (7, accV qk ks.length), (8, N ks.length), (9, N z.1)]) (fun z => accC 44 3 z.2 (((pairsM mm).take z.1).map PqS.cs) ++ (accE 9 qk (ks.map Z) ++ [⟨b, MvB (mm, c), false⟩])) (fun z => ks.length - z.1) (fun z => z.1 ≤ ks.length ∧ (z.2 = none → (pairsM mm).take z.1 = [])) (0, none) ⟨Nat.zero_le _, fun _ => rfl⟩ (by repeat (first | exact SubE.nil | refine SubE.cons _ _ _ rfl ?_)) (Less.refl _) ?_
  rintro ⟨i, q⟩ ⟨hi, hq⟩
  dsimp only at hi hq ⊢
  repeat (first | refine JL.q (by (apply OQ.lssN; exact rfl; exact rfl)) rfl ?_ | refine JC.seq ?_ | refine JC.region ?_ | refine JL.nil ?_ | refine JE.next ?_)
  refine JC.cond rfl (fun hc => ?_) (fun hc => ?_)
  · have hi' : i < ks.length := Nat.lt_of_not_le fun h => by have := of_decide_eq_true hc; omega
    clear hc
    cases qk with
    | none => rw [hqk rfl] at hi'; cases hi'
    | some p =>
    obtain ⟨gk, ck⟩ := p
    have hki : ks[i]? = some ks[i] := List.getElem?_eq_getElem hi'
    generalize ks[i] = key at hki
    have hav2 : accV (some (gk, ck)) ks.length = .slice (some ⟨gk, 0, none⟩) ks.length ck := rfl
    have ht : (pairsM mm).take (i + 1) = (pairsM mm).take i ++ [⟨key, (look mm key).getD nilS, false⟩] := by
      rw [List.take_add_one]
      unfold pairsM
      rw [hks, List.getElem?_map, hki]
      rfl
    have hlv : ∃ sl, (look mm key).getD nilS = sl := ⟨_, rfl⟩
    obtain ⟨sl, hsl⟩ := hlv
    have hlv : lookV ((look mm key).map Sl8.v) (.slice none 0 0) false = sl.v := by rw [look_v, hsl]
    rw [hsl] at ht
    have hq0 : q = none → ((pairsM mm).take i).map PqS.cs = [] := fun e => by rw [hq e]; rfl
    have hm : (((pairsM mm).take i).map PqS.cs).length = ((pairsM mm).take i).length := List.length_map _
    have hml : ((pairsM mm).take i).length ≤ 4294967296 := by rw [List.length_take]; omega
    have hkz : (ks.map Z)[i]? = some (Z key) := by rw [List.getElem?_map, hki]; rfl
    repeat (first | refine JL.q (by first | (apply OQ.idxS0 (i := i); exact Try.underlying41; exact strS16; exact (congrArg some hav2); exact rfl; exact hi') | (apply OQ.load; exact strC; exact rfl; exact (hasR .here); exact (Sl.Own.cell hkz)) | (apply OQ.to; exact (OQ.look (ok := false) Try.underlying65 Try.underlying9 sl8Z16 rfl rfl (hasR (.there .here))); exact hlv) | (apply OQ.buildP2; exact rfl; exact rfl) | (apply OQ.move; exact rfl) | (apply OQ.assign; exact rfl)) rfl ?_ | refine JC.seq ?_ | refine JC.region ?_ | refine JC.block ?_ | refine JC.skip ?_ | refine JL.nil ?_ | refine JE.next ?_)
    refine JL.litA (cs := (PqS.mk key sl false).cs) Try.underlying32 prI rfl (by decide) (by decide) rfl rfl rfl fun bl _ => ?_
    refine JL.appendC (c := (PqS.mk key sl false).cs) (L := ((pairsM mm).take i).map PqS.cs) q Try.underlying32 prI hq0 (by rw [hm]; rfl) rfl rfl (fun u hu => List.all_eq_true.1 (PqS.one _) u hu) rfl (by decide) (by rw [hm]; omega) (by rw [hm]; omega) rfl fun b' cap' => ?_
    have eM : ((pairsM mm).take i).map PqS.cs ++ [(PqS.mk key sl false).cs] = ((pairsM mm).take (i + 1)).map PqS.cs := by rw [ht, List.map_append, List.map_singleton]
    rw [eM, List.length_map]
    repeat (first | refine JL.q (by first | (apply OQ.move; exact rfl) | (apply OQ.assign; exact rfl) | (apply OQ.addN; exact rfl; exact rfl; exact (by (try simp only []); omega))) rfl ?_ | refine JC.region ?_ | refine JL.nil ?_ | refine JE.next ?_ | refine JE.blk_normal ?_)
    exact JE.again (i := (i, q)) (i + 1, some (b', cap')) ⟨hi', nofun⟩ (by dsimp only; omega) (by repeat (first | exact SubE.nil | refine SubE.cons _ _ _ rfl ?_)) (Less.refl _)
  · have hi' : i = ks.length := by have := of_decide_eq_false hc; omega
    have hf : (pairsM mm).take i = pairsM mm := List.take_of_length_le (by omega)
    rw [hf] at hq ⊢
    repeat (first | refine JL.q (by first | (apply OQ.move; exact rfl) | (apply OQ.assign; exact rfl)) rfl ?_ | refine JC.seq ?_ | refine JC.region ?_ | refine JC.exit ?_ | refine JL.nil ?_ | refine JE.next ?_ | refine JE.then_exit ?_ | refine JE.blk_hit ?_)
    exact JC.ret (JE.ret1 rfl (RV.tmp rfl) fun w' hw => ⟨⟨q, hq⟩, rfl, hw.weak (less_pre _ _)⟩)
end Go.Proofs.Ytjkncnbpaejamaa

/-
  Of no statement by itself: a store in memory; the landed store's Get, Keys.
  Conditions: each theorem's own.
-/
namespace Go.Proofs.Ytjkncnbpaejamaa
set_option maxRecDepth 10000
open Sl Dsk Jrn Sto
namespace Sto
/-! ### how great values are -/
def szP (p : Pq) : Nat := 7 + p.key.length + p.val.length
def szL (l : List Pq) : Nat := (l.map szP).sum
def szV (vs : VL) : Nat := (vs.map fun p => 7 + p.1.length + p.2.length).sum
theorem szV_cons (p : Bk × Bk) (vs : VL) : szV (p :: vs) = 7 + p.1.length + p.2.length + szV vs := by simp [szV]
theorem szL_cons (p : Pq) (l : List Pq) : szL (p :: l) = szP p + szL l := by simp [szL]
theorem szL_append (a b : List Pq) : szL (a ++ b) = szL a + szL b := by simp [szL]
theorem insV_sz (k v : Bk) : ∀ (vs : VL), szV (insV k v vs) ≤ 7 + k.length + v.length + szV vs
  | [] => by simp [insV, szV]
  | p :: vs => by
    have ih := insV_sz k v vs
    rw [insV]
    split
    · rw [szV_cons, szV_cons]; omega
    · split
      · rw [szV_cons, szV_cons]; simp only; omega
      · rw [szV_cons]; simp only; omega
theorem delV_sz (k : Bk) : ∀ (vs : VL), szV (delV k vs) ≤ szV vs
  | [] => Nat.le_refl _
  | p :: vs => by
    have ih := delV_sz k vs
    rw [delV]
    split
    · rw [szV_cons, szV_cons]; omega
    · split
      · rw [szV_cons]; omega
      · exact Nat.le_refl _
theorem doV_sz (vs : VL) (p : Pq) : szV (doV vs p) ≤ szV vs + szP p := by
  unfold doV szP
  split
  · have := delV_sz p.key vs; omega
  · have := insV_sz p.key p.val vs; omega
theorem doL_sz : ∀ (l : List Pq) (vs : VL), szV (doL vs l) ≤ szV vs + szL l
  | [], vs => by simp [doL]
  | p :: l, vs => by
    have h1 := doL_sz l (doV vs p)
    have h2 := doV_sz vs p
    rw [szL_cons]
    show szV (doL (doV vs p) l) ≤ _
    omega
theorem szV_len (vs : VL) : 7 * vs.length ≤ szV vs := by
  induction vs with
  | nil => simp [szV]
  | cons p vs ih => rw [szV_cons, List.length_cons]; omega
theorem szV_mem {vs : VL} {p : Bk × Bk} (h : p ∈ vs) : p.1.length + p.2.length ≤ szV vs := by
  induction vs with
  | nil => cases h
  | cons q vs ih =>
    rw [szV_cons]
    rcases List.mem_cons.1 h with rfl | h
    · omega
    · have := ih h; omega
theorem encL_sz (l : List Pq) : (encL l).length = szL l := by
  induction l with
  | nil => rfl
  | cons p l ih =>
    have e : encL (p :: l) = encP p ++ encL l := rfl
    rw [e, List.length_append, encP_len, ih, szL_cons]
    rfl
theorem szL_pairs (vs : VL) : szL (pairsV vs) = szV vs := by
  unfold szL szV pairsV
  rw [List.map_map]
  rfl
/-! ### keys that may be -/
def okV (vs : VL) : Prop := ∀ p ∈ vs, 1 ≤ p.1.length ∧ p.1.length ≤ 1000
theorem okP_keep {p : Pq} (h : okP p = true) : 1 ≤ p.key.length ∧ p.key.length ≤ 1000 := ⟨(okP_len h).1, (okP_len h).2.1⟩
theorem doV_ok {vs : VL} {p : Pq} (h : okV vs) (hp : okP p = true) : okV (doV vs p) := by
  unfold doV
  split
  · exact fun q hq => h q ((delV_sub _ _).subset hq)
  · intro q hq
    rcases insV_mem hq with rfl | hq
    · exact okP_keep hp
    · exact h q hq
theorem doL_ok : ∀ {l : List Pq} {vs : VL}, okV vs → okL l = true → okV (doL vs l)
  | [], _, h, _ => h
  | p :: l, vs, h, hl => by
    unfold okL at hl
    rw [List.all_cons, Bool.and_eq_true] at hl
    exact doL_ok (l := l) (doV_ok h hl.1) hl.2
theorem okV_pairs {vs : VL} (h : okV vs) : okL (pairsV vs) = true := by
  unfold okL pairsV
  rw [List.all_map, List.all_eq_true]
  intro p hp
  have := h p hp
  show okP ⟨p.1, p.2, false⟩ = true
  unfold okP
  simp only [Bool.and_eq_true, decide_eq_true_eq, Bool.false_and, Bool.not_false, and_true]
  exact ⟨this.1, this.2⟩
theorem decAll_ok : ∀ {rs : List Bk} {l : List Pq}, decAll rs = some l → okL l = true ∧ szL l = (rs.map List.length).sum
  | [], l, h => by rw [decAll, Option.some.injEq] at h; subst h; exact ⟨rfl, rfl⟩
  | r :: rs, l, h => by
    rw [decAll] at h
    cases h1 : dec r with
    | none => rw [h1] at h; cases h
    | some a =>
      cases h2 : decAll rs with
      | none => rw [h1, h2] at h; cases h
      | some b =>
        rw [h1, h2] at h
        cases h
        have ⟨i1, i2⟩ := decAll_ok h2
        have ⟨j1, j2⟩ := dec_ok h1
        refine ⟨by unfold okL at *; rw [List.all_append, j1, i1]; rfl, ?_⟩
        rw [szL_append, i2, List.map_cons, List.sum_cons, ← j2]
        rfl
theorem room_sz (rs : List Bk) : (rs.map List.length).sum ≤ 42 * room rs := by
  induction rs with
  | nil => simp
  | cons r rs ih =>
    rw [room_cons, List.map_cons, List.sum_cons]
    have : r.length ≤ 42 * nb r.length := by unfold nb; omega
    omega
end Sto
/-! ### a store in memory -/
structure Sz where
  p : Nat
  mb : Nat
  mm : MV
  c : Nat
  j : Nat
  h : Hf
  bl : List Bk
def Sz.cs (z : Sz) : List Value := [Pt z.j 0, .map (some z.mb)]
def Sz.E (z : Sz) : List Ent := ⟨z.p, Row 72 z.cs, true⟩ :: ⟨z.mb, MvB (z.mm, z.c), true⟩ :: (jnE z.j z.h z.bl [] ++ flatE (z.mm.map ME.val))
theorem Sz.wr (z : Sz) : ∀ e ∈ z.E, e.wr = true := by
  intro e he
  rcases List.mem_cons.1 he with rfl | he
  · rfl
  · rcases List.mem_cons.1 he with rfl | he
    · rfl
    · rcases List.mem_append.1 he with he | he
      · exact jnE_wr _ _ _ _ e he
      · exact flatE_wr _ e he
structure Sz.ok (z : Sz) (recs : List Bk) (vs : VL) : Prop where
  wf : WF z.mm z.c
  is : MapIs z.mm vs
  srt : Srt vs
  h0 : ∀ x ∈ z.mm.map ME.val, x.ad = none → x.l = []
  jv : Jv z.h z.bl recs
  dk : DkOk z.h.x z.bl []
  vals : valsOf recs = some vs
namespace Sz.ok
variable {z : Sz} {recs : List Bk} {vs : VL}
theorem sz (k : z.ok recs vs) : szV vs ≤ 1400000 ∧ okV vs := by
  have h := k.vals
  unfold valsOf at h
  cases hd : decAll recs with
  | none => rw [hd] at h; cases h
  | some l =>
    rw [hd, Option.map_some, Option.some.injEq] at h
    have ⟨h1, h2⟩ := decAll_ok hd
    have h3 := doL_sz l []
    rw [h] at h3
    have h4 := room_sz recs
    have h5 := k.jv.r
    have h6 := k.jv.fs
    refine ⟨?_, h ▸ doL_ok (fun _ h => by cases h) h1⟩
    have : szV ([] : VL) = 0 := rfl
    omega
theorem len (k : z.ok recs vs) : z.mm.length = vs.length := by have := k.is.length_eq; unfold mvp at this; rwa [List.length_map] at this
theorem lenb (k : z.ok recs vs) : z.mm.length ≤ 200000 := by have := k.len; have := szV_len vs; have := k.sz.1; omega
theorem val (k : z.ok recs vs) {x : Sl8} (h : x ∈ z.mm.map ME.val) : x.l.length ≤ 1400000 := by
  obtain ⟨e, he, rfl⟩ := List.mem_map.1 h
  have := szV_mem (k.is.mem_iff.1 (List.mem_map.2 ⟨e, he, rfl⟩))
  have := k.sz.1
  dsimp only at *
  omega
theorem vok (k : z.ok recs vs) {u w : World} {S : List Nat} {M : List Ent} (hw : Holds u S (z.E ++ M) w) : ∀ x ∈ z.mm.map ME.val, x.ok w :=
  flat_ok (A := [⟨z.p, Row 72 z.cs, true⟩, ⟨z.mb, MvB (z.mm, z.c), true⟩] ++ jnE z.j z.h z.bl []) (by
    have h := hw.weak (M' := z.E) (less_pre _ _)
    unfold Sz.E at h
    simpa using h) k.h0
end Sz.ok
/-- what is only read of a store -/
def stR (p mb : Nat) (cs : List Value) (z : MV × Nat) : List Ent := [⟨p, Row 72 cs, false⟩, ⟨mb, MvB z, false⟩]
theorem stR_of {z : Sz} {u w : World} {S : List Nat} {M : List Ent} (hw : Holds u S (z.E ++ M) w) : Holds w [] (stR z.p z.mb z.cs (z.mm, z.c)) w :=
  (ro_holds hw).weak (.keep _ _ _ _ _ _ (fun _ h => h) (.keep _ _ _ _ _ _ (fun _ h => h) (.nil _)))
theorem ptC16 : scal Try.prog 68 = true := by kernel_rfl
theorem mpC16 : scal Try.prog 65 = true := by kernel_rfl
theorem goes_sGet : Goes Try.prog 24 := ⟨_, Try.func24, rfl, by kernel_rfl⟩
theorem goes_sKeys : Goes Try.prog 15 := ⟨_, Try.func15, rfl, by kernel_rfl⟩
theorem look_vt (o : Option Sl8) : lookV (o.map Sl8.v) (.slice none 0 0) true = .tuple #[(o.getD nilS).v, .bool o.isSome] := by cases o <;> rfl
set_option maxHeartbeats 8000000 in
theorem get_any (p mb : Nat) (j : Value) (mm : MV) (c : Nat) (key : Bk) (w : World) (h0 : Holds w [] (stR p mb [j, .map (some mb)] (mm, c)) w) (hv : ∀ x ∈ mm.map ME.val, x.ok w ∧ x.l.length ≤ 4294967296) :
    Calls Try.prog 24 [Pt p 0, Z key].toArray w fun e w' => ∃ q : {q : Acc // q = none → ((look mm key).getD nilS).l = []}, e = .returned (.tuple #[accV q.1 ((look mm key).getD nilS).l.length, .bool (look mm key).isSome]) ∧ Holds w [] (accE 5 q.1 (((look mm key).getD nilS).l.map U8)) w' := by
  have hs : ((look mm key).getD nilS).ok w ∧ ((look mm key).getD nilS).l.length ≤ 4294967296 := by
    cases h2 : look mm key with
    | none => exact ⟨nilS_ok w, by show (0 : Nat) ≤ _; omega⟩
    | some s =>
      obtain ⟨e, he, _, h1⟩ := look_in h2
      exact hv s (List.mem_map.2 ⟨e, he, h1⟩)
  have hlv := look_vt (look mm key)
  refine enter (n := 20) Try.func24 rfl rfl rfl h0 ?_
  unfold stR
  generalize hsl : (look mm key).getD nilS = sl at hs hlv
  generalize (look mm key).isSome = is at hlv
  repeat (first | refine JL.q (by first | (apply OQ.load; exact mpC16; exact rfl; exact .here; exact (Row.cell (v := .map (some mb)) rfl)) | (apply OQ.to; exact (OQ.look (ok := true) Try.underlying65 Try.underlying9 sl8Z16 rfl rfl (.there .here)); exact hlv) | (apply OQ.extract; exact rfl; exact rfl) | (apply OQ.move; exact rfl) | (apply OQ.assign; exact rfl) | (apply OQ.nilc; exact rfl) | (apply OQ.fld; exact rfl; exact rfl; exact rfl; exact (by decide); exact rfl)) rfl ?_ | refine JC.seq ?_ | refine JC.region ?_ | refine JL.nil ?_ | refine JE.next ?_)
  refine JL.callg (ι := { q : Acc // q = none → sl.l = [] }) (vs := [sl.v]) (fun q => accV q.1 sl.l.length) (fun q => accE 5 q.1 (sl.l.map U8)) goes_clone rfl rfl (fun q => accE_wr _ _ _) (fun w' hw' => (clone_any sl w' (hs.1.holds hw' rfl) hs.2).mono fun e w2 ⟨q, h1, h2, h3⟩ => ⟨⟨q, h2⟩, h1, h3⟩) fun q => ?_
  repeat (first | refine JL.q (by first | (apply OQ.move; exact rfl) | (apply OQ.assign; exact rfl)) rfl ?_ | refine JL.nil ?_ | refine JE.next ?_)
  exact JC.ret (JE.ret2 rfl (RV.tmp rfl) (RV.tmp rfl) fun w' hw => ⟨q, rfl, hw.weak (less_pre _ _)⟩)
set_option maxHeartbeats 8000000 in
theorem skeys_any (p mb : Nat) (j : Value) (mm : MV) (c : Nat) (front : Bk) (w : World) (hf : WF mm c) (h0 : Holds w [] (stR p mb [j, .map (some mb)] (mm, c)) w) (hn : mm.length ≤ 4294967296) :
    Calls Try.prog 15 [Pt p 0, Z front].toArray w fun e w' => ∃ q : {q : Acc // q = none → keysM mm front = []}, e = .returned (accV q.1 (keysM mm front).length) ∧ Holds w [] (accE 9 q.1 ((keysM mm front).map Z)) w' := by
  refine enter (n := 11) Try.func15 rfl rfl rfl h0 ?_
  unfold stR
  repeat (first | refine JL.q (by first | (apply OQ.load; exact mpC16; exact rfl; exact .here; exact (Row.cell (v := .map (some mb)) rfl)) | (apply OQ.move; exact rfl) | (apply OQ.assign; exact rfl) | (apply OQ.nilc; exact rfl) | (apply OQ.fld; exact rfl; exact rfl; exact rfl; exact (by decide); exact rfl)) rfl ?_ | refine JC.seq ?_ | refine JC.region ?_ | refine JL.nil ?_ | refine JE.next ?_)
  refine JL.callg (ι := {q : Acc // q = none → keysM mm front = []}) (vs := [.map (some mb), Z front]) (fun q => accV q.1 (keysM mm front).length) (fun q => accE 9 q.1 ((keysM mm front).map Z)) goes_keys rfl rfl (fun _ => accE_wr _ _ _) (fun w' hw' => keys_any mb mm c front w' hf (hw'.get (.there .here)) hn) fun q => ?_
  repeat (first | refine JL.q (by (apply OQ.assign; exact rfl)) rfl ?_ | refine JL.nil ?_ | refine JE.next ?_)
  exact JC.ret (JE.ret1 rfl (RV.tmp rfl) fun w' hw => ⟨q, rfl, hw.weak (less_pre _ _)⟩)
end Go.Proofs.Ytjkncnbpaejamaa

/-
  Of no statement by itself: the landed store's restart.
  Conditions: each theorem's own.
-/
namespace Go.Proofs.Ytjkncnbpaejamaa
set_option maxRecDepth 10000
open Sl Dsk Jrn Sto
/-- a slice of pairs of one's own, whose values' bytes lie elsewhere -/
def gpS (q : Acc) (l : List PqS) : SlP := match q with
  | none => ⟨none, 0, []⟩
  | some p => ⟨some ⟨p.1, 0, none⟩, p.2, l⟩
theorem gpS_l {q : Acc} {l : List PqS} (h : q = none → l = []) : (gpS q l).l = l := by
  cases q with
  | none => exact (h rfl).symm
  | some p => rfl
theorem gpS_v {q : Acc} {l : List PqS} (h : q = none → l = []) : (gpS q l).v = accV q l.length := by
  cases q with
  | none => rw [h rfl]; rfl
  | some p => rfl
theorem gpS_ok {q : Acc} {l : List PqS} {w0 w : World} {S : List Nat} {M : List Ent} (h : q = none → l = []) (hw : Holds w0 S (accC 44 3 q (l.map PqS.cs) ++ M) w) (ha : ∀ p ∈ l, p.s.ok w) : (gpS q l).ok w := by
  cases q with
  | none => exact ⟨Nat.le_refl _, Reads.nil _ _, nofun⟩
  | some p =>
    obtain ⟨o, ho, hA⟩ := hw.get (b := p.1) (A := Sl.Own 44 3 (l.map PqS.cs).length p.2 (l.map PqS.cs).flatten) (wr := true) .here
    have hc := hA
    obtain ⟨sp, _, _, _, h4⟩ := hc
    rw [List.length_map] at h4
    exact ⟨h4, Reads.block ho (Sl.Own.cells o hA), ha⟩
theorem perm_j (A B : List Ent) (c p m : Ent) (J F : List Ent) : (A ++ (B ++ (c :: p :: m :: (J ++ F)))).Perm (J ++ (A ++ (B ++ (c :: p :: m :: F)))) := by
  have := List.perm_append_comm_assoc (A ++ (B ++ [c, p, m])) J F
  simpa using this
/-- a store with other values, another journal -/
def Sz.put (z : Sz) (mc : MV × Nat) (h : Hf) (bl : List Bk) : Sz := ⟨z.p, z.mb, mc.1, mc.2, z.j, h, bl⟩
theorem goes_srst : Goes Try.prog 32 := ⟨_, Try.func32, rfl, by kernel_rfl⟩
/-- the bytes of the base that a store begins anew with -/
def baseOf (vs : VL) (l : List Pq) : Bk := encL (pairsV (doL vs l))
def rstV (z : Sz) (b : Bk) : Nat × Sz := if z.h.size < nb b.length ∨ gm z.bl = 4294967295#32 then (6, z) else (0, z.put (z.mm, z.c) (rstJ z.h z.bl b) (rstD z.h z.bl b))
set_option maxHeartbeats 16000000 in
theorem srst_any (z : Sz) (recs : List Bk) (vs : VL) (k : z.ok recs vs) (s : SlP) (w : World) (hs : s.ok w) (ha : AwayP s (keys z.E)) (hok : okL s.ps = true) (hz : szL s.ps ≤ 2500000) (h0 : Holds w (keys z.E) z.E w) :
    Calls Try.prog 32 [Pt z.p 0, s.v].toArray w fun e w' => e = .returned (N (rstV z (baseOf vs s.ps)).1) ∧ Holds w (keys z.E) (rstV z (baseOf vs s.ps)).2.E w' := by
  generalize hS : keys z.E = S at h0 ha ⊢
  have hsl : s.l.length ≤ 400000 := by
    have h1 : 7 * s.ps.length ≤ szL s.ps := by
      generalize s.ps = l
      induction l with
      | nil => simp [szL]
      | cons p l ih => rw [szL_cons, List.length_cons]; unfold szP; omega
    unfold SlP.ps at h1 hz
    rw [List.length_map] at h1
    omega
  have hsv : ∀ p ∈ s.l, p.s.l.length ≤ 2500000 := fun p hp => by
    have : ∀ l : List Pq, ∀ q ∈ l, q.val.length ≤ szL l := by
      intro l
      induction l with
      | nil => intro q h; cases h
      | cons x l ih =>
        intro q h
        rw [szL_cons]
        rcases List.mem_cons.1 h with rfl | h
        · unfold szP; omega
        · have := ih q h; omega
    have := this s.ps p.p (List.mem_map_of_mem hp)
    unfold PqS.p at this
    dsimp only at this
    omega
  have hwf := doMs_wf s.l (z := (z.mm, z.c)) k.wf
  have his := doMs_is s.l (z := (z.mm, z.c)) k.wf k.srt k.is
  have hsrt := doL_srt (l := s.ps) k.srt
  have hps := pairsM_is hwf hsrt his
  have hsz := doL_sz s.ps vs
  have hvz := k.sz
  have hlen2 : (pairsM (doMs (z.mm, z.c) s.l).1).length ≤ 600000 := by
    have h1 := congrArg List.length hps
    rw [List.length_map] at h1
    unfold pairsV at h1
    rw [List.length_map] at h1
    have := szV_len (doL vs s.ps)
    omega
  have hmlen : (doMs (z.mm, z.c) s.l).1.length ≤ 600000 := by
    have h1 := his.length_eq
    unfold mvp at h1
    rw [List.length_map] at h1
    have h2 : (s.l.map PqS.p) = s.ps := rfl
    rw [h2] at h1
    have := szV_len (doL vs s.ps)
    omega
  have hval : ∀ p ∈ pairsM (doMs (z.mm, z.c) s.l).1, p.s.l.length ≤ 4000000 := fun p hp => by
    have h1 : p.p ∈ pairsV (doL vs s.ps) := hps ▸ List.mem_map_of_mem hp
    obtain ⟨q, hq, e⟩ := List.mem_map.1 h1
    have h2 := szV_mem hq
    have h3 : q.2.length = p.s.l.length := by rw [show p.s.l = p.p.val from rfl, ← e]
    omega
  have hok2 : okL (pairsV (doL vs s.ps)) = true := okV_pairs (doL_ok hvz.2 hok)
  have hin : ∀ p ∈ pairsM (doMs (z.mm, z.c) s.l).1, p.s = nilS ∨ p.s ∈ z.mm.map ME.val ∨ ∃ y ∈ s.l, p.s = y.s := fun p hp => by
    rcases pairsM_in hp with h | h
    · exact .inl h
    · obtain ⟨r, hr⟩ := doMs_sub s.l (z := (z.mm, z.c)) k.wf
      rcases List.mem_append.1 (hr.mem_iff.1 (List.mem_append_left r h)) with h | h
      · exact .inr (.inl h)
      · obtain ⟨y, hy, e⟩ := List.mem_map.1 h
        exact .inr (.inr ⟨y, hy, e.symm⟩)
  unfold baseOf
  rw [← hps]
  rw [← hps] at hok2
  obtain ⟨mc, hmc⟩ : ∃ mc, doMs (z.mm, z.c) s.l = mc := ⟨_, rfl⟩
  rw [hmc] at hwf his hps hlen2 hmlen hval hin hok2 ⊢
  refine enter (n := 24) Try.func32 rfl rfl rfl h0 ?_
  show JC _ _ _ _ _ _ _ (⟨z.p, Row 72 z.cs, true⟩ :: ⟨z.mb, MvB (z.mm, z.c), true⟩ :: (jnE z.j z.h z.bl [] ++ flatE (z.mm.map ME.val)))
  repeat (first | refine JL.q (by first | (apply OQ.load; exact mpC16; exact rfl; exact .here; exact (Row.cell (v := .map (some z.mb)) rfl)) | (apply OQ.move; exact rfl) | (apply OQ.assign; exact rfl) | (apply OQ.nilc; exact rfl) | (apply OQ.fld; exact rfl; exact rfl; exact rfl; exact (by decide); exact rfl)) rfl ?_ | refine JC.seq ?_ | refine JC.region ?_ | refine JL.nil ?_ | refine JE.next ?_)
  refine JL.callg (ι := Nat) (vs := [.map (some z.mb), s.v]) (fun b' => .map (some b')) (fun b' => [⟨b', MvB mc, true⟩]) goes_behind rfl rfl (by simp) (fun w' hw' => by have := behind_any z.mb (z.mm, z.c) s w' (hw'.get (.there .here)) (hs.away hw' ha) (by omega); rwa [hmc] at this) fun b' => ?_
  refine JL.callg (ι := {q : Acc // q = none → pairsM mc.1 = []}) (vs := [.map (some b')]) (fun q => accV q.1 (pairsM mc.1).length) (fun q => accC 44 3 q.1 ((pairsM mc.1).map PqS.cs)) goes_pairs rfl rfl (fun _ => accC_wr _ _ _ _) (fun w' hw' => pairs_any b' mc.1 mc.2 w' hwf (hw'.get .here) (by omega)) fun q2 => ?_
  obtain ⟨q2, hq2⟩ := q2
  dsimp only
  have hv2 := gpS_v hq2
  have hl2 := gpS_l hq2
  have hps2 : (gpS q2 (pairsM mc.1)).ps = (pairsM mc.1).map PqS.p := by unfold SlP.ps; rw [hl2]
  refine JL.callg (ι := {q : Acc // q = none → encL ((pairsM mc.1).map PqS.p) = []}) (vs := [(gpS q2 (pairsM mc.1)).v]) (fun q => .tuple #[accV q.1 (encL ((pairsM mc.1).map PqS.p)).length, N 0]) (fun q => accE 5 q.1 ((encL ((pairsM mc.1).map PqS.p)).map U8)) goes_sEnc (by rw [hv2]; rfl) rfl (fun _ => accE_wr _ _ _) (fun w' hw' => ?_) fun q3 => ?_
  · have hz' : Holds w S (([⟨b', MvB mc, true⟩] ++ (accC 44 3 q2 ((pairsM mc.1).map PqS.cs))) ++ (z.E ++ [])) w' := by
      rw [List.append_nil]
      refine hw'.perm' ?_
      rw [← List.append_assoc]
      exact (List.perm_append_comm).append_right _
    have hvok := k.vok (M := []) (hz'.weak (less_app _ (Less.refl _)))
    have hsok := hs.away hw' ha
    have hg := gpS_ok hq2 hw' fun p hp => by
      rcases hin p hp with h | h | ⟨y, hy, h⟩
      · rw [h]; exact nilS_ok _
      · exact hvok _ h
      · rw [h]; exact hsok.all y hy
    have := sEnc_any _ w' hg (by rw [hl2]; omega) (by rw [hl2]; exact hval)
    rw [hps2, hok2] at this
    exact this
  obtain ⟨q3, hq3⟩ := q3
  dsimp only
  have hrl : (encL ((pairsM mc.1).map PqS.p)).length < 4611686018427387904 := by
    rw [hps, encL_sz, szL_pairs]
    omega
  generalize encL ((pairsM mc.1).map PqS.p) = rec at hq3 hrl ⊢
  have hfs := k.jv.fs
  have hl3 := accS_l hq3
  have hv3 := accS_v q3 rec
  have hwr := accE_wr 5 q3 (rec.map U8)
  repeat (first | refine JL.q (by first | (apply OQ.extract; exact rfl; exact rfl) | (apply OQ.load; exact ptC16; exact rfl; exact (hasR (hasR (.there .here))); exact (Row.cell (v := Pt z.j 0) rfl)) | (apply OQ.move; exact rfl) | (apply OQ.assign; exact rfl) | (apply OQ.nilc; exact rfl) | (apply OQ.fld; exact rfl; exact rfl; exact rfl; exact (by decide); exact rfl)) rfl ?_ | refine JC.seq ?_ | refine JC.region ?_ | refine JL.nil ?_ | refine JE.next ?_)
  unfold rstV
  by_cases hno : z.h.size < nb rec.length ∨ gm z.bl = 4294967295#32
  · rw [if_pos hno]
    have cN : ∀ w', Holds w S (accE 5 q3 (rec.map U8) ++ (accC 44 3 q2 ((pairsM mc.1).map PqS.cs) ++ (⟨b', MvB mc, true⟩ :: ⟨z.p, Row 72 z.cs, true⟩ :: ⟨z.mb, MvB (z.mm, z.c), true⟩ :: (jnE z.j z.h z.bl [] ++ flatE (z.mm.map ME.val))))) w' → Calls Try.prog 52 [Pt z.j 0, accV q3 rec.length].toArray w' fun e w2 => e = .returned (N 6) ∧ Ext w' w2 := fun w' hw' => by
      have := rst_no z.j z.h z.bl [] (accS q3 rec) k.dk.ok k.jv.n5 (by omega) (by rw [hl3]; exact hrl) (by rw [hl3]; exact hno) w' (jnR_of (hw'.perm' (perm_j _ _ _ _ _ _ _)))
      rwa [hv3] at this
    repeat (first | refine JL.q (by first | (apply OQ.callx (vs := [Pt z.j 0, accV q3 rec.length]); exact goes_rst; exact rfl; exact (fun w' hw' => cN w' hw')) | (apply OQ.assign; exact rfl)) rfl ?_ | refine JL.nil ?_ | refine JE.next ?_)
    exact JC.ret (JE.ret1 rfl (RV.tmp rfl) fun w' hw => ⟨rfl, hw.weak (less_app _ (less_app _ (.drop _ _ _ (Less.refl _))))⟩)
  · rw [if_neg hno]
    refine JL.perm (M' := jnE z.j z.h z.bl [] ++ (accE 5 q3 (rec.map U8) ++ (accC 44 3 q2 ((pairsM mc.1).map PqS.cs) ++ (⟨b', MvB mc, true⟩ :: ⟨z.p, Row 72 z.cs, true⟩ :: ⟨z.mb, MvB (z.mm, z.c), true⟩ :: flatE (z.mm.map ME.val))))) ?_ (perm_j _ _ _ _ _ _ _)
    refine JL.jrst (s := accS q3 rec) k.jv k.dk (by decide) (by rw [hl3]; exact hno) (fun w' hw' => ?_) rfl (by rw [hv3]; rfl) rfl ?_
    · refine ⟨acc_ok (hw'.weak (less_app _ (Less.refl _))), ?_⟩
      intro h0' a ea
      cases q3 with
      | none => cases ea
      | some p =>
        have e : a = ⟨p.1, 0, none⟩ := by cases ea; rfl
        rw [e]
        exact away_has (b := p.1) (A := Sl.Own 5 1 (rec.map U8).length p.2 (rec.map U8)) hw' .here
    rw [hl3]
    repeat (first | refine JL.q (by (apply OQ.assign; exact rfl)) rfl ?_ | refine JL.nil ?_ | refine JE.next ?_)
    exact JC.ret (JE.ret1 rfl (RV.tmp rfl) fun w' hw => ⟨rfl, (hw.perm' (perm_j _ _ _ _ _ _ _).symm).weak (less_app _ (less_app _ (.drop _ _ _ (Less.refl _))))⟩)
end Go.Proofs.Ytjkncnbpaejamaa

/-
  Of no statement by itself: the landed store's Commit.
  Conditions: each theorem's own.
-/
namespace Go.Proofs.Ytjkncnbpaejamaa
set_option maxRecDepth 10000
open Sl Dsk Jrn Sto
theorem away_gp {w0 w : World} {S : List Nat} {X M : List Ent} {z : Gp} (hw : Holds w0 S (X ++ (z.E ++ M)) w) : AwayP z.s (keys X) := by
  have key : ∀ b, b ∈ z.E.map Ent.b → b ∉ keys X := fun b hb hm => by
    have hn := hw.nodup
    rw [List.map_append, List.nodup_append] at hn
    exact hn.2.2 b hm b (by rw [List.map_append]; exact List.mem_append_left _ hb) rfl
  have hl := z.s_l
  obtain ⟨q, ps, hq, h0⟩ := z
  refine ⟨fun _ a ha => ?_, fun y hy h0 a ha => ?_⟩
  · cases q with
    | none => cases ha
    | some p =>
      have : a = ⟨p.1, 0, none⟩ := by cases ha; rfl
      rw [this]
      exact key p.1 (by unfold Gp.E; rw [List.map_append]; exact List.mem_append_left _ (by simp [accC]))
  · have hy' : y ∈ ps := by rwa [hl] at hy
    refine key a.block ?_
    unfold Gp.E
    rw [List.map_append]
    refine List.mem_append_right _ ?_
    unfold flatE
    rw [List.map_flatMap, List.mem_flatMap]
    exact ⟨y.s, List.mem_map_of_mem hy', by unfold Sl8.ents; rw [ha]; simp⟩
/-- what a Commit comes to -/
def Step (z : Sz) (recs : List Bk) (vs : VL) (ps : List Pq) (code : Nat) (z' : Sz) (recs' : List Bk) (vs' : VL) : Prop :=
  z'.ok recs' vs' ∧ z'.p = z.p ∧
  ((z' = z ∧ recs' = recs ∧ vs' = vs ∧ ((okL ps = false ∧ code = 1) ∨ (okL ps = true ∧ code = 6 ∧ ¬ nb (encL ps).length ≤ z.h.size - z.h.used ∧ noRst z.h z.bl (baseOf vs ps).length))) ∨
   (okL ps = true ∧ code = 0 ∧ vs' = doL vs ps ∧
     ((nb (encL ps).length ≤ z.h.size - z.h.used ∧ z'.h = appJ z.h (encL ps) ∧ z'.bl = appD z.h z.bl (encL ps) ∧ recs' = recs ++ [encL ps]) ∨
      (¬ nb (encL ps).length ≤ z.h.size - z.h.used ∧ ¬ noRst z.h z.bl (baseOf vs ps).length ∧ z'.h = rstJ z.h z.bl (baseOf vs ps) ∧ z'.bl = rstD z.h z.bl (baseOf vs ps) ∧ recs' = [baseOf vs ps]))))
structure StepTo (z : Sz) (recs : List Bk) (vs : VL) (ps : List Pq) where
  code : Nat
  z' : Sz
  recs' : List Bk
  vs' : VL
  st : Step z recs vs ps code z' recs' vs'
theorem valsOf_app {recs : List Bk} {vs : VL} {r : Bk} {l : List Pq} (h : valsOf recs = some vs) (hd : dec r = some l) : valsOf (recs ++ [r]) = some (doL vs l) := by
  unfold valsOf at *
  rw [decAll_append, decAll_one, hd]
  cases h1 : decAll recs with
  | none => rw [h1] at h; cases h
  | some a =>
    rw [h1, Option.map_some, Option.some.injEq] at h
    simp only [Option.map_some, Option.some.injEq]
    rw [doL_append, h]
theorem valsOf_base {vs : VL} (hs : Srt vs) (hk : okV vs) (hz : szV vs < 4294967296) : valsOf [encL (pairsV vs)] = some vs := by
  unfold valsOf
  rw [decAll_one, dec_enc (okV_pairs hk) fun p hp => by
    obtain ⟨q, hq, rfl⟩ := List.mem_map.1 hp
    have := szV_mem hq
    show q.2.length < _
    omega]
  simp only [Option.map_some, Option.some.injEq]
  exact doL_nil hs
/-- the values' bytes behind pairs, as memory -/
theorem flatE_perm {a b : List Sl8} (h : a.Perm b) : (flatE a).Perm (flatE b) := h.flatMap_right _
theorem flatE_app (a b : List Sl8) : flatE (a ++ b) = flatE a ++ flatE b := List.flatMap_append
theorem Holds.values {w0 w : World} {S : List Nat} {A : List Ent} {mc : MV × Nat} {l : List PqS} (hf : WF mc.1 mc.2) (h : Holds w0 S (A ++ (flatE (mc.1.map ME.val) ++ flatE (l.map PqS.s))) w) : Holds w0 S (A ++ flatE ((doMs mc l).1.map ME.val)) w := by
  obtain ⟨r, hr⟩ := doMs_sub l hf
  rw [← flatE_app] at h
  have h2 := h.perm' ((flatE_perm hr.symm).append_left A)
  rw [flatE_app, ← List.append_assoc] at h2
  exact h2.weak (less_pre _ _)
/-- the state behind pairs that are done -/
theorem Sz.ok.step {z : Sz} {recs : List Bk} {vs : VL} (k : z.ok recs vs) {l : List PqS} (h0 : ∀ p ∈ l, p.s.ad = none → p.s.l = []) {h : Hf} {bl recs' : List Bk} (jv : Jv h bl recs') (dk : DkOk h.x bl []) (hv : valsOf recs' = some (doL vs (l.map PqS.p))) :
    (z.put (doMs (z.mm, z.c) l) h bl).ok recs' (doL vs (l.map PqS.p)) where
  wf := doMs_wf l (z := (z.mm, z.c)) k.wf
  is := doMs_is l (z := (z.mm, z.c)) k.wf k.srt k.is
  srt := doL_srt k.srt
  h0 := fun x hx => by
    obtain ⟨r, hr⟩ := doMs_sub l (z := (z.mm, z.c)) k.wf
    rcases List.mem_append.1 (hr.mem_iff.1 (List.mem_append_left r hx)) with h1 | h1
    · exact k.h0 x h1
    · obtain ⟨p, hp, rfl⟩ := List.mem_map.1 h1
      exact h0 p hp
  jv := jv
  dk := dk
  vals := hv
theorem goes_com : Goes Try.prog 13 := ⟨_, Try.func13, rfl, by kernel_rfl⟩
theorem perm_k (A B : List Ent) (p m : Ent) (J F : List Ent) : (A ++ (B ++ (p :: m :: (J ++ F)))).Perm (J ++ (A ++ (B ++ (p :: m :: F)))) := by
  have := List.perm_append_comm_assoc (A ++ (B ++ [p, m])) J F
  simpa using this
theorem perm_m (J A B : List Ent) (p m : Ent) (F : List Ent) : (J ++ (A ++ (B ++ (p :: m :: F)))).Perm (m :: (J ++ (A ++ (B ++ (p :: F))))) := by
  have := List.perm_middle (a := m) (l₁ := J ++ (A ++ (B ++ [p]))) (l₂ := F)
  simpa using this
theorem perm_e (m p : Ent) (J C G A F : List Ent) : (m :: (J ++ ((C ++ G) ++ (A ++ (p :: F))))).Perm (((p :: m :: J) ++ (F ++ G)) ++ (C ++ A)) := by
  have h1 := List.perm_middle (a := p) (l₁ := m :: (J ++ ((C ++ G) ++ A))) (l₂ := F)
  have h2 : ((C ++ G) ++ A ++ F).Perm (F ++ G ++ (C ++ A)) := by
    refine List.perm_append_comm.trans ?_
    have h3 : ((C ++ G) ++ A).Perm (G ++ C ++ A) := List.perm_append_comm.append_right _
    have := h3.append_left F
    simpa using this
  have h4 := (h2.append_left J).cons m |>.cons p
  have e1 : m :: (J ++ ((C ++ G) ++ (A ++ (p :: F)))) = (m :: (J ++ ((C ++ G) ++ A))) ++ (p :: F) := by simp
  have e2 : ((p :: m :: J) ++ (F ++ G)) ++ (C ++ A) = p :: m :: (J ++ (F ++ G ++ (C ++ A))) := by simp
  rw [e1, e2]
  refine h1.trans ?_
  have e3 : p :: (m :: (J ++ ((C ++ G) ++ A)) ++ F) = p :: m :: (J ++ ((C ++ G) ++ A ++ F)) := by simp
  rw [e3]
  exact h4
theorem Sz.close {z : Sz} {g : Gp} {A : List Ent} {h : Hf} {bl : List Bk} {w0 w : World} {S : List Nat} (hf : WF z.mm z.c) (hw : Holds w0 S (⟨z.mb, MvB (doMs (z.mm, z.c) g.ps), true⟩ :: (jnE z.j h bl [] ++ (g.E ++ (A ++ (⟨z.p, Row 72 z.cs, true⟩ :: flatE (z.mm.map ME.val)))))) w) : Holds w0 S (z.put (doMs (z.mm, z.c) g.ps) h bl).E w := by
  have h1 := (hw.perm' (perm_e _ _ _ _ _ _ _)).weak (less_pre _ _)
  exact Holds.values (mc := (z.mm, z.c)) (l := g.ps) hf h1
set_option maxHeartbeats 16000000 in
theorem com_any (z : Sz) (recs : List Bk) (vs : VL) (k : z.ok recs vs) (s : SlP) (w : World) (hs : s.ok w) (ha : AwayP s (keys z.E)) (hz : szL s.ps ≤ 2500000) (h0 : Holds w (keys z.E) z.E w) :
    Calls Try.prog 13 [Pt z.p 0, s.v].toArray w fun e w' => ∃ r : StepTo z recs vs s.ps, e = .returned (N r.code) ∧ Holds w (keys z.E) r.z'.E w' := by
  generalize hS : keys z.E = S at h0 ha ⊢
  have hsl : s.l.length ≤ 400000 := by
    have h1 : 7 * s.ps.length ≤ szL s.ps := by
      generalize s.ps = l
      induction l with
      | nil => simp [szL]
      | cons p l ih => rw [szL_cons, List.length_cons]; unfold szP; omega
    unfold SlP.ps at h1 hz
    rw [List.length_map] at h1
    omega
  have hsv : ∀ q ∈ s.ps, q.val.length ≤ 2500000 := fun q hq => by
    have : ∀ l : List Pq, ∀ q ∈ l, q.val.length ≤ szL l := by
      intro l
      induction l with
      | nil => intro q h; cases h
      | cons x l ih =>
        intro q h
        rw [szL_cons]
        rcases List.mem_cons.1 h with rfl | h
        · unfold szP; omega
        · have := ih q h; omega
    have := this s.ps q hq
    omega
  refine enter (n := 47) Try.func13 rfl rfl rfl h0 ?_
  show JC _ _ _ _ _ _ _ (⟨z.p, Row 72 z.cs, true⟩ :: ⟨z.mb, MvB (z.mm, z.c), true⟩ :: (jnE z.j z.h z.bl [] ++ flatE (z.mm.map ME.val)))
  repeat (first | refine JL.q (by first | (apply OQ.move; exact rfl) | (apply OQ.assign; exact rfl)) rfl ?_ | refine JC.seq ?_ | refine JC.region ?_ | refine JL.nil ?_ | refine JE.next ?_)
  cases hok : okL s.ps
  case false =>
    refine JL.callg (ι := Acc) (vs := [s.v]) (fun q => .tuple #[accV q 0, N 1]) (fun q => accE 5 q []) goes_sEnc rfl rfl (fun _ => accE_wr _ _ _) (fun w' hw' => ?_) fun q => ?_
    · have := sEnc_any s w' (hs.away hw' ha) (by omega) (fun p hp => by have := hsv p.p (List.mem_map_of_mem hp); unfold PqS.p at this; dsimp only at this; omega)
      rw [hok] at this
      exact this.mono fun e w2 ⟨q, h1, h2⟩ => ⟨q.1, h1, h2⟩
    repeat (first | refine JL.q (by first | (apply OQ.extract; exact rfl; exact rfl) | (apply OQ.neB (a := 1) (b := 0) (c := false); exact rfl; exact rfl; exact rfl) | (apply OQ.move; exact rfl) | (apply OQ.assign; exact rfl)) rfl ?_ | refine JC.seq ?_ | refine JC.region ?_ | refine JL.nil ?_ | refine JE.next ?_)
    refine JC.cond_true rfl rfl ?_
    repeat (first | refine JL.q (by first | (apply OQ.move; exact rfl) | (apply OQ.assign; exact rfl)) rfl ?_ | refine JC.seq ?_ | refine JC.region ?_ | refine JL.nil ?_ | refine JE.next ?_)
    refine JC.ret ?_
    repeat (refine JE.then_ret ?_)
    exact JE.ret1 rfl (RV.tmp rfl) fun w' hw => ⟨⟨1, z, recs, vs, k, rfl, .inl ⟨rfl, rfl, rfl, .inl ⟨hok, rfl⟩⟩⟩, rfl, hw.weak (less_app _ (Less.refl _))⟩
  refine JL.callg (ι := {q : Acc // q = none → encL s.ps = []}) (vs := [s.v]) (fun q => .tuple #[accV q.1 (encL s.ps).length, N 0]) (fun q => accE 5 q.1 ((encL s.ps).map U8)) goes_sEnc rfl rfl (fun _ => accE_wr _ _ _) (fun w' hw' => ?_) fun q1 => ?_
  · have := sEnc_any s w' (hs.away hw' ha) (by omega) (fun p hp => by have := hsv p.p (List.mem_map_of_mem hp); unfold PqS.p at this; dsimp only at this; omega)
    rw [hok] at this
    exact this
  obtain ⟨q1, hq1⟩ := q1
  dsimp only
  have hdec : dec (encL s.ps) = some s.ps := dec_enc hok fun p hp => by have := hsv p hp; omega
  have hrl : (encL s.ps).length ≤ 2500000 := by rw [encL_sz]; exact hz
  have hl1 := accS_l hq1
  have hv1 := accS_v q1 (encL s.ps)
  repeat (first | refine JL.q (by first | (apply OQ.extract; exact rfl; exact rfl) | (apply OQ.neB (a := 0) (b := 0) (c := true); exact rfl; exact rfl; exact rfl) | (apply OQ.move; exact rfl) | (apply OQ.assign; exact rfl)) rfl ?_ | refine JC.seq ?_ | refine JC.region ?_ | refine JL.nil ?_ | refine JE.next ?_)
  refine JC.cond_false rfl rfl ?_
  repeat (first | refine JL.q (by (apply OQ.move; exact rfl)) rfl ?_ | refine JC.seq ?_ | refine JC.region ?_ | refine JC.skip ?_ | refine JE.next ?_)
  refine JL.callg (ι := GpOf (some s.ps)) (vs := [(accS q1 (encL s.ps)).v]) (fun g => decV (some s.ps) g.1) (fun g => g.1.E) goes_sDec (by rw [hv1]; rfl) rfl (fun g => g.1.wr) (fun w' hw' => ?_) fun g => ?_
  · have := sDec_any (accS q1 (encL s.ps)) w' (acc_ok hw') (by rw [hl1]; omega)
    rw [hl1, hdec] at this
    exact this
  obtain ⟨g, hg⟩ := g
  have hg : g.l = s.ps := hg
  dsimp only [decV]
  have hfs := k.jv.fs
  have hju := k.jv.u; have hjr := k.jv.r
  have hps : g.ps.map PqS.p = s.ps := hg
  have hgl : g.ps.length ≤ 4294967296 := by
    have := congrArg List.length hps
    unfold SlP.ps at this
    rw [List.length_map, List.length_map] at this
    omega
  have hq0 : q1 = none → (encL s.ps).length = 0 := fun e => by rw [hq1 e]; rfl
  have cF : ∀ w', Holds w S (g.E ++ (accE 5 q1 ((encL s.ps).map U8) ++ (⟨z.p, Row 72 z.cs, true⟩ :: ⟨z.mb, MvB (z.mm, z.c), true⟩ :: (jnE z.j z.h z.bl [] ++ flatE (z.mm.map ME.val))))) w' → Calls Try.prog 30 [Pt z.j 0, N (encL s.ps).length].toArray w' fun e w2 => e = .returned (.bool (decide (nb (encL s.ps).length ≤ z.h.size - z.h.used))) ∧ Ext w' w2 := fun w' hw' =>
    fits_nat z.j z.h _ (by omega) (by omega) (by omega) w' (ro_one (hw'.perm' (perm_k _ _ _ _ _ _)))
  obtain ⟨fit, g1⟩ : ∃ c, decide (nb (encL s.ps).length ≤ z.h.size - z.h.used) = c := ⟨_, rfl⟩
  rw [g1] at cF
  repeat (first | refine JL.q (by first | (apply OQ.extract; exact rfl; exact rfl) | (apply OQ.load; exact ptC16; exact rfl; exact (hasR (hasR .here)); exact (Row.cell (v := Pt z.j 0) rfl)) | (apply OQ.lenV (q := q1) (k := (encL s.ps).length); exact Try.underlying33; exact hq0; exact rfl) | (apply OQ.callx (vs := [Pt z.j 0, N (encL s.ps).length]); exact goes_fits; exact rfl; exact (fun w' hw' => cF w' hw')) | (apply OQ.move; exact rfl) | (apply OQ.assign; exact rfl) | (apply OQ.nilc; exact rfl) | (apply OQ.fld; exact rfl; exact rfl; exact rfl; exact (by decide); exact rfl)) rfl ?_ | refine JC.seq ?_ | refine JC.region ?_ | refine JL.nil ?_ | refine JE.next ?_)
  have hgS : g.v = g.s.v := g.v_eq.symm
  cases fit
  case true =>
    have hfit := of_decide_eq_true g1
    refine JC.cond_true rfl rfl ?_
    repeat (first | refine JL.q (by first | (apply OQ.load; exact ptC16; exact rfl; exact (hasR (hasR .here)); exact (Row.cell (v := Pt z.j 0) rfl)) | (apply OQ.move; exact rfl) | (apply OQ.nilc; exact rfl) | (apply OQ.fld; exact rfl; exact rfl; exact rfl; exact (by decide); exact rfl)) rfl ?_ | refine JC.region ?_)
    refine JL.perm (M' := jnE z.j z.h z.bl [] ++ (g.E ++ (accE 5 q1 ((encL s.ps).map U8) ++ (⟨z.p, Row 72 z.cs, true⟩ :: ⟨z.mb, MvB (z.mm, z.c), true⟩ :: flatE (z.mm.map ME.val))))) ?_ (perm_k _ _ _ _ _ _)
    refine JL.japp (s := accS q1 (encL s.ps)) k.jv k.dk (by decide) (by rw [hl1]; exact hfit) (fun w' hw' => ?_) rfl (by rw [hv1]; rfl) rfl ?_
    · refine ⟨acc_ok (hw'.weak (less_app _ (less_app _ (Less.refl _)))), ?_⟩
      intro h0' a ea
      cases q1 with
      | none => cases ea
      | some p =>
        have e : a = ⟨p.1, 0, none⟩ := by cases ea; rfl
        rw [e]
        exact away_has (b := p.1) (A := Sl.Own 5 1 ((encL s.ps).map U8).length p.2 ((encL s.ps).map U8)) hw' (hasR .here)
    rw [hl1]
    obtain ⟨HJ, hHJ⟩ : ∃ HJ, jnE z.j (appJ z.h (encL s.ps)) (appD z.h z.bl (encL s.ps)) [] = HJ := ⟨_, rfl⟩
    rw [hHJ]
    refine JL.perm (M' := ⟨z.mb, MvB (z.mm, z.c), true⟩ :: (HJ ++ (g.E ++ (accE 5 q1 ((encL s.ps).map U8) ++ (⟨z.p, Row 72 z.cs, true⟩ :: flatE (z.mm.map ME.val)))))) ?_ (perm_m _ _ _ _ _ _)
    repeat (first | refine JL.q (by first | (apply OQ.eqB (a := 0) (b := 0) (c := true); exact rfl; exact rfl; exact rfl) | (apply OQ.move; exact rfl) | (apply OQ.assign; exact rfl)) rfl ?_ | refine JC.seq ?_ | refine JC.region ?_ | refine JL.nil ?_ | refine JE.next ?_)
    refine JC.cond_true rfl rfl ?_
    repeat (first | refine JL.q (by first | (apply OQ.load; exact mpC16; exact rfl; exact (.there (hasR (hasR (hasR .here)))); exact (Row.cell (v := .map (some z.mb)) rfl)) | (apply OQ.move; exact rfl) | (apply OQ.nilc; exact rfl) | (apply OQ.fld; exact rfl; exact rfl; exact rfl; exact (by decide); exact rfl)) rfl ?_ | refine JC.region ?_)
    refine JL.callV (ι := Unit) (X := [⟨z.mb, MvB (z.mm, z.c), true⟩]) (vs := [.map (some z.mb), g.v]) (fun _ => .tuple #[]) (fun _ => [⟨z.mb, MvB (doMs (z.mm, z.c) g.ps), true⟩]) goes_do rfl rfl (by simp) (by simp) (fun w' h1 hw' => ?_) fun _ => ?_
    · have h2 : Holds w S ([⟨z.mb, MvB (z.mm, z.c), true⟩] ++ (g.E ++ (HJ ++ (accE 5 q1 ((encL s.ps).map U8) ++ (⟨z.p, Row 72 z.cs, true⟩ :: flatE (z.mm.map ME.val)))))) w' := h1.perm' ((List.perm_append_comm_assoc HJ g.E _).cons _)
      have hgo := Gp.ok h2
      have hga := away_gp h2
      have := do_any g.s z.mb z.mm z.c w' hgo (by rw [g.s_l]; exact hgl) hga hw'
      rw [g.v_eq, g.s_l] at this
      exact this.mono fun _ _ ⟨h1, h2⟩ => ⟨(), h1, h2⟩
    repeat (first | refine JL.q (by first | (apply OQ.move; exact rfl) | (apply OQ.assign; exact rfl)) rfl ?_ | refine JC.seq ?_ | refine JC.region ?_ | refine JL.nil ?_ | refine JE.next ?_)
    refine JC.ret (JE.ret1 rfl (RV.tmp rfl) fun w' hw => ⟨⟨0, z.put (doMs (z.mm, z.c) g.ps) (appJ z.h (encL s.ps)) (appD z.h z.bl (encL s.ps)), recs ++ [encL s.ps], doL vs s.ps, ?_, rfl, .inr ⟨hok, rfl, rfl, .inl ⟨hfit, rfl, rfl, rfl⟩⟩⟩, rfl, ?_⟩)
    · have := k.step g.h0 (k.jv.app hfit) (k.dk.app k.jv hfit) (recs' := recs ++ [encL s.ps]) (by rw [hps]; exact valsOf_app k.vals hdec)
      rwa [hps] at this
    · rw [← hHJ] at hw
      exact Sz.close k.wf hw
  case false =>
    have hfit := of_decide_eq_false g1
    refine JC.cond_false rfl rfl ?_
    repeat (first | refine JL.q (by (apply OQ.move; exact rfl)) rfl ?_ | refine JC.region ?_)
    refine JL.perm (M' := z.E ++ (g.E ++ accE 5 q1 ((encL s.ps).map U8))) ?_ (by
      show _
      have := List.perm_append_comm (l₁ := g.E ++ accE 5 q1 ((encL s.ps).map U8)) (l₂ := z.E)
      rw [List.append_assoc] at this
      exact this)
    refine JL.callV (ι := Unit) (X := z.E) (vs := [Pt z.p 0, g.v]) (fun _ => N (rstV z (baseOf vs s.ps)).1) (fun _ => (rstV z (baseOf vs s.ps)).2.E) goes_srst rfl rfl z.wr (fun _ => Sz.wr _) (fun w' h1 hw' => ?_) fun _ => ?_
    · have hgo := Gp.ok (M := accE 5 q1 ((encL s.ps).map U8)) h1
      have hga := away_gp h1
      have := srst_any z recs vs k g.s w' hgo hga (by rw [g.s_ps, hg]; exact hok) (by rw [g.s_ps, hg]; exact hz) hw'
      rw [g.v_eq, g.s_ps, hg] at this
      exact this.mono fun _ _ ⟨h1, h2⟩ => ⟨(), h1, h2⟩
    unfold rstV
    by_cases hno : z.h.size < nb (baseOf vs s.ps).length ∨ gm z.bl = 4294967295#32
    · rw [if_pos hno]
      repeat (first | refine JL.q (by first | (apply OQ.eqB (a := 6) (b := 0) (c := false); exact rfl; exact rfl; exact rfl) | (apply OQ.move; exact rfl) | (apply OQ.assign; exact rfl)) rfl ?_ | refine JC.seq ?_ | refine JC.region ?_ | refine JL.nil ?_ | refine JE.next ?_)
      refine JC.cond_false rfl rfl ?_
      repeat (first | refine JL.q (by first | (apply OQ.move; exact rfl) | (apply OQ.assign; exact rfl)) rfl ?_ | refine JC.seq ?_ | refine JC.region ?_ | refine JC.skip ?_ | refine JL.nil ?_ | refine JE.next ?_)
      exact JC.ret (JE.ret1 rfl (RV.tmp rfl) fun w' hw => ⟨⟨6, z, recs, vs, k, rfl, .inl ⟨rfl, rfl, rfl, .inr ⟨hok, rfl, hfit, hno⟩⟩⟩, rfl, hw.weak (less_pre _ _)⟩)
    · rw [if_neg hno]
      obtain ⟨HJ, hHJ⟩ : ∃ HJ, jnE z.j (rstJ z.h z.bl (baseOf vs s.ps)) (rstD z.h z.bl (baseOf vs s.ps)) [] = HJ := ⟨_, rfl⟩
      refine JL.perm (M' := ⟨z.mb, MvB (z.mm, z.c), true⟩ :: (HJ ++ (g.E ++ (accE 5 q1 ((encL s.ps).map U8) ++ (⟨z.p, Row 72 z.cs, true⟩ :: flatE (z.mm.map ME.val)))))) ?_ (by
        rw [← hHJ]
        refine List.Perm.trans ?_ (perm_m _ _ _ _ _ _)
        refine List.Perm.trans (List.perm_append_comm (l₁ := (z.put (z.mm, z.c) (rstJ z.h z.bl (baseOf vs s.ps)) (rstD z.h z.bl (baseOf vs s.ps))).E)) ?_
        rw [List.append_assoc]
        exact perm_k _ _ _ _ _ _)
      repeat (first | refine JL.q (by first | (apply OQ.eqB (a := 0) (b := 0) (c := true); exact rfl; exact rfl; exact rfl) | (apply OQ.move; exact rfl) | (apply OQ.assign; exact rfl)) rfl ?_ | refine JC.seq ?_ | refine JC.region ?_ | refine JL.nil ?_ | refine JE.next ?_)
      refine JC.cond_true rfl rfl ?_
      repeat (first | refine JL.q (by first | (apply OQ.load; exact mpC16; exact rfl; exact (.there (hasR (hasR (hasR .here)))); exact (Row.cell (v := .map (some z.mb)) rfl)) | (apply OQ.move; exact rfl) | (apply OQ.nilc; exact rfl) | (apply OQ.fld; exact rfl; exact rfl; exact rfl; exact (by decide); exact rfl)) rfl ?_ | refine JC.region ?_)
      refine JL.callV (ι := Unit) (X := [⟨z.mb, MvB (z.mm, z.c), true⟩]) (vs := [.map (some z.mb), g.v]) (fun _ => .tuple #[]) (fun _ => [⟨z.mb, MvB (doMs (z.mm, z.c) g.ps), true⟩]) goes_do rfl rfl (by simp) (by simp) (fun w' h1 hw' => ?_) fun _ => ?_
      · have h2 : Holds w S ([⟨z.mb, MvB (z.mm, z.c), true⟩] ++ (g.E ++ (HJ ++ (accE 5 q1 ((encL s.ps).map U8) ++ (⟨z.p, Row 72 z.cs, true⟩ :: flatE (z.mm.map ME.val)))))) w' := h1.perm' ((List.perm_append_comm_assoc HJ g.E _).cons _)
        have hgo := Gp.ok h2
        have hga := away_gp h2
        have := do_any g.s z.mb z.mm z.c w' hgo (by rw [g.s_l]; exact hgl) hga hw'
        rw [g.v_eq, g.s_l] at this
        exact this.mono fun _ _ ⟨h1, h2⟩ => ⟨(), h1, h2⟩
      repeat (first | refine JL.q (by first | (apply OQ.move; exact rfl) | (apply OQ.assign; exact rfl)) rfl ?_ | refine JC.seq ?_ | refine JC.region ?_ | refine JL.nil ?_ | refine JE.next ?_)
      refine JC.ret (JE.ret1 rfl (RV.tmp rfl) fun w' hw => ⟨⟨0, z.put (doMs (z.mm, z.c) g.ps) (rstJ z.h z.bl (baseOf vs s.ps)) (rstD z.h z.bl (baseOf vs s.ps)), [baseOf vs s.ps], doL vs s.ps, ?_, rfl, .inr ⟨hok, rfl, rfl, .inr ⟨hfit, hno, rfl, rfl, rfl⟩⟩⟩, rfl, ?_⟩)
      · have hvz := k.sz
        have := doL_sz s.ps vs
        have := k.step g.h0 (k.jv.rst hno) (k.dk.rst k.jv hno) (recs' := [baseOf vs s.ps]) (by rw [hps]; exact valsOf_base (doL_srt k.srt) (doL_ok hvz.2 hok) (by omega))
        rwa [hps] at this
      · rw [← hHJ] at hw
        exact Sz.close k.wf hw
end Go.Proofs.Ytjkncnbpaejamaa

/-
  Of no statement by itself: writes of all blocks that differ, and a crash; what a Commit's blocks tell then.
  Conditions: each theorem's own.
-/
namespace Go.Proofs.Ytjkncnbpaejamaa
open Sl Dsk Jrn Sto
/-- what is written of the first blocks that differ -/
def wsB (a b : List Bk) : Nat → List (Nat × Bk)
  | 0 => []
  | k + 1 => if old a k = old b k then wsB a b k else wsB a b k ++ [(k, old b k)]
theorem wsB_mem {a b : List Bk} : ∀ {k : Nat} {x : Nat × Bk}, x ∈ wsB a b k → x.1 < k ∧ x.2 = old b x.1
  | 0, _, h => by cases h
  | k + 1, x, h => by
    unfold wsB at h
    split at h
    · have := wsB_mem h
      exact ⟨by omega, this.2⟩
    · rcases List.mem_append.1 h with h | h
      · have := wsB_mem h
        exact ⟨by omega, this.2⟩
      · rw [List.mem_singleton.1 h]
        exact ⟨Nat.lt_succ_self k, rfl⟩
theorem wsB_nodup (a b : List Bk) : ∀ k, ((wsB a b k).map Prod.fst).Nodup
  | 0 => List.nodup_nil
  | k + 1 => by
    unfold wsB
    split
    · exact wsB_nodup a b k
    · rw [List.map_append, List.map_singleton, List.nodup_append]
      refine ⟨wsB_nodup a b k, by simp, fun x hx y hy => ?_⟩
      obtain ⟨p, hp, rfl⟩ := List.mem_map.1 hx
      have := (wsB_mem hp).1
      rw [List.mem_singleton.1 hy]
      show p.1 ≠ k
      omega
/-- the first blocks of one, the others of another one -/
def mixB (a b : List Bk) (k : Nat) : List Bk := b.take k ++ a.drop k
theorem mixB_len {a b : List Bk} {k : Nat} (hl : b.length = a.length) (hk : k ≤ a.length) : (mixB a b k).length = a.length := by
  simp only [mixB, List.length_append, List.length_take, List.length_drop]
  omega
theorem mixB_zero (a b : List Bk) : mixB a b 0 = a := by simp [mixB]
theorem mixB_all {a b : List Bk} (hl : b.length = a.length) : mixB a b a.length = b := by
  unfold mixB
  rw [List.take_of_length_le (by omega), List.drop_of_length_le (Nat.le_refl _), List.append_nil]
theorem mixB_old {a b : List Bk} {k : Nat} (hl : b.length = a.length) (hk : k < a.length) : old (mixB a b k) k = old a k := by
  rw [old_get (by rw [mixB_len hl (by omega)]; exact hk), old_get hk]
  simp only [mixB]
  rw [List.getElem_append_right (by rw [List.length_take]; omega)]
  simp only [List.length_take, List.getElem_drop]
  congr 1
  omega
theorem mixB_set {a b : List Bk} {k : Nat} (hl : b.length = a.length) (hk : k < a.length) : (mixB a b k).set k (old b k) = mixB a b (k + 1) := by
  have h1 : (b.take k).length = k := by rw [List.length_take]; omega
  unfold mixB
  rw [List.set_append_right _ _ (by omega), h1, Nat.sub_self, List.drop_eq_getElem_cons hk, List.set_cons_zero, List.take_succ_eq_append_getElem (show k < b.length by omega), old_get (show k < b.length by omega), List.append_assoc]
  rfl
theorem mixB_same {a b : List Bk} {k : Nat} (hl : b.length = a.length) (hk : k < a.length) (he : old a k = old b k) : mixB a b k = mixB a b (k + 1) := by
  rw [← mixB_set hl hk, ← he, ← mixB_old hl hk]
  have : k < (mixB a b k).length := by rw [mixB_len hl (by omega)]; exact hk
  rw [old_get this, List.set_getElem_self]
theorem redo_mix {a b : List Bk} {picks : List (BitVec 8)} {ws : List (Nat × Bk)} (hn : (ws.map Prod.fst).Nodup) (hw : ∀ x ∈ ws, x.1 < a.length ∧ x.2 = old b x.1) : ∀ k, k ≤ ws.length → (redoN picks a ws k).length = a.length ∧ ∀ j, j < a.length → ((∀ x ∈ ws.take k, x.1 ≠ j) → old (redoN picks a ws k) j = old a j) ∧ ∃ n, old (redoN picks a ws k) j = torn (old b j) (old a j) n
  | 0, _ => by
    rw [redoN_zero]
    exact ⟨rfl, fun j hj => ⟨fun _ => rfl, 0, by simp [torn]⟩⟩
  | k + 1, hk => by
    obtain ⟨h1, h2⟩ := redo_mix (picks := picks) hn hw k (by omega)
    have hkl : k < ws.length := by omega
    have hm : nth ws k ∈ ws := nth_mem hkl
    have hx := hw _ hm
    have ht : ws.take (k + 1) = ws.take k ++ [nth ws k] := by
      rw [List.take_add_one]; simp [nth, List.getD_eq_getElem?_getD, hkl]
    have hnot : ∀ x ∈ ws.take k, x.1 ≠ (nth ws k).1 := fun x hx e => by
      obtain ⟨i, hi, rfl⟩ := List.mem_iff_getElem.1 hx
      rw [List.length_take] at hi
      rw [List.getElem_take] at e
      have e2 : nth ws k = ws[k] := by simp [nth, List.getD_eq_getElem?_getD, hkl]
      rw [e2] at e
      exact List.pairwise_iff_getElem.1 hn i k (by rw [List.length_map]; omega) (by rw [List.length_map]; exact hkl) (by omega) (by simpa using e)
    rw [redoN_succ]
    generalize redoN picks a ws k = c at h1 h2
    refine ⟨by rw [Dsk.part_len, h1], fun j hj => ?_⟩
    by_cases he : (nth ws k).1 = j
    · have h3 := (h2 j hj).1 (by rw [← he]; exact hnot)
      refine ⟨fun h => absurd he (h (nth ws k) (by rw [ht]; simp)), doneB (pick picks k), ?_⟩
      unfold Dsk.part
      rw [he, old_set (by rw [h1]; exact hj), h3, hx.2, he]
      rfl
    · have h3 : old (Dsk.part c (nth ws k) (doneB (pick picks k))) j = old c j := old_set_ne he
      rw [h3]
      exact ⟨fun h => (h2 j hj).1 fun x hx => h x (by rw [ht]; exact List.mem_append_left _ hx), (h2 j hj).2⟩
theorem crash_mix {a b bl : List Bk} {pd : List (Nat × Bk)} {k : Nat} (hk : k ≤ a.length) (hu : undo bl pd = (a, wsB a b k)) (picks : List (BitVec 8)) : Mix a b (crash picks bl pd) := by
  unfold crash
  rw [hu]
  have h := redo_mix (a := a) (b := b) (picks := picks) (wsB_nodup a b k) (fun x hx => ⟨by have := (wsB_mem hx).1; omega, (wsB_mem hx).2⟩) _ (Nat.le_refl _)
  exact ⟨h.1, fun j hj => (h.2 j hj).2⟩
theorem undo_nil (a : List Bk) : undo a [] = (a, []) := by simp [undo, undoN_zero]
/-- what a disk tells on which some of a Commit's blocks were torn -/
theorem whole16 {z z' : Sz} {recs recs' : List Bk} {vs vs' : VL} {ps : List Pq} {code : Nat} {c : List Bk} (st : Step z recs vs ps code z' recs' vs') (k : z.ok recs vs) (hg : z.h.g.toNat < 255) (hg' : z'.h.g.toNat < 255) (hl : z'.bl.length = z.bl.length) (m : Mix z.bl z'.bl c) :
    ((curF c).2.2 = recs ∨ (curF c).2.2 = recs') ∧ noOpen c = 0 := by
  have k' := st.1
  have hno := (mix_no k.jv k'.jv k.dk.ok.b k'.dk.ok.b hl m hg hg').1
  refine ⟨?_, hno⟩
  obtain ⟨_, _, st⟩ := st
  rcases st with ⟨rfl, rfl, _⟩ | ⟨_, _, _, ⟨h2, _, hb, hr⟩ | ⟨h2, h3, _, hb, hr⟩⟩
  · left
    have e : c = z'.bl := old_ext m.len fun j hj => by
      obtain ⟨n, e⟩ := m.at' j hj
      rw [e, torn_self]
    rw [e, k'.jv.cur]
  · rw [hb] at m
    rw [hr]
    exact mix_app k.jv h2 k.dk.ok.b m
  · rw [hb] at m
    rw [hr]
    exact mix_rst k.jv h3 k.dk.ok.b m
end Go.Proofs.Ytjkncnbpaejamaa

/-
  Of no statement by itself: the reference's Right, SamePairs.
  Conditions: each theorem's own.
-/
namespace Go.Proofs.Ytjkncnbpaejamaa
set_option maxRecDepth 10000
open Sl Dsk Jrn Sto
section
variable {P : Program} {n : Nat} {E : Env} {C : World → Prop} {dst : Option Tmp} {ty t t' : TypeId} {pos : String} {aft : Array Edge} {g : Option (Nat × Bool)} {x y : Operand} {l r : Bk} {a b c : Bool}
theorem OQ.neZB (h : decide (l = r) = c) (hx : ev E x = some (Z l)) (hy : ev E y = some (Z r)) : OQ P n E C ⟨dst, .binOp .neq t x y t', ty, pos, aft, g⟩ (.bool (!c)) := OQ.to (OQ.neS hx hy) (by rw [h])
end
end Go.Proofs.Ytjkncnbpaejamaa

/-
  Of no statement by itself: the reference's Decode (layer 16).
  Conditions: each theorem's own.
-/
namespace Go.Proofs.Ytjkncnbpaejamaa
set_option maxRecDepth 10000
open Sl Dsk Jrn Sto
section
variable {P : Program} {n : Nat} {w0 : World} {S : List Nat} {ops : Array Oper} {Q : Exit → Act → World → Prop} {l : List Oper} {E : Env} {M : List Ent} {C : World → Prop}
variable {d : Nat} {dst : Option Tmp} {t e ty : TypeId} {pos : String} {aft : Array Edge} {g : Option (Nat × Bool)} {x y z : Operand} {zv : Value} {sz by' : Nat} {s : Sl8} {lo hi : Nat}
theorem JL.lit0N (hu : P.underlying t = some (.slice e)) (hi : EI P e zv sz by') (h0 : 0 < sz) (hd : Nat.blt d n = true)
    (k : ∀ b, w0.heap.size ≤ b → JL P n w0 S ops Q l ((d, .slice (some ⟨b, 0, none⟩) 0 0) :: E) (⟨b, Sl.Own e sz 0 0 [], true⟩ :: M)) : JL P n w0 S ops Q (⟨some d, .buildSlice t 0 #[], ty, pos, aft, none⟩ :: l) E M :=
  ⟨fun a w ha hw => wpList_plain rfl fun K hK => by
    have h3 : (underlying t).run P w = .ok (.slice e) w := run_underlying hu w
    have hz : ¬ sz = 0 := by omega
    have h4 : (Instr.buildSlice t 0 #[]).run P w = .ok (.slice (some ⟨w.heap.size, 0, none⟩) 0 0) { w with heap := w.heap.push (.cells ([] : List Value).toArray e (0, 0)) } := by
      obtain ⟨i, h4, h5, _⟩ := hi.get
      simp [Instr.buildSlice, Sem.run_bind, h3, sizeOf_run hi.sz, zeroValue, typeInfo, h4, h5, Instr.fill, newRow, newObj, Sem.run, range0, hz]
    unfold Oper.wp
    have hm : (#[] : Array (Nat × Operand)).map (fun (i, x) => (i, a.eval x)) = #[] := by simp
    simp only [execOp, hm, Sem.run_bind, h4, Result.andThen_ok]
    exact hK _ _ ((k w.heap.size hw.chg.size).go _ _ (ha.put d _ hd) (hw.push _ ⟨[], rfl, by simp, by simp, Nat.le_refl _⟩ rfl rfl rfl rfl))⟩
end
structure Ds16 where
  i : Nat
  g : Gp
end Go.Proofs.Ytjkncnbpaejamaa

/-
  Of no statement by itself: the landed store's valuesOn, Open.
  Conditions: each theorem's own.
-/
namespace Go.Proofs.Ytjkncnbpaejamaa
set_option maxRecDepth 10000
open Sl Dsk Jrn Sto
theorem goes_von : Goes Try.prog 25 := ⟨_, Try.func25, rfl, by kernel_rfl⟩
theorem goes_sOpen : Goes Try.prog 9 := ⟨_, Try.func9, rfl, by kernel_rfl⟩
theorem decAll_take {rs : List Bk} {i : Nat} {r : Bk} (h : rs[i]? = some r) : decAll (rs.take (i + 1)) = match decAll (rs.take i), dec r with | some l, some m => some (l ++ m) | _, _ => none := by
  have e : rs.take (i + 1) = rs.take i ++ [r] := by rw [List.take_add_one, h]; rfl
  rw [e, decAll_append, decAll_one]
  cases decAll (rs.take i) <;> cases dec r <;> rfl
theorem mem_sum16 {α : Type} (f : α → Nat) : ∀ {l : List α} {a : α}, a ∈ l → f a ≤ (l.map f).sum
  | b :: l, a, h => by
    rw [List.map_cons, List.sum_cons]
    rcases List.mem_cons.1 h with rfl | h
    · omega
    · have := mem_sum16 f h; omega
theorem len_le_sz : ∀ (m : List Pq), m.length ≤ (m.map fun p => 7 + p.key.length + p.val.length).sum
  | [] => Nat.le_refl _
  | p :: m => by
    have := len_le_sz m
    rw [List.map_cons, List.sum_cons, List.length_cons]
    omega
theorem decAll_none {rs : List Bk} {i : Nat} (h : decAll (rs.take i) = none) : decAll rs = none := by
  rw [← List.take_append_drop i rs, decAll_append, h]
/-- values in memory, of no store yet -/
structure Vz where
  mb : Nat
  mc : MV × Nat
structure Vz.ok (z : Vz) (l : List Pq) : Prop where
  wf : WF z.mc.1 z.mc.2
  is : MapIs z.mc.1 (doL [] l)
  h0 : ∀ x ∈ z.mc.1.map ME.val, x.ad = none → x.l = []
def Vz.E (z : Vz) : List Ent := ⟨z.mb, MvB z.mc, true⟩ :: flatE (z.mc.1.map ME.val)
theorem Vz.wr (z : Vz) : ∀ e ∈ z.E, e.wr = true := by
  intro e he
  rcases List.mem_cons.1 he with rfl | he
  · rfl
  · exact flatE_wr _ e he
def vonV (o : Option (List Pq)) (z : Vz) : Value := match o with
  | none => .tuple #[.map none, N 9]
  | some _ => .tuple #[.map (some z.mb), N 0]
def vonE (o : Option (List Pq)) (z : Vz) : List Ent := match o with
  | none => []
  | some _ => z.E
abbrev VzOf (o : Option (List Pq)) := {z : Vz // ∀ l, o = some l → z.ok l}
theorem perm_v (m : Ent) (C G F R : List Ent) (F' r : List Ent) (h : (F ++ G).Perm (F' ++ r)) : (m :: ((C ++ G) ++ (F ++ R))).Perm (m :: (F' ++ (R ++ (r ++ C)))) := by
  refine List.Perm.cons _ ?_
  have h1 : ((C ++ G) ++ (F ++ R)).Perm (C ++ ((F ++ G) ++ R)) := by
    have := (List.perm_append_comm_assoc G F R).append_left C
    simpa using this
  refine h1.trans ((h.append_right R).append_left C |>.trans ?_)
  have h2 : (C ++ (F' ++ r ++ R)).Perm ((F' ++ r ++ R) ++ C) := List.perm_append_comm
  refine h2.trans ?_
  have h3 := ((List.perm_append_comm (l₁ := r) (l₂ := R)).append_right C).append_left F'
  simpa using h3
set_option maxHeartbeats 16000000 in
theorem von_any (x : Dp) (bl : List Bk) (hd : DkOk x bl []) (hno : noOpen bl = 0) (w : World) (h0 : Holds w (keys (dkE x bl [])) (dkE x bl []) w) :
    Calls Try.prog 25 [Pt x.p 0].toArray w fun e w' => ∃ z : VzOf (decAll (curF bl).2.2), e = .returned (vonV (decAll (curF bl).2.2) z.1) ∧ Holds w (keys (dkE x bl [])) (vonE (decAll (curF bl).2.2) z.1) w' := by
  have v := Jv.opn (x := x) hd.ok.b hd.n1 hno
  have hdj := hd.opn hno
  generalize hR : (curF bl).2.2 = recs at v ⊢
  generalize keys (dkE x bl []) = S at h0 ⊢
  refine enter (n := 39) Try.func25 rfl rfl rfl h0 ?_
  repeat (first | refine JL.q (by first | (apply OQ.move; exact rfl) | (apply OQ.assign; exact rfl)) rfl ?_ | refine JC.seq ?_ | refine JC.region ?_ | refine JL.nil ?_ | refine JE.next ?_)
  refine JL.perm ?_ (List.Perm.of_eq (List.append_nil _).symm)
  refine JL.jopen hd (by decide) hno rfl rfl fun j => ?_
  generalize opnJ x bl = h at v hdj ⊢
  generalize opnD bl = bj at v hdj ⊢
  rw [List.append_nil]
  repeat (first | refine JL.q (by first | (apply OQ.extract; exact rfl; exact rfl) | (apply OQ.neB (a := 0) (b := 0) (c := true); exact rfl; exact rfl; exact rfl) | (apply OQ.move; exact rfl) | (apply OQ.assign; exact rfl)) rfl ?_ | refine JC.seq ?_ | refine JC.region ?_ | refine JL.nil ?_ | refine JE.next ?_)
  refine JC.cond_false rfl rfl ?_
  repeat (first | refine JC.seq ?_ | refine JC.region ?_ | refine JC.skip ?_ | refine JE.next ?_)
  refine JL.makeMap Sl8.v rfl rfl fun mb _ => ?_
  repeat (first | refine JL.q (by first | (apply OQ.move; exact rfl) | (apply OQ.assign; exact rfl)) rfl ?_ | refine JC.seq ?_ | refine JC.region ?_ | refine JL.nil ?_ | refine JE.next ?_)
  refine JL.perm (M' := jnE j h bj [] ++ [⟨mb, MvB ([], 0), true⟩]) ?_ (List.perm_append_singleton _ _).symm
  refine JL.jrecs v hdj rfl rfl fun z => ?_
  obtain ⟨⟨q, rs, hq, hr0⟩, hy1, hy2⟩ := z
  have hz1 : rs.map Sl8.l = recs := hy1
  have hz2 : rs.length ≤ h.size := hy2
  dsimp only [Gr.v, Gr.E]
  clear hy1 hy2
  have hfs := v.fs
  have hro := v.r
  refine JL.perm (M' := ⟨mb, MvB ([], 0), true⟩ :: ((accE 33 q (rs.map Sl8.v) ++ flatE rs) ++ jnE j h bj [])) ?_ (by rw [← List.append_assoc]; exact List.perm_append_singleton _ _)
  have hq0 : q = none → rs.length = 0 := fun e => by rw [hq e]; rfl
  repeat (first | refine JL.q (by first | (apply OQ.lenV (q := q) (k := rs.length); exact Try.underlying34; exact hq0; exact rfl) | (apply OQ.move; exact rfl)) rfl ?_ | refine JC.block ?_ | refine JL.nil ?_ | refine JE.next ?_)
  obtain ⟨R, hRR⟩ : ∃ R, (accE 33 q (rs.map Sl8.v) ++ flatE rs) ++ jnE j h bj [] = R := ⟨_, rfl⟩
  refine JC.loop (fun z : Nat × (MV × Nat) => [(6, .map (some mb)), (21, accV q rs.length), (22, N rs.length), (23, N z.1)]) (fun z => ⟨mb, MvB z.2, true⟩ :: (flatE (z.2.1.map ME.val) ++ R)) (fun z => rs.length - z.1) (fun z => z.1 ≤ rs.length ∧ ∃ l, decAll (recs.take z.1) = some l ∧ (Vz.mk mb z.2).ok l) (0, ([], 0)) ⟨Nat.zero_le _, [], rfl, ⟨WF.nil, .refl _, nofun⟩⟩ (by repeat (first | exact SubE.nil | refine SubE.cons _ _ _ rfl ?_)) (by rw [← hRR]; exact Less.refl _) ?_
  rintro ⟨i, mc⟩ ⟨hi, l, hl, hv⟩
  dsimp only at hi hl hv ⊢
  repeat (first | refine JL.q (by (apply OQ.lssN; exact rfl; exact rfl)) rfl ?_ | refine JC.seq ?_ | refine JC.region ?_ | refine JL.nil ?_ | refine JE.next ?_)
  refine JC.cond rfl (fun hc => ?_) (fun hc => ?_)
  · have hi' : i < rs.length := Nat.lt_of_not_le fun h => by have := of_decide_eq_true hc; omega
    clear hc
    cases q with
    | none => rw [hq rfl] at hi'; cases hi'
    | some p =>
    obtain ⟨gk, ck⟩ := p
    have hki : rs[i]? = some rs[i] := List.getElem?_eq_getElem hi'
    have hmem : rs[i] ∈ rs := List.getElem_mem hi'
    generalize rs[i] = rec at hki hmem
    have hri : recs[i]? = some rec.l := by rw [← hz1, List.getElem?_map, hki]; rfl
    have hrlen : rec.l.length ≤ 2000000 := by
      have h1 := room_sz recs
      have h2 := mem_sum16 List.length (List.mem_of_getElem? hri)
      omega
    have hav2 : accV (some (gk, ck)) rs.length = .slice (some ⟨gk, 0, none⟩) rs.length ck := rfl
    have hkz : (rs.map Sl8.v)[i]? = some rec.v := by rw [List.getElem?_map, hki]; rfl
    have hR' : R = ⟨gk, Sl.Own 33 1 (rs.map Sl8.v).length ck (rs.map Sl8.v), true⟩ :: (flatE rs ++ jnE j h bj []) := hRR.symm
    subst hR'
    have okR : ∀ w', Holds w S (⟨mb, MvB mc, true⟩ :: (flatE (mc.1.map ME.val) ++ (⟨gk, Sl.Own 33 1 (rs.map Sl8.v).length ck (rs.map Sl8.v), true⟩ :: (flatE rs ++ jnE j h bj [])))) w' → rec.ok w' := fun w' hw' =>
      flat_ok (A := []) (hw'.weak (.drop _ _ _ (less_app _ (.drop _ _ _ (less_pre (flatE rs) _))))) hr0 rec hmem
    repeat (first | refine JL.q (by first | (apply OQ.idxS0 (i := i); exact Try.underlying34; exact sleJ; exact (congrArg some hav2); exact rfl; exact hi') | (apply OQ.load; exact slCj; exact rfl; exact (.there (hasR .here)); exact (Sl.Own.cell hkz)) | (apply OQ.move; exact rfl) | (apply OQ.assign; exact rfl)) rfl ?_ | refine JC.seq ?_ | refine JC.region ?_ | refine JC.block ?_ | refine JC.skip ?_ | refine JL.nil ?_ | refine JE.next ?_)
    cases hdr : dec rec.l with
    | none =>
      have hno2 : decAll recs = none := decAll_none (i := i + 1) (by rw [decAll_take hri, hl, hdr])
      refine JL.callg (ι := GpOf none) (vs := [rec.v]) (fun g => decV none g.1) (fun g => g.1.E) goes_sDec rfl rfl (fun g => g.1.wr) (fun w' hw' => by have := sDec_any rec w' (okR w' hw') (by omega); rwa [hdr] at this) fun g => ?_
      dsimp only [decV]
      repeat (first | refine JL.q (by first | (apply OQ.extract; exact rfl; exact rfl) | (apply OQ.neB (a := 3) (b := 0) (c := false); exact rfl; exact rfl; exact rfl) | (apply OQ.move; exact rfl) | (apply OQ.assign; exact rfl)) rfl ?_ | refine JC.seq ?_ | refine JC.region ?_ | refine JL.nil ?_ | refine JE.next ?_)
      refine JC.cond_true rfl rfl ?_
      repeat (first | refine JL.q (by (apply OQ.assign; exact rfl)) rfl ?_ | refine JC.seq ?_ | refine JC.region ?_ | refine JL.nil ?_ | refine JE.next ?_)
      refine JC.ret ?_
      repeat (first | refine JE.then_ret ?_ | refine JE.blk_ret ?_)
      rw [hno2]
      exact JE.ret2 rfl (RV.tmp rfl) (RV.tmp rfl) fun w' hw => ⟨⟨⟨0, ([], 0)⟩, nofun⟩, rfl, hw.weak (.nil _)⟩
    | some m =>
      refine JL.callg (ι := GpOf (some m)) (vs := [rec.v]) (fun g => decV (some m) g.1) (fun g => g.1.E) goes_sDec rfl rfl (fun g => g.1.wr) (fun w' hw' => by have := sDec_any rec w' (okR w' hw') (by omega); rwa [hdr] at this) fun g => ?_
      obtain ⟨g, hg⟩ := g
      have hg : g.ps.map PqS.p = m := hg
      dsimp only [decV]
      have hgl : g.ps.length ≤ 4294967296 := by
        have h1 := congrArg List.length hg
        rw [List.length_map] at h1
        have h2 := (dec_ok hdr).2
        have h3 := len_le_sz m
        omega
      repeat (first | refine JL.q (by first | (apply OQ.extract; exact rfl; exact rfl) | (apply OQ.neB (a := 0) (b := 0) (c := true); exact rfl; exact rfl; exact rfl) | (apply OQ.move; exact rfl) | (apply OQ.assign; exact rfl)) rfl ?_ | refine JC.seq ?_ | refine JC.region ?_ | refine JL.nil ?_ | refine JE.next ?_)
      refine JC.cond_false rfl rfl ?_
      obtain ⟨R, hRR⟩ : ∃ R, (⟨gk, Sl.Own 33 1 (rs.map Sl8.v).length ck (rs.map Sl8.v), true⟩ :: (flatE rs ++ jnE j h bj [])) = R := ⟨_, rfl⟩
      rw [hRR]
      repeat (first | refine JL.q (by (apply OQ.move; exact rfl)) rfl ?_ | refine JC.region ?_ | refine JC.skip ?_ | refine JE.next ?_)
      refine JL.perm (M' := ⟨mb, MvB mc, true⟩ :: (g.E ++ (flatE (mc.1.map ME.val) ++ R))) ?_ List.perm_middle
      refine JL.callV (ι := Unit) (X := [⟨mb, MvB mc, true⟩]) (vs := [.map (some mb), g.v]) (fun _ => .tuple #[]) (fun _ => [⟨mb, MvB (doMs mc g.ps), true⟩]) goes_do rfl rfl (by simp) (by simp) (fun w' h1 hw' => ?_) fun _ => ?_
      · have hgo := Gp.ok (A := [_]) h1
        have hga := away_gp (X := [_]) h1
        have := do_any g.s mb mc.1 mc.2 w' hgo (by rw [g.s_l]; exact hgl) hga hw'
        rw [g.v_eq, g.s_l] at this
        exact this.mono fun _ _ ⟨h1, h2⟩ => ⟨(), h1, h2⟩
      repeat (first | refine JL.q (by first | (apply OQ.move; exact rfl) | (apply OQ.addN; exact rfl; exact rfl; exact (by (try simp only []); omega))) rfl ?_ | refine JC.region ?_ | refine JL.nil ?_ | refine JE.next ?_ | refine JE.blk_normal ?_)
      obtain ⟨r, hr⟩ := doMs_sub g.ps hv.wf
      refine JE.perm (perm_v _ _ (flatE (g.ps.map PqS.s)) (flatE (mc.1.map ME.val)) R (flatE ((doMs mc g.ps).1.map ME.val)) (flatE r) (by rw [← flatE_app, ← flatE_app]; exact flatE_perm hr.symm)) ?_
      refine JE.again (i := (i, mc)) (i + 1, doMs mc g.ps) ⟨hi', l ++ m, by dsimp only; rw [decAll_take hri, hl, hdr], ⟨doMs_wf _ hv.wf, ?_, ?_⟩⟩ (by dsimp only; omega) (by repeat (first | exact SubE.nil | refine SubE.cons _ _ _ rfl ?_)) ?_
      · have := doMs_is g.ps hv.wf (doL_srt (l := l) (vs := []) .nil) hv.is
        rw [hg, ← doL_append] at this
        exact this
      · intro x hx
        rcases List.mem_append.1 (hr.mem_iff.1 (List.mem_append_left r hx)) with h1 | h1
        · exact hv.h0 x h1
        · obtain ⟨p, hp, rfl⟩ := List.mem_map.1 h1
          exact g.h0 p hp
      · refine .keep _ _ _ _ _ _ (fun _ h => h) ?_
        rw [← List.append_assoc]
        exact less_pre _ _
  · have hi' : i = rs.length := by have := of_decide_eq_false hc; omega
    have hfl : recs.take i = recs := List.take_of_length_le (by rw [← hz1, List.length_map]; omega)
    rw [hfl] at hl
    rw [hl]
    repeat (first | refine JL.q (by first | (apply OQ.move; exact rfl) | (apply OQ.assign; exact rfl)) rfl ?_ | refine JC.seq ?_ | refine JC.region ?_ | refine JC.exit ?_ | refine JL.nil ?_ | refine JE.next ?_ | refine JE.then_exit ?_ | refine JE.blk_hit ?_)
    exact JC.ret (JE.ret2 rfl (RV.tmp rfl) (RV.tmp rfl) fun w' hw => ⟨⟨⟨mb, mc⟩, fun l' h => by cases h; exact hv⟩, rfl, hw.weak (.keep _ _ _ _ _ _ (fun _ h => h) (less_pre _ _))⟩)
end Go.Proofs.Ytjkncnbpaejamaa

/-
  Of no statement by itself: the landed store's Open.
  Conditions: each theorem's own.
-/
namespace Go.Proofs.Ytjkncnbpaejamaa
set_option maxRecDepth 10000
open Sl Dsk Jrn Sto
section
variable {n : Nat} {E : Env} {C : World → Prop} {dst : Option Tmp} {ty : TypeId} {pos : String} {aft : Array Edge} {g : Option (Nat × Bool)} {x1 x2 : Operand}
theorem OQ.buildSt {j mb : Nat} (h1 : ev E x1 = some (Pt j 0)) (h2 : ev E x2 = some (.map (some mb))) :
    OQ Try.prog n E C ⟨dst, .build 72 #[(0, x1), (1, x2)], ty, pos, aft, g⟩ (.agg #[Pt j 0, .map (some mb)]) :=
  OQ.run fun a ha w _ => by
    have e1 := ha.eval h1
    have e2 := ha.eval h2
    have r := run_build (P := Try.prog) w 72 #[(0, Pt j 0), (1, .map (some mb))] #[Pt j 0, .map (some mb)] (by kernel_rfl)
    simp [execOp, e1, e2, r]
end
theorem DkOk.twin {x z : Dp} {bl : List Bk} (h : DkOk x bl []) : DkOk ⟨z.p, z.q, z.cap, none⟩ bl [] := ⟨h.ok, h.n0, h.n1, h.m, fun _ => rfl⟩
theorem vonE_wr (o : Option (List Pq)) (z : Vz) : ∀ e ∈ vonE o z, e.wr = true := by
  intro e he
  cases o with
  | none => cases he
  | some l => exact z.wr e he
set_option maxHeartbeats 16000000 in
theorem sOpen_yes (x : Dp) (bl : List Bk) (l : List Pq) (hd : DkOk x bl []) (hno : noOpen bl = 0) (ho : decAll (curF bl).2.2 = some l) (w : World) (h0 : Holds w (keys (dkE x bl [])) (dkE x bl []) w) :
    Calls Try.prog 9 [Pt x.p 0].toArray w fun e w' => ∃ z : {z : Sz // z.ok (curF bl).2.2 (doL [] l) ∧ z.h = opnJ x bl ∧ z.bl = opnD bl}, e = .returned (.tuple #[Pt z.1.p 0, N 0]) ∧ Holds w (keys (dkE x bl [])) z.1.E w' := by
  have v := Jv.opn (x := x) hd.ok.b hd.n1 hno
  have hdj := hd.opn hno
  generalize keys (dkE x bl []) = S at h0 ⊢
  refine enter (n := 28) Try.func9 rfl rfl rfl h0 ?_
  repeat (first | refine JL.q (by first | (apply OQ.move; exact rfl) | (apply OQ.assign; exact rfl)) rfl ?_ | refine JC.seq ?_ | refine JC.region ?_ | refine JL.nil ?_ | refine JE.next ?_)
  refine JL.callg (ι := Dp) (vs := [Pt x.p 0]) (fun z => Pt z.p 0) (fun z => dkE ⟨z.p, z.q, z.cap, none⟩ bl []) goes_twin rfl rfl (fun z => dkE_wr _ _ _) (fun w' hw' => dtwin_any x bl [] hd (M := []) (by rw [List.append_nil]; exact hw')) fun t => ?_
  refine JL.callV (ι := VzOf (some l)) (X := dkE ⟨t.p, t.q, t.cap, none⟩ bl []) (vs := [Pt t.p 0]) (fun z => vonV (some l) z.1) (fun z => vonE (some l) z.1) goes_von rfl rfl (dkE_wr _ _ _) (fun z => vonE_wr _ _) (fun w' _ hw' => by have := von_any ⟨t.p, t.q, t.cap, none⟩ bl hd.twin hno w' hw'; rwa [ho] at this) fun z => ?_
  obtain ⟨⟨mb, mm, c⟩, hz⟩ := z
  have hz := hz l rfl
  dsimp only [vonV, vonE, Vz.E]
  repeat (first | refine JL.q (by first | (apply OQ.extract; exact rfl; exact rfl) | (apply OQ.neB (a := 0) (b := 0) (c := true); exact rfl; exact rfl; exact rfl) | (apply OQ.move; exact rfl) | (apply OQ.assign; exact rfl)) rfl ?_ | refine JC.seq ?_ | refine JC.region ?_ | refine JL.nil ?_ | refine JE.next ?_)
  refine JC.cond_false rfl rfl ?_
  repeat (first | refine JL.q (by (apply OQ.move; exact rfl)) rfl ?_ | refine JC.seq ?_ | refine JC.region ?_ | refine JC.skip ?_ | refine JE.next ?_)
  refine JL.perm (M' := dkE x bl [] ++ (⟨mb, MvB (mm, c), true⟩ :: flatE (mm.map ME.val))) ?_ List.perm_append_comm
  refine JL.jopen hd (by decide) hno rfl rfl fun j => ?_
  repeat (first | refine JL.q (by first | (apply OQ.extract; exact rfl; exact rfl) | (apply OQ.neB (a := 0) (b := 0) (c := true); exact rfl; exact rfl; exact rfl) | (apply OQ.move; exact rfl) | (apply OQ.assign; exact rfl)) rfl ?_ | refine JC.seq ?_ | refine JC.region ?_ | refine JL.nil ?_ | refine JE.next ?_)
  refine JC.cond_false rfl rfl ?_
  repeat (first | refine JL.q (by first | (apply OQ.buildSt; exact rfl; exact rfl) | (apply OQ.move; exact rfl)) rfl ?_ | refine JC.seq ?_ | refine JC.region ?_ | refine JC.skip ?_ | refine JE.next ?_)
  refine JL.box (r := [Pt j 0, .map (some mb)]) rfl rfl rfl fun p _ => ?_
  repeat (first | refine JL.q (by (apply OQ.assign; exact rfl)) rfl ?_ | refine JL.nil ?_ | refine JE.next ?_)
  exact JC.ret (JE.ret2 rfl (RV.tmp rfl) (RV.tmp rfl) fun w' hw => ⟨⟨⟨p, mb, mm, c, j, opnJ x bl, opnD bl⟩, ⟨hz.wf, hz.is, doL_srt .nil, hz.h0, v, hdj, by show valsOf _ = _; unfold valsOf; rw [ho]; rfl⟩, rfl, rfl⟩, rfl, hw.perm' (List.Perm.cons _ List.perm_middle)⟩)
end Go.Proofs.Ytjkncnbpaejamaa

/-
  Of no statement by itself: literals of slices of two elements with many cells; over X's partial knowledge, for any program P.
  Conditions: each rule's own hypotheses.
-/
namespace Go.Proofs.Ytjkncnbpaejamaa
namespace Sl
section
variable {P : Program} {n : Nat} {w0 : World} {S : List Nat} {ops : Array Oper} {Q : Exit → Act → World → Prop} {l : List Oper} {E : Env} {M : List Ent}
variable {d : Nat} {t e ty : TypeId} {pos : String} {aft : Array Edge} {v z : Value} {x y : Operand} {sz by' : Nat} {cs ds : List Value}
end
end Sl
end Go.Proofs.Ytjkncnbpaejamaa

/-
  Of no statement by itself: literals of slices of three elements with many cells; over X's partial knowledge, for any program P.
  Conditions: each rule's own hypotheses.
-/
namespace Go.Proofs.Ytjkncnbpaejamaa
namespace Sl
section
variable {P : Program} {n : Nat} {w0 : World} {S : List Nat} {ops : Array Oper} {Q : Exit → Act → World → Prop} {l : List Oper} {E : Env} {M : List Ent}
variable {d : Nat} {t e ty : TypeId} {pos : String} {aft : Array Edge} {v z : Value} {x y u : Operand} {sz by' : Nat} {cs ds es : List Value}
theorem buildA3_run {w : World} (hu : P.underlying t = some (.slice e)) (hi : EI P e z sz by') (_hz : z.cells.size = sz) (h0 : 0 < sz) (hsm : sz ≤ 4000000) (hl : cs.length = sz) (hl2 : ds.length = sz) (hl3 : es.length = sz) :
    (Instr.buildSlice t 3 #[(0, .agg cs.toArray), (1, .agg ds.toArray), (2, .agg es.toArray)]).run P w = .ok (.slice (some ⟨w.heap.size, 0, none⟩) 3 3) { w with heap := w.heap.push (.cells (cs ++ (ds ++ es)).toArray e (0, 0)) } := by
  have h3 : (underlying t).run P w = .ok (.slice e) w := run_underlying hu w
  obtain ⟨i, h4, h5, _⟩ := hi.get
  obtain ⟨r, h6, h7, h8⟩ := Great.fill_dense h0 [.agg cs.toArray, .agg ds.toArray, .agg es.toArray] 0 ((Array.range (3 * sz)).map (z.cells[· % z.cells.size]!)) (by intro v hv; simp only [List.mem_cons, List.not_mem_nil, or_false] at hv; rcases hv with rfl | rfl | rfl <;> simp [Value.cells, hl, hl2, hl3]) (by simp)
  have hr : r = (cs ++ (ds ++ es)).toArray := by
    apply Array.ext_getElem?
    intro k
    rw [h8 k]
    by_cases hk : k < 3 * sz
    · rw [if_pos (by simp; omega)]
      by_cases h1 : k < sz
      · rw [List.getElem?_toArray, List.getElem?_append_left (by omega)]
        simp [Nat.div_eq_of_lt h1, Nat.mod_eq_of_lt h1, Value.cells]
      · by_cases h2 : k < 2 * sz
        · have e1 : k / sz = 1 := by
            rw [Nat.div_eq_iff h0]; omega
          have e2 : k % sz = k - sz := by
            rw [Nat.mod_eq_sub_mod (by omega), Nat.mod_eq_of_lt (by omega)]
          rw [List.getElem?_toArray, List.getElem?_append_right (by omega), hl, List.getElem?_append_left (by omega)]
          simp [e1, e2, Value.cells]
        · have e1 : k / sz = 2 := by
            rw [Nat.div_eq_iff h0]; omega
          have e2 : k % sz = k - sz - sz := by
            rw [Nat.mod_eq_sub_mod (by omega), Nat.mod_eq_sub_mod (by omega), Nat.mod_eq_of_lt (by omega)]
          rw [List.getElem?_toArray, List.getElem?_append_right (by omega), hl, List.getElem?_append_right (by omega), hl2]
          simp [e1, e2, Value.cells]
    · rw [if_neg (by simp; omega), Array.getElem?_eq_none (by simp; omega), Array.getElem?_eq_none (by simp; omega)]
  subst hr
  have h11 : (zeroValue e).run P w = .ok z w := by simp [zeroValue, typeInfo, h4, h5]
  have h12 : ¬ (16777216 < 3 * sz) := by omega
  have h13 : ¬ (3 * sz = 0) := by omega
  have h14 : ¬ (sz = 0) := by omega
  simp only [List.zipIdx_cons, List.zipIdx_nil, List.map_cons, List.map_nil] at h6
  simp [Instr.buildSlice, Sem.run_bind, h3, sizeOf_run hi.sz, h11, h12, h13, h14, h6, newRow, newObj, Sem.run]
theorem JL.litA3 (hu : P.underlying t = some (.slice e)) (hi : EI P e z sz by') (hz : z.cells.size = sz) (h0 : 0 < sz) (hsm : sz ≤ 4000000) (hx : ev E x = some (.agg cs.toArray)) (hy : ev E y = some (.agg ds.toArray)) (hu2 : ev E u = some (.agg es.toArray)) (hl : cs.length = sz) (hl2 : ds.length = sz) (hl3 : es.length = sz) (hd : Nat.blt d n = true)
    (k : ∀ b, w0.heap.size ≤ b → JL P n w0 S ops Q l ((d, .slice (some ⟨b, 0, none⟩) 3 3) :: E) (⟨b, Row e (cs ++ (ds ++ es)), true⟩ :: M)) : JL P n w0 S ops Q (⟨some d, .buildSlice t 3 #[(0, x), (1, y), (2, u)], ty, pos, aft, none⟩ :: l) E M :=
  ⟨fun a w ha hw => wpList_plain rfl fun K hK => by
    unfold Oper.wp
    have hm : (#[(0, x), (1, y), (2, u)] : Array (Nat × Operand)).map (fun (i, x) => (i, a.eval x)) = #[(0, .agg cs.toArray), (1, .agg ds.toArray), (2, .agg es.toArray)] := by simp [ha.eval hx, ha.eval hy, ha.eval hu2]
    simp only [execOp, hm, Sem.run_bind, buildA3_run hu hi hz h0 hsm hl hl2 hl3, Result.andThen_ok]
    exact hK _ _ ((k w.heap.size hw.chg.size).go _ _ (ha.put d _ hd) (hw.push _ rfl rfl rfl rfl rfl))⟩
end
end Sl
end Go.Proofs.Ytjkncnbpaejamaa

/-
  Of no statement by itself: rules for calls of a store; the law's speaks.
  Conditions: each theorem's own.
-/
namespace Go.Proofs.Ytjkncnbpaejamaa
set_option maxRecDepth 10000
open Sl Dsk Jrn Sto
theorem lss_is : ∀ (a b : Bk), Op.bytesLess (toU a) (toU b) = klt a b
  | [], [] => rfl
  | [], _ :: _ => rfl
  | _ :: _, [] => rfl
  | a :: l, b :: r => by
    have ih := lss_is l r
    show (decide (UInt8.ofBitVec a < UInt8.ofBitVec b) || ((UInt8.ofBitVec a == UInt8.ofBitVec b) && Op.bytesLess (toU l) (toU r))) = _
    rw [ih, klt]
    have h1 : (UInt8.ofBitVec a < UInt8.ofBitVec b) ↔ a.toNat < b.toNat := Iff.rfl
    have h2 : (UInt8.ofBitVec a == UInt8.ofBitVec b) = decide (a.toNat = b.toNat) := by
      rw [Bool.eq_iff_iff]
      simp only [beq_iff_eq, decide_eq_true_eq]
      exact ⟨fun h => by have := congrArg UInt8.toBitVec h; simpa using congrArg BitVec.toNat this, fun h => by rw [BitVec.eq_of_toNat_eq h]⟩
    rw [h2]
    by_cases c1 : a.toNat < b.toNat
    · rw [if_pos c1, decide_eq_true (h1.2 c1)]; rfl
    · rw [if_neg c1, decide_eq_false (fun h => c1 (h1.1 h))]
      by_cases c2 : b.toNat < a.toNat
      · rw [if_pos c2, decide_eq_false (by omega)]; rfl
      · rw [if_neg c2, decide_eq_true (by omega)]; rfl
theorem strB_list (l : Bk) : (strB l).toList = toU l := by
  rw [ByteArray.toList_eq]
  show (l.map UInt8.ofBitVec).toArray.toList = _
  rfl
section
variable {P : Program} {n : Nat} {E : Env} {C : World → Prop} {dst : Option Tmp} {ty t t' : TypeId} {pos : String} {aft : Array Edge} {g : Option (Nat × Bool)} {x y : Operand} {l r : Bk}
theorem OQ.lssZ (hx : ev E x = some (Z l)) (hy : ev E y = some (Z r)) : OQ P n E C ⟨dst, .binOp .lss t x y t', ty, pos, aft, g⟩ (.bool (klt l r)) :=
  OQ.run fun a ha w _ => by
    have h1 := ha.eval hx
    have h2 := ha.eval hy
    simp [execOp, h1, h2, eqGuard, binOp, Op.stringOp, strB_list, lss_is]
end
/-- the keys of values with a front -/
def keysV (vs : VL) (front : Bk) : List Bk := (vs.filter fun p => preB16 front p.1).map Prod.fst
section
variable {n : Nat} {w0 : World} {S : List Nat} {ops : Array Oper} {Q : Exit → Act → World → Prop} {l : List Oper} {E : Env} {M : List Ent}
variable {d : Nat} {ty : TypeId} {pos : String} {aft : Array Edge} {x1 x2 : Operand} {ats : Array TypeId} {x : Dp} {bl recs : List Bk} {vs : VL} {z : Sz} {s : SlP} {key : Bk} {ls : List Pq}
abbrev SzOf (x : Dp) (bl : List Bk) (ls : List Pq) := {z : Sz // z.ok (curF bl).2.2 (doL [] ls) ∧ z.h = opnJ x bl ∧ z.bl = opnD bl}
theorem JL.sopen (hd : DkOk x bl []) (hno : noOpen bl = 0) (ho : decAll (curF bl).2.2 = some ls) (e1 : ev E x1 = some (Pt x.p 0)) (hn : Nat.blt d n = true)
    (kk : ∀ z : SzOf x bl ls, JL Try.prog n w0 S ops Q l ((d, .tuple #[Pt z.1.p 0, N 0]) :: E) (z.1.E ++ M)) : JL Try.prog n w0 S ops Q (⟨some d, .call ⟨.value (.func 9), #[x1], ats⟩, ty, pos, aft, none⟩ :: l) E (dkE x bl [] ++ M) :=
  JL.callV (ι := SzOf x bl ls) (xs := [x1]) (vs := [Pt x.p 0]) (fun z => .tuple #[Pt z.1.p 0, N 0]) (fun z => z.1.E) goes_sOpen (by simp [evs, e1]) hn (dkE_wr _ _ _) (fun z => z.1.wr)
    (fun w _ hw => sOpen_yes x bl ls hd hno ho w hw) kk
theorem JL.scom (k : z.ok recs vs) (hz : szL s.ps ≤ 2500000) (hs : ∀ w, Holds w0 S (z.E ++ M) w → s.ok w ∧ AwayP s (keys z.E)) (e1 : ev E x1 = some (Pt z.p 0)) (e2 : ev E x2 = some s.v) (hn : Nat.blt d n = true)
    (kk : ∀ r : StepTo z recs vs s.ps, JL Try.prog n w0 S ops Q l ((d, N r.code) :: E) (r.z'.E ++ M)) : JL Try.prog n w0 S ops Q (⟨some d, .call ⟨.value (.func 13), #[x1, x2], ats⟩, ty, pos, aft, none⟩ :: l) E (z.E ++ M) :=
  JL.callV (ι := StepTo z recs vs s.ps) (xs := [x1, x2]) (vs := [Pt z.p 0, s.v]) (fun r => N r.code) (fun r => r.z'.E) goes_com (by simp [evs, e1, e2]) hn z.wr (fun r => r.z'.wr)
    (fun w h0 hw => com_any z recs vs k s w (hs w h0).1 (hs w h0).2 hz hw) kk
theorem JL.sget {v : Bk} {is : Bool} (k : z.ok recs vs) (hv : (getV vs key).getD [] = v) (hi : (getV vs key).isSome = is) (e1 : ev E x1 = some (Pt z.p 0)) (e2 : ev E x2 = some (Z key)) (hn : Nat.blt d n = true)
    (kk : ∀ q : {q : Acc // q = none → v = []}, JL Try.prog n w0 S ops Q l ((d, .tuple #[accV q.1 v.length, .bool is]) :: E) (accE 5 q.1 (v.map U8) ++ (z.E ++ M))) : JL Try.prog n w0 S ops Q (⟨some d, .call ⟨.value (.func 24), #[x1, x2], ats⟩, ty, pos, aft, none⟩ :: l) E (z.E ++ M) := by
  have hl := look_get k.wf k.srt k.is key
  have h1 : ((look z.mm key).getD nilS).l = v := by
    rw [← hv, ← hl]
    cases look z.mm key <;> rfl
  have h2 : (look z.mm key).isSome = is := by rw [← hi, ← hl, Option.isSome_map]
  refine JL.callg (ι := {q : Acc // q = none → v = []}) (xs := [x1, x2]) (vs := [Pt z.p 0, Z key]) (fun q => .tuple #[accV q.1 v.length, .bool is]) (fun q => accE 5 q.1 (v.map U8)) goes_sGet (by simp [evs, e1, e2]) hn (fun _ => accE_wr _ _ _) (fun w hw => ?_) kk
  have := get_any z.p z.mb (Pt z.j 0) z.mm z.c key w (stR_of hw) fun x hx => ⟨k.vok hw x hx, by have := k.val hx; omega⟩
  rwa [h1, h2] at this
theorem JL.skeys {front : Bk} {ks : List Bk} (k : z.ok recs vs) (hk : keysV vs front = ks) (e1 : ev E x1 = some (Pt z.p 0)) (e2 : ev E x2 = some (Z front)) (hn : Nat.blt d n = true)
    (kk : ∀ q : {q : Acc // q = none → ks = []}, JL Try.prog n w0 S ops Q l ((d, accV q.1 ks.length) :: E) (accE 9 q.1 (ks.map Z) ++ (z.E ++ M))) : JL Try.prog n w0 S ops Q (⟨some d, .call ⟨.value (.func 15), #[x1, x2], ats⟩, ty, pos, aft, none⟩ :: l) E (z.E ++ M) := by
  have h1 : keysM z.mm front = ks := by rw [← hk]; exact keysM_is k.srt k.is front
  refine JL.callg (ι := {q : Acc // q = none → ks = []}) (xs := [x1, x2]) (vs := [Pt z.p 0, Z front]) (fun q => accV q.1 ks.length) (fun q => accE 9 q.1 (ks.map Z)) goes_sKeys (by simp [evs, e1, e2]) hn (fun _ => accE_wr _ _ _) (fun w hw => ?_) kk
  have := skeys_any z.p z.mb (Pt z.j 0) z.mm z.c front w k.wf (stR_of hw) (by have := k.lenb; omega)
  rwa [h1] at this
end
theorem newB_dec (n : Nat) : decAll (curF (newB n)).2.2 = some [] := by rw [(newB_cur n).1]; rfl
section
variable {n : Nat} {E : Env} {C : World → Prop} {dst : Option Tmp} {ty : TypeId} {pos : String} {aft : Array Edge} {g : Option (Nat × Bool)} {x1 x2 : Operand}
theorem OQ.buildP1 {key : Bk} (h1 : ev E x1 = some (Z key)) :
    OQ Try.prog n E C ⟨dst, .build 44 #[(0, x1)], ty, pos, aft, g⟩ (.agg #[Z key, .slice none 0 0, .bool false]) :=
  OQ.run fun a ha w _ => by
    have e1 := ha.eval h1
    have r := run_build (P := Try.prog) w 44 #[(0, Z key)] #[Z key, .slice none 0 0, .bool false] (by kernel_rfl)
    simp [execOp, e1, r]
theorem OQ.buildPg {key : Bk} {b : Bool} (h1 : ev E x1 = some (Z key)) (h2 : ev E x2 = some (.bool b)) :
    OQ Try.prog n E C ⟨dst, .build 44 #[(0, x1), (2, x2)], ty, pos, aft, g⟩ (.agg #[Z key, .slice none 0 0, .bool b]) :=
  OQ.run fun a ha w _ => by
    have e1 := ha.eval h1
    have e2 := ha.eval h2
    have r := run_build (P := Try.prog) w 44 #[(0, Z key), (2, .bool b)] #[Z key, .slice none 0 0, .bool b] (by kernel_rfl)
    simp [execOp, e1, e2, r]
end
theorem goes_speaks16 : Goes Try.prog 6 := ⟨_, Try.func6, rfl, by kernel_rfl⟩
/-- pairs in a row of one's own -/
theorem row3_ok {b : Nat} {l : List PqS} {w0 w : World} {S : List Nat} {M : List Ent} {wr : Bool} (hw : Holds w0 S M w) (hM : Has M b (Row 44 (l.map PqS.cs).flatten) wr) (ha : ∀ p ∈ l, p.s.ok w) : (SlP.mk (some ⟨b, 0, none⟩) l.length l).ok w := by
  obtain ⟨o, ho, hA⟩ := hw.get hM
  exact ⟨Nat.le_refl _, Reads.block ho (Row.all o hA), ha⟩
def spk16 : List Pq := [⟨[98], [], false⟩, ⟨[97], [1], false⟩, ⟨[97], [], true⟩]
set_option maxHeartbeats 16000000 in
theorem speaks16_any (w : World) : Calls Try.prog 6 [].toArray w fun e w' => e = .returned (.bool true) ∧ Ext w w' := by
  refine enter (n := 51) Try.func6 rfl rfl rfl (Holds.start w []) ?_
  repeat (first | refine JL.q (by (apply OQ.assign; exact rfl)) rfl ?_ | refine JC.seq ?_ | refine JC.region ?_ | refine JL.nil ?_ | refine JE.next ?_)
  refine JL.dnew (k := 20) (by decide) (by decide) rfl rfl fun x hx => ?_
  repeat (first | refine JL.q (by first | (apply OQ.extract; exact rfl; exact rfl) | (apply OQ.neB (a := 0) (b := 0) (c := true); exact rfl; exact rfl; exact rfl) | (apply OQ.ptrNil; exact Try.underlying25; exact rfl; exact rfl) | (apply OQ.pick_f; exact rfl; exact rfl) | (apply OQ.move; exact rfl) | (apply OQ.assign; exact rfl)) rfl ?_ | refine JC.seq ?_ | refine JC.region ?_ | refine JL.nil ?_ | refine JE.next ?_ | refine JL.gon rfl rfl ?_)
  refine JC.cond_false rfl rfl ?_
  repeat (first | refine JL.q (by (apply OQ.move; exact rfl)) rfl ?_ | refine JC.seq ?_ | refine JC.region ?_ | refine JC.skip ?_ | refine JE.next ?_)
  have hno : noOpen (newB 20) = 0 := newB_no (by decide)
  refine JL.sopen hx hno (newB_dec 20) rfl rfl fun z => ?_
  obtain ⟨z, k, hh, hbl⟩ := z
  have hsz : z.h.size = 10 := by rw [hh]; rfl
  have hus : z.h.used = 1 := by rw [k.jv.u, (newB_cur 20).1]; rfl
  dsimp only
  repeat (first | refine JL.q (by first | (apply OQ.extract; exact rfl; exact rfl) | (apply OQ.neB (a := 0) (b := 0) (c := true); exact rfl; exact rfl; exact rfl) | (apply OQ.ptrNil; exact Try.underlying29; exact rfl; exact rfl) | (apply OQ.pick_f; exact rfl; exact rfl) | (apply OQ.buildP1 (key := [98]); exact rfl) | (apply OQ.move; exact rfl) | (apply OQ.assign; exact rfl)) rfl ?_ | refine JC.seq ?_ | refine JC.region ?_ | refine JL.nil ?_ | refine JE.next ?_ | refine JL.gon rfl rfl ?_)
  try refine JL.gon rfl rfl ?_
  refine JL.lit1 (v := U8 1) Try.underlying33 u8e rfl rfl rfl rfl fun b5 _ => ?_
  repeat (first | refine JL.q (by first | (apply OQ.buildP2 (key := [97]) (s := ⟨some ⟨b5, 0, none⟩, 1, [1]⟩); exact rfl; exact rfl) | (apply OQ.buildPg (key := [97]) (b := true); exact rfl; exact rfl)) rfl ?_ | refine JL.gon rfl rfl ?_)
  try refine JL.gon rfl rfl ?_
  refine JL.litA3 (cs := (PqS.mk [98] nilS false).cs) (ds := (PqS.mk [97] ⟨some ⟨b5, 0, none⟩, 1, [1]⟩ false).cs) (es := (PqS.mk [97] nilS true).cs) Try.underlying32 prI rfl (by decide) (by decide) rfl rfl rfl rfl rfl rfl rfl fun bl _ => ?_
  refine JL.perm (M' := z.E ++ [⟨bl, Row 44 ((PqS.mk [98] nilS false).cs ++ ((PqS.mk [97] ⟨some ⟨b5, 0, none⟩, 1, [1]⟩ false).cs ++ (PqS.mk [97] nilS true).cs)), true⟩, ⟨b5, Row 5 [U8 1], true⟩]) ?_ (by rw [List.append_nil]; exact List.perm_append_comm (l₁ := [_, _]))
  try refine JL.gon rfl rfl ?_
  refine JL.scom (s := ⟨some ⟨bl, 0, none⟩, 3, [⟨[98], nilS, false⟩, ⟨[97], ⟨some ⟨b5, 0, none⟩, 1, [1]⟩, false⟩, ⟨[97], nilS, true⟩]⟩) k (by show szL spk16 ≤ 2500000; decide) (fun w' hw' => ⟨row3_ok (l := [_, _, _]) hw' (hasR (N := z.E) .here) ?_, ?_⟩) rfl rfl rfl fun r => ?_
  · intro p hp
    simp only [List.mem_cons, List.not_mem_nil, or_false] at hp
    rcases hp with rfl | rfl | rfl
    · exact nilS_ok _
    · exact row_ok hw' (hasR (N := z.E) (.there .here)) rfl (by decide)
    · exact nilS_ok _
  · refine ⟨fun _ a ea => ?_, fun p hp => ?_⟩
    · cases ea
      exact away_has (b := bl) hw' .here
    · simp only [List.mem_cons, List.not_mem_nil, or_false] at hp
      rcases hp with rfl | rfl | rfl
      · intro _ a ea; cases ea
      · intro _ a ea; cases ea; exact away_has (b := b5) hw' (.there .here)
      · intro _ a ea; cases ea
  obtain ⟨code, z', recs', vs', k', hp, st⟩ := r
  dsimp only
  have hst : code = 0 ∧ vs' = [([98], [])] := by
    rcases st with ⟨_, _, _, h | h⟩ | ⟨_, h1, h2, _⟩
    · exact absurd h.1 (by show ¬ okL spk16 = false; decide)
    · exact absurd (by rw [hsz, hus]; show nb (encL spk16).length ≤ 10 - 1; decide) h.2.2.1
    · exact ⟨h1, by rw [h2]; rfl⟩
  obtain ⟨rfl, rfl⟩ := hst
  rw [← hp]
  repeat (first | refine JL.q (by first | (apply OQ.neB (a := 0) (b := 0) (c := true); exact rfl; exact rfl; exact rfl) | (apply OQ.pick_f; exact rfl; exact rfl)) rfl ?_ | refine JL.nil ?_ | refine JE.next ?_ | refine JL.gon rfl rfl ?_)
  refine JC.cond_false rfl rfl ?_
  repeat (first | refine JL.q (by (apply OQ.move; exact rfl)) rfl ?_ | refine JC.seq ?_ | refine JC.region ?_ | refine JC.skip ?_ | refine JE.next ?_)
  refine JL.sget (key := [97]) (v := []) (is := false) k' rfl rfl rfl rfl rfl fun q => ?_
  repeat (first | refine JL.q (by first | (apply OQ.extract; exact rfl; exact rfl) | (apply OQ.not; exact rfl) | (apply OQ.move; exact rfl) | (apply OQ.assign; exact rfl)) rfl ?_ | refine JC.seq ?_ | refine JC.region ?_ | refine JL.nil ?_ | refine JE.next ?_ | refine JL.gon rfl rfl ?_)
  refine JL.perm (M' := z'.E ++ (accE 5 q.1 (([] : Bk).map U8) ++ [⟨bl, Row 44 ((PqS.mk [98] nilS false).cs ++ ((PqS.mk [97] ⟨some ⟨b5, 0, none⟩, 1, [1]⟩ false).cs ++ (PqS.mk [97] nilS true).cs)), true⟩, ⟨b5, Row 5 [U8 1], true⟩])) ?_ (by exact List.perm_append_comm_assoc _ _ _)
  try refine JL.gon rfl rfl ?_
  refine JL.skeys (front := []) (ks := [[98]]) k' rfl rfl rfl rfl fun q2 => ?_
  have hq0 : q2.1 = none → ([[98]] : List Bk).length = 0 := fun e => by cases q2.2 e
  repeat (first | refine JL.q (by first | (apply OQ.lenV (q := q2.1) (k := 1); exact Try.underlying41; exact hq0; exact rfl) | (apply OQ.eqB (a := 1) (b := 1) (c := true); exact rfl; exact rfl; exact rfl) | (apply OQ.pick_t; exact rfl; exact rfl) | (apply OQ.assign; exact rfl)) rfl ?_ | refine JL.nil ?_ | refine JE.next ?_ | refine JL.gon rfl rfl ?_)
  exact JC.ret (JE.ret1 rfl (RV.tmp rfl) fun w' hw => ⟨rfl, hw.chg⟩)
end Go.Proofs.Ytjkncnbpaejamaa
