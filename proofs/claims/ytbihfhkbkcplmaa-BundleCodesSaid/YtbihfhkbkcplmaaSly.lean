/-
  Of no statement by itself: rules for what slices read, len, copy and append, and for code whose ways meet again, over X's partial knowledge of frame and memory, for any program P.
  Conditions: each rule's own hypotheses.
-/
import Derived.Test.YtbihfhkbkcplmaaSlx
import Derived.Laws.AppendOwn
namespace Go.Proofs.Ytbihfhkbkcplmaa
namespace Sl

/-- the cells behind an address (none: there are none) -/
def Reads (w : World) (ad : Option Addr) (cs : List Value) : Prop := ∀ i v, cs[i]? = some v → ∃ b j, ad = some ⟨b, j, none⟩ ∧ w.cell? ⟨b, j + i, none⟩ = some v
theorem Reads.nil (w : World) (ad : Option Addr) : Reads w ad [] := by intro i v h; simp at h
theorem Reads.at {w : World} {ad : Option Addr} {cs : List Value} (h : Reads w ad cs) (h0 : 0 < cs.length) : ∃ b j, ad = some ⟨b, j, none⟩ ∧ ∀ i v, cs[i]? = some v → w.cell? ⟨b, j + i, none⟩ = some v := by
  obtain ⟨b, j, h1, _⟩ := h 0 cs[0] (by simp [h0])
  refine ⟨b, j, h1, fun i v hv => ?_⟩
  obtain ⟨b', j', h2, h3⟩ := h i v hv
  rw [h1] at h2
  cases h2
  exact h3
theorem Reads.of {w : World} {b j : Nat} {cs : List Value} (h : ∀ i v, cs[i]? = some v → w.cell? ⟨b, j + i, none⟩ = some v) : Reads w (some ⟨b, j, none⟩) cs := fun i v hv => ⟨b, j, rfl, h i v hv⟩
theorem Reads.block {w : World} {b j : Nat} {cs : List Value} {o : Obj} (ho : w.heap[b]? = some o) (h : hasCells o j cs) : Reads w (some ⟨b, j, none⟩) cs := .of (cells_of ho h)
theorem Reads.take {w : World} {ad : Option Addr} {cs : List Value} (h : Reads w ad cs) (k : Nat) : Reads w ad (cs.take k) := fun i v hv => h i v (by
  rw [List.getElem?_take] at hv
  split at hv
  · exact hv
  · cases hv)
/-- what is left of a slice behind a cut -/
theorem Reads.drop {w : World} {ad : Option Addr} {cs : List Value} {len cap lo : Nat} (h : Reads w ad cs) (hl : cs.length = len) (hc : len ≤ cap) (hlo : lo ≤ len) : Reads w (if cap = lo then ad else ad.map (·.add (lo * 1))) (cs.drop lo) := by
  by_cases e : cap = lo
  · rw [if_pos e, List.drop_of_length_le (by omega)]
    exact .nil _ _
  · rw [if_neg e]
    intro i v hv
    rw [List.getElem?_drop] at hv
    obtain ⟨b, j, h1, h2⟩ := h _ v hv
    refine ⟨b, j + lo, by simp [h1, add_off], by rw [Nat.add_assoc]; exact h2⟩

section
variable {P : Program} {w : World} {cs : List Value} {ad : Option Addr} {m c sz : Nat}
theorem firstCells_run (hl : cs.length = m * sz) (h : Reads w ad cs) (len : Nat) : (Builtin.firstCells sz m (.slice ad len c)).run P w = .ok cs.toArray w := by
  by_cases h0 : cs = []
  · subst h0
    have hm : m * sz = 0 := by simpa using hl.symm
    cases ad with
    | none => rfl
    | some a => simp [Builtin.firstCells, hm, loadCells, loadCellsFrom]
  · obtain ⟨b, j, rfl, h2⟩ := h.at (List.length_pos_iff.2 h0)
    exact run_firstCells_some (P := P) w sz m ⟨b, j, none⟩ len c cs hl (fun i v hv => by rw [add_off]; exact h2 i v hv)
end

/-- type e: its zero value, its cells, its bytes -/
def EI (P : Program) (e : TypeId) (z : Value) (sz bytes : Nat) : Prop := (P.info? e).map (fun i => (i.zero, i.size, i.bytes)) = some (some z, sz, bytes)
theorem EI.get {P : Program} {e : TypeId} {z : Value} {sz bytes : Nat} (h : EI P e z sz bytes) : ∃ i, P.info? e = some i ∧ i.zero = some z ∧ i.size = sz ∧ i.bytes = bytes := by
  unfold EI at h
  cases hq : P.info? e with
  | none => simp [hq] at h
  | some i => simp only [hq, Option.map_some, Option.some.injEq, Prod.mk.injEq] at h; exact ⟨i, rfl, h⟩
theorem EI.sz {P : Program} {e : TypeId} {z : Value} {sz bytes : Nat} (h : EI P e z sz bytes) : szT P e = some sz := by
  obtain ⟨i, h1, _, h2, _⟩ := h.get
  simp [szT, h1, h2]

/-- a slice's own cells, first in their block; cap elements of sz cells each have room -/
def Own (e : TypeId) (sz n cap : Nat) (xs : List Value) : Obj → Prop := fun o => ∃ sp : List Value, o = .cells (xs ++ sp).toArray e (0, 0) ∧ (xs ++ sp).length = cap * sz ∧ xs.length = n * sz ∧ n ≤ cap
theorem Own.cells {e : TypeId} {sz n cap : Nat} {xs : List Value} : ∀ o, Own e sz n cap xs o → hasCells o 0 xs := by
  rintro o ⟨sp, rfl, _⟩
  exact ⟨_, _, _, rfl, fun i hi => by simp [List.getElem?_append_left hi]⟩
theorem Own.cell {e : TypeId} {sz n cap j : Nat} {v : Value} {xs : List Value} (h : xs[j]? = some v) : ∀ o, Own e sz n cap xs o → cellAt o j = some v := by
  rintro o ⟨sp, rfl, _⟩
  have hj : j < xs.length := (List.getElem?_eq_some_iff.1 h).1
  simpa [cellAt, List.getElem?_append_left hj] using h

/-- M' is M with one entry turned, its block too. -/
inductive Repl : List Ent → Nat → (Obj → Prop) → Nat → (Obj → Prop) → List Ent → Prop where
  | here {b A b' A' M} : Repl (⟨b, A, true⟩ :: M) b A b' A' (⟨b', A', true⟩ :: M)
  | there {e M b A b' A' M'} : Repl M b A b' A' M' → Repl (e :: M) b A b' A' (e :: M')

section
variable {w0 : World} {S : List Nat} {M M' : List Ent} {w w' : World} {b b' : Nat} {A A' : Obj → Prop}
theorem Repl.has (h : Repl M b A b' A' M') : Has M b A true := by
  induction h with
  | here => exact .here
  | there _ ih => exact .there ih
theorem Repl.upd (h : Repl M b A b A' M') : Upd M b A A' M' := by
  generalize hb : b = b1 at h
  have : b = b1 := hb
  clear hb
  suffices ∀ {M M' : List Ent} {b b1 : Nat} {A A' : Obj → Prop}, Repl M b A b1 A' M' → b = b1 → Upd M b A A' M' by exact this (by rw [← ‹b = b1›] at h ⊢; exact h) rfl
  intro M M' b b1 A A' h e
  induction h with
  | here => subst e; exact .here
  | there _ ih => exact .there (ih e)
theorem Repl.mem (h : Repl M b A b' A' M') : ∀ e ∈ M', e = ⟨b', A', true⟩ ∨ e ∈ M := by
  induction h with
  | here =>
    intro e he
    simp only [List.mem_cons] at he
    rcases he with rfl | he
    · exact .inl rfl
    · exact .inr (by simp [he])
  | there _ ih =>
    intro e he
    simp only [List.mem_cons] at he
    rcases he with rfl | he
    · exact .inr (by simp)
    · rcases ih e he with h | h
      · exact .inl h
      · exact .inr (by simp [h])
theorem Repl.nodup (h : Repl M b A b' A' M') (hn : (M.map Ent.b).Nodup) (hb : b' ∉ M.map Ent.b) : (M'.map Ent.b).Nodup := by
  induction h with
  | here =>
    simp only [List.map_cons, List.nodup_cons, List.mem_cons, not_or] at hn hb ⊢
    exact ⟨hb.2, hn.2⟩
  | @there e M b A b' A' M' hr ih =>
    simp only [List.map_cons, List.nodup_cons, List.mem_cons, not_or] at hn hb ⊢
    refine ⟨fun hm => ?_, ih hn.2 hb.2⟩
    obtain ⟨x, hx, hxe⟩ := List.mem_map.1 hm
    rcases hr.mem x hx with rfl | hx
    · exact hb.1 hxe
    · exact hn.1 (hxe ▸ List.mem_map_of_mem hx)
/-- A new block takes an entry's place. -/
theorem Holds.renew (h : Holds w0 S M w) (o : Obj) (hr : Repl M b A w.heap.size A' M') (hA : A' o) (hw : w'.heap = w.heap.push o) (h1 : w'.os = w.os) (h2 : w'.tape = w.tape) (h3 : w'.output = w.output) : Holds w0 S M' w' := by
  have hp := h.push o hA hw h1 h2 h3
  refine ⟨hp.chg, hr.nodup h.nodup ?_, fun e he => ?_⟩
  · intro hm
    obtain ⟨e, he, hb⟩ := List.mem_map.1 hm
    have := h.lt he
    omega
  · rcases hr.mem e he with rfl | he
    · exact hp.all _ (by simp)
    · exact hp.all e (by simp [he])
theorem Holds.seen {o : Obj} (ho : w.heap[b]? = some o) (hA : A o) : Holds w S [⟨b, A, false⟩] w := ⟨Chg.refl _ _, by simp, by simp [ho, hA]⟩
theorem Holds.fresh (h : Holds w0 S M w) (hx : Ext w w') (hb : w.heap.size ≤ b) {o : Obj} (ho : w'.heap[b]? = some o) (hA : A o) : Holds w0 S (⟨b, A, true⟩ :: M) w' := by
  have h' := h.ext hx
  refine ⟨h'.chg, ?_, fun e he => ?_⟩
  · simp only [List.map_cons, List.nodup_cons, h.nodup, and_true]
    intro hm
    obtain ⟨e, he, hbe⟩ := List.mem_map.1 hm
    have := h.lt he
    omega
  · simp only [List.mem_cons] at he
    rcases he with rfl | he
    · exact ⟨⟨o, ho, hA⟩, fun _ => .inr (Nat.le_trans h.chg.size hb)⟩
    · exact h'.all e he
/-- A block of one's own was written by a call. -/
theorem Holds.turn (h : Holds w0 S M w) (hu : Upd M b A A' M') (hc : Chg [b] w w') {o : Obj} (ho : w'.heap[b]? = some o) (hA : A' o) : Holds w0 S M' w' := by
  have hin := (h.all _ hu.has.mem).2 rfl
  refine ⟨⟨hc.os.trans h.chg.os, hc.tape.trans h.chg.tape, hc.output.trans h.chg.output, Nat.le_trans h.chg.size hc.size, fun k hk hS => ?_⟩, by rw [hu.keys]; exact h.nodup, fun e he => ?_⟩
  · refine (hc.block k (Nat.lt_of_lt_of_le hk h.chg.size) ?_).trans (h.chg.block k hk hS)
    intro hkb
    have hkb : k = b := by simpa using hkb
    subst hkb
    rcases hin with h4 | h4
    · exact hS h4
    · simp only [] at h4; omega
  · rcases hu.old h.nodup e he with rfl | ⟨h4, h5⟩
    · exact ⟨⟨o, ho, hA⟩, fun _ => hin⟩
    · obtain ⟨⟨o2, ho2, hA2⟩, h6⟩ := h.all e h4
      exact ⟨⟨o2, (hc.block _ (h.lt h4) (by simpa using h5)).trans ho2, hA2⟩, h6⟩
theorem Holds.one {o : Obj} (ho : w.heap[b]? = some o) (hA : A o) : Holds w [b] [⟨b, A, true⟩] w := ⟨Chg.refl _ _, by simp, by simp [ho, hA]⟩
theorem Holds.reads (h : Holds w0 S M w) {ad : Option Addr} {cs : List Value} (hr : Reads w0 ad cs) (hS : cs ≠ [] → ∀ a, ad = some a → a.block ∉ S) : Reads w ad cs := by
  intro i v hv
  have hcs : cs ≠ [] := by rintro rfl; simp at hv
  obtain ⟨b, j, h1, h2⟩ := hr i v hv
  have hb : b < w0.heap.size := block_lt_of_cell h2
  exact ⟨b, j, h1, by simpa [World.cell?, h.old hb (hS hcs _ h1)] using h2⟩
end

section
variable {P : Program} {n : Nat} {w0 : World} {S : List Nat} {ops : Array Oper} {Q : Exit → Act → World → Prop} {l : List Oper} {E : Env} {M : List Ent} {C : World → Prop}
variable {dst : Option Tmp} {d b j : Nat} {t ty e : TypeId} {pos : String} {aft : Array Edge} {g : Option (Nat × Bool)} {v : Value} {x y : Operand} {A A' : Obj → Prop} {cs : List Value}

theorem OQ.nilc {a : Addr} (hx : ev E x = some (.pointer (some a))) : OQ P n E C ⟨dst, .nilCheck x, ty, pos, aft, g⟩ (.pointer (some a)) :=
  OQ.run fun c hk w _ => by
    have h1 := hk.eval hx
    simp [execOp, h1]
theorem OQ.len {ad : Option Addr} {k cap : Nat} (hu : P.underlying t = some (.slice e)) (hx : ev E x = some (.slice ad k cap)) : OQ P n E C ⟨dst, .call ⟨.builtin .len, #[x], #[t]⟩, ty, pos, aft, g⟩ (N k) :=
  OQ.run fun a hk w _ => by
    have h1 := hk.eval hx
    have h3 : (underlying t).run P w = .ok (.slice e) w := run_underlying hu w
    simp [execOp, h1, resolve, invoke, builtin, Builtin.len_, Sem.run_bind, h3, goInt]

theorem copy_run {t' : TypeId} {w : World} {ad : Option Addr} {dl dc sl sc : Nat} {r : List Value} (hu : P.underlying t = some (.slice e)) (hz : szT P e = some 1) (ho : w.heap[b]? = some (.cells r.toArray ty (0, 0)))
    (hl : cs.length = sl) (hr : Reads w ad cs) (h1 : ∀ v ∈ cs, v.oneCell' = true) (hj : j + min sl dl ≤ r.length) :
    ∃ w', (Builtin.copy_ #[t, t'] 0 #[.slice (some ⟨b, j, none⟩) dl dc, .slice ad sl sc]).run P w = .ok (N (min sl dl)) w' ∧ w'.heap[b]? = some (.cells (r.take j ++ cs.take (min sl dl) ++ r.drop (j + min sl dl)).toArray ty (0, 0)) ∧ w'.heap.size = w.heap.size ∧
      (∀ k, k ≠ b → w'.heap[k]? = w.heap[k]?) ∧ w'.os = w.os ∧ w'.tape = w.tape ∧ w'.output = w.output := by
  have hlen : (cs.take (min sl dl)).length = min sl dl := by simp; omega
  obtain ⟨w', r1, r2, r3, r4, r5, r6, r7⟩ := storeCells_run (P := P) (b := b) (j := j) (e := ty) (cs.take (min sl dl)) 0 w r (fun v hv => h1 v (List.mem_of_mem_take hv)) ho (by omega)
  refine ⟨w', ?_, by rw [hlen] at r2; simpa using r2, r3, r4, r5, r6, r7⟩
  have h3 : (underlying t).run P w = .ok (.slice e) w := run_underlying hu w
  have h4 := firstCells_run (P := P) (m := min sl dl) (sz := 1) (c := sc) (by rw [hlen, Nat.mul_one]) (hr.take (min sl dl)) sl
  simp only [Builtin.copy_, Sem.run_bind, Sem.run_pure, h3, Result.andThen_ok, Builtin.lenOf, sizeOf_run hz, List.getElem?_toArray, List.getElem?_cons_zero, List.getElem?_cons_succ]
  have h5 : Nat.min sl dl = min sl dl := rfl
  rw [h5, h4]
  simp only [Result.andThen_ok, r1]
  rfl
theorem JL.copy {t' : TypeId} {ad : Option Addr} {dl dc sl sc : Nat} {r r' : List Value} {M' : List Ent} {te : TypeId} (hu : P.underlying t = some (.slice e)) (hz : szT P e = some 1) (hx : ev E x = some (.slice (some ⟨b, j, none⟩) dl dc)) (hy : ev E y = some (.slice ad sl sc))
    (hup : Upd M b (Row te r) (Row te r') M') (hl : cs.length = sl) (hr : ∀ w, Holds w0 S M w → Reads w ad cs) (h1 : ∀ v ∈ cs, v.oneCell' = true) (hj : j + min sl dl ≤ r.length) (he : r.take j ++ cs.take (min sl dl) ++ r.drop (j + min sl dl) = r') (hd : Nat.blt d n = true)
    (k : JL P n w0 S ops Q l ((d, N (min sl dl)) :: E) M') : JL P n w0 S ops Q (⟨some d, .call ⟨.builtin .copy, #[x, y], #[t, t']⟩, ty, pos, aft, none⟩ :: l) E M :=
  ⟨fun a w ha hw => wpList_plain rfl fun K hK => by
    obtain ⟨o, ho, hAo⟩ := hw.get hup.has
    subst hAo
    obtain ⟨w', r1, r2, r3, r4, r5, r6, r7⟩ := copy_run (P := P) (t' := t') (dc := dc) (sc := sc) (ty := te) hu hz ho hl (hr w hw) h1 hj
    have r1' : (Builtin.copy_ #[t, t'] ty #[.slice (some ⟨b, j, none⟩) dl dc, .slice ad sl sc]).run P w = .ok (N (min sl dl)) w' := r1
    unfold Oper.wp
    simp only [execOp, resolve, invoke, builtin, Sem.run_bind, Sem.run_pure, Result.andThen_ok, List.map_toArray, List.map_cons, List.map_nil, ha.eval hx, ha.eval hy, r1']
    exact hK _ _ (k.go _ _ (ha.put d _ hd) (hw.write hup (he ▸ rfl) r2 r3 r4 r5 r6 r7))⟩

theorem JL.store_part {r r' : List Value} {te : TypeId} {m : Nat} {M' : List Ent} (hz : szT P t = some m) (hx : ev E x = some (.pointer (some ⟨b, j, none⟩))) (hy : ev E y = some (.agg cs.toArray)) (hl : cs.length = m) (hv : cs.all Value.oneCell' = true) (hu : Upd M b (Row te r) (Row te r') M')
    (hj : j + cs.length ≤ r.length) (he : r.take j ++ cs ++ r.drop (j + cs.length) = r') (k : JL P n w0 S ops Q l E M') : JL P n w0 S ops Q (⟨none, .store t x y, ty, pos, aft, none⟩ :: l) E M :=
  JL.store_agg hz hx hy hl hv hu (fun _ ho => ⟨r, te, ho, hj, by rw [he]; rfl⟩) k
theorem append_none {_t' : TypeId} {w : World} {base ad : Option Addr} {nl cap sc : Nat} {i : TypeInfo} (hu : P.underlying t = some (.slice e)) (hi : P.info? e = some i) (hc : nl ≤ cap) :
    (Builtin.append_ #[t, t] ty #[.slice base nl cap, .slice ad 0 sc]).run P w = .ok (.slice base nl cap) w := by
  have h3 : (underlying t).run P w = .ok (.slice e) w := run_underlying hu w
  cases base <;> cases ad <;> simp [Builtin.append_, run_underlying hu, sizeOf, typeInfo, hi, Builtin.lenOf, Builtin.firstCells, loadCells, loadCellsFrom, hc, storeCells]

/-- append onto a slice of the function's own -/
theorem JL.append {z : Value} {ad : Option Addr} {sz by' k m cap sc : Nat} {xs : List Value} (M' : Nat → Nat → List Ent) (hu : P.underlying t = some (.slice e)) (hi : EI P e z sz by') (hx : ev E x = some (.slice (some ⟨b, 0, none⟩) k cap)) (hy : ev E y = some (.slice ad m sc))
    (hup : ∀ b' cap', Repl M b (Own e sz k cap xs) b' (Own e sz (k + m) cap' (xs ++ cs)) (M' b' cap')) (hl : cs.length = m * sz) (hr : ∀ w, Holds w0 S M w → Reads w ad cs) (h1 : ∀ v ∈ cs, v.oneCell' = true)
    (hzz : z.cells.size = sz) (h0 : 0 < sz) (hsm : (k + m) * by' ≤ 140737488355328) (hsm2 : k + m < 9223372036854775808) (hd : Nat.blt d n = true)
    (kk : ∀ b' cap', JL P n w0 S ops Q l ((d, .slice (some ⟨b', 0, none⟩) (k + m) cap') :: E) (M' b' cap')) : JL P n w0 S ops Q (⟨some d, .call ⟨.builtin .append, #[x, y], #[t, t]⟩, ty, pos, aft, none⟩ :: l) E M :=
  ⟨fun a w ha hw => wpList_plain rfl fun K hK => by
    obtain ⟨i, hi1, hi2, hi3, hi4⟩ := hi.get
    obtain ⟨o, ho, sp, rfl, hc1, hc2, hc3⟩ := hw.get (hup 0 0).has
    have hru := hr w hw
    unfold Oper.wp
    simp only [execOp, resolve, invoke, builtin, Sem.run_bind, Sem.run_pure, Result.andThen_ok, List.map_toArray, List.map_cons, List.map_nil, ha.eval hx, ha.eval hy]
    by_cases hm : m = 0
    · subst hm
      have hcs : cs = [] := List.eq_nil_of_length_eq_zero (by simpa using hl)
      subst hcs
      rw [append_none (_t' := t) hu hi1 hc3]
      refine hK _ _ ((kk b cap).go _ _ (ha.put d _ hd) (hw.write (hup b cap).upd (o' := .cells (xs ++ sp).toArray e (0, 0)) ?_ ho rfl (fun _ _ => rfl) rfl rfl rfl))
      exact ⟨sp, by simp, by simpa using hc1, by simpa using hc2, by omega⟩
    · have hpos : 0 < cs.length := by rw [hl]; exact Nat.mul_pos (Nat.pos_of_ne_zero hm) h0
      obtain ⟨b2, j2, rfl, hcell⟩ := hru.at hpos
      by_cases hroom : k + m ≤ cap
      · have hfit : k * i.size + cs.length ≤ (xs ++ sp).toArray.size := by
          rw [hl, hi3, List.size_toArray, hc1, ← Nat.add_mul]; exact Nat.mul_le_mul_right _ hroom
        rw [run_append_room (P := P) w t ty e i hu hi1 b k cap (xs ++ sp).toArray ho ⟨b2, j2, none⟩ m sc cs (by rw [hl, hi3]) (fun u v hv => by rw [add_off]; exact hcell u v hv) h1 hroom hfit]
        refine hK _ _ ((kk b cap).go _ _ (ha.put d _ hd) (hw.write (hup b cap).upd (o' := .cells ((xs ++ sp).take (k * i.size) ++ cs ++ (xs ++ sp).drop (k * i.size + cs.length)).toArray e (0, 0)) ?_ (setRow_heap w b _ _ e _ ho) (by simp) (fun q hq => setRow_other w b q _ hq) rfl rfl rfl))
        rw [hi3, ← hc2, List.take_left]
        refine ⟨(xs ++ sp).drop (xs.length + cs.length), rfl, ?_, by rw [List.length_append, hc2, hl, Nat.add_mul], hroom⟩
        have h7 : xs.length + cs.length ≤ (xs ++ sp).length := by rw [hc1, hc2, hl, ← Nat.add_mul]; exact Nat.mul_le_mul_right _ hroom
        simp only [List.length_append, List.length_drop] at h7 hc1 ⊢
        omega
      · have hold : ∀ u v, xs[u]? = some v → w.cell? ((⟨b, 0, none⟩ : Addr).add u) = some v := fun u v hv => by
          rw [add_off]
          have hu' : u < xs.length := (List.getElem?_eq_some_iff.1 hv).1
          exact cell_of ho (by simpa [cellAt, List.getElem?_append_left hu'] using hv)
        have hfit := growslice_fits (need := k + m) (old := cap) (by omega) hsm
        rw [run_append_grow (P := P) w t ty e i z hu hi1 hi2 ⟨b, 0, none⟩ k cap xs (by rw [hc2, hi3]) hold ⟨b2, j2, none⟩ m sc cs (by rw [hl, hi3]) (fun u v hv => by rw [add_off]; exact hcell u v hv) (by omega) (by omega) (by rw [hi4]; exact hfit)]
        have hge := grownCap_ge w (k + m) cap e
        generalize grownCap w (k + m) cap e = nc at hge
        refine hK _ _ ((kk w.heap.size nc).go _ _ (ha.put d _ hd) (hw.renew (.cells (xs.toArray ++ cs.toArray ++ Builtin.zeroCells z.cells (nc - (k + m))) e) (hup _ _) ?_ rfl rfl rfl rfl))
        refine ⟨(Builtin.zeroCells z.cells (nc - (k + m))).toList, by simp, ?_, by rw [List.length_append, hc2, hl, Nat.add_mul], hge⟩
        have h8 : (Builtin.zeroCells z.cells (nc - (k + m))).size = (nc - (k + m)) * sz := by simp [Builtin.zeroCells, hzz]
        simp only [List.length_append, Array.length_toList, h8, hc2, hl, ← Nat.add_mul]
        congr 1
        omega⟩

/-- append onto nil -/
theorem JL.append_nil {z : Value} {ad : Option Addr} {sz by' m sc : Nat} (hu : P.underlying t = some (.slice e)) (hi : EI P e z sz by') (hx : ev E x = some (.slice none 0 0)) (hy : ev E y = some (.slice ad m sc))
    (hl : cs.length = m * sz) (hr : ∀ w, Holds w0 S M w → Reads w ad cs) (hm : 0 < m)
    (hzz : z.cells.size = sz) (h0 : 0 < sz) (hsm : m * by' ≤ 140737488355328) (hsm2 : m < 9223372036854775808) (hd : Nat.blt d n = true)
    (kk : ∀ b' cap', w0.heap.size ≤ b' → JL P n w0 S ops Q l ((d, .slice (some ⟨b', 0, none⟩) m cap') :: E) (⟨b', Own e sz m cap' cs, true⟩ :: M)) : JL P n w0 S ops Q (⟨some d, .call ⟨.builtin .append, #[x, y], #[t, t]⟩, ty, pos, aft, none⟩ :: l) E M :=
  ⟨fun a w ha hw => wpList_plain rfl fun K hK => by
    obtain ⟨i, hi1, hi2, hi3, hi4⟩ := hi.get
    have hru := hr w hw
    unfold Oper.wp
    simp only [execOp, resolve, invoke, builtin, Sem.run_bind, Sem.run_pure, Result.andThen_ok, List.map_toArray, List.map_cons, List.map_nil, ha.eval hx, ha.eval hy]
    have hpos : 0 < cs.length := by rw [hl]; exact Nat.mul_pos hm h0
    obtain ⟨b2, j2, rfl, hcell⟩ := hru.at hpos
    rw [run_append_nil (P := P) w t ty e i z hu hi1 hi2 ⟨b2, j2, none⟩ m sc cs (by rw [hl, hi3]) (fun u v hv => by rw [add_off]; exact hcell u v hv) hm (by omega) (by rw [hi4]; omega)]
    have hge := grownCap_ge w m 0 e
    generalize grownCap w m 0 e = nc at hge
    refine hK _ _ ((kk w.heap.size nc hw.chg.size).go _ _ (ha.put d _ hd) (hw.push (.cells (cs.toArray ++ Builtin.zeroCells z.cells (nc - m)) e) ?_ rfl rfl rfl rfl))
    refine ⟨(Builtin.zeroCells z.cells (nc - m)).toList, by simp, ?_, hl, hge⟩
    have h8 : (Builtin.zeroCells z.cells (nc - m)).size = (nc - m) * sz := by simp [Builtin.zeroCells, hzz]
    simp only [List.length_append, Array.length_toList, h8, hl, ← Nat.add_mul]
    congr 1
    omega⟩

/-! ### a region whose order is open, order by order -/
structure JA (P : Program) (n : Nat) (w0 : World) (S : List Nat) (ops : Array Oper) (Q : Exit → Act → World → Prop) (f : Nat) (done : Array Bool) (E : Env) (M : List Ent) : Prop where
  go : ∀ a w, Knows n E a → Holds w0 S M w → wpAny P .any ops Q f done a w
theorem wpOp_of_list {Q : Exit → Act → World → Prop} {K : Act → World → Prop} {i : Nat} {o : Oper} {a : Act} {w : World} (ho : ops[i]? = some o) (h : wpList P ops (Exit.then K Q) [o] a w) : wpOp P ops Q i K a w := by
  unfold wpOp
  simp only [ho]
  unfold wpList at h
  split
  · rename_i hw
    rw [if_pos hw] at h
    rcases h with h | h
    · left
      unfold Oper.wp Oper.upon at h ⊢
      generalize (execOp a.eval o).run P w = r at h ⊢
      cases r with
      | ok nx w' => cases nx <;> first | exact h | (refine Calls.mono h ?_; rintro (v | c | _) w'' hh <;> exact hh)
      | halt x w' => cases x <;> exact h
    · exact .inr h
  · rename_i hw
    rw [if_neg hw] at h
    exact h
theorem JC.any {id : Nat} {l : List Oper} (hm : P.follows .mixedOrders = true) (h : JA P n w0 S l.toArray Q l.toArray.size (Array.replicate l.toArray.size false) E M) : JC P n w0 S Q (.region id l.toArray true) E M :=
  ⟨fun a _ ha hw => wp_region_any hm (h.go a _ ha (hw.drawn _))⟩
theorem JA.step {f : Nat} {done : Array Bool} {L : List Nat} (hr : Region.ready .any ops done = L) (hne : L.isEmpty = false) (h : ∀ i ∈ L, ∃ o, ops[i]? = some o ∧ JL P n w0 S ops (Exit.then (fun a' w' => wpAny P .any ops Q f (done.setIfInBounds i true) a' w') Q) [o] E M) :
    JA P n w0 S ops Q (f + 1) done E M :=
  ⟨fun a w ha hw => ⟨fun h0 => (by rw [hr] at h0; subst h0; cases hne), fun i hi => by
    obtain ⟨o, ho, hj⟩ := h i (hr ▸ hi)
    exact wpOp_of_list ho (hj.go a w ha hw)⟩⟩
theorem JA.done {done : Array Bool} (hr : Region.ready .any ops done = []) (h : JE n w0 S Q .normal E M) : JA P n w0 S ops Q 0 done E M := ⟨fun a w ha hw => ⟨hr, h.go a w ha hw⟩⟩
theorem JE.any {f : Nat} {done : Array Bool} (h : JA P n w0 S ops Q f done E M) : JE n w0 S (Exit.then (fun a' w' => wpAny P .any ops Q f done a' w') Q) .normal E M := ⟨h.go⟩
theorem each_cons {p : Nat → Prop} {i : Nat} {L : List Nat} (h : p i) (k : ∀ i ∈ L, p i) : ∀ j ∈ i :: L, p j := by
  intro j hj
  simp only [List.mem_cons] at hj
  rcases hj with rfl | hj
  · exact h
  · exact k j hj
theorem each_nil {p : Nat → Prop} : ∀ j ∈ ([] : List Nat), p j := by intro j hj; cases hj

/-! ### where ways meet again -/
theorem JC.mid {ι : Type} (Ei : ι → Env) (Mi : ι → List Ent) (I : ι → Prop) {p q : Code} (h : JC P n w0 S (Exit.then (fun a' w' => ∃ i, I i ∧ Knows n (Ei i) a' ∧ Holds w0 S (Mi i) w') Q) p E M)
    (k : ∀ i, I i → JC P n w0 S Q q (Ei i) (Mi i)) : JC P n w0 S Q (.seq p q) E M :=
  ⟨fun a w ha hw => wp_seq (wp_mono (h.go a w ha hw) fun e a' w' he => by
    cases e with
    | normal => obtain ⟨i, hi, h1, h2⟩ := he; exact (k i hi).go a' w' h1 h2
    | exit _ => exact he
    | goto _ => exact he
    | ret => exact he
    | panic _ => exact he
    | outgrown => exact he)⟩
theorem JC.join {ι : Type} (Ei : ι → Env) (Mi : ι → List Ent) (I : ι → Prop) {p q : Code} {Q' : Exit → Act → World → Prop} (h : JC P n w0 S (Exit.then (fun a' w' => ∃ i, I i ∧ Knows n (Ei i) a' ∧ Holds w0 S (Mi i) w') Q) p E M)
    (k : ∀ i, I i → JC P n w0 S Q' q (Ei i) (Mi i)) : JC P n w0 S (Exit.then (q.wp P Q') Q) p E M :=
  ⟨fun a w ha hw => wp_mono (h.go a w ha hw) fun e a' w' he => by
    cases e with
    | normal => obtain ⟨i, hi, h1, h2⟩ := he; exact (k i hi).go a' w' h1 h2
    | exit _ => exact he
    | goto _ => exact he
    | ret => exact he
    | panic _ => exact he
    | outgrown => exact he⟩
theorem JE.mid {ι : Type} {Ei : ι → Env} {Mi : ι → List Ent} {I : ι → Prop} (i : ι) (hi : I i) (hE : SubE E (Ei i)) (hM : Less (Mi i) M) :
    JE n w0 S (Exit.then (fun a' w' => ∃ i, I i ∧ Knows n (Ei i) a' ∧ Holds w0 S (Mi i) w') Q) .normal E M :=
  ⟨fun _ _ ha hw => ⟨i, hi, ha.sub hE, hw.weak hM⟩⟩
end
end Sl
end Go.Proofs.Ytbihfhkbkcplmaa
