/-
  Of no statement by itself: rules for writes into a slice of the function's own (stores of whole elements, copy, clear), for calls that write what came in, for function values of a pair, and for slices.overlaps; over partial knowledge, for any program P.
  Conditions: each rule's own hypotheses.
-/
import Derived.Test.YtkadoibacliepaaSlap
import Derived.Test.YtkadoibacliepaaSlfv
import Derived.Lib.Overlaps
namespace Go.Proofs.Ytkadoibacliepaa
set_option maxRecDepth 10000
namespace Sl
section
variable {w0 w w' : World} {S : List Nat} {X Y M M0 : List Ent}
theorem less_two {A B C D : List Ent} (h : Less A B) (k : Less C D) : Less (A ++ C) (B ++ D) := by
  induction h with
  | nil N =>
    induction N with
    | nil => exact k
    | cons e N ih => exact .drop _ _ _ ih
  | keep b A A' wr N N' h _ ih => exact .keep b A A' wr _ _ h ih
  | drop e N N' _ ih => exact .drop e _ _ ih
def keys (X : List Ent) : List Nat := X.map Ent.b
/-- what came in writable is one's own from here on, all else is read -/
theorem Holds.own (h : Holds w0 S (X ++ M0) w) : Holds w (keys X) (X ++ cold M0) w := by
  refine ⟨Chg.refl _ _, ?_, fun e he => ?_⟩
  · have : (X ++ cold M0).map Ent.b = (X ++ M0).map Ent.b := by simp [cold, Function.comp_def]
    rw [this]; exact h.nodup
  · rcases List.mem_append.1 he with he | he
    · exact ⟨(h.all e (List.mem_append_left _ he)).1, fun _ => .inl (List.mem_map_of_mem he)⟩
    · obtain ⟨q, hq, rfl⟩ := List.mem_map.1 he
      exact ⟨(h.all q (List.mem_append_right _ hq)).1, nofun⟩
theorem Holds.swapW (h : Holds w0 S (X ++ M0) w) (h2 : Holds w (keys X) Y w') (hX : ∀ e ∈ X, e.wr = true) (hY : ∀ e ∈ Y, e.wr = true) : Holds w0 S (Y ++ M0) w' := by
  have hs : ∀ k ∈ keys X, k ∈ S ∨ w0.heap.size ≤ k := fun k hk => by
    obtain ⟨e, he, rfl⟩ := List.mem_map.1 hk
    exact (h.all e (List.mem_append_left _ he)).2 (hX e he)
  have hnd := h.nodup
  rw [List.map_append, List.nodup_append] at hnd
  refine ⟨⟨h2.chg.os.trans h.chg.os, h2.chg.tape.trans h.chg.tape, h2.chg.output.trans h.chg.output, Nat.le_trans h.chg.size h2.chg.size, fun k hk hS => ?_⟩, ?_, fun e he => ?_⟩
  · refine (h2.chg.block k (Nat.lt_of_lt_of_le hk h.chg.size) fun hm => ?_).trans (h.chg.block k hk hS)
    rcases hs k hm with h | h
    · exact hS h
    · omega
  · rw [List.map_append, List.nodup_append]
    refine ⟨h2.nodup, hnd.2.1, fun a ha b hb e => ?_⟩
    subst e
    obtain ⟨e1, he1, rfl⟩ := List.mem_map.1 ha
    obtain ⟨e2, he2, hb2⟩ := List.mem_map.1 hb
    rcases (h2.all e1 he1).2 (hY e1 he1) with hk | hk
    · exact hnd.2.2 _ hk _ hb rfl
    · have := h.lt (List.mem_append_right X he2)
      omega
  · rcases List.mem_append.1 he with he | he
    · refine ⟨(h2.all e he).1, fun hw => ?_⟩
      rcases (h2.all e he).2 hw with hk | hk
      · exact hs _ hk
      · exact .inr (Nat.le_trans h.chg.size hk)
    · obtain ⟨⟨o, ho, hA⟩, hw⟩ := h.all e (List.mem_append_right X he)
      refine ⟨⟨o, (h2.chg.block e.b (h.lt (List.mem_append_right X he)) fun hm => ?_).trans ho, hA⟩, hw⟩
      exact hnd.2.2 _ hm _ (List.mem_map_of_mem he) rfl
end
section
variable {P : Program} {n : Nat} {w0 : World} {S : List Nat} {ops : Array Oper} {Q : Exit → Act → World → Prop} {l : List Oper} {E : Env} {M M' : List Ent} {C : World → Prop}
variable {dst : Option Tmp} {d b j : Nat} {op : Op} {t t' ty e : TypeId} {pos : String} {aft : Array Edge} {g : Option (Nat × Bool)} {x y : Operand} {cs : List Value}
/-- a call that writes what came in: X becomes one of the Yf -/
theorem JL.callW {ι : Type} {X M0 : List Ent} (vf : ι → Value) (Yf : ι → List Ent) {f : FuncId} {xs : List Operand} {ats : Array TypeId} {vs : List Value} (hg : Goes P f) (hx : evs E xs = some vs) (hd : Nat.blt d n = true) (hX : ∀ e ∈ X, e.wr = true) (hY : ∀ i, ∀ e ∈ Yf i, e.wr = true)
    (hc : ∀ w, Holds w (keys X) (X ++ cold M0) w → Calls P f vs.toArray w fun e w' => ∃ i, e = .returned (vf i) ∧ Holds w (keys X) (Yf i) w')
    (k : ∀ i, JL P n w0 S ops Q l ((d, vf i) :: E) (Yf i ++ M0)) : JL P n w0 S ops Q (⟨some d, .call ⟨.value (.func f), xs.toArray, ats⟩, ty, pos, aft, none⟩ :: l) E (X ++ M0) :=
  JL.call (ι := ι) vf (fun i => Yf i ++ M0) hg hx hd (fun w hw => (hc w hw.own).mono fun _ _ ⟨i, h1, h2⟩ => ⟨i, h1, hw.swapW h2 hX (hY i)⟩) k
/-- a whole element of one's own slice -/
theorem JL.storeO {k cap i sz o : Nat} {xs xs' : List Value} (hz : szT P t = some sz) (hx : ev E x = some (.pointer (some ⟨b, o, none⟩))) (ho : o = i * sz) (hy : ev E y = some (.agg cs.toArray)) (hl : cs.length = sz) (hv : cs.all Value.oneCell' = true)
    (hu : Upd M b (Own e sz k cap xs) (Own e sz k cap xs') M') (hi : i < k) (he : xs.take (i * sz) ++ cs ++ xs.drop (i * sz + sz) = xs') (hk : JL P n w0 S ops Q l E M') : JL P n w0 S ops Q (⟨none, .store t x y, ty, pos, aft, none⟩ :: l) E M := by
  subst ho
  refine JL.store_agg hz hx hy hl hv hu (fun ob hob => ?_) hk
  obtain ⟨sp, rfl, h1, h2, h3⟩ := hob
  have hm : i * sz + sz ≤ xs.length := by rw [h2, ← Nat.succ_mul]; exact Nat.mul_le_mul_right _ hi
  have hxl : xs'.length = xs.length := by rw [← he]; simp; omega
  refine ⟨xs ++ sp, e, rfl, by rw [List.length_append]; omega, sp, ?_, by rw [List.length_append] at h1 ⊢; omega, by omega, h3⟩
  rw [← he, hl]
  rw [List.take_append_of_le_length (by omega), List.drop_append_of_le_length (by omega)]
  simp
theorem copyO_run {t' : TypeId} {w : World} {ad : Option Addr} {dl dc sl sc sz m : Nat} {r : List Value} (hu : P.underlying t = some (.slice e)) (hz : szT P e = some sz) (ho : w.heap[b]? = some (.cells r.toArray ty (0, 0)))
    (hm : min sl dl = m) (hl : cs.length = m * sz) (hr : Reads w ad cs) (h1 : ∀ v ∈ cs, v.oneCell' = true) (hj : j + m * sz ≤ r.length) :
    ∃ w', (Builtin.copy_ #[t, t'] 0 #[.slice (some ⟨b, j, none⟩) dl dc, .slice ad sl sc]).run P w = .ok (N m) w' ∧ w'.heap[b]? = some (.cells (r.take j ++ cs ++ r.drop (j + m * sz)).toArray ty (0, 0)) ∧ w'.heap.size = w.heap.size ∧
      (∀ k, k ≠ b → w'.heap[k]? = w.heap[k]?) ∧ w'.os = w.os ∧ w'.tape = w.tape ∧ w'.output = w.output := by
  obtain ⟨w', r1, r2, r3, r4, r5, r6, r7⟩ := storeCells_run (P := P) (b := b) (j := j) (e := ty) cs 0 w r h1 ho (by omega)
  refine ⟨w', ?_, by rw [hl] at r2; simpa using r2, r3, r4, r5, r6, r7⟩
  have h3 : (underlying t).run P w = .ok (.slice e) w := run_underlying hu w
  have h4 := firstCells_run (P := P) (m := m) (sz := sz) (c := sc) hl hr sl
  have h5 : Nat.min sl dl = m := hm
  simp only [Builtin.copy_, Sem.run_bind, Sem.run_pure, h3, Result.andThen_ok, Builtin.lenOf, sizeOf_run hz, List.getElem?_toArray, List.getElem?_cons_zero, List.getElem?_cons_succ]
  rw [h5, h4]
  simp only [Result.andThen_ok, r1]
  rfl
/-- copy into a block of one's own (the cells that are copied may be the block's own too) -/
theorem JL.copyO {t' : TypeId} {ad : Option Addr} {dl dc sl sc sz m : Nat} {A A' : Obj → Prop} {M' : List Ent} (hu : P.underlying t = some (.slice e)) (hz : szT P e = some sz) (hx : ev E x = some (.slice (some ⟨b, j, none⟩) dl dc)) (hy : ev E y = some (.slice ad sl sc))
    (hup : Upd M b A A' M') (hm : min sl dl = m) (hl : cs.length = m * sz) (hr : ∀ w, Holds w0 S M w → Reads w ad cs) (h1 : ∀ v ∈ cs, v.oneCell' = true) (hA : ∀ o, A o → ∃ r te, o = .cells (List.toArray r) te (0, 0) ∧ j + m * sz ≤ r.length ∧ A' (.cells (r.take j ++ cs ++ r.drop (j + m * sz)).toArray te (0, 0))) (hd : Nat.blt d n = true)
    (k : JL P n w0 S ops Q l ((d, N m) :: E) M') : JL P n w0 S ops Q (⟨some d, .call ⟨.builtin .copy, #[x, y], #[t, t']⟩, ty, pos, aft, none⟩ :: l) E M :=
  ⟨fun a w ha hw => wpList_plain rfl fun K hK => by
    obtain ⟨o, ho, hAo⟩ := hw.get hup.has
    obtain ⟨r, te, rfl, hj, hA'⟩ := hA o hAo
    obtain ⟨w', r1, r2, r3, r4, r5, r6, r7⟩ := copyO_run (P := P) (t' := t') (dc := dc) (sc := sc) (ty := te) hu hz ho hm hl (hr w hw) h1 hj
    have r1' : (Builtin.copy_ #[t, t'] ty #[.slice (some ⟨b, j, none⟩) dl dc, .slice ad sl sc]).run P w = .ok (N m) w' := r1
    unfold Oper.wp
    simp only [execOp, resolve, invoke, builtin, Sem.run_bind, Sem.run_pure, Result.andThen_ok, List.map_toArray, List.map_cons, List.map_nil, ha.eval hx, ha.eval hy, r1']
    exact hK _ _ (k.go _ _ (ha.put d _ hd) (hw.write hup hA' r2 r3 r4 r5 r6 r7))⟩
/-- clear of a part of one's own slice: what is there is made anew, all that lies ahead of it stays -/
theorem JL.clearO {z : Value} {by' sz k lo cap : Nat} {xs : List Value} (hu : P.underlying t = some (.slice e)) (hi : EI P e z sz by') (hzz : z.cells.size = sz) (hz1 : ∀ v ∈ z.cells.toList, v.oneCell' = true) (h0 : 0 < sz)
    (hx : ev E x = some (.slice (if cap = lo then some ⟨b, 0, none⟩ else (some ⟨b, 0, none⟩ : Option Addr).map (·.add (lo * sz))) (k - lo) (cap - lo))) (hlo : lo ≤ k)
    (hup : Upd M b (Own e sz k cap xs) (Own e sz lo cap (xs.take (lo * sz))) M') (hk : JL P n w0 S ops Q l E M') : JL P n w0 S ops Q (⟨none, .call ⟨.builtin .clear, #[x], #[t]⟩, ty, pos, aft, none⟩ :: l) E M :=
  ⟨fun a w ha hw => wpList_plain rfl fun K hK => by
    obtain ⟨o, ho, sp, rfl, h1, h2, h3⟩ := hw.get hup.has
    obtain ⟨i, hi1, hi2, hi3, hi4⟩ := hi.get
    have hu3 : (underlying t).run P w = .ok (.slice e) w := run_underlying hu w
    have hzv : (zeroValue e).run P w = .ok z w := by simp [zeroValue, typeInfo, Sem.run_bind, hi1, hi2]
    unfold Oper.wp
    by_cases hkl : k - lo = 0
    · have hke : lo = k := by omega
      have hrun : (Builtin.clear_ #[t] ty #[a.eval x]).run P w = .ok (.tuple #[]) w := by
        rw [ha.eval hx, hkl]
        simp only [Builtin.clear_, List.getElem?_toArray, List.getElem?_cons_zero, Sem.run_bind, hu3, Result.andThen_ok]
        split <;> simp_all
      simp only [execOp, resolve, invoke, builtin, Sem.run_bind, Sem.run_pure, Result.andThen_ok, List.map_toArray, List.map_cons, List.map_nil, hrun]
      refine hK _ _ (hk.go _ _ (ha.put_none _) (hw.write hup (o' := .cells (xs ++ sp).toArray e (0, 0)) ?_ ho rfl (fun _ _ => rfl) rfl rfl rfl))
      refine ⟨sp, ?_, ?_, ?_, by omega⟩
      · rw [List.take_of_length_le (by rw [h2, hke]; exact Nat.le_refl _)]
      · rw [List.take_of_length_le (by rw [h2, hke]; exact Nat.le_refl _)]; exact h1
      · rw [List.take_of_length_le (by rw [h2, hke]; exact Nat.le_refl _), h2, hke]
    · have hc : ¬ cap = lo := by omega
      have hzc : (Builtin.zeroCells z.cells (k - lo)).size = (k - lo) * sz := by simp [Builtin.zeroCells, hzz]
      have hle : lo * sz + (k - lo) * sz = xs.length := by rw [h2, ← Nat.add_mul]; congr 1; omega
      obtain ⟨w', r1, r2, r3, r4, r5, r6, r7⟩ := storeCells_run (P := P) (b := b) (j := lo * sz) (e := e) (Builtin.zeroCells z.cells (k - lo)).toList 0 w (xs ++ sp) (fun v hv => by
        obtain ⟨q, hq, rfl⟩ : ∃ a, a < (k - lo) * z.cells.size ∧ z.cells[a % z.cells.size]! = v := by simpa [Builtin.zeroCells] using hv
        have hlt : q % z.cells.size < z.cells.size := Nat.mod_lt _ (by omega)
        rw [getElem!_pos z.cells _ hlt]
        exact hz1 _ (by simp)) ho (by rw [List.length_append, Array.length_toList, hzc]; omega)
      have hrun : (Builtin.clear_ #[t] ty #[a.eval x]).run P w = .ok (.tuple #[]) w' := by
        rw [ha.eval hx, if_neg hc]
        simp only [Builtin.clear_, List.getElem?_toArray, List.getElem?_cons_zero, Sem.run_bind, hu3, Result.andThen_ok, Option.map_some, add_off, Nat.zero_add]
        obtain ⟨m, hm⟩ : ∃ m, k - lo = m + 1 := ⟨k - lo - 1, by omega⟩
        rw [hm] at r1 ⊢
        simp only [Sem.run_bind, hzv, Result.andThen_ok, r1]
        rfl
      simp only [execOp, resolve, invoke, builtin, Sem.run_bind, Sem.run_pure, Result.andThen_ok, List.map_toArray, List.map_cons, List.map_nil, hrun]
      refine hK _ _ (hk.go _ _ (ha.put_none _) (hw.write hup ?_ r2 r3 r4 r5 r6 r7))
      have hzl : (Builtin.zeroCells z.cells (k - lo)).toList.length = (k - lo) * sz := by rw [Array.length_toList, hzc]
      rw [Nat.add_zero, hzl, List.take_append_of_le_length (by omega), hle, List.drop_left]
      generalize (Builtin.zeroCells z.cells (k - lo)).toList = zs at hzl ⊢
      refine ⟨zs ++ sp, by rw [List.append_assoc], ?_, by rw [List.length_take]; rw [Nat.min_eq_left (by omega)], by omega⟩
      rw [List.length_append] at h1
      simp only [List.length_append, List.length_take]
      rw [Nat.min_eq_left (by omega)]
      omega⟩
theorem hi_slice {b hi cap : Nat} : Value.slice (if cap = 0 then some ⟨b, 0, none⟩ else (some ⟨b, 0, none⟩ : Option Addr).map (·.add 0)) hi cap = .slice (some ⟨b, 0, none⟩) hi cap := by
  split <;> simp [Addr.add]
/-- what a block's entry tells may be used -/
theorem JL.capIs {A : Obj → Prop} {wr : Bool} {F : Prop} (hM : Has M b A wr) (hA : ∀ o, A o → F) (k : F → JL P n w0 S ops Q l E M) : JL P n w0 S ops Q l E M :=
  ⟨fun a w ha hw => by obtain ⟨o, _, h⟩ := hw.get hM; exact (k (hA o h)).go a w ha hw⟩
theorem JC.capIs {A : Obj → Prop} {wr : Bool} {F : Prop} {c : Code} (hM : Has M b A wr) (hA : ∀ o, A o → F) (k : F → JC P n w0 S Q c E M) : JC P n w0 S Q c E M :=
  ⟨fun a w ha hw => by obtain ⟨o, _, h⟩ := hw.get hM; exact (k (hA o h)).go a w ha hw⟩
/-! ### function values of a pair -/
/-- in worlds of C, for pairs of D, it answers p, and keeps all blocks -/
def FunP (P : Program) (C : World → Prop) (D : Pr → Prop) (fv : Value) (p : Pr → Bool) : Prop :=
  ∃ (f : FuncId) (caps : List Value), fv = .func (.func f) #[] caps.toArray ∧ Goes P f ∧ ∀ (c : Pr) (w : World), D c → C w → Calls P f (.agg (pc c).toArray :: caps).toArray w fun e w' => e = .returned (.bool (p c)) ∧ Ext w w'
theorem OQ.callP {D : Pr → Prop} {fv : Value} {p : Pr → Bool} {c : Pr} {r : Bool} (hF : FunP P C D fv p) (hD : D c) (hC : ∀ w, Holds w0 S M w → C w) (hx : ev E x = some fv) (hy : ev E y = some (.agg (pc c).toArray)) (h : p c = r) {ats : Array TypeId} : OQ P n E (Holds w0 S M) ⟨dst, .call ⟨.value x, #[y], ats⟩, ty, pos, aft, g⟩ (.bool r) := by
  obtain ⟨f, caps, h1, h2, h3⟩ := hF
  subst h1
  refine ⟨fun a hk w hw => ?_⟩
  have hy' : evs E [y] = some [.agg (pc c).toArray] := by simp [evs, hy]
  unfold Oper.quietAt
  rw [show (#[y] : Array Operand) = [y].toArray from rfl, exec_callv (xs := [y]) h2 hk hx hy' w]
  refine ⟨rfl, (h3 c w hD (hC w hw)).mono fun e w' ⟨k1, k2⟩ => ⟨?_, hw.ext k2⟩⟩
  rw [k1, h]
theorem OQ.capS {ad : Option Addr} {k cap : Nat} (hu : P.underlying t = some (.slice e)) (hx : ev E x = some (.slice ad k cap)) : OQ P n E C ⟨dst, .call ⟨.builtin .cap, #[x], #[t]⟩, ty, pos, aft, g⟩ (N cap) :=
  OQ.run fun a hk w _ => by
    have h1 := hk.eval hx
    have h3 : (underlying t).run P w = .ok (.slice e) w := run_underlying hu w
    simp [execOp, h1, resolve, invoke, builtin, Builtin.cap_, Sem.run_bind, h3, goInt]
/-! ### slices.overlaps of two blocks -/
structure IsLap (P : Program) (f : FuncId) (tS tR : TypeId) : Prop where
  go : ∃ fn, P.funcs[f]? = some fn ∧ (fn.name == "runtime.NumGoroutine") = false ∧ fn.body.isNone = true ∧ Extern.findNext fn = none ∧ Extern.find fn = some (Extern.SlicesOverlaps.overlaps #[tS, tS] #[tR])
theorem OQ.lap {f : FuncId} {tS tR : TypeId} {ats : Array TypeId} {sz b1 b2 o2 la ca lb cb : Nat} {A1 A2 : Obj → Prop} {wr1 wr2 : Bool} (hf : IsLap P f tS tR) (hu : P.underlying tS = some (.slice e)) (hz : szT P e = some sz) (hx : ev E x = some (.slice (some ⟨b1, 0, none⟩) la ca)) (hy : ev E y = some (.slice (some ⟨b2, o2, none⟩) lb cb))
    (h1 : Has M b1 A1 wr1) (h2 : Has M b2 A2 wr2) (hA1 : ∀ o, A1 o → ∃ c te, o = .cells c te (0, 0)) (hA2 : ∀ o, A2 o → ∃ c te, o = .cells c te (0, 0) ∧ c.size ≠ 0) (hne : ∀ w, Holds w0 S M w → b1 ≠ b2) :
    OQ P n E (Holds w0 S M) ⟨dst, .call ⟨.value (.func f), #[x, y], ats⟩, ty, pos, aft, g⟩ (.bool false) := by
  refine OQ.run fun ac hk w hw => ?_
  obtain ⟨fn, g1, g2, g3, g4, g5⟩ := hf.go
  obtain ⟨q1, p1, r1⟩ := hw.get h1
  obtain ⟨q2, p2, r2⟩ := hw.get h2
  obtain ⟨c1, te1, rfl⟩ := hA1 _ r1
  obtain ⟨c2, te2, rfl, hc2⟩ := hA2 _ r2
  have r := run_callFunc_extern g1 g2 g3 g4 g5 #[.slice (some ⟨b1, 0, none⟩) la ca, .slice (some ⟨b2, o2, none⟩) lb cb] w
  rw [Lib.run_overlaps_apart w tS tR e hu sz (fun w => sizeOf_run hz w) ⟨b1, 0, none⟩ ⟨b2, o2, none⟩ la ca lb cb (hne w hw) te1 te2 c1.size c2.size (by simp [World.shape?, p1]) (by simp [World.shape?, p2]) hc2 (by simp [World.frozen?, p1]) (by simp [World.frozen?, p1])] at r
  simp only [Result.andThen] at r
  have e1 := hk.eval hx
  have e2 := hk.eval hy
  simp only [execOp, resolve, Sem.run_bind, Sem.run_pure, Result.andThen_ok, List.map_toArray, List.map_cons, List.map_nil, e1, e2]
  simpa [Act.eval, Deferred.ofValue, invoke, Sem.run_bind] using r
end
end Sl
end Go.Proofs.Ytkadoibacliepaa
