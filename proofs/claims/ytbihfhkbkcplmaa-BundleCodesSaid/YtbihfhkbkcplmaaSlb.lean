/-
  Of no statement by itself: rules for code, regions (also those whose order Go leaves open), loops, calls and returns, over X's partial knowledge of frame and memory, for any program P.
  Conditions: each rule's own hypotheses.
-/
import Derived.Test.YtbihfhkbkcplmaaSl
import Derived.Tactics2
namespace Go.Proofs.Ytbihfhkbkcplmaa
namespace Sl

/-! ### a region whose order is open: quiet operations first, then a chain -/
section
variable {P : Program} {md : Region.Mode} {ops : Array Oper} {C : World → Prop} {n : Nat}
def anyT (P : Program) (md : Region.Mode) (ops : Array Oper) (C : World → Prop) (n : Nat) (L : Array Bool → Act → Prop) : Nat → Array Bool → Act → Prop
  | 0, done, a => L done a
  | f + 1, done, a => Region.ready md ops done ≠ [] ∧ ∀ i ∈ Region.ready md ops done, i < n ∧ qOp P ops C i (anyT P md ops C n L f (done.setIfInBounds i true)) a

theorem any_of_anyT {g : Nat} {L : Array Bool → Act → Prop} {Q : Exit → Act → World → Prop} (hL : ∀ done a w, C w → L done a → wpAny P md ops Q g done a w) :
    ∀ (f : Nat) (done : Array Bool) (a : Act) (w : World), C w → anyT P md ops C n L f done a → wpAny P md ops Q (f + g) done a w
  | 0, done, a, w, hw, h => by rw [Nat.zero_add]; exact hL _ _ _ hw h
  | f + 1, done, a, w, hw, h => by
    rw [show f + 1 + g = (f + g) + 1 by omega]
    exact ⟨fun h0 => absurd h0 h.1, fun i hi => wpOp_of_qOp hw (fun a' w' hw' h' => any_of_anyT hL f _ a' w' hw' h') (h.2 i hi).2⟩

theorem anyT_first {i : Nat} {oi : Oper} {v : Value} {L : Array Bool → Act → Prop} (hi : ops[i]? = some oi) (hsel : ∀ (j : Nat) (o : Oper) cs b, ops[j]? = some o → o.op ≠ .select cs b)
    (hs : Region.sinkB md ops n = true) (hc : Region.chainB md ops n = true) (hn : n < ops.size) (hin : i < n)
    (hend : ∀ done a, L done a → ∀ j ∈ Region.ready md ops done, n ≤ j) :
    ∀ (f : Nat) (done : Array Bool) (a : Act), HeadInv md ops n done →
      (∀ j oj, ops[j]? = some oj → j ≠ i → done.getD j true = false → (∀ e ∈ oj.after, Region.binds md e = true → e.on ≠ i) → oi.apart ops oj = true) →
      i ∈ Region.ready md ops done → YieldsIn P ops C oi v a →
      anyT P md ops C n L f (done.setIfInBounds i true) (a.put oi.dst v) → anyT P md ops C n L (f + 1) done a := by
  intro f
  induction f with
  | zero =>
    intro done a inv _ hr hy H
    have hun := (mem_ready.1 hr).1
    refine ⟨fun h => (by rw [h] at hr; cases hr), fun j hj => ?_⟩
    have hjn : j < n := Nat.lt_of_not_le fun h => tail_waits hs hc hn inv _ i rfl hin hun j h hj
    refine ⟨hjn, ?_⟩
    by_cases hji : j = i
    · subst hji; exact hy.qOp hi H
    · exact absurd (hend _ _ H j (ready_mono hj hji)) (by omega)
  | succ f ih =>
    intro done a inv hfree hr hy H
    have hun := (mem_ready.1 hr).1
    refine ⟨fun h => (by rw [h] at hr; cases hr), fun j hj => ?_⟩
    have hjn : j < n := Nat.lt_of_not_le fun h => tail_waits hs hc hn inv _ i rfl hin hun j h hj
    refine ⟨hjn, ?_⟩
    by_cases hji : j = i
    · subst hji; exact hy.qOp hi H
    · obtain ⟨hjun, oj, hoj, hall⟩ := mem_ready.1 hj
      have hnot : ∀ e ∈ oj.after, Region.binds md e = true → e.on ≠ i := fun e he hb heq => by
        have h1 := hall e he hb
        rw [heq, getD_both hun] at h1
        cases h1
      have h2 := qOp_put hoj (hfree j oj hoj hji hjun hnot) (fun cs b => hsel i oi cs b hi) (fun cs b => hsel j oj cs b hoj) hy (H.2 j (ready_mono hj hji)).2
      refine qOp_mono (fun a' h3 => ih (done.setIfInBounds j true) a' (inv.set hj hjn) (fun k ok hk hki hkun hno => hfree k ok hk hki ?_ hno) (ready_mono hr (Ne.symm hji)) h3.1 ?_) h2
      · by_cases hjk : j = k
        · subst hjk; exact hjun
        · rwa [getD_set_ne true hjk] at hkun
      · rw [Array.setIfInBounds_comm _ _ hji]
        exact h3.2

theorem anyT_lex {g : Nat} {Φ : Act → Prop} (hsel : Region.noSelect ops = true) (hs : Region.sinkB md ops n = true) (hc : Region.chainB md ops n = true) (hn : n < ops.size) :
    ∀ (l : List Oper) (k : Nat) (done : Array Bool) (a : Act), (∀ j, j < l.length → l[j]? = ops[k + j]?) → k + l.length = n → HeadInv md ops n done →
    Region.lexHead md ops g l.length k done = true → wpQuiet P ops C Φ l a →
    anyT P md ops C n (fun done' a' => Region.seqB md ops g n done' = true ∧ Φ a') l.length done a
  | [], k, done, a, _, hk, _, hB, h => by
    have : k = n := by simpa using hk
    subst this
    exact ⟨by simpa [Region.lexHead] using hB, h⟩
  | o :: l, k, done, a, hl, hk, inv, hB, h => by
    have h0 : ops[k]? = some o := by simpa using (hl 0 (by simp)).symm
    simp only [List.length_cons, Region.lexHead, Bool.and_eq_true] at hB
    obtain ⟨⟨hr, hf⟩, hB'⟩ := hB
    have hkn : k < n := by simp only [List.length_cons] at hk; omega
    have hr' : k ∈ Region.ready md ops done := by simpa using hr
    have hst : qOp P ops C k (wpQuiet P ops C Φ l) a := by unfold qOp; simp only [h0]; exact h
    obtain ⟨v, hy, hK⟩ := yieldsIn_of_qOp h0 hst
    exact anyT_first h0 (Region.noSelect_spec hsel) hs hc hn hkn (fun done' a' hL => seqB_ready hL.1) l.length done a inv (Region.free_spec h0 hf) hr' hy
      (anyT_lex hsel hs hc hn l (k + 1) _ _ (fun j hj => by have := hl (j + 1) (by simp; omega); simpa [Nat.add_assoc, Nat.add_comm 1 j] using this) (by simp only [List.length_cons] at hk; omega) (inv.set hr' hkn) hB' hK)

theorem wp_region_quiet_tail {id : Nat} {Q : Exit → Act → World → Prop} {a : Act} {w : World} {l : List Oper} (n : Nat) (hm : P.follows .mixedOrders = true) (hB : Region.lexTailB .any l.toArray n = true)
    (hC : C { w with drawn := w.drawn + 1 })
    (h : wpQuiet P l.toArray C (fun a' => ∀ w', C w' → wpList P l.toArray Q (l.drop n) a' w') (l.take n) a) : (Code.region id l.toArray true).wp P Q a w := by
  simp only [Region.lexTailB, Bool.and_eq_true, decide_eq_true_eq] at hB
  obtain ⟨⟨⟨⟨hsel, hn⟩, hs⟩, hc⟩, hlex⟩ := hB
  have hn' : n < l.length := by simpa using hn
  have htl : (l.take n).length = n := by simp; omega
  have hdl : (l.drop n).length = l.toArray.size - n := by simp
  have inv0 : HeadInv .any l.toArray n (Array.replicate l.toArray.size false) :=
    ⟨by simp, fun j oj _ hl => (by rw [getD_replicate_false] at hl; cases hl), fun t _ ht => getD_in (by simpa using ht) (getD_replicate_false _ _)⟩
  have H := anyT_lex (P := P) (C := C) (md := .any) (g := l.toArray.size - n) hsel hs hc hn (l.take n) 0 _ a (fun j hj => by
    have hj' : j < n := by rw [htl] at hj; exact hj
    simp [hj']) (by simpa using htl) inv0 (by rw [htl]; exact hlex) h
  refine wp_region_any hm ?_
  have := any_of_anyT (Q := Q) (g := l.toArray.size - n) (fun done a' w' hw' hL => by
    have := wpAny_of_seq (md := .any) (Q' := Q) (l.drop n) n done a' w' (fun j => by simp [List.getElem?_drop]) (by rw [hdl]; exact hL.1) (hL.2 w' hw')
    rwa [hdl] at this) _ _ _ _ hC H
  rw [htl, show n + (l.toArray.size - n) = l.toArray.size by omega] at this
  exact this
end

/-! ### the judgements -/
section
variable {P : Program} {n : Nat} {w0 : World} {S : List Nat} {ops : Array Oper} {Q Q' : Exit → Act → World → Prop} {l : List Oper} {E E' : Env} {M M' : List Ent}

structure JL (P : Program) (n : Nat) (w0 : World) (S : List Nat) (ops : Array Oper) (Q : Exit → Act → World → Prop) (l : List Oper) (E : Env) (M : List Ent) : Prop where
  go : ∀ a w, Knows n E a → Holds w0 S M w → wpList P ops Q l a w
structure JE (n : Nat) (w0 : World) (S : List Nat) (Q : Exit → Act → World → Prop) (e : Exit) (E : Env) (M : List Ent) : Prop where
  go : ∀ a w, Knows n E a → Holds w0 S M w → Q e a w
structure JC (P : Program) (n : Nat) (w0 : World) (S : List Nat) (Q : Exit → Act → World → Prop) (c : Code) (E : Env) (M : List Ent) : Prop where
  go : ∀ a w, Knows n E a → Holds w0 S M w → c.wp P Q a w
structure JQ (P : Program) (n : Nat) (w0 : World) (S : List Nat) (ops : Array Oper) (M : List Ent) (Φ : Act → Prop) (l : List Oper) (E : Env) : Prop where
  go : ∀ a, Knows n E a → wpQuiet P ops (Holds w0 S M) Φ l a

theorem JC.seq {x y : Code} (h : JC P n w0 S (Exit.then (y.wp P Q) Q) x E M) : JC P n w0 S Q (.seq x y) E M := ⟨fun a w ha hw => wp_seq (h.go a w ha hw)⟩
theorem JC.skip (h : JE n w0 S Q .normal E M) : JC P n w0 S Q .skip E M := ⟨fun a w ha hw => wp_skip (h.go a w ha hw)⟩
theorem JC.label {k : Nat} (h : JE n w0 S Q .normal E M) : JC P n w0 S Q (.label k) E M := ⟨fun a w ha hw => wp_label (h.go a w ha hw)⟩
theorem JC.exit {id : Nat} (h : JE n w0 S Q (.exit id) E M) : JC P n w0 S Q (.exit id) E M := ⟨fun a w ha hw => wp_exit (h.go a w ha hw)⟩
theorem JC.ret (h : JE n w0 S Q .ret E M) : JC P n w0 S Q .ret E M := ⟨fun a w ha hw => wp_ret (h.go a w ha hw)⟩
theorem JC.block {id : Nat} {c : Code} (h : JC P n w0 S (Exit.inBlock id Q) c E M) : JC P n w0 S Q (.block id c) E M := ⟨fun a w ha hw => wp_block (h.go a w ha hw)⟩
theorem JC.cond {c : Operand} {x y : Code} {t : Bool} (hc : ev E c = some (.bool t)) (ht : t = true → JC P n w0 S Q x E M) (hf : t = false → JC P n w0 S Q y E M) : JC P n w0 S Q (.cond c x y) E M :=
  ⟨fun a w ha hw => wp_cond_split (ha.eval hc) (fun h => (ht h).go a w ha hw) (fun h => (hf h).go a w ha hw)⟩
theorem JC.cond_true {c : Operand} {x y : Code} {t : Bool} (hc : ev E c = some (.bool t)) (h : t = true) (ht : JC P n w0 S Q x E M) : JC P n w0 S Q (.cond c x y) E M :=
  JC.cond hc (fun _ => ht) (fun h' => by rw [h] at h'; cases h')
theorem JC.cond_false {c : Operand} {x y : Code} {t : Bool} (hc : ev E c = some (.bool t)) (h : t = false) (hf : JC P n w0 S Q y E M) : JC P n w0 S Q (.cond c x y) E M :=
  JC.cond hc (fun h' => by rw [h] at h'; cases h') (fun _ => hf)
theorem JC.region {id : Nat} {l : List Oper} (h : JL P n w0 S l.toArray Q l E M) : JC P n w0 S Q (.region id l.toArray false) E M := ⟨fun a w ha hw => wp_region_lit (h.go a w ha hw)⟩
theorem JC.quiet {id : Nat} {l : List Oper} (hm : P.follows .mixedOrders = true) (hB : Region.lexB .any l.toArray = true)
    (h : JQ P n w0 S l.toArray M (fun a' => ∀ w', Holds w0 S M w' → Q .normal a' w') l E) : JC P n w0 S Q (.region id l.toArray true) E M :=
  ⟨fun a _ ha hw => wp_region_quiet hm hB (hw.drawn _) (by simpa using h.go a ha)⟩
theorem JC.tail {id : Nat} {l : List Oper} (m : Nat) (hm : P.follows .mixedOrders = true) (hB : Region.lexTailB .any l.toArray m = true)
    (h : JQ P n w0 S l.toArray M (fun a' => ∀ w', Holds w0 S M w' → wpList P l.toArray Q (l.drop m) a' w') (l.take m) E) : JC P n w0 S Q (.region id l.toArray true) E M :=
  ⟨fun a _ ha hw => wp_region_quiet_tail m hm hB (hw.drawn _) (h.go a ha)⟩
theorem JC.weak {c : Code} (h : JC P n w0 S Q c E' M') (hE : SubE E E') (hM : Less M' M) : JC P n w0 S Q c E M :=
  ⟨fun a w ha hw => h.go a w (ha.sub hE) (hw.weak hM)⟩
theorem JE.weak {e : Exit} (h : JE n w0 S Q e E' M') (hE : SubE E E') (hM : Less M' M) : JE n w0 S Q e E M :=
  ⟨fun a w ha hw => h.go a w (ha.sub hE) (hw.weak hM)⟩

/-- A loop, its rounds counted down by a measure; i ranges over what the heads of rounds know. -/
theorem JC.loop {ι : Type} (Ei : ι → Env) (Mi : ι → List Ent) (μ : ι → Nat) (I : ι → Prop) {c : Code} (i : ι) (hi : I i) (hE : SubE E (Ei i)) (hM : Less (Mi i) M)
    (h : ∀ i, I i → JC P n w0 S (Exit.then (fun a' w' => ∃ j, I j ∧ μ j < μ i ∧ Knows n (Ei j) a' ∧ Holds w0 S (Mi j) w') Q) c (Ei i) (Mi i)) : JC P n w0 S Q (.loop c) E M := by
  refine ⟨fun a w ha hw => ?_⟩
  have ha' := ha.sub hE
  have hw' := hw.weak hM
  clear ha hw hE hM
  have key : ∀ m i, μ i = m → I i → ∀ a w, Knows n (Ei i) a → Holds w0 S (Mi i) w → ∀ (b : Frame) (k : List Item) (cs : List Frame),
      ∃ e a' w', Q e a' w' ∧ Arrives P (lone (b.at a (.code c :: .inLoop c :: k)) cs w) b k cs e a' w' := by
    intro m
    induction m using Nat.strongRecOn with
    | _ m ih =>
      intro i hm hI a w ha hw b k cs
      obtain ⟨e, a₁, w₁, hq, harr⟩ := (h i hI).go a w ha hw b (.inLoop c :: k) cs
      cases e with
      | normal =>
        obtain ⟨j, hj, hlt, ha₁, hw₁⟩ := hq
        obtain ⟨e₂, a₂, w₂, hq₂, harr₂⟩ := ih (μ j) (hm ▸ hlt) j rfl hj a₁ w₁ ha₁ hw₁ b k cs
        exact ⟨e₂, a₂, w₂, hq₂, .of_steps (Steps.trans harr (.one step_inLoop)) harr₂⟩
      | exit id => exact ⟨_, a₁, w₁, hq, .pass (x := .inLoop c) rfl (fun _ _ => .inl (by simp)) harr⟩
      | goto l => exact ⟨_, a₁, w₁, hq, .pass (x := .inLoop c) rfl (fun _ _ => .inl (by simp)) harr⟩
      | ret => exact ⟨_, a₁, w₁, hq, .pass (x := .inLoop c) rfl (fun _ _ => .inl (by simp)) harr⟩
      | panic ch => exact ⟨_, a₁, w₁, hq, .pass (x := .inLoop c) rfl (fun _ _ => .inl (by simp)) harr⟩
      | outgrown => exact ⟨_, a₁, w₁, hq, .pass (x := .inLoop c) rfl (fun _ _ => .inl (by simp)) harr⟩
  intro b k cs
  obtain ⟨e, a', w', hq, harr⟩ := key _ i rfl hi a w ha' hw' b k cs
  exact ⟨e, a', w', hq, .of_steps (.one step_loop) harr⟩

theorem JE.next {y : Code} (h : JC P n w0 S Q' y E M) : JE n w0 S (Exit.then (y.wp P Q') Q) .normal E M := ⟨h.go⟩
theorem JE.again {ι : Type} {Ei : ι → Env} {Mi : ι → List Ent} {μ : ι → Nat} {I : ι → Prop} {i : ι} (j : ι) (hj : I j) (hμ : μ j < μ i) (hE : SubE E (Ei j)) (hM : Less (Mi j) M) :
    JE n w0 S (Exit.then (fun a' w' => ∃ j, I j ∧ μ j < μ i ∧ Knows n (Ei j) a' ∧ Holds w0 S (Mi j) w') Q) .normal E M :=
  ⟨fun _ _ ha hw => ⟨j, hj, hμ, ha.sub hE, hw.weak hM⟩⟩
theorem JE.then_exit {K : Act → World → Prop} {id : Nat} (h : JE n w0 S Q (.exit id) E M) : JE n w0 S (Exit.then K Q) (.exit id) E M := ⟨h.go⟩
theorem JE.then_ret {K : Act → World → Prop} (h : JE n w0 S Q .ret E M) : JE n w0 S (Exit.then K Q) .ret E M := ⟨h.go⟩
theorem JE.blk_normal {id : Nat} (h : JE n w0 S Q .normal E M) : JE n w0 S (Exit.inBlock id Q) .normal E M := ⟨h.go⟩
theorem JE.blk_ret {id : Nat} (h : JE n w0 S Q .ret E M) : JE n w0 S (Exit.inBlock id Q) .ret E M := ⟨h.go⟩
theorem JE.blk_hit {id : Nat} (h : JE n w0 S Q .normal E M) : JE n w0 S (Exit.inBlock id Q) (.exit id) E M := ⟨fun a w ha hw => by
  show (if id = id then Q .normal a w else _)
  rw [if_pos rfl]; exact h.go a w ha hw⟩
theorem JE.blk_miss {id id' : Nat} (hne : (id == id') = false) (h : JE n w0 S Q (.exit id) E M) : JE n w0 S (Exit.inBlock id' Q) (.exit id) E M := ⟨fun a w ha hw => by
  show (if id = id' then _ else Q (.exit id) a w)
  rw [if_neg (by simpa using hne)]; exact h.go a w ha hw⟩

theorem JL.nil (h : JE n w0 S Q .normal E M) : JL P n w0 S ops Q [] E M := ⟨h.go⟩
theorem JQ.nil (h : JE n w0 S Q .normal E M) : JQ P n w0 S ops M (fun a' => ∀ w', Holds w0 S M w' → Q .normal a' w') [] E := ⟨fun a ha w hw => h.go a w ha hw⟩
theorem JQ.nil_tail {l' : List Oper} (h : JL P n w0 S ops Q l' E M) : JQ P n w0 S ops M (fun a' => ∀ w', Holds w0 S M w' → wpList P ops Q l' a' w') [] E := ⟨fun a ha w hw => h.go a w ha hw⟩

variable {d : Nat} {op : Op} {ty : TypeId} {pos : String} {aft : Array Edge} {v : Value}
theorem JL.q (h : OQ P n E (Holds w0 S M) ⟨some d, op, ty, pos, aft, none⟩ v) (hd : Nat.blt d n = true) (k : JL P n w0 S ops Q l ((d, v) :: E) M) : JL P n w0 S ops Q (⟨some d, op, ty, pos, aft, none⟩ :: l) E M :=
  ⟨fun a _ ha hw => wpList_plain rfl fun _ hK => Oper.wp_of_quiet (C := Holds w0 S M) (K := fun a' => a' = a.put (some d) v) hw (fun _ _ hw' e => hK _ _ (e ▸ k.go _ _ (ha.put d v hd) hw')) ⟨v, h.go a ha, rfl⟩⟩
theorem JQ.q {Φ : Act → Prop} (h : OQ P n E (Holds w0 S M) ⟨some d, op, ty, pos, aft, none⟩ v) (hd : Nat.blt d n = true) (k : JQ P n w0 S ops M Φ l ((d, v) :: E)) : JQ P n w0 S ops M Φ (⟨some d, op, ty, pos, aft, none⟩ :: l) E :=
  ⟨fun a ha => wpQuiet_step fun _ hK => by
    simp only [Region.wanted, if_true]
    exact ⟨v, h.go a ha, hK _ (k.go _ (ha.put d v hd))⟩⟩

/-! ### guards -/
def guardIs (ops : Array Oper) (E : Env) (j : Nat) : Option Bool :=
  match (ops[j]?).bind (·.dst) with
  | some s => match lk E s with
    | some (.bool b) => some b
    | _ => none
  | none => none
theorem guard_spec {j : Nat} {b : Bool} (h : guardIs ops E j = some b) {a : Act} (ha : Knows n E a) (hn : ∀ s, (ops[j]?).bind (·.dst) = some s → Nat.blt s n = true) : yielded ops a.tmps j = some b := by
  unfold guardIs at h
  unfold yielded
  cases hs : (ops[j]?).bind (·.dst) with
  | none => simp [hs] at h
  | some s =>
    simp only [hs] at h
    have hlt : s < n := by simpa using hn s hs
    cases hv : lk E s with
    | none => simp [hv] at h
    | some u =>
      have h1 := ha.all s u hv
      have h2 : a.tmps[s]? = some u := by
        have : s < a.tmps.size := by rw [ha.size]; exact hlt
        rw [Array.getElem?_eq_getElem this]
        simpa [Array.getD, this] using h1
      simp only [hv] at h
      cases u <;> simp at h
      subst h
      simp [h2]
def guardFits (ops : Array Oper) (n j : Nat) : Bool := match (ops[j]?).bind (·.dst) with | some s => Nat.blt s n | none => false
theorem guardFits_spec {j : Nat} (h : guardFits ops n j = true) : ∀ s, (ops[j]?).bind (·.dst) = some s → Nat.blt s n = true := by
  intro s hs
  simpa [guardFits, hs] using h
variable {j : Nat} {want b : Bool}
theorem wanted_of (h : guardIs ops E j = some b) (hf : guardFits ops n j = true) {a : Act} (ha : Knows n E a) : Region.wanted ⟨some d, op, ty, pos, aft, some (j, want)⟩ (yielded ops a.tmps) = (b == want) := by
  simp only [Region.wanted, guard_spec h ha (guardFits_spec hf)]
  cases b <;> cases want <;> rfl
theorem JL.gq (hg : guardIs ops E j = some want) (hf : guardFits ops n j = true) (h : OQ P n E (Holds w0 S M) ⟨some d, op, ty, pos, aft, some (j, want)⟩ v) (hd : Nat.blt d n = true)
    (k : JL P n w0 S ops Q l ((d, v) :: E) M) : JL P n w0 S ops Q (⟨some d, op, ty, pos, aft, some (j, want)⟩ :: l) E M :=
  ⟨fun a w ha hw => wpList_step fun _ hK => by
    rw [wanted_of hg hf ha]
    simp only [beq_self_eq_true, if_true]
    exact Oper.wp_of_quiet (C := Holds w0 S M) (K := fun a' => a' = a.put (some d) v) hw (fun _ _ hw' e => hK _ _ (e ▸ k.go _ _ (ha.put d v hd) hw')) ⟨v, h.go a ha, rfl⟩⟩
theorem JL.gskip (hg : guardIs ops E j = some b) (hf : guardFits ops n j = true) (hne : (b == want) = false) (hd : Nat.blt d n = true)
    (k : JL P n w0 S ops Q l ((d, undef) :: E) M) : JL P n w0 S ops Q (⟨some d, op, ty, pos, aft, some (j, want)⟩ :: l) E M :=
  ⟨fun a w ha hw => wpList_skip (by rw [wanted_of hg hf ha]; exact hne) (k.go _ _ (ha.put d undef hd) hw)⟩
theorem JQ.gq {Φ : Act → Prop} (hg : guardIs ops E j = some want) (hf : guardFits ops n j = true) (h : OQ P n E (Holds w0 S M) ⟨some d, op, ty, pos, aft, some (j, want)⟩ v) (hd : Nat.blt d n = true)
    (k : JQ P n w0 S ops M Φ l ((d, v) :: E)) : JQ P n w0 S ops M Φ (⟨some d, op, ty, pos, aft, some (j, want)⟩ :: l) E :=
  ⟨fun a ha => wpQuiet_step fun _ hK => by
    rw [wanted_of hg hf ha]
    simp only [beq_self_eq_true, if_true]
    exact ⟨v, h.go a ha, hK _ (k.go _ (ha.put d v hd))⟩⟩
theorem JQ.gskip {Φ : Act → Prop} (hg : guardIs ops E j = some b) (hf : guardFits ops n j = true) (hne : (b == want) = false) (hd : Nat.blt d n = true)
    (k : JQ P n w0 S ops M Φ l ((d, undef) :: E)) : JQ P n w0 S ops M Φ (⟨some d, op, ty, pos, aft, some (j, want)⟩ :: l) E :=
  ⟨fun a ha => wpQuiet_step fun _ hK => by
    rw [wanted_of hg hf ha, hne]
    simp only [Bool.false_eq_true, if_false]
    exact hK _ (k.go _ (ha.put d undef hd))⟩
end
end Sl
end Go.Proofs.Ytbihfhkbkcplmaa
