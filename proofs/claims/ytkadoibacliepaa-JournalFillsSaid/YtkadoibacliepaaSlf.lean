/-
  Of no statement by itself: ranges over functions ('for x := range seq'): a round's body walked with the rules for lists of operations; what the caller of the iterator owes; a function that leaves with such a loop's mark among its deferred calls; for any program P.
  Conditions: each rule's own hypotheses.
-/
import Derived.Test.YtkadoibacliepaaSlt
import Derived.RangeFuncWrites
import Derived.RangeFuncLeaves
import Derived.TacticsIn
import Derived.Shelf.Abstract
namespace Go.Proofs.Ytkadoibacliepaa
namespace Sl

/-! ### entries, less than known -/
inductive Less2 : List Ent → List Ent → Prop where
  | nil (N : List Ent) : Less2 [] N
  | keep (b : Nat) (A A' : Obj → Prop) (wr wr' : Bool) (N N' : List Ent) : (∀ o, A o → A' o) → (wr' = true → wr = true) → Less2 N' N → Less2 (⟨b, A', wr'⟩ :: N') (⟨b, A, wr⟩ :: N)
  | drop (e : Ent) (N N' : List Ent) : Less2 N' N → Less2 N' (e :: N)
theorem Less2.keys {M M' : List Ent} (h : Less2 M' M) : (M'.map Ent.b).Sublist (M.map Ent.b) := by
  induction h with
  | nil => exact List.nil_sublist _
  | keep _ _ _ _ _ _ _ _ _ _ ih => exact ih.cons_cons _
  | drop _ _ _ _ ih => exact ih.cons _
theorem Less2.old {M M' : List Ent} (h : Less2 M' M) : ∀ e ∈ M', ∃ e' ∈ M, e'.b = e.b ∧ (e.wr = true → e'.wr = true) ∧ ∀ o, e'.A o → e.A o := by
  induction h with
  | nil => simp
  | keep b A A' wr wr' M M' hA hw _ ih =>
    intro e he
    simp only [List.mem_cons] at he
    rcases he with rfl | he
    · exact ⟨⟨b, A, wr⟩, by simp, rfl, hw, hA⟩
    · obtain ⟨e', h1, h2⟩ := ih e he
      exact ⟨e', by simp [h1], h2⟩
  | drop _ _ _ _ ih =>
    intro e he
    obtain ⟨e', h1, h2⟩ := ih e he
    exact ⟨e', by simp [h1], h2⟩
theorem Holds.weak2 {w0 w : World} {S : List Nat} {M M' : List Ent} (h : Holds w0 S M w) (hs : Less2 M' M) : Holds w0 S M' w := by
  refine ⟨h.chg, h.nodup.sublist hs.keys, fun e he => ?_⟩
  obtain ⟨e', h1, h2, h3, h4⟩ := hs.old e he
  obtain ⟨⟨o, ho, hA⟩, h5⟩ := h.all e' h1
  exact ⟨⟨o, h2 ▸ ho, h4 o hA⟩, fun hw => h2 ▸ h5 (h3 hw)⟩
theorem Holds.perm {w0 w : World} {S : List Nat} {M M' : List Ent} (h : Holds w0 S M w) (hp : M.Perm M') : Holds w0 S M' w :=
  ⟨h.chg, (hp.map Ent.b).nodup_iff.1 h.nodup, fun e he => h.all e (hp.mem_iff.2 he)⟩
/-- the blocks that may be written -/
def wrs (M : List Ent) : List Nat := (M.filter (·.wr)).map Ent.b
theorem mem_wrs {M : List Ent} {k : Nat} : k ∈ wrs M ↔ ∃ e ∈ M, e.wr = true ∧ e.b = k := by
  simp [wrs, and_assoc]
/-- the same knowledge, from this world on -/
theorem Holds.rebase {w0 w : World} {S : List Nat} {M : List Ent} (h : Holds w0 S M w) : Holds w (wrs M) M w :=
  ⟨Chg.refl _ _, h.nodup, fun e he => ⟨(h.all e he).1, fun hw => .inl (mem_wrs.2 ⟨e, he, hw, rfl⟩)⟩⟩
theorem Holds.wrs_ge {w0 w : World} {M : List Ent} (h : Holds w0 [] M w) : ∀ k ∈ wrs M, w0.heap.size ≤ k := fun k hk => by
  obtain ⟨e, he, hw, rfl⟩ := mem_wrs.1 hk
  rcases (h.all e he).2 hw with h | h
  · cases h
  · exact h
theorem Holds.unbase {w0 w w' : World} {M M' : List Ent} (h : Holds w0 [] M w) (h' : Holds w (wrs M) M' w') : Holds w0 [] M' w' := by
  refine ⟨⟨h'.chg.os.trans h.chg.os, h'.chg.tape.trans h.chg.tape, h'.chg.output.trans h.chg.output, Nat.le_trans h.chg.size h'.chg.size, fun k hk _ => ?_⟩, h'.nodup, fun e he => ⟨(h'.all e he).1, fun hw => .inr ?_⟩⟩
  · refine (h'.chg.block k (Nat.lt_of_lt_of_le hk h.chg.size) fun hm => ?_).trans (h.chg.block k hk (by simp))
    have := h.wrs_ge k hm
    omega
  · rcases (h'.all e he).2 hw with h1 | h1
    · exact h.wrs_ge _ h1
    · exact Nat.le_trans h.chg.size h1
theorem Holds.rebound {w0 w1 w : World} {M M' : List Ent} (h : Holds w1 (wrs M) M' w) (hx : Ext w0 w1) (hge : ∀ k ∈ wrs M, w0.heap.size ≤ k) : Ext w0 w :=
  ⟨h.chg.os.trans hx.os, h.chg.tape.trans hx.tape, h.chg.output.trans hx.output, Nat.le_trans hx.size h.chg.size, fun k hk _ => (h.chg.block k (Nat.lt_of_lt_of_le hk hx.size) fun hm => by have := hge k hm; omega).trans (hx.block k hk (by simp))⟩
theorem nodup_inj {M : List Ent} (h : (M.map Ent.b).Nodup) : ∀ {e1 e2 : Ent}, e1 ∈ M → e2 ∈ M → e1.b = e2.b → e1 = e2 := by
  induction M with
  | nil => intro e1 e2 h1; cases h1
  | cons x M ih =>
    simp only [List.map_cons, List.nodup_cons] at h
    intro e1 e2 h1 h2 he
    rcases List.mem_cons.1 h1 with rfl | h1'
    · rcases List.mem_cons.1 h2 with rfl | h2'
      · rfl
      · exact absurd (he ▸ List.mem_map_of_mem (f := Ent.b) h2') h.1
    · rcases List.mem_cons.1 h2 with rfl | h2'
      · exact absurd (he ▸ List.mem_map_of_mem (f := Ent.b) h1') h.1
      · exact ih h.2 h1' h2' he
theorem Repl.other {M M' : List Ent} {b b' : Nat} {A A' : Obj → Prop} (h : Repl M b A b' A' M') (hn : (M.map Ent.b).Nodup) : ∀ e ∈ M', e = ⟨b', A', true⟩ ∨ (e ∈ M ∧ e.b ≠ b) := by
  induction h with
  | @here b A b' A' M =>
    intro e he
    simp only [List.map_cons, List.nodup_cons] at hn
    simp only [List.mem_cons] at he
    rcases he with rfl | he
    · exact .inl rfl
    · exact .inr ⟨by simp [he], fun h => hn.1 (h ▸ List.mem_map_of_mem he)⟩
  | @there x M b A b' A' M' hu ih =>
    intro e he
    simp only [List.map_cons, List.nodup_cons] at hn
    simp only [List.mem_cons] at he
    rcases he with rfl | he
    · refine .inr ⟨by simp, fun h => hn.1 ?_⟩
      rw [h]
      exact List.mem_map_of_mem hu.has.mem (f := Ent.b)
    · rcases ih hn.2 e he with h | ⟨h1, h2⟩
      · exact .inl h
      · exact .inr ⟨by simp [h1], h2⟩
/-- A call was handed a block of one's own, wrote it, or handed back a new one in its place. -/
theorem Holds.relay {w0 w w' : World} {S : List Nat} {M M' : List Ent} {b b' : Nat} {A A' : Obj → Prop} (h : Holds w0 S M w) (hr : Repl M b A b' A' M') (hc : Holds w [b] [⟨b', A', true⟩] w') : Holds w0 S M' w' := by
  have hin := (h.all _ hr.has.mem).2 rfl
  obtain ⟨⟨o, ho, hA⟩, hb'⟩ := hc.all ⟨b', A', true⟩ (by simp)
  have hb' := hb' rfl
  simp only [List.mem_singleton] at hb' hin ho
  have hlt : b < w.heap.size := h.lt hr.has.mem
  refine ⟨⟨hc.chg.os.trans h.chg.os, hc.chg.tape.trans h.chg.tape, hc.chg.output.trans h.chg.output, Nat.le_trans h.chg.size hc.chg.size, fun k hk hS => ?_⟩, ?_, fun e he => ?_⟩
  · refine (hc.chg.block k (Nat.lt_of_lt_of_le hk h.chg.size) ?_).trans (h.chg.block k hk hS)
    intro hkb
    have hkb : k = b := by simpa using hkb
    subst hkb
    rcases hin with h4 | h4
    · exact hS h4
    · omega
  · rcases hb' with rfl | hb'
    · rw [hr.upd.keys]; exact h.nodup
    · refine hr.nodup h.nodup fun hm => ?_
      obtain ⟨e, he, hb⟩ := List.mem_map.1 hm
      have := h.lt he
      omega
  · rcases hr.other h.nodup e he with rfl | ⟨h4, h5⟩
    · refine ⟨⟨o, ho, hA⟩, fun _ => ?_⟩
      rcases hb' with rfl | hb'
      · exact hin
      · exact .inr (Nat.le_trans h.chg.size hb')
    · obtain ⟨⟨o2, ho2, hA2⟩, h6⟩ := h.all e h4
      exact ⟨⟨o2, (hc.chg.block _ (h.lt h4) (by simpa using h5)).trans ho2, hA2⟩, h6⟩

/-! ### operations in a round -/
section
variable {P : Program} {m l : Nat}
def noDef (o : Oper) : Bool := match o.op with
  | .defer _ => false
  | _ => true
abbrev Rd (l : Nat) : Fence := Fence.wide.inRound l
theorem wpIn_of_wp {o : Oper} {a : Act} {w : World} {K K' : Act → World → Prop} {Q : Exit → Act → World → Prop} (hd : noDef o = true) (hQ : ¬ LetsOut Q) (hK : ∀ a w, K a w → K' a w) (h : o.wp P a w K Q) : o.wpIn (Rd l) m P a w K' Q := by
  refine ⟨fun _ _ => trivial, ?_⟩
  have e : Oper.semAt (Rd l).round a.eval o = execOp a.eval o := Oper.semAt_some l _ _ fun c hc => by
    unfold noDef at hd
    rw [hc] at hd
    cases hd
  rw [e]
  unfold Oper.wp at h
  have hdep : (Rd l).depth.isSome = true → 1 ≤ m := fun h => by cases h
  cases hr : (execOp a.eval o).run P w with
  | ok nx w' =>
    rw [hr] at h
    cases nx with
    | value v => exact hK _ _ h
    | skip => exact hK _ _ h
    | defer d => exact hK _ _ h
    | enter f args =>
      have h' : Calls P f args w' fun
        | .returned v, w'' => K (a.put o.dst v) w''
        | .panicked chain, w'' => Q (.panic chain) a w''
        | .outgrown, _ => LetsOut Q := h
      refine ⟨hdep, (callsIn_wide (n := m - 1)).2 (h'.mono fun e w2 h2 => ?_)⟩
      cases e with
      | returned v => exact hK _ _ h2
      | panicked ch => exact h2
      | outgrown => exact h2
    | row r args =>
      have h' : Rows P r args w' fun v w'' => K (a.put o.dst v) w'' := h
      refine ⟨hdep, fun c cs _ => ?_⟩
      obtain ⟨v, w2, h2, hs⟩ := h' c cs
      exact ⟨v, w2, hK _ _ h2, stepsIn_wide.2 hs⟩
    | round => exact h.elim
    | _ => exact h.elim
  | halt x w' =>
    rw [hr] at h
    cases x with
    | panic v => exact h
    | _ => exact h.elim
theorem wpListIn_of_wpList {ops : Array Oper} {Q : Exit → Act → World → Prop} (hQ : ¬ LetsOut Q) : ∀ (os : List Oper), os.all noDef = true → ∀ a w, wpList P ops Q os a w → wpListIn (Rd l) m P ops Q os a w
  | [], _, a, w, h => h
  | o :: os, hd, a, w, h => by
    simp only [List.all_cons, Bool.and_eq_true] at hd
    have ih := wpListIn_of_wpList (ops := ops) hQ os hd.2
    unfold wpList at h
    unfold wpListIn
    by_cases hw : Region.wanted o (yielded ops a.tmps) = true
    · simp only [hw, if_true] at h ⊢
      rcases h with h | h
      · exact wpIn_of_wp hd.1 hQ ih h
      · exact absurd h.2 hQ
    · simp only [hw, if_false] at h ⊢
      exact ⟨fun _ _ => trivial, ih _ _ h⟩
end

section
variable {P : Program} {n : Nat} {w0 : World} {S : List Nat} {Q Q' : Exit → Act → World → Prop} {E : Env} {M : List Ent} {m l : Nat}
structure JR (P : Program) (n : Nat) (w0 : World) (S : List Nat) (l m : Nat) (Q : Exit → Act → World → Prop) (c : Code) (E : Env) (M : List Ent) : Prop where
  go : ∀ a w, Knows n E a → Holds w0 S M w → c.wpIn (Rd l) m P Q a w
theorem JR.region {id : Nat} {os : List Oper} (hd : os.all noDef = true) (hQ : ¬ LetsOut Q) (h : JL P n w0 S os.toArray Q os E M) : JR P n w0 S l m Q (.region id os.toArray false) E M :=
  ⟨fun a w ha hw => wpIn_region_lit (wpListIn_of_wpList hQ os hd a w (h.go a w ha hw))⟩
theorem JR.seq {x y : Code} (h : JR P n w0 S l m (Exit.then (y.wpIn (Rd l) m P Q) Q) x E M) : JR P n w0 S l m Q (.seq x y) E M := ⟨fun a w ha hw => wpIn_seq (h.go a w ha hw)⟩
theorem JR.block {id : Nat} {c : Code} (h : JR P n w0 S l m (Exit.inBlock id Q) c E M) : JR P n w0 S l m Q (.block id c) E M := ⟨fun a w ha hw => wpIn_block (h.go a w ha hw)⟩
theorem JE.nextR {y : Code} (h : JR P n w0 S l m Q' y E M) : JE n w0 S (Exit.then (y.wpIn (Rd l) m P Q') Q) .normal E M := ⟨h.go⟩
theorem lo_then {K : Act → World → Prop} (h : ¬ LetsOut Q) : ¬ LetsOut (Exit.then K Q) := fun ⟨a, w, x⟩ => h ⟨a, w, x⟩
theorem lo_blk {id : Nat} (h : ¬ LetsOut Q) : ¬ LetsOut (Exit.inBlock id Q) := fun ⟨a, w, x⟩ => h ⟨a, w, x⟩
end

/-! ### behind the loop: the mark among the deferred calls -/
def mk (D : Nat) : Deferred := { target := .collected D, args := #[] }
def Dead : Obj → Prop := fun o => o = .deferred (some [])
structure KnowsM (D n : Nat) (E : Env) (a : Act) : Prop where
  defers : a.defers = [mk D]
  base : Knows n E { a with defers := [] }
section
variable {P : Program} {D n : Nat} {w0 : World} {S : List Nat} {ops : Array Oper} {Q Q' : Exit → Act → World → Prop} {os : List Oper} {E : Env} {M : List Ent} {d : Nat} {op : Op} {ty : TypeId} {pos : String} {aft : Array Edge} {v : Value}
theorem bare_eval (a : Act) : ({ a with defers := [] } : Act).eval = a.eval := funext fun x => by cases x <;> rfl
theorem KnowsM.put {a : Act} (h : KnowsM D n E a) (d : Nat) (v : Value) (hd : Nat.blt d n = true) : KnowsM D n ((d, v) :: E) (a.put (some d) v) := ⟨h.defers, h.base.put d v hd⟩
theorem KnowsM.eval {a : Act} (h : KnowsM D n E a) {x : Operand} {v : Value} (hx : ev E x = some v) : a.eval x = v := by
  rw [← bare_eval]; exact h.base.eval hx
structure KL (P : Program) (D n : Nat) (w0 : World) (S : List Nat) (ops : Array Oper) (Q : Exit → Act → World → Prop) (os : List Oper) (E : Env) (M : List Ent) : Prop where
  go : ∀ a w, KnowsM D n E a → Holds w0 S M w → wpList P ops Q os a w
structure KE (D n : Nat) (w0 : World) (S : List Nat) (Q : Exit → Act → World → Prop) (e : Exit) (E : Env) (M : List Ent) : Prop where
  go : ∀ a w, KnowsM D n E a → Holds w0 S M w → Q e a w
structure KC (P : Program) (D n : Nat) (w0 : World) (S : List Nat) (Q : Exit → Act → World → Prop) (c : Code) (E : Env) (M : List Ent) : Prop where
  go : ∀ a w, KnowsM D n E a → Holds w0 S M w → c.wp P Q a w
theorem KC.seq {x y : Code} (h : KC P D n w0 S (Exit.then (y.wp P Q) Q) x E M) : KC P D n w0 S Q (.seq x y) E M := ⟨fun a w ha hw => wp_seq (h.go a w ha hw)⟩
theorem KC.skip (h : KE D n w0 S Q .normal E M) : KC P D n w0 S Q .skip E M := ⟨fun a w ha hw => wp_skip (h.go a w ha hw)⟩
theorem KC.ret (h : KE D n w0 S Q .ret E M) : KC P D n w0 S Q .ret E M := ⟨fun a w ha hw => wp_ret (h.go a w ha hw)⟩
theorem KC.cond {c : Operand} {x y : Code} {t : Bool} (hc : ev E c = some (.bool t)) (ht : t = true → KC P D n w0 S Q x E M) (hf : t = false → KC P D n w0 S Q y E M) : KC P D n w0 S Q (.cond c x y) E M :=
  ⟨fun a w ha hw => wp_cond_split (ha.eval hc) (fun h => (ht h).go a w ha hw) (fun h => (hf h).go a w ha hw)⟩
theorem KC.region {id : Nat} {os : List Oper} (h : KL P D n w0 S os.toArray Q os E M) : KC P D n w0 S Q (.region id os.toArray false) E M := ⟨fun a w ha hw => wp_region_lit (h.go a w ha hw)⟩
theorem KE.next {y : Code} (h : KC P D n w0 S Q' y E M) : KE D n w0 S (Exit.then (y.wp P Q') Q) .normal E M := ⟨h.go⟩
theorem KE.then_ret {K : Act → World → Prop} (h : KE D n w0 S Q .ret E M) : KE D n w0 S (Exit.then K Q) .ret E M := ⟨h.go⟩
theorem KE.blk_normal {id : Nat} (h : KE D n w0 S Q .normal E M) : KE D n w0 S (Exit.inBlock id Q) .normal E M := ⟨h.go⟩
theorem KL.nil (h : KE D n w0 S Q .normal E M) : KL P D n w0 S ops Q [] E M := ⟨h.go⟩
theorem KL.q (h : OQ P n E (Holds w0 S M) ⟨some d, op, ty, pos, aft, none⟩ v) (hd : Nat.blt d n = true) (k : KL P D n w0 S ops Q os ((d, v) :: E) M) : KL P D n w0 S ops Q (⟨some d, op, ty, pos, aft, none⟩ :: os) E M :=
  ⟨fun a _ ha hw => wpList_plain rfl fun _ hK => Oper.wp_of_quiet (C := Holds w0 S M) (K := fun a' => a' = a.put (some d) v) hw (fun _ _ hw' e => hK _ _ (e ▸ k.go _ _ (ha.put d v hd) hw')) ⟨v, fun w hw => by
    have := h.go _ ha.base w hw
    unfold Oper.quietAt at this ⊢
    rwa [bare_eval] at this, rfl⟩⟩
theorem KL.qs (h : OQ P n E (Holds w0 S M) ⟨some d, op, ty, pos, aft, none⟩ v) (hd : Nat.blt d n = true) (k : KL P D n w0 S ops Q os ((d, v) :: E) M) : KL P D n w0 S ops Q (⟨some d, op, ty, pos, aft, none⟩ :: os) E M := KL.q h hd k
theorem KC.weak {c : Code} {M' : List Ent} (hM : Less M' M) (h : KC P D n w0 S Q c E M') : KC P D n w0 S Q c E M := ⟨fun a w ha hw => h.go a w ha (hw.weak hM)⟩
/-- the way out: the block of the rounds' deferred calls is shut -/
theorem leaves_mark {m : Nat} {fn : Func} {R : Ending → World → Prop} {a : Act} {w : World} {v : Value} (ha : KnowsM D n E a) (hw : Holds w0 S (⟨D, Dead, true⟩ :: M) w)
    (hv : ∀ w', Holds w0 S M w' → (results fn a.tmps).run P w' = .ok v w') (hR : ∀ w', Holds w0 S M w' → R (.returned v) w') : bodyPostM Fence.wide m P fn R .ret a w := by
  obtain ⟨o, ho, hA⟩ := hw.get (b := D) (A := Dead) (wr := true) .here
  cases hA
  have hlt : D < w.heap.size := (Array.getElem?_eq_some_iff.1 ho).1
  have h2 : Holds w0 S (⟨D, fun o => o = .deferred none, true⟩ :: M) (w.putObj D (.deferred none)) :=
    hw.write (A' := fun o => o = .deferred none) .here rfl (World.putObj_heap_same hlt) World.putObj_size (fun k hk => World.putObj_heap_other hk) rfl rfl rfl
  have h3 : Holds w0 S M (w.putObj D (.deferred none)) := h2.weak (.drop _ _ _ (Less.refl _))
  show LeavesInM Fence.wide m P fn a.tmps R a.defers .returning w
  rw [ha.defers]
  exact ⟨by simp, .inl ⟨D, _, rfl, run_takeDeferred ho, v, hv _ h3, hR _ h3⟩⟩
theorem KE.ret1 {m : Nat} {fn : Func} {R : Ending → World → Prop} {r1 : Tmp} {v1 : Value} (hr : fn.results = #[.tmp r1]) (h1 : lk E r1 = some v1) (hR : ∀ w, Holds w0 S M w → R (.returned v1) w) : KE D n w0 S (bodyPostM Fence.wide m P fn R) .ret E (⟨D, Dead, true⟩ :: M) := by
  refine ⟨fun a w ha hw => leaves_mark (v := v1) ha hw (fun w' _ => ?_) hR⟩
  have e1 : a.tmps.getD r1 undef = v1 := ha.base.all r1 v1 h1
  rw [results_eq, hr]
  simp [rvRun, e1]
theorem KE.ret2 {m : Nat} {fn : Func} {R : Ending → World → Prop} {r1 r2 : Tmp} {v1 v2 : Value} (hr : fn.results = #[.tmp r1, .tmp r2]) (h1 : lk E r1 = some v1) (h2 : lk E r2 = some v2) (hR : ∀ w, Holds w0 S M w → R (.returned (.tuple #[v1, v2])) w) : KE D n w0 S (bodyPostM Fence.wide m P fn R) .ret E (⟨D, Dead, true⟩ :: M) := by
  refine ⟨fun a w ha hw => leaves_mark (v := .tuple #[v1, v2]) ha hw (fun w' _ => ?_) hR⟩
  have e1 : a.tmps.getD r1 undef = v1 := ha.base.all r1 v1 h1
  have e2 : a.tmps.getD r2 undef = v2 := ha.base.all r2 v2 h2
  rw [results_eq, hr]
  simp [rvRun, e1, e2, Sem.run_bind]
theorem KE.less {e : Exit} {M' : List Ent} (hM : Less M' M) (h : KE D n w0 S Q e E M') : KE D n w0 S Q e E M := ⟨fun a w ha hw => h.go a w ha (hw.weak hM)⟩
/-- a function that holds a range over a function -/
theorem enterM {f : FuncId} {fn : Func} {c : Code} {vs : List Value} {w : World} {R : Ending → World → Prop} (hf : P.funcs[f]? = some fn) (hb : fn.body = some c) (hn : fn.ntmps = n) (hl : Nat.ble vs.length n = true)
    (hM : Holds w S M w) (h : JC P n w S (bodyPostM Fence.wide 3 P fn R) c (enum 0 vs) M) : Calls P f vs.toArray w R := by
  refine callsIn_wide.1 (callsIn_of_wp_marks (n := 3) hf hb trivial (wpIn_wide.2 (h.go _ _ ?_ hM)))
  rw [hn]
  exact Knows.enter vs (by simpa using hl)
end

/-! ### the statement -/
structure KeepL (L : List Nat) (W W' : World) : Prop where
  os : W'.os = W.os
  tape : W'.tape = W.tape
  output : W'.output = W.output
  size : W.heap.size ≤ W'.heap.size
  same : ∀ k ∈ L, W'.heap[k]? = W.heap[k]?
theorem KeepL.trans {L : List Nat} {X Y Z : World} (h : KeepL L X Y) (k : KeepL L Y Z) : KeepL L X Z :=
  ⟨k.os.trans h.os, k.tape.trans h.tape, k.output.trans h.output, Nat.le_trans h.size k.size, fun i hi => (k.same i hi).trans (h.same i hi)⟩
/-- how a round's body is left -/
def roundQ {α ι : Type} (Mi : ι → List Ent) (Inv : List α → ι → Prop) (xs : List α) (w1 : World) (S1 : List Nat) : Exit → Act → World → Prop
  | .normal, _, W' => ∃ j, Inv xs j ∧ Holds w1 S1 (Mi j) W'
  | _, _, _ => False
theorem lo_roundQ {α ι : Type} {Mi : ι → List Ent} {Inv : List α → ι → Prop} {xs : List α} {w1 : World} {S1 : List Nat} : ¬ LetsOut (roundQ Mi Inv xs w1 S1) := fun ⟨_, _, h⟩ => h
theorem JE.round {α ι : Type} {n : Nat} {w1 : World} {S1 : List Nat} {E : Env} {M : List Ent} {Mi : ι → List Ent} {Inv : List α → ι → Prop} {xs : List α} (j : ι) (hj : Inv xs j) (hM : Less (Mi j) M) : JE n w1 S1 (roundQ Mi Inv xs w1 S1) .normal E M :=
  ⟨fun _ _ _ hw => ⟨j, hj, hw.weak hM⟩⟩
theorem JC.range {P : Program} {n : Nat} {w0 : World} {Q : Exit → Act → World → Prop} {E : Env} {M : List Ent} {α ι : Type} {g : Operand} {p d rid : Nat} {ty : TypeId} {pos : String} {body : Code} {gf : Nat} {lb : Array Value} (enc : α → Value) (L : List Nat) (Sd Sp : List α → Prop) (N : Nat)
    (Mi : ι → List Ent) (Inv : List α → ι → Prop) (hg : ev E g = some (.func (.func gf) #[] lb)) (eg : ∀ args w, (callFunc gf args).run P w = .ok (.enter gf args) w)
    (hseq : ∀ W, Holds w0 [] M W → SeqStopsK Fence.wide 2 P gf lb (fun x => #[enc x]) (KeepL L) Sd Sp N W)
    (hcell : ∀ i, ∀ e ∈ Mi i, ∀ o, e.A o → o.isCells = true) (hL : ∀ i, ∀ k ∈ L, k < w0.heap.size ∨ ∃ A, Has (Mi i) k A false)
    (i0 : ι) (h0 : Inv [] i0) (hM : ∀ w, Holds w0 [] M w → Holds w0 [] (Mi i0) w) (hp : Nat.blt p n = true) (hd : Nat.blt d n = true)
    (hbody : ∀ l pre x i w1, Inv pre i → pre.length < N → Ext w0 w1 → (∀ k ∈ wrs (Mi i), w0.heap.size ≤ k) → JR P n w1 (wrs (Mi i)) l 1 (roundQ Mi Inv (pre ++ [x]) w1 (wrs (Mi i))) body ((d, enc x) :: (p, enc x) :: E) (Mi i))
    (hdone : ∀ D xs i, Sd xs → Inv xs i → KE D n w0 [] Q .normal E (⟨D, Dead, true⟩ :: Mi i)) :
    JC P n w0 [] Q (.rangeFunc g #[p] (.region rid #[⟨some d, .assign (.tmp p), ty, pos, #[], none⟩] false) body) E M := by
  refine ⟨fun a w ha hw => (wpIn_wide (n := 3)).1 ?_⟩
  have hLw : ∀ k ∈ L, k < w.heap.size := fun k hk => by
    rcases hL i0 k hk with h | ⟨A, h⟩
    · exact Nat.lt_of_lt_of_le h hw.chg.size
    · exact (hM w hw).lt h.mem
  have hI : OwnFrom w.heap.size (fun pre W => ∃ i, Inv pre i ∧ Holds w0 [] (Mi i) W) := by
    rintro pre W W' row ⟨i, hi, h⟩ hgr hrow
    refine ⟨i, hi, ⟨hgr.os.trans h.chg.os, hgr.tape.trans h.chg.tape, hgr.output.trans h.chg.output, Nat.le_trans h.chg.size hgr.size, fun k hk _ => ?_⟩, h.nodup, fun e he => ⟨?_, (h.all e he).2⟩⟩
    · refine (hgr.block k (Nat.lt_of_lt_of_le hk h.chg.size) fun hr => ?_).trans (h.chg.block k hk (by simp))
      have := (hrow k hr.symm).1
      have := hw.chg.size
      omega
    · obtain ⟨o, ho, hA⟩ := (h.all e he).1
      refine ⟨o, (hgr.block e.b (h.lt he) fun hr => ?_).trans ho, hA⟩
      obtain ⟨_, o2, ho2, hc⟩ := hrow _ hr.symm
      rw [ho] at ho2
      cases ho2
      rw [hcell i e he o hA] at hc
      cases hc
  have hpn : p < n := by simpa using hp
  have hdn : d < n := by simpa using hd
  refine wpIn_rangeFunc_ownG (n := 3) rfl (by omega) (gf := gf) (lb := lb) (ha.eval hg) trivial eg (w0 := w) (hseq w hw) (fun h k => h.trans k) (fun W l o o' hl _ _ _ => ?_) (RowKit.Below.refl _ _) (fun _ => rfl)
    (fun pre W => ∃ i, Inv pre i ∧ Holds w0 [] (Mi i) W) (fun _ _ _ => False) hI (fun _ _ _ _ _ h _ _ => h) ⟨i0, h0, hM w hw⟩ (fun x => (a.put (some p) (enc x)).put (some d) (enc x)) ?_ ?_ ?_ (fun _ _ _ _ _ _ h _ => h.elim)
  · exact ⟨rfl, rfl, rfl, by simp, fun k hk => World.putObj_heap_other (by have := hLw k hk; omega)⟩
  · intro l x W K hK
    refine wpIn_region_lit (wpListIn_plain rfl fun K' hK' => ⟨fun _ _ => trivial, ?_⟩)
    have he : ((#[p].zip #[enc x]).foldl (fun t (x : Nat × Value) => t.setIfInBounds x.1 x.2) a.tmps).getD p undef = enc x := by
      have : p < a.tmps.size := by rw [ha.size]; exact hpn
      simp [this]
    have hs : Oper.semAt (Rd l).round ({ tmps := (#[p].zip #[enc x]).foldl (fun t (x : Nat × Value) => t.setIfInBounds x.1 x.2) a.tmps, defers := [] } : Act).eval ⟨some d, .assign (.tmp p), ty, pos, #[], none⟩ = .pure (.value (enc x)) := by
      refine (Oper.semAt_some l _ _ ?_).trans ?_
      · intro c h; cases h
      show Sem.pure (Next.value (_ : Value)) = _
      exact congrArg (fun v => Sem.pure (Next.value v)) he
    show Oper.uponIn _ _ _ _ _ _ _ ((Oper.semAt (Rd l).round _ _).run P W)
    rw [hs]
    refine hK' _ _ (wpListIn_nil ?_)
    show K _ W
    have e : ({ tmps := (#[p].zip #[enc x]).foldl (fun t (x : Nat × Value) => t.setIfInBounds x.1 x.2) a.tmps, defers := [] } : Act).put (some d) (enc x) = (a.put (some p) (enc x)).put (some d) (enc x) := by
      obtain ⟨tm, df⟩ := a
      have := ha.defers
      simp only at this
      subst this
      simp [Act.put]
    rw [e]
    exact hK
  · rintro l pre x W ⟨i, hi, h⟩ hlen
    refine wpIn_mono ((hbody l pre x i W hi hlen h.chg h.wrs_ge).go _ W ((ha.put p _ hp).put d _ hd) h.rebase) ?_
    · rintro e a2 W2 hq
      cases e with
      | normal =>
        obtain ⟨j, hj, h2⟩ := hq
        refine ⟨⟨h2.chg.size, fun k o _ hk ho => ?_⟩, ⟨h2.chg.os, h2.chg.tape, h2.chg.output, h2.chg.size, fun k hk => ?_⟩, j, hj, h.unbase h2⟩
        · refine (h2.chg.block k (Array.getElem?_eq_some_iff.1 hk).1 fun hm => ?_).trans hk
          obtain ⟨e, he, _, rfl⟩ := mem_wrs.1 hm
          obtain ⟨o', ho', hA⟩ := (h.all e he).1
          rw [hk] at ho'
          cases ho'
          rw [hcell i e he _ hA] at ho
          cases ho
        · rcases hL i k hk with hlt | ⟨A, hA⟩
          · exact h2.chg.block k (Nat.lt_of_lt_of_le hlt h.chg.size) fun hm => by have := h.wrs_ge k hm; omega
          · refine h2.chg.block k (h.lt hA.mem) fun hm => ?_
            obtain ⟨e, he, hwr, hb⟩ := mem_wrs.1 hm
            have := nodup_inj h.nodup he hA.mem hb
            subst this
            cases hwr
      | ret => exact hq.elim
      | exit id => exact hq.elim
      | goto t => exact hq.elim
      | panic ch => exact hq.elim
      | outgrown => exact hq.elim
  · rintro D xs W hD hS ⟨i, hi, h⟩ hk
    refine (hdone D xs i hS hi).go _ W ⟨?_, ?_⟩ ?_
    · show _ :: a.defers = _
      rw [ha.defers]; rfl
    · exact ⟨ha.size, rfl, ha.all⟩
    · refine ⟨h.chg, ?_, fun e he => ?_⟩
      · simp only [List.map_cons, List.nodup_cons, h.nodup, and_true]
        intro hm
        obtain ⟨e, he, hb⟩ := List.mem_map.1 hm
        obtain ⟨o, ho, hA⟩ := (h.all e he).1
        rw [hb] at ho
        rw [hk] at ho
        cases ho
        have := hcell i e he _ hA
        cases this
      · simp only [List.mem_cons] at he
        rcases he with rfl | he
        · exact ⟨⟨_, hk, rfl⟩, fun _ => .inr (Nat.le_trans hw.chg.size hD)⟩
        · exact h.all e he
end Sl
end Go.Proofs.Ytkadoibacliepaa
