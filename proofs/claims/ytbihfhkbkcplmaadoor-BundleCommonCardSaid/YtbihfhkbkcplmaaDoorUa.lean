/-
  Of no statement by itself: the texts Sl, Slb, Slc, Slw, Slx, Sly, Slz, Slu, Slg, Slh, Slk, Slj, Slm, Slo, Sli, CrvA, CrvB, CrvC, CrvD, CrvE in one.
  Conditions: each theorem's own.
-/
import Derived.Deep.Quiet
import Derived.StillTail
import Derived.Below
import Derived.KernelRfl
import Derived.Tactics2
import Derived.Laws.Cells
import Derived.Laws.CopyRow
import Derived.Laws.Rows
import Derived.Laws.AppendOwn
import Derived.Stop.BytesEq
import Derived.Laws.StructEq
import Derived.Laws.MakeOwn
import Derived.Lib.ConvBytes
import Derived.Great.FillDense
import Init
set_option linter.unusedSimpArgs false
set_option linter.unusedVariables false
/-
  Of no statement by itself: rules by which a function's text is walked with partial knowledge of its frame (a list of slots) and of memory (a list of blocks with what is known of each), for any program P.
  Conditions: each rule's own hypotheses.
-/
namespace Go.Proofs.YtbihfhkbkcplmaaDoor
namespace Sl

abbrev Env := List (Nat × Value)
def lk : Env → Nat → Option Value
  | [], _ => none
  | (d, v) :: E, t => cond (Nat.beq d t) (some v) (lk E t)

structure Knows (n : Nat) (E : Env) (a : Act) : Prop where
  size : a.tmps.size = n
  defers : a.defers = []
  all : ∀ t v, lk E t = some v → a.tmps.getD t undef = v

theorem Knows.put {n : Nat} {E : Env} {a : Act} (h : Knows n E a) (d : Nat) (v : Value) (hd : Nat.blt d n = true) : Knows n ((d, v) :: E) (a.put (some d) v) := by
  have hd' : d < n := by simpa using hd
  refine ⟨by simp [Act.put, h.size], h.defers, fun t u hu => ?_⟩
  simp only [lk] at hu
  by_cases e : d = t
  · subst e
    simp at hu
    subst hu
    simp [Act.put, h.size, hd']
  · have : Nat.beq d t = false := Bool.eq_false_iff.2 fun h => e (Nat.eq_of_beq_eq_true h)
    rw [this] at hu
    have := h.all t u hu
    simpa [Act.put, Array.getElem?_setIfInBounds, e] using this

theorem Knows.put_none {n : Nat} {E : Env} {a : Act} (h : Knows n E a) (v : Value) : Knows n E (a.put none v) := h

inductive SubE (E : Env) : Env → Prop where
  | nil : SubE E []
  | cons (d : Nat) (v : Value) (E' : Env) : lk E d = some v → SubE E E' → SubE E ((d, v) :: E')
theorem SubE.all {E E' : Env} (h : SubE E E') : ∀ p ∈ E', lk E p.1 = some p.2 := by
  induction h with
  | nil => simp
  | cons d v E' h _ ih =>
    intro p hp
    simp only [List.mem_cons] at hp
    rcases hp with rfl | hp
    · exact h
    · exact ih p hp
theorem Knows.sub {n : Nat} {E E' : Env} {a : Act} (h : Knows n E a) (hs' : SubE E E') : Knows n E' a := by
  have hs := hs'.all
  clear hs'
  refine ⟨h.size, h.defers, fun t u hu => h.all t u ?_⟩
  induction E' with
  | nil => simp [lk] at hu
  | cons p E' ih =>
    simp only [lk] at hu
    by_cases e : p.1 = t
    · subst e
      simp at hu
      subst hu
      exact hs p (by simp)
    · have : Nat.beq p.1 t = false := Bool.eq_false_iff.2 fun h => e (Nat.eq_of_beq_eq_true h)
      rw [this] at hu
      exact ih (fun q hq => hs q (by simp [hq])) hu

def ev (E : Env) : Operand → Option Value
  | .tmp t => lk E t
  | .const v => some v
  | .global g => some (.pointer (some ⟨g, 0, none⟩))
  | .func f => some (.func (.func f) #[] #[])

theorem Knows.eval {n : Nat} {E : Env} {a : Act} (h : Knows n E a) {x : Operand} {v : Value} (hx : ev E x = some v) : a.eval x = v := by
  cases x with
  | tmp t => exact h.all t v hx
  | const u => exact Option.some.inj hx
  | global g => exact Option.some.inj hx
  | func f => exact Option.some.inj hx

/-! ### memory -/
structure Chg (S : List Nat) (w w' : World) : Prop where
  os : w'.os = w.os
  tape : w'.tape = w.tape
  output : w'.output = w.output
  size : w.heap.size ≤ w'.heap.size
  block : ∀ k, k < w.heap.size → k ∉ S → w'.heap[k]? = w.heap[k]?

theorem Chg.refl (S : List Nat) (w : World) : Chg S w w := ⟨rfl, rfl, rfl, Nat.le_refl _, fun _ _ _ => rfl⟩
theorem Chg.trans {S : List Nat} {a b c : World} (h : Chg S a b) (k : Chg S b c) : Chg S a c :=
  ⟨k.os.trans h.os, k.tape.trans h.tape, k.output.trans h.output, Nat.le_trans h.size k.size,
   fun i hi hS => (k.block i (Nat.lt_of_lt_of_le hi h.size) hS).trans (h.block i hi hS)⟩
theorem Chg.mono {S S' : List Nat} {a b : World} (h : Chg S a b) (hs : ∀ k ∈ S, k ∈ S') : Chg S' a b :=
  ⟨h.os, h.tape, h.output, h.size, fun i hi hS => h.block i hi fun hk => hS (hs i hk)⟩
abbrev Ext := Chg []
theorem Chg.below {w w' : World} (h : Ext w w') : RowKit.Below w.heap.size w w' := ⟨h.os, h.tape, h.output, h.size, fun k hk => h.block k hk (by simp)⟩

structure Ent where
  b : Nat
  A : Obj → Prop
  wr : Bool

structure Holds (w0 : World) (S : List Nat) (M : List Ent) (w : World) : Prop where
  chg : Chg S w0 w
  nodup : (M.map Ent.b).Nodup
  all : ∀ e ∈ M, (∃ o, w.heap[e.b]? = some o ∧ e.A o) ∧ (e.wr = true → e.b ∈ S ∨ w0.heap.size ≤ e.b)

inductive Has : List Ent → Nat → (Obj → Prop) → Bool → Prop where
  | here {b A wr M} : Has (⟨b, A, wr⟩ :: M) b A wr
  | there {e M b A wr} : Has M b A wr → Has (e :: M) b A wr

theorem Has.mem {M : List Ent} {b : Nat} {A : Obj → Prop} {wr : Bool} (h : Has M b A wr) : ⟨b, A, wr⟩ ∈ M := by
  induction h with
  | here => simp
  | there _ ih => simp [ih]

/-- M' is M with another word on block b. -/
inductive Upd : List Ent → Nat → (Obj → Prop) → (Obj → Prop) → List Ent → Prop where
  | here {b A A' M} : Upd (⟨b, A, true⟩ :: M) b A A' (⟨b, A', true⟩ :: M)
  | there {e M b A A' M'} : Upd M b A A' M' → Upd (e :: M) b A A' (e :: M')

theorem Upd.has {M M' : List Ent} {b : Nat} {A A' : Obj → Prop} (h : Upd M b A A' M') : Has M b A true := by
  induction h with
  | here => exact .here
  | there _ ih => exact .there ih
theorem Upd.keys {M M' : List Ent} {b : Nat} {A A' : Obj → Prop} (h : Upd M b A A' M') : M'.map Ent.b = M.map Ent.b := by
  induction h with
  | here => rfl
  | there _ ih => simp [ih]
theorem Upd.old {M M' : List Ent} {b : Nat} {A A' : Obj → Prop} (h : Upd M b A A' M') (hn : (M.map Ent.b).Nodup) :
    ∀ e ∈ M', e = ⟨b, A', true⟩ ∨ (e ∈ M ∧ e.b ≠ b) := by
  induction h with
  | @here b A A' M =>
    intro e he
    simp only [List.mem_cons] at he
    simp only [List.map_cons, List.nodup_cons] at hn
    rcases he with rfl | he
    · exact .inl rfl
    · exact .inr ⟨by simp [he], fun h => hn.1 (h ▸ List.mem_map_of_mem he)⟩
  | @there x M b A A' M' hu ih =>
    intro e he
    simp only [List.map_cons, List.nodup_cons] at hn
    simp only [List.mem_cons] at he
    rcases he with rfl | he
    · refine .inr ⟨by simp, fun h => hn.1 ?_⟩
      rw [h]
      exact List.mem_map_of_mem hu.has.mem (f := Ent.b)
    · rcases ih hn.2 e he with h | ⟨h1, h2⟩
      · exact .inl h
      · exact .inr ⟨by simp [h1], h2⟩

section
variable {w0 : World} {S : List Nat} {M M' : List Ent} {w w' : World}

theorem Holds.lt (h : Holds w0 S M w) {e : Ent} (he : e ∈ M) : e.b < w.heap.size := by
  obtain ⟨⟨o, ho, _⟩, _⟩ := h.all e he
  by_cases hl : e.b < w.heap.size
  · exact hl
  · simp [Array.getElem?_eq_none (by omega : w.heap.size ≤ e.b)] at ho

theorem Holds.get (h : Holds w0 S M w) {b : Nat} {A : Obj → Prop} {wr : Bool} (hf : Has M b A wr) : ∃ o, w.heap[b]? = some o ∧ A o := (h.all _ hf.mem).1

theorem Holds.start (w0 : World) (S : List Nat) : Holds w0 S [] w0 := ⟨Chg.refl _ _, by simp, by simp⟩

theorem Holds.ext (h : Holds w0 S M w) (k : Ext w w') : Holds w0 S M w' := by
  refine ⟨h.chg.trans (k.mono (by simp)), h.nodup, fun e he => ⟨?_, (h.all e he).2⟩⟩
  obtain ⟨o, ho, hA⟩ := (h.all e he).1
  exact ⟨o, (k.block e.b (h.lt he) (by simp)).trans ho, hA⟩

theorem Holds.drawn (h : Holds w0 S M w) (n : Nat) : Holds w0 S M { w with drawn := n } :=
  h.ext ⟨rfl, rfl, rfl, Nat.le_refl _, fun _ _ _ => rfl⟩

theorem Holds.old (h : Holds w0 S M w) {k : Nat} (hk : k < w0.heap.size) (hS : k ∉ S) : w.heap[k]? = w0.heap[k]? := h.chg.block k hk hS

/-- M' says no more than M. -/
theorem Holds.sub (h : Holds w0 S M w) (hn : (M'.map Ent.b).Nodup) (hs : ∀ e ∈ M', e ∈ M) : Holds w0 S M' w := ⟨h.chg, hn, fun e he => h.all e (hs e he)⟩

inductive Less : List Ent → List Ent → Prop where
  | nil (N : List Ent) : Less [] N
  | keep (b : Nat) (A A' : Obj → Prop) (wr : Bool) (N N' : List Ent) : (∀ o, A o → A' o) → Less N' N → Less (⟨b, A', wr⟩ :: N') (⟨b, A, wr⟩ :: N)
  | drop (e : Ent) (N N' : List Ent) : Less N' N → Less N' (e :: N)
theorem Less.refl : ∀ N, Less N N
  | [] => .nil _
  | ⟨_, _, _⟩ :: N => .keep _ _ _ _ _ _ (fun _ h => h) (Less.refl N)
theorem Less.keys (h : Less M' M) : (M'.map Ent.b).Sublist (M.map Ent.b) := by
  induction h with
  | nil => exact List.nil_sublist _
  | keep _ _ _ _ _ _ _ _ ih => exact ih.cons_cons _
  | drop _ _ _ _ ih => exact ih.cons _
theorem Less.old (h : Less M' M) : ∀ e ∈ M', ∃ e' ∈ M, e'.b = e.b ∧ e'.wr = e.wr ∧ ∀ o, e'.A o → e.A o := by
  induction h with
  | nil => simp
  | keep b A A' wr M M' hA _ ih =>
    intro e he
    simp only [List.mem_cons] at he
    rcases he with rfl | he
    · exact ⟨⟨b, A, wr⟩, by simp, rfl, rfl, hA⟩
    · obtain ⟨e', h1, h2⟩ := ih e he
      exact ⟨e', by simp [h1], h2⟩
  | drop _ _ _ _ ih =>
    intro e he
    obtain ⟨e', h1, h2⟩ := ih e he
    exact ⟨e', by simp [h1], h2⟩
theorem Holds.weak (h : Holds w0 S M w) (hs : Less M' M) : Holds w0 S M' w := by
  refine ⟨h.chg, h.nodup.sublist hs.keys, fun e he => ?_⟩
  obtain ⟨e', h1, h2, h3, h4⟩ := hs.old e he
  obtain ⟨⟨o, ho, hA⟩, h5⟩ := h.all e' h1
  exact ⟨⟨o, h2 ▸ ho, h4 o hA⟩, fun hw => h2 ▸ h5 (h3.trans hw)⟩

/-- A new block. -/
theorem Holds.push (h : Holds w0 S M w) (o : Obj) {A : Obj → Prop} (hA : A o) (hw : w'.heap = w.heap.push o) (h1 : w'.os = w.os) (h2 : w'.tape = w.tape) (h3 : w'.output = w.output) :
    Holds w0 S (⟨w.heap.size, A, true⟩ :: M) w' := by
  have hx : Ext w w' := ⟨h1, h2, h3, by rw [hw]; simp, fun k hk _ => by rw [hw, Array.getElem?_push, if_neg (Nat.ne_of_lt hk)]⟩
  have h' := h.ext hx
  refine ⟨h'.chg, ?_, fun e he => ?_⟩
  · simp only [List.map_cons, List.nodup_cons, h.nodup, and_true]
    intro hm
    obtain ⟨e, he, hb⟩ := List.mem_map.1 hm
    have := h.lt he
    omega
  · simp only [List.mem_cons] at he
    rcases he with rfl | he
    · exact ⟨⟨o, by simp [hw], hA⟩, fun _ => .inr h.chg.size⟩
    · exact h'.all e he

/-- A block is written. -/
theorem Holds.write (h : Holds w0 S M w) {b : Nat} {A A' : Obj → Prop} (hu : Upd M b A A' M') {o' : Obj} (hA : A' o')
    (hb : w'.heap[b]? = some o') (hz : w'.heap.size = w.heap.size) (hk : ∀ k, k ≠ b → w'.heap[k]? = w.heap[k]?) (h1 : w'.os = w.os) (h2 : w'.tape = w.tape) (h3 : w'.output = w.output) :
    Holds w0 S M' w' := by
  have hin := (h.all _ hu.has.mem).2 rfl
  refine ⟨⟨h1.trans h.chg.os, h2.trans h.chg.tape, h3.trans h.chg.output, by rw [hz]; exact h.chg.size, fun k hk' hS => ?_⟩, by rw [hu.keys]; exact h.nodup, fun e he => ?_⟩
  · refine (hk k fun e => ?_).trans (h.chg.block k hk' hS)
    subst e
    rcases hin with h4 | h4
    · exact hS h4
    · simp only [] at h4; omega
  · rcases hu.old h.nodup e he with rfl | ⟨h4, h5⟩
    · exact ⟨⟨o', hb, hA⟩, fun _ => hin⟩
    · obtain ⟨⟨o, ho, hA'⟩, h6⟩ := h.all e h4
      exact ⟨⟨o, (hk _ h5).trans ho, hA'⟩, h6⟩
end

/-! ### single operations -/
def pur {α : Type} (P : Program) : Sem α → Option α
  | .pure a => some a
  | .program k => pur P (k P)
  | .mark _ k => pur P k
  | _ => none
theorem pur_run {α : Type} {P : Program} {a : α} : ∀ {s : Sem α} {w : World}, pur P s = some a → s.run P w = .ok a w
  | .pure _, w, h => by simp only [pur, Option.some.injEq] at h; subst h; rfl
  | .program k, w, h => by simp only [pur] at h; exact pur_run (s := k P) h
  | .mark _ k, w, h => by simp only [pur] at h; exact pur_run (s := k) h
  | .load .., _, h | .store .., _, h | .new .., _, h | .shape .., _, h | .freeze .., _, h | .frozen .., _, h | .getObj .., _, h | .setObj .., _, h | .choose .., _, h | .sys .., _, h | .halt .., _, h => by simp [pur] at h

/-- In every world of the class C, from every frame that E is known of, operation o yields v and leaves the world in the class. -/
structure OQ (P : Program) (n : Nat) (E : Env) (C : World → Prop) (o : Oper) (v : Value) : Prop where
  go : ∀ a, Knows n E a → ∀ w, C w → o.quietAt P a C w v

section
variable {P : Program} {n : Nat} {E : Env} {C : World → Prop} {dst : Option Tmp} {ty : TypeId} {pos : String} {aft : Array Edge} {g : Option (Nat × Bool)} {v : Value}

def evd (E : Env) (x : Operand) : Value := (ev E x).getD undef
def known (E : Env) (op : Op) : Bool := op.operands.toList.all fun x => (ev E x).isSome
def noSel : Op → Bool
  | .select .. => false
  | _ => true

theorem OQ.pure {op : Op} (hs : noSel op = true) (hk : known E op = true) (h : pur P (execOp (evd E) ⟨dst, op, ty, pos, aft, g⟩) = some (.value v)) : OQ P n E C ⟨dst, op, ty, pos, aft, g⟩ v := by
  refine ⟨fun a ha w hw => ?_⟩
  have e : execOp a.eval ⟨dst, op, ty, pos, aft, g⟩ = execOp (evd E) ⟨dst, op, ty, pos, aft, g⟩ := by
    refine execOp_congr _ (fun cs b hh => ?_) fun x hx => ?_
    · simp only [] at hh; subst hh; simp [noSel] at hs
    · simp only [known, List.all_eq_true] at hk
      have := hk x (by simpa using hx)
      obtain ⟨u, hu⟩ := Option.isSome_iff_exists.1 this
      rw [ha.eval hu, evd, hu]; rfl
  unfold Oper.quietAt
  rw [e, pur_run h]
  exact ⟨rfl, rfl⟩

theorem OQ.move {x : Operand} (hx : ev E x = some v) : OQ P n E C ⟨dst, .move x, ty, pos, aft, g⟩ v := by
  refine ⟨fun a ha w hw => ?_⟩
  have := ha.eval hx
  exact ⟨rfl, this⟩
theorem OQ.assign {x : Operand} (hx : ev E x = some v) : OQ P n E C ⟨dst, .assign x, ty, pos, aft, g⟩ v := by
  refine ⟨fun a ha w hw => ?_⟩
  have := ha.eval hx
  exact ⟨rfl, this⟩

/-- The value of one operation by hand: it yields v in every world of the class, which is left as it is. -/
theorem OQ.run {op : Op} (h : ∀ a, Knows n E a → ∀ w, C w → (execOp a.eval ⟨dst, op, ty, pos, aft, g⟩).run P w = .ok (.value v) w) : OQ P n E C ⟨dst, op, ty, pos, aft, g⟩ v := by
  refine ⟨fun a ha w hw => ?_⟩
  unfold Oper.quietAt
  rw [h a ha w hw]
  exact ⟨rfl, rfl⟩
end
end Sl
end Go.Proofs.YtbihfhkbkcplmaaDoor

/-
  Of no statement by itself: rules for code, regions (also those whose order Go leaves open), loops, calls and returns, over X's partial knowledge of frame and memory, for any program P.
  Conditions: each rule's own hypotheses.
-/
namespace Go.Proofs.YtbihfhkbkcplmaaDoor
namespace Sl

/-! ### a region whose order is open: quiet operations first, then a chain -/
section
variable {P : Program} {md : Region.Mode} {ops : Array Oper} {C : World → Prop} {n : Nat}
def anyT (P : Program) (md : Region.Mode) (ops : Array Oper) (C : World → Prop) (n : Nat) (L : Array Bool → Act → Prop) : Nat → Array Bool → Act → Prop
  | 0, done, a => L done a
  | f + 1, done, a => Region.ready md ops done ≠ [] ∧ ∀ i ∈ Region.ready md ops done, i < n ∧ qOp P ops C i (anyT P md ops C n L f (done.setIfInBounds i true)) a

theorem any_of_anyT {g : Nat} {L : Array Bool → Act → Prop} {Q : Exit → Act → World → Prop} (hL : ∀ done a w, C w → L done a → wpAny P md ops Q g done a w) :
    ∀ (f : Nat) (done : Array Bool) (a : Act) (w : World), C w → anyT P md ops C n L f done a → wpAny P md ops Q (f + g) done a w
  | 0, done, a, w, hw, h => by rw [Nat.zero_add]; exact hL _ _ _ hw h
  | f + 1, done, a, w, hw, h => by
    rw [show f + 1 + g = (f + g) + 1 by omega]
    exact ⟨fun h0 => absurd h0 h.1, fun i hi => wpOp_of_qOp hw (fun a' w' hw' h' => any_of_anyT hL f _ a' w' hw' h') (h.2 i hi).2⟩

theorem anyT_first {i : Nat} {oi : Oper} {v : Value} {L : Array Bool → Act → Prop} (hi : ops[i]? = some oi) (hsel : ∀ (j : Nat) (o : Oper) cs b, ops[j]? = some o → o.op ≠ .select cs b)
    (hs : Region.sinkB md ops n = true) (hc : Region.chainB md ops n = true) (hn : n < ops.size) (hin : i < n)
    (hend : ∀ done a, L done a → ∀ j ∈ Region.ready md ops done, n ≤ j) :
    ∀ (f : Nat) (done : Array Bool) (a : Act), HeadInv md ops n done →
      (∀ j oj, ops[j]? = some oj → j ≠ i → done.getD j true = false → (∀ e ∈ oj.after, Region.binds md e = true → e.on ≠ i) → oi.apart ops oj = true) →
      i ∈ Region.ready md ops done → YieldsIn P ops C oi v a →
      anyT P md ops C n L f (done.setIfInBounds i true) (a.put oi.dst v) → anyT P md ops C n L (f + 1) done a := by
  intro f
  induction f with
  | zero =>
    intro done a inv _ hr hy H
    have hun := (mem_ready.1 hr).1
    refine ⟨fun h => (by rw [h] at hr; cases hr), fun j hj => ?_⟩
    have hjn : j < n := Nat.lt_of_not_le fun h => tail_waits hs hc hn inv _ i rfl hin hun j h hj
    refine ⟨hjn, ?_⟩
    by_cases hji : j = i
    · subst hji; exact hy.qOp hi H
    · exact absurd (hend _ _ H j (ready_mono hj hji)) (by omega)
  | succ f ih =>
    intro done a inv hfree hr hy H
    have hun := (mem_ready.1 hr).1
    refine ⟨fun h => (by rw [h] at hr; cases hr), fun j hj => ?_⟩
    have hjn : j < n := Nat.lt_of_not_le fun h => tail_waits hs hc hn inv _ i rfl hin hun j h hj
    refine ⟨hjn, ?_⟩
    by_cases hji : j = i
    · subst hji; exact hy.qOp hi H
    · obtain ⟨hjun, oj, hoj, hall⟩ := mem_ready.1 hj
      have hnot : ∀ e ∈ oj.after, Region.binds md e = true → e.on ≠ i := fun e he hb heq => by
        have h1 := hall e he hb
        rw [heq, getD_both hun] at h1
        cases h1
      have h2 := qOp_put hoj (hfree j oj hoj hji hjun hnot) (fun cs b => hsel i oi cs b hi) (fun cs b => hsel j oj cs b hoj) hy (H.2 j (ready_mono hj hji)).2
      refine qOp_mono (fun a' h3 => ih (done.setIfInBounds j true) a' (inv.set hj hjn) (fun k ok hk hki hkun hno => hfree k ok hk hki ?_ hno) (ready_mono hr (Ne.symm hji)) h3.1 ?_) h2
      · by_cases hjk : j = k
        · subst hjk; exact hjun
        · rwa [getD_set_ne true hjk] at hkun
      · rw [Array.setIfInBounds_comm _ _ hji]
        exact h3.2

theorem anyT_lex {g : Nat} {Φ : Act → Prop} (hsel : Region.noSelect ops = true) (hs : Region.sinkB md ops n = true) (hc : Region.chainB md ops n = true) (hn : n < ops.size) :
    ∀ (l : List Oper) (k : Nat) (done : Array Bool) (a : Act), (∀ j, j < l.length → l[j]? = ops[k + j]?) → k + l.length = n → HeadInv md ops n done →
    Region.lexHead md ops g l.length k done = true → wpQuiet P ops C Φ l a →
    anyT P md ops C n (fun done' a' => Region.seqB md ops g n done' = true ∧ Φ a') l.length done a
  | [], k, done, a, _, hk, _, hB, h => by
    have : k = n := by simpa using hk
    subst this
    exact ⟨by simpa [Region.lexHead] using hB, h⟩
  | o :: l, k, done, a, hl, hk, inv, hB, h => by
    have h0 : ops[k]? = some o := by simpa using (hl 0 (by simp)).symm
    simp only [List.length_cons, Region.lexHead, Bool.and_eq_true] at hB
    obtain ⟨⟨hr, hf⟩, hB'⟩ := hB
    have hkn : k < n := by simp only [List.length_cons] at hk; omega
    have hr' : k ∈ Region.ready md ops done := by simpa using hr
    have hst : qOp P ops C k (wpQuiet P ops C Φ l) a := by unfold qOp; simp only [h0]; exact h
    obtain ⟨v, hy, hK⟩ := yieldsIn_of_qOp h0 hst
    exact anyT_first h0 (Region.noSelect_spec hsel) hs hc hn hkn (fun done' a' hL => seqB_ready hL.1) l.length done a inv (Region.free_spec h0 hf) hr' hy
      (anyT_lex hsel hs hc hn l (k + 1) _ _ (fun j hj => by have := hl (j + 1) (by simp; omega); simpa [Nat.add_assoc, Nat.add_comm 1 j] using this) (by simp only [List.length_cons] at hk; omega) (inv.set hr' hkn) hB' hK)

theorem wp_region_quiet_tail {id : Nat} {Q : Exit → Act → World → Prop} {a : Act} {w : World} {l : List Oper} (n : Nat) (hm : P.follows .mixedOrders = true) (hB : Region.lexTailB .any l.toArray n = true)
    (hC : C { w with drawn := w.drawn + 1 })
    (h : wpQuiet P l.toArray C (fun a' => ∀ w', C w' → wpList P l.toArray Q (l.drop n) a' w') (l.take n) a) : (Code.region id l.toArray true).wp P Q a w := by
  simp only [Region.lexTailB, Bool.and_eq_true, decide_eq_true_eq] at hB
  obtain ⟨⟨⟨⟨hsel, hn⟩, hs⟩, hc⟩, hlex⟩ := hB
  have hn' : n < l.length := by simpa using hn
  have htl : (l.take n).length = n := by simp; omega
  have hdl : (l.drop n).length = l.toArray.size - n := by simp
  have inv0 : HeadInv .any l.toArray n (Array.replicate l.toArray.size false) :=
    ⟨by simp, fun j oj _ hl => (by rw [getD_replicate_false] at hl; cases hl), fun t _ ht => getD_in (by simpa using ht) (getD_replicate_false _ _)⟩
  have H := anyT_lex (P := P) (C := C) (md := .any) (g := l.toArray.size - n) hsel hs hc hn (l.take n) 0 _ a (fun j hj => by
    have hj' : j < n := by rw [htl] at hj; exact hj
    simp [hj']) (by simpa using htl) inv0 (by rw [htl]; exact hlex) h
  refine wp_region_any hm ?_
  have := any_of_anyT (Q := Q) (g := l.toArray.size - n) (fun done a' w' hw' hL => by
    have := wpAny_of_seq (md := .any) (Q' := Q) (l.drop n) n done a' w' (fun j => by simp [List.getElem?_drop]) (by rw [hdl]; exact hL.1) (hL.2 w' hw')
    rwa [hdl] at this) _ _ _ _ hC H
  rw [htl, show n + (l.toArray.size - n) = l.toArray.size by omega] at this
  exact this
end

/-! ### the judgements -/
section
variable {P : Program} {n : Nat} {w0 : World} {S : List Nat} {ops : Array Oper} {Q Q' : Exit → Act → World → Prop} {l : List Oper} {E E' : Env} {M M' : List Ent}

structure JL (P : Program) (n : Nat) (w0 : World) (S : List Nat) (ops : Array Oper) (Q : Exit → Act → World → Prop) (l : List Oper) (E : Env) (M : List Ent) : Prop where
  go : ∀ a w, Knows n E a → Holds w0 S M w → wpList P ops Q l a w
structure JE (n : Nat) (w0 : World) (S : List Nat) (Q : Exit → Act → World → Prop) (e : Exit) (E : Env) (M : List Ent) : Prop where
  go : ∀ a w, Knows n E a → Holds w0 S M w → Q e a w
structure JC (P : Program) (n : Nat) (w0 : World) (S : List Nat) (Q : Exit → Act → World → Prop) (c : Code) (E : Env) (M : List Ent) : Prop where
  go : ∀ a w, Knows n E a → Holds w0 S M w → c.wp P Q a w
structure JQ (P : Program) (n : Nat) (w0 : World) (S : List Nat) (ops : Array Oper) (M : List Ent) (Φ : Act → Prop) (l : List Oper) (E : Env) : Prop where
  go : ∀ a, Knows n E a → wpQuiet P ops (Holds w0 S M) Φ l a

theorem JC.seq {x y : Code} (h : JC P n w0 S (Exit.then (y.wp P Q) Q) x E M) : JC P n w0 S Q (.seq x y) E M := ⟨fun a w ha hw => wp_seq (h.go a w ha hw)⟩
theorem JC.skip (h : JE n w0 S Q .normal E M) : JC P n w0 S Q .skip E M := ⟨fun a w ha hw => wp_skip (h.go a w ha hw)⟩
theorem JC.exit {id : Nat} (h : JE n w0 S Q (.exit id) E M) : JC P n w0 S Q (.exit id) E M := ⟨fun a w ha hw => wp_exit (h.go a w ha hw)⟩
theorem JC.ret (h : JE n w0 S Q .ret E M) : JC P n w0 S Q .ret E M := ⟨fun a w ha hw => wp_ret (h.go a w ha hw)⟩
theorem JC.block {id : Nat} {c : Code} (h : JC P n w0 S (Exit.inBlock id Q) c E M) : JC P n w0 S Q (.block id c) E M := ⟨fun a w ha hw => wp_block (h.go a w ha hw)⟩
theorem JC.cond {c : Operand} {x y : Code} {t : Bool} (hc : ev E c = some (.bool t)) (ht : t = true → JC P n w0 S Q x E M) (hf : t = false → JC P n w0 S Q y E M) : JC P n w0 S Q (.cond c x y) E M :=
  ⟨fun a w ha hw => wp_cond_split (ha.eval hc) (fun h => (ht h).go a w ha hw) (fun h => (hf h).go a w ha hw)⟩
theorem JC.cond_true {c : Operand} {x y : Code} {t : Bool} (hc : ev E c = some (.bool t)) (h : t = true) (ht : JC P n w0 S Q x E M) : JC P n w0 S Q (.cond c x y) E M :=
  JC.cond hc (fun _ => ht) (fun h' => by rw [h] at h'; cases h')
theorem JC.cond_false {c : Operand} {x y : Code} {t : Bool} (hc : ev E c = some (.bool t)) (h : t = false) (hf : JC P n w0 S Q y E M) : JC P n w0 S Q (.cond c x y) E M :=
  JC.cond hc (fun h' => by rw [h] at h'; cases h') (fun _ => hf)
theorem JC.region {id : Nat} {l : List Oper} (h : JL P n w0 S l.toArray Q l E M) : JC P n w0 S Q (.region id l.toArray false) E M := ⟨fun a w ha hw => wp_region_lit (h.go a w ha hw)⟩
theorem JC.quiet {id : Nat} {l : List Oper} (hm : P.follows .mixedOrders = true) (hB : Region.lexB .any l.toArray = true)
    (h : JQ P n w0 S l.toArray M (fun a' => ∀ w', Holds w0 S M w' → Q .normal a' w') l E) : JC P n w0 S Q (.region id l.toArray true) E M :=
  ⟨fun a _ ha hw => wp_region_quiet hm hB (hw.drawn _) (by simpa using h.go a ha)⟩
theorem JC.tail {id : Nat} {l : List Oper} (m : Nat) (hm : P.follows .mixedOrders = true) (hB : Region.lexTailB .any l.toArray m = true)
    (h : JQ P n w0 S l.toArray M (fun a' => ∀ w', Holds w0 S M w' → wpList P l.toArray Q (l.drop m) a' w') (l.take m) E) : JC P n w0 S Q (.region id l.toArray true) E M :=
  ⟨fun a _ ha hw => wp_region_quiet_tail m hm hB (hw.drawn _) (h.go a ha)⟩
theorem JC.weak {c : Code} (h : JC P n w0 S Q c E' M') (hE : SubE E E') (hM : Less M' M) : JC P n w0 S Q c E M :=
  ⟨fun a w ha hw => h.go a w (ha.sub hE) (hw.weak hM)⟩
theorem JE.weak {e : Exit} (h : JE n w0 S Q e E' M') (hE : SubE E E') (hM : Less M' M) : JE n w0 S Q e E M :=
  ⟨fun a w ha hw => h.go a w (ha.sub hE) (hw.weak hM)⟩

/-- A loop, its rounds counted down by a measure; i ranges over what the heads of rounds know. -/
theorem JC.loop {ι : Type} (Ei : ι → Env) (Mi : ι → List Ent) (μ : ι → Nat) (I : ι → Prop) {c : Code} (i : ι) (hi : I i) (hE : SubE E (Ei i)) (hM : Less (Mi i) M)
    (h : ∀ i, I i → JC P n w0 S (Exit.then (fun a' w' => ∃ j, I j ∧ μ j < μ i ∧ Knows n (Ei j) a' ∧ Holds w0 S (Mi j) w') Q) c (Ei i) (Mi i)) : JC P n w0 S Q (.loop c) E M := by
  refine ⟨fun a w ha hw => ?_⟩
  have ha' := ha.sub hE
  have hw' := hw.weak hM
  clear ha hw hE hM
  have key : ∀ m i, μ i = m → I i → ∀ a w, Knows n (Ei i) a → Holds w0 S (Mi i) w → ∀ (b : Frame) (k : List Item) (cs : List Frame),
      ∃ e a' w', Q e a' w' ∧ Arrives P (lone (b.at a (.code c :: .inLoop c :: k)) cs w) b k cs e a' w' := by
    intro m
    induction m using Nat.strongRecOn with
    | _ m ih =>
      intro i hm hI a w ha hw b k cs
      obtain ⟨e, a₁, w₁, hq, harr⟩ := (h i hI).go a w ha hw b (.inLoop c :: k) cs
      cases e with
      | normal =>
        obtain ⟨j, hj, hlt, ha₁, hw₁⟩ := hq
        obtain ⟨e₂, a₂, w₂, hq₂, harr₂⟩ := ih (μ j) (hm ▸ hlt) j rfl hj a₁ w₁ ha₁ hw₁ b k cs
        exact ⟨e₂, a₂, w₂, hq₂, .of_steps (Steps.trans harr (.one step_inLoop)) harr₂⟩
      | exit id => exact ⟨_, a₁, w₁, hq, .pass (x := .inLoop c) rfl (fun _ _ => .inl (by simp)) harr⟩
      | goto l => exact ⟨_, a₁, w₁, hq, .pass (x := .inLoop c) rfl (fun _ _ => .inl (by simp)) harr⟩
      | ret => exact ⟨_, a₁, w₁, hq, .pass (x := .inLoop c) rfl (fun _ _ => .inl (by simp)) harr⟩
      | panic ch => exact ⟨_, a₁, w₁, hq, .pass (x := .inLoop c) rfl (fun _ _ => .inl (by simp)) harr⟩
      | outgrown => exact ⟨_, a₁, w₁, hq, .pass (x := .inLoop c) rfl (fun _ _ => .inl (by simp)) harr⟩
  intro b k cs
  obtain ⟨e, a', w', hq, harr⟩ := key _ i rfl hi a w ha' hw' b k cs
  exact ⟨e, a', w', hq, .of_steps (.one step_loop) harr⟩

theorem JE.next {y : Code} (h : JC P n w0 S Q' y E M) : JE n w0 S (Exit.then (y.wp P Q') Q) .normal E M := ⟨h.go⟩
theorem JE.again {ι : Type} {Ei : ι → Env} {Mi : ι → List Ent} {μ : ι → Nat} {I : ι → Prop} {i : ι} (j : ι) (hj : I j) (hμ : μ j < μ i) (hE : SubE E (Ei j)) (hM : Less (Mi j) M) :
    JE n w0 S (Exit.then (fun a' w' => ∃ j, I j ∧ μ j < μ i ∧ Knows n (Ei j) a' ∧ Holds w0 S (Mi j) w') Q) .normal E M :=
  ⟨fun _ _ ha hw => ⟨j, hj, hμ, ha.sub hE, hw.weak hM⟩⟩
theorem JE.then_exit {K : Act → World → Prop} {id : Nat} (h : JE n w0 S Q (.exit id) E M) : JE n w0 S (Exit.then K Q) (.exit id) E M := ⟨h.go⟩
theorem JE.then_ret {K : Act → World → Prop} (h : JE n w0 S Q .ret E M) : JE n w0 S (Exit.then K Q) .ret E M := ⟨h.go⟩
theorem JE.blk_normal {id : Nat} (h : JE n w0 S Q .normal E M) : JE n w0 S (Exit.inBlock id Q) .normal E M := ⟨h.go⟩
theorem JE.blk_hit {id : Nat} (h : JE n w0 S Q .normal E M) : JE n w0 S (Exit.inBlock id Q) (.exit id) E M := ⟨fun a w ha hw => by
  show (if id = id then Q .normal a w else _)
  rw [if_pos rfl]; exact h.go a w ha hw⟩
theorem JL.nil (h : JE n w0 S Q .normal E M) : JL P n w0 S ops Q [] E M := ⟨h.go⟩
theorem JQ.nil (h : JE n w0 S Q .normal E M) : JQ P n w0 S ops M (fun a' => ∀ w', Holds w0 S M w' → Q .normal a' w') [] E := ⟨fun a ha w hw => h.go a w ha hw⟩
theorem JQ.nil_tail {l' : List Oper} (h : JL P n w0 S ops Q l' E M) : JQ P n w0 S ops M (fun a' => ∀ w', Holds w0 S M w' → wpList P ops Q l' a' w') [] E := ⟨fun a ha w hw => h.go a w ha hw⟩

variable {d : Nat} {op : Op} {ty : TypeId} {pos : String} {aft : Array Edge} {v : Value}
theorem JL.q (h : OQ P n E (Holds w0 S M) ⟨some d, op, ty, pos, aft, none⟩ v) (hd : Nat.blt d n = true) (k : JL P n w0 S ops Q l ((d, v) :: E) M) : JL P n w0 S ops Q (⟨some d, op, ty, pos, aft, none⟩ :: l) E M :=
  ⟨fun a _ ha hw => wpList_plain rfl fun _ hK => Oper.wp_of_quiet (C := Holds w0 S M) (K := fun a' => a' = a.put (some d) v) hw (fun _ _ hw' e => hK _ _ (e ▸ k.go _ _ (ha.put d v hd) hw')) ⟨v, h.go a ha, rfl⟩⟩
theorem JQ.q {Φ : Act → Prop} (h : OQ P n E (Holds w0 S M) ⟨some d, op, ty, pos, aft, none⟩ v) (hd : Nat.blt d n = true) (k : JQ P n w0 S ops M Φ l ((d, v) :: E)) : JQ P n w0 S ops M Φ (⟨some d, op, ty, pos, aft, none⟩ :: l) E :=
  ⟨fun a ha => wpQuiet_step fun _ hK => by
    simp only [Region.wanted, if_true]
    exact ⟨v, h.go a ha, hK _ (k.go _ (ha.put d v hd))⟩⟩

/-! ### guards -/
def guardIs (ops : Array Oper) (E : Env) (j : Nat) : Option Bool :=
  match (ops[j]?).bind (·.dst) with
  | some s => match lk E s with
    | some (.bool b) => some b
    | _ => none
  | none => none
theorem guard_spec {j : Nat} {b : Bool} (h : guardIs ops E j = some b) {a : Act} (ha : Knows n E a) (hn : ∀ s, (ops[j]?).bind (·.dst) = some s → Nat.blt s n = true) : yielded ops a.tmps j = some b := by
  unfold guardIs at h
  unfold yielded
  cases hs : (ops[j]?).bind (·.dst) with
  | none => simp [hs] at h
  | some s =>
    simp only [hs] at h
    have hlt : s < n := by simpa using hn s hs
    cases hv : lk E s with
    | none => simp [hv] at h
    | some u =>
      have h1 := ha.all s u hv
      have h2 : a.tmps[s]? = some u := by
        have : s < a.tmps.size := by rw [ha.size]; exact hlt
        rw [Array.getElem?_eq_getElem this]
        simpa [Array.getD, this] using h1
      simp only [hv] at h
      cases u <;> simp at h
      subst h
      simp [h2]
def guardFits (ops : Array Oper) (n j : Nat) : Bool := match (ops[j]?).bind (·.dst) with | some s => Nat.blt s n | none => false
theorem guardFits_spec {j : Nat} (h : guardFits ops n j = true) : ∀ s, (ops[j]?).bind (·.dst) = some s → Nat.blt s n = true := by
  intro s hs
  simpa [guardFits, hs] using h
variable {j : Nat} {want b : Bool}
theorem wanted_of (h : guardIs ops E j = some b) (hf : guardFits ops n j = true) {a : Act} (ha : Knows n E a) : Region.wanted ⟨some d, op, ty, pos, aft, some (j, want)⟩ (yielded ops a.tmps) = (b == want) := by
  simp only [Region.wanted, guard_spec h ha (guardFits_spec hf)]
  cases b <;> cases want <;> rfl
theorem JL.gskip (hg : guardIs ops E j = some b) (hf : guardFits ops n j = true) (hne : (b == want) = false) (hd : Nat.blt d n = true)
    (k : JL P n w0 S ops Q l ((d, undef) :: E) M) : JL P n w0 S ops Q (⟨some d, op, ty, pos, aft, some (j, want)⟩ :: l) E M :=
  ⟨fun a w ha hw => wpList_skip (by rw [wanted_of hg hf ha]; exact hne) (k.go _ _ (ha.put d undef hd) hw)⟩
end
end Sl
end Go.Proofs.YtbihfhkbkcplmaaDoor

/-
  Of no statement by itself: rules for calls, loads, stores, new blocks, a function's entry and its return, over X's partial knowledge of frame and memory, for any program P.
  Conditions: each rule's own hypotheses.
-/
namespace Go.Proofs.YtbihfhkbkcplmaaDoor
namespace Sl

/-! ### what is known of a block -/
def cellAt : Obj → Nat → Option Value
  | .cells c _ _, j => c[j]?
  | _, _ => none
/-- exactly these cells, none of them frozen -/
def Row (e : TypeId) (l : List Value) : Obj → Prop := fun o => o = .cells l.toArray e (0, 0)
/-- these cells first, whatever lies behind them; none frozen -/
def Buf (e : TypeId) (l : List Value) : Obj → Prop := fun o => ∃ sp : List Value, o = .cells (l ++ sp).toArray e (0, 0)
/-- cells from j on -/
def hasCells (o : Obj) (j : Nat) (cs : List Value) : Prop := ∃ c e fr, o = .cells c e fr ∧ ∀ i, i < cs.length → c[j + i]? = cs[i]?

theorem Row.cell {e : TypeId} {l : List Value} {j : Nat} {v : Value} (h : l[j]? = some v) : ∀ o, Row e l o → cellAt o j = some v := by
  rintro o rfl
  simpa [cellAt] using h
theorem Buf.cell {e : TypeId} {l : List Value} {j : Nat} {v : Value} (h : l[j]? = some v) : ∀ o, Buf e l o → cellAt o j = some v := by
  rintro o ⟨sp, rfl⟩
  have hj : j < l.length := (List.getElem?_eq_some_iff.1 h).1
  simpa [cellAt, List.getElem?_append_left hj] using h
theorem Row.cells {e : TypeId} {l cs : List Value} {j : Nat} (h : (l.drop j).take cs.length = cs) : ∀ o, Row e l o → hasCells o j cs := by
  rintro o rfl
  refine ⟨_, _, _, rfl, fun i hi => ?_⟩
  rw [← h]
  simp [hi]
theorem Row.all {e : TypeId} {l : List Value} : ∀ o, Row e l o → hasCells o 0 l := Row.cells (by simp)

/-! ### types -/
def aggT (P : Program) (t : TypeId) : Bool :=
  match P.underlying t with
  | some (.struct _) | some (.array _ _) => true
  | _ => false
def scal (P : Program) (t : TypeId) : Bool :=
  match P.underlying t with
  | some (.struct _) | some (.array _ _) | none => false
  | _ => true
def szT (P : Program) (t : TypeId) : Option Nat := (P.info? t).map (·.size)

section
variable {P : Program} {t : TypeId} {w w' : World} {b j : Nat} {v : Value} {cs : List Value}

theorem isAgg_scal (h : scal P t = true) (w : World) : (isAgg t).run P w = .ok false w := by
  unfold scal at h
  cases hu : P.underlying t with
  | none => simp [hu] at h
  | some d =>
    unfold isAgg
    rw [Sem.run_bind, run_underlying hu w]
    cases d <;> simp_all
theorem isAgg_agg (h : aggT P t = true) (w : World) : (isAgg t).run P w = .ok true w := by
  unfold aggT at h
  cases hu : P.underlying t with
  | none => simp [hu] at h
  | some d =>
    unfold isAgg
    rw [Sem.run_bind, run_underlying hu w]
    cases d <;> simp_all
theorem sizeOf_run {k : Nat} (h : szT P t = some k) (w : World) : (sizeOf t).run P w = .ok k w := by
  unfold szT at h
  cases hq : P.info? t with
  | none => simp [hq] at h
  | some i =>
    have hs : i.size = k := by simpa [hq] using h
    simp [sizeOf, typeInfo, hq, hs]

theorem add_off (b j i : Nat) : (⟨b, j, none⟩ : Addr).add i = ⟨b, j + i, none⟩ := by
  unfold Addr.add
  split <;> simp_all

theorem loadVar_scal (hs : scal P t = true) (hc : w.cell? ⟨b, j, none⟩ = some v) : (loadVar t ⟨b, j, none⟩).run P w = .ok v w := by
  simp [loadVar, Sem.run_bind, isAgg_scal hs, load, Sem.run, hc]
theorem loadVar_agg (ha : aggT P t = true) (hz : szT P t = some cs.length) (hc : ∀ i u, cs[i]? = some u → w.cell? ⟨b, j + i, none⟩ = some u) : (loadVar t ⟨b, j, none⟩).run P w = .ok (.agg cs.toArray) w := by
  have hl : (loadCells ⟨b, j, none⟩ cs.length).run P w = .ok cs.toArray w := run_loadCells_list (P := P) w ⟨b, j, none⟩ cs (fun i u hu => by rw [add_off]; exact hc i u hu)
  simp [loadVar, Sem.run_bind, isAgg_agg ha, sizeOf_run hz, hl]

theorem cell_of {o : Obj} (ho : w.heap[b]? = some o) (h : cellAt o j = some v) : w.cell? ⟨b, j, none⟩ = some v := by
  unfold World.cell?
  simp only [ho]
  cases o <;> simp_all [cellAt]
theorem cells_of {o : Obj} (ho : w.heap[b]? = some o) (h : hasCells o j cs) : ∀ i u, cs[i]? = some u → w.cell? ⟨b, j + i, none⟩ = some u := by
  intro i u hu
  obtain ⟨c, e, fr, rfl, hc⟩ := h
  have hi : i < cs.length := (List.getElem?_eq_some_iff.1 hu).1
  exact cell_of ho (by simp [cellAt, hc i hi, hu])
end

section
variable {P : Program} {n : Nat} {w0 : World} {S : List Nat} {ops : Array Oper} {Q : Exit → Act → World → Prop} {l : List Oper} {E : Env} {M M' : List Ent} {C : World → Prop}
variable {dst : Option Tmp} {d b j : Nat} {op : Op} {t ty : TypeId} {pos : String} {aft : Array Edge} {g : Option (Nat × Bool)} {v : Value} {x y : Operand} {A A' : Obj → Prop} {wr : Bool} {cs : List Value}

/-! ### loads -/
theorem OQ.load_at (ha : ∀ w, C w → (loadVar t ⟨b, j, none⟩).run P w = .ok v w) (hx : ev E x = some (.pointer (some ⟨b, j, none⟩))) : OQ P n E C ⟨dst, .load t x, ty, pos, aft, g⟩ v :=
  OQ.run fun a hk w hw => by
    have := hk.eval hx
    simp [execOp, this, Instr.loadAt, Instr.sureAddr, ha w hw]
theorem OQ.load (hs : scal P t = true) (hx : ev E x = some (.pointer (some ⟨b, j, none⟩))) (hM : Has M b A wr) (hA : ∀ o, A o → cellAt o j = some v) : OQ P n E (Holds w0 S M) ⟨dst, .load t x, ty, pos, aft, g⟩ v :=
  OQ.load_at (fun _ hw => let ⟨_, ho, hAo⟩ := hw.get hM; loadVar_scal hs (cell_of ho (hA _ hAo))) hx
theorem OQ.load_old (hs : scal P t = true) (hx : ev E x = some (.pointer (some ⟨b, j, none⟩))) (hb : b < w0.heap.size) (hS : b ∉ S) (hc : w0.cell? ⟨b, j, none⟩ = some v) : OQ P n E (Holds w0 S M) ⟨dst, .load t x, ty, pos, aft, g⟩ v :=
  OQ.load_at (fun w hw => loadVar_scal hs (by simpa [World.cell?, hw.old hb hS] using hc)) hx
theorem OQ.load_agg {k : Nat} (ha : aggT P t = true) (hz' : szT P t = some k) (hx : ev E x = some (.pointer (some ⟨b, j, none⟩))) (hM : Has M b A wr) (hl : cs.length = k) (hA : ∀ o, A o → hasCells o j cs) : OQ P n E (Holds w0 S M) ⟨dst, .load t x, ty, pos, aft, g⟩ (.agg cs.toArray) :=
  OQ.load_at (fun _ hw => let ⟨_, ho, hAo⟩ := hw.get hM; loadVar_agg ha (hl ▸ hz') (cells_of ho (hA _ hAo))) hx
theorem OQ.load_agg_old (ha : aggT P t = true) (hx : ev E x = some (.pointer (some ⟨b, j, none⟩))) (hz : szT P t = some cs.length) (hb : b < w0.heap.size) (hS : b ∉ S) (hc : ∀ i u, cs[i]? = some u → w0.cell? ⟨b, j + i, none⟩ = some u) : OQ P n E (Holds w0 S M) ⟨dst, .load t x, ty, pos, aft, g⟩ (.agg cs.toArray) :=
  OQ.load_at (fun w hw => loadVar_agg ha hz (fun i u hu => by simpa [World.cell?, hw.old hb hS] using hc i u hu)) hx

/-! ### calls of functions with a body -/
def Goes (P : Program) (f : FuncId) : Prop := ∃ fn, P.funcs[f]? = some fn ∧ fn.body.isNone = false ∧ (fn.name == "runtime.NumGoroutine") = false
def evs (E : Env) : List Operand → Option (List Value)
  | [] => some []
  | x :: xs => match ev E x, evs E xs with
    | some v, some vs => some (v :: vs)
    | _, _ => none
theorem evs_map {a : Act} (hk : Knows n E a) : ∀ {xs : List Operand} {vs : List Value}, evs E xs = some vs → xs.map a.eval = vs
  | [], vs, h => by simpa [evs] using h
  | x :: xs, vs, h => by
    simp only [evs] at h
    cases h1 : ev E x with
    | none => simp [h1] at h
    | some v =>
      cases h2 : evs E xs with
      | none => simp [h1, h2] at h
      | some us =>
        simp only [h1, h2, Option.some.injEq] at h
        subst h
        simp [hk.eval h1, evs_map hk h2]
theorem exec_call {f : FuncId} {xs : List Operand} {ats : Array TypeId} {vs : List Value} {a : Act} (hg : Goes P f) (hk : Knows n E a) (hx : evs E xs = some vs) (w : World) :
    (execOp a.eval ⟨dst, .call ⟨.value (.func f), xs.toArray, ats⟩, ty, pos, aft, g⟩).run P w = .ok (.enter f vs.toArray) w := by
  obtain ⟨fn, h1, h2, h3⟩ := hg
  have hm : xs.toArray.map a.eval = vs.toArray := by simp [evs_map hk hx]
  have h2' : ¬ fn.body = none := fun h => by rw [h] at h2; cases h2
  have h3' : ¬ fn.name = "runtime.NumGoroutine" := by simpa using h3
  simp [execOp, resolve, Sem.run_bind, hm, Act.eval, Deferred.ofValue, invoke, callFunc, program, Sem.run, h1, h2', h3']
theorem OQ.call {f : FuncId} {xs : List Operand} {ats : Array TypeId} {vs : List Value} (hg : Goes P f) (hx : evs E xs = some vs) (hc : ∀ w, C w → Calls P f vs.toArray w fun e w' => e = .returned v ∧ C w') : OQ P n E C ⟨dst, .call ⟨.value (.func f), xs.toArray, ats⟩, ty, pos, aft, g⟩ v := by
  refine ⟨fun a hk w hw => ?_⟩
  unfold Oper.quietAt
  rw [exec_call hg hk hx w]
  exact ⟨rfl, hc w hw⟩
/-- .. of a function that keeps all blocks that are there. -/
theorem OQ.callx {f : FuncId} {xs : List Operand} {ats : Array TypeId} {vs : List Value} (hg : Goes P f) (hx : evs E xs = some vs) (hc : ∀ w, Holds w0 S M w → Calls P f vs.toArray w fun e w' => e = .returned v ∧ Ext w w') :
    OQ P n E (Holds w0 S M) ⟨dst, .call ⟨.value (.func f), xs.toArray, ats⟩, ty, pos, aft, g⟩ v :=
  OQ.call hg hx fun w hw => (hc w hw).mono fun _ _ ⟨h1, h2⟩ => ⟨h1, hw.ext h2⟩

theorem JL.call {ι : Type} (vf : ι → Value) (Mf : ι → List Ent) {f : FuncId} {xs : List Operand} {ats : Array TypeId} {vs : List Value} (hg : Goes P f) (hx : evs E xs = some vs) (hd : Nat.blt d n = true)
    (hc : ∀ w, Holds w0 S M w → Calls P f vs.toArray w fun e w' => ∃ i, e = .returned (vf i) ∧ Holds w0 S (Mf i) w')
    (k : ∀ i, JL P n w0 S ops Q l ((d, vf i) :: E) (Mf i)) : JL P n w0 S ops Q (⟨some d, .call ⟨.value (.func f), xs.toArray, ats⟩, ty, pos, aft, none⟩ :: l) E M :=
  ⟨fun a w ha hw => wpList_plain rfl fun K hK => by
    unfold Oper.wp
    rw [exec_call hg ha hx w]
    exact (hc w hw).mono fun e w' ⟨i, h1, h2⟩ => by subst h1; exact hK _ _ ((k i).go _ _ (ha.put d _ hd) h2)⟩

/-! ### new blocks -/
def pnew {α : Type} (P : Program) : Sem α → Option (Obj × (Nat → Sem α))
  | .new o k => some (o, k)
  | .program k => pnew P (k P)
  | .mark _ k => pnew P k
  | _ => none
theorem pnew_run {α : Type} {vf : Nat → α} {ob : Obj} {kk : Nat → Sem α} : ∀ {s : Sem α} {w : World}, pnew P s = some (ob, kk) → (∀ r, pur P (kk r) = some (vf r)) → s.run P w = .ok (vf w.heap.size) { w with heap := w.heap.push ob }
  | .new o k, w, h, h2 => by
    simp only [pnew, Option.some.injEq, Prod.mk.injEq] at h
    obtain ⟨rfl, rfl⟩ := h
    exact pur_run (h2 _)
  | .program k, w, h, h2 => by simp only [pnew] at h; exact pnew_run (s := k P) h h2
  | .mark _ k, w, h, h2 => by simp only [pnew] at h; exact pnew_run (s := k) h h2
  | .load .., _, h, _ | .store .., _, h, _ | .pure .., _, h, _ | .shape .., _, h, _ | .freeze .., _, h, _ | .frozen .., _, h, _ | .getObj .., _, h, _ | .setObj .., _, h, _ | .choose .., _, h, _ | .sys .., _, h, _ | .halt .., _, h, _ => by simp [pnew] at h
theorem exec_evd {o : Oper} {a : Act} (hs : noSel o.op = true) (hk : known E o.op = true) (ha : Knows n E a) : execOp a.eval o = execOp (evd E) o := by
  refine execOp_congr _ (fun cs b hh => ?_) fun x hx => ?_
  · rw [hh] at hs; simp [noSel] at hs
  · simp only [known, List.all_eq_true] at hk
    obtain ⟨u, hu⟩ := Option.isSome_iff_exists.1 (hk x (by simpa using hx))
    rw [ha.eval hu, evd, hu]; rfl
theorem JL.new (A : Obj → Prop) (vf : Nat → Value) {ob : Obj} {kk : Nat → Sem Next} (hs : noSel op = true) (hk : known E op = true) (h1 : pnew P (execOp (evd E) ⟨some d, op, ty, pos, aft, none⟩) = some (ob, kk))
    (h2 : ∀ r, pur P (kk r) = some (.value (vf r))) (hA : A ob) (hd : Nat.blt d n = true)
    (k : ∀ b, w0.heap.size ≤ b → JL P n w0 S ops Q l ((d, vf b) :: E) (⟨b, A, true⟩ :: M)) : JL P n w0 S ops Q (⟨some d, op, ty, pos, aft, none⟩ :: l) E M :=
  ⟨fun a w ha hw => wpList_plain rfl fun K hK => by
    unfold Oper.wp
    rw [exec_evd hs hk ha, pnew_run (vf := fun r => Next.value (vf r)) h1 h2]
    exact hK _ _ ((k w.heap.size hw.chg.size).go _ _ (ha.put d _ hd) (hw.push ob hA rfl rfl rfl rfl))⟩

@[reducible] def Pt (b j : Nat) : Value := .pointer (some ⟨b, j, none⟩)
def zc (P : Program) (t : TypeId) : Option (List Value) := ((P.info? t).bind (·.zero)).map (·.cells.toList)
theorem JL.alloc {r : List Value} (hz : zc P t = some r) (hd : Nat.blt d n = true)
    (k : ∀ b, w0.heap.size ≤ b → JL P n w0 S ops Q l ((d, Pt b 0) :: E) (⟨b, Row t r, true⟩ :: M)) : JL P n w0 S ops Q (⟨some d, .alloc t, ty, pos, aft, none⟩ :: l) E M :=
  ⟨fun a w ha hw => wpList_plain rfl fun K hK => by
    have hr : (Instr.alloc t true (.tuple #[])).run P w = .ok (Pt w.heap.size 0) { w with heap := w.heap.push (.cells r.toArray t (0, 0)) } := by
      unfold zc at hz
      cases hq : P.info? t with
      | none => simp [hq] at hz
      | some i =>
        cases hi : i.zero with
        | none => simp [hq, hi] at hz
        | some z =>
          simp only [hq, hi, Option.bind_some, Option.map_some, Option.some.injEq] at hz
          have h1 : z.cells = r.toArray := by rw [← hz]
          simp [Instr.alloc, zeroValue, typeInfo, Sem.run_bind, hq, hi, newVar, newRow, newObj, h1, Sem.run]
    unfold Oper.wp
    simp only [execOp, Sem.run_bind, hr, Result.andThen_ok]
    exact hK _ _ ((k w.heap.size hw.chg.size).go _ _ (ha.put d _ hd) (hw.push (.cells r.toArray t (0, 0)) rfl rfl rfl rfl rfl))⟩
theorem JL.box {r : List Value} (hx : ev E x = some v) (hr : v.cells = r.toArray) (hd : Nat.blt d n = true)
    (k : ∀ b, w0.heap.size ≤ b → JL P n w0 S ops Q l ((d, Pt b 0) :: E) (⟨b, Row t r, true⟩ :: M)) : JL P n w0 S ops Q (⟨some d, .box t x, ty, pos, aft, none⟩ :: l) E M :=
  ⟨fun a w ha hw => wpList_plain rfl fun K hK => by
    have h1 : (Instr.box t v).run P w = .ok (Pt w.heap.size 0) { w with heap := w.heap.push (.cells r.toArray t (0, 0)) } := by
      simp [Instr.box, newVar, newRow, newObj, hr, Sem.run]
    unfold Oper.wp
    simp only [execOp, ha.eval hx, Sem.run_bind, h1, Result.andThen_ok]
    exact hK _ _ ((k w.heap.size hw.chg.size).go _ _ (ha.put d _ hd) (hw.push (.cells r.toArray t (0, 0)) rfl rfl rfl rfl rfl))⟩
theorem map_at {α : Type} (f : α → Value) (d : α) {r : List α} {j : Nat} (h : j < r.length) : (r.map f)[j]? = some (f (r.getD j d)) := by
  simp [h]

/-! ### stores -/
theorem setCell_heap {w : World} {c : Array Value} {e : TypeId} {fr : Nat × Nat} (ho : w.heap[b]? = some (.cells c e fr)) :
    (w.setCell ⟨b, j, none⟩ v).heap[b]? = some (.cells (c.setIfInBounds j v) e fr) := by
  simp [World.setCell, Array.getElem?_modify, ho]
theorem setCell_other {w : World} {k : Nat} (h : k ≠ b) : (w.setCell ⟨b, j, none⟩ v).heap[k]? = w.heap[k]? := by
  simp [World.setCell, Array.getElem?_modify, Ne.symm h]
theorem setCell_size {w : World} : (w.setCell ⟨b, j, none⟩ v).heap.size = w.heap.size := by simp [World.setCell]

theorem store_run {w : World} {c : Array Value} {e : TypeId} (hv : v.oneCell' = true) (ho : w.heap[b]? = some (.cells c e (0, 0))) (hj : j < c.size) :
    (Go.store ⟨b, j, none⟩ v).run P w = .ok () (w.setCell ⟨b, j, none⟩ v) := by
  have hc : w.cell? ⟨b, j, none⟩ = some c[j] := by simp [World.cell?, ho, hj]
  have hf : w.frozen? ⟨b, j, none⟩ = false := by simp [World.frozen?, ho]
  cases v <;> simp_all [Go.store, Sem.run, Value.oneCell']

theorem storeCells_run {e : TypeId} : ∀ (vs : List Value) (i : Nat) (w : World) (c : List Value), (∀ v ∈ vs, v.oneCell' = true) → w.heap[b]? = some (.cells c.toArray e (0, 0)) → j + i + vs.length ≤ c.length →
    ∃ w', (storeCells ⟨b, j, none⟩ vs i).run P w = .ok () w' ∧ w'.heap[b]? = some (.cells (c.take (j + i) ++ vs ++ c.drop (j + i + vs.length)).toArray e (0, 0)) ∧ w'.heap.size = w.heap.size ∧
      (∀ k, k ≠ b → w'.heap[k]? = w.heap[k]?) ∧ w'.os = w.os ∧ w'.tape = w.tape ∧ w'.output = w.output
  | [], i, w, c, _, ho, _ => ⟨w, rfl, by simpa using ho, rfl, fun _ _ => rfl, rfl, rfl, rfl⟩
  | v :: vs, i, w, c, h1, ho, hl => by
    simp only [List.length_cons] at hl
    obtain ⟨w', r1, r2, r3, r4, r5, r6, r7⟩ := storeCells_run (e := e) vs (i + 1) (w.setCell ⟨b, j + i, none⟩ v) (c.set (j + i) v) (fun u hu => h1 u (by simp [hu])) (by
      rw [setCell_heap ho]; simp) (by simp; omega)
    refine ⟨w', ?_, ?_, r3.trans setCell_size, fun k hk => (r4 k hk).trans (setCell_other hk), r5, r6, r7⟩
    · simp only [storeCells, Sem.run_bind, add_off]
      rw [store_run (h1 v (by simp)) ho (by simp; omega)]
      exact r1
    · rw [r2]
      congr 3
      rw [List.take_set, List.drop_set, if_pos (by omega)]
      rw [show j + (i + 1) = j + i + 1 by omega, List.take_add_one]
      simp only [List.getElem?_eq_getElem (show j + i < c.length by omega), Option.toList_some, List.length_cons]
      rw [List.set_append_right _ _ (by rw [List.length_take]; omega)]
      simp [List.length_take, Nat.min_eq_left (show j + i ≤ c.length by omega), Nat.add_assoc, Nat.add_comm, Nat.add_left_comm]

theorem JL.eff {hb : Option Tmp} (h : ∀ a w, Knows n E a → Holds w0 S M w → ∃ w', (execOp a.eval ⟨hb, op, ty, pos, aft, none⟩).run P w = .ok .skip w' ∧ wpList P ops Q l (a.put hb undef) w') : JL P n w0 S ops Q (⟨hb, op, ty, pos, aft, none⟩ :: l) E M :=
  ⟨fun a w ha hw => wpList_plain rfl fun K hK => by
    obtain ⟨w', h1, h2⟩ := h a w ha hw
    unfold Oper.wp
    rw [h1]
    exact hK _ _ h2⟩

theorem JL.store (hx : ev E x = some (.pointer (some ⟨b, j, none⟩))) (hy : ev E y = some v) (hz : szT P t = some 1) (hv : v.oneCell' = true) (hcl : v.cells = #[v]) (hu : Upd M b A A' M')
    (hA : ∀ o, A o → ∃ c e, o = .cells c e (0, 0) ∧ j < c.size ∧ A' (.cells (c.setIfInBounds j v) e (0, 0)))
    (k : JL P n w0 S ops Q l E M') : JL P n w0 S ops Q (⟨none, .store t x y, ty, pos, aft, none⟩ :: l) E M :=
  JL.eff fun a w ha hw => by
    obtain ⟨o, ho, hAo⟩ := hw.get hu.has
    obtain ⟨c, e, rfl, hj, hA'⟩ := hA o hAo
    refine ⟨w.setCell ⟨b, j, none⟩ v, ?_, k.go _ _ (ha.put_none _) (hw.write hu hA' (setCell_heap ho) setCell_size (fun _ h => setCell_other h) rfl rfl rfl)⟩
    have hs : (storeCells ⟨b, j, none⟩ [v] 0).run P w = .ok () (w.setCell ⟨b, j, none⟩ v) := by
      simp only [storeCells, Sem.run_bind, add_off, Nat.add_zero]
      rw [store_run hv ho hj]; rfl
    simp [execOp, ha.eval hx, ha.eval hy, Instr.storeAt, Instr.sureAddr, Sem.run_bind, storeVar, sizeOf_run hz, hcl, hs]
theorem JL.store_row {r : List Value} {e : TypeId} (hx : ev E x = some (.pointer (some ⟨b, j, none⟩))) (hy : ev E y = some v) (hz : szT P t = some 1) (hv : v.oneCell' = true) (hcl : v.cells = #[v]) (hu : Upd M b (Row e r) (Row e (r.set j v)) M') (hj : j < r.length)
    (k : JL P n w0 S ops Q l E M') : JL P n w0 S ops Q (⟨none, .store t x y, ty, pos, aft, none⟩ :: l) E M :=
  JL.store hx hy hz hv hcl hu (fun o ho => ⟨_, _, ho, by simpa using hj, by simp [Row]⟩) k
theorem JL.store_eq {r r' : List Value} {e : TypeId} (hz : szT P t = some 1) (hx : ev E x = some (.pointer (some ⟨b, j, none⟩))) (hy : ev E y = some v) (hv : v.oneCell' = true) (hcl : v.cells = #[v]) (hu : Upd M b (Row e r) (Row e r') M') (hj : j < r.length) (he : r.set j v = r')
    (k : JL P n w0 S ops Q l E M') : JL P n w0 S ops Q (⟨none, .store t x y, ty, pos, aft, none⟩ :: l) E M :=
  JL.store hx hy hz hv hcl hu (fun o ho => ⟨_, _, ho, by simpa using hj, by simp [Row, he]⟩) k
theorem JL.store_agg {k : Nat} (hz' : szT P t = some k) (hx : ev E x = some (.pointer (some ⟨b, j, none⟩))) (hy : ev E y = some (.agg cs.toArray)) (hl : cs.length = k) (hv : cs.all Value.oneCell' = true) (hu : Upd M b A A' M')
    (hA : ∀ o, A o → ∃ r e, o = .cells (List.toArray r) e (0, 0) ∧ j + cs.length ≤ r.length ∧ A' (.cells (r.take j ++ cs ++ r.drop (j + cs.length)).toArray e (0, 0)))
    (k : JL P n w0 S ops Q l E M') : JL P n w0 S ops Q (⟨none, .store t x y, ty, pos, aft, none⟩ :: l) E M :=
  JL.eff fun a w ha hw => by
    have hz : szT P t = some cs.length := hl ▸ hz'
    obtain ⟨o, ho, hAo⟩ := hw.get hu.has
    obtain ⟨r, e, rfl, hj, hA'⟩ := hA o hAo
    obtain ⟨w', r1, r2, r3, r4, r5, r6, r7⟩ := storeCells_run (P := P) (j := j) cs 0 w r (fun v hv' => List.all_eq_true.1 hv v hv') ho (by omega)
    refine ⟨w', ?_, k.go _ _ (ha.put_none _) (hw.write hu hA' (by simpa using r2) r3 r4 r5 r6 r7)⟩
    simp [execOp, ha.eval hx, ha.eval hy, Instr.storeAt, Instr.sureAddr, Sem.run_bind, storeVar, sizeOf_run hz, Value.cells, r1]
/-- .. over the whole row -/
theorem JL.store_all {r : List Value} {e : TypeId} {m : Nat} (hz : szT P t = some m) (hx : ev E x = some (.pointer (some ⟨b, 0, none⟩))) (hy : ev E y = some (.agg cs.toArray)) (hc : cs.length = m) (hv : cs.all Value.oneCell' = true) (hu : Upd M b (Row e r) (Row e cs) M')
    (hr : r.length = m) (k : JL P n w0 S ops Q l E M') : JL P n w0 S ops Q (⟨none, .store t x y, ty, pos, aft, none⟩ :: l) E M :=
  JL.store_agg hz hx hy hc hv hu (fun o ho => ⟨r, e, ho, by omega, by simp [Row, hc, ← hr]⟩) k

/-! ### entry and return -/
def enum : Nat → List Value → Env
  | _, [] => []
  | i, v :: vs => (i, v) :: enum (i + 1) vs
theorem lk_enum : ∀ (vs : List Value) (i t : Nat) (v : Value), lk (enum i vs) t = some v → i ≤ t ∧ vs[t - i]? = some v
  | [], _, _, _, h => by simp [enum, lk] at h
  | u :: vs, i, t, v, h => by
    simp only [enum, lk] at h
    by_cases e : i = t
    · subst e
      simp at h
      simp [h]
    · have : Nat.beq i t = false := Bool.eq_false_iff.2 fun h => e (Nat.eq_of_beq_eq_true h)
      rw [this] at h
      obtain ⟨h1, h2⟩ := lk_enum vs (i + 1) t v h
      refine ⟨by omega, ?_⟩
      rw [show t - i = (t - (i + 1)) + 1 by omega]
      simpa using h2
theorem Knows.enter (vs : List Value) (hl : vs.length ≤ n) : Knows n (enum 0 vs) ⟨vs.toArray ++ Array.replicate (n - vs.toArray.size) undef, []⟩ := by
  refine ⟨by simp; omega, rfl, fun t v h => ?_⟩
  obtain ⟨_, h2⟩ := lk_enum vs 0 t v h
  have ht : t < vs.length := (List.getElem?_eq_some_iff.1 h2).1
  simp only [Nat.sub_zero] at h2
  have h3 := (List.getElem?_eq_some_iff.1 h2).2
  simp [Array.getD_eq_getD_getElem?, Array.getElem?_append, ht, h3]
theorem enter {f : FuncId} {fn : Func} {c : Code} {vs : List Value} {w : World} {R : Ending → World → Prop} (hf : P.funcs[f]? = some fn) (hb : fn.body = some c) (hn : fn.ntmps = n) (hl : Nat.ble vs.length n = true)
    (hM : Holds w S M w) (h : JC P n w S (bodyPost P fn R) c (enum 0 vs) M) : Calls P f vs.toArray w R := by
  refine calls_of_wp hf hb (h.go _ _ ?_ hM)
  rw [hn]
  exact Knows.enter vs (by simpa using hl)

def rvRun (tmps : Array Value) : ResultVar → Sem Value
  | .tmp t => pure (tmps.getD t undef)
  | .cell p ty => do loadVar ty (← asAddr (tmps.getD p undef))
theorem results_eq (fn : Func) (tmps : Array Value) : results fn tmps = (do let vs ← fn.results.mapM (rvRun tmps); pure (if h : vs.size = 1 then vs[0] else .tuple vs)) := by
  unfold results
  congr 2
def RV (P : Program) (n : Nat) (w0 : World) (S : List Nat) (E : Env) (M : List Ent) (r : ResultVar) (v : Value) : Prop :=
  ∀ a w, Knows n E a → Holds w0 S M w → (rvRun a.tmps r).run P w = .ok v w
theorem RV.tmp {t : Tmp} (h : lk E t = some v) : RV P n w0 S E M (.tmp t) v := fun a w ha _ => by
  simp only [rvRun, ha.all t v h]; rfl
theorem RV.cell_agg {p : Tmp} {k : Nat} (ha : aggT P t = true) (hz : szT P t = some k) (h : lk E p = some (.pointer (some ⟨b, 0, none⟩))) (hM : Has M b A wr) (hl : cs.length = k) (hA : ∀ o, A o → hasCells o 0 cs) : RV P n w0 S E M (.cell p t) (.agg cs.toArray) := fun a w hk hw => by
  obtain ⟨o, ho, hAo⟩ := hw.get hM
  have := loadVar_agg (P := P) ha (hl ▸ hz) (cells_of ho (hA o hAo))
  simp [rvRun, hk.all p _ h, asAddr, this]
theorem RV.cell {p : Tmp} (h : lk E p = some (.pointer (some ⟨b, 0, none⟩))) (ha : scal P t = true) (hM : Has M b A wr) (hA : ∀ o, A o → cellAt o 0 = some v) : RV P n w0 S E M (.cell p t) v := fun a w hk hw => by
  obtain ⟨o, ho, hAo⟩ := hw.get hM
  have := loadVar_scal (P := P) ha (cell_of ho (hA o hAo))
  simp [rvRun, hk.all p _ h, asAddr, this]

variable {fn : Func} {R : Ending → World → Prop} {r1 r2 r3 : ResultVar} {v1 v2 v3 : Value}
theorem JE.ret0 (hr : fn.results = #[]) (hR : ∀ w, Holds w0 S M w → R (.returned (.tuple #[])) w) : JE n w0 S (bodyPost P fn R) .ret E M := ⟨fun a w ha hw =>
  ⟨ha.defers, .tuple #[], by simp [results, hr], hR w hw⟩⟩
theorem JE.end0 (hr : fn.results = #[]) (hR : ∀ w, Holds w0 S M w → R (.returned (.tuple #[])) w) : JE n w0 S (bodyPost P fn R) .normal E M := ⟨fun a w ha hw =>
  ⟨ha.defers, .tuple #[], by simp [results, hr], hR w hw⟩⟩
theorem JE.ret1 (hr : fn.results = #[r1]) (h1 : RV P n w0 S E M r1 v1) (hR : ∀ w, Holds w0 S M w → R (.returned v1) w) : JE n w0 S (bodyPost P fn R) .ret E M := by
  refine ⟨fun a w ha hw => ?_⟩
  refine ⟨ha.defers, v1, ?_, hR w hw⟩
  have e1 := h1 a w ha hw
  rw [results_eq, hr]
  simp [e1]
theorem JE.ret2 (hr : fn.results = #[r1, r2]) (h1 : RV P n w0 S E M r1 v1) (h2 : RV P n w0 S E M r2 v2) (hR : ∀ w, Holds w0 S M w → R (.returned (.tuple #[v1, v2])) w) : JE n w0 S (bodyPost P fn R) .ret E M := by
  refine ⟨fun a w ha hw => ?_⟩
  refine ⟨ha.defers, .tuple #[v1, v2], ?_, hR w hw⟩
  have e1 := h1 a w ha hw
  have e2 := h2 a w ha hw
  rw [results_eq, hr]
  simp [Sem.run_bind, e1, e2]
end
end Sl
end Go.Proofs.YtbihfhkbkcplmaaDoor

/-
  Of no statement by itself: rules for single operations on numbers (words of 8, 32 and 64 bits as bit vectors, int as a natural number), addresses and slices, over X's partial knowledge of frame and memory, for any program P.
  Conditions: each rule's own hypotheses.
-/
namespace Go.Proofs.YtbihfhkbkcplmaaDoor
namespace Sl

@[reducible] def N (a : Nat) : Value := .int .i64 a
@[reducible] def U8 (a : BitVec 8) : Value := .int .u8 a.toNat
@[reducible] def U32 (a : BitVec 32) : Value := .int .u32 a.toNat
@[reducible] def U64 (a : BitVec 64) : Value := .int .u64 a.toNat

section
variable {P : Program} {n : Nat} {E : Env} {C : World → Prop} {dst : Option Tmp} {ty t t' : TypeId} {pos : String} {aft : Array Edge} {g : Option (Nat × Bool)} {x y : Operand} {u v r : Value} {o : BinOp}

def notEq : BinOp → Bool
  | .eql | .neq => false
  | _ => true
theorem OQ.bin (hx : ev E x = some u) (hy : ev E y = some v) (ho : notEq o = true) (h : ∀ w, (binOp o t u v).run P w = .ok r w) : OQ P n E C ⟨dst, .binOp o t x y t', ty, pos, aft, g⟩ r :=
  OQ.run fun a ha w _ => by
    have h1 := ha.eval hx
    have h2 := ha.eval hy
    have hg : ∀ w, (eqGuard o t x y u v).run P w = .ok () w := fun w => by
      cases o <;> first | rfl | cases ho
    simp [execOp, h1, h2, Sem.run_bind, hg, h w]
/-- equality of two numbers of one kind -/
theorem OQ.eqi {k : IntKind} {a b : Int} (hx : ev E x = some (.int k a)) (hy : ev E y = some (.int k b)) : OQ P n E C ⟨dst, .binOp .eql t x y t', ty, pos, aft, g⟩ (.bool (decide (a = b))) :=
  OQ.run fun c ha w _ => by
    have h1 := ha.eval hx
    have h2 := ha.eval hy
    simp [execOp, h1, h2, eqGuard, binOp, Op.intCmp]
    rfl
theorem OQ.nei {k : IntKind} {a b : Int} (hx : ev E x = some (.int k a)) (hy : ev E y = some (.int k b)) : OQ P n E C ⟨dst, .binOp .neq t x y t', ty, pos, aft, g⟩ (.bool (!decide (a = b))) :=
  OQ.run fun c ha w _ => by
    have h1 := ha.eval hx
    have h2 := ha.eval hy
    simp [execOp, h1, h2, eqGuard, binOp, Op.intCmp]
    rfl

/-! #### int as a natural number -/
theorem okInt {w : World} {k : IntKind} {i j : Int} (e : i = j) : (Result.ok (Value.int k i) w : Result Value) = .ok (.int k j) w := by rw [e]
theorem okBool {w : World} {i j : Bool} (e : i = j) : (Result.ok (Value.bool i) w : Result Value) = .ok (.bool j) w := by rw [e]
theorem wrapN {a : Int} (h0 : -9223372036854775808 ≤ a) (h : a < 9223372036854775808) : IntKind.i64.wrap a = a := by
  simp [IntKind.wrap, IntKind.bits, IntKind.signed]; omega
theorem OQ.addN {a b : Nat} (hx : ev E x = some (N a)) (hy : ev E y = some (N b)) (h : a + b < 9223372036854775808) : OQ P n E C ⟨dst, .binOp .add t x y t', ty, pos, aft, g⟩ (N (a + b)) :=
  OQ.bin hx hy rfl fun _ => okInt (k := .i64) (show IntKind.i64.wrap ((a : Int) + b) = ((a + b : Nat) : Int) from (wrapN (by omega) (by omega)).trans (by simp))
theorem OQ.subN {a b : Nat} (hx : ev E x = some (N a)) (hy : ev E y = some (N b)) (h : b ≤ a) (h2 : a < 9223372036854775808) : OQ P n E C ⟨dst, .binOp .sub t x y t', ty, pos, aft, g⟩ (N (a - b)) :=
  OQ.bin hx hy rfl fun _ => okInt (k := .i64) (show IntKind.i64.wrap ((a : Int) - b) = ((a - b : Nat) : Int) from (wrapN (by omega) (by omega)).trans (by omega))
theorem OQ.mulN {a b : Nat} (hx : ev E x = some (N a)) (hy : ev E y = some (N b)) (h : a * b < 9223372036854775808) : OQ P n E C ⟨dst, .binOp .mul t x y t', ty, pos, aft, g⟩ (N (a * b)) :=
  OQ.bin hx hy rfl fun _ => okInt (k := .i64) (show IntKind.i64.wrap ((a : Int) * b) = ((a * b : Nat) : Int) from by
    rw [← Int.natCast_mul]
    generalize a * b = c at h
    exact wrapN (by omega) (by omega))
theorem OQ.quoN {a b : Nat} (hx : ev E x = some (N a)) (hy : ev E y = some (N b)) (h : 0 < b) (h2 : a < 9223372036854775808) : OQ P n E C ⟨dst, .binOp .quo t x y t', ty, pos, aft, g⟩ (N (a / b)) :=
  OQ.bin hx hy rfl fun w => by
    have h3 : a / b ≤ a := Nat.div_le_self _ _
    have h4 : ((a : Int).tdiv b) = ((a / b : Nat) : Int) := by rw [Int.tdiv_eq_ediv_of_nonneg (by omega)]; exact_mod_cast rfl
    have h5 : ¬ (b : Int) = 0 := by omega
    have h6 : IntKind.i64.wrap ((a : Int).tdiv b) = ((a / b : Nat) : Int) := by rw [h4]; generalize a / b = c at h3; exact wrapN (by omega) (by omega)
    have h7 : Op.intDiv .quo .i64 (a : Int) b = (Pure.pure (.int .i64 (IntKind.i64.wrap ((a : Int).tdiv b))) : Sem Value) := by simp only [Op.intDiv, if_neg h5]
    show Sem.run P (Op.intDiv .quo .i64 (a : Int) b) w = _
    rw [h7, h6]; rfl
theorem OQ.remN {a b : Nat} (hx : ev E x = some (N a)) (hy : ev E y = some (N b)) (h : 0 < b) : OQ P n E C ⟨dst, .binOp .rem t x y t', ty, pos, aft, g⟩ (N (a % b)) :=
  OQ.bin hx hy rfl fun w => by
    have h4 : ((a : Int).tmod b) = ((a % b : Nat) : Int) := by rw [Int.tmod_eq_emod_of_nonneg (by omega)]; exact_mod_cast rfl
    have h5 : ¬ (b : Int) = 0 := by omega
    have h7 : Op.intDiv .rem .i64 (a : Int) b = (Pure.pure (.int .i64 ((a : Int).tmod b)) : Sem Value) := by simp only [Op.intDiv, if_neg h5]
    show Sem.run P (Op.intDiv .rem .i64 (a : Int) b) w = _
    rw [h7, h4]; rfl
theorem OQ.lssN {a b : Nat} (hx : ev E x = some (N a)) (hy : ev E y = some (N b)) : OQ P n E C ⟨dst, .binOp .lss t x y t', ty, pos, aft, g⟩ (.bool (decide (a < b))) :=
  OQ.bin hx hy rfl fun _ => okBool (decide_eq_decide.2 Int.ofNat_lt)
theorem OQ.leqN {a b : Nat} (hx : ev E x = some (N a)) (hy : ev E y = some (N b)) : OQ P n E C ⟨dst, .binOp .leq t x y t', ty, pos, aft, g⟩ (.bool (decide (a ≤ b))) :=
  OQ.bin hx hy rfl fun _ => okBool (decide_eq_decide.2 Int.ofNat_le)
theorem OQ.gtrN {a b : Nat} (hx : ev E x = some (N a)) (hy : ev E y = some (N b)) : OQ P n E C ⟨dst, .binOp .gtr t x y t', ty, pos, aft, g⟩ (.bool (decide (b < a))) :=
  OQ.bin hx hy rfl fun _ => okBool (decide_eq_decide.2 Int.ofNat_lt)
theorem OQ.geqN {a b : Nat} (hx : ev E x = some (N a)) (hy : ev E y = some (N b)) : OQ P n E C ⟨dst, .binOp .geq t x y t', ty, pos, aft, g⟩ (.bool (decide (b ≤ a))) :=
  OQ.bin hx hy rfl fun _ => okBool (decide_eq_decide.2 Int.ofNat_le)
theorem OQ.eqN {a b : Nat} (hx : ev E x = some (N a)) (hy : ev E y = some (N b)) : OQ P n E C ⟨dst, .binOp .eql t x y t', ty, pos, aft, g⟩ (.bool (decide (a = b))) :=
  (decide_eq_decide.2 Int.ofNat_inj : decide ((a : Int) = b) = decide (a = b)) ▸ OQ.eqi hx hy
theorem OQ.neN {a b : Nat} (hx : ev E x = some (N a)) (hy : ev E y = some (N b)) : OQ P n E C ⟨dst, .binOp .neq t x y t', ty, pos, aft, g⟩ (.bool (!decide (a = b))) :=
  (decide_eq_decide.2 Int.ofNat_inj : decide ((a : Int) = b) = decide (a = b)) ▸ OQ.nei hx hy

/-! #### words -/
theorem ofIntNat {k : Nat} (a : BitVec k) : BitVec.ofInt k (a.toNat : Int) = a := by simp
theorem wrap32 (a : Nat) : IntKind.u32.wrap (a : Int) = ((a % 2 ^ 32 : Nat) : Int) := by simp [IntKind.wrap, IntKind.bits, IntKind.signed]
theorem wrap8 (a : Nat) : IntKind.u8.wrap (a : Int) = ((a % 2 ^ 8 : Nat) : Int) := by simp [IntKind.wrap, IntKind.bits, IntKind.signed]
theorem wrap64 (a : Nat) : IntKind.u64.wrap (a : Int) = ((a % 2 ^ 64 : Nat) : Int) := by simp [IntKind.wrap, IntKind.bits, IntKind.signed]
theorem wrapb32 (a : BitVec 32) : IntKind.u32.wrap (a.toNat : Int) = a.toNat := by rw [wrap32, Nat.mod_eq_of_lt a.isLt]
theorem wrapb8 (a : BitVec 8) : IntKind.u8.wrap (a.toNat : Int) = a.toNat := by rw [wrap8, Nat.mod_eq_of_lt a.isLt]
theorem wrapb64 (a : BitVec 64) : IntKind.u64.wrap (a.toNat : Int) = a.toNat := by rw [wrap64, Nat.mod_eq_of_lt a.isLt]

theorem OQ.add32 {a b : BitVec 32} (hx : ev E x = some (U32 a)) (hy : ev E y = some (U32 b)) : OQ P n E C ⟨dst, .binOp .add t x y t', ty, pos, aft, g⟩ (U32 (a + b)) :=
  OQ.bin hx hy rfl fun _ => okInt (k := .u32) (show IntKind.u32.wrap ((a.toNat : Int) + b.toNat) = ((a + b).toNat : Int) by rw [BitVec.toNat_add, ← wrap32]; simp)
theorem OQ.mul32 {a b : BitVec 32} (hx : ev E x = some (U32 a)) (hy : ev E y = some (U32 b)) : OQ P n E C ⟨dst, .binOp .mul t x y t', ty, pos, aft, g⟩ (U32 (a * b)) :=
  OQ.bin hx hy rfl fun _ => okInt (k := .u32) (show IntKind.u32.wrap ((a.toNat : Int) * b.toNat) = ((a * b).toNat : Int) by rw [BitVec.toNat_mul, ← wrap32]; simp)
theorem OQ.add64 {a b : BitVec 64} (hx : ev E x = some (U64 a)) (hy : ev E y = some (U64 b)) : OQ P n E C ⟨dst, .binOp .add t x y t', ty, pos, aft, g⟩ (U64 (a + b)) :=
  OQ.bin hx hy rfl fun _ => okInt (k := .u64) (show IntKind.u64.wrap ((a.toNat : Int) + b.toNat) = ((a + b).toNat : Int) by rw [BitVec.toNat_add, ← wrap64]; simp)
theorem OQ.mul64 {a b : BitVec 64} (hx : ev E x = some (U64 a)) (hy : ev E y = some (U64 b)) : OQ P n E C ⟨dst, .binOp .mul t x y t', ty, pos, aft, g⟩ (U64 (a * b)) :=
  OQ.bin hx hy rfl fun _ => okInt (k := .u64) (show IntKind.u64.wrap ((a.toNat : Int) * b.toNat) = ((a * b).toNat : Int) by rw [BitVec.toNat_mul, ← wrap64]; simp)
theorem OQ.rem64 {a b : BitVec 64} (hx : ev E x = some (U64 a)) (hy : ev E y = some (U64 b)) (hb : b.toNat ≠ 0) : OQ P n E C ⟨dst, .binOp .rem t x y t', ty, pos, aft, g⟩ (U64 (a % b)) :=
  OQ.bin hx hy rfl fun w => by
    have h4 : ((a.toNat : Int).tmod b.toNat) = (((a % b).toNat : Nat) : Int) := by rw [Int.tmod_eq_emod_of_nonneg (by omega), BitVec.toNat_umod]; exact_mod_cast rfl
    have h5 : ¬ ((b.toNat : Int) = 0) := by omega
    have h7 : Op.intDiv .rem .u64 (a.toNat : Int) b.toNat = (Pure.pure (.int .u64 ((a.toNat : Int).tmod b.toNat)) : Sem Value) := by simp only [Op.intDiv, if_neg h5]
    show Sem.run P (Op.intDiv .rem .u64 (a.toNat : Int) b.toNat) w = _
    rw [h7, h4]; rfl
theorem OQ.and32 {a b : BitVec 32} (hx : ev E x = some (U32 a)) (hy : ev E y = some (U32 b)) : OQ P n E C ⟨dst, .binOp .and t x y t', ty, pos, aft, g⟩ (U32 (a &&& b)) :=
  OQ.bin hx hy rfl fun _ => okInt (k := .u32) (show IntKind.u32.wrap ((BitVec.ofInt 32 (a.toNat : Int) &&& BitVec.ofInt 32 (b.toNat : Int)).toNat : Int) = _ by rw [ofIntNat, ofIntNat, wrapb32])
theorem OQ.or32 {a b : BitVec 32} (hx : ev E x = some (U32 a)) (hy : ev E y = some (U32 b)) : OQ P n E C ⟨dst, .binOp .or t x y t', ty, pos, aft, g⟩ (U32 (a ||| b)) :=
  OQ.bin hx hy rfl fun _ => okInt (k := .u32) (show IntKind.u32.wrap ((BitVec.ofInt 32 (a.toNat : Int) ||| BitVec.ofInt 32 (b.toNat : Int)).toNat : Int) = _ by rw [ofIntNat, ofIntNat, wrapb32])
theorem OQ.xor32 {a b : BitVec 32} (hx : ev E x = some (U32 a)) (hy : ev E y = some (U32 b)) : OQ P n E C ⟨dst, .binOp .xor t x y t', ty, pos, aft, g⟩ (U32 (a ^^^ b)) :=
  OQ.bin hx hy rfl fun _ => okInt (k := .u32) (show IntKind.u32.wrap ((BitVec.ofInt 32 (a.toNat : Int) ^^^ BitVec.ofInt 32 (b.toNat : Int)).toNat : Int) = _ by rw [ofIntNat, ofIntNat, wrapb32])
theorem OQ.xor8 {a b : BitVec 8} (hx : ev E x = some (U8 a)) (hy : ev E y = some (U8 b)) : OQ P n E C ⟨dst, .binOp .xor t x y t', ty, pos, aft, g⟩ (U8 (a ^^^ b)) :=
  OQ.bin hx hy rfl fun _ => okInt (k := .u8) (show IntKind.u8.wrap ((BitVec.ofInt 8 (a.toNat : Int) ^^^ BitVec.ofInt 8 (b.toNat : Int)).toNat : Int) = _ by rw [ofIntNat, ofIntNat, wrapb8])
theorem OQ.and64 {a b : BitVec 64} (hx : ev E x = some (U64 a)) (hy : ev E y = some (U64 b)) : OQ P n E C ⟨dst, .binOp .and t x y t', ty, pos, aft, g⟩ (U64 (a &&& b)) :=
  OQ.bin hx hy rfl fun _ => okInt (k := .u64) (show IntKind.u64.wrap ((BitVec.ofInt 64 (a.toNat : Int) &&& BitVec.ofInt 64 (b.toNat : Int)).toNat : Int) = _ by rw [ofIntNat, ofIntNat, wrapb64])
theorem OQ.not32 {a : BitVec 32} (hx : ev E x = some (U32 a)) : OQ P n E C ⟨dst, .unOp .xor t x, ty, pos, aft, g⟩ (U32 (~~~ a)) :=
  OQ.run fun c ha w _ => by
    have h1 := ha.eval hx
    have h2 : BitVec.ofInt 32 IntKind.u32.max ^^^ BitVec.ofInt 32 (a.toNat : Int) = ~~~ a := by
      rw [ofIntNat, show BitVec.ofInt 32 IntKind.u32.max = BitVec.allOnes 32 from rfl, BitVec.allOnes_xor]
    have h3 : IntKind.u32.wrap ((BitVec.ofInt 32 IntKind.u32.max ^^^ BitVec.ofInt 32 (a.toNat : Int)).toNat : Int) = ((~~~ a).toNat : Int) := by rw [h2, wrapb32]
    simp only [execOp, h1]
    exact congrArg (fun z : Int => (Result.ok (Next.value (Value.int .u32 z)) w : Result Next)) h3
theorem OQ.shl32 {a : BitVec 32} {yk : IntKind} {k : Nat} (hx : ev E x = some (U32 a)) (hy : ev E y = some (.int yk k)) : OQ P n E C ⟨dst, .binOp .shl t x y t', ty, pos, aft, g⟩ (U32 (a <<< k)) :=
  OQ.bin hx hy rfl fun w => by
    have h1 : IntKind.u32.wrap ((a.toNat : Int) * 2 ^ (min k 32)) = ((a <<< k).toNat : Int) := by
      rw [show ((a.toNat : Int) * 2 ^ (min k 32)) = ((a.toNat * 2 ^ (min k 32) : Nat) : Int) by simp, wrap32, BitVec.toNat_shiftLeft, Nat.shiftLeft_eq]
      by_cases hk : k ≤ 32
      · rw [Nat.min_eq_left hk]
      · rw [Nat.min_eq_right (by omega)]
        congr 1
        rw [show k = 32 + (k - 32) by omega, Nat.pow_add, Nat.mul_mod_left, Nat.mul_left_comm, Nat.mul_mod_right]
    have h7 : Op.shift .shl .u32 (a.toNat : Int) yk (k : Int) = (Pure.pure (.int .u32 (IntKind.u32.wrap ((a.toNat : Int) * 2 ^ (min k 32)))) : Sem Value) := by
      unfold Op.shift
      rw [if_neg (by omega)]; rfl
    show Sem.run P (Op.shift .shl .u32 (a.toNat : Int) yk (k : Int)) w = _
    rw [h7, h1]; rfl
theorem OQ.shr32 {a : BitVec 32} {yk : IntKind} {k : Nat} (hx : ev E x = some (U32 a)) (hy : ev E y = some (.int yk k)) : OQ P n E C ⟨dst, .binOp .shr t x y t', ty, pos, aft, g⟩ (U32 (a >>> k)) :=
  OQ.bin hx hy rfl fun w => by
    have h1 : (a.toNat : Int).fdiv (2 ^ (min k 32)) = ((a >>> k).toNat : Int) := by
      rw [Int.fdiv_eq_ediv_of_nonneg _ (by exact Int.le_of_lt (Int.pow_pos (by decide))), BitVec.toNat_ushiftRight, Nat.shiftRight_eq_div_pow]
      by_cases hk : k ≤ 32
      · rw [Nat.min_eq_left hk]; simp
      · rw [Nat.min_eq_right (by omega)]
        have := a.isLt
        rw [Nat.div_eq_of_lt (Nat.lt_of_lt_of_le this (Nat.pow_le_pow_right (by omega) (by omega)))]
        exact Int.ediv_eq_zero_of_lt (by omega) (by exact_mod_cast this)
    have h7 : Op.shift .shr .u32 (a.toNat : Int) yk (k : Int) = (Pure.pure (.int .u32 ((a.toNat : Int).fdiv (2 ^ (min k 32)))) : Sem Value) := by
      unfold Op.shift
      rw [if_neg (by omega)]; rfl
    show Sem.run P (Op.shift .shr .u32 (a.toNat : Int) yk (k : Int)) w = _
    rw [h7, h1]; rfl
theorem OQ.shr64 {a : BitVec 64} {yk : IntKind} {k : Nat} (hx : ev E x = some (U64 a)) (hy : ev E y = some (.int yk k)) : OQ P n E C ⟨dst, .binOp .shr t x y t', ty, pos, aft, g⟩ (U64 (a >>> k)) :=
  OQ.bin hx hy rfl fun w => by
    have h1 : (a.toNat : Int).fdiv (2 ^ (min k 64)) = ((a >>> k).toNat : Int) := by
      rw [Int.fdiv_eq_ediv_of_nonneg _ (by exact Int.le_of_lt (Int.pow_pos (by decide))), BitVec.toNat_ushiftRight, Nat.shiftRight_eq_div_pow]
      by_cases hk : k ≤ 64
      · rw [Nat.min_eq_left hk]; simp
      · rw [Nat.min_eq_right (by omega)]
        have := a.isLt
        rw [Nat.div_eq_of_lt (Nat.lt_of_lt_of_le this (Nat.pow_le_pow_right (by omega) (by omega)))]
        exact Int.ediv_eq_zero_of_lt (by omega) (by exact_mod_cast this)
    have h7 : Op.shift .shr .u64 (a.toNat : Int) yk (k : Int) = (Pure.pure (.int .u64 ((a.toNat : Int).fdiv (2 ^ (min k 64)))) : Sem Value) := by
      unfold Op.shift
      rw [if_neg (by omega)]; rfl
    show Sem.run P (Op.shift .shr .u64 (a.toNat : Int) yk (k : Int)) w = _
    rw [h7, h1]; rfl
end
end Sl
end Go.Proofs.YtbihfhkbkcplmaaDoor

/-
  Of no statement by itself: rules for conversions between numbers, for addresses and for cuts of arrays and slices, over X's partial knowledge of frame and memory, for any program P.
  Conditions: each rule's own hypotheses.
-/
namespace Go.Proofs.YtbihfhkbkcplmaaDoor
namespace Sl

section
variable {P : Program} {n : Nat} {E : Env} {C : World → Prop} {dst : Option Tmp} {ty t t' e : TypeId} {pos : String} {aft : Array Edge} {g : Option (Nat × Bool)} {x y : Operand} {u v r : Value}

/-! #### conversions -/
theorem OQ.conv {k k' : IntKind} {d : TypeDesc} {i : Int} (hs : P.underlying t = some d) (hd : P.underlying t' = some (.int k)) (hx : ev E x = some (.int k' i)) (hv : v = .int k (k.wrap i)) : OQ P n E C ⟨dst, .convert t t' x, ty, pos, aft, g⟩ v := by
  subst hv
  refine OQ.run fun a ha w _ => ?_
  have h1 := ha.eval hx
  have h2 : (underlying t).run P w = .ok d w := run_underlying hs w
  have h3 : (underlying t').run P w = .ok (.int k) w := run_underlying hd w
  cases d <;> simp [execOp, h1, convert, Sem.run_bind, h2, h3, Conv.intToInt]
theorem OQ.conv8_32 {d : TypeDesc} {a : BitVec 8} (hs : P.underlying t = some d) (hd : P.underlying t' = some (.int .u32)) (hx : ev E x = some (U8 a)) : OQ P n E C ⟨dst, .convert t t' x, ty, pos, aft, g⟩ (U32 (a.setWidth 32)) :=
  OQ.conv hs hd hx (by rw [wrap32]; simp [U32])
theorem OQ.conv32_8 {d : TypeDesc} {a : BitVec 32} (hs : P.underlying t = some d) (hd : P.underlying t' = some (.int .u8)) (hx : ev E x = some (U32 a)) : OQ P n E C ⟨dst, .convert t t' x, ty, pos, aft, g⟩ (U8 (a.setWidth 8)) :=
  OQ.conv hs hd hx (by rw [wrap8]; simp [U8])
theorem OQ.conv64_8 {d : TypeDesc} {a : BitVec 64} (hs : P.underlying t = some d) (hd : P.underlying t' = some (.int .u8)) (hx : ev E x = some (U64 a)) : OQ P n E C ⟨dst, .convert t t' x, ty, pos, aft, g⟩ (U8 (a.setWidth 8)) :=
  OQ.conv hs hd hx (by rw [wrap8]; simp [U8])
theorem OQ.convN_64 {d : TypeDesc} {a : Nat} (hs : P.underlying t = some d) (hd : P.underlying t' = some (.int .u64)) (hx : ev E x = some (N a)) : OQ P n E C ⟨dst, .convert t t' x, ty, pos, aft, g⟩ (U64 (BitVec.ofNat 64 a)) :=
  OQ.conv hs hd hx (by rw [wrap64]; simp [U64])
theorem OQ.convN_8 {d : TypeDesc} {a : Nat} (hs : P.underlying t = some d) (hd : P.underlying t' = some (.int .u8)) (hx : ev E x = some (N a)) : OQ P n E C ⟨dst, .convert t t' x, ty, pos, aft, g⟩ (U8 (BitVec.ofNat 8 a)) :=
  OQ.conv hs hd hx (by rw [wrap8]; simp [U8])
theorem OQ.conv64_N {d : TypeDesc} {a : BitVec 64} (hs : P.underlying t = some d) (hd : P.underlying t' = some (.int .i64)) (hx : ev E x = some (U64 a)) (h : a.toNat < 9223372036854775808) : OQ P n E C ⟨dst, .convert t t' x, ty, pos, aft, g⟩ (N a.toNat) :=
  OQ.conv hs hd hx (by rw [wrapN (by omega) (by omega)])

theorem OQ.negN {a : Nat} (hx : ev E x = some (N a)) (h : a < 9223372036854775808) : OQ P n E C ⟨dst, .unOp .neg t x, ty, pos, aft, g⟩ (.int .i64 (-(a : Int))) :=
  OQ.run fun c ha w _ => by
    have h1 := ha.eval hx
    have h3 : IntKind.i64.wrap ((0 : Int) - (a : Int)) = -(a : Int) := (wrapN (by omega) (by omega)).trans (by omega)
    simp only [execOp, h1]
    exact congrArg (fun z : Int => (Result.ok (Next.value (Value.int .i64 z)) w : Result Next)) h3
theorem OQ.sub64 {a b : BitVec 64} (hx : ev E x = some (U64 a)) (hy : ev E y = some (U64 b)) (h : b.toNat ≤ a.toNat) : OQ P n E C ⟨dst, .binOp .sub t x y t', ty, pos, aft, g⟩ (U64 (a - b)) :=
  OQ.bin hx hy rfl fun _ => okInt (k := .u64) (show IntKind.u64.wrap ((a.toNat : Int) - b.toNat) = ((a - b).toNat : Int) by
    rw [BitVec.toNat_sub_of_le (by simpa [BitVec.le_def] using h), ← Int.ofNat_sub h, wrap64, Nat.mod_eq_of_lt (by have := a.isLt; omega)])

/-! #### places -/
theorem OQ.idxA {len b j i sz : Nat} (hu : P.underlying t = some (.array len e)) (hz : szT P e = some sz) (hx : ev E x = some (.pointer (some ⟨b, j, none⟩))) (hy : ev E y = some (N i)) (hi : i < len) :
    OQ P n E C ⟨dst, .indexAddr t x y, ty, pos, aft, g⟩ (.pointer (some ⟨b, j + i * sz, none⟩)) :=
  OQ.run fun a ha w _ => by
    have h1 := ha.eval hx
    have h2 := ha.eval hy
    have h3 : (underlying t).run P w = .ok (.array len e) w := run_underlying hu w
    have h4 : (0 : Int) ≤ (i : Int) ∧ (i : Int) < (len : Int) := by omega
    simp [execOp, h1, h2, Instr.indexAt, asIntOf, Sem.run_bind, h3, Instr.sureAddr, hi, sizeOf_run hz, add_off]
theorem OQ.idxS {len cap b j i sz : Nat} (hu : P.underlying t = some (.slice e)) (hz : szT P e = some sz) (hx : ev E x = some (.slice (some ⟨b, j, none⟩) len cap)) (hy : ev E y = some (N i)) (hi : i < len) :
    OQ P n E C ⟨dst, .indexAddr t x y, ty, pos, aft, g⟩ (.pointer (some ⟨b, j + i * sz, none⟩)) :=
  OQ.run fun a ha w _ => by
    have h1 := ha.eval hx
    have h2 := ha.eval hy
    have h3 : (underlying t).run P w = .ok (.slice e) w := run_underlying hu w
    simp [execOp, h1, h2, Instr.indexAt, asIntOf, Sem.run_bind, h3, hi, sizeOf_run hz, add_off]
theorem OQ.idxA0 {len b i : Nat} (hu : P.underlying t = some (.array len e)) (hz : szT P e = some 1) (hx : ev E x = some (.pointer (some ⟨b, 0, none⟩))) (hy : ev E y = some (N i)) (hi : i < len) :
    OQ P n E C ⟨dst, .indexAddr t x y, ty, pos, aft, g⟩ (.pointer (some ⟨b, i, none⟩)) := by
  have := OQ.idxA (P := P) (n := n) (C := C) (dst := dst) (ty := ty) (pos := pos) (aft := aft) (g := g) hu hz hx hy hi
  rwa [Nat.mul_one, Nat.zero_add] at this
theorem OQ.idxS0 {len cap b i : Nat} (hu : P.underlying t = some (.slice e)) (hz : szT P e = some 1) (hx : ev E x = some (.slice (some ⟨b, 0, none⟩) len cap)) (hy : ev E y = some (N i)) (hi : i < len) :
    OQ P n E C ⟨dst, .indexAddr t x y, ty, pos, aft, g⟩ (.pointer (some ⟨b, i, none⟩)) := by
  have := OQ.idxS (P := P) (n := n) (C := C) (dst := dst) (ty := ty) (pos := pos) (aft := aft) (g := g) hu hz hx hy hi
  rwa [Nat.mul_one, Nat.zero_add] at this
theorem OQ.idxS1 {len cap b j i : Nat} (hu : P.underlying t = some (.slice e)) (hz : szT P e = some 1) (hx : ev E x = some (.slice (some ⟨b, j, none⟩) len cap)) (hy : ev E y = some (N i)) (hi : i < len) :
    OQ P n E C ⟨dst, .indexAddr t x y, ty, pos, aft, g⟩ (.pointer (some ⟨b, j + i, none⟩)) := by
  have := OQ.idxS (P := P) (n := n) (C := C) (dst := dst) (ty := ty) (pos := pos) (aft := aft) (g := g) hu hz hx hy hi
  rwa [Nat.mul_one] at this
theorem OQ.index {len i : Nat} {cs : List Value} (hu : P.underlying t = some (.array len e)) (hz : szT P e = some 1) (hs : scal P e = true) (hx : ev E x = some (.agg cs.toArray)) (hy : ev E y = some (N i)) (hi : i < len) (hv : cs[i]? = some v) :
    OQ P n E C ⟨dst, .index t x y, ty, pos, aft, g⟩ v :=
  OQ.run fun a ha w _ => by
    have h1 := ha.eval hx
    have h2 := ha.eval hy
    have h3 : (underlying t).run P w = .ok (.array len e) w := run_underlying hu w
    simp [execOp, h1, h2, Instr.index, asIntOf, Sem.run_bind, h3, hi, sizeOf_run hz, part, isAgg_scal hs, hv]
theorem OQ.fld {s f : Nat} {fs : Array Field} {fd : Field} {b j sz : Nat} (hu : P.underlying s = some (.struct fs)) (hf : fs[f]? = some fd) (hz : szT P fd.type = some sz) (h0 : sz ≠ 0) (hx : ev E x = some (.pointer (some ⟨b, j, none⟩))) :
    OQ P n E C ⟨dst, .fieldAddr s x f, ty, pos, aft, g⟩ (.pointer (some ⟨b, j + fd.offset, none⟩)) :=
  OQ.run fun a ha w _ => by
    have h1 := ha.eval hx
    have h3 : (underlying s).run P w = .ok (.struct fs) w := run_underlying hu w
    simp [execOp, h1, Instr.fieldAt, Sem.run_bind, h3, hf, Instr.sureAddr, fieldPlace, sizeOf_run hz, h0, add_off]
theorem OQ.arr {len cap k : Nat} {ad : Option Addr} (hu : P.underlying t = some (.array k e)) (hx : ev E x = some (.slice ad len cap)) (hl : k ≤ len) : OQ P n E C ⟨dst, .sliceToArrayPointer t x, ty, pos, aft, g⟩ (.pointer ad) :=
  OQ.run fun a ha w _ => by
    have h1 := ha.eval hx
    have h3 : (underlying t).run P w = .ok (.array k e) w := run_underlying hu w
    have : ¬ len < k := by omega
    simp [execOp, h1, Instr.arrayAt, Sem.run_bind, h3, this]
/-- 'x[lo:]' of an array behind its address -/
theorem OQ.slA_lo {len b j lo : Nat} (hu : P.underlying t = some (.array len e)) (hz : szT P e = some 1) (hx : ev E x = some (.pointer (some ⟨b, j, none⟩))) (hl : ev E y = some (N lo)) (h : lo < len) :
    OQ P n E C ⟨dst, .slice t x (some y) none none, ty, pos, aft, g⟩ (.slice (some ⟨b, j + lo, none⟩) (len - lo) (len - lo)) :=
  OQ.run fun a ha w _ => by
    have h1 := ha.eval hx
    have h2 := ha.eval hl
    have h3 : (underlying t).run P w = .ok (.array len e) w := run_underlying hu w
    have h4 : lo ≤ len := by omega
    have h5 : ¬ len = lo := by omega
    simp [execOp, h1, h2, Instr.sliceAt, Sem.run_bind, h3, Instr.sureAddr, Instr.sliceBounds, Instr.sliceBound, asIntOf, h4, sizeOf_run hz, h5, add_off]
/-- 'x[:]' of an array behind its address -/
theorem OQ.slA {len b j sz : Nat} (hu : P.underlying t = some (.array len e)) (hz : szT P e = some sz) (hx : ev E x = some (.pointer (some ⟨b, j, none⟩))) :
    OQ P n E C ⟨dst, .slice t x none none none, ty, pos, aft, g⟩ (.slice (some ⟨b, j, none⟩) len len) :=
  OQ.run fun a ha w _ => by
    have h1 := ha.eval hx
    have h3 : (underlying t).run P w = .ok (.array len e) w := run_underlying hu w
    have h6 : (⟨b, j, none⟩ : Addr).add 0 = ⟨b, j, none⟩ := by rw [add_off]; rfl
    simp [execOp, h1, Instr.sliceAt, Sem.run_bind, h3, Instr.sureAddr, Instr.sliceBounds, sizeOf_run hz, h6]
/-- 'x[:hi:mx]' of an array behind its address -/
theorem OQ.slA_hi3 {len b j hi mx sz : Nat} {z : Operand} (hu : P.underlying t = some (.array len e)) (hz : szT P e = some sz) (hx : ev E x = some (.pointer (some ⟨b, j, none⟩))) (hh : ev E y = some (N hi)) (hm : ev E z = some (N mx)) (h : hi ≤ mx) (h' : mx ≤ len) :
    OQ P n E C ⟨dst, .slice t x none (some y) (some z), ty, pos, aft, g⟩ (.slice (some ⟨b, j, none⟩) hi mx) :=
  OQ.run fun a ha w _ => by
    have h1 := ha.eval hx
    have h2 := ha.eval hh
    have h2' := ha.eval hm
    have h3 : (underlying t).run P w = .ok (.array len e) w := run_underlying hu w
    have h6 : (⟨b, j, none⟩ : Addr).add 0 = ⟨b, j, none⟩ := by rw [add_off]; rfl
    simp [execOp, h1, h2, h2', Instr.sliceAt, Sem.run_bind, h3, Instr.sureAddr, Instr.sliceBounds, Instr.sliceBound, asIntOf, h, h', sizeOf_run hz, h6]
/-- 'x[lo:]' of a slice: its cells from lo on (where nothing is left the old address is kept) -/
theorem OQ.slS_lo {len cap lo sz : Nat} {ad : Option Addr} (hu : P.underlying t = some (.slice e)) (hz : szT P e = some sz) (hx : ev E x = some (.slice ad len cap)) (hl : ev E y = some (N lo)) (h : lo ≤ len) :
    OQ P n E C ⟨dst, .slice t x (some y) none none, ty, pos, aft, g⟩ (.slice (if cap = lo then ad else ad.map (·.add (lo * sz))) (len - lo) (cap - lo)) :=
  OQ.run fun a ha w _ => by
    have h1 := ha.eval hx
    have h2 := ha.eval hl
    have h3 : (underlying t).run P w = .ok (.slice e) w := run_underlying hu w
    simp [execOp, h1, h2, Instr.sliceAt, Sem.run_bind, h3, Instr.slice, Instr.sliceBounds, Instr.sliceBound, asIntOf, h, sizeOf_run hz]
/-- 'x[:hi]' of a slice -/
theorem OQ.slS_hi {len cap hi sz : Nat} {ad : Option Addr} (hu : P.underlying t = some (.slice e)) (hz : szT P e = some sz) (hx : ev E x = some (.slice ad len cap)) (hh : ev E y = some (N hi)) (h : hi ≤ cap) :
    OQ P n E C ⟨dst, .slice t x none (some y) none, ty, pos, aft, g⟩ (.slice (if cap = 0 then ad else ad.map (·.add 0)) hi cap) :=
  OQ.run fun a ha w _ => by
    have h1 := ha.eval hx
    have h2 := ha.eval hh
    have h3 : (underlying t).run P w = .ok (.slice e) w := run_underlying hu w
    simp [execOp, h1, h2, Instr.sliceAt, Sem.run_bind, h3, Instr.slice, Instr.sliceBounds, Instr.sliceBound, asIntOf, h, sizeOf_run hz]
end
end Sl
end Go.Proofs.YtbihfhkbkcplmaaDoor

/-
  Of no statement by itself: rules for what slices read, len, copy and append, and for code whose ways meet again, over X's partial knowledge of frame and memory, for any program P.
  Conditions: each rule's own hypotheses.
-/
namespace Go.Proofs.YtbihfhkbkcplmaaDoor
namespace Sl

/-- the cells behind an address (none: there are none) -/
def Reads (w : World) (ad : Option Addr) (cs : List Value) : Prop := ∀ i v, cs[i]? = some v → ∃ b j, ad = some ⟨b, j, none⟩ ∧ w.cell? ⟨b, j + i, none⟩ = some v
theorem Reads.nil (w : World) (ad : Option Addr) : Reads w ad [] := by intro i v h; simp at h
theorem Reads.at {w : World} {ad : Option Addr} {cs : List Value} (h : Reads w ad cs) (h0 : 0 < cs.length) : ∃ b j, ad = some ⟨b, j, none⟩ ∧ ∀ i v, cs[i]? = some v → w.cell? ⟨b, j + i, none⟩ = some v := by
  obtain ⟨b, j, h1, _⟩ := h 0 cs[0] (by simp [h0])
  refine ⟨b, j, h1, fun i v hv => ?_⟩
  obtain ⟨b', j', h2, h3⟩ := h i v hv
  rw [h1] at h2
  cases h2
  exact h3
theorem Reads.of {w : World} {b j : Nat} {cs : List Value} (h : ∀ i v, cs[i]? = some v → w.cell? ⟨b, j + i, none⟩ = some v) : Reads w (some ⟨b, j, none⟩) cs := fun i v hv => ⟨b, j, rfl, h i v hv⟩
theorem Reads.block {w : World} {b j : Nat} {cs : List Value} {o : Obj} (ho : w.heap[b]? = some o) (h : hasCells o j cs) : Reads w (some ⟨b, j, none⟩) cs := .of (cells_of ho h)
theorem Reads.take {w : World} {ad : Option Addr} {cs : List Value} (h : Reads w ad cs) (k : Nat) : Reads w ad (cs.take k) := fun i v hv => h i v (by
  rw [List.getElem?_take] at hv
  split at hv
  · exact hv
  · cases hv)
/-- what is left of a slice behind a cut -/
theorem Reads.drop {w : World} {ad : Option Addr} {cs : List Value} {len cap lo : Nat} (h : Reads w ad cs) (hl : cs.length = len) (hc : len ≤ cap) (hlo : lo ≤ len) : Reads w (if cap = lo then ad else ad.map (·.add (lo * 1))) (cs.drop lo) := by
  by_cases e : cap = lo
  · rw [if_pos e, List.drop_of_length_le (by omega)]
    exact .nil _ _
  · rw [if_neg e]
    intro i v hv
    rw [List.getElem?_drop] at hv
    obtain ⟨b, j, h1, h2⟩ := h _ v hv
    refine ⟨b, j + lo, by simp [h1, add_off], by rw [Nat.add_assoc]; exact h2⟩

section
variable {P : Program} {w : World} {cs : List Value} {ad : Option Addr} {m c sz : Nat}
theorem firstCells_run (hl : cs.length = m * sz) (h : Reads w ad cs) (len : Nat) : (Builtin.firstCells sz m (.slice ad len c)).run P w = .ok cs.toArray w := by
  by_cases h0 : cs = []
  · subst h0
    have hm : m * sz = 0 := by simpa using hl.symm
    cases ad with
    | none => rfl
    | some a => simp [Builtin.firstCells, hm, loadCells, loadCellsFrom]
  · obtain ⟨b, j, rfl, h2⟩ := h.at (List.length_pos_iff.2 h0)
    exact run_firstCells_some (P := P) w sz m ⟨b, j, none⟩ len c cs hl (fun i v hv => by rw [add_off]; exact h2 i v hv)
end

/-- type e: its zero value, its cells, its bytes -/
def EI (P : Program) (e : TypeId) (z : Value) (sz bytes : Nat) : Prop := (P.info? e).map (fun i => (i.zero, i.size, i.bytes)) = some (some z, sz, bytes)
theorem EI.get {P : Program} {e : TypeId} {z : Value} {sz bytes : Nat} (h : EI P e z sz bytes) : ∃ i, P.info? e = some i ∧ i.zero = some z ∧ i.size = sz ∧ i.bytes = bytes := by
  unfold EI at h
  cases hq : P.info? e with
  | none => simp [hq] at h
  | some i => simp only [hq, Option.map_some, Option.some.injEq, Prod.mk.injEq] at h; exact ⟨i, rfl, h⟩
theorem EI.sz {P : Program} {e : TypeId} {z : Value} {sz bytes : Nat} (h : EI P e z sz bytes) : szT P e = some sz := by
  obtain ⟨i, h1, _, h2, _⟩ := h.get
  simp [szT, h1, h2]

/-- a slice's own cells, first in their block; cap elements of sz cells each have room -/
def Own (e : TypeId) (sz n cap : Nat) (xs : List Value) : Obj → Prop := fun o => ∃ sp : List Value, o = .cells (xs ++ sp).toArray e (0, 0) ∧ (xs ++ sp).length = cap * sz ∧ xs.length = n * sz ∧ n ≤ cap
theorem Sl.Own.cells {e : TypeId} {sz n cap : Nat} {xs : List Value} : ∀ o, Sl.Own e sz n cap xs o → hasCells o 0 xs := by
  rintro o ⟨sp, rfl, _⟩
  exact ⟨_, _, _, rfl, fun i hi => by simp [List.getElem?_append_left hi]⟩
theorem Sl.Own.cell {e : TypeId} {sz n cap j : Nat} {v : Value} {xs : List Value} (h : xs[j]? = some v) : ∀ o, Sl.Own e sz n cap xs o → cellAt o j = some v := by
  rintro o ⟨sp, rfl, _⟩
  have hj : j < xs.length := (List.getElem?_eq_some_iff.1 h).1
  simpa [cellAt, List.getElem?_append_left hj] using h

/-- M' is M with one entry turned, its block too. -/
inductive Repl : List Ent → Nat → (Obj → Prop) → Nat → (Obj → Prop) → List Ent → Prop where
  | here {b A b' A' M} : Repl (⟨b, A, true⟩ :: M) b A b' A' (⟨b', A', true⟩ :: M)
  | there {e M b A b' A' M'} : Repl M b A b' A' M' → Repl (e :: M) b A b' A' (e :: M')

section
variable {w0 : World} {S : List Nat} {M M' : List Ent} {w w' : World} {b b' : Nat} {A A' : Obj → Prop}
theorem Repl.has (h : Repl M b A b' A' M') : Has M b A true := by
  induction h with
  | here => exact .here
  | there _ ih => exact .there ih
theorem Repl.upd (h : Repl M b A b A' M') : Upd M b A A' M' := by
  generalize hb : b = b1 at h
  have : b = b1 := hb
  clear hb
  suffices ∀ {M M' : List Ent} {b b1 : Nat} {A A' : Obj → Prop}, Repl M b A b1 A' M' → b = b1 → Upd M b A A' M' by exact this (by rw [← ‹b = b1›] at h ⊢; exact h) rfl
  intro M M' b b1 A A' h e
  induction h with
  | here => subst e; exact .here
  | there _ ih => exact .there (ih e)
theorem Repl.mem (h : Repl M b A b' A' M') : ∀ e ∈ M', e = ⟨b', A', true⟩ ∨ e ∈ M := by
  induction h with
  | here =>
    intro e he
    simp only [List.mem_cons] at he
    rcases he with rfl | he
    · exact .inl rfl
    · exact .inr (by simp [he])
  | there _ ih =>
    intro e he
    simp only [List.mem_cons] at he
    rcases he with rfl | he
    · exact .inr (by simp)
    · rcases ih e he with h | h
      · exact .inl h
      · exact .inr (by simp [h])
theorem Repl.nodup (h : Repl M b A b' A' M') (hn : (M.map Ent.b).Nodup) (hb : b' ∉ M.map Ent.b) : (M'.map Ent.b).Nodup := by
  induction h with
  | here =>
    simp only [List.map_cons, List.nodup_cons, List.mem_cons, not_or] at hn hb ⊢
    exact ⟨hb.2, hn.2⟩
  | @there e M b A b' A' M' hr ih =>
    simp only [List.map_cons, List.nodup_cons, List.mem_cons, not_or] at hn hb ⊢
    refine ⟨fun hm => ?_, ih hn.2 hb.2⟩
    obtain ⟨x, hx, hxe⟩ := List.mem_map.1 hm
    rcases hr.mem x hx with rfl | hx
    · exact hb.1 hxe
    · exact hn.1 (hxe ▸ List.mem_map_of_mem hx)
/-- A new block takes an entry's place. -/
theorem Holds.renew (h : Holds w0 S M w) (o : Obj) (hr : Repl M b A w.heap.size A' M') (hA : A' o) (hw : w'.heap = w.heap.push o) (h1 : w'.os = w.os) (h2 : w'.tape = w.tape) (h3 : w'.output = w.output) : Holds w0 S M' w' := by
  have hp := h.push o hA hw h1 h2 h3
  refine ⟨hp.chg, hr.nodup h.nodup ?_, fun e he => ?_⟩
  · intro hm
    obtain ⟨e, he, hb⟩ := List.mem_map.1 hm
    have := h.lt he
    omega
  · rcases hr.mem e he with rfl | he
    · exact hp.all _ (by simp)
    · exact hp.all e (by simp [he])
theorem Holds.seen {o : Obj} (ho : w.heap[b]? = some o) (hA : A o) : Holds w S [⟨b, A, false⟩] w := ⟨Chg.refl _ _, by simp, by simp [ho, hA]⟩
theorem Holds.fresh (h : Holds w0 S M w) (hx : Ext w w') (hb : w.heap.size ≤ b) {o : Obj} (ho : w'.heap[b]? = some o) (hA : A o) : Holds w0 S (⟨b, A, true⟩ :: M) w' := by
  have h' := h.ext hx
  refine ⟨h'.chg, ?_, fun e he => ?_⟩
  · simp only [List.map_cons, List.nodup_cons, h.nodup, and_true]
    intro hm
    obtain ⟨e, he, hbe⟩ := List.mem_map.1 hm
    have := h.lt he
    omega
  · simp only [List.mem_cons] at he
    rcases he with rfl | he
    · exact ⟨⟨o, ho, hA⟩, fun _ => .inr (Nat.le_trans h.chg.size hb)⟩
    · exact h'.all e he
/-- A block of one's own was written by a call. -/
theorem Holds.turn (h : Holds w0 S M w) (hu : Upd M b A A' M') (hc : Chg [b] w w') {o : Obj} (ho : w'.heap[b]? = some o) (hA : A' o) : Holds w0 S M' w' := by
  have hin := (h.all _ hu.has.mem).2 rfl
  refine ⟨⟨hc.os.trans h.chg.os, hc.tape.trans h.chg.tape, hc.output.trans h.chg.output, Nat.le_trans h.chg.size hc.size, fun k hk hS => ?_⟩, by rw [hu.keys]; exact h.nodup, fun e he => ?_⟩
  · refine (hc.block k (Nat.lt_of_lt_of_le hk h.chg.size) ?_).trans (h.chg.block k hk hS)
    intro hkb
    have hkb : k = b := by simpa using hkb
    subst hkb
    rcases hin with h4 | h4
    · exact hS h4
    · simp only [] at h4; omega
  · rcases hu.old h.nodup e he with rfl | ⟨h4, h5⟩
    · exact ⟨⟨o, ho, hA⟩, fun _ => hin⟩
    · obtain ⟨⟨o2, ho2, hA2⟩, h6⟩ := h.all e h4
      exact ⟨⟨o2, (hc.block _ (h.lt h4) (by simpa using h5)).trans ho2, hA2⟩, h6⟩
theorem Holds.one {o : Obj} (ho : w.heap[b]? = some o) (hA : A o) : Holds w [b] [⟨b, A, true⟩] w := ⟨Chg.refl _ _, by simp, by simp [ho, hA]⟩
theorem Holds.reads (h : Holds w0 S M w) {ad : Option Addr} {cs : List Value} (hr : Reads w0 ad cs) (hS : cs ≠ [] → ∀ a, ad = some a → a.block ∉ S) : Reads w ad cs := by
  intro i v hv
  have hcs : cs ≠ [] := by rintro rfl; simp at hv
  obtain ⟨b, j, h1, h2⟩ := hr i v hv
  have hb : b < w0.heap.size := block_lt_of_cell h2
  exact ⟨b, j, h1, by simpa [World.cell?, h.old hb (hS hcs _ h1)] using h2⟩
end

section
variable {P : Program} {n : Nat} {w0 : World} {S : List Nat} {ops : Array Oper} {Q : Exit → Act → World → Prop} {l : List Oper} {E : Env} {M : List Ent} {C : World → Prop}
variable {dst : Option Tmp} {d b j : Nat} {t ty e : TypeId} {pos : String} {aft : Array Edge} {g : Option (Nat × Bool)} {v : Value} {x y : Operand} {A A' : Obj → Prop} {cs : List Value}

theorem OQ.nilc {a : Addr} (hx : ev E x = some (.pointer (some a))) : OQ P n E C ⟨dst, .nilCheck x, ty, pos, aft, g⟩ (.pointer (some a)) :=
  OQ.run fun c hk w _ => by
    have h1 := hk.eval hx
    simp [execOp, h1]
theorem OQ.len {ad : Option Addr} {k cap : Nat} (hu : P.underlying t = some (.slice e)) (hx : ev E x = some (.slice ad k cap)) : OQ P n E C ⟨dst, .call ⟨.builtin .len, #[x], #[t]⟩, ty, pos, aft, g⟩ (N k) :=
  OQ.run fun a hk w _ => by
    have h1 := hk.eval hx
    have h3 : (underlying t).run P w = .ok (.slice e) w := run_underlying hu w
    simp [execOp, h1, resolve, invoke, builtin, Builtin.len_, Sem.run_bind, h3, goInt]

theorem copy_run {t' : TypeId} {w : World} {ad : Option Addr} {dl dc sl sc : Nat} {r : List Value} (hu : P.underlying t = some (.slice e)) (hz : szT P e = some 1) (ho : w.heap[b]? = some (.cells r.toArray ty (0, 0)))
    (hl : cs.length = sl) (hr : Reads w ad cs) (h1 : ∀ v ∈ cs, v.oneCell' = true) (hj : j + min sl dl ≤ r.length) :
    ∃ w', (Builtin.copy_ #[t, t'] 0 #[.slice (some ⟨b, j, none⟩) dl dc, .slice ad sl sc]).run P w = .ok (N (min sl dl)) w' ∧ w'.heap[b]? = some (.cells (r.take j ++ cs.take (min sl dl) ++ r.drop (j + min sl dl)).toArray ty (0, 0)) ∧ w'.heap.size = w.heap.size ∧
      (∀ k, k ≠ b → w'.heap[k]? = w.heap[k]?) ∧ w'.os = w.os ∧ w'.tape = w.tape ∧ w'.output = w.output := by
  have hlen : (cs.take (min sl dl)).length = min sl dl := by simp; omega
  obtain ⟨w', r1, r2, r3, r4, r5, r6, r7⟩ := storeCells_run (P := P) (b := b) (j := j) (e := ty) (cs.take (min sl dl)) 0 w r (fun v hv => h1 v (List.mem_of_mem_take hv)) ho (by omega)
  refine ⟨w', ?_, by rw [hlen] at r2; simpa using r2, r3, r4, r5, r6, r7⟩
  have h3 : (underlying t).run P w = .ok (.slice e) w := run_underlying hu w
  have h4 := firstCells_run (P := P) (m := min sl dl) (sz := 1) (c := sc) (by rw [hlen, Nat.mul_one]) (hr.take (min sl dl)) sl
  simp only [Builtin.copy_, Sem.run_bind, Sem.run_pure, h3, Result.andThen_ok, Builtin.lenOf, sizeOf_run hz, List.getElem?_toArray, List.getElem?_cons_zero, List.getElem?_cons_succ]
  have h5 : Nat.min sl dl = min sl dl := rfl
  rw [h5, h4]
  simp only [Result.andThen_ok, r1]
  rfl
theorem JL.copy {t' : TypeId} {ad : Option Addr} {dl dc sl sc : Nat} {r r' : List Value} {M' : List Ent} {te : TypeId} (hu : P.underlying t = some (.slice e)) (hz : szT P e = some 1) (hx : ev E x = some (.slice (some ⟨b, j, none⟩) dl dc)) (hy : ev E y = some (.slice ad sl sc))
    (hup : Upd M b (Row te r) (Row te r') M') (hl : cs.length = sl) (hr : ∀ w, Holds w0 S M w → Reads w ad cs) (h1 : ∀ v ∈ cs, v.oneCell' = true) (hj : j + min sl dl ≤ r.length) (he : r.take j ++ cs.take (min sl dl) ++ r.drop (j + min sl dl) = r') (hd : Nat.blt d n = true)
    (k : JL P n w0 S ops Q l ((d, N (min sl dl)) :: E) M') : JL P n w0 S ops Q (⟨some d, .call ⟨.builtin .copy, #[x, y], #[t, t']⟩, ty, pos, aft, none⟩ :: l) E M :=
  ⟨fun a w ha hw => wpList_plain rfl fun K hK => by
    obtain ⟨o, ho, hAo⟩ := hw.get hup.has
    subst hAo
    obtain ⟨w', r1, r2, r3, r4, r5, r6, r7⟩ := copy_run (P := P) (t' := t') (dc := dc) (sc := sc) (ty := te) hu hz ho hl (hr w hw) h1 hj
    have r1' : (Builtin.copy_ #[t, t'] ty #[.slice (some ⟨b, j, none⟩) dl dc, .slice ad sl sc]).run P w = .ok (N (min sl dl)) w' := r1
    unfold Oper.wp
    simp only [execOp, resolve, invoke, builtin, Sem.run_bind, Sem.run_pure, Result.andThen_ok, List.map_toArray, List.map_cons, List.map_nil, ha.eval hx, ha.eval hy, r1']
    exact hK _ _ (k.go _ _ (ha.put d _ hd) (hw.write hup (he ▸ rfl) r2 r3 r4 r5 r6 r7))⟩

theorem JL.store_part {r r' : List Value} {te : TypeId} {m : Nat} {M' : List Ent} (hz : szT P t = some m) (hx : ev E x = some (.pointer (some ⟨b, j, none⟩))) (hy : ev E y = some (.agg cs.toArray)) (hl : cs.length = m) (hv : cs.all Value.oneCell' = true) (hu : Upd M b (Row te r) (Row te r') M')
    (hj : j + cs.length ≤ r.length) (he : r.take j ++ cs ++ r.drop (j + cs.length) = r') (k : JL P n w0 S ops Q l E M') : JL P n w0 S ops Q (⟨none, .store t x y, ty, pos, aft, none⟩ :: l) E M :=
  JL.store_agg hz hx hy hl hv hu (fun _ ho => ⟨r, te, ho, hj, by rw [he]; rfl⟩) k
theorem append_none {_t' : TypeId} {w : World} {base ad : Option Addr} {nl cap sc : Nat} {i : TypeInfo} (hu : P.underlying t = some (.slice e)) (hi : P.info? e = some i) (hc : nl ≤ cap) :
    (Builtin.append_ #[t, t] ty #[.slice base nl cap, .slice ad 0 sc]).run P w = .ok (.slice base nl cap) w := by
  have h3 : (underlying t).run P w = .ok (.slice e) w := run_underlying hu w
  cases base <;> cases ad <;> simp [Builtin.append_, run_underlying hu, sizeOf, typeInfo, hi, Builtin.lenOf, Builtin.firstCells, loadCells, loadCellsFrom, hc, storeCells]

/-- append onto a slice of the function's own -/
theorem JL.append {z : Value} {ad : Option Addr} {sz by' k m cap sc : Nat} {xs : List Value} (M' : Nat → Nat → List Ent) (hu : P.underlying t = some (.slice e)) (hi : EI P e z sz by') (hx : ev E x = some (.slice (some ⟨b, 0, none⟩) k cap)) (hy : ev E y = some (.slice ad m sc))
    (hup : ∀ b' cap', Repl M b (Sl.Own e sz k cap xs) b' (Sl.Own e sz (k + m) cap' (xs ++ cs)) (M' b' cap')) (hl : cs.length = m * sz) (hr : ∀ w, Holds w0 S M w → Reads w ad cs) (h1 : ∀ v ∈ cs, v.oneCell' = true)
    (hzz : z.cells.size = sz) (h0 : 0 < sz) (hsm : (k + m) * by' ≤ 140737488355328) (hsm2 : k + m < 9223372036854775808) (hd : Nat.blt d n = true)
    (kk : ∀ b' cap', JL P n w0 S ops Q l ((d, .slice (some ⟨b', 0, none⟩) (k + m) cap') :: E) (M' b' cap')) : JL P n w0 S ops Q (⟨some d, .call ⟨.builtin .append, #[x, y], #[t, t]⟩, ty, pos, aft, none⟩ :: l) E M :=
  ⟨fun a w ha hw => wpList_plain rfl fun K hK => by
    obtain ⟨i, hi1, hi2, hi3, hi4⟩ := hi.get
    obtain ⟨o, ho, sp, rfl, hc1, hc2, hc3⟩ := hw.get (hup 0 0).has
    have hru := hr w hw
    unfold Oper.wp
    simp only [execOp, resolve, invoke, builtin, Sem.run_bind, Sem.run_pure, Result.andThen_ok, List.map_toArray, List.map_cons, List.map_nil, ha.eval hx, ha.eval hy]
    by_cases hm : m = 0
    · subst hm
      have hcs : cs = [] := List.eq_nil_of_length_eq_zero (by simpa using hl)
      subst hcs
      rw [append_none (_t' := t) hu hi1 hc3]
      refine hK _ _ ((kk b cap).go _ _ (ha.put d _ hd) (hw.write (hup b cap).upd (o' := .cells (xs ++ sp).toArray e (0, 0)) ?_ ho rfl (fun _ _ => rfl) rfl rfl rfl))
      exact ⟨sp, by simp, by simpa using hc1, by simpa using hc2, by omega⟩
    · have hpos : 0 < cs.length := by rw [hl]; exact Nat.mul_pos (Nat.pos_of_ne_zero hm) h0
      obtain ⟨b2, j2, rfl, hcell⟩ := hru.at hpos
      by_cases hroom : k + m ≤ cap
      · have hfit : k * i.size + cs.length ≤ (xs ++ sp).toArray.size := by
          rw [hl, hi3, List.size_toArray, hc1, ← Nat.add_mul]; exact Nat.mul_le_mul_right _ hroom
        rw [run_append_room (P := P) w t ty e i hu hi1 b k cap (xs ++ sp).toArray ho ⟨b2, j2, none⟩ m sc cs (by rw [hl, hi3]) (fun u v hv => by rw [add_off]; exact hcell u v hv) h1 hroom hfit]
        refine hK _ _ ((kk b cap).go _ _ (ha.put d _ hd) (hw.write (hup b cap).upd (o' := .cells ((xs ++ sp).take (k * i.size) ++ cs ++ (xs ++ sp).drop (k * i.size + cs.length)).toArray e (0, 0)) ?_ (setRow_heap w b _ _ e _ ho) (by simp) (fun q hq => setRow_other w b q _ hq) rfl rfl rfl))
        rw [hi3, ← hc2, List.take_left]
        refine ⟨(xs ++ sp).drop (xs.length + cs.length), rfl, ?_, by rw [List.length_append, hc2, hl, Nat.add_mul], hroom⟩
        have h7 : xs.length + cs.length ≤ (xs ++ sp).length := by rw [hc1, hc2, hl, ← Nat.add_mul]; exact Nat.mul_le_mul_right _ hroom
        simp only [List.length_append, List.length_drop] at h7 hc1 ⊢
        omega
      · have hold : ∀ u v, xs[u]? = some v → w.cell? ((⟨b, 0, none⟩ : Addr).add u) = some v := fun u v hv => by
          rw [add_off]
          have hu' : u < xs.length := (List.getElem?_eq_some_iff.1 hv).1
          exact cell_of ho (by simpa [cellAt, List.getElem?_append_left hu'] using hv)
        have hfit := growslice_fits (need := k + m) (old := cap) (by omega) hsm
        rw [run_append_grow (P := P) w t ty e i z hu hi1 hi2 ⟨b, 0, none⟩ k cap xs (by rw [hc2, hi3]) hold ⟨b2, j2, none⟩ m sc cs (by rw [hl, hi3]) (fun u v hv => by rw [add_off]; exact hcell u v hv) (by omega) (by omega) (by rw [hi4]; exact hfit)]
        have hge := grownCap_ge w (k + m) cap e
        generalize grownCap w (k + m) cap e = nc at hge
        refine hK _ _ ((kk w.heap.size nc).go _ _ (ha.put d _ hd) (hw.renew (.cells (xs.toArray ++ cs.toArray ++ Builtin.zeroCells z.cells (nc - (k + m))) e) (hup _ _) ?_ rfl rfl rfl rfl))
        refine ⟨(Builtin.zeroCells z.cells (nc - (k + m))).toList, by simp, ?_, by rw [List.length_append, hc2, hl, Nat.add_mul], hge⟩
        have h8 : (Builtin.zeroCells z.cells (nc - (k + m))).size = (nc - (k + m)) * sz := by simp [Builtin.zeroCells, hzz]
        simp only [List.length_append, Array.length_toList, h8, hc2, hl, ← Nat.add_mul]
        congr 1
        omega⟩

/-- append onto nil -/
theorem JL.append_nil {z : Value} {ad : Option Addr} {sz by' m sc : Nat} (hu : P.underlying t = some (.slice e)) (hi : EI P e z sz by') (hx : ev E x = some (.slice none 0 0)) (hy : ev E y = some (.slice ad m sc))
    (hl : cs.length = m * sz) (hr : ∀ w, Holds w0 S M w → Reads w ad cs) (hm : 0 < m)
    (hzz : z.cells.size = sz) (h0 : 0 < sz) (hsm : m * by' ≤ 140737488355328) (hsm2 : m < 9223372036854775808) (hd : Nat.blt d n = true)
    (kk : ∀ b' cap', w0.heap.size ≤ b' → JL P n w0 S ops Q l ((d, .slice (some ⟨b', 0, none⟩) m cap') :: E) (⟨b', Sl.Own e sz m cap' cs, true⟩ :: M)) : JL P n w0 S ops Q (⟨some d, .call ⟨.builtin .append, #[x, y], #[t, t]⟩, ty, pos, aft, none⟩ :: l) E M :=
  ⟨fun a w ha hw => wpList_plain rfl fun K hK => by
    obtain ⟨i, hi1, hi2, hi3, hi4⟩ := hi.get
    have hru := hr w hw
    unfold Oper.wp
    simp only [execOp, resolve, invoke, builtin, Sem.run_bind, Sem.run_pure, Result.andThen_ok, List.map_toArray, List.map_cons, List.map_nil, ha.eval hx, ha.eval hy]
    have hpos : 0 < cs.length := by rw [hl]; exact Nat.mul_pos hm h0
    obtain ⟨b2, j2, rfl, hcell⟩ := hru.at hpos
    rw [run_append_nil (P := P) w t ty e i z hu hi1 hi2 ⟨b2, j2, none⟩ m sc cs (by rw [hl, hi3]) (fun u v hv => by rw [add_off]; exact hcell u v hv) hm (by omega) (by rw [hi4]; omega)]
    have hge := grownCap_ge w m 0 e
    generalize grownCap w m 0 e = nc at hge
    refine hK _ _ ((kk w.heap.size nc hw.chg.size).go _ _ (ha.put d _ hd) (hw.push (.cells (cs.toArray ++ Builtin.zeroCells z.cells (nc - m)) e) ?_ rfl rfl rfl rfl))
    refine ⟨(Builtin.zeroCells z.cells (nc - m)).toList, by simp, ?_, hl, hge⟩
    have h8 : (Builtin.zeroCells z.cells (nc - m)).size = (nc - m) * sz := by simp [Builtin.zeroCells, hzz]
    simp only [List.length_append, Array.length_toList, h8, hl, ← Nat.add_mul]
    congr 1
    omega⟩

/-! ### a region whose order is open, order by order -/
structure JA (P : Program) (n : Nat) (w0 : World) (S : List Nat) (ops : Array Oper) (Q : Exit → Act → World → Prop) (f : Nat) (done : Array Bool) (E : Env) (M : List Ent) : Prop where
  go : ∀ a w, Knows n E a → Holds w0 S M w → wpAny P .any ops Q f done a w
theorem wpOp_of_list {Q : Exit → Act → World → Prop} {K : Act → World → Prop} {i : Nat} {o : Oper} {a : Act} {w : World} (ho : ops[i]? = some o) (h : wpList P ops (Exit.then K Q) [o] a w) : wpOp P ops Q i K a w := by
  unfold wpOp
  simp only [ho]
  unfold wpList at h
  split
  · rename_i hw
    rw [if_pos hw] at h
    rcases h with h | h
    · left
      unfold Oper.wp Oper.upon at h ⊢
      generalize (execOp a.eval o).run P w = r at h ⊢
      cases r with
      | ok nx w' => cases nx <;> first | exact h | (refine Calls.mono h ?_; rintro (v | c | _) w'' hh <;> exact hh)
      | halt x w' => cases x <;> exact h
    · exact .inr h
  · rename_i hw
    rw [if_neg hw] at h
    exact h
theorem JC.any {id : Nat} {l : List Oper} (hm : P.follows .mixedOrders = true) (h : JA P n w0 S l.toArray Q l.toArray.size (Array.replicate l.toArray.size false) E M) : JC P n w0 S Q (.region id l.toArray true) E M :=
  ⟨fun a _ ha hw => wp_region_any hm (h.go a _ ha (hw.drawn _))⟩
theorem JA.step {f : Nat} {done : Array Bool} {L : List Nat} (hr : Region.ready .any ops done = L) (hne : L.isEmpty = false) (h : ∀ i ∈ L, ∃ o, ops[i]? = some o ∧ JL P n w0 S ops (Exit.then (fun a' w' => wpAny P .any ops Q f (done.setIfInBounds i true) a' w') Q) [o] E M) :
    JA P n w0 S ops Q (f + 1) done E M :=
  ⟨fun a w ha hw => ⟨fun h0 => (by rw [hr] at h0; subst h0; cases hne), fun i hi => by
    obtain ⟨o, ho, hj⟩ := h i (hr ▸ hi)
    exact wpOp_of_list ho (hj.go a w ha hw)⟩⟩
theorem JA.done {done : Array Bool} (hr : Region.ready .any ops done = []) (h : JE n w0 S Q .normal E M) : JA P n w0 S ops Q 0 done E M := ⟨fun a w ha hw => ⟨hr, h.go a w ha hw⟩⟩
theorem JE.any {f : Nat} {done : Array Bool} (h : JA P n w0 S ops Q f done E M) : JE n w0 S (Exit.then (fun a' w' => wpAny P .any ops Q f done a' w') Q) .normal E M := ⟨h.go⟩
theorem each_cons {p : Nat → Prop} {i : Nat} {L : List Nat} (h : p i) (k : ∀ i ∈ L, p i) : ∀ j ∈ i :: L, p j := by
  intro j hj
  simp only [List.mem_cons] at hj
  rcases hj with rfl | hj
  · exact h
  · exact k j hj
theorem each_nil {p : Nat → Prop} : ∀ j ∈ ([] : List Nat), p j := by intro j hj; cases hj

/-! ### where ways meet again -/
theorem JC.join {ι : Type} (Ei : ι → Env) (Mi : ι → List Ent) (I : ι → Prop) {p q : Code} {Q' : Exit → Act → World → Prop} (h : JC P n w0 S (Exit.then (fun a' w' => ∃ i, I i ∧ Knows n (Ei i) a' ∧ Holds w0 S (Mi i) w') Q) p E M)
    (k : ∀ i, I i → JC P n w0 S Q' q (Ei i) (Mi i)) : JC P n w0 S (Exit.then (q.wp P Q') Q) p E M :=
  ⟨fun a w ha hw => wp_mono (h.go a w ha hw) fun e a' w' he => by
    cases e with
    | normal => obtain ⟨i, hi, h1, h2⟩ := he; exact (k i hi).go a' w' h1 h2
    | exit _ => exact he
    | goto _ => exact he
    | ret => exact he
    | panic _ => exact he
    | outgrown => exact he⟩
theorem JE.mid {ι : Type} {Ei : ι → Env} {Mi : ι → List Ent} {I : ι → Prop} (i : ι) (hi : I i) (hE : SubE E (Ei i)) (hM : Less (Mi i) M) :
    JE n w0 S (Exit.then (fun a' w' => ∃ i, I i ∧ Knows n (Ei i) a' ∧ Holds w0 S (Mi i) w') Q) .normal E M :=
  ⟨fun _ _ ha hw => ⟨i, hi, ha.sub hE, hw.weak hM⟩⟩
end
end Sl
end Go.Proofs.YtbihfhkbkcplmaaDoor

/-
  Of no statement by itself: rules for calls that make a block or write one, over X's partial knowledge of frame and memory, for any program P.
  Conditions: each rule's own hypotheses.
-/
namespace Go.Proofs.YtbihfhkbkcplmaaDoor
namespace Sl
section
variable {P : Program} {n : Nat} {w0 : World} {S : List Nat} {ops : Array Oper} {Q : Exit → Act → World → Prop} {l : List Oper} {E : Env} {M M' : List Ent}
variable {d b : Nat} {ty : TypeId} {pos : String} {aft : Array Edge} {v : Value} {A A' : Obj → Prop} {f : FuncId} {xs : List Operand} {ats : Array TypeId} {vs : List Value}
/-- a call that makes a block and hands it back -/
theorem JL.callf {ι : Type} (bf : ι → Nat) (vf : ι → Value) (Af : ι → Obj → Prop) (hg : Goes P f) (hx : evs E xs = some vs) (hd : Nat.blt d n = true)
    (hc : ∀ w, Holds w0 S M w → Calls P f vs.toArray w fun e w' => ∃ i, e = .returned (vf i) ∧ Ext w w' ∧ w.heap.size ≤ bf i ∧ ∃ o, w'.heap[bf i]? = some o ∧ Af i o)
    (k : ∀ i, w0.heap.size ≤ bf i → JL P n w0 S ops Q l ((d, vf i) :: E) (⟨bf i, Af i, true⟩ :: M)) : JL P n w0 S ops Q (⟨some d, .call ⟨.value (.func f), xs.toArray, ats⟩, ty, pos, aft, none⟩ :: l) E M :=
  JL.call (ι := { i : ι // w0.heap.size ≤ bf i }) (fun i => vf i.1) (fun i => ⟨bf i.1, Af i.1, true⟩ :: M) hg hx hd
    (fun w hw => (hc w hw).mono fun _ _ ⟨i, h1, h2, h3, _, h4, h5⟩ => ⟨⟨i, Nat.le_trans hw.chg.size h3⟩, h1, hw.fresh h2 h3 h4 h5⟩) (fun i => k i.1 i.2)
/-- a call that writes one block -/
theorem JL.callu (hu : Upd M b A A' M') (hg : Goes P f) (hx : evs E xs = some vs) (hd : Nat.blt d n = true)
    (hc : ∀ w, Holds w0 S M w → Calls P f vs.toArray w fun e w' => e = .returned v ∧ Chg [b] w w' ∧ ∃ o, w'.heap[b]? = some o ∧ A' o)
    (k : JL P n w0 S ops Q l ((d, v) :: E) M') : JL P n w0 S ops Q (⟨some d, .call ⟨.value (.func f), xs.toArray, ats⟩, ty, pos, aft, none⟩ :: l) E M :=
  JL.call (ι := Unit) (fun _ => v) (fun _ => M') hg hx hd (fun _ hw => (hc _ hw).mono fun _ _ ⟨h1, h2, _, h4, h5⟩ => ⟨(), h1, hw.turn hu h2 h4 h5⟩) (fun _ => k)

/-! ### literals of slices -/
variable {t e : TypeId} {x : Operand} {z : Value} {by' : Nat}
theorem range0 : Array.range 0 = #[] := by decide
theorem range1 : Array.range 1 = #[0] := by decide
theorem range3 : Array.range 3 = #[0, 1, 2] := by decide
theorem build0_run {w : World} (hu : P.underlying t = some (.slice e)) (hi : EI P e z 1 by') : (Instr.buildSlice t 0 #[]).run P w = .ok (.slice (some ⟨w.heap.size, 0, none⟩) 0 0) { w with heap := w.heap.push (.cells ([] : List Value).toArray e (0, 0)) } := by
  have h3 : (underlying t).run P w = .ok (.slice e) w := run_underlying hu w
  simp [Instr.buildSlice, Sem.run_bind, h3, sizeOf_run hi.sz, Instr.fill, newRow, newObj, Sem.run, range0]
theorem build1_run {w : World} (hu : P.underlying t = some (.slice e)) (hi : EI P e z 1 by') (_hz : z.cells.size = 1) (hv : v.cells = #[v]) : (Instr.buildSlice t 1 #[(0, v)]).run P w = .ok (.slice (some ⟨w.heap.size, 0, none⟩) 1 1) { w with heap := w.heap.push (.cells [v].toArray e (0, 0)) } := by
  have h3 : (underlying t).run P w = .ok (.slice e) w := run_underlying hu w
  obtain ⟨i, h4, h5, _⟩ := hi.get
  simp [Instr.buildSlice, Sem.run_bind, h3, sizeOf_run hi.sz, zeroValue, typeInfo, h4, h5, Instr.fill, hv, newRow, newObj, Sem.run, range1]
theorem build3_run {w : World} {v1 v2 v3 : Value} (hu : P.underlying t = some (.slice e)) (hi : EI P e z 1 by') (_hz : z.cells.size = 1) (hv1 : v1.cells = #[v1]) (hv2 : v2.cells = #[v2]) (hv3 : v3.cells = #[v3]) :
    (Instr.buildSlice t 3 #[(0, v1), (1, v2), (2, v3)]).run P w = .ok (.slice (some ⟨w.heap.size, 0, none⟩) 3 3) { w with heap := w.heap.push (.cells [v1, v2, v3].toArray e (0, 0)) } := by
  have h3 : (underlying t).run P w = .ok (.slice e) w := run_underlying hu w
  obtain ⟨i, h4, h5, _⟩ := hi.get
  simp [Instr.buildSlice, Sem.run_bind, h3, sizeOf_run hi.sz, zeroValue, typeInfo, h4, h5, Instr.fill, hv1, hv2, hv3, newRow, newObj, Sem.run, range3]
theorem JL.lit0 (hu : P.underlying t = some (.slice e)) (hi : EI P e z 1 by') (hd : Nat.blt d n = true)
    (k : ∀ b, w0.heap.size ≤ b → JL P n w0 S ops Q l ((d, .slice (some ⟨b, 0, none⟩) 0 0) :: E) (⟨b, Row e [], true⟩ :: M)) : JL P n w0 S ops Q (⟨some d, .buildSlice t 0 #[], ty, pos, aft, none⟩ :: l) E M :=
  ⟨fun a w ha hw => wpList_plain rfl fun K hK => by
    unfold Oper.wp
    have hm : (#[] : Array (Nat × Operand)).map (fun (i, x) => (i, a.eval x)) = #[] := by simp
    simp only [execOp, hm, Sem.run_bind, build0_run hu hi, Result.andThen_ok]
    exact hK _ _ ((k w.heap.size hw.chg.size).go _ _ (ha.put d _ hd) (hw.push _ rfl rfl rfl rfl rfl))⟩
theorem JL.lit1 (hu : P.underlying t = some (.slice e)) (hi : EI P e z 1 by') (hz : z.cells.size = 1) (hx : ev E x = some v) (hv : v.cells = #[v]) (hd : Nat.blt d n = true)
    (k : ∀ b, w0.heap.size ≤ b → JL P n w0 S ops Q l ((d, .slice (some ⟨b, 0, none⟩) 1 1) :: E) (⟨b, Row e [v], true⟩ :: M)) : JL P n w0 S ops Q (⟨some d, .buildSlice t 1 #[(0, x)], ty, pos, aft, none⟩ :: l) E M :=
  ⟨fun a w ha hw => wpList_plain rfl fun K hK => by
    unfold Oper.wp
    have hm : (#[(0, x)] : Array (Nat × Operand)).map (fun (i, x) => (i, a.eval x)) = #[(0, v)] := by simp [ha.eval hx]
    simp only [execOp, hm, Sem.run_bind, build1_run hu hi hz hv, Result.andThen_ok]
    exact hK _ _ ((k w.heap.size hw.chg.size).go _ _ (ha.put d _ hd) (hw.push _ rfl rfl rfl rfl rfl))⟩
theorem JL.lit3 {x1 x2 x3 : Operand} {v1 v2 v3 : Value} (hu : P.underlying t = some (.slice e)) (hi : EI P e z 1 by') (hz : z.cells.size = 1) (hx1 : ev E x1 = some v1) (hx2 : ev E x2 = some v2) (hx3 : ev E x3 = some v3) (hv1 : v1.cells = #[v1]) (hv2 : v2.cells = #[v2]) (hv3 : v3.cells = #[v3]) (hd : Nat.blt d n = true)
    (k : ∀ b, w0.heap.size ≤ b → JL P n w0 S ops Q l ((d, .slice (some ⟨b, 0, none⟩) 3 3) :: E) (⟨b, Row e [v1, v2, v3], true⟩ :: M)) : JL P n w0 S ops Q (⟨some d, .buildSlice t 3 #[(0, x1), (1, x2), (2, x3)], ty, pos, aft, none⟩ :: l) E M :=
  ⟨fun a w ha hw => wpList_plain rfl fun K hK => by
    unfold Oper.wp
    have hm : (#[(0, x1), (1, x2), (2, x3)] : Array (Nat × Operand)).map (fun (i, x) => (i, a.eval x)) = #[(0, v1), (1, v2), (2, v3)] := by simp [ha.eval hx1, ha.eval hx2, ha.eval hx3]
    simp only [execOp, hm, Sem.run_bind, build3_run hu hi hz hv1 hv2 hv3, Result.andThen_ok]
    exact hK _ _ ((k w.heap.size hw.chg.size).go _ _ (ha.put d _ hd) (hw.push _ rfl rfl rfl rfl rfl))⟩

theorem JL.weak {E' : Env} (h : JL P n w0 S ops Q l E' M') (hE : SubE E E') (hM : Less M' M) : JL P n w0 S ops Q l E M := ⟨fun a w ha hw => h.go a w (ha.sub hE) (hw.weak hM)⟩

/-! ### int with its sign -/
variable {C : World → Prop} {dst : Option Tmp} {g : Option (Nat × Bool)} {y : Operand} {t' : TypeId}
theorem OQ.geqI {a b : Int} (hx : ev E x = some (.int .i64 a)) (hy : ev E y = some (.int .i64 b)) : OQ P n E C ⟨dst, .binOp .geq t x y t', ty, pos, aft, g⟩ (.bool (decide (b ≤ a))) :=
  OQ.bin hx hy rfl fun _ => okBool rfl
theorem OQ.gtrI {a b : Int} (hx : ev E x = some (.int .i64 a)) (hy : ev E y = some (.int .i64 b)) : OQ P n E C ⟨dst, .binOp .gtr t x y t', ty, pos, aft, g⟩ (.bool (decide (b < a))) :=
  OQ.bin hx hy rfl fun _ => okBool rfl
theorem OQ.lssI {a b : Int} (hx : ev E x = some (.int .i64 a)) (hy : ev E y = some (.int .i64 b)) : OQ P n E C ⟨dst, .binOp .lss t x y t', ty, pos, aft, g⟩ (.bool (decide (a < b))) :=
  OQ.bin hx hy rfl fun _ => okBool rfl
theorem OQ.subI {a b : Int} (hx : ev E x = some (.int .i64 a)) (hy : ev E y = some (.int .i64 b)) (h1 : -9223372036854775808 ≤ a - b) (h2 : a - b < 9223372036854775808) : OQ P n E C ⟨dst, .binOp .sub t x y t', ty, pos, aft, g⟩ (.int .i64 (a - b)) :=
  OQ.bin hx hy rfl fun _ => okInt (k := .i64) (show IntKind.i64.wrap (a - b) = a - b from wrapN h1 h2)
end
end Sl
end Go.Proofs.YtbihfhkbkcplmaaDoor

/-
  Of no statement by itself: rules for guarded operations, tests that are decided, equality of arrays of bytes, over X's partial knowledge of frame and memory, for any program P.
  Conditions: each rule's own hypotheses.
-/
namespace Go.Proofs.YtbihfhkbkcplmaaDoor
namespace Sl
open Extern.Stop (cell)
section
variable {P : Program} {n : Nat} {w0 : World} {S : List Nat} {ops : Array Oper} {Q : Exit → Act → World → Prop} {l : List Oper} {E : Env} {M M' : List Ent} {C : World → Prop}
variable {dst : Option Tmp} {d b j : Nat} {op : Op} {t t' ty e : TypeId} {pos : String} {aft : Array Edge} {g : Option (Nat × Bool)} {v u : Value} {x y z : Operand} {want : Bool}

theorem wanted_any {o : Oper} {j : Nat} {want b : Bool} (ho : o.guard = some (j, want)) (h : guardIs ops E j = some b) (hf : guardFits ops n j = true) {a : Act} (ha : Knows n E a) : Region.wanted o (yielded ops a.tmps) = (b == want) := by
  simp only [Region.wanted, ho, guard_spec h ha (guardFits_spec hf)]
  cases b <;> cases want <;> rfl
/-- a guard that says yes is no guard -/
theorem JL.gon {dst : Option Nat} (hg : guardIs ops E j = some want) (hf : guardFits ops n j = true) (h : JL P n w0 S ops Q (⟨dst, op, ty, pos, aft, none⟩ :: l) E M) : JL P n w0 S ops Q (⟨dst, op, ty, pos, aft, some (j, want)⟩ :: l) E M :=
  ⟨fun a w ha hw => by
    have h1 := h.go a w ha hw
    unfold wpList at h1 ⊢
    rw [wanted_any rfl hg hf ha]
    simp only [beq_self_eq_true, if_true]
    rw [show Region.wanted ⟨dst, op, ty, pos, aft, none⟩ (yielded ops a.tmps) = true from rfl, if_pos rfl] at h1
    exact h1⟩
theorem JQ.gon {Φ : Act → Prop} {dst : Option Nat} (hg : guardIs ops E j = some want) (hf : guardFits ops n j = true) (h : JQ P n w0 S ops M Φ (⟨dst, op, ty, pos, aft, none⟩ :: l) E) : JQ P n w0 S ops M Φ (⟨dst, op, ty, pos, aft, some (j, want)⟩ :: l) E :=
  ⟨fun a ha => by
    have h1 := h.go a ha
    unfold wpQuiet at h1 ⊢
    rw [wanted_any rfl hg hf ha]
    simp only [beq_self_eq_true, if_true]
    rw [show Region.wanted ⟨dst, op, ty, pos, aft, none⟩ (yielded ops a.tmps) = true from rfl, if_pos rfl] at h1
    exact h1⟩

theorem OQ.pick_t (hc : ev E z = some (.bool true)) (hx : ev E x = some v) : OQ P n E C ⟨dst, .pick z x y, ty, pos, aft, g⟩ v :=
  OQ.run fun a ha w _ => by
    have h1 := ha.eval hc
    have h2 := ha.eval hx
    simp [execOp, h1, h2, asBool]
theorem OQ.pick_f (hc : ev E z = some (.bool false)) (hy : ev E y = some v) : OQ P n E C ⟨dst, .pick z x y, ty, pos, aft, g⟩ v :=
  OQ.run fun a ha w _ => by
    have h1 := ha.eval hc
    have h2 := ha.eval hy
    simp [execOp, h1, h2, asBool]
theorem OQ.not {c : Bool} (hx : ev E x = some (.bool c)) : OQ P n E C ⟨dst, .unOp .not t x, ty, pos, aft, g⟩ (.bool (!c)) :=
  OQ.run fun a ha w _ => by
    have h1 := ha.eval hx
    simp [execOp, h1, Op.unary]
theorem OQ.eqi_t {k : IntKind} {a b : Int} (hx : ev E x = some (.int k a)) (hy : ev E y = some (.int k b)) (h : a = b) : OQ P n E C ⟨dst, .binOp .eql t x y t', ty, pos, aft, g⟩ (.bool true) :=
  (decide_eq_true h : decide (a = b) = true) ▸ OQ.eqi hx hy
theorem OQ.eqi_f {k : IntKind} {a b : Int} (hx : ev E x = some (.int k a)) (hy : ev E y = some (.int k b)) (h : ¬ a = b) : OQ P n E C ⟨dst, .binOp .eql t x y t', ty, pos, aft, g⟩ (.bool false) :=
  (decide_eq_false h : decide (a = b) = false) ▸ OQ.eqi hx hy
theorem OQ.nei_f {k : IntKind} {a b : Int} (hx : ev E x = some (.int k a)) (hy : ev E y = some (.int k b)) (h : a = b) : OQ P n E C ⟨dst, .binOp .neq t x y t', ty, pos, aft, g⟩ (.bool false) := by
  have := OQ.nei (P := P) (n := n) (C := C) (dst := dst) (ty := ty) (t := t) (t' := t') (pos := pos) (aft := aft) (g := g) hx hy
  rwa [decide_eq_true h] at this
theorem OQ.lssN_t {a b : Nat} (hx : ev E x = some (N a)) (hy : ev E y = some (N b)) (h : a < b) : OQ P n E C ⟨dst, .binOp .lss t x y t', ty, pos, aft, g⟩ (.bool true) :=
  (decide_eq_true h : decide (a < b) = true) ▸ OQ.lssN hx hy
theorem OQ.lssN_f {a b : Nat} (hx : ev E x = some (N a)) (hy : ev E y = some (N b)) (h : ¬ a < b) : OQ P n E C ⟨dst, .binOp .lss t x y t', ty, pos, aft, g⟩ (.bool false) :=
  (decide_eq_false h : decide (a < b) = false) ▸ OQ.lssN hx hy
theorem OQ.lssI_f {a b : Int} (hx : ev E x = some (.int .i64 a)) (hy : ev E y = some (.int .i64 b)) (h : ¬ a < b) : OQ P n E C ⟨dst, .binOp .lss t x y t', ty, pos, aft, g⟩ (.bool false) :=
  (decide_eq_false h : decide (a < b) = false) ▸ OQ.lssI hx hy
theorem OQ.gtrI_f {a b : Int} (hx : ev E x = some (.int .i64 a)) (hy : ev E y = some (.int .i64 b)) (h : ¬ b < a) : OQ P n E C ⟨dst, .binOp .gtr t x y t', ty, pos, aft, g⟩ (.bool false) :=
  (decide_eq_false h : decide (b < a) = false) ▸ OQ.gtrI hx hy
theorem U8_cell (r : List (BitVec 8)) : r.map U8 = (r.map UInt8.ofBitVec).map cell := by
  rw [List.map_map]
  rfl
theorem eq_list (r q : List (BitVec 8)) : (r.map UInt8.ofBitVec == q.map UInt8.ofBitVec) = decide (r = q) := by
  rw [Bool.eq_iff_iff]
  simp only [beq_iff_eq, decide_eq_true_eq]
  constructor
  · intro h
    have := congrArg (List.map UInt8.toBitVec) h
    rw [List.map_map, List.map_map] at this
    have hid : (UInt8.toBitVec ∘ UInt8.ofBitVec) = (id : BitVec 8 → BitVec 8) := rfl
    rwa [hid, List.map_id, List.map_id] at this
  · rintro rfl; rfl
/-- arrays of bytes -/
theorem OQ.eqA {m : Nat} {r q : List (BitVec 8)} (hu : P.underlying t = some (.array m e)) (he : P.underlying e = some (.int .u8)) (hz : szT P e = some 1) (hgd : P.eqGuardType P.depth t = false) (hx : ev E x = some (.agg (r.map U8).toArray)) (hy : ev E y = some (.agg (q.map U8).toArray)) (hr : r.length = m) (hq : q.length = m) :
    OQ P n E C ⟨dst, .binOp .eql t x y t', ty, pos, aft, g⟩ (.bool (decide (r = q))) :=
  OQ.run fun a ha w _ => by
    have h1 := ha.eval hx
    have h2 := ha.eval hy
    have h3 := fun w => run_eql_bytes (P := P) w t e m hu he (fun w => sizeOf_run hz w) (r.map UInt8.ofBitVec) (q.map UInt8.ofBitVec) (by simpa using hr) (by simpa using hq)
    rw [eq_list] at h3
    rw [U8_cell] at h1 h2
    have h4 := fun w => run_eqGuard_agg (P := P) (w := w) .eql t x y ((r.map UInt8.ofBitVec).map cell).toArray ((q.map UInt8.ofBitVec).map cell).toArray hgd
    simp only [execOp, h1, h2, Sem.run_bind, h4, Result.andThen_ok, h3]
    rfl
theorem OQ.eqA_t {m : Nat} {r q : List (BitVec 8)} (hu : P.underlying t = some (.array m e)) (he : P.underlying e = some (.int .u8)) (hz : szT P e = some 1) (hgd : P.eqGuardType P.depth t = false) (hx : ev E x = some (.agg (r.map U8).toArray)) (hy : ev E y = some (.agg (q.map U8).toArray)) (hr : r.length = m) (hq : q.length = m) (h : r = q) :
    OQ P n E C ⟨dst, .binOp .eql t x y t', ty, pos, aft, g⟩ (.bool true) := (decide_eq_true h : decide (r = q) = true) ▸ OQ.eqA hu he hz hgd hx hy hr hq
/-! ### a conversion between types of slices of bytes: its block is marked -/
def Frz (e : TypeId) (r : List Value) : Obj → Prop := fun o => ∃ fr, o = .cells r.toArray e fr
theorem Frz.all {r : List Value} : ∀ o, Frz e r o → hasCells o 0 r := by
  rintro o ⟨fr, rfl⟩
  exact ⟨_, _, _, rfl, fun i _ => by simp⟩
theorem JL.mark {r : List Value} {te : TypeId} {len cap : Nat} (hu : P.underlying t = some (.slice e)) (he : P.underlying e = some (.int .u8)) (hx : ev E x = some (.slice (some ⟨b, 0, none⟩) len cap)) (hup : Upd M b (Row te r) (Frz te r) M') (hd : Nat.blt d n = true)
    (k : JL P n w0 S ops Q l ((d, .slice (some ⟨b, 0, none⟩) len cap) :: E) M') : JL P n w0 S ops Q (⟨some d, .convert t t x, ty, pos, aft, none⟩ :: l) E M :=
  ⟨fun a w ha hw => wpList_plain rfl fun K hK => by
    obtain ⟨o, ho, hA⟩ := hw.get hup.has
    subst hA
    have h1 := ha.eval hx
    have h3 : ∀ w, (underlying t).run P w = .ok (.slice e) w := run_underlying hu
    have h4 : ∀ w, (underlying e).run P w = .ok (.int .u8) w := run_underlying he
    have hsh : w.shape? b = some (te, r.length) := by simp [World.shape?, ho]
    have hrun : (convert t t (.slice (some ⟨b, 0, none⟩) len cap)).run P w = .ok (.slice (some ⟨b, 0, none⟩) len cap) (w.freeze { block := b, off := r.length } 1) := by
      simp [convert, Sem.run_bind, h3, h4, markStringish, shape, freeze, Sem.run, hsh]
    unfold Oper.wp
    simp only [execOp, h1, Sem.run_bind, hrun, Result.andThen_ok]
    refine hK _ _ (k.go _ _ (ha.put d _ hd) (hw.write hup (o' := .cells r.toArray te (r.length, r.length + 1)) ⟨_, rfl⟩ ?_ (by simp [World.freeze]) (fun q hq => ?_) rfl rfl rfl))
    · simp [World.freeze, Array.getElem?_modify, ho]
    · simp [World.freeze, Array.getElem?_modify, Ne.symm hq]⟩
end
end Sl
end Go.Proofs.YtbihfhkbkcplmaaDoor

/-
  Of no statement by itself: a rule for a region whose order Go leaves open and whose operations make memory: each operation is told once, whatever else was done before it.
  Conditions: the rule's own hypotheses.
-/
namespace Go.Proofs.YtbihfhkbkcplmaaDoor
namespace Sl

abbrev X := Nat × Nat
abbrev X3 := Nat × Nat × Nat
theorem lk_known {f : Nat → Value} {E : Env} (h : ∀ p ∈ E, f p.1 = p.2) {p : Nat × Value} (hp : p ∈ E) : lk E p.1 = some p.2 := by
  induction E with
  | nil => cases hp
  | cons q E ih =>
    simp only [lk]
    by_cases e : q.1 = p.1
    · have h1 := h q (by simp)
      have h2 := h p hp
      rw [e] at h1
      simp [e, ← h1, ← h2]
    · have : Nat.beq q.1 p.1 = false := Bool.eq_false_iff.2 fun h => e (Nat.eq_of_beq_eq_true h)
      rw [this]
      refine ih (fun q hq => h q (by simp [hq])) ?_
      simp only [List.mem_cons] at hp
      rcases hp with rfl | hp
      · exact absurd rfl e
      · exact hp
theorem mem_lk {E : Env} {t : Nat} {v : Value} (h : lk E t = some v) : (t, v) ∈ E := by
  induction E with
  | nil => simp [lk] at h
  | cons q E ih =>
    simp only [lk] at h
    by_cases e : q.1 = t
    · subst e
      simp at h
      subst h
      simp
    · have : Nat.beq q.1 t = false := Bool.eq_false_iff.2 fun h => e (Nat.eq_of_beq_eq_true h)
      rw [this] at h
      simp [ih h]
theorem Knows.of {n : Nat} {E : Env} {a : Act} (h1 : a.tmps.size = n) (h2 : a.defers = []) (h : ∀ p ∈ E, a.tmps.getD p.1 undef = p.2) : Knows n E a := ⟨h1, h2, fun _ _ hl => h _ (mem_lk hl)⟩
theorem Knows.mem {n : Nat} {E : Env} {a : Act} {f : Nat → Value} (h : Knows n E a) (hf : ∀ p ∈ E, f p.1 = p.2) {p : Nat × Value} (hp : p ∈ E) : a.tmps.getD p.1 undef = p.2 := h.all _ _ (lk_known hf hp)

/-- memory by index -/
structure HoldsI (w0 : World) (S : List Nat) (L : Nat → Prop) (f : Nat → List Ent) (w : World) : Prop where
  chg : Chg S w0 w
  all : ∀ j, L j → ∀ e ∈ f j, (∃ o, w.heap[e.b]? = some o ∧ e.A o) ∧ (e.wr = true → e.b ∈ S ∨ w0.heap.size ≤ e.b)
  nodup : ∀ j, L j → ((f j).map Ent.b).Nodup
  apart : ∀ j k, j ≠ k → L j → L k → ∀ e ∈ f j, ∀ e' ∈ f k, e.b ≠ e'.b

section
variable {w0 w : World} {S : List Nat} {L : Nat → Prop} {f : Nat → List Ent}
theorem HoldsI.to (h : HoldsI w0 S L f w) (Js : List Nat) (hn : Js.Nodup) (hL : ∀ j ∈ Js, L j) : Holds w0 S (Js.flatMap f) w := by
  refine ⟨h.chg, ?_, fun e he => ?_⟩
  · induction Js with
    | nil => simp
    | cons j Js ih =>
      rw [List.flatMap_cons, List.map_append, List.nodup_append]
      refine ⟨h.nodup j (hL j (by simp)), ih (List.nodup_cons.1 hn).2 (fun k hk => hL k (by simp [hk])), fun b hb b' hb' => ?_⟩
      simp only [List.mem_map, List.mem_flatMap] at hb hb'
      obtain ⟨e, he, rfl⟩ := hb
      obtain ⟨e', ⟨k, hk, he'⟩, rfl⟩ := hb'
      have hjk : j ≠ k := fun e => (List.nodup_cons.1 hn).1 (e ▸ hk)
      exact h.apart j k hjk (hL j (by simp)) (hL k (by simp [hk])) e he e' he'
  · obtain ⟨j, hj, he⟩ := List.mem_flatMap.1 he
    exact h.all j (hL j hj) e he
theorem flat_apart {Js : List Nat} (h : ((Js.flatMap f).map Ent.b).Nodup) : (∀ j ∈ Js, ((f j).map Ent.b).Nodup) ∧ ∀ j k, j ≠ k → j ∈ Js → k ∈ Js → ∀ e ∈ f j, ∀ e' ∈ f k, e.b ≠ e'.b := by
  induction Js with
  | nil => simp
  | cons i Js ih =>
    rw [List.flatMap_cons, List.map_append, List.nodup_append] at h
    obtain ⟨h1, h2, h3⟩ := h
    obtain ⟨i1, i2⟩ := ih h2
    have h4 : ∀ k ∈ Js, ∀ e ∈ f i, ∀ e' ∈ f k, e.b ≠ e'.b := fun k hk e he e' he' =>
      h3 e.b (List.mem_map.2 ⟨e, he, rfl⟩) e'.b (List.mem_map.2 ⟨e', List.mem_flatMap.2 ⟨k, hk, he'⟩, rfl⟩)
    refine ⟨fun j hj => ?_, fun j k hjk hj hk e he e' he' => ?_⟩
    · simp only [List.mem_cons] at hj
      rcases hj with rfl | hj
      · exact h1
      · exact i1 j hj
    · simp only [List.mem_cons] at hj hk
      rcases hj with rfl | hj
      · rcases hk with rfl | hk
        · exact absurd rfl hjk
        · exact h4 k hk e he e' he'
      · rcases hk with rfl | hk
        · exact (h4 j hj e' he' e he).symm
        · exact i2 j k hjk hj hk e he e' he'
theorem HoldsI.of {Js : List Nat} (h : Holds w0 S (Js.flatMap f) w) (hL : ∀ j, L j → j ∈ Js) : HoldsI w0 S L f w := by
  obtain ⟨h1, h2⟩ := flat_apart h.nodup
  exact ⟨h.chg, fun j hj e he => h.all e (List.mem_flatMap.2 ⟨j, hL j hj, he⟩), fun j hj => h1 j (hL j hj), fun j k hjk hj hk => h2 j k hjk (hL j hj) (hL k hk)⟩
end
theorem countP_same {l : List Nat} {p q : Nat → Bool} (h : ∀ j ∈ l, q j = p j) : l.countP q = l.countP p := by
  induction l with
  | nil => rfl
  | cons a l ih => simp only [List.countP_cons, h a (by simp), ih fun j hj => h j (by simp [hj])]
theorem count_drop {l : List Nat} {p q : Nat → Bool} {i : Nat} (hn : l.Nodup) (hi : i ∈ l) (h1 : p i = true) (h2 : q i = false) (h3 : ∀ j, j ≠ i → q j = p j) : l.countP q + 1 = l.countP p := by
  induction l with
  | nil => cases hi
  | cons a l ih =>
    simp only [List.countP_cons]
    by_cases e : a = i
    · subst e
      have := countP_same (l := l) (p := p) (q := q) fun j hj => h3 j fun e => (List.nodup_cons.1 hn).1 (e ▸ hj)
      simp [h1, h2, this]
    · have hi' : i ∈ l := by
        simp only [List.mem_cons] at hi
        rcases hi with rfl | hi
        · exact absurd rfl e
        · exact hi
      have := ih (List.nodup_cons.1 hn).2 hi'
      rw [h3 a e]
      omega

variable {Y : Type}
structure GrowO (Y : Type) where
  E0 : Env
  N : Nat
  v : Nat → Y → Value
  M : Nat → Y → List Ent
  need : Nat → List (Nat × Nat)
  inp : Nat → List Nat
  eat : Nat → List Nat
  src : Nat → Option Nat
  E1 : Nat → Env
def behind (o : Oper) (j : Nat) : Bool := o.after.toList.any fun e => e.on == j && Region.binds .any e
def dstOf (l : List Oper) (j : Nat) : Option Nat := match l[j]? with | some q => q.dst | none => none
def behindOf (l : List Oper) (j i : Nat) : Bool := match l[j]? with | some q => behind q i | none => false
def noDup : List Nat → Bool
  | [] => true
  | a :: l => !l.contains a && noDup l
theorem noDup_spec {l : List Nat} (h : noDup l = true) : l.Nodup := by
  induction l with
  | nil => simp
  | cons a l ih =>
    simp only [noDup, Bool.and_eq_true, Bool.not_eq_true', List.contains_eq_mem, decide_eq_false_iff_not] at h
    exact List.nodup_cons.2 ⟨h.1, ih h.2⟩
def apartD (l : List Oper) (E0 : Env) (i : Nat) : Option Nat → Bool
  | some d => (List.range l.length).all (fun k => k == i || dstOf l k != some d) && E0.all fun p => p.1 != d
  | none => true
def srcOk (o : Oper) : Option Nat → Bool
  | some k => behind o k
  | none => true
/-- what is known at first of a slot that a later operation writes -/
def GrowO.okE1 (g : GrowO Y) (l : List Oper) (i : Nat) : Bool :=
  (g.E1 i).all fun p => (List.range l.length).all fun k => dstOf l k != some p.1 || (k != i && behindOf l k i)
def GrowO.okOp (g : GrowO Y) (l : List Oper) (i : Nat) (o : Oper) : Bool :=
  (((g.need i).all (fun p => behind o p.1 && dstOf l p.1 == some p.2) && srcOk o (g.src i)) && g.okE1 l i) &&
  ((g.inp i).all (fun j => decide (j < g.N) && (decide (l.length ≤ j) || behind o j)) &&
  ((g.eat i).all (fun j => (g.inp i).contains j) &&
  ((List.range l.length).all (fun k => k == i || (g.eat k).all fun j => !(g.inp i).contains j || behindOf l k i) &&
  (noDup (g.inp i) && (o.after.toList.all (fun e => !Region.binds .any e || decide (e.on < i)) && apartD l g.E0 i o.dst)))))
def GrowO.okFrom (g : GrowO Y) (l : List Oper) : Nat → List Oper → Bool
  | _, [] => true
  | i, o :: r => g.okOp l i o && g.okFrom l (i + 1) r
theorem GrowO.okFrom_at {g : GrowO Y} {l : List Oper} : ∀ {r : List Oper} {i : Nat}, g.okFrom l i r = true → ∀ {j o}, r[j]? = some o → g.okOp l (i + j) o = true
  | [], _, _, j, o, h => by simp at h
  | q :: r, i, hk, j, o, h => by
    simp only [GrowO.okFrom, Bool.and_eq_true] at hk
    cases j with
    | zero =>
      simp only [List.getElem?_cons_zero, Option.some.injEq] at h
      subst h
      exact hk.1
    | succ j =>
      have := GrowO.okFrom_at hk.2 (j := j) (o := o) (by simpa using h)
      rwa [show i + 1 + j = i + (j + 1) by omega] at this
def slot (d : Option Nat) (v : Value) : Env := match d with | some d => [(d, v)] | none => []
def GrowO.Job (g : GrowO Y) (P : Program) (n : Nat) (w0 : World) (S : List Nat) (l : List Oper) (i : Nat) (o : Oper) : Prop :=
  ∀ (x : Nat → Y) (EF : Env) (MF : List Ent) (Q : Exit → Act → World → Prop),
    (∀ xi : Y, (∀ k, g.src i = some k → xi = x k) → JE n w0 S Q .normal (slot o.dst (g.v i xi) ++ ((g.need i).map (fun p => (p.2, g.v p.1 (x p.1))) ++ (g.E0 ++ (g.E1 i ++ EF)))) (g.M i xi ++ (((g.inp i).filter fun j => !(g.eat i).contains j).flatMap (fun j => g.M j (x j)) ++ MF))) →
    JL P n w0 S l.toArray Q [o] ((g.need i).map (fun p => (p.2, g.v p.1 (x p.1))) ++ (g.E0 ++ (g.E1 i ++ EF))) ((g.inp i).flatMap (fun j => g.M j (x j)) ++ MF)
def GrowO.Jobs (g : GrowO Y) (P : Program) (n : Nat) (w0 : World) (S : List Nat) (l : List Oper) : Nat → List Oper → Prop
  | _, [] => True
  | i, o :: r => g.Job P n w0 S l i o ∧ g.Jobs P n w0 S l (i + 1) r
theorem GrowO.Jobs_at {g : GrowO Y} {P : Program} {n : Nat} {w0 : World} {S : List Nat} {l : List Oper} : ∀ {r : List Oper} {i : Nat}, g.Jobs P n w0 S l i r → ∀ {j o}, r[j]? = some o → g.Job P n w0 S l (i + j) o
  | [], _, _, j, o, h => by simp at h
  | q :: r, i, hk, j, o, h => by
    cases j with
    | zero =>
      simp only [List.getElem?_cons_zero, Option.some.injEq] at h
      subst h
      exact hk.1
    | succ j =>
      have := GrowO.Jobs_at hk.2 (j := j) (o := o) (by simpa using h)
      rwa [show i + 1 + j = i + (j + 1) by omega] at this

/-- which makings stand -/
def GrowO.live (g : GrowO Y) (m : Nat) (done : Array Bool) (j : Nat) : Prop := j < g.N ∧ (m ≤ j ∨ done.getD j false = true) ∧ ∀ k, done.getD k false = true → j ∉ g.eat k
structure GrowO.Inv (g : GrowO Y) (n : Nat) (w0 : World) (S : List Nat) (l : List Oper) (done : Array Bool) (x : Nat → Y) (a : Act) (w : World) : Prop where
  size : a.tmps.size = n
  defers : a.defers = []
  dsize : done.size = l.length
  base : ∀ p ∈ g.E0, a.tmps.getD p.1 undef = p.2
  first : ∀ j, j < l.length → done.getD j false = false → ∀ p ∈ g.E1 j, a.tmps.getD p.1 undef = p.2
  vals : ∀ j d, done.getD j false = true → dstOf l j = some d → a.tmps.getD d undef = g.v j (x j)
  rel : ∀ j k, done.getD j false = true → g.src j = some k → x j = x k
  down : ∀ j i, done.getD j false = true → behindOf l j i = true → done.getD i false = true
  mem : HoldsI w0 S (g.live l.length done) (fun j => g.M j (x j)) w

section
variable {P : Program} {n : Nat} {w0 : World} {S : List Nat} {Q : Exit → Act → World → Prop} {E : Env} {M : List Ent} {g : GrowO Y} {l : List Oper}
theorem getD_set {done : Array Bool} {i j : Nat} (hi : i < done.size) : (done.setIfInBounds i true).getD j false = (decide (j = i) || done.getD j false) := by
  by_cases e : j = i
  · subst e
    simp [hi]
  · simp [e, Ne.symm e]

theorem GrowO.run (hok : g.okFrom l 0 l = true) (hj : g.Jobs P n w0 S l 0 l)
    (hend : ∀ done x a w, g.Inv n w0 S l done x a w → (∀ j, j < l.length → done.getD j false = true) → Q .normal a w) :
    ∀ (f : Nat) (done : Array Bool) (x : Nat → Y) (a : Act) (w : World), f = (List.range l.length).countP (fun j => !done.getD j false) → g.Inv n w0 S l done x a w → wpAny P .any l.toArray Q f done a w := by
  have hrdy : ∀ done : Array Bool, done.size = l.length → Region.ready .any l.toArray done = [] → ∀ j, j < l.length → done.getD j false = true := by
    intro done hds hr j
    induction j using Nat.strongRecOn with
    | _ j ih =>
      intro hjl
      cases hd : done.getD j false with
      | true => rfl
      | false =>
        obtain ⟨o, ho⟩ : ∃ o, l[j]? = some o := ⟨_, List.getElem?_eq_getElem hjl⟩
        have hk := GrowO.okFrom_at hok ho
        simp only [GrowO.okOp, Bool.and_eq_true, Nat.zero_add] at hk
        have hkk := hk.2.2.2.2.2.1
        have : j ∈ Region.ready .any l.toArray done := by
          rw [mem_ready]
          refine ⟨?_, o, by simpa using ho, fun e he hb => ?_⟩
          · rw [Array.getD_eq_getD_getElem?, Array.getElem?_eq_getElem (by omega)] at hd ⊢
            simpa using hd
          · have := List.all_eq_true.1 hkk e (by simpa using he)
            simp only [hb, Bool.not_true, Bool.false_or, decide_eq_true_eq] at this
            exact ih e.on this (by omega)
        rw [hr] at this
        cases this
  intro f
  induction f with
  | zero =>
    intro done x a w hf hI
    have hall : ∀ j, j < l.length → done.getD j false = true := fun j hjl => by
      have := List.countP_eq_zero.1 hf.symm j (List.mem_range.2 hjl)
      simpa using this
    refine ⟨?_, hend done x a w hI hall⟩
    refine List.eq_nil_iff_forall_not_mem.2 fun i hi => ?_
    obtain ⟨hu, o, ho, _⟩ := mem_ready.1 hi
    have hil : i < l.length := by
      have := (Array.getElem?_eq_some_iff.1 ho).1
      simpa using this
    have := hall i hil
    rw [Array.getD_eq_getD_getElem?, Array.getElem?_eq_getElem (by have := hI.dsize; omega)] at hu this
    simp only [Option.getD_some] at hu this
    rw [hu] at this
    cases this
  | succ f ih =>
    intro done x a w hf hI
    have hds := hI.dsize
    refine ⟨fun h0 => hend done x a w hI (hrdy done hds h0), fun i hi => ?_⟩
    obtain ⟨hu, o, ho, hbe⟩ := mem_ready.1 hi
    have hil : i < l.length := by
      have := (Array.getElem?_eq_some_iff.1 ho).1
      simpa using this
    have ho' : l[i]? = some o := by simpa using ho
    have hu' : done.getD i false = false := by
      rw [Array.getD_eq_getD_getElem?, Array.getElem?_eq_getElem (by omega)] at hu ⊢
      simpa using hu
    have hk := GrowO.okFrom_at hok ho'
    simp only [GrowO.okOp, Bool.and_eq_true, Nat.zero_add] at hk
    obtain ⟨⟨⟨k1, k8⟩, k9⟩, k2, k3, k4, k5, _, k7⟩ := hk
    have hbeh : ∀ j, behind o j = true → done.getD j false = true := fun j hj => by
      simp only [behind, List.any_eq_true, Bool.and_eq_true, beq_iff_eq] at hj
      obtain ⟨e, he, rfl, hb⟩ := hj
      exact hbe e (by simpa using he) hb
    have hbi : ∀ k, behindOf l k i = true → done.getD k false = false := fun k hk => by
      cases h : done.getD k false with
      | false => rfl
      | true => have := hI.down k i h hk; rw [hu'] at this; cases this
    have hinp : ∀ j ∈ g.inp i, g.live l.length done j := by
      intro j hj
      have h2 := List.all_eq_true.1 k2 j hj
      simp only [Bool.and_eq_true, Bool.or_eq_true, decide_eq_true_eq] at h2
      refine ⟨h2.1, h2.2.imp id (hbeh j), fun k hkd hjk => ?_⟩
      have hkl : k < l.length := by
        by_cases h : k < l.length
        · exact h
        · rw [Array.getD_eq_getD_getElem?, Array.getElem?_eq_none (by omega)] at hkd
          cases hkd
      have h4 := List.all_eq_true.1 k4 k (List.mem_range.2 hkl)
      have hki : k ≠ i := fun e => by rw [e, hu'] at hkd; cases hkd
      simp only [Bool.or_eq_true, beq_iff_eq, hki, false_or] at h4
      have h5 := List.all_eq_true.1 h4 j hjk
      simp only [Bool.or_eq_true, Bool.not_eq_true', List.contains_eq_mem, decide_eq_false_iff_not, hj, not_true, false_or] at h5
      rw [hbi k h5] at hkd
      cases hkd
    have hdone_ne : ∀ j, done.getD j false = true → j ≠ i := fun j hj e => by rw [e, hu'] at hj; cases hj
    have hlen : ∀ k, done.getD k false = true → k < l.length := fun k hkd => by
      by_cases h : k < l.length
      · exact h
      · rw [Array.getD_eq_getD_getElem?, Array.getElem?_eq_none (by omega)] at hkd
        cases hkd
    have hdi : dstOf l i = o.dst := by simp [dstOf, ho']
    have hne : ∀ j d, done.getD j false = true → dstOf l j = some d → o.dst ≠ some d := by
      intro j d hjd hd he
      rw [he] at k7
      simp only [apartD, Bool.and_eq_true] at k7
      have := List.all_eq_true.1 k7.1 j (List.mem_range.2 (hlen j hjd))
      simp [hdone_ne j hjd, hd] at this
    have hne0 : ∀ p ∈ g.E0, o.dst ≠ some p.1 := by
      intro p hp he
      rw [he] at k7
      simp only [apartD, Bool.and_eq_true] at k7
      have := List.all_eq_true.1 k7.2 p hp
      simp at this
    let rest : List Nat := (List.range g.N).filter fun j => @decide (g.live l.length done j) (Classical.propDecidable _) && !(g.inp i).contains j
    have hrest : ∀ j, j ∈ rest ↔ g.live l.length done j ∧ j ∉ g.inp i := by
      intro j
      simp only [rest, List.mem_filter, List.mem_range, Bool.and_eq_true, Bool.not_eq_true', List.contains_eq_mem, decide_eq_false_iff_not]
      refine ⟨fun ⟨_, h2, h3⟩ => ⟨@of_decide_eq_true _ (Classical.propDecidable _) h2, h3⟩, fun ⟨h2, h3⟩ => ⟨h2.1, @decide_eq_true _ (Classical.propDecidable _) h2, h3⟩⟩
    have hnd : (g.inp i ++ rest).Nodup := by
      rw [List.nodup_append]
      refine ⟨noDup_spec k5, List.nodup_range.filter _, fun a ha b hb e => ?_⟩
      exact ((hrest b).1 hb).2 (e ▸ ha)
    have H1 := hI.mem.to (g.inp i ++ rest) hnd (fun j hj => by
      rcases List.mem_append.1 hj with h | h
      · exact hinp j h
      · exact ((hrest j).1 h).1)
    rw [List.flatMap_append] at H1
    let EF0 : Env := (List.range l.length).filterMap fun j => if done.getD j false = true then (dstOf l j).map (fun d => (d, g.v j (x j))) else none
    let EF1 : Env := (List.range l.length).flatMap fun j => if done.getD j false = true then [] else g.E1 j
    let EF : Env := EF0 ++ EF1
    have hEF : ∀ p, p ∈ EF0 ↔ ∃ j d, done.getD j false = true ∧ dstOf l j = some d ∧ p = (d, g.v j (x j)) := by
      intro p
      simp only [EF0, List.mem_filterMap, List.mem_range]
      constructor
      · rintro ⟨j, _, hp⟩
        split at hp
        · rename_i hjd
          obtain ⟨d, hd, rfl⟩ := Option.map_eq_some_iff.1 hp
          exact ⟨j, d, hjd, hd, rfl⟩
        · cases hp
      · rintro ⟨j, d, hjd, hd, rfl⟩
        exact ⟨j, hlen j hjd, by rw [if_pos hjd, hd]; rfl⟩
    have hEF1 : ∀ j, j < l.length → done.getD j false = false → ∀ p ∈ g.E1 j, p ∈ EF1 := by
      intro j hjl hjd p hp
      simp only [EF1, List.mem_flatMap, List.mem_range]
      exact ⟨j, hjl, by rw [if_neg (by rw [hjd]; decide)]; exact hp⟩
    have hne1 : ∀ j, j < l.length → done.getD j false = false → ∀ p ∈ g.E1 j, o.dst ≠ some p.1 := by
      intro j hjl hjd p hp he
      have hjo : l[j]? = some (l[j]'hjl) := List.getElem?_eq_getElem hjl
      have hkj := GrowO.okFrom_at hok hjo
      simp only [GrowO.okOp, Bool.and_eq_true, Nat.zero_add] at hkj
      have h9 := List.all_eq_true.1 hkj.1.2 p hp
      have h10 := List.all_eq_true.1 h9 i (List.mem_range.2 hil)
      simp only [hdi, he, bne_self_eq_false, Bool.false_or, Bool.and_eq_true] at h10
      have h11 : behind o j = true := by simpa [behindOf, ho'] using h10.2
      rw [hbeh j h11] at hjd
      cases hjd
    have hneed : ∀ p ∈ g.need i, done.getD p.1 false = true ∧ dstOf l p.1 = some p.2 := by
      intro p hp
      have h1 := List.all_eq_true.1 k1 p hp
      simp only [Bool.and_eq_true, beq_iff_eq] at h1
      exact ⟨hbeh _ h1.1, h1.2⟩
    have hK : ∀ p ∈ ((g.need i).map (fun p => (p.2, g.v p.1 (x p.1))) ++ (g.E0 ++ (g.E1 i ++ EF))), a.tmps.getD p.1 undef = p.2 ∧ o.dst ≠ some p.1 := by
      intro p hp
      rcases List.mem_append.1 hp with h | h
      · obtain ⟨q, hq, rfl⟩ := List.mem_map.1 h
        obtain ⟨h1, h2⟩ := hneed q hq
        exact ⟨hI.vals _ _ h1 h2, hne _ _ h1 h2⟩
      · rcases List.mem_append.1 h with h | h
        · exact ⟨hI.base p h, hne0 p h⟩
        · rcases List.mem_append.1 h with h | h
          · exact ⟨hI.first i hil hu' p h, hne1 i hil hu' p h⟩
          · rcases List.mem_append.1 h with h | h
            · obtain ⟨j, d, h1, h2, rfl⟩ := (hEF p).1 h
              exact ⟨hI.vals _ _ h1 h2, hne _ _ h1 h2⟩
            · simp only [EF1, List.mem_flatMap, List.mem_range] at h
              obtain ⟨j, hjl, h⟩ := h
              cases hjd : done.getD j false with
              | true => rw [hjd] at h; simp at h
              | false =>
                rw [hjd] at h
                simp only [Bool.false_eq_true, if_false] at h
                exact ⟨hI.first j hjl hjd p h, hne1 j hjl hjd p h⟩
    have job := GrowO.Jobs_at hj ho'
    rw [Nat.zero_add] at job
    refine wpOp_of_list ho ((job x EF (rest.flatMap fun j => g.M j (x j)) _ fun xi hxi => ⟨fun a' w' hK' hH' => ?_⟩).go a w (Knows.of hI.size hI.defers fun p hp => (hK p hp).1) H1)
    have hd' : ∀ j, (done.setIfInBounds i true).getD j false = (decide (j = i) || done.getD j false) := fun j => getD_set (by omega)
    refine ih _ (fun j => if j = i then xi else x j) a' w' ?_ ?_
    · have := count_drop (l := List.range l.length) (p := fun j => !done.getD j false) (q := fun j => !(done.setIfInBounds i true).getD j false) (i := i) List.nodup_range (List.mem_range.2 hil) (by simp only [hu']; rfl) (by simp only [hd']; simp) (fun j hj => by simp only [hd']; simp [hj])
      omega
    · have hmem : ∀ p ∈ (slot o.dst (g.v i xi) ++ ((g.need i).map (fun p => (p.2, g.v p.1 (x p.1))) ++ (g.E0 ++ (g.E1 i ++ EF)))), a'.tmps.getD p.1 undef = p.2 := by
        intro p hp
        refine hK'.mem (f := fun t => if o.dst = some t then g.v i xi else a.tmps.getD t undef) (fun q hq => ?_) hp
        rcases List.mem_append.1 hq with h | h
        · cases hod : o.dst with
          | none => rw [hod] at h; cases h
          | some d =>
            rw [hod] at h
            simp only [slot, List.mem_singleton] at h
            subst h
            simp
        · have := hK q h
          simp only [this.2, if_false]
          exact this.1
      refine ⟨hK'.size, hK'.defers, by simp [hds], fun p hp => hmem p (by simp [hp]), fun j hjl hjd p hp => ?_, ?_, ?_, ?_, ?_⟩
      · rw [hd'] at hjd
        simp only [Bool.or_eq_false_iff] at hjd
        exact hmem p (List.mem_append_right _ (List.mem_append_right _ (List.mem_append_right _ (List.mem_append_right _ (List.mem_append_right _ (hEF1 j hjl hjd.2 p hp))))))
      · intro j d hjd hd
        by_cases e : j = i
        · subst e
          rw [hdi] at hd
          have := hmem (d, g.v j xi) (by simp [hd, slot])
          simpa using this
        · rw [hd'] at hjd
          simp only [e, decide_false, Bool.false_or] at hjd
          have := hmem (d, g.v j (x j)) (List.mem_append_right _ (List.mem_append_right _ (List.mem_append_right _ (List.mem_append_right _ (List.mem_append_left _ ((hEF _).2 ⟨j, d, hjd, hd, rfl⟩))))))
          simpa [e] using this
      · intro j k hjd hs
        rw [hd'] at hjd
        by_cases e : j = i
        · subst e
          rw [hs] at k8
          simp only [if_true, hdone_ne k (hbeh k k8), if_false]
          exact hxi k hs
        · simp only [e, decide_false, Bool.false_or] at hjd
          have hjo : l[j]? = some (l[j]'(hlen j hjd)) := List.getElem?_eq_getElem (hlen j hjd)
          have hkj := GrowO.okFrom_at hok hjo
          simp only [GrowO.okOp, Bool.and_eq_true, Nat.zero_add] at hkj
          have h8 := hkj.1.1.2
          rw [hs] at h8
          have hkd := hI.down j k hjd (by simpa [behindOf, hjo, srcOk] using h8)
          simp only [e, hdone_ne k hkd, if_false]
          exact hI.rel j k hjd hs
      · intro j i' hjd hb
        rw [hd'] at hjd ⊢
        by_cases e : j = i
        · subst e
          have : behind o i' = true := by simpa [behindOf, ho'] using hb
          simp [hbeh i' this]
        · simp only [e, decide_false, Bool.false_or] at hjd
          simp [hI.down j i' hjd hb]
      · have hnl : ¬ g.live l.length done i := fun h => by
          rcases h.2.1 with h | h
          · omega
          · rw [hu'] at h; cases h
        have hcg : ∀ L : List Nat, (∀ j ∈ L, g.live l.length done j) → L.flatMap (fun j => g.M j (if j = i then xi else x j)) = L.flatMap fun j => g.M j (x j) := by
          intro L
          induction L with
          | nil => simp
          | cons j L ih =>
            intro h
            have hji : j ≠ i := fun e => hnl (e ▸ h j (by simp))
            simp only [List.flatMap_cons, hji, if_false, ih fun k hk => h k (by simp [hk])]
        refine HoldsI.of (Js := i :: (((g.inp i).filter fun j => !(g.eat i).contains j) ++ rest)) ?_ ?_
        · rw [List.flatMap_cons, List.flatMap_append, hcg _ (fun j hj => hinp j (List.mem_filter.1 hj).1), hcg rest (fun j hj => ((hrest j).1 hj).1)]
          simpa using hH'
        · intro j hj
          by_cases e : j = i
          · simp [e]
          · have hl : g.live l.length done j := by
              refine ⟨hj.1, hj.2.1.imp id (fun h => ?_), fun k hk => hj.2.2 k (by rw [hd']; simp [hk])⟩
              rw [hd'] at h
              simpa [e] using h
            have hne : j ∉ g.eat i := hj.2.2 i (by rw [hd']; simp)
            by_cases hji : j ∈ g.inp i
            · simp [e, hji, hne]
            · have := (hrest j).2 ⟨hl, hji⟩
              simp [e, this]
/-- a region whose order is open, each operation told once; g.E1: what is known of slots until the region writes them -/
theorem JC.growO [Inhabited Y] (g : GrowO Y) (outs : List (Nat × Nat)) (ends : List Nat) {id : Nat} (hm : P.follows .mixedOrders = true) (hE : SubE E g.E0) (hE1 : ∀ i, i < l.length → SubE E (g.E1 i)) (hM : Less (((List.range g.N).filter fun j => decide (l.length ≤ j)).flatMap fun j => g.M j default) M)
    (hok : g.okFrom l 0 l = true) (ho : (outs.all fun p => decide (p.1 < l.length) && dstOf l p.1 == some p.2) = true)
    (he : (noDup ends && ends.all fun j => decide (j < g.N) && (List.range l.length).all fun k => !(g.eat k).contains j) = true)
    (hj : g.Jobs P n w0 S l 0 l)
    (k : ∀ x : Nat → Y, (∀ j k, j < l.length → g.src j = some k → x j = x k) → JE n w0 S Q .normal (outs.map (fun p => (p.2, g.v p.1 (x p.1))) ++ g.E0) (ends.flatMap fun j => g.M j (x j))) : JC P n w0 S Q (.region id l.toArray true) E M :=
  ⟨fun a w ha hw => by
    refine wp_region_any hm ?_
    have hw' := (hw.drawn (w.drawn + 1)).weak hM
    simp only [Bool.and_eq_true] at he
    refine GrowO.run hok hj (fun done x a w hI hall => ?_) _ _ (fun _ => default) a _ ?_ ?_
    · refine (k x fun j k hj hs => hI.rel j k (hall j hj) hs).go a w (Knows.of hI.size hI.defers fun p hp => ?_) (hI.mem.to ends (noDup_spec he.1) fun j hj => ?_)
      · rcases List.mem_append.1 hp with h | h
        · obtain ⟨q, hq, rfl⟩ := List.mem_map.1 h
          have := List.all_eq_true.1 ho q hq
          simp only [Bool.and_eq_true, decide_eq_true_eq, beq_iff_eq] at this
          exact hI.vals _ _ (hall _ this.1) this.2
        · exact hI.base p h
      · have := List.all_eq_true.1 he.2 j hj
        simp only [Bool.and_eq_true, decide_eq_true_eq] at this
        refine ⟨this.1, ?_, fun k hk hjk => ?_⟩
        · by_cases h : l.length ≤ j
          · exact .inl h
          · exact .inr (hall j (by omega))
        · have hkl : k < l.length := by
            by_cases h : k < l.length
            · exact h
            · have := hI.dsize
              rw [Array.getD_eq_getD_getElem?, Array.getElem?_eq_none (by omega)] at hk
              cases hk
          have := List.all_eq_true.1 this.2 k (List.mem_range.2 hkl)
          simp [hjk] at this
    · have : ∀ j, (Array.replicate l.toArray.size false).getD j false = false := fun j => by
        simp only [Array.getD_eq_getD_getElem?, Array.getElem?_replicate]
        split <;> rfl
      rw [List.countP_eq_length.2 (fun j _ => by simp only [this]; rfl)]
      simp
    · have hf : ∀ j, (Array.replicate l.toArray.size false).getD j false = false := fun j => by
        simp only [Array.getD_eq_getD_getElem?, Array.getElem?_replicate]
        split <;> rfl
      refine ⟨ha.size, ha.defers, by simp, fun p hp => ha.all _ _ (hE.all p hp), fun j hj _ p hp => ha.all _ _ ((hE1 j hj).all p hp), fun j d h => ?_, fun j k h => ?_, fun j i h => ?_, ?_⟩
      · rw [hf] at h; cases h
      · rw [hf] at h; cases h
      · rw [hf] at h; cases h
      · refine HoldsI.of hw' fun j hj => ?_
        rw [List.mem_filter]
        refine ⟨List.mem_range.2 hj.1, ?_⟩
        rcases hj.2.1 with h | h
        · simpa using h
        · rw [hf] at h; cases h⟩

structure Grow (Y : Type) where
  E0 : Env
  N : Nat
  v : Nat → Y → Value
  M : Nat → Y → List Ent
  need : Nat → List (Nat × Nat)
  inp : Nat → List Nat
  eat : Nat → List Nat
  src : Nat → Option Nat
def Grow.o (g : Grow Y) : GrowO Y := ⟨g.E0, g.N, g.v, g.M, g.need, g.inp, g.eat, g.src, fun _ => []⟩
theorem JC.grow [Inhabited Y] (g : Grow Y) (outs : List (Nat × Nat)) (ends : List Nat) {id : Nat} (hm : P.follows .mixedOrders = true) (hE : SubE E g.E0) (hM : Less (((List.range g.N).filter fun j => decide (l.length ≤ j)).flatMap fun j => g.M j default) M)
    (hok : g.o.okFrom l 0 l = true) (ho : (outs.all fun p => decide (p.1 < l.length) && dstOf l p.1 == some p.2) = true)
    (he : (noDup ends && ends.all fun j => decide (j < g.N) && (List.range l.length).all fun k => !(g.eat k).contains j) = true)
    (hj : g.o.Jobs P n w0 S l 0 l)
    (k : ∀ x : Nat → Y, (∀ j k, j < l.length → g.src j = some k → x j = x k) → JE n w0 S Q .normal (outs.map (fun p => (p.2, g.v p.1 (x p.1))) ++ g.E0) (ends.flatMap fun j => g.M j (x j))) : JC P n w0 S Q (.region id l.toArray true) E M :=
  JC.growO g.o outs ends hm hE (fun _ _ => .nil) hM hok ho he hj k

end
end Sl
end Go.Proofs.YtbihfhkbkcplmaaDoor

/-
  Of no statement by itself: append of made noughts onto a byte slice of the function's own.
  Conditions: the rule's own hypotheses.
-/
namespace Go.Proofs.YtbihfhkbkcplmaaDoor
namespace Sl
section
variable {P : Program} {t tx e : TypeId}
variable {n : Nat} {w0 : World} {S : List Nat} {ops : Array Oper} {Q : Exit → Act → World → Prop} {l : List Oper} {E : Env} {M : List Ent} {d b : Nat} {ty : TypeId} {pos : String} {aft : Array Edge} {x y : Operand}
end
end Sl
end Go.Proofs.YtbihfhkbkcplmaaDoor

/-
  Of no statement by itself: rules for parts of an answer with several results, for made slices, and for slices with three bounds.
  Conditions: each rule's own hypotheses.
-/
namespace Go.Proofs.YtbihfhkbkcplmaaDoor
namespace Sl
section
variable {P : Program} {n : Nat} {w0 : World} {S : List Nat} {ops : Array Oper} {Q : Exit → Act → World → Prop} {l : List Oper} {E : Env} {M : List Ent} {C : World → Prop}
variable {dst : Option Tmp} {d b : Nat} {t e ty : TypeId} {pos : String} {aft : Array Edge} {g : Option (Nat × Bool)} {v : Value} {x y z : Operand}
theorem OQ.extract {vs : Array Value} {i : Nat} (hx : ev E x = some (.tuple vs)) (hi : vs[i]? = some v) : OQ P n E C ⟨dst, .extract x i, ty, pos, aft, g⟩ v :=
  OQ.run fun a ha w _ => by
    have h1 := ha.eval hx
    simp [execOp, h1, Instr.extract, hi]
/-- 'x[:hi:mx]' of a slice -/
theorem OQ.slS_hi3 {len cap hi mx sz : Nat} {ad : Option Addr} (hu : P.underlying t = some (.slice e)) (hz : szT P e = some sz) (hx : ev E x = some (.slice ad len cap)) (hh : ev E y = some (N hi)) (hm : ev E z = some (N mx)) (h : hi ≤ mx) (h' : mx ≤ cap) :
    OQ P n E C ⟨dst, .slice t x none (some y) (some z), ty, pos, aft, g⟩ (.slice (if mx = 0 then ad else ad.map (·.add 0)) hi mx) :=
  OQ.run fun a ha w _ => by
    have h1 := ha.eval hx
    have h2 := ha.eval hh
    have h4 := ha.eval hm
    have h3 : (underlying t).run P w = .ok (.slice e) w := run_underlying hu w
    simp [execOp, h1, h2, h4, Instr.sliceAt, Sem.run_bind, h3, Instr.slice, Instr.sliceBounds, Instr.sliceBound, asIntOf, h, h', sizeOf_run hz]
theorem made_u8 {k : Nat} (zc : Array Value) (h : zc = (List.replicate k (Value.int .u8 0)).toArray) (h0 : 0 < k) (m : Nat) : madeCells zc m = (List.replicate m (Value.int .u8 0)).toArray := by
  subst h
  apply Array.ext'
  simp only [madeCells, List.size_toArray, List.length_replicate, Array.toList_map, Array.toList_range]
  apply List.ext_getElem?
  intro i
  by_cases h : i < m
  · simp [h, Nat.mod_lt _ h0]
  · simp [h]
/-- make([]T, c): a new row of noughts -/
theorem JL.make {zv : Value} {sz by' c : Nat} (hu : P.underlying t = some (.slice e)) (hi : EI P e zv sz by') (hz : zv.cells = (List.replicate sz (Value.int .u8 0)).toArray) (h0 : 0 < sz) (hx : ev E x = some (N c)) (hy : ev E y = some (N c)) (hb : by' * c ≤ 281474976710656) (hc : c < 9223372036854775808) (hd : Nat.blt d n = true)
    (k : ∀ b, w0.heap.size ≤ b → JL P n w0 S ops Q l ((d, .slice (some ⟨b, 0, none⟩) c c) :: E) (⟨b, Row e (List.replicate (c * sz) (.int .u8 0)), true⟩ :: M)) : JL P n w0 S ops Q (⟨some d, .makeSlice t x y, ty, pos, aft, none⟩ :: l) E M :=
  ⟨fun a w ha hw => wpList_plain rfl fun K hK => by
    obtain ⟨i, hi1, hi2, hi3, hi4⟩ := hi.get
    have hbb : (i.bytes : Int) * (c : Int) ≤ 281474976710656 := by
      rw [hi4, ← Int.natCast_mul]
      exact Int.ofNat_le.2 hb
    have hrun := run_make (P := P) w t e i zv hu hi1 hi2 .i64 .i64 c c (by omega) (Int.le_refl _) hbb (by omega)
    simp only [Int.toNat_natCast, hi3] at hrun
    rw [made_u8 _ hz h0] at hrun
    unfold Oper.wp
    simp only [execOp, ha.eval hx, ha.eval hy, Sem.run_bind, hrun, Result.andThen_ok]
    exact hK _ _ ((k w.heap.size hw.chg.size).go _ _ (ha.put d _ hd) (hw.push (.cells (List.replicate (c * sz) (Value.int .u8 0)).toArray e (0, 0)) rfl rfl rfl rfl rfl))⟩
end
end Sl
end Go.Proofs.YtbihfhkbkcplmaaDoor

/-
  Of no statement by itself: rules for literals of slices whose elements have many cells.
  Conditions: each rule's own hypotheses.
-/
namespace Go.Proofs.YtbihfhkbkcplmaaDoor
namespace Sl
section
variable {P : Program} {n : Nat} {w0 : World} {S : List Nat} {ops : Array Oper} {Q : Exit → Act → World → Prop} {l : List Oper} {E : Env} {M : List Ent}
variable {d : Nat} {t e ty : TypeId} {pos : String} {aft : Array Edge} {v z : Value} {x : Operand} {sz by' : Nat} {cs : List Value}
theorem buildA_run {w : World} (hu : P.underlying t = some (.slice e)) (hi : EI P e z sz by') (_hz : z.cells.size = sz) (h0 : 0 < sz) (hsm : sz ≤ 16777216) (hl : cs.length = sz) :
    (Instr.buildSlice t 1 #[(0, .agg cs.toArray)]).run P w = .ok (.slice (some ⟨w.heap.size, 0, none⟩) 1 1) { w with heap := w.heap.push (.cells cs.toArray e (0, 0)) } := by
  have h3 : (underlying t).run P w = .ok (.slice e) w := run_underlying hu w
  obtain ⟨i, h4, h5, _⟩ := hi.get
  obtain ⟨r, h6, h7, h8⟩ := Great.fill_dense h0 [.agg cs.toArray] 0 ((Array.range (1 * sz)).map (z.cells[· % z.cells.size]!)) (by simp [Value.cells, hl]) (by simp)
  have hr : r = cs.toArray := by
    apply Array.ext_getElem?
    intro k
    rw [h8 k]
    by_cases hk : k < sz
    · rw [if_pos (by simp; omega)]
      simp [Nat.div_eq_of_lt hk, Nat.mod_eq_of_lt hk, Value.cells]
    · rw [if_neg (by simp; omega), Array.getElem?_eq_none (by simp; omega), Array.getElem?_eq_none (by simp; omega)]
  subst hr
  have h9 : ¬ (16777216 < 1 * sz) := by omega
  have h10 : ¬ (1 * sz = 0) := by omega
  simp only [List.zipIdx_cons, List.zipIdx_nil, List.map_cons, List.map_nil] at h6
  have h11 : (zeroValue e).run P w = .ok z w := by simp [zeroValue, typeInfo, h4, h5]
  have h12 : ¬ (16777216 < sz) := by omega
  have h13 : ¬ (sz = 0) := by omega
  rw [Nat.one_mul] at h6
  simp [Instr.buildSlice, Sem.run_bind, h3, sizeOf_run hi.sz, h11, h12, h13, h6, newRow, newObj, Sem.run]
theorem JL.litA (hu : P.underlying t = some (.slice e)) (hi : EI P e z sz by') (hz : z.cells.size = sz) (h0 : 0 < sz) (hsm : sz ≤ 16777216) (hx : ev E x = some (.agg cs.toArray)) (hl : cs.length = sz) (hd : Nat.blt d n = true)
    (k : ∀ b, w0.heap.size ≤ b → JL P n w0 S ops Q l ((d, .slice (some ⟨b, 0, none⟩) 1 1) :: E) (⟨b, Row e cs, true⟩ :: M)) : JL P n w0 S ops Q (⟨some d, .buildSlice t 1 #[(0, x)], ty, pos, aft, none⟩ :: l) E M :=
  ⟨fun a w ha hw => wpList_plain rfl fun K hK => by
    unfold Oper.wp
    have hm : (#[(0, x)] : Array (Nat × Operand)).map (fun (i, x) => (i, a.eval x)) = #[(0, .agg cs.toArray)] := by simp [ha.eval hx]
    simp only [execOp, hm, Sem.run_bind, buildA_run hu hi hz h0 hsm hl, Result.andThen_ok]
    exact hK _ _ ((k w.heap.size hw.chg.size).go _ _ (ha.put d _ hd) (hw.push _ rfl rfl rfl rfl rfl))⟩
theorem buildZ_run {w : World} (hu : P.underlying t = some (.slice e)) (hi : EI P e z sz by') : (Instr.buildSlice t 0 #[]).run P w = .ok (.slice (some ⟨w.heap.size, 0, none⟩) 0 0) { w with heap := w.heap.push (.cells ([] : List Value).toArray e (0, 0)) } := by
  have h3 : (underlying t).run P w = .ok (.slice e) w := run_underlying hu w
  have hr : Array.range 0 = #[] := by decide
  simp [Instr.buildSlice, Sem.run_bind, h3, sizeOf_run hi.sz, Instr.fill, newRow, newObj, Sem.run, hr]
theorem JL.litZ (hu : P.underlying t = some (.slice e)) (hi : EI P e z sz by') (hd : Nat.blt d n = true)
    (k : ∀ b, w0.heap.size ≤ b → JL P n w0 S ops Q l ((d, .slice (some ⟨b, 0, none⟩) 0 0) :: E) (⟨b, Sl.Own e sz 0 0 [], true⟩ :: M)) : JL P n w0 S ops Q (⟨some d, .buildSlice t 0 #[], ty, pos, aft, none⟩ :: l) E M :=
  ⟨fun a w ha hw => wpList_plain rfl fun K hK => by
    unfold Oper.wp
    have hm : (#[] : Array (Nat × Operand)).map (fun (i, x) => (i, a.eval x)) = #[] := by simp
    simp only [execOp, hm, Sem.run_bind, buildZ_run hu hi, Result.andThen_ok]
    exact hK _ _ ((k w.heap.size hw.chg.size).go _ _ (ha.put d _ hd) (hw.push (.cells ([] : List Value).toArray e (0, 0)) ⟨[], rfl, by simp, by simp, Nat.le_refl _⟩ rfl rfl rfl rfl))⟩
end
end Sl
end Go.Proofs.YtbihfhkbkcplmaaDoor

/-
  Of no statement by itself: rules for literals of slices of any length, for cuts with two bounds, for the smaller of two ints, for parts of arrays of arrays, and for equality of arrays of words.
  Conditions: each rule's own hypotheses.
-/
namespace Go.Proofs.YtbihfhkbkcplmaaDoor
namespace Sl
section
variable {P : Program} {n : Nat} {w0 : World} {S : List Nat} {ops : Array Oper} {Q : Exit → Act → World → Prop} {l : List Oper} {E : Env} {M : List Ent} {C : World → Prop}
variable {dst : Option Tmp} {d b : Nat} {t t' e ty : TypeId} {pos : String} {aft : Array Edge} {g : Option (Nat × Bool)} {v zv : Value} {x y z : Operand} {by' : Nat}
/-! ### a guard whose own operation was skipped -/
/-! ### literals of slices of one-cell elements -/
/-! ### equality of arrays of words -/
end
end Sl
end Go.Proofs.YtbihfhkbkcplmaaDoor

/-
  Of no statement by itself: more rules for bytes, and for made slices that are empty and have room.
  Conditions: each rule's own hypotheses.
-/
namespace Go.Proofs.YtbihfhkbkcplmaaDoor
namespace Sl
section
variable {P : Program} {n : Nat} {w0 : World} {S : List Nat} {ops : Array Oper} {Q : Exit → Act → World → Prop} {l : List Oper} {E : Env} {M : List Ent} {C : World → Prop}
variable {dst : Option Tmp} {d b : Nat} {t t' e ty : TypeId} {pos : String} {aft : Array Edge} {g : Option (Nat × Bool)} {v zv : Value} {x y z : Operand} {by' : Nat}
theorem OQ.or8 {a b : BitVec 8} (hx : ev E x = some (U8 a)) (hy : ev E y = some (U8 b)) : OQ P n E C ⟨dst, .binOp .or t x y t', ty, pos, aft, g⟩ (U8 (a ||| b)) :=
  OQ.bin hx hy rfl fun _ => okInt (k := .u8) (show IntKind.u8.wrap ((BitVec.ofInt 8 (a.toNat : Int) ||| BitVec.ofInt 8 (b.toNat : Int)).toNat : Int) = _ by rw [ofIntNat, ofIntNat, wrapb8])
theorem OQ.eq8 {a b : BitVec 8} (hx : ev E x = some (U8 a)) (hy : ev E y = some (U8 b)) : OQ P n E C ⟨dst, .binOp .eql t x y t', ty, pos, aft, g⟩ (.bool (decide (a = b))) := by
  have := OQ.eqi (P := P) (n := n) (C := C) (dst := dst) (ty := ty) (t := t) (t' := t') (pos := pos) (aft := aft) (g := g) hx hy
  have h : decide ((a.toNat : Int) = b.toNat) = decide (a = b) := decide_eq_decide.2 ⟨fun h => BitVec.eq_of_toNat_eq (by omega), fun h => by rw [h]⟩
  rwa [h] at this
/-- make([]byte, 0, c) -/
theorem JL.make0 {c : Nat} (hu : P.underlying t = some (.slice e)) (hi : EI P e (.int .u8 0) 1 1) (hx : ev E x = some (N 0)) (hy : ev E y = some (N c)) (hb : c ≤ 281474976710656) (hd : Nat.blt d n = true)
    (k : ∀ b, w0.heap.size ≤ b → JL P n w0 S ops Q l ((d, .slice (some ⟨b, 0, none⟩) 0 c) :: E) (⟨b, Sl.Own e 1 0 c [], true⟩ :: M)) : JL P n w0 S ops Q (⟨some d, .makeSlice t x y, ty, pos, aft, none⟩ :: l) E M :=
  ⟨fun a w ha hw => wpList_plain rfl fun K hK => by
    obtain ⟨i, hi1, hi2, hi3, hi4⟩ := hi.get
    have hbb : (i.bytes : Int) * (c : Int) ≤ 281474976710656 := by
      rw [hi4, ← Int.natCast_mul, Nat.one_mul]
      exact Int.ofNat_le.2 hb
    have hrun := run_make (P := P) w t e i _ hu hi1 hi2 .i64 .i64 0 c (by omega) (by omega) hbb (by omega)
    have hz : (Value.int .u8 0).cells = (List.replicate 1 (Value.int .u8 0)).toArray := rfl
    simp only [Int.toNat_natCast, hi3, Int.toNat_zero] at hrun
    rw [made_u8 _ hz (by decide)] at hrun
    have h0 : (N 0 : Value) = .int .i64 0 := rfl
    unfold Oper.wp
    simp only [execOp, ha.eval hx, ha.eval hy, Sem.run_bind, h0, hrun, Result.andThen_ok]
    exact hK _ _ ((k w.heap.size hw.chg.size).go _ _ (ha.put d _ hd) (hw.push (.cells (List.replicate (c * 1) (Value.int .u8 0)).toArray e (0, 0)) ⟨List.replicate (c * 1) (.int .u8 0), rfl, by simp, rfl, Nat.zero_le _⟩ rfl rfl rfl rfl))⟩
end
end Sl
end Go.Proofs.YtbihfhkbkcplmaaDoor

/-
  Of no statement by itself: rules for int and int64 as whole numbers below and above nought, over X's partial knowledge of frame and memory, for any program P.
  Conditions: each rule's own hypotheses.
-/
namespace Go.Proofs.YtbihfhkbkcplmaaDoor
namespace Sl
@[reducible] def I (a : Int) : Value := .int .i64 a
theorem I_cell (l : List Int) : (l.map I).all Value.oneCell' = true := by simp [Value.oneCell']
section
variable {P : Program} {n : Nat} {E : Env} {C : World → Prop} {dst : Option Tmp} {ty t t' : TypeId} {pos : String} {aft : Array Edge} {g : Option (Nat × Bool)} {x y : Operand}
theorem OQ.addI {a b : Int} (hx : ev E x = some (I a)) (hy : ev E y = some (I b)) (h0 : -9223372036854775808 ≤ a + b) (h : a + b < 9223372036854775808) : OQ P n E C ⟨dst, .binOp .add t x y t', ty, pos, aft, g⟩ (I (a + b)) :=
  OQ.bin hx hy rfl fun _ => okInt (k := .i64) (show IntKind.i64.wrap (a + b) = a + b from wrapN h0 h)
theorem OQ.mulI {a b : Int} (hx : ev E x = some (I a)) (hy : ev E y = some (I b)) (h0 : -9223372036854775808 ≤ a * b) (h : a * b < 9223372036854775808) : OQ P n E C ⟨dst, .binOp .mul t x y t', ty, pos, aft, g⟩ (I (a * b)) :=
  OQ.bin hx hy rfl fun _ => okInt (k := .i64) (show IntKind.i64.wrap (a * b) = a * b from wrapN h0 h)
theorem OQ.shrI {a m : Int} {yk : IntKind} {k : Nat} (hm : (2 : Int) ^ k = m) (hk : k ≤ 64) (hx : ev E x = some (I a)) (hy : ev E y = some (.int yk k)) : OQ P n E C ⟨dst, .binOp .shr t x y t', ty, pos, aft, g⟩ (I (a / m)) :=
  OQ.bin hx hy rfl fun w => by
    have h1 : a.fdiv (2 ^ (min k 64)) = a / m := by
      rw [Int.fdiv_eq_ediv_of_nonneg _ (by exact Int.le_of_lt (Int.pow_pos (by decide))), Nat.min_eq_left hk, hm]
    have h7 : Op.shift .shr .i64 a yk (k : Int) = (Pure.pure (.int .i64 (a.fdiv (2 ^ (min k 64)))) : Sem Value) := by
      unfold Op.shift
      rw [if_neg (by omega)]; rfl
    show Sem.run P (Op.shift .shr .i64 a yk (k : Int)) w = _
    rw [h7, h1]; rfl
theorem OQ.shlI {a m : Int} {yk : IntKind} {k : Nat} (hm : (2 : Int) ^ k = m) (hk : k ≤ 64) (hx : ev E x = some (I a)) (hy : ev E y = some (.int yk k)) (h0 : -9223372036854775808 ≤ a * m) (h : a * m < 9223372036854775808) : OQ P n E C ⟨dst, .binOp .shl t x y t', ty, pos, aft, g⟩ (I (a * m)) :=
  OQ.bin hx hy rfl fun w => by
    have h1 : IntKind.i64.wrap (a * 2 ^ (min k 64)) = a * m := by
      rw [Nat.min_eq_left hk, hm, wrapN h0 h]
    have h7 : Op.shift .shl .i64 a yk (k : Int) = (Pure.pure (.int .i64 (IntKind.i64.wrap (a * 2 ^ (min k 64)))) : Sem Value) := by
      unfold Op.shift
      rw [if_neg (by omega)]; rfl
    show Sem.run P (Op.shift .shl .i64 a yk (k : Int)) w = _
    rw [h7, h1]; rfl
theorem OQ.andI {a m r : Int} (k : Nat) (hk : k < 63) (hm : (2 : Int) ^ k - 1 = m) (hr : (2 : Int) ^ k = r) (hx : ev E x = some (I a)) (hy : ev E y = some (I m)) : OQ P n E C ⟨dst, .binOp .and t x y t', ty, pos, aft, g⟩ (I (a % r)) :=
  OQ.bin hx hy rfl fun _ => okInt (k := .i64) (show IntKind.i64.wrap ((BitVec.ofInt 64 a &&& BitVec.ofInt 64 m).toNat : Int) = a % r from by
    have p1 : 2 ^ k < 2 ^ 63 := Nat.pow_lt_pow_right (by omega) hk
    have p0 : 0 < 2 ^ k := Nat.pow_pos (by omega)
    have e0 : m = ((2 ^ k - 1 : Nat) : Int) := by
      rw [← hm, Int.natCast_sub p0]
      simp
    have e1 : BitVec.ofInt 64 m = BitVec.ofNat 64 (2 ^ k - 1) := by rw [e0]; simp only [BitVec.ofInt_natCast]
    have e2 : ((BitVec.ofInt 64 a &&& BitVec.ofNat 64 (2 ^ k - 1)).toNat : Int) = a % r := by
      rw [BitVec.toNat_and, BitVec.toNat_ofNat, Nat.mod_eq_of_lt (by omega), Nat.and_two_pow_sub_one_eq_mod, BitVec.toNat_ofInt, ← hr]
      have q : (0 : Int) ≤ a % (2 ^ 64 : Nat) := Int.emod_nonneg _ (by decide)
      rw [Int.natCast_emod, Int.toNat_of_nonneg q, Int.natCast_pow]
      exact Int.emod_emod_of_dvd a (by
        obtain ⟨j, hj⟩ : ∃ j, 64 = k + j := ⟨64 - k, by omega⟩
        rw [Int.natCast_pow, hj, Int.pow_add]
        exact Int.dvd_mul_right _ _)
    rw [e1, e2]
    have q0 : 0 ≤ a % r := Int.emod_nonneg _ (by rw [← hr]; have := Int.pow_pos (n := 2) (m := k) (by decide); omega)
    have q1 : a % r < r := Int.emod_lt_of_pos _ (by rw [← hr]; exact Int.pow_pos (by decide))
    have q2 : r = ((2 ^ k : Nat) : Int) := by rw [← hr]; simp
    exact wrapN (by omega) (by omega))
theorem OQ.convI_8 {d : TypeDesc} {a : Int} (hs : P.underlying t = some d) (hd : P.underlying t' = some (.int .u8)) (hx : ev E x = some (I a)) : OQ P n E C ⟨dst, .convert t t' x, ty, pos, aft, g⟩ (U8 (BitVec.ofInt 8 a)) :=
  OQ.conv hs hd hx (by
    have e : IntKind.u8.wrap a = ((BitVec.ofInt 8 a).toNat : Int) := by
      rw [BitVec.toNat_ofInt, Int.toNat_of_nonneg (Int.emod_nonneg _ (by decide))]
      rfl
    rw [e])
theorem OQ.conv8_N {d : TypeDesc} {a : BitVec 8} (hs : P.underlying t = some d) (hd : P.underlying t' = some (.int .i64)) (hx : ev E x = some (U8 a)) : OQ P n E C ⟨dst, .convert t t' x, ty, pos, aft, g⟩ (N a.toNat) :=
  OQ.conv hs hd hx (by rw [wrapN (by omega) (by have := a.isLt; omega)])
theorem OQ.and8 {a b : BitVec 8} (hx : ev E x = some (U8 a)) (hy : ev E y = some (U8 b)) : OQ P n E C ⟨dst, .binOp .and t x y t', ty, pos, aft, g⟩ (U8 (a &&& b)) :=
  OQ.bin hx hy rfl fun _ => okInt (k := .u8) (show IntKind.u8.wrap ((BitVec.ofInt 8 (a.toNat : Int) &&& BitVec.ofInt 8 (b.toNat : Int)).toNat : Int) = _ by rw [ofIntNat, ofIntNat, wrapb8])
theorem OQ.add8 {a b : BitVec 8} (hx : ev E x = some (U8 a)) (hy : ev E y = some (U8 b)) : OQ P n E C ⟨dst, .binOp .add t x y t', ty, pos, aft, g⟩ (U8 (a + b)) :=
  OQ.bin hx hy rfl fun _ => okInt (k := .u8) (show IntKind.u8.wrap ((a.toNat : Int) + b.toNat) = _ by rw [← Int.natCast_add, wrap8, BitVec.toNat_add])
theorem OQ.mul8 {a b : BitVec 8} (hx : ev E x = some (U8 a)) (hy : ev E y = some (U8 b)) : OQ P n E C ⟨dst, .binOp .mul t x y t', ty, pos, aft, g⟩ (U8 (a * b)) :=
  OQ.bin hx hy rfl fun _ => okInt (k := .u8) (show IntKind.u8.wrap ((a.toNat : Int) * b.toNat) = _ by rw [← Int.natCast_mul, wrap8, BitVec.toNat_mul])
theorem OQ.quo8 {a b : BitVec 8} (hx : ev E x = some (U8 a)) (hy : ev E y = some (U8 b)) (h : 0 < b.toNat) : OQ P n E C ⟨dst, .binOp .quo t x y t', ty, pos, aft, g⟩ (U8 (a / b)) :=
  OQ.bin hx hy rfl fun w => by
    have h4 : ((a.toNat : Int).tdiv b.toNat) = ((a.toNat / b.toNat : Nat) : Int) := by rw [Int.tdiv_eq_ediv_of_nonneg (by omega)]; exact_mod_cast rfl
    have h5 : ¬ (b.toNat : Int) = 0 := by omega
    have h6 : IntKind.u8.wrap ((a.toNat : Int).tdiv b.toNat) = ((a / b).toNat : Int) := by
      rw [h4, wrap8, BitVec.toNat_udiv, Nat.mod_eq_of_lt (Nat.lt_of_le_of_lt (Nat.div_le_self _ _) a.isLt)]
    have h7 : Op.intDiv .quo .u8 (a.toNat : Int) b.toNat = (Pure.pure (.int .u8 (IntKind.u8.wrap ((a.toNat : Int).tdiv b.toNat))) : Sem Value) := by simp only [Op.intDiv, if_neg h5]
    show Sem.run P (Op.intDiv .quo .u8 (a.toNat : Int) b.toNat) w = _
    rw [h7, h6]; rfl
theorem OQ.rem8 {a b : BitVec 8} (hx : ev E x = some (U8 a)) (hy : ev E y = some (U8 b)) (h : 0 < b.toNat) : OQ P n E C ⟨dst, .binOp .rem t x y t', ty, pos, aft, g⟩ (U8 (a % b)) :=
  OQ.bin hx hy rfl fun w => by
    have h4 : ((a.toNat : Int).tmod b.toNat) = ((a % b).toNat : Int) := by rw [Int.tmod_eq_emod_of_nonneg (by omega), BitVec.toNat_umod]; exact_mod_cast rfl
    have h5 : ¬ (b.toNat : Int) = 0 := by omega
    have h7 : Op.intDiv .rem .u8 (a.toNat : Int) b.toNat = (Pure.pure (.int .u8 ((a.toNat : Int).tmod b.toNat)) : Sem Value) := by simp only [Op.intDiv, if_neg h5]
    show Sem.run P (Op.intDiv .rem .u8 (a.toNat : Int) b.toNat) w = _
    rw [h7, h4]; rfl
theorem OQ.shr8 {a : BitVec 8} {yk : IntKind} {k : Nat} (hx : ev E x = some (U8 a)) (hy : ev E y = some (.int yk k)) : OQ P n E C ⟨dst, .binOp .shr t x y t', ty, pos, aft, g⟩ (U8 (a >>> k)) :=
  OQ.bin hx hy rfl fun w => by
    have h1 : (a.toNat : Int).fdiv (2 ^ (min k 8)) = ((a >>> k).toNat : Int) := by
      rw [Int.fdiv_eq_ediv_of_nonneg _ (by exact Int.le_of_lt (Int.pow_pos (by decide))), BitVec.toNat_ushiftRight, Nat.shiftRight_eq_div_pow]
      by_cases hk : k ≤ 8
      · rw [Nat.min_eq_left hk]; simp
      · rw [Nat.min_eq_right (by omega)]
        have := a.isLt
        rw [Nat.div_eq_of_lt (Nat.lt_of_lt_of_le this (Nat.pow_le_pow_right (by omega) (by omega)))]
        exact Int.ediv_eq_zero_of_lt (by omega) (by exact_mod_cast this)
    have h7 : Op.shift .shr .u8 (a.toNat : Int) yk (k : Int) = (Pure.pure (.int .u8 ((a.toNat : Int).fdiv (2 ^ (min k 8)))) : Sem Value) := by
      unfold Op.shift
      rw [if_neg (by omega)]; rfl
    show Sem.run P (Op.shift .shr .u8 (a.toNat : Int) yk (k : Int)) w = _
    rw [h7, h1]; rfl
end
end Sl
end Go.Proofs.YtbihfhkbkcplmaaDoor

/-
  Of no statement by itself: numbers that have no parts, Fermat's little theorem, and that 2^255 - 19 is such a number; no program stands here.
  Conditions: none but each lemma's own.
-/
namespace Go.Proofs.YtbihfhkbkcplmaaDoor
namespace Crv
def Prim (n : Nat) : Prop := 1 < n ∧ ∀ m, m ∣ n → m = 1 ∨ m = n
/-- binomials -/
def ch : Nat → Nat → Nat
  | _, 0 => 1
  | 0, _ + 1 => 0
  | n + 1, k + 1 => ch n k + ch n (k + 1)
theorem ch_zero (n : Nat) : ch n 0 = 1 := by cases n <;> rfl
theorem ch_over : ∀ n k : Nat, n < k → ch n k = 0
  | 0, 0, h => absurd h (by decide)
  | 0, _ + 1, _ => rfl
  | n + 1, 0, h => absurd h (by omega)
  | n + 1, k + 1, h => by
    show ch n k + ch n (k + 1) = 0
    rw [ch_over n k (by omega), ch_over n (k + 1) (by omega)]
theorem ch_self : ∀ n : Nat, ch n n = 1
  | 0 => rfl
  | n + 1 => by
    show ch n n + ch n (n + 1) = 1
    rw [ch_self n, ch_over n (n + 1) (by omega)]
theorem ch_mul : ∀ n j : Nat, (j + 1) * ch (n + 1) (j + 1) = (n + 1) * ch n j
  | 0, 0 => by decide
  | 0, j + 1 => by
    show (j + 1 + 1) * (ch 0 (j + 1) + ch 0 (j + 1 + 1)) = (0 + 1) * ch 0 (j + 1)
    simp [ch]
  | n + 1, 0 => by
    have h := ch_mul n 0
    show (0 + 1) * (ch (n + 1) 0 + ch (n + 1) (0 + 1)) = (n + 1 + 1) * ch (n + 1) 0
    rw [ch_zero] at *
    omega
  | n + 1, k + 1 => by
    have h1 := ch_mul n k
    have h2 := ch_mul n (k + 1)
    have h3 : ch (n + 1) (k + 1) = ch n k + ch n (k + 1) := rfl
    show (k + 1 + 1) * (ch (n + 1) (k + 1) + ch (n + 1) (k + 1 + 1)) = (n + 1 + 1) * ch (n + 1) (k + 1)
    have e1 : (k + 1 + 1) * (ch (n + 1) (k + 1) + ch (n + 1) (k + 1 + 1)) = (k + 1) * ch (n + 1) (k + 1) + ch (n + 1) (k + 1) + (k + 1 + 1) * ch (n + 1) (k + 1 + 1) := by
      rw [Nat.mul_add, Nat.add_mul (k + 1) 1, Nat.one_mul]
    have e2 : (n + 1 + 1) * ch (n + 1) (k + 1) = (n + 1) * ch n k + (n + 1) * ch n (k + 1) + ch (n + 1) (k + 1) := by
      rw [Nat.add_mul (n + 1) 1, Nat.one_mul, h3, Nat.mul_add]
    rw [e1, e2, h1, h2]; omega
/-- the sum's first k parts -/
def bs (a n : Nat) : Nat → Nat
  | 0 => 0
  | k + 1 => bs a n k + ch n k * a ^ k
theorem bs_step (a n : Nat) : ∀ k, bs a (n + 1) (k + 1) = bs a n (k + 1) + a * bs a n k
  | 0 => by simp [bs, ch_zero]
  | k + 1 => by
    have h := bs_step a n k
    have e1 : bs a (n + 1) (k + 1 + 1) = bs a (n + 1) (k + 1) + (ch n k + ch n (k + 1)) * a ^ (k + 1) := rfl
    have e2 : bs a n (k + 1 + 1) = bs a n (k + 1) + ch n (k + 1) * a ^ (k + 1) := rfl
    have e3 : bs a n (k + 1) = bs a n k + ch n k * a ^ k := rfl
    have e4 : a * bs a n (k + 1) = a * bs a n k + ch n k * a ^ (k + 1) := by
      rw [e3, Nat.mul_add, Nat.pow_succ, Nat.mul_left_comm, Nat.mul_comm a (a ^ k)]
    rw [e1, h, e2, e4, Nat.add_mul]; omega
theorem binom (a : Nat) : ∀ n, (a + 1) ^ n = bs a n (n + 1)
  | 0 => by simp [bs, ch]
  | n + 1 => by
    have h := binom a n
    rw [bs_step, Nat.pow_succ, h, Nat.mul_add, Nat.mul_one, Nat.mul_comm]
    have : bs a n (n + 1 + 1) = bs a n (n + 1) + ch n (n + 1) * a ^ (n + 1) := rfl
    rw [this, ch_over n (n + 1) (by omega)]; omega
theorem Prim.euclid {p a b : Nat} (h : Prim p) (d : p ∣ a * b) : p ∣ a ∨ p ∣ b := by
  cases h.2 (Nat.gcd p a) (Nat.gcd_dvd_left p a) with
  | inl e => exact Or.inr (Nat.Coprime.dvd_of_dvd_mul_left e d)
  | inr e => exact Or.inl (e ▸ Nat.gcd_dvd_right p a)
theorem Prim.ch {p : Nat} (h : Prim p) (j : Nat) (h0 : 0 < j) (h1 : j < p) : p ∣ ch p j := by
  obtain ⟨n, rfl⟩ : ∃ n, p = n + 1 := ⟨p - 1, by have := h.1; omega⟩
  obtain ⟨k, rfl⟩ : ∃ k, j = k + 1 := ⟨j - 1, by omega⟩
  have e := ch_mul n k
  cases h.euclid (a := k + 1) (b := Crv.ch (n + 1) (k + 1)) ⟨_, e⟩ with
  | inl d => exact absurd (Nat.le_of_dvd (by omega) d) (by omega)
  | inr d => exact d
theorem bs_mod {p : Nat} (h : Prim p) (a : Nat) : ∀ k, k < p → bs a p (k + 1) % p = 1 % p
  | 0, _ => by simp [bs, ch_zero]
  | k + 1, hk => by
    have e : bs a p (k + 1 + 1) = bs a p (k + 1) + Crv.ch p (k + 1) * a ^ (k + 1) := rfl
    obtain ⟨c, hc⟩ := h.ch (k + 1) (by omega) hk
    rw [e, hc, Nat.mul_assoc, Nat.add_mul_mod_self_left]
    exact bs_mod h a k (by omega)
theorem frob {p : Nat} (h : Prim p) (a : Nat) : (a + 1) ^ p % p = (a ^ p + 1) % p := by
  obtain ⟨n, rfl⟩ : ∃ n, p = n + 1 := ⟨p - 1, by have := h.1; omega⟩
  rw [binom]
  have e : bs a (n + 1) (n + 1 + 1) = bs a (n + 1) (n + 1) + Crv.ch (n + 1) (n + 1) * a ^ (n + 1) := rfl
  rw [e, ch_self, Nat.one_mul, Nat.add_mod, bs_mod h a n (by omega), ← Nat.add_mod, Nat.add_comm]
theorem fermat0 {p : Nat} (h : Prim p) : ∀ a : Nat, a ^ p % p = a % p
  | 0 => by rw [Nat.zero_pow (by have := h.1; omega)]
  | a + 1 => by rw [frob h, Nat.add_mod, fermat0 h a, ← Nat.add_mod]
theorem fermat {p : Nat} (h : Prim p) (a : Nat) (ha : ¬ p ∣ a) : a ^ (p - 1) % p = 1 := by
  have h1 := h.1
  have e := fermat0 h a
  have e2 : a ^ p = a * a ^ (p - 1) := by
    have : p = (p - 1) + 1 := by omega
    rw [Nat.mul_comm, ← Nat.pow_succ, Nat.succ_eq_add_one, ← this]
  have pos : 0 < a ^ (p - 1) := Nat.pow_pos (Nat.pos_of_ne_zero (fun h => ha (h ▸ Nat.dvd_zero p)))
  have d : p ∣ a * (a ^ (p - 1) - 1) := by
    rw [Nat.mul_sub, Nat.mul_one, ← e2]
    exact (Nat.dvd_of_mod_eq_zero (Nat.sub_mod_eq_zero_of_mod_eq e))
  cases h.euclid d with
  | inl d => exact absurd d ha
  | inr d =>
    obtain ⟨c, hc⟩ := d
    have : a ^ (p - 1) = 1 + p * c := by omega
    rw [this, Nat.add_mul_mod_self_left, Nat.mod_eq_of_lt h1]
theorem pow_gcd {r c : Nat} : ∀ m n : Nat, c ^ m % r = 1 % r → c ^ n % r = 1 % r → c ^ Nat.gcd m n % r = 1 % r := by
  intro m n
  induction m, n using Nat.gcd.induction with
  | H0 n => intro _ h; rw [Nat.gcd_zero_left]; exact h
  | H1 m n hm ih =>
    intro h1 h2
    rw [Nat.gcd_rec]
    refine ih ?_ h1
    have e : c ^ n = (c ^ m) ^ (n / m) * c ^ (n % m) := by
      rw [← Nat.pow_mul, ← Nat.pow_add, Nat.div_add_mod]
    rw [e, Nat.mul_mod, Nat.pow_mod, h1, ← Nat.pow_mod, Nat.one_pow, ← Nat.mul_mod, Nat.one_mul] at h2
    exact h2
theorem part (n : Nat) : 1 < n → ∃ r, Prim r ∧ r ∣ n := by
  induction n using Nat.strongRecOn with
  | _ n ih =>
    intro h
    by_cases hp : Prim n
    · exact ⟨n, hp, Nat.dvd_refl n⟩
    · have : ∃ m, m ∣ n ∧ m ≠ 1 ∧ m ≠ n := by
        refine Classical.byContradiction fun hn => hp ⟨h, fun m hm => ?_⟩
        by_cases h1 : m = 1
        · exact Or.inl h1
        · by_cases h2 : m = n
          · exact Or.inr h2
          · exact absurd ⟨m, hm, h1, h2⟩ hn
      obtain ⟨m, hm, h1, h2⟩ := this
      have hle := Nat.le_of_dvd (by omega) hm
      have h0 : m ≠ 0 := fun e => by rw [e] at hm; have := Nat.eq_zero_of_zero_dvd hm; omega
      obtain ⟨r, hr, hd⟩ := ih m (by omega) (by omega)
      exact ⟨r, hr, Nat.dvd_trans hd hm⟩
theorem small (n : Nat) (h : 1 < n) (no : ∀ r, Prim r → r ∣ n → n < r * r) : Prim n := by
  refine ⟨h, fun m hm => ?_⟩
  by_cases h1 : m = 1
  · exact Or.inl h1
  by_cases h2 : m = n
  · exact Or.inr h2
  exfalso
  obtain ⟨k, hk⟩ := hm
  have m0 : m ≠ 0 := fun e => by rw [e, Nat.zero_mul] at hk; omega
  have k0 : k ≠ 0 := fun e => by rw [e, Nat.mul_zero] at hk; omega
  have k1 : k ≠ 1 := fun e => by rw [e, Nat.mul_one] at hk; exact h2 hk.symm
  have two : ∀ a b, n = a * b → 1 < a → a ≤ b → False := fun a b e ha hab => by
    obtain ⟨r, hr, hd⟩ := part a ha
    have q1 := no r hr (Nat.dvd_trans hd ⟨b, e⟩)
    have q2 := Nat.le_of_dvd (by omega) hd
    have q3 := Nat.mul_le_mul q2 (Nat.le_trans q2 hab)
    omega
  cases Nat.le_total m k with
  | inl hl => exact two m k hk (by omega) hl
  | inr hl => exact two k m (by rw [hk, Nat.mul_comm]) (by omega) hl
theorem pock {N r q k a : Nat} (hr : Prim r) (hd : r ∣ N) (hN : 1 < N) (hq : Prim q) (hk : N - 1 = k * q)
    (h1 : a ^ (k * q) % N = 1) (h2 : Nat.gcd (a ^ k % N + N - 1) N = 1) : q ∣ r - 1 := by
  have r1 := hr.1
  have hp : ∀ x, x % N % r = x % r := fun x => Nat.mod_mod_of_dvd x hd
  have e1 : (a ^ k) ^ q % r = 1 % r := by rw [← Nat.pow_mul, ← hp, h1]
  have na : ¬ r ∣ a ^ k := fun d => by
    obtain ⟨c, hc⟩ := d
    have : q ≠ 0 := by have := hq.1; omega
    obtain ⟨q', rfl⟩ : ∃ q', q = q' + 1 := ⟨q - 1, by omega⟩
    rw [Nat.pow_succ, hc, Nat.mul_comm, Nat.mul_assoc, Nat.mul_mod_right, Nat.mod_eq_of_lt r1] at e1
    exact absurd e1 (by decide)
  have e2 : (a ^ k) ^ (r - 1) % r = 1 % r := by rw [fermat hr _ na, Nat.mod_eq_of_lt r1]
  have e3 := pow_gcd _ _ e1 e2
  cases hq.2 _ (Nat.gcd_dvd_left q (r - 1)) with
  | inr e => rw [← e]; exact Nat.gcd_dvd_right q (r - 1)
  | inl e =>
    exfalso
    rw [e, Nat.pow_one, ← hp] at e3
    have d : r ∣ a ^ k % N + N - 1 := by
      have := Nat.sub_mod_eq_zero_of_mod_eq e3
      have d1 := Nat.dvd_of_mod_eq_zero this
      have : a ^ k % N + N - 1 = (a ^ k % N - 1) + N := by
        have : a ^ k % N ≠ 0 := fun z => by rw [z, Nat.zero_mod, Nat.mod_eq_of_lt r1] at e3; exact absurd e3 (by decide)
        omega
      rw [this]
      exact Nat.dvd_add d1 hd
    have d2 := Nat.dvd_gcd d hd
    rw [h2] at d2
    have := Nat.le_of_dvd (by decide) d2
    omega
/-- one number is enough: it is greater than the root -/
theorem pock1 {N q k a : Nat} (hN : 1 < N) (hq : Prim q) (hk : N - 1 = k * q) (big : N < q * q)
    (h1 : a ^ (k * q) % N = 1) (h2 : Nat.gcd (a ^ k % N + N - 1) N = 1) : Prim N := by
  refine small N hN fun r hr hd => ?_
  have d := pock hr hd hN hq hk h1 h2
  have := hr.1
  have l := Nat.le_of_dvd (by omega) d
  have := Nat.mul_le_mul (Nat.le_trans l (Nat.sub_le r 1)) (Nat.le_trans l (Nat.sub_le r 1))
  omega
/-- two numbers: their product is greater than the root -/
theorem pock2 {N q k q' k' a : Nat} (hN : 1 < N) (hq : Prim q) (hk : N - 1 = k * q) (hq' : Prim q') (hk' : N - 1 = k' * q') (ne : Nat.gcd q q' = 1) (big : N < q * q' * (q * q'))
    (h1 : a ^ (k * q) % N = 1) (h2 : Nat.gcd (a ^ k % N + N - 1) N = 1) (h3 : Nat.gcd (a ^ k' % N + N - 1) N = 1) : Prim N := by
  refine small N hN fun r hr hd => ?_
  have d := Nat.Coprime.mul_dvd_of_dvd_of_dvd ne (pock hr hd hN hq hk h1 h2) (pock hr hd hN hq' hk' (by rw [← hk', hk]; exact h1) h3)
  have := hr.1
  have l := Nat.le_of_dvd (by omega) d
  have := Nat.mul_le_mul (Nat.le_trans l (Nat.sub_le r 1)) (Nat.le_trans l (Nat.sub_le r 1))
  omega
/-- a power, kept small -/
def pm (n : Nat) : Nat → Nat → Nat → Nat → Nat
  | 0, _, _, acc => acc
  | f + 1, b, e, acc => pm n f (b * b % n) (e / 2) (if e % 2 = 1 then acc * b % n else acc)
theorem pm_eq (n : Nat) : ∀ f b e acc : Nat, e < 2 ^ f → pm n f b e acc % n = acc * b ^ e % n
  | 0, b, e, acc, h => by
    have : e = 0 := by omega
    subst this; simp [pm]
  | f + 1, b, e, acc, h => by
    show pm n f (b * b % n) (e / 2) (if e % 2 = 1 then acc * b % n else acc) % n = _
    rw [pm_eq n f _ _ _ (by rw [Nat.pow_succ] at h; omega)]
    have eb : b ^ e = b ^ (e % 2) * (b * b) ^ (e / 2) := by
      rw [← Nat.pow_two, ← Nat.pow_mul, ← Nat.pow_add, Nat.mod_add_div]
    rw [Nat.mul_mod, ← Nat.pow_mod, ← Nat.mul_mod, eb]
    split
    next h1 => rw [h1, Nat.pow_one, Nat.mul_mod, Nat.mod_mod, ← Nat.mul_mod, Nat.mul_assoc]
    next h1 =>
      have : e % 2 = 0 := by omega
      rw [this, Nat.pow_zero, Nat.one_mul]
theorem pm_is {n f b e v : Nat} (h : e < 2 ^ f) (hv : pm n f b e 1 % n = v) : b ^ e % n = v := by
  rw [← hv, pm_eq n f b e 1 h, Nat.one_mul]
/-- no number from 2 up to here goes into n -/
def trial (n : Nat) : Nat → Bool
  | 0 => true
  | k + 1 => (n % (k + 2) != 0) && trial n k
theorem trial_no (n : Nat) : ∀ k, trial n k = true → ∀ d, 2 ≤ d → d < k + 2 → n % d ≠ 0
  | 0, _, d, h, h2 => by omega
  | k + 1, ht, d, h, h2 => by
    simp only [trial, Bool.and_eq_true, bne_iff_ne, ne_eq] at ht
    by_cases e : d = k + 2
    · rw [e]; exact ht.1
    · exact trial_no n k ht.2 d h (by omega)
theorem trial_prim {n : Nat} (k : Nat) (h : 1 < n) (ht : trial n k = true) (big : n < (k + 2) * (k + 2)) : Prim n := by
  refine small n h fun r hr hd => ?_
  by_cases hk : r < k + 2
  · exact absurd (Nat.mod_eq_zero_of_dvd hd) (trial_no n k ht r hr.1 hk)
  · have := Nat.mul_le_mul (Nat.le_of_not_lt hk) (Nat.le_of_not_lt hk)
    omega
theorem pock2' {N q q' : Nat} (f a k k' v v' : Nat) (hq : Prim q) (hq' : Prim q') (hN : 1 < N) (hk : N - 1 = k * q) (hk' : N - 1 = k' * q') (ne : Nat.gcd q q' = 1) (big : N < q * q' * (q * q'))
    (hf : N ≤ 2 ^ f) (e1 : pm N f a k 1 % N = v) (e2 : pm N f a k' 1 % N = v') (e3 : pm N f a (k * q) 1 % N = 1)
    (g1 : Nat.gcd (v + N - 1) N = 1) (g2 : Nat.gcd (v' + N - 1) N = 1) : Prim N := by
  have l1 : k ≤ k * q := Nat.le_mul_of_pos_right k (Nat.lt_trans Nat.zero_lt_one hq.1)
  have l2 : k' ≤ k' * q' := Nat.le_mul_of_pos_right k' (Nat.lt_trans Nat.zero_lt_one hq'.1)
  refine pock2 hN hq hk hq' hk' ne big (a := a) (pm_is (by omega) e3) ?_ ?_
  · rw [pm_is (by omega) e1]; exact g1
  · rw [pm_is (by omega) e2]; exact g2
theorem pock1' {N q : Nat} (f a k v : Nat) (hq : Prim q) (hN : 1 < N) (hk : N - 1 = k * q) (big : N < q * q)
    (hf : N ≤ 2 ^ f) (e1 : pm N f a k 1 % N = v) (e3 : pm N f a (k * q) 1 % N = 1) (g1 : Nat.gcd (v + N - 1) N = 1) : Prim N := by
  have l1 : k ≤ k * q := Nat.le_mul_of_pos_right k (Nat.lt_trans Nat.zero_lt_one hq.1)
  refine pock1 hN hq hk big (a := a) (pm_is (by omega) e3) ?_
  rw [pm_is (by omega) e1]; exact g1
theorem prim_127 : Prim 127 := trial_prim 10 (by decide) (by decide +kernel) (by decide)
theorem prim_353 : Prim 353 := trial_prim 17 (by decide) (by decide +kernel) (by decide)
theorem prim_75707 : Prim 75707 := trial_prim 274 (by decide) (by decide +kernel) (by decide)
theorem prim_a : Prim 8574133 := trial_prim 2927 (by decide) (by decide +kernel) (by decide)
theorem prim_b : Prim 1919519569386763 :=
  pock2' (N := 1919519569386763) 51 2 223873314 15114327318006 1059928654987441 576774792492622 prim_a prim_127 (by decide +kernel) (by decide +kernel) (by decide +kernel) (by decide +kernel) (by decide +kernel) (by decide +kernel) (by decide +kernel) (by decide +kernel) (by decide +kernel) (by decide +kernel) (by decide +kernel)
theorem prim_c : Prim 75445702479781427272750846543864801 :=
  pock2' (N := 75445702479781427272750846543864801) 116 2 39304471641247389600 996548568557483816196003626400 56747016255153332959347766392083459 58781699294900834553279248901967638 prim_b prim_75707 (by decide +kernel) (by decide +kernel) (by decide +kernel) (by decide +kernel) (by decide +kernel) (by decide +kernel) (by decide +kernel) (by decide +kernel) (by decide +kernel) (by decide +kernel) (by decide +kernel)
theorem prim_d : Prim 74058212732561358302231226437062788676166966415465897661863160754340907 :=
  pock2' (N := 74058212732561358302231226437062788676166966415465897661863160754340907) 236 2 981609426360740691344999861639072106 209796636636151156663544550813209033076960244803019540118592523383402 69490809710348678725736597923071784769591275419387514694139338586948360 8562916886866218785688304546164188478888058893729309188831496247839076 prim_c prim_353 (by decide +kernel) (by decide +kernel) (by decide +kernel) (by decide +kernel) (by decide +kernel) (by decide +kernel) (by decide +kernel) (by decide +kernel) (by decide +kernel) (by decide +kernel) (by decide +kernel)
abbrev P : Nat := 57896044618658097711785492504343953926634992332820282019728792003956564819949
theorem prim_P : Prim P :=
  pock1' (N := P) 255 2 781764 427094198651976259540344842774561673889945192655078505504941250475370961481 prim_d (by decide +kernel) (by decide +kernel) (by decide +kernel) (by decide +kernel) (by decide +kernel) (by decide +kernel) (by decide +kernel)
end Crv
end Go.Proofs.YtbihfhkbkcplmaaDoor

/-
  Of no statement by itself: the numbers modulo 2^255 - 19: each but nought has an inverse, and one of two certain multiples of each has a root; no program stands here.
  Conditions: none but each lemma's own.
-/
namespace Go.Proofs.YtbihfhkbkcplmaaDoor
namespace Crv
abbrev F := Fin P
def pw (x : F) : Nat → F
  | 0 => 1
  | n + 1 => pw x n * x
theorem pw_val (x : F) : ∀ n, (pw x n).val = x.val ^ n % P
  | 0 => rfl
  | n + 1 => by
    show (pw x n * x).val = _
    rw [Fin.val_mul, pw_val x n, Nat.pow_succ, Nat.mul_mod, Nat.mod_mod, ← Nat.mul_mod]
theorem pw_add (x : F) (m : Nat) : ∀ n, pw x (m + n) = pw x m * pw x n
  | 0 => by show pw x m = pw x m * 1; grobner
  | n + 1 => by
    show pw x (m + n) * x = pw x m * (pw x n * x)
    rw [pw_add x m n]; grobner
theorem pw_mul (x y : F) : ∀ n, pw (x * y) n = pw x n * pw y n
  | 0 => by show (1 : F) = 1 * 1; grobner
  | n + 1 => by
    show pw (x * y) n * (x * y) = pw x n * x * (pw y n * y)
    rw [pw_mul x y n]; grobner
theorem val_ne {x : F} (h : x ≠ 0) : ¬ P ∣ x.val := fun d => h (by
  apply Fin.ext
  have := Nat.eq_zero_of_dvd_of_lt d x.isLt
  rw [this]; rfl)
theorem fermatF {x : F} (h : x ≠ 0) : pw x (P - 1) = 1 := by
  apply Fin.ext
  rw [pw_val, fermat prim_P _ (val_ne h)]; rfl
def inv (x : F) : F := pw x (P - 2)
theorem mul_inv {x : F} (h : x ≠ 0) : x * inv x = 1 := by
  have := fermatF h
  have e : P - 1 = (P - 2) + 1 := by decide
  rw [e] at this
  have t : pw x (P - 2) * x = 1 := this
  show x * pw x (P - 2) = 1
  grobner
theorem inv_zero : inv 0 = 0 := by
  apply Fin.ext
  have e : P - 2 = (P - 3) + 1 := by decide
  show (pw 0 (P - 2)).val = 0
  rw [e]
  show (pw 0 (P - 3) * 0).val = 0
  have : pw 0 (P - 3) * 0 = (0 : F) := by grobner
  rw [this]; rfl
theorem mul_zero {x y : F} (h : x * y = 0) : x = 0 ∨ y = 0 := by
  by_cases hx : x = 0
  · exact Or.inl hx
  · have := mul_inv hx
    exact Or.inr (by grobner)
theorem mul_ne {x y : F} (hx : x ≠ 0) (hy : y ≠ 0) : x * y ≠ 0 := fun h => by
  cases mul_zero h with
  | inl h => exact hx h
  | inr h => exact hy h
theorem cancel {c x y : F} (h : c ≠ 0) (e : c * x = c * y) : x = y := by
  have := mul_inv h
  grobner
theorem sq_zero {x : F} (h : x * x = 0) : x = 0 := (mul_zero h).elim id id
theorem two_ne : (2 : F) ≠ 0 := by decide
/-- half of what comes before p -/
def chi (x : F) : F := pw x 28948022309329048855892746252171976963317496166410141009864396001978282409974
theorem chi_sq {x : F} (h : x ≠ 0) : chi x * chi x = 1 := by
  unfold chi
  rw [← pw_add, ← fermatF h]
  exact congrArg (pw x) (by decide)
theorem chi_one {x : F} (h : x ≠ 0) : chi x = 1 ∨ chi x = -1 := by
  have := chi_sq h
  have e : (chi x - 1) * (chi x + 1) = 0 := by grobner
  cases mul_zero e with
  | inl h => exact Or.inl (by grobner)
  | inr h => exact Or.inr (by grobner)
theorem chi_mul (x y : F) : chi (x * y) = chi x * chi y := pw_mul x y _
/-- its square is -1 -/
def im : F := 19681161376707505956807079304988542015446066515923890162744021073123829784752
theorem im_sq : im * im = -1 := by decide +kernel
theorem root {x : F} (hc : chi x = 1) : ∃ s, x = s * s := by
  let q := pw x 14474011154664524427946373126085988481658748083205070504932198000989141204987
  let s := pw x 7237005577332262213973186563042994240829374041602535252466099000494570602494
  have e1 : q * q = 1 := by
    rw [← hc]; show pw x _ * pw x _ = pw x _
    rw [← pw_add]
  have e2 : s * s = q * x := by
    show pw x _ * pw x _ = pw x (14474011154664524427946373126085988481658748083205070504932198000989141204987 + 1)
    rw [← pw_add]
  have e3 : (q - 1) * (q + 1) = 0 := by grobner
  cases mul_zero e3 with
  | inl h => exact ⟨s, by grobner⟩
  | inr h =>
    have := im_sq
    exact ⟨im * s, by grobner⟩
/-- the curve's number -/
def ca : F := 486662
theorem pw_pm (x : F) {e f v : Nat} (he : e < 2 ^ f) (h : pm P f x.val e 1 % P = v) : (pw x e).val = v := by
  rw [pw_val]; exact pm_is he h
theorem chi_ca : chi (ca * ca - 4) = -1 := by
  apply Fin.ext
  exact pw_pm (f := 255) _ (by decide) (by decide +kernel)
/-- of what is left of the curve's square less 4, no root is there -/
theorem no_root (t : F) : t * t ≠ ca * ca - 4 := fun h => by
  have h0 : t ≠ 0 := fun e => by
    rw [e] at h
    revert h
    decide +kernel
  have e := chi_sq h0
  rw [← chi_mul, h, chi_ca] at e
  revert e
  decide +kernel
theorem one_has {w : F} (hw : w ≠ 0) : (∃ s, (ca + 2) * w = s * s) ∨ (∃ s, (ca - 2) * w = s * s) := by
  have n1 : (ca + 2) * w ≠ 0 := mul_ne (by decide +kernel) hw
  have n2 : (ca - 2) * w ≠ 0 := mul_ne (by decide +kernel) hw
  have e : chi ((ca + 2) * w) * chi ((ca - 2) * w) = -1 := by
    have e1 := chi_sq hw
    have e2 := chi_ca
    have e3 : (ca + 2) * (ca - 2) = ca * ca - 4 := by grobner
    rw [← e3, chi_mul] at e2
    rw [chi_mul, chi_mul]
    grobner
  cases chi_one n1 with
  | inl h => exact Or.inl (root h)
  | inr h =>
    refine Or.inr (root ?_)
    rw [h] at e
    grobner
end Crv
end Go.Proofs.YtbihfhkbkcplmaaDoor

/-
  Of no statement by itself: four identities of the curve x^2 + y^2 = 1 + d x^2 y^2, each with what it is a sum of; no program stands here.
  Conditions: none.
-/
namespace Go.Proofs.YtbihfhkbkcplmaaDoor
namespace Crv
def c0_on (d x1 y1 x2 y2 : F) : F := (x2*x2*x2*x2) + (y2*y2*y2*y2) + (-2*x2*x2*y2*y2*y2*y2) + (-2*x2*x2*x2*x2*y2*y2) + (4*x2*x2*y2*y2) + (-d*d*x2*x2*x2*x2*y2*y2*y2*y2) + (-2*d*x2*x2*y2*y2) + (2*d*x2*x2*x2*x2*y2*y2*y2*y2) + (d*d*x1*x1*x2*x2*x2*x2*y2*y2*y2*y2) + (d*d*x2*x2*x2*x2*y1*y1*y2*y2*y2*y2) + (-d*x1*x1*x2*x2*y2*y2*y2*y2) + (-d*x1*x1*x2*x2*x2*x2*y2*y2) + (-d*x2*x2*y1*y1*y2*y2*y2*y2) + (-d*x2*x2*x2*x2*y1*y1*y2*y2) + (d*d*d*x1*x1*x2*x2*x2*x2*y1*y1*y2*y2*y2*y2)
def c1_on (d x1 y1 x2 y2 : F) : F := (1) + (x2*x2) + (y2*y2) + (-x1*x1*x2*x2) + (-x1*x1*y2*y2) + (-x2*x2*y1*y1) + (-y1*y1*y2*y2) + (-2*x2*x2*y2*y2) + (d*x2*x2*y2*y2) + (2*x1*x1*x2*x2*y2*y2) + (2*x2*x2*y1*y1*y2*y2) + (d*x1*x1*x1*x1*x2*x2*y2*y2) + (d*x2*x2*y1*y1*y1*y1*y2*y2) + (-2*d*x1*x1*x2*x2*y2*y2) + (-2*d*x2*x2*y1*y1*y2*y2)
theorem cert_on (d x1 y1 x2 y2 : F) : (x1*y2+x2*y1)*(x1*y2+x2*y1)*((1-d*x1*x2*y1*y2)*(1-d*x1*x2*y1*y2))+(y1*y2-x1*x2)*(y1*y2-x1*x2)*((1+d*x1*x2*y1*y2)*(1+d*x1*x2*y1*y2))-(1-d*x1*x2*y1*y2)*(1-d*x1*x2*y1*y2)*((1+d*x1*x2*y1*y2)*(1+d*x1*x2*y1*y2))-d*((x1*y2+x2*y1)*(x1*y2+x2*y1))*((y1*y2-x1*x2)*(y1*y2-x1*x2))
    = c0_on d x1 y1 x2 y2*(-d*x1*x1*y1*y1 + x1*x1 + y1*y1 - 1) + c1_on d x1 y1 x2 y2*(-d*x2*x2*y2*y2 + x2*x2 + y2*y2 - 1) := by
  unfold c0_on c1_on
  grobner
def c0_x (d x1 y1 x2 y2 x3 y3 : F) : F := (d*x1*x2*x2*x2*x3*y2*y2) + (d*x1*x2*x2*y2*y2*y2*y3*y3*y3) + (d*x2*x2*x3*x3*x3*y1*y2*y2*y2) + (d*x2*x2*x2*y1*y2*y2*y3*y3*y3) + (-d*x1*x2*x2*y2*y2*y2*y3) + (-d*x1*x2*x2*x2*x3*x3*x3*y2*y2) + (-d*x2*x2*x3*y1*y2*y2*y2) + (-d*x2*x2*x2*y1*y2*y2*y3) + (d*x1*x2*x3*y2*y2*y2*y2*y3*y3) + (d*d*x1*x2*x2*x2*x2*x3*x3*y2*y2*y2*y3) + (d*d*x2*x2*x2*x2*x3*y1*y2*y2*y2*y3*y3) + (d*d*x2*x2*x2*x3*x3*y1*y2*y2*y2*y2*y3) + (-d*x1*x2*x2*x2*x2*x3*x3*y2*y3) + (-d*x2*x3*x3*y1*y2*y2*y2*y2*y3) + (-d*x2*x2*x2*x2*x3*y1*y2*y3*y3) + (-d*d*x1*x2*x2*x2*x3*y2*y2*y2*y2*y3*y3)
def c1_x (d x1 y1 x2 y2 x3 y3 : F) : F := (x1*x2*x3*x3*x3) + (x1*y2*y3) + (x1*x1*x1*x2*x3) + (x2*y1*y3) + (x2*y1*y1*y1*y3*y3*y3) + (x3*y1*y2) + (x1*x1*x1*y2*y3*y3*y3) + (x3*x3*x3*y1*y1*y1*y2) + (-x1*x2*x3) + (-x1*y2*y3*y3*y3) + (-x2*y1*y3*y3*y3) + (-x2*y1*y1*y1*y3) + (-x1*x1*x1*x2*x3*x3*x3) + (-x3*y1*y1*y1*y2) + (-x3*x3*x3*y1*y2) + (-x1*x1*x1*y2*y3) + (x1*x2*x3*y1*y1) + (x1*x2*x3*y3*y3) + (x1*y1*y1*y2*y3*y3*y3) + (x1*x1*x2*y1*y3*y3*y3) + (x2*x3*x3*y1*y1*y1*y3) + (x3*y1*y1*y1*y2*y3*y3) + (x1*x1*x3*x3*x3*y1*y2) + (x1*x1*x1*x3*x3*y2*y3) + (-x1*x2*x3*x3*x3*y1*y1) + (-x1*x3*x3*y2*y3) + (-x1*y1*y1*y2*y3) + (-x1*x1*x1*x2*x3*y3*y3) + (-x1*x1*x2*y1*y3) + (-x2*x3*x3*y1*y3) + (-x1*x1*x3*y1*y2) + (-x3*y1*y2*y3*y3) + (d*x1*x3*x3*y2*y3*y3*y3) + (d*x2*x3*x3*y1*y3*y3*y3) + (d*x1*x1*x1*x2*x3*x3*x3*y3*y3) + (d*x3*x3*x3*y1*y2*y3*y3) + (x1*x3*x3*y1*y1*y2*y3) + (x1*x1*x2*x3*x3*y1*y3) + (x1*x1*x3*y1*y2*y3*y3) + (-d*x1*x2*x3*x3*x3*y3*y3) + (-d*x2*x3*x3*y1*y1*y1*y3*y3*y3) + (-d*x1*x1*x1*x3*x3*y2*y3*y3*y3) + (-d*x3*x3*x3*y1*y1*y1*y2*y3*y3) + (-x1*x2*x3*y1*y1*y3*y3) + (d*x1*x2*x3*y2*y2*y3*y3) + (d*x1*x2*x3*x3*x3*y1*y1*y3*y3) + (d*x2*x3*x3*y1*y1*y1*y2*y2*y3) + (d*x2*x2*x3*y1*y1*y1*y2*y3*y3) + (d*x1*x1*x1*x2*x2*x3*x3*y2*y3) + (-d*x1*x2*x2*x3*x3*y2*y3) + (-d*x1*x3*x3*y1*y1*y2*y3*y3*y3) + (-d*x1*x1*x1*x2*x3*y2*y2*y3*y3) + (-d*x2*x3*x3*y1*y2*y2*y3) + (-d*x1*x1*x2*x3*x3*y1*y3*y3*y3) + (-d*x2*x2*x3*y1*y2*y3*y3) + (-d*x1*x1*x3*x3*x3*y1*y2*y3*y3) + (d*x1*x2*x2*x3*x3*y1*y1*y2*y3) + (d*x1*x1*x2*x3*x3*y1*y2*y2*y3) + (d*x1*x1*x2*x2*x3*y1*y2*y3*y3) + (d*d*x1*x2*x3*x3*x3*y1*y1*y2*y2*y3*y3) + (-d*x1*x2*x3*y1*y1*y2*y2*y3*y3) + (-d*d*x1*x2*x2*x3*x3*y1*y1*y2*y3*y3*y3) + (-d*d*x1*x1*x2*x3*x3*y1*y2*y2*y3*y3*y3) + (-d*d*x1*x1*x2*x2*x3*x3*x3*y1*y2*y3*y3)
def c2_x (d x1 y1 x2 y2 x3 y3 : F) : F := (x1*x2*x3) + (x1*y2*y2*y2*y3) + (x2*y1*y1*y1*y3) + (x3*y1*y2*y2*y2) + (x3*y1*y1*y1*y2) + (x1*x1*x1*x2*x2*x2*x3) + (x2*x2*x2*y1*y3) + (x1*x1*x1*y2*y3) + (-x1*x2*x2*x2*x3) + (-x1*y2*y3) + (-x1*x1*x1*x2*x3) + (-x2*y1*y3) + (-x3*y1*y2) + (-x3*y1*y1*y1*y2*y2*y2) + (-x1*x1*x1*y2*y2*y2*y3) + (-x2*x2*x2*y1*y1*y1*y3) + (x1*x2*x2*x2*x3*y1*y1) + (x1*x2*x2*y2*y3) + (x1*y1*y1*y2*y3) + (x1*x1*x1*x2*x3*y2*y2) + (x1*x1*x2*y1*y3) + (x2*y1*y2*y2*y3) + (x1*x1*x3*y1*y2) + (x2*x2*x3*y1*y2) + (-x1*x2*x3*y1*y1) + (-x1*x2*x3*y2*y2) + (-x1*y1*y1*y2*y2*y2*y3) + (-x2*y1*y1*y1*y2*y2*y3) + (-x1*x1*x3*y1*y2*y2*y2) + (-x2*x2*x3*y1*y1*y1*y2) + (-x1*x1*x2*x2*x2*y1*y3) + (-x1*x1*x1*x2*x2*y2*y3) + (x1*x2*x3*y1*y1*y2*y2) + (-x1*x2*x2*y1*y1*y2*y3) + (-x1*x1*x2*y1*y2*y2*y3) + (-x1*x1*x2*x2*x3*y1*y2) + (d*x1*x2*x2*y1*y1*y2*y3) + (d*x1*x1*x2*y1*y2*y2*y3) + (d*x1*x1*x2*x2*x3*y1*y2) + (-d*x1*x2*x3*y1*y1*y2*y2)
theorem cert_x (d x1 y1 x2 y2 x3 y3 : F) : ((x1*y2+x2*y1)*(1-d*x1*x2*y1*y2)*y3+x3*(y1*y2-x1*x2)*(1+d*x1*x2*y1*y2))*((1-d*x2*x3*y2*y3)*(1+d*x2*x3*y2*y3)+d*x1*(x2*y3+x3*y2)*y1*(y2*y3-x2*x3))-(x1*(y2*y3-x2*x3)*(1+d*x2*x3*y2*y3)+(x2*y3+x3*y2)*y1*(1-d*x2*x3*y2*y3))*((1-d*x1*x2*y1*y2)*(1+d*x1*x2*y1*y2)+d*(x1*y2+x2*y1)*x3*(y1*y2-x1*x2)*y3)
    = c0_x d x1 y1 x2 y2 x3 y3*(-d*x1*x1*y1*y1 + x1*x1 + y1*y1 - 1) + c1_x d x1 y1 x2 y2 x3 y3*(-d*x2*x2*y2*y2 + x2*x2 + y2*y2 - 1) + c2_x d x1 y1 x2 y2 x3 y3*(-d*x3*x3*y3*y3 + x3*x3 + y3*y3 - 1) := by
  unfold c0_x c1_x c2_x
  grobner
def c0_y (d x1 y1 x2 y2 x3 y3 : F) : F := (d*x1*x2*x2*x3*y2*y2*y2) + (d*x1*x2*x2*x2*y2*y2*y3) + (d*x2*x2*x2*x3*y1*y2*y2) + (d*x2*x2*y1*y2*y2*y2*y3*y3*y3) + (-d*x1*x2*x2*x3*x3*x3*y2*y2*y2) + (-d*x1*x2*x2*x2*y2*y2*y3*y3*y3) + (-d*x2*x2*y1*y2*y2*y2*y3) + (-d*x2*x2*x2*x3*x3*x3*y1*y2*y2) + (d*x1*x2*x3*x3*y2*y2*y2*y2*y3) + (d*x1*x2*x2*x2*x2*x3*y2*y3*y3) + (d*x2*x3*y1*y2*y2*y2*y2*y3*y3) + (d*d*x2*x2*x2*x2*x3*x3*y1*y2*y2*y2*y3) + (-d*x2*x2*x2*x2*x3*x3*y1*y2*y3) + (-d*d*x1*x2*x2*x2*x2*x3*y2*y2*y2*y3*y3) + (-d*d*x1*x2*x2*x2*x3*x3*y2*y2*y2*y2*y3) + (-d*d*x2*x2*x2*x3*y1*y2*y2*y2*y2*y3*y3)
def c1_y (d x1 y1 x2 y2 x3 y3 : F) : F := (x1*x2*y3*y3*y3) + (x1*x3*x3*x3*y2) + (x2*x3*y1*y1*y1) + (x2*x3*x3*x3*y1) + (x1*x1*x1*x2*y3) + (x1*x1*x1*x3*y2) + (y1*y2*y3) + (y1*y1*y1*y2*y3*y3*y3) + (-x1*x2*y3) + (-x1*x3*y2) + (-x2*x3*y1) + (-x1*x1*x1*x2*y3*y3*y3) + (-x2*x3*x3*x3*y1*y1*y1) + (-y1*y2*y3*y3*y3) + (-y1*y1*y1*y2*y3) + (-x1*x1*x1*x3*x3*x3*y2) + (x1*x2*x3*x3*y3) + (x1*x2*y1*y1*y3) + (x1*x3*y1*y1*y2) + (x1*x3*y2*y3*y3) + (x1*x1*x2*x3*y1) + (x2*x3*y1*y3*y3) + (x1*x1*y1*y2*y3*y3*y3) + (x3*x3*y1*y1*y1*y2*y3) + (-x1*x2*y1*y1*y3*y3*y3) + (-x1*x3*x3*x3*y1*y1*y2) + (-x2*x3*y1*y1*y1*y3*y3) + (-x1*x1*x2*x3*x3*x3*y1) + (-x1*x1*x1*x2*x3*x3*y3) + (-x1*x1*x1*x3*y2*y3*y3) + (-x1*x1*y1*y2*y3) + (-x3*x3*y1*y2*y3) + (d*x1*x1*x1*x2*x3*x3*y3*y3*y3) + (d*x2*x3*x3*x3*y1*y1*y1*y3*y3) + (d*x3*x3*y1*y2*y3*y3*y3) + (d*x1*x1*x1*x3*x3*x3*y2*y3*y3) + (x1*x1*x3*x3*y1*y2*y3) + (-d*x1*x2*x3*x3*y3*y3*y3) + (-d*x1*x3*x3*x3*y2*y3*y3) + (-d*x2*x3*x3*x3*y1*y3*y3) + (-d*x3*x3*y1*y1*y1*y2*y3*y3*y3) + (-x1*x2*x3*x3*y1*y1*y3) + (-x1*x3*y1*y1*y2*y3*y3) + (-x1*x1*x2*x3*y1*y3*y3) + (d*x1*x2*x3*x3*y2*y2*y3) + (d*x1*x2*x3*x3*y1*y1*y3*y3*y3) + (d*x1*x2*x2*x3*y2*y3*y3) + (d*x1*x3*x3*x3*y1*y1*y2*y3*y3) + (d*x2*x3*y1*y2*y2*y3*y3) + (d*x1*x1*x2*x3*x3*x3*y1*y3*y3) + (d*x2*x2*x3*x3*y1*y1*y1*y2*y3) + (-d*x2*x3*y1*y1*y1*y2*y2*y3*y3) + (-d*x1*x1*x1*x2*x3*x3*y2*y2*y3) + (-d*x1*x1*x1*x2*x2*x3*y2*y3*y3) + (-d*x2*x2*x3*x3*y1*y2*y3) + (-d*x1*x1*x3*x3*y1*y2*y3*y3*y3) + (d*x1*x1*x2*x2*x3*x3*y1*y2*y3) + (d*d*x1*x2*x3*x3*y1*y1*y2*y2*y3*y3*y3) + (d*d*x1*x2*x2*x3*x3*x3*y1*y1*y2*y3*y3) + (d*d*x1*x1*x2*x3*x3*x3*y1*y2*y2*y3*y3) + (-d*x1*x2*x3*x3*y1*y1*y2*y2*y3) + (-d*x1*x2*x2*x3*y1*y1*y2*y3*y3) + (-d*x1*x1*x2*x3*y1*y2*y2*y3*y3) + (-d*d*x1*x1*x2*x2*x3*x3*y1*y2*y3*y3*y3)
def c2_y (d x1 y1 x2 y2 x3 y3 : F) : F := (x1*x2*y3) + (x1*x3*y2) + (x2*x3*y1) + (x1*x1*x1*x3*y2*y2*y2) + (x2*x2*x2*x3*y1*y1*y1) + (y1*y2*y2*y2*y3) + (y1*y1*y1*y2*y3) + (x1*x1*x1*x2*x2*x2*y3) + (-x1*x3*y2*y2*y2) + (-x1*x2*x2*x2*y3) + (-x2*x3*y1*y1*y1) + (-x1*x1*x1*x2*y3) + (-x2*x2*x2*x3*y1) + (-x1*x1*x1*x3*y2) + (-y1*y2*y3) + (-y1*y1*y1*y2*y2*y2*y3) + (x1*x3*y1*y1*y2*y2*y2) + (x1*x2*x2*x2*y1*y1*y3) + (x2*x3*y1*y1*y1*y2*y2) + (x1*x1*x1*x2*y2*y2*y3) + (x1*x1*x2*x2*x2*x3*y1) + (x1*x1*x1*x2*x2*x3*y2) + (x1*x1*y1*y2*y3) + (x2*x2*y1*y2*y3) + (-x1*x2*y1*y1*y3) + (-x1*x2*y2*y2*y3) + (-x1*x2*x2*x3*y2) + (-x1*x3*y1*y1*y2) + (-x1*x1*x2*x3*y1) + (-x2*x3*y1*y2*y2) + (-x1*x1*y1*y2*y2*y2*y3) + (-x2*x2*y1*y1*y1*y2*y3) + (x1*x2*y1*y1*y2*y2*y3) + (x1*x2*x2*x3*y1*y1*y2) + (x1*x1*x2*x3*y1*y2*y2) + (-x1*x1*x2*x2*y1*y2*y3) + (d*x1*x1*x2*x2*y1*y2*y3) + (-d*x1*x2*y1*y1*y2*y2*y3) + (-d*x1*x2*x2*x3*y1*y1*y2) + (-d*x1*x1*x2*x3*y1*y2*y2)
theorem cert_y (d x1 y1 x2 y2 x3 y3 : F) : ((y1*y2-x1*x2)*(1+d*x1*x2*y1*y2)*y3-(x1*y2+x2*y1)*x3*(1-d*x1*x2*y1*y2))*((1-d*x2*x3*y2*y3)*(1+d*x2*x3*y2*y3)-d*x1*(x2*y3+x3*y2)*y1*(y2*y3-x2*x3))-(y1*(y2*y3-x2*x3)*(1+d*x2*x3*y2*y3)-x1*(x2*y3+x3*y2)*(1-d*x2*x3*y2*y3))*((1-d*x1*x2*y1*y2)*(1+d*x1*x2*y1*y2)-d*(x1*y2+x2*y1)*x3*(y1*y2-x1*x2)*y3)
    = c0_y d x1 y1 x2 y2 x3 y3*(-d*x1*x1*y1*y1 + x1*x1 + y1*y1 - 1) + c1_y d x1 y1 x2 y2 x3 y3*(-d*x2*x2*y2*y2 + x2*x2 + y2*y2 - 1) + c2_y d x1 y1 x2 y2 x3 y3*(-d*x3*x3*y3*y3 + x3*x3 + y3*y3 - 1) := by
  unfold c0_y c1_y c2_y
  grobner
def c0_diff (d y1 x2 y2 : F) : F := (4*x2*x2*y1*y2) + (-4*d*x2*x2*y1*y2*y2*y2)
def c1_diff (y1 y2 : F) : F := (-4*y1*y1*y1*y2) + (4*y1*y2)
theorem cert_diff (d x1 y1 x2 y2 : F) : ((1-d*x1*x2*y1*y2+y1*y2-x1*x2)*(1+d*x1*x2*y1*y2+y1*y2+x1*x2))*((y1-y2)*(y1-y2))-((1-d*x1*x2*y1*y2-y1*y2+x1*x2)*(1+d*x1*x2*y1*y2-y1*y2-x1*x2))*((y1+y2)*(y1+y2))
    = c0_diff d y1 x2 y2*(-d*x1*x1*y1*y1 + x1*x1 + y1*y1 - 1) + c1_diff y1 y2*(-d*x2*x2*y2*y2 + x2*x2 + y2*y2 - 1) := by
  unfold c0_diff c1_diff
  grobner
end Crv
end Go.Proofs.YtbihfhkbkcplmaaDoor

/-
  Of no statement by itself: the points of x^2 + y^2 = 1 + d x^2 y^2, where d has no root, are a commuting group; no program stands here.
  Conditions: none but each lemma's own.
-/
namespace Go.Proofs.YtbihfhkbkcplmaaDoor
namespace Crv
def NS (d : F) : Prop := ∀ t, t * t ≠ d
def On (d : F) (p : F × F) : Prop := p.1 * p.1 + p.2 * p.2 = 1 + d * p.1 * p.1 * p.2 * p.2
def kk (d : F) (p q : F × F) : F := d * p.1 * q.1 * p.2 * q.2
theorem den {d : F} {p q : F × F} (ns : NS d) (hp : On d p) (hq : On d q) {ε : F} (hε : ε * ε = 1) : kk d p q ≠ ε := by
  obtain ⟨x1, y1⟩ := p
  obtain ⟨x2, y2⟩ := q
  unfold kk On at *
  simp only at *
  intro h
  have e1 : (x1 + ε * y1) * (x1 + ε * y1) = d * (x1 * y1) * (x1 * y1) * ((x2 + y2) * (x2 + y2)) := by grobner
  have e2 : (x1 - ε * y1) * (x1 - ε * y1) = d * (x1 * y1) * (x1 * y1) * ((x2 - y2) * (x2 - y2)) := by grobner
  have one : (1 : F) ≠ 0 := by decide
  have n0 : x1 * y1 ≠ 0 := fun z => one (by grobner)
  have step : ∀ a b : F, a * a = d * (x1 * y1) * (x1 * y1) * (b * b) → b = 0 := fun a b e => by
    refine Classical.byContradiction fun hb => ?_
    have i := mul_inv (mul_ne n0 hb)
    exact ns (a * inv (x1 * y1 * b)) (by grobner)
  have z1 := step _ _ e1
  have z2 := step _ _ e2
  have z3 : (2 : F) * x2 = 0 := by grobner
  have z4 : x2 = 0 := (mul_zero z3).elim (fun h => absurd h two_ne) id
  exact one (by grobner)
theorem den_p {d : F} {p q : F × F} (ns : NS d) (hp : On d p) (hq : On d q) : 1 + kk d p q ≠ 0 := fun h =>
  den ns hp hq (ε := -1) (by decide) (by grobner)
theorem den_m {d : F} {p q : F × F} (ns : NS d) (hp : On d p) (hq : On d q) : 1 - kk d p q ≠ 0 := fun h =>
  den ns hp hq (ε := 1) (by decide) (by grobner)
def add (d : F) (p q : F × F) : F × F := ((p.1 * q.2 + q.1 * p.2) * inv (1 + kk d p q), (p.2 * q.2 - p.1 * q.1) * inv (1 - kk d p q))
theorem add_x {d : F} {p q : F × F} (ns : NS d) (hp : On d p) (hq : On d q) : (add d p q).1 * (1 + kk d p q) = p.1 * q.2 + q.1 * p.2 := by
  have := mul_inv (den_p ns hp hq)
  show (p.1 * q.2 + q.1 * p.2) * inv (1 + kk d p q) * (1 + kk d p q) = _
  generalize inv (1 + kk d p q) = i at *
  generalize kk d p q = k at *
  grobner
theorem add_y {d : F} {p q : F × F} (ns : NS d) (hp : On d p) (hq : On d q) : (add d p q).2 * (1 - kk d p q) = p.2 * q.2 - p.1 * q.1 := by
  have := mul_inv (den_m ns hp hq)
  show (p.2 * q.2 - p.1 * q.1) * inv (1 - kk d p q) * (1 - kk d p q) = _
  generalize inv (1 - kk d p q) = i at *
  generalize kk d p q = k at *
  grobner
theorem of_two {a b c0 c1 z0 z1 : F} (h : a - b = c0 * z0 + c1 * z1) (h0 : z0 = 0) (h1 : z1 = 0) : a = b := by grobner
theorem of_two' {a c0 c1 z0 z1 : F} (h : a = c0 * z0 + c1 * z1) (h0 : z0 = 0) (h1 : z1 = 0) : a = 0 := by grobner
theorem of_three {a b c0 c1 c2 z0 z1 z2 : F} (h : a - b = c0 * z0 + c1 * z1 + c2 * z2) (h0 : z0 = 0) (h1 : z1 = 0) (h2 : z2 = 0) : a = b := by grobner
theorem curve0 {d x y : F} (h : x * x + y * y = 1 + d * x * x * y * y) : -d*x*x*y*y + x*x + y*y - 1 = 0 := by grobner
theorem fin_on {d k a b x y : F} (hx : x * (1 + k) = a) (hy : y * (1 - k) = b)
    (c : a * a * ((1 - k) * (1 - k)) + b * b * ((1 + k) * (1 + k)) - (1 - k) * (1 - k) * ((1 + k) * (1 + k)) - d * (a * a) * (b * b) = 0) :
    (1 + k) * (1 - k) * ((1 + k) * (1 - k)) * (x * x + y * y) = (1 + k) * (1 - k) * ((1 + k) * (1 - k)) * (1 + d * x * x * y * y) := by
  subst hx
  subst hy
  grobner
theorem add_on {d : F} {p q : F × F} (ns : NS d) (hp : On d p) (hq : On d q) : On d (add d p q) := by
  have hx := add_x ns hp hq
  have hy := add_y ns hp hq
  have nn := mul_ne (den_p ns hp hq) (den_m ns hp hq)
  exact cancel (mul_ne nn nn) (fin_on hx hy (of_two' (cert_on d p.1 p.2 q.1 q.2) (curve0 hp) (curve0 hq)))
theorem leg_d {d k a b x y u v : F} (h1 : x * (1 + k) = a) (h2 : y * (1 - k) = b) : (1 - k) * (1 + k) + d * a * u * b * v = (1 - k) * (1 + k) * (1 + d * x * u * y * v) := by
  subst h1
  subst h2
  grobner
theorem leg_lx {d k a b x y u v l : F} (h1 : x * (1 + k) = a) (h2 : y * (1 - k) = b) (hl : l * (1 + d * x * u * y * v) = x * v + u * y) : l * ((1 - k) * (1 + k) + d * a * u * b * v) = a * (1 - k) * v + u * b * (1 + k) := by
  rw [leg_d h1 h2]
  subst h1
  subst h2
  generalize 1 + d * x * u * y * v = z at *
  grobner
theorem leg_ly {d k a b x y u v l : F} (h1 : x * (1 + k) = a) (h2 : y * (1 - k) = b) (hl : l * (1 - d * x * u * y * v) = y * v - x * u) : l * ((1 - k) * (1 + k) - d * a * u * b * v) = b * (1 + k) * v - a * u * (1 - k) := by
  have e : (1 - k) * (1 + k) - d * a * u * b * v = (1 - k) * (1 + k) * (1 - d * x * u * y * v) := by
    subst h1
    subst h2
    grobner
  rw [e]
  subst h1
  subst h2
  generalize 1 - d * x * u * y * v = z at *
  grobner
theorem leg_rx {d k a b x y u v l : F} (h1 : x * (1 + k) = a) (h2 : y * (1 - k) = b) (hl : l * (1 + d * u * x * v * y) = u * y + x * v) : l * ((1 - k) * (1 + k) + d * u * a * v * b) = u * b * (1 + k) + a * v * (1 - k) := by
  have e := leg_lx h1 h2 (l := l) (d := d) (u := u) (v := v) (by clear h1 h2; grobner)
  clear h1 h2 hl
  grobner
theorem leg_ry {d k a b x y u v l : F} (h1 : x * (1 + k) = a) (h2 : y * (1 - k) = b) (hl : l * (1 - d * u * x * v * y) = v * y - u * x) : l * ((1 - k) * (1 + k) - d * u * a * v * b) = v * b * (1 + k) - u * a * (1 - k) := by
  have e := leg_ly h1 h2 (l := l) (d := d) (u := u) (v := v) (by clear h1 h2; grobner)
  clear h1 h2 hl
  grobner
theorem leg_n {d k a b x y u v : F} (h1 : x * (1 + k) = a) (h2 : y * (1 - k) = b) (n1 : 1 + k ≠ 0) (n2 : 1 - k ≠ 0) (n3 : 1 + d * x * u * y * v ≠ 0) : (1 - k) * (1 + k) + d * a * u * b * v ≠ 0 := by
  rw [leg_d h1 h2]
  exact mul_ne (mul_ne n2 n1) n3
theorem leg_m {d k a b x y u v : F} (h1 : x * (1 + k) = a) (h2 : y * (1 - k) = b) (n1 : 1 + k ≠ 0) (n2 : 1 - k ≠ 0) (n3 : 1 - d * x * u * y * v ≠ 0) : (1 - k) * (1 + k) - d * a * u * b * v ≠ 0 := by
  have e : (1 - k) * (1 + k) - d * a * u * b * v = (1 - k) * (1 + k) * (1 - d * x * u * y * v) := by
    subst h1
    subst h2
    clear n1 n2 n3
    grobner
  rw [e]
  exact mul_ne (mul_ne n2 n1) n3
theorem leg_n' {d k a b x y u v : F} (h1 : x * (1 + k) = a) (h2 : y * (1 - k) = b) (n1 : 1 + k ≠ 0) (n2 : 1 - k ≠ 0) (n3 : 1 + d * u * x * v * y ≠ 0) : (1 - k) * (1 + k) + d * u * a * v * b ≠ 0 := by
  have e : ∀ x y : F, d * u * x * v * y = d * x * u * y * v := fun x y => by clear h1 h2 n1 n2 n3; grobner
  rw [e]
  exact leg_n h1 h2 n1 n2 (by rw [← e]; exact n3)
theorem leg_m' {d k a b x y u v : F} (h1 : x * (1 + k) = a) (h2 : y * (1 - k) = b) (n1 : 1 + k ≠ 0) (n2 : 1 - k ≠ 0) (n3 : 1 - d * u * x * v * y ≠ 0) : (1 - k) * (1 + k) - d * u * a * v * b ≠ 0 := by
  have e : ∀ x y : F, d * u * x * v * y = d * x * u * y * v := fun x y => by clear h1 h2 n1 n2 n3; grobner
  rw [e]
  exact leg_m h1 h2 n1 n2 (by rw [← e]; exact n3)
theorem cross {l r a b c e : F} (h1 : l * b = a) (h2 : r * e = c) (h : a * e = c * b) (n1 : b ≠ 0) (n2 : e ≠ 0) : l = r := by
  refine cancel (mul_ne n1 n2) ?_
  subst h1
  subst h2
  grobner
theorem assoc {d : F} {p q r : F × F} (ns : NS d) (hp : On d p) (hq : On d q) (hr : On d r) : add d (add d p q) r = add d p (add d q r) := by
  have h12 := add_on ns hp hq
  have h23 := add_on ns hq hr
  have a1 := add_x ns hp hq
  have a2 := add_y ns hp hq
  have b1 := add_x ns hq hr
  have b2 := add_y ns hq hr
  have l1 := add_x ns h12 hr
  have l2 := add_y ns h12 hr
  have r1 := add_x ns hp h23
  have r2 := add_y ns hp h23
  have np := den_p ns hp hq
  have nm := den_m ns hp hq
  have mp := den_p ns hq hr
  have mm := den_m ns hq hr
  have lp := den_p ns h12 hr
  have lm := den_m ns h12 hr
  have rp := den_p ns hp h23
  have rm := den_m ns hp h23
  have cx := of_three (cert_x d p.1 p.2 q.1 q.2 r.1 r.2) (curve0 hp) (curve0 hq) (curve0 hr)
  have cy := of_three (cert_y d p.1 p.2 q.1 q.2 r.1 r.2) (curve0 hp) (curve0 hq) (curve0 hr)
  generalize add d (add d p q) r = l at *
  generalize add d p (add d q r) = t at *
  generalize add d p q = s at *
  generalize add d q r = w at *
  obtain ⟨x1, y1⟩ := p
  obtain ⟨x2, y2⟩ := q
  obtain ⟨x3, y3⟩ := r
  obtain ⟨x12, y12⟩ := s
  obtain ⟨x23, y23⟩ := w
  obtain ⟨lx, ly⟩ := l
  obtain ⟨tx, ty⟩ := t
  unfold kk On at *
  simp only at *
  clear hp hq hr h12 h23
  generalize d * x1 * x2 * y1 * y2 = k at *
  generalize d * x2 * x3 * y2 * y3 = m at *
  generalize x1 * y2 + x2 * y1 = nx at *
  generalize y1 * y2 - x1 * x2 = ny at *
  generalize x2 * y3 + x3 * y2 = mx at *
  generalize y2 * y3 - x2 * x3 = my at *
  have ex : lx = tx := cross (leg_lx a1 a2 l1) (leg_rx b1 b2 r1) cx (leg_n a1 a2 np nm lp) (leg_n' b1 b2 mp mm rp)
  have ey : ly = ty := cross (leg_ly a1 a2 l2) (leg_ry b1 b2 r2) cy (leg_m a1 a2 np nm lm) (leg_m' b1 b2 mp mm rm)
  rw [ex, ey]
theorem add_comm (d : F) (p q : F × F) : add d p q = add d q p := by
  have e : kk d p q = kk d q p := by unfold kk; grobner
  unfold add
  rw [e]
  apply Prod.ext
  · show (p.1 * q.2 + q.1 * p.2) * _ = (q.1 * p.2 + p.1 * q.2) * _
    congr 1
    grobner
  · show (p.2 * q.2 - p.1 * q.1) * _ = (q.2 * p.2 - q.1 * p.1) * _
    congr 1
    grobner
def O : F × F := (0, 1)
theorem on_O (d : F) : On d O := by
  show (0 : F) * 0 + 1 * 1 = 1 + d * 0 * 0 * 1 * 1
  grobner
theorem inv_one : inv 1 = 1 := by
  have := mul_inv (x := 1) (by decide)
  grobner
theorem O_add (d : F) (p : F × F) : add d O p = p := by
  have e : kk d O p = 0 := by show d * 0 * p.1 * 1 * p.2 = 0; grobner
  unfold add
  rw [e]
  have e1 : (1 + 0 : F) = 1 := by decide
  have e2 : (1 - 0 : F) = 1 := by decide
  rw [e1, e2, inv_one]
  apply Prod.ext
  · show (0 * p.2 + p.1 * 1) * 1 = p.1
    grobner
  · show (1 * p.2 - 0 * p.1) * 1 = p.2
    grobner
def neg (p : F × F) : F × F := (-p.1, p.2)
theorem on_neg {d : F} {p : F × F} (h : On d p) : On d (neg p) := by
  show -p.1 * -p.1 + p.2 * p.2 = 1 + d * -p.1 * -p.1 * p.2 * p.2
  unfold On at h
  grobner
theorem add_neg {d : F} {p : F × F} (ns : NS d) (h : On d p) : add d p (neg p) = O := by
  have x := add_x ns h (on_neg h)
  have y := add_y ns h (on_neg h)
  have n1 := den_p ns h (on_neg h)
  have n2 := den_m ns h (on_neg h)
  generalize add d p (neg p) = r at *
  obtain ⟨rx, ry⟩ := r
  obtain ⟨px, py⟩ := p
  unfold neg kk On at *
  simp only at *
  have ex : rx = 0 := by
    refine cancel n1 ?_
    generalize 1 + d * px * -px * py * py = z at *
    grobner
  have ey : ry = 1 := by
    refine cancel n2 ?_
    have : 1 - d * px * -px * py * py = py * py - px * -px := by clear x y n1 n2 ex; grobner
    rw [← this] at y
    generalize 1 - d * px * -px * py * py = z at *
    clear x n1 n2 this ex h
    grobner
  rw [ex, ey]; rfl
/-- p so many times -/
def nP (d : F) (p : F × F) : Nat → F × F
  | 0 => O
  | n + 1 => add d (nP d p n) p
theorem on_nP {d : F} {p : F × F} (ns : NS d) (h : On d p) : ∀ n, On d (nP d p n)
  | 0 => on_O d
  | n + 1 => add_on ns (on_nP ns h n) h
theorem nP_add {d : F} {p : F × F} (ns : NS d) (h : On d p) (m : Nat) : ∀ n, nP d p (m + n) = add d (nP d p m) (nP d p n)
  | 0 => by
    show nP d p m = add d (nP d p m) O
    rw [add_comm, O_add]
  | n + 1 => by
    show add d (nP d p (m + n)) p = add d (nP d p m) (add d (nP d p n) p)
    rw [nP_add ns h m n, assoc ns (on_nP ns h m) (on_nP ns h n) h]
theorem nP_mul {d : F} {p : F × F} (ns : NS d) (h : On d p) (m : Nat) : ∀ n, nP d (nP d p m) n = nP d p (m * n)
  | 0 => rfl
  | n + 1 => by
    show add d (nP d (nP d p m) n) (nP d p m) = nP d p (m * n + m)
    rw [nP_mul ns h m n, nP_add ns h]
theorem nP_comm {d : F} {p : F × F} (ns : NS d) (h : On d p) (m n : Nat) : nP d (nP d p m) n = nP d (nP d p n) m := by
  rw [nP_mul ns h, nP_mul ns h, Nat.mul_comm]
end Crv
end Go.Proofs.YtbihfhkbkcplmaaDoor

/-
  Of no statement by itself: the ladder of X25519 over the numbers modulo 2^255 - 19, and that to multiply by one even number and then by another one is the same in either order; no program stands here.
  Conditions: none but each lemma's own.
-/
namespace Go.Proofs.YtbihfhkbkcplmaaDoor
namespace Crv
structure L4 where
  x2 : F
  z2 : F
  x3 : F
  z3 : F
/-- one step, as the document tells it, between the exchanges -/
def core (x1 : F) (s : L4) : L4 :=
  let a := s.x2 + s.z2
  let b := s.x2 - s.z2
  let c := s.x3 + s.z3
  let d := s.x3 - s.z3
  let da := d * a
  let cb := c * b
  let aa := a * a
  let bb := b * b
  let e := aa - bb
  ⟨aa * bb, e * (aa + 121665 * e), (da + cb) * (da + cb), x1 * ((da - cb) * (da - cb))⟩
def swap (b : Bool) (s : L4) : L4 := if b then ⟨s.x3, s.z3, s.x2, s.z2⟩ else s
def lad (x1 : F) (k : Nat) : Nat → L4 → L4
  | 0, s => s
  | n + 1, s => lad x1 k n (swap (k.testBit n) (core x1 (swap (k.testBit n) s)))
def mulF (k : Nat) (u : F) : F := (lad u k 255 ⟨1, 0, u, 1⟩).x2 * inv (lad u k 255 ⟨1, 0, u, 1⟩).z2
/-- the pair stands for the point of this second coordinate -/
def Rep (σ y X Z : F) : Prop := ∃ l, l ≠ 0 ∧ X = l * (1 + y) ∧ Z = l * (σ * (1 - y))
structure Par (σ d : F) : Prop where
  one : σ * σ = 1
  num : d * (σ * ca + 2) = σ * ca - 2
  ns : NS d
theorem rep_of {σ y X Z : F} (h1 : σ * σ = 1) (h : σ * (1 + y) * Z = (1 - y) * X) (n : X = 0 → Z = 0 → False) : Rep σ y X Z := by
  have h2 := mul_inv two_ne
  refine ⟨(X + σ * Z) * inv 2, fun z => ?_, ?_, ?_⟩
  · have z1 : X + σ * Z = 0 := by
      refine (mul_zero z).elim id fun e => ?_
      rw [e] at h2
      have one : (1 : F) ≠ 0 := by decide
      exact absurd (by grobner) one
    have e : (2 : F) * X = 0 := by
      clear z h2 n
      grobner
    have e1 : X = 0 := (mul_zero e).elim (fun h => absurd h two_ne) id
    refine n e1 ?_
    clear z h2 n
    grobner
  · clear n
    generalize inv 2 = i at *
    grobner
  · clear n
    generalize inv 2 = i at *
    grobner
theorem dbl_id {d : F} {p : F × F} (ns : NS d) (hp : On d p) : (1 + (add d p p).2) * ((1 - p.2 * p.2) * (1 - d * p.2 * p.2)) = (1 - (add d p p).2) * (p.2 * p.2 * (1 - d)) := by
  have hy := add_y ns hp hp
  have n := den_m ns hp hp
  generalize add d p p = r at *
  obtain ⟨rx, y2⟩ := r
  obtain ⟨x, y⟩ := p
  unfold kk On at *
  simp only at *
  have e : 1 - d * x * x * y * y = 2 - x * x - y * y := by clear hy n; grobner
  rw [e] at hy n
  refine cancel n ?_
  have e1 : (2 - x * x - y * y) * (1 + y2) = 2 - 2 * (x * x) := by clear n e; grobner
  have e2 : (2 - x * x - y * y) * (1 - y2) = 2 - 2 * (y * y) := by clear n e e1; grobner
  have e3 : (2 - x * x - y * y) * ((1 + y2) * ((1 - y * y) * (1 - d * y * y))) = (2 - 2 * (x * x)) * ((1 - y * y) * (1 - d * y * y)) := by rw [← e1]; clear n e e1 e2 hy hp; grobner
  have e4 : (2 - x * x - y * y) * ((1 - y2) * (y * y * (1 - d))) = (2 - 2 * (y * y)) * (y * y * (1 - d)) := by rw [← e2]; clear n e e1 e2 e3 hy hp; grobner
  rw [e3, e4]
  clear e3 e4 e1 e2 n e hy
  grobner
theorem diff_id {d : F} {p q : F × F} (ns : NS d) (hp : On d p) (hq : On d q) :
    (1 + (add d p q).2) * (1 + (add d p (neg q)).2) * ((p.2 - q.2) * (p.2 - q.2)) = (1 - (add d p q).2) * (1 - (add d p (neg q)).2) * ((p.2 + q.2) * (p.2 + q.2)) := by
  have a := add_y ns hp hq
  have b := add_y ns hp (on_neg hq)
  have n1 := den_m ns hp hq
  have n2 := den_m ns hp (on_neg hq)
  have c := of_two (cert_diff d p.1 p.2 q.1 q.2) (curve0 hp) (curve0 hq)
  generalize add d p q = r at *
  generalize add d p (neg q) = t at *
  obtain ⟨rx, ry⟩ := r
  obtain ⟨tx, ty⟩ := t
  obtain ⟨x1, y1⟩ := p
  obtain ⟨x2, y2⟩ := q
  unfold neg kk On at *
  simp only at *
  clear hp hq
  have e : 1 - d * x1 * -x2 * y1 * y2 = 1 + d * x1 * x2 * y1 * y2 := by clear a b n1 n2 c; grobner
  rw [e] at b n2
  generalize d * x1 * x2 * y1 * y2 = k at *
  have e1 : (1 - k) * (1 + ry) = 1 - k + y1 * y2 - x1 * x2 := by clear b n1 n2 c e; grobner
  have e2 : (1 - k) * (1 - ry) = 1 - k - y1 * y2 + x1 * x2 := by clear b n1 n2 c e e1; grobner
  have e3 : (1 + k) * (1 + ty) = 1 + k + y1 * y2 + x1 * x2 := by clear a n1 n2 c e e1 e2; grobner
  have e4 : (1 + k) * (1 - ty) = 1 + k - y1 * y2 - x1 * x2 := by clear a n1 n2 c e e1 e2 e3; grobner
  rw [← e1, ← e2, ← e3, ← e4] at c
  refine cancel (mul_ne n1 n2) ?_
  clear e1 e2 e3 e4 a b e n1 n2
  generalize 1 + ry = r1 at *
  generalize 1 - ry = r2 at *
  generalize 1 + ty = t1 at *
  generalize 1 - ty = t2 at *
  generalize 1 + k = k1 at *
  generalize 1 - k = k2 at *
  generalize y1 - y2 = f at *
  generalize y1 + y2 = g at *
  grobner
theorem neg_sym (d : F) (p q : F × F) : (add d p (neg q)).2 = (add d q (neg p)).2 := by
  show (p.2 * q.2 - p.1 * -q.1) * inv (1 - d * p.1 * -q.1 * p.2 * q.2) = (q.2 * p.2 - q.1 * -p.1) * inv (1 - d * q.1 * -p.1 * q.2 * p.2)
  have e1 : p.2 * q.2 - p.1 * -q.1 = q.2 * p.2 - q.1 * -p.1 := by grobner
  have e2 : 1 - d * p.1 * -q.1 * p.2 * q.2 = 1 - d * q.1 * -p.1 * q.2 * p.2 := by grobner
  rw [e1, e2]
theorem Par.d_ne {σ d : F} (h : Par σ d) : 1 - d ≠ 0 := fun z => h.ns 1 (by grobner)
theorem rep_dbl {σ d : F} (hp : Par σ d) {p : F × F} (h : On d p) {s : L4} (r : Rep σ p.2 s.x2 s.z2) (x1 : F) : Rep σ (add d p p).2 (core x1 s).x2 (core x1 s).z2 := by
  obtain ⟨l, l0, ex, ez⟩ := r
  have id := dbl_id hp.ns h
  have nd := hp.d_ne
  have h1 := hp.one
  have h2 := hp.num
  show Rep σ (add d p p).2 ((s.x2 + s.z2) * (s.x2 + s.z2) * ((s.x2 - s.z2) * (s.x2 - s.z2))) (((s.x2 + s.z2) * (s.x2 + s.z2) - (s.x2 - s.z2) * (s.x2 - s.z2)) * ((s.x2 + s.z2) * (s.x2 + s.z2) + 121665 * ((s.x2 + s.z2) * (s.x2 + s.z2) - (s.x2 - s.z2) * (s.x2 - s.z2))))
  rw [ex, ez]
  generalize p.2 = y at *
  generalize (add d p p).2 = y2 at *
  clear ex ez h hp
  have fx : (l * (1 + y) + l * (σ * (1 - y))) * (l * (1 + y) + l * (σ * (1 - y))) * ((l * (1 + y) - l * (σ * (1 - y))) * (l * (1 + y) - l * (σ * (1 - y)))) = 16 * (l * l * (l * l)) * (y * y) := by
    have e : (l * (1 + y) + l * (σ * (1 - y))) * (l * (1 + y) - l * (σ * (1 - y))) = l * l * (4 * y) := by clear id h2 nd l0; grobner
    clear id h1 h2 nd l0
    generalize l * (1 + y) + l * (σ * (1 - y)) = a at *
    generalize l * (1 + y) - l * (σ * (1 - y)) = b at *
    grobner
  have ge : (l * (1 + y) + l * (σ * (1 - y))) * (l * (1 + y) + l * (σ * (1 - y))) - (l * (1 + y) - l * (σ * (1 - y))) * (l * (1 + y) - l * (σ * (1 - y))) = 4 * (l * l) * (σ * (1 - y * y)) := by clear id h1 h2 nd l0 fx; grobner
  have ga : (l * (1 + y) + l * (σ * (1 - y))) * (l * (1 + y) + l * (σ * (1 - y))) = l * l * (2 + 2 * (y * y) + 2 * (σ * (1 - y * y))) := by clear id h2 nd l0 fx ge; grobner
  rw [fx, ge, ga]
  have ca4 : (121665 : F) * 4 = ca - 2 := by decide +kernel
  have gz : (1 - d) * (4 * (l * l) * (σ * (1 - y * y)) * (l * l * (2 + 2 * (y * y) + 2 * (σ * (1 - y * y))) + 121665 * (4 * (l * l) * (σ * (1 - y * y))))) = 16 * (l * l * (l * l)) * (σ * ((1 - y * y) * (1 - d * y * y))) := by
    have e1 : l * l * (2 + 2 * (y * y) + 2 * (σ * (1 - y * y))) + 121665 * (4 * (l * l) * (σ * (1 - y * y))) = l * l * (2 + 2 * (y * y) + σ * ca * (1 - y * y)) := by
      clear id h1 h2 nd l0 fx ge ga
      generalize ca = A at *
      grobner
    have e2 : (1 - d) * (2 + 2 * (y * y) + σ * ca * (1 - y * y)) = 4 * (1 - d * y * y) := by
      clear id h1 nd l0 fx ge ga e1 ca4
      generalize ca = A at *
      grobner
    rw [e1]
    clear id h1 h2 nd l0 fx ge ga e1 ca4
    generalize 2 + 2 * (y * y) + σ * ca * (1 - y * y) = w at *
    grobner
  generalize 4 * (l * l) * (σ * (1 - y * y)) * (l * l * (2 + 2 * (y * y) + 2 * (σ * (1 - y * y))) + 121665 * (4 * (l * l) * (σ * (1 - y * y)))) = Z at *
  have n16 : 16 * (l * l * (l * l)) ≠ 0 := mul_ne (by decide) (mul_ne (mul_ne l0 l0) (mul_ne l0 l0))
  clear fx ge ga ca4 h2 l0
  generalize 16 * (l * l * (l * l)) = K at *
  refine rep_of h1 (cancel nd ?_) fun z1 z2 => ?_
  · have e : (1 - d) * (σ * (1 + y2) * Z) = σ * (1 + y2) * ((1 - d) * Z) := by clear id h1 gz nd n16; grobner
    rw [e, gz]
    clear e gz nd n16
    generalize (1 - y * y) * (1 - d * y * y) = w at *
    grobner
  · have y0 : y = 0 := (mul_zero z1).elim (fun h => absurd h n16) sq_zero
    have s0 : σ ≠ 0 := fun e => by
      rw [e] at h1
      have : (0 : F) * 0 ≠ 1 := by decide
      exact this h1
    refine mul_ne n16 s0 ?_
    rw [y0, z2] at gz
    clear id h1 nd n16 z1 z2 y0 s0
    grobner
theorem rep_add {σ d u : F} (hp : Par σ d) {p q : F × F} (h : On d p) (h' : On d q) {s : L4} (r : Rep σ p.2 s.x2 s.z2) (r' : Rep σ q.2 s.x3 s.z3)
    (hu : u ≠ 0) (hd : u * (σ * (1 - (add d p (neg q)).2)) = 1 + (add d p (neg q)).2) : Rep σ (add d p q).2 (core u s).x3 (core u s).z3 := by
  obtain ⟨l, l0, ex, ez⟩ := r
  obtain ⟨m, m0, fx, fz⟩ := r'
  have id := diff_id hp.ns h h'
  have ty := add_y hp.ns h (on_neg h')
  have h1 := hp.one
  show Rep σ (add d p q).2 (((s.x3 - s.z3) * (s.x2 + s.z2) + (s.x3 + s.z3) * (s.x2 - s.z2)) * ((s.x3 - s.z3) * (s.x2 + s.z2) + (s.x3 + s.z3) * (s.x2 - s.z2)))
    (u * (((s.x3 - s.z3) * (s.x2 + s.z2) - (s.x3 + s.z3) * (s.x2 - s.z2)) * ((s.x3 - s.z3) * (s.x2 + s.z2) - (s.x3 + s.z3) * (s.x2 - s.z2))))
  rw [ex, ez, fx, fz]
  generalize (add d p q).2 = ry at *
  generalize add d p (neg q) = t at *
  obtain ⟨tx, t⟩ := t
  obtain ⟨x1, y1⟩ := p
  obtain ⟨x2, y2⟩ := q
  unfold neg kk On at *
  simp only at *
  clear ex ez fx fz hp
  have one : (1 : F) ≠ 0 := by decide
  have ga : (m * (1 + y2) - m * (σ * (1 - y2))) * (l * (1 + y1) + l * (σ * (1 - y1))) + (m * (1 + y2) + m * (σ * (1 - y2))) * (l * (1 + y1) - l * (σ * (1 - y1))) = 4 * (l * m) * (y1 + y2) := by
    clear id ty h h' hu hd l0 m0 one
    grobner
  have gb : (m * (1 + y2) - m * (σ * (1 - y2))) * (l * (1 + y1) + l * (σ * (1 - y1))) - (m * (1 + y2) + m * (σ * (1 - y2))) * (l * (1 + y1) - l * (σ * (1 - y1))) = 4 * (l * m) * (σ * (y2 - y1)) := by
    clear id ty h h' hu hd l0 m0 one ga h1
    grobner
  rw [ga, gb]
  have n4 : 4 * (l * m) ≠ 0 := mul_ne (by decide) (mul_ne l0 m0)
  clear ga gb l0 m0
  generalize 4 * (l * m) = K at *
  have t1 : 1 - t ≠ 0 := fun z => by
    have e : (2 : F) = 0 := by
      rw [z] at hd
      clear id ty h h' hu h1 one n4
      grobner
    exact two_ne e
  refine rep_of h1 (cancel t1 ?_) fun z1 z2 => ?_
  · have e : (1 - t) * (σ * (1 + ry) * (u * (K * (σ * (y2 - y1)) * (K * (σ * (y2 - y1)))))) = K * K * (σ * σ) * ((1 + ry) * (u * (σ * (1 - t))) * ((y1 - y2) * (y1 - y2))) := by
      clear id ty h h' hu hd h1 one n4 t1
      grobner
    rw [e, hd, id, h1]
    clear id ty h h' hu hd h1 one n4 t1 e
    grobner
  · have a1 : y1 + y2 = 0 := (mul_zero (sq_zero z1)).elim (fun h => absurd h n4) (fun h => h)
    have a2 : σ * (y2 - y1) = 0 := (mul_zero ((mul_zero z2).elim (fun h => absurd h hu) sq_zero)).elim (fun h => absurd h n4) (fun h => h)
    have a3 : y2 - y1 = 0 := by clear id ty h h' hu hd one n4 t1 z1 z2 a1; grobner
    have a4 : (2 : F) * y1 = 0 := by clear id ty h h' hu hd one n4 t1 z1 z2 a2 h1; grobner
    have a5 : y1 = 0 := (mul_zero a4).elim (fun h => absurd h two_ne) (fun h => h)
    have a6 : y2 = 0 := by rw [a5] at a1; clear id ty h h' hu hd one n4 t1 z1 z2 a2 h1 a3 a4 a5; grobner
    rw [a5] at h ty
    rw [a6] at h' ty
    have b1 : x1 * x1 = 1 := by clear id ty h' hu hd one n4 t1 z1 z2 a1 a2 h1 a3 a4 a5 a6; grobner
    have b2 : x2 * x2 = 1 := by clear id ty h hu hd one n4 t1 z1 z2 a1 a2 h1 a3 a4 a5 a6 b1; grobner
    have b3 : t = x1 * x2 := by clear id h h' hu hd one n4 t1 z1 z2 a1 a2 h1 a3 a4 a5 a6 b1 b2; grobner
    have b4 : (1 - t) * (1 + t) = 0 := by clear id h h' hu hd one n4 t1 z1 z2 a1 a2 h1 a3 a4 a5 a6 ty; grobner
    have b5 : 1 + t = 0 := (mul_zero b4).elim (fun h => absurd h t1) (fun h => h)
    have s0 : σ ≠ 0 := fun e => by
      rw [e] at h1
      have : (0 : F) * 0 ≠ 1 := by decide
      exact this h1
    rw [b5] at hd
    exact mul_ne hu (mul_ne s0 t1) hd
end Crv
end Go.Proofs.YtbihfhkbkcplmaaDoor
