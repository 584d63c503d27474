/-
  Of no statement by itself: rules by which a function's text is walked with partial knowledge of its frame (a list of slots) and of memory (a list of blocks with what is known of each), for any program P.
  Conditions: each rule's own hypotheses.
-/
import Derived.Deep.Quiet
import Derived.StillTail
import Derived.Below
import Derived.KernelRfl
namespace Go.Proofs.Ytbihfhkbkcplmaa
namespace Sl

abbrev Env := List (Nat × Value)
def lk : Env → Nat → Option Value
  | [], _ => none
  | (d, v) :: E, t => cond (Nat.beq d t) (some v) (lk E t)

structure Knows (n : Nat) (E : Env) (a : Act) : Prop where
  size : a.tmps.size = n
  defers : a.defers = []
  all : ∀ t v, lk E t = some v → a.tmps.getD t undef = v

theorem Knows.put {n : Nat} {E : Env} {a : Act} (h : Knows n E a) (d : Nat) (v : Value) (hd : Nat.blt d n = true) : Knows n ((d, v) :: E) (a.put (some d) v) := by
  have hd' : d < n := by simpa using hd
  refine ⟨by simp [Act.put, h.size], h.defers, fun t u hu => ?_⟩
  simp only [lk] at hu
  by_cases e : d = t
  · subst e
    simp at hu
    subst hu
    simp [Act.put, h.size, hd']
  · have : Nat.beq d t = false := Bool.eq_false_iff.2 fun h => e (Nat.eq_of_beq_eq_true h)
    rw [this] at hu
    have := h.all t u hu
    simpa [Act.put, Array.getElem?_setIfInBounds, e] using this

theorem Knows.put_none {n : Nat} {E : Env} {a : Act} (h : Knows n E a) (v : Value) : Knows n E (a.put none v) := h

inductive SubE (E : Env) : Env → Prop where
  | nil : SubE E []
  | cons (d : Nat) (v : Value) (E' : Env) : lk E d = some v → SubE E E' → SubE E ((d, v) :: E')
theorem SubE.all {E E' : Env} (h : SubE E E') : ∀ p ∈ E', lk E p.1 = some p.2 := by
  induction h with
  | nil => simp
  | cons d v E' h _ ih =>
    intro p hp
    simp only [List.mem_cons] at hp
    rcases hp with rfl | hp
    · exact h
    · exact ih p hp
theorem Knows.sub {n : Nat} {E E' : Env} {a : Act} (h : Knows n E a) (hs' : SubE E E') : Knows n E' a := by
  have hs := hs'.all
  clear hs'
  refine ⟨h.size, h.defers, fun t u hu => h.all t u ?_⟩
  induction E' with
  | nil => simp [lk] at hu
  | cons p E' ih =>
    simp only [lk] at hu
    by_cases e : p.1 = t
    · subst e
      simp at hu
      subst hu
      exact hs p (by simp)
    · have : Nat.beq p.1 t = false := Bool.eq_false_iff.2 fun h => e (Nat.eq_of_beq_eq_true h)
      rw [this] at hu
      exact ih (fun q hq => hs q (by simp [hq])) hu

def ev (E : Env) : Operand → Option Value
  | .tmp t => lk E t
  | .const v => some v
  | .global g => some (.pointer (some ⟨g, 0, none⟩))
  | .func f => some (.func (.func f) #[] #[])

theorem Knows.eval {n : Nat} {E : Env} {a : Act} (h : Knows n E a) {x : Operand} {v : Value} (hx : ev E x = some v) : a.eval x = v := by
  cases x with
  | tmp t => exact h.all t v hx
  | const u => exact Option.some.inj hx
  | global g => exact Option.some.inj hx
  | func f => exact Option.some.inj hx

/-! ### memory -/
structure Chg (S : List Nat) (w w' : World) : Prop where
  os : w'.os = w.os
  tape : w'.tape = w.tape
  output : w'.output = w.output
  size : w.heap.size ≤ w'.heap.size
  block : ∀ k, k < w.heap.size → k ∉ S → w'.heap[k]? = w.heap[k]?

theorem Chg.refl (S : List Nat) (w : World) : Chg S w w := ⟨rfl, rfl, rfl, Nat.le_refl _, fun _ _ _ => rfl⟩
theorem Chg.trans {S : List Nat} {a b c : World} (h : Chg S a b) (k : Chg S b c) : Chg S a c :=
  ⟨k.os.trans h.os, k.tape.trans h.tape, k.output.trans h.output, Nat.le_trans h.size k.size,
   fun i hi hS => (k.block i (Nat.lt_of_lt_of_le hi h.size) hS).trans (h.block i hi hS)⟩
theorem Chg.mono {S S' : List Nat} {a b : World} (h : Chg S a b) (hs : ∀ k ∈ S, k ∈ S') : Chg S' a b :=
  ⟨h.os, h.tape, h.output, h.size, fun i hi hS => h.block i hi fun hk => hS (hs i hk)⟩
abbrev Ext := Chg []
theorem Chg.below {w w' : World} (h : Ext w w') : RowKit.Below w.heap.size w w' := ⟨h.os, h.tape, h.output, h.size, fun k hk => h.block k hk (by simp)⟩

structure Ent where
  b : Nat
  A : Obj → Prop
  wr : Bool

structure Holds (w0 : World) (S : List Nat) (M : List Ent) (w : World) : Prop where
  chg : Chg S w0 w
  nodup : (M.map Ent.b).Nodup
  all : ∀ e ∈ M, (∃ o, w.heap[e.b]? = some o ∧ e.A o) ∧ (e.wr = true → e.b ∈ S ∨ w0.heap.size ≤ e.b)

inductive Has : List Ent → Nat → (Obj → Prop) → Bool → Prop where
  | here {b A wr M} : Has (⟨b, A, wr⟩ :: M) b A wr
  | there {e M b A wr} : Has M b A wr → Has (e :: M) b A wr

theorem Has.mem {M : List Ent} {b : Nat} {A : Obj → Prop} {wr : Bool} (h : Has M b A wr) : ⟨b, A, wr⟩ ∈ M := by
  induction h with
  | here => simp
  | there _ ih => simp [ih]

/-- M' is M with another word on block b. -/
inductive Upd : List Ent → Nat → (Obj → Prop) → (Obj → Prop) → List Ent → Prop where
  | here {b A A' M} : Upd (⟨b, A, true⟩ :: M) b A A' (⟨b, A', true⟩ :: M)
  | there {e M b A A' M'} : Upd M b A A' M' → Upd (e :: M) b A A' (e :: M')

theorem Upd.has {M M' : List Ent} {b : Nat} {A A' : Obj → Prop} (h : Upd M b A A' M') : Has M b A true := by
  induction h with
  | here => exact .here
  | there _ ih => exact .there ih
theorem Upd.keys {M M' : List Ent} {b : Nat} {A A' : Obj → Prop} (h : Upd M b A A' M') : M'.map Ent.b = M.map Ent.b := by
  induction h with
  | here => rfl
  | there _ ih => simp [ih]
theorem Upd.old {M M' : List Ent} {b : Nat} {A A' : Obj → Prop} (h : Upd M b A A' M') (hn : (M.map Ent.b).Nodup) :
    ∀ e ∈ M', e = ⟨b, A', true⟩ ∨ (e ∈ M ∧ e.b ≠ b) := by
  induction h with
  | @here b A A' M =>
    intro e he
    simp only [List.mem_cons] at he
    simp only [List.map_cons, List.nodup_cons] at hn
    rcases he with rfl | he
    · exact .inl rfl
    · exact .inr ⟨by simp [he], fun h => hn.1 (h ▸ List.mem_map_of_mem he)⟩
  | @there x M b A A' M' hu ih =>
    intro e he
    simp only [List.map_cons, List.nodup_cons] at hn
    simp only [List.mem_cons] at he
    rcases he with rfl | he
    · refine .inr ⟨by simp, fun h => hn.1 ?_⟩
      rw [h]
      exact List.mem_map_of_mem hu.has.mem (f := Ent.b)
    · rcases ih hn.2 e he with h | ⟨h1, h2⟩
      · exact .inl h
      · exact .inr ⟨by simp [h1], h2⟩

section
variable {w0 : World} {S : List Nat} {M M' : List Ent} {w w' : World}

theorem Holds.lt (h : Holds w0 S M w) {e : Ent} (he : e ∈ M) : e.b < w.heap.size := by
  obtain ⟨⟨o, ho, _⟩, _⟩ := h.all e he
  by_cases hl : e.b < w.heap.size
  · exact hl
  · simp [Array.getElem?_eq_none (by omega : w.heap.size ≤ e.b)] at ho

theorem Holds.get (h : Holds w0 S M w) {b : Nat} {A : Obj → Prop} {wr : Bool} (hf : Has M b A wr) : ∃ o, w.heap[b]? = some o ∧ A o := (h.all _ hf.mem).1

theorem Holds.start (w0 : World) (S : List Nat) : Holds w0 S [] w0 := ⟨Chg.refl _ _, by simp, by simp⟩

theorem Holds.ext (h : Holds w0 S M w) (k : Ext w w') : Holds w0 S M w' := by
  refine ⟨h.chg.trans (k.mono (by simp)), h.nodup, fun e he => ⟨?_, (h.all e he).2⟩⟩
  obtain ⟨o, ho, hA⟩ := (h.all e he).1
  exact ⟨o, (k.block e.b (h.lt he) (by simp)).trans ho, hA⟩

theorem Holds.drawn (h : Holds w0 S M w) (n : Nat) : Holds w0 S M { w with drawn := n } :=
  h.ext ⟨rfl, rfl, rfl, Nat.le_refl _, fun _ _ _ => rfl⟩

theorem Holds.old (h : Holds w0 S M w) {k : Nat} (hk : k < w0.heap.size) (hS : k ∉ S) : w.heap[k]? = w0.heap[k]? := h.chg.block k hk hS

/-- M' says no more than M. -/
theorem Holds.sub (h : Holds w0 S M w) (hn : (M'.map Ent.b).Nodup) (hs : ∀ e ∈ M', e ∈ M) : Holds w0 S M' w := ⟨h.chg, hn, fun e he => h.all e (hs e he)⟩

inductive Less : List Ent → List Ent → Prop where
  | nil (N : List Ent) : Less [] N
  | keep (b : Nat) (A A' : Obj → Prop) (wr : Bool) (N N' : List Ent) : (∀ o, A o → A' o) → Less N' N → Less (⟨b, A', wr⟩ :: N') (⟨b, A, wr⟩ :: N)
  | drop (e : Ent) (N N' : List Ent) : Less N' N → Less N' (e :: N)
theorem Less.refl : ∀ N, Less N N
  | [] => .nil _
  | ⟨_, _, _⟩ :: N => .keep _ _ _ _ _ _ (fun _ h => h) (Less.refl N)
theorem Less.keys (h : Less M' M) : (M'.map Ent.b).Sublist (M.map Ent.b) := by
  induction h with
  | nil => exact List.nil_sublist _
  | keep _ _ _ _ _ _ _ _ ih => exact ih.cons_cons _
  | drop _ _ _ _ ih => exact ih.cons _
theorem Less.old (h : Less M' M) : ∀ e ∈ M', ∃ e' ∈ M, e'.b = e.b ∧ e'.wr = e.wr ∧ ∀ o, e'.A o → e.A o := by
  induction h with
  | nil => simp
  | keep b A A' wr M M' hA _ ih =>
    intro e he
    simp only [List.mem_cons] at he
    rcases he with rfl | he
    · exact ⟨⟨b, A, wr⟩, by simp, rfl, rfl, hA⟩
    · obtain ⟨e', h1, h2⟩ := ih e he
      exact ⟨e', by simp [h1], h2⟩
  | drop _ _ _ _ ih =>
    intro e he
    obtain ⟨e', h1, h2⟩ := ih e he
    exact ⟨e', by simp [h1], h2⟩
theorem Holds.weak (h : Holds w0 S M w) (hs : Less M' M) : Holds w0 S M' w := by
  refine ⟨h.chg, h.nodup.sublist hs.keys, fun e he => ?_⟩
  obtain ⟨e', h1, h2, h3, h4⟩ := hs.old e he
  obtain ⟨⟨o, ho, hA⟩, h5⟩ := h.all e' h1
  exact ⟨⟨o, h2 ▸ ho, h4 o hA⟩, fun hw => h2 ▸ h5 (h3.trans hw)⟩

/-- A new block. -/
theorem Holds.push (h : Holds w0 S M w) (o : Obj) {A : Obj → Prop} (hA : A o) (hw : w'.heap = w.heap.push o) (h1 : w'.os = w.os) (h2 : w'.tape = w.tape) (h3 : w'.output = w.output) :
    Holds w0 S (⟨w.heap.size, A, true⟩ :: M) w' := by
  have hx : Ext w w' := ⟨h1, h2, h3, by rw [hw]; simp, fun k hk _ => by rw [hw, Array.getElem?_push, if_neg (Nat.ne_of_lt hk)]⟩
  have h' := h.ext hx
  refine ⟨h'.chg, ?_, fun e he => ?_⟩
  · simp only [List.map_cons, List.nodup_cons, h.nodup, and_true]
    intro hm
    obtain ⟨e, he, hb⟩ := List.mem_map.1 hm
    have := h.lt he
    omega
  · simp only [List.mem_cons] at he
    rcases he with rfl | he
    · exact ⟨⟨o, by simp [hw], hA⟩, fun _ => .inr h.chg.size⟩
    · exact h'.all e he

/-- A block is written. -/
theorem Holds.write (h : Holds w0 S M w) {b : Nat} {A A' : Obj → Prop} (hu : Upd M b A A' M') {o' : Obj} (hA : A' o')
    (hb : w'.heap[b]? = some o') (hz : w'.heap.size = w.heap.size) (hk : ∀ k, k ≠ b → w'.heap[k]? = w.heap[k]?) (h1 : w'.os = w.os) (h2 : w'.tape = w.tape) (h3 : w'.output = w.output) :
    Holds w0 S M' w' := by
  have hin := (h.all _ hu.has.mem).2 rfl
  refine ⟨⟨h1.trans h.chg.os, h2.trans h.chg.tape, h3.trans h.chg.output, by rw [hz]; exact h.chg.size, fun k hk' hS => ?_⟩, by rw [hu.keys]; exact h.nodup, fun e he => ?_⟩
  · refine (hk k fun e => ?_).trans (h.chg.block k hk' hS)
    subst e
    rcases hin with h4 | h4
    · exact hS h4
    · simp only [] at h4; omega
  · rcases hu.old h.nodup e he with rfl | ⟨h4, h5⟩
    · exact ⟨⟨o', hb, hA⟩, fun _ => hin⟩
    · obtain ⟨⟨o, ho, hA'⟩, h6⟩ := h.all e h4
      exact ⟨⟨o, (hk _ h5).trans ho, hA'⟩, h6⟩
end

/-! ### single operations -/
def pur {α : Type} (P : Program) : Sem α → Option α
  | .pure a => some a
  | .program k => pur P (k P)
  | .mark _ k => pur P k
  | _ => none
theorem pur_run {α : Type} {P : Program} {a : α} : ∀ {s : Sem α} {w : World}, pur P s = some a → s.run P w = .ok a w
  | .pure _, w, h => by simp only [pur, Option.some.injEq] at h; subst h; rfl
  | .program k, w, h => by simp only [pur] at h; exact pur_run (s := k P) h
  | .mark _ k, w, h => by simp only [pur] at h; exact pur_run (s := k) h
  | .load .., _, h | .store .., _, h | .new .., _, h | .shape .., _, h | .freeze .., _, h | .frozen .., _, h | .getObj .., _, h | .setObj .., _, h | .choose .., _, h | .sys .., _, h | .halt .., _, h => by simp [pur] at h

/-- In every world of the class C, from every frame that E is known of, operation o yields v and leaves the world in the class. -/
structure OQ (P : Program) (n : Nat) (E : Env) (C : World → Prop) (o : Oper) (v : Value) : Prop where
  go : ∀ a, Knows n E a → ∀ w, C w → o.quietAt P a C w v

section
variable {P : Program} {n : Nat} {E : Env} {C : World → Prop} {dst : Option Tmp} {ty : TypeId} {pos : String} {aft : Array Edge} {g : Option (Nat × Bool)} {v : Value}

def evd (E : Env) (x : Operand) : Value := (ev E x).getD undef
def known (E : Env) (op : Op) : Bool := op.operands.toList.all fun x => (ev E x).isSome
def noSel : Op → Bool
  | .select .. => false
  | _ => true

theorem OQ.pure {op : Op} (hs : noSel op = true) (hk : known E op = true) (h : pur P (execOp (evd E) ⟨dst, op, ty, pos, aft, g⟩) = some (.value v)) : OQ P n E C ⟨dst, op, ty, pos, aft, g⟩ v := by
  refine ⟨fun a ha w hw => ?_⟩
  have e : execOp a.eval ⟨dst, op, ty, pos, aft, g⟩ = execOp (evd E) ⟨dst, op, ty, pos, aft, g⟩ := by
    refine execOp_congr _ (fun cs b hh => ?_) fun x hx => ?_
    · simp only [] at hh; subst hh; simp [noSel] at hs
    · simp only [known, List.all_eq_true] at hk
      have := hk x (by simpa using hx)
      obtain ⟨u, hu⟩ := Option.isSome_iff_exists.1 this
      rw [ha.eval hu, evd, hu]; rfl
  unfold Oper.quietAt
  rw [e, pur_run h]
  exact ⟨rfl, rfl⟩

theorem OQ.move {x : Operand} (hx : ev E x = some v) : OQ P n E C ⟨dst, .move x, ty, pos, aft, g⟩ v := by
  refine ⟨fun a ha w hw => ?_⟩
  have := ha.eval hx
  exact ⟨rfl, this⟩
theorem OQ.assign {x : Operand} (hx : ev E x = some v) : OQ P n E C ⟨dst, .assign x, ty, pos, aft, g⟩ v := by
  refine ⟨fun a ha w hw => ?_⟩
  have := ha.eval hx
  exact ⟨rfl, this⟩

/-- The value of one operation by hand: it yields v in every world of the class, which is left as it is. -/
theorem OQ.run {op : Op} (h : ∀ a, Knows n E a → ∀ w, C w → (execOp a.eval ⟨dst, op, ty, pos, aft, g⟩).run P w = .ok (.value v) w) : OQ P n E C ⟨dst, op, ty, pos, aft, g⟩ v := by
  refine ⟨fun a ha w hw => ?_⟩
  unfold Oper.quietAt
  rw [h a ha w hw]
  exact ⟨rfl, rfl⟩
end
end Sl
end Go.Proofs.Ytbihfhkbkcplmaa
