/-
  Of no statement by itself: slices of pairs of strings (fields, parameters) as arguments and as answers.
  Conditions: each theorem's own.
-/
import Derived.Test.YtkadoibacliepaaTyp
import Derived.Test.YtkadoibacliepaaSlp
import Derived.Laws.StructEq
namespace Go.Proofs.Ytkadoibacliepaa
set_option maxRecDepth 10000
open Sl
abbrev Pr := List Bt × List Bt
def pc (p : Pr) : List Value := [Z p.1, Z p.2]
structure Sl2 where
  ad : Option Addr
  cap : Nat
  l : List Pr
def Sl2.cells (s : Sl2) : List Value := s.l.flatMap pc
def Sl2.v (s : Sl2) : Value := .slice s.ad s.l.length s.cap
structure Sl2.ok (w : World) (s : Sl2) : Prop where
  len : s.l.length ≤ s.cap
  reads : Reads w s.ad s.cells
theorem Sl2.ok.holds {w0 w : World} {S : List Nat} {M : List Ent} {s : Sl2} (h : s.ok w0) (hw : Holds w0 S M w) (hS : S = []) : s.ok w := ⟨h.len, hw.reads h.reads (fun _ a _ => by rw [hS]; simp)⟩
theorem Sl2.ok.ext {w w' : World} {s : Sl2} (h : s.ok w) (hx : Ext w w') : s.ok w' := h.holds (⟨hx, by simp, by simp⟩ : Holds w [] [] w') rfl
def nil2 : Sl2 := ⟨none, 0, []⟩
theorem nil2_ok (w : World) : nil2.ok w := ⟨by simp [nil2], Reads.nil _ _⟩
theorem pc_at : ∀ (l : List Pr) {i : Nat}, i < l.length → (l.flatMap pc)[2 * i]? = some (Z (l.getD i ([], [])).1) ∧ (l.flatMap pc)[2 * i + 1]? = some (Z (l.getD i ([], [])).2)
  | [], i, h => by simp at h
  | p :: l, 0, _ => ⟨rfl, rfl⟩
  | p :: l, i + 1, h => by
    have := pc_at l (i := i) (by simpa using h)
    simp only [List.flatMap_cons, List.getD_cons_succ]
    rw [show 2 * (i + 1) = 2 * i + 2 by omega]
    exact this
theorem pc_len (l : List Pr) : (l.flatMap pc).length = 2 * l.length := by
  induction l with
  | nil => rfl
  | cons p l ih => simp only [List.flatMap_cons, List.length_append, ih, List.length_cons]; show 2 + _ = _; omega
/-- where a pair stands -/
theorem Sl2.ok.at {w : World} {s : Sl2} (h : s.ok w) {i : Nat} (hi : i < s.l.length) : ∃ b j, s.ad = some ⟨b, j, none⟩ ∧ b < w.heap.size ∧ w.cell? ⟨b, j + i * 2, none⟩ = some (Z (s.l.getD i ([], [])).1) ∧ w.cell? ⟨b, j + i * 2 + 1, none⟩ = some (Z (s.l.getD i ([], [])).2) := by
  obtain ⟨h1, h2⟩ := pc_at s.l hi
  obtain ⟨b, j, e1, c1⟩ := h.reads _ _ h1
  obtain ⟨b', j', e2, c2⟩ := h.reads _ _ h2
  rw [e1] at e2
  cases e2
  exact ⟨b, j, e1, block_lt_of_cell c1, by rw [Nat.mul_comm]; exact c1, by rw [Nat.mul_comm, Nat.add_assoc]; exact c2⟩
theorem pair_cells {w : World} {b j : Nat} {p : Pr} (h1 : w.cell? ⟨b, j, none⟩ = some (Z p.1)) (h2 : w.cell? ⟨b, j + 1, none⟩ = some (Z p.2)) : ∀ i u, (pc p)[i]? = some u → w.cell? ⟨b, j + i, none⟩ = some u := by
  intro i u hu
  match i with
  | 0 => cases hu; exact h1
  | 1 => cases hu; exact h2
  | i + 2 => simp [pc] at hu
/-- equality of pairs -/
def EqP (P : Program) (t : TypeId) : Prop := P.eqGuardType P.depth t = false ∧ ∀ (p q : Pr) (w : World), (Op.equalIn 10000 t (.agg (pc p).toArray) (.agg (pc q).toArray)).run P w = .ok (decide (p = q)) w
def pairT (P : Program) (t str : TypeId) : Bool := match (P.fieldsOf t).toList with
  | [f0, f1] => f0.type == str && f1.type == str && f0.offset == 0 && f1.offset == 1 && f0.name != "_" && f1.name != "_"
  | _ => false
theorem eqP_of {P : Program} {t str : TypeId} (ht : P.underlying t = some (.struct (P.fieldsOf t))) (hp : P.stoodInHeld t = false) (hg : P.eqGuardType P.depth t = false) (hf : pairT P t str = true) (hs : P.underlying str = some .string) (hc : scal P str = true) : EqP P t := by
  obtain ⟨f0, f1, hf, h0, h1, o0, o1, b0, b1⟩ : ∃ f0 f1, (P.fieldsOf t).toList = [f0, f1] ∧ f0.type = str ∧ f1.type = str ∧ f0.offset = 0 ∧ f1.offset = 1 ∧ ¬ f0.name = "_" ∧ ¬ f1.name = "_" := by
    unfold pairT at hf
    split at hf
    · next f0 f1 e =>
      simp only [Bool.and_eq_true, beq_iff_eq, bne_iff_ne, ne_eq] at hf
      exact ⟨f0, f1, e, hf.1.1.1.1.1, hf.1.1.1.1.2, hf.1.1.1.2, hf.1.1.2, hf.1.2, hf.2⟩
    · cases hf
  refine ⟨hg, fun p q w => ?_⟩
  rw [run_equalIn_struct w 9999 t _ _ ht hp, hf]
  have e1 : ∀ (a b : List Bt) (w : World), (Op.equalIn 9999 str (.string (strB a)) (.string (strB b))).run P w = .ok (decide (a = b)) w := fun a b w => by
    rw [show (9999 : Nat) = 9998 + 1 from rfl, run_equalIn_string w 9998 str (strB a) (strB b) hs, strB_eq]
  have pa : ∀ (x y : Value) w, (part str #[x, y] 0).run P w = .ok x w := fun x y w => by simp [part, isAgg_scal hc]
  have pb : ∀ (x y : Value) w, (part str #[x, y] 1).run P w = .ok y w := fun x y w => by simp [part, isAgg_scal hc]
  simp only [Op.eqFields, h0, h1, o0, o1, b0, b1, ne_eq, not_false_eq_true, if_true, pc, Sem.run_bind, pa, pb, Result.andThen_ok, e1]
  by_cases c1 : p.1 = q.1 <;> by_cases c2 : p.2 = q.2 <;> simp [c1, c2, Prod.ext_iff, pb, e1]
section
variable {P : Program} {n : Nat} {E : Env} {C : World → Prop} {dst : Option Tmp} {t t' ty : TypeId} {pos : String} {aft : Array Edge} {g : Option (Nat × Bool)} {x y : Operand} {p q : Pr}
theorem OQ.eqP {c : Bool} (he : EqP P t) (hx : ev E x = some (.agg (pc p).toArray)) (hy : ev E y = some (.agg (pc q).toArray)) (h : decide (p = q) = c) : OQ P n E C ⟨dst, .binOp .eql t x y t', ty, pos, aft, g⟩ (.bool c) :=
  OQ.run fun a ha w _ => by
    have h1 := ha.eval hx
    have h2 := ha.eval hy
    have h4 := fun w => run_eqGuard_agg (P := P) (w := w) .eql t x y (pc p).toArray (pc q).toArray he.1
    have h5 := fun w => run_eql_struct (P := P) (w := w) t (pc p).toArray (pc q).toArray
    simp only [execOp, h1, h2, Sem.run_bind, h4, Result.andThen_ok, h5, he.2, h]
    rfl
theorem OQ.neP {c : Bool} (he : EqP P t) (hx : ev E x = some (.agg (pc p).toArray)) (hy : ev E y = some (.agg (pc q).toArray)) (h : decide (p = q) = c) : OQ P n E C ⟨dst, .binOp .neq t x y t', ty, pos, aft, g⟩ (.bool (!c)) :=
  OQ.run fun a ha w _ => by
    have h1 := ha.eval hx
    have h2 := ha.eval hy
    have h4 := fun w => run_eqGuard_agg (P := P) (w := w) .neq t x y (pc p).toArray (pc q).toArray he.1
    have h5 := fun w => run_neq_struct (P := P) (w := w) t (pc p).toArray (pc q).toArray
    simp only [execOp, h1, h2, Sem.run_bind, h4, Result.andThen_ok, h5, he.2, h]
    rfl
end
theorem strC : scal Try.prog 9 = true := by kernel_rfl
theorem strS : szT Try.prog 9 = some 1 := by kernel_rfl
theorem eq_take {l r : List Pr} {i : Nat} (hl : i < l.length) (hr : i < r.length) (h : l.take i = r.take i) (k : l.getD i ([], []) = r.getD i ([], [])) : l.take (i + 1) = r.take (i + 1) := by
  rw [List.take_add_one, List.take_add_one, h]
  rw [List.getD_eq_getElem?_getD, List.getD_eq_getElem?_getD, List.getElem?_eq_getElem hl, List.getElem?_eq_getElem hr] at k
  rw [List.getElem?_eq_getElem hl, List.getElem?_eq_getElem hr]
  simp only [Option.getD_some] at k
  rw [k]
def small2 (a : Sl2) : Prop := ∀ p ∈ a.l, p.1.length < 9223372036854775808 ∧ p.2.length < 9223372036854775808
theorem mem_getD {l : List Pr} {i : Nat} (h : i < l.length) : l.getD i ([], []) ∈ l := by
  rw [List.getD_eq_getElem?_getD, List.getElem?_eq_getElem h]
  exact List.getElem_mem h
end Go.Proofs.Ytkadoibacliepaa
