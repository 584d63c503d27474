/-
  Of no statement by itself: comparisons whose answers were told apart ahead of the walk; and small rules; for any program P.
  Conditions: each rule's own hypotheses.
-/
import Derived.Test.YtbihfhkbkcplmaaSlr
import Derived.Test.YtbihfhkbkcplmaaSls
import Derived.Test.YtbihfhkbkcplmaaSli
namespace Go.Proofs.Ytbihfhkbkcplmaa
namespace Sl
section
variable {P : Program} {n : Nat} {E : Env} {C : World → Prop} {dst : Option Tmp} {t t' ty : TypeId} {pos : String} {aft : Array Edge} {g : Option (Nat × Bool)} {x y : Operand} {c : Bool}
theorem OQ.lssB {k : IntKind} {a b : Int} (hx : ev E x = some (.int k a)) (hy : ev E y = some (.int k b)) (h : decide (a < b) = c) : OQ P n E C ⟨dst, .binOp .lss t x y t', ty, pos, aft, g⟩ (.bool c) := OQ.bin hx hy rfl fun _ => by cases k <;> exact okBool h
theorem OQ.leqB {k : IntKind} {a b : Int} (hx : ev E x = some (.int k a)) (hy : ev E y = some (.int k b)) (h : decide (a ≤ b) = c) : OQ P n E C ⟨dst, .binOp .leq t x y t', ty, pos, aft, g⟩ (.bool c) := OQ.bin hx hy rfl fun _ => by cases k <;> exact okBool h
theorem OQ.gtrB {k : IntKind} {a b : Int} (hx : ev E x = some (.int k a)) (hy : ev E y = some (.int k b)) (h : decide (b < a) = c) : OQ P n E C ⟨dst, .binOp .gtr t x y t', ty, pos, aft, g⟩ (.bool c) := OQ.bin hx hy rfl fun _ => by cases k <;> exact okBool h
theorem OQ.geqB {k : IntKind} {a b : Int} (hx : ev E x = some (.int k a)) (hy : ev E y = some (.int k b)) (h : decide (b ≤ a) = c) : OQ P n E C ⟨dst, .binOp .geq t x y t', ty, pos, aft, g⟩ (.bool c) := OQ.bin hx hy rfl fun _ => by cases k <;> exact okBool h
theorem OQ.eqB {k : IntKind} {a b : Int} (hx : ev E x = some (.int k a)) (hy : ev E y = some (.int k b)) (h : decide (a = b) = c) : OQ P n E C ⟨dst, .binOp .eql t x y t', ty, pos, aft, g⟩ (.bool c) := h ▸ OQ.eqi hx hy
theorem OQ.neB {k : IntKind} {a b : Int} (hx : ev E x = some (.int k a)) (hy : ev E y = some (.int k b)) (h : decide (a = b) = c) : OQ P n E C ⟨dst, .binOp .neq t x y t', ty, pos, aft, g⟩ (.bool (!c)) := by
  have := OQ.nei (P := P) (n := n) (C := C) (dst := dst) (ty := ty) (t := t) (t' := t') (pos := pos) (aft := aft) (g := g) hx hy
  rw [h] at this
  exact this
theorem OQ.ne8B {a b : BitVec 8} (hx : ev E x = some (U8 a)) (hy : ev E y = some (U8 b)) (h : decide (a = b) = c) : OQ P n E C ⟨dst, .binOp .neq t x y t', ty, pos, aft, g⟩ (.bool (!c)) := by
  have := OQ.ne8 (P := P) (n := n) (C := C) (dst := dst) (ty := ty) (t := t) (t' := t') (pos := pos) (aft := aft) (g := g) hx hy
  rw [h] at this
  exact this
theorem OQ.notB {b : Bool} (hx : ev E x = some (.bool b)) (h : (!b) = c) : OQ P n E C ⟨dst, .unOp .not t x, ty, pos, aft, g⟩ (.bool c) := h ▸ OQ.not hx
/-- a call whose answer was told apart -/
theorem OQ.callb {w0 : World} {S : List Nat} {M : List Ent} {f : FuncId} {xs : List Operand} {ats : Array TypeId} {vs : List Value} {b : Bool} (hg : Goes P f) (hx : evs E xs = some vs) (hc : ∀ w, Calls P f vs.toArray w fun e w' => e = .returned (.bool b) ∧ Ext w w') (h : b = c) :
    OQ P n E (Holds w0 S M) ⟨dst, .call ⟨.value (.func f), xs.toArray, ats⟩, ty, pos, aft, g⟩ (.bool c) := h ▸ OQ.callx hg hx fun w _ => hc w
end
theorem JC.joinB {P : Program} {n : Nat} {w0 : World} {S : List Nat} {Q Q' : Exit → Act → World → Prop} {E : Env} {M : List Ent} {ι : Type} {id : Nat} (Ei : ι → Env) (Mi : ι → List Ent) (I : ι → Prop) {p q : Code} (h : JC P n w0 S (Exit.inBlock id (Exit.then (fun a' w' => ∃ i, I i ∧ Knows n (Ei i) a' ∧ Holds w0 S (Mi i) w') Q)) p E M)
    (k : ∀ i, I i → JC P n w0 S Q' q (Ei i) (Mi i)) : JC P n w0 S (Exit.inBlock id (Exit.then (q.wp P Q') Q)) p E M :=
  ⟨fun a w ha hw => wp_mono (h.go a w ha hw) fun e a' w' he => by
    cases e with
    | normal => obtain ⟨i, hi, h1, h2⟩ := he; exact (k i hi).go a' w' h1 h2
    | exit id' =>
      by_cases hid : id' = id
      · subst hid
        have he : (if id' = id' then (Exit.then (fun a' w' => ∃ i, I i ∧ Knows n (Ei i) a' ∧ Holds w0 S (Mi i) w') Q) .normal a' w' else _) := he
        rw [if_pos rfl] at he
        obtain ⟨i, hi, h1, h2⟩ := he
        show (if id' = id' then _ else _)
        rw [if_pos rfl]
        exact (k i hi).go a' w' h1 h2
      · have he : (if id' = id then _ else (Exit.then _ Q) (.exit id') a' w') := he
        rw [if_neg hid] at he
        show (if id' = id then _ else _)
        rw [if_neg hid]
        exact he
    | goto _ => exact he
    | ret => exact he
    | panic _ => exact he
    | outgrown => exact he⟩
/-- what is known, to be read alone -/
def ro (M : List Ent) : List Ent := M.map fun e => ⟨e.b, e.A, false⟩
theorem ro_holds {w0 w : World} {S : List Nat} {M : List Ent} (h : Holds w0 S M w) : Holds w [] (ro M) w := by
  refine ⟨Chg.refl _ _, ?_, fun e he => ?_⟩
  · have e : (ro M).map Ent.b = M.map Ent.b := by simp [ro, Function.comp_def]
    rw [e]; exact h.nodup
  · obtain ⟨e', he', rfl⟩ := List.mem_map.1 he
    exact ⟨(h.all e' he').1, fun h => by cases h⟩
/-- a call behind which the world that it left is the new beginning; what is known is kept, to be read -/
theorem JL.callr {P : Program} {n : Nat} {w0 : World} {S : List Nat} {ops : Array Oper} {Q : Exit → Act → World → Prop} {l : List Oper} {E : Env} {M : List Ent} {d : Nat} {ty : TypeId} {pos : String} {aft : Array Edge} {ι : Type} (vf : ι → Value) (F : ι → World → Prop)
    {f : FuncId} {xs : List Operand} {ats : Array TypeId} {vs : List Value} (hg : Goes P f) (hx : evs E xs = some vs) (hd : Nat.blt d n = true)
    (hc : ∀ w1, Holds w0 S M w1 → Calls P f vs.toArray w1 fun e w2 => ∃ i, e = .returned (vf i) ∧ Ext w1 w2 ∧ F i w2)
    (k : ∀ i w1, Holds w0 S M w1 → F i w1 → JL P n w1 [] ops Q l ((d, vf i) :: E) (ro M)) : JL P n w0 S ops Q (⟨some d, .call ⟨.value (.func f), xs.toArray, ats⟩, ty, pos, aft, none⟩ :: l) E M :=
  ⟨fun a w ha hw => wpList_plain rfl fun K hK => by
    unfold Oper.wp
    rw [exec_call hg ha hx w]
    exact (hc w hw).mono fun e w' ⟨i, h1, h2, h3⟩ => by
      subst h1
      exact hK _ _ ((k i w' (hw.ext h2) h3).go _ _ (ha.put d _ hd) (ro_holds (hw.ext h2)))⟩
/-- all of the first ones, one more -/
theorem all_take {α : Type} (p : α → Bool) (l : List α) (d : α) {i : Nat} (h : i < l.length) : (l.take (i + 1)).all p = ((l.take i).all p && p (l.getD i d)) := by
  rw [List.take_add_one, List.getD_eq_getElem?_getD, List.getElem?_eq_getElem h, List.all_append]
  simp only [Option.toList_some, Option.getD_some, List.all_cons, List.all_nil, Bool.and_true]
theorem all_bad {α : Type} (p : α → Bool) (l : List α) (d : α) {i : Nat} (h : i < l.length) (hb : p (l.getD i d) = false) : l.all p = false := by
  rw [List.all_eq_false]
  refine ⟨l.getD i d, ?_, by rw [hb]; decide⟩
  rw [List.getD_eq_getElem?_getD, List.getElem?_eq_getElem h]
  exact List.getElem_mem h
end Sl
end Go.Proofs.Ytbihfhkbkcplmaa
