/-
  Of no statement by itself: two marks compared; slices of a block's bytes.
  Conditions: each theorem's own.
-/
import Derived.Test.YtopdkpeahhnihaaJrnA
import Derived.Test.YtopdkpeahhnihaaDskL
import Derived.Laws.StructEq
namespace Go.Proofs.Ytopdkpeahhnihaa
set_option maxRecDepth 10000
open Sl Dsk Jrn
section
variable {n : Nat} {E : Env} {C : World → Prop} {dst : Option Tmp} {t t' e ty : TypeId} {pos : String} {aft : Array Edge} {g : Option (Nat × Bool)} {x y z : Operand}
theorem gdMk : Try.prog.eqGuardType Try.prog.depth 109 = false := by kernel_rfl
set_option maxHeartbeats 4000000 in
theorem OQ.neM {m m' : Mk} {r : Bool} (hx : ev E x = some (.agg (mkc m).toArray)) (hy : ev E y = some (.agg (mkc m').toArray)) (h : decide (m = m') = r) :
    OQ Try.prog n E C ⟨dst, .binOp .neq 109 x y t', ty, pos, aft, g⟩ (.bool (!r)) :=
  OQ.run fun k hk w _ => by
    have e1 := hk.eval hx
    have e2 := hk.eval hy
    have h4 := fun w => run_eqGuard_agg (P := Try.prog) (w := w) .neq 109 x y (mkc m).toArray (mkc m').toArray gdMk
    have h5 := fun w => run_neq_struct (P := Try.prog) (w := w) 109 (mkc m).toArray (mkc m').toArray
    have hf : Try.prog.fieldsOf 109 = match Try.prog.underlying 109 with | some (.struct fs) => fs | _ => #[] := by kernel_rfl
    have ei : ∀ (k : IntKind) (t : TypeId) (a b : Int) (w : World), Try.prog.underlying t = some (.int k) → (Op.equalIn 9999 t (.int k a) (.int k b)).run Try.prog w = .ok (a == b) w := fun k t a b w ht => run_equalIn_int (w := w) 9998 t k k a b ht
    have eb : ∀ (a b : Bool) (w : World), (Op.equalIn 9999 4 (.bool a) (.bool b)).run Try.prog w = .ok (a == b) w := fun a b w => run_equalIn_bool w 9998 _ a b Try.underlying4
    have p0 : ∀ (a b c d : Value) w, (part 84 #[a, b, c, d] 0).run Try.prog w = .ok a w := fun a b c d w => by simp [part, isAgg_scal u32C]
    have p1 : ∀ (a b c d : Value) w, (part 84 #[a, b, c, d] 1).run Try.prog w = .ok b w := fun a b c d w => by simp [part, isAgg_scal u32C]
    have p2 : ∀ (a b c d : Value) w, (part 107 #[a, b, c, d] 2).run Try.prog w = .ok c w := fun a b c d w => by simp [part, isAgg_scal u16C]
    have p3 : ∀ (a b c d : Value) w, (part 4 #[a, b, c, d] 3).run Try.prog w = .ok d w := fun a b c d w => by simp [part, isAgg_scal boolC]
    have h3 : (Op.equalIn 10000 109 (.agg (mkc m).toArray) (.agg (mkc m').toArray)).run Try.prog w = .ok r w := by
      rw [show (10000 : Nat) = 9999 + 1 from rfl, run_equalIn_struct (w := w) 9999 _ _ _ (by kernel_rfl) (by kernel_rfl), hf, Try.underlying109]
      subst h
      obtain ⟨g1, r1, q1, l1⟩ := m
      obtain ⟨g2, r2, q2, l2⟩ := m'
      have d1 : ((g1.toNat : Int) == (g2.toNat : Int)) = decide (g1 = g2) := by
        rw [Bool.eq_iff_iff, beq_iff_eq, decide_eq_true_eq]
        exact ⟨fun h => BitVec.eq_of_toNat_eq (by omega), fun h => by rw [h]⟩
      have d2 : ((r1.toNat : Int) == (r2.toNat : Int)) = decide (r1 = r2) := by
        rw [Bool.eq_iff_iff, beq_iff_eq, decide_eq_true_eq]
        exact ⟨fun h => BitVec.eq_of_toNat_eq (by omega), fun h => by rw [h]⟩
      have d3 : ((q1.toNat : Int) == (q2.toNat : Int)) = decide (q1 = q2) := by
        rw [Bool.eq_iff_iff, beq_iff_eq, decide_eq_true_eq]
        exact ⟨fun h => BitVec.eq_of_toNat_eq (by omega), fun h => by rw [h]⟩
      simp only [mkc, U32, U16, Op.eqFields, Sem.run_bind, p0, p1, p2, p3, Result.andThen_ok]
      by_cases c1 : g1 = g2 <;> by_cases c2 : r1 = r2 <;> by_cases c3 : q1 = q2 <;> by_cases c4 : l1 = l2 <;> simp [c1, c2, c3, c4, d1, d2, d3, ei _ _ _ _ _ Try.underlying84, ei _ _ _ _ _ Try.underlying107, eb, p0, p1, p2, p3, Op.eqFields, Sem.run_bind]
    simp only [execOp, e1, e2, Sem.run_bind, h4, Result.andThen_ok, h5, h3]
    rfl
end
end Go.Proofs.Ytopdkpeahhnihaa
