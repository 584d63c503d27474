/-
  Of no statement by itself: parts of strings (x[i:], x[:j], x[i:j]); for any program P.
  Conditions: each rule's own hypotheses.
-/
import Derived.Test.YtkadoibacliepaaSlq
import Derived.Laws.Slices
import Derived.Laws.Strings2
namespace Go.Proofs.Ytkadoibacliepaa
namespace Sl
theorem strB_extract (l : List Bt) (i j : Nat) : (strB l).extract i j = strB ((l.take j).drop i) := by
  apply ByteArray.ext
  rw [ByteArray.data_extract]
  show (l.map UInt8.ofBitVec).toArray.extract i j = (((l.take j).drop i).map UInt8.ofBitVec).toArray
  rw [List.extract_toArray, List.extract_eq_drop_take', List.map_drop, List.map_take]
section
variable {P : Program} {n : Nat} {E : Env} {C : World → Prop} {dst : Option Tmp} {t ty : TypeId} {pos : String} {aft : Array Edge} {g : Option (Nat × Bool)} {x y z : Operand} {l : List Bt}
theorem OQ.subS_lo {i : Nat} (hu : P.underlying t = some .string) (hx : ev E x = some (Z l)) (hy : ev E y = some (N i)) (h : i ≤ l.length) : OQ P n E C ⟨dst, .slice t x (some y) none none, ty, pos, aft, g⟩ (Z (l.drop i)) :=
  OQ.run fun a ha w _ => by
    have h1 := ha.eval hx
    have h2 := ha.eval hy
    have h3 : (underlying t).run P w = .ok .string w := run_underlying hu w
    have h4 := run_slice_string_l w t (strB l) hu .i64 (i : Int) (by omega) (by rw [strB_size]; omega)
    rw [strB_size, strB_extract, List.take_length, Int.toNat_natCast] at h4
    simp [execOp, h1, h2, Instr.sliceAt, Sem.run_bind, h3, h4]
theorem OQ.subS_hi {j : Nat} (hu : P.underlying t = some .string) (hx : ev E x = some (Z l)) (hy : ev E y = some (N j)) (h : j ≤ l.length) : OQ P n E C ⟨dst, .slice t x none (some y) none, ty, pos, aft, g⟩ (Z (l.take j)) :=
  OQ.run fun a ha w _ => by
    have h1 := ha.eval hx
    have h2 := ha.eval hy
    have h3 : (underlying t).run P w = .ok .string w := run_underlying hu w
    have h4 := run_slice_string_h w t (strB l) hu .i64 (j : Int) (by omega) (by rw [strB_size]; omega)
    rw [strB_extract, List.drop_zero, Int.toNat_natCast] at h4
    simp [execOp, h1, h2, Instr.sliceAt, Sem.run_bind, h3, h4]
theorem OQ.subS {i j : Nat} (hu : P.underlying t = some .string) (hx : ev E x = some (Z l)) (hy : ev E y = some (N i)) (hz : ev E z = some (N j)) (h : i ≤ j) (h' : j ≤ l.length) : OQ P n E C ⟨dst, .slice t x (some y) (some z) none, ty, pos, aft, g⟩ (Z ((l.take j).drop i)) :=
  OQ.run fun a ha w _ => by
    have h1 := ha.eval hx
    have h2 := ha.eval hy
    have h5 := ha.eval hz
    have h3 : (underlying t).run P w = .ok .string w := run_underlying hu w
    have h4 := run_slice_string w t (strB l) .i64 .i64 (i : Int) (j : Int) hu (by omega) (by omega) (by rw [strB_size]; omega)
    rw [strB_extract, Int.toNat_natCast, Int.toNat_natCast] at h4
    simp [execOp, h1, h2, h5, Instr.sliceAt, Sem.run_bind, h3, h4]
end
end Sl
end Go.Proofs.Ytkadoibacliepaa
