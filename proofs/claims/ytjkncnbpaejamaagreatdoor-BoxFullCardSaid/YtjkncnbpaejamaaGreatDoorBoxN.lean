/-
  Of no statement by itself: what a row's proof opens a slice of calls to a box with.
  Conditions: each theorem's own.
-/
import Derived.Test.YtjkncnbpaejamaaGreatDoorYe
import Derived.Test.YtjkncnbpaejamaaGreatDoorElm
namespace Go.Proofs.YtjkncnbpaejamaaGreatDoor
set_option maxRecDepth 10000
open Go.ChangeShapes Go.WideShapes Go.ChangeAt Go.RowKit
open Sl Dsk
set_option linter.unusedVariables false
theorem calls17_of {H : Type} {enc : TypeId × Value → H} {W : World} {base fuel : Nat} {v : Value} {x : DataW H × List MemPlace} (hok : Value.okWide Tryz.prog W .any base 22 v) (h : DataW.trod enc Tryz.prog W 0 (fun _ => true) true fuel 22 v.cells.toList = some x) :
    ∃ k : SlH, v = k.v ∧ k.ok W := by
  obtain ⟨ad, cap, l, e, h1, h2, h3⟩ := elems_of (k := 5) (e := 26) CallH.cs (fun c => c.ok W) noCallH (by decide) (by kernel_rfl) (by kernel_rfl) (fun c _ => rfl)
    (fun l fuel x hl hx => by
      obtain ⟨n, g⟩ := fieldsW (nf := 5) (by kernel_rfl) (by kernel_rfl) hx
      have c0 : Tryz.prog.cellsOf 3 = 1 := by kernel_rfl
      have c1 : Tryz.prog.cellsOf 24 = 1 := by kernel_rfl
      have c2 : Tryz.prog.cellsOf 9 = 1 := by kernel_rfl
      have hi : Tryz.prog.underlying 3 = some (.int .i64) := by kernel_rfl
      have hs : Tryz.prog.underlying 9 = some .string := by kernel_rfl
      obtain ⟨y0, g0⟩ := g (i := 0) (ty := 3) (off := 0) (by kernel_rfl) (by decide)
      obtain ⟨y1, g1⟩ := g (i := 1) (ty := 3) (off := 1) (by kernel_rfl) (by decide)
      obtain ⟨y2, g2⟩ := g (i := 2) (ty := 3) (off := 2) (by kernel_rfl) (by decide)
      obtain ⟨y3, g3⟩ := g (i := 3) (ty := 9) (off := 3) (by kernel_rfl) (by decide)
      obtain ⟨y4, g4⟩ := g (i := 4) (ty := 24) (off := 4) (by kernel_rfl) (by decide)
      rw [c0] at g0 g1 g2
      rw [c2] at g3
      rw [c1] at g4
      obtain ⟨z0, q0, _, _⟩ := DataW.trod_int hi g0
      obtain ⟨z1, q1, _, w1⟩ := DataW.trod_int hi g1
      obtain ⟨z2, q2, _, _⟩ := DataW.trod_int hi g2
      obtain ⟨z3, q3, _, w3⟩ := DataW.trod_string hs g3
      obtain ⟨v, hv, _⟩ := one_of (off := 4) (by omega : 4 < l.length)
      rw [hv] at g4
      obtain ⟨k, rfl, hk, _⟩ := sl8_of g4
      have hz : Value.string z3 = Z (bytesOf z3) := by show _ = Value.string _; rw [strB_bytesOf]
      have hw1 : -9223372036854775808 ≤ z1 ∧ z1 ≤ 9223372036854775807 := by
        have h : (decide (IntKind.i64.min ≤ z1) && decide (z1 ≤ IntKind.i64.max)) = true := w1
        rw [Bool.and_eq_true, decide_eq_true_eq, decide_eq_true_eq, show IntKind.i64.min = -9223372036854775808 from rfl, show IntKind.i64.max = 9223372036854775807 from rfl] at h
        exact h
      have hw3 : (bytesOf z3).length < 9223372036854775808 := by
        rw [bytesOf_length]
        have : maxLen < 9223372036854775808 := by decide
        omega
      refine ⟨⟨z0, z1, z2, bytesOf z3, k⟩, ?_, hw1, hw3, hk⟩
      match l, hl, q0, q1, q2, q3, hv with
      | [a, b, c, d, e], _, q0, q1, q2, q3, hv =>
        simp at q0 q1 q2 q3 hv
        rw [q0, q1, q2, q3, hv, hz]
        rfl) hok h
  exact ⟨⟨ad, cap, l⟩, e, ⟨h1, h2, h3⟩⟩
end Go.Proofs.YtjkncnbpaejamaaGreatDoor
