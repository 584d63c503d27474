/-
  Of no statement by itself: what a row's proof opens a slice of blocks, and of calls to a journal, with.
  Conditions: each theorem's own.
-/
import Derived.Test.YtkadoibacliepaaFd
import Derived.Test.YtkadoibacliepaaElm
namespace Go.Proofs.Ytkadoibacliepaa
set_option maxRecDepth 10000
open Go.ChangeShapes Go.WideShapes Go.ChangeAt Go.RowKit
open Sl Dsk
set_option linter.unusedVariables false
theorem blocks_of {H : Type} {enc : TypeId × Value → H} {W : World} {base fuel : Nat} {v : Value} {x : DataW H × List MemPlace} (hok : Value.okWide Try.prog W .any base 22 v) (h : DataW.trod enc Try.prog W 0 (fun _ => true) true fuel 22 v.cells.toList = some x) :
    ∃ k : SlE, v = k.v ∧ k.ok W := by
  obtain ⟨ad, cap, l, e, h1, h2, h3⟩ := elems_of (k := 64) (e := 83) bc (fun b => b.length = 64) (List.replicate 64 0) (by decide) (by kernel_rfl) (by kernel_rfl) (fun c hc => bc_len hc)
    (fun l fuel x hl hx => by
      obtain ⟨r, e1, e2⟩ := arr8c_of (m := 64) (by kernel_rfl) hl hx
      exact ⟨r, e1, e2⟩) hok h
  exact ⟨⟨ad, cap, l⟩, e, ⟨h1, h2, h3⟩⟩
theorem calls15_of {H : Type} {enc : TypeId × Value → H} {W : World} {base fuel : Nat} {v : Value} {x : DataW H × List MemPlace} (hok : Value.okWide Try.prog W .any base 23 v) (h : DataW.trod enc Try.prog W 0 (fun _ => true) true fuel 23 v.cells.toList = some x) :
    ∃ k : SlD, v = k.v ∧ k.ok W := by
  obtain ⟨ad, cap, l, e, h1, h2, h3⟩ := elems_of (k := 3) (e := 33) CallD.cs (fun c => c.b.ok W) noCallD (by decide) (by kernel_rfl) (by kernel_rfl) (fun c _ => rfl)
    (fun l fuel x hl hx => by
      obtain ⟨n, g⟩ := fieldsW (nf := 3) (by kernel_rfl) (by kernel_rfl) hx
      have c0 : Try.prog.cellsOf 3 = 1 := by kernel_rfl
      have c1 : Try.prog.cellsOf 31 = 1 := by kernel_rfl
      have hi : Try.prog.underlying 3 = some (.int .i64) := by kernel_rfl
      obtain ⟨y0, g0⟩ := g (i := 0) (ty := 3) (off := 0) (by kernel_rfl) (by decide)
      obtain ⟨y1, g1⟩ := g (i := 1) (ty := 3) (off := 1) (by kernel_rfl) (by decide)
      obtain ⟨y2, g2⟩ := g (i := 2) (ty := 31) (off := 2) (by kernel_rfl) (by decide)
      rw [c0] at g0 g1
      rw [c1] at g2
      obtain ⟨z0, q0, _, _⟩ := DataW.trod_int hi g0
      obtain ⟨z1, q1, _, _⟩ := DataW.trod_int hi g1
      obtain ⟨v, hv, _⟩ := one_of (off := 2) (by omega : 2 < l.length)
      rw [hv] at g2
      obtain ⟨k, rfl, hk, _⟩ := sl8_of g2
      refine ⟨⟨z0, z1, k⟩, ?_, hk⟩
      match l, hl, q0, q1, hv with
      | [a, b, c], _, q0, q1, hv =>
        simp at q0 q1 hv
        rw [q0, q1, hv]
        rfl) hok h
  exact ⟨⟨ad, cap, l⟩, e, ⟨h1, h2, h3⟩⟩
end Go.Proofs.Ytkadoibacliepaa
