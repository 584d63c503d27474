/-
  Of no statement by itself: what a plain row's proof opens its arguments with (keys and bytes).
  Conditions: each theorem's own.
-/
import Derived.Test.YtmbabkigjckaaaaProg
import Derived.Test.YtmbabkigjckaaaaRows
import Derived.Test.YtmbabkigjckaaaaSli
import Derived.ProofKit
import Derived.OpenShut
import Derived.Below
import Derived.Stop.Joined
namespace Go.Proofs.Ytmbabkigjckaaaa
open Go.ChangeShapes Go.WideShapes Go.ChangeAt Go.RowKit
open Sl
set_option linter.unusedVariables false
theorem ownQ : ownKnob Try.prog.godebug = none := by kernel_rfl
theorem laidOutQ : laidOutB Try.prog = true := by kernel_rfl
theorem u8_of {z : Int} (h : (Lit.int .u8 z).wf = true) : U8 (BitVec.ofInt 8 z) = .int .u8 z := by
  have h0 : 0 ≤ z ∧ z ≤ 255 := by
    have h1 : (decide (0 ≤ z) && decide (z ≤ 255)) = true := h
    simpa using h1
  have h2 : ((BitVec.ofInt 8 z).toNat : Int) = z := by
    rw [BitVec.toNat_ofInt]
    omega
  unfold U8
  rw [h2]
theorem arr8_of {H : Type} {enc : TypeId × Value → H} {W : World} {base fuel m : Nat} {t : TypeId} (hu : Try.prog.underlying t = some (.array m 5)) (hc : Try.prog.cellsOf t = m) {v : Value} {x : DataW H × List MemPlace} (hok : Value.okWide Try.prog W .any base t v) (h : DataW.trod enc Try.prog W 0 (fun _ => true) true fuel t v.cells.toList = some x) :
    ∃ r : List (BitVec 8), v = .agg (r.map U8).toArray ∧ r.length = m := by
  obtain ⟨xs, m', _, ex, _, hl, hel⟩ := DataW.trod_array hu h
  have c5 : Try.prog.cellsOf 5 = 1 := by kernel_rfl
  simp only [Value.okWide, hu] at hok
  obtain ⟨cs, rfl, hsz, _⟩ := hok
  rw [hc] at hsz
  have hk : ∀ i, ∃ k : BitVec 8, i < m → cs[i]? = some (U8 k) := by
    intro i
    by_cases hi : i < m
    · have h1 := hel i hi
      rw [c5, Nat.mul_one, List.getElem?_eq_getElem (by omega)] at h1
      obtain ⟨z, e1, e2, hw⟩ := DataW.trod_int (show Try.prog.underlying 5 = some (.int .u8) by kernel_rfl) h1
      refine ⟨BitVec.ofInt 8 z, fun _ => ?_⟩
      have h0 : ((cs.toList.drop i).take 1)[0]? = some (.int .u8 z) := by
        have : (Value.agg cs).cells = cs := rfl
        rw [this] at e1
        rw [e1]; rfl
      rw [u8_of hw]
      simpa using h0
    · exact ⟨0, fun h => absurd h hi⟩
  let f : Nat → BitVec 8 := fun i => Classical.choose (hk i)
  have hf : ∀ i, i < m → cs[i]? = some (U8 (f i)) := fun i => Classical.choose_spec (hk i)
  refine ⟨(List.range m).map f, ?_, by simp⟩
  congr 1
  apply Array.ext_getElem?
  intro i
  by_cases hi : i < m
  · rw [hf i hi]
    simp [hi]
  · rw [Array.getElem?_eq_none (by omega), Array.getElem?_eq_none (by simp; omega)]
theorem key_of {H : Type} {enc : TypeId × Value → H} {W : World} {base fuel : Nat} {v : Value} {x : DataW H × List MemPlace} (hok : Value.okWide Try.prog W .any base 23 v) (h : DataW.trod enc Try.prog W 0 (fun _ => true) true fuel 23 v.cells.toList = some x) :
    ∃ r : List (BitVec 8), v = .agg (r.map U8).toArray ∧ r.length = 32 := arr8_of (by kernel_rfl) (by kernel_rfl) hok h
theorem u8_nat {z : Int} (h : (Lit.int .u8 z).wf = true) : ∃ a : BitVec 8, z = (a.toNat : Int) := by
  have h1 := u8_of h
  unfold U8 at h1
  exact ⟨_, (Value.int.inj h1).2.symm⟩
end Go.Proofs.Ytmbabkigjckaaaa
