/-
  THE FRAME's COMMON PARTS: the table of rounds out of the listed variable; a byte slice out of its reading; the witness world. By the verifier of this seat.
-/
import Derived.Test.YtbihfhkbkcplmaaDoorUd
import Derived.Test.YtbihfhkbkcplmaaDoorTie
import Derived.ProofKit
import Derived.OpenShut
import Derived.LaidMore
import Derived.Lay
import Derived.Lib.LaidTab
import Derived.SevenTiedAt
import Derived.Below
import Derived.Stop.Joined
import Derived.Deep.Slices
namespace Go.Proofs.YtbihfhkbkcplmaaDoor
open Go.ChangeShapes Go.WideShapes Go.ChangeAt Go.RowKit
open Sl Sha
set_option linter.unusedVariables false
set_option maxRecDepth 100000

theorem own : ownKnob Tryd.prog.godebug = none := by kernel_rfl
theorem laidOut : laidOutB Tryd.prog = true := by kernel_rfl
theorem u8_of {z : Int} (h : (Lit.int .u8 z).wf = true) : U8 (BitVec.ofInt 8 z) = .int .u8 z := by
  have h0 : 0 ≤ z ∧ z ≤ 255 := by
    have h1 : (decide (0 ≤ z) && decide (z ≤ 255)) = true := h
    simpa using h1
  have h2 : ((BitVec.ofInt 8 z).toNat : Int) = z := by
    rw [BitVec.toNat_ofInt]
    omega
  unfold U8
  rw [h2]
theorem arr8_of {H : Type} {enc : TypeId × Value → H} {W : World} {base fuel m : Nat} {t : TypeId} (hu : Tryd.prog.underlying t = some (.array m 5)) (hc : Tryd.prog.cellsOf t = m) {v : Value} {x : DataW H × List MemPlace} (hok : Value.okWide Tryd.prog W .any base t v) (h : DataW.trod enc Tryd.prog W 0 (fun _ => true) true fuel t v.cells.toList = some x) :
    ∃ r : List (BitVec 8), v = .agg (r.map U8).toArray ∧ r.length = m := by
  obtain ⟨xs, m', _, ex, _, hl, hel⟩ := DataW.trod_array hu h
  have c5 : Tryd.prog.cellsOf 5 = 1 := by kernel_rfl
  simp only [Value.okWide, hu] at hok
  obtain ⟨cs, rfl, hsz, _⟩ := hok
  rw [hc] at hsz
  have hk : ∀ i, ∃ k : BitVec 8, i < m → cs[i]? = some (U8 k) := by
    intro i
    by_cases hi : i < m
    · have h1 := hel i hi
      rw [c5, Nat.mul_one, List.getElem?_eq_getElem (by omega)] at h1
      obtain ⟨z, e1, e2, hw⟩ := DataW.trod_int (show Tryd.prog.underlying 5 = some (.int .u8) by kernel_rfl) h1
      refine ⟨BitVec.ofInt 8 z, fun _ => ?_⟩
      have h0 : ((cs.toList.drop i).take 1)[0]? = some (.int .u8 z) := by
        have : (Value.agg cs).cells = cs := rfl
        rw [this] at e1
        rw [e1]; rfl
      rw [u8_of hw]
      simpa using h0
    · exact ⟨0, fun h => absurd h hi⟩
  let f : Nat → BitVec 8 := fun i => Classical.choose (hk i)
  have hf : ∀ i, i < m → cs[i]? = some (U8 (f i)) := fun i => Classical.choose_spec (hk i)
  refine ⟨(List.range m).map f, ?_, by simp⟩
  congr 1
  apply Array.ext_getElem?
  intro i
  by_cases hi : i < m
  · rw [hf i hi]
    simp [hi]
  · rw [Array.getElem?_eq_none (by omega), Array.getElem?_eq_none (by simp; omega)]
theorem key_of {H : Type} {enc : TypeId × Value → H} {W : World} {base fuel : Nat} {v : Value} {x : DataW H × List MemPlace} (hok : Value.okWide Tryd.prog W .any base 23 v) (h : DataW.trod enc Tryd.prog W 0 (fun _ => true) true fuel 23 v.cells.toList = some x) :
    ∃ r : List (BitVec 8), v = .agg (r.map U8).toArray ∧ r.length = 32 := arr8_of (by kernel_rfl) (by kernel_rfl) hok h
end Go.Proofs.YtbihfhkbkcplmaaDoor
