/-
  Of no statement by itself: what a row's proof opens a bundle with.
  Conditions: each theorem's own.
-/
import Derived.Test.YtbihfhkbkcplmaaDoorUd
import Derived.ProofKit
import Derived.OpenShut
namespace Go.Proofs.YtbihfhkbkcplmaaDoor
open Go.ChangeShapes Go.WideShapes Go.ChangeAt Go.RowKit
open Sl
set_option linter.unusedVariables false
set_option maxRecDepth 100000
theorem u8_ofB {z : Int} (h : (Lit.int .u8 z).wf = true) : U8 (BitVec.ofInt 8 z) = .int .u8 z := by
  have h0 : 0 ≤ z ∧ z ≤ 255 := by
    have h1 : (decide (0 ≤ z) && decide (z ≤ 255)) = true := h
    simpa using h1
  have h2 : ((BitVec.ofInt 8 z).toNat : Int) = z := by
    rw [BitVec.toNat_ofInt]
    omega
  unfold U8
  rw [h2]
theorem arr8_cells {H : Type} {enc : TypeId × Value → H} {W : World} {fuel m : Nat} {t : TypeId} (hu : Tryd.prog.underlying t = some (.array m 5)) (hc : Tryd.prog.cellsOf t = m) {l : List Value} {x : DataW H × List MemPlace} (h : DataW.trod enc Tryd.prog W 0 (fun _ => true) true fuel t l = some x) :
    ∃ r : List (BitVec 8), l = r.map U8 ∧ r.length = m := by
  obtain ⟨xs, m', _, ex, hlen, hl, hel⟩ := DataW.trod_array hu h
  have c5 : Tryd.prog.cellsOf 5 = 1 := by kernel_rfl
  rw [hc] at hlen
  have hk : ∀ i, ∃ k : BitVec 8, i < m → l[i]? = some (U8 k) := by
    intro i
    by_cases hi : i < m
    · have h1 := hel i hi
      rw [c5, Nat.mul_one, List.getElem?_eq_getElem (by omega)] at h1
      obtain ⟨z, e1, e2, hw⟩ := DataW.trod_int (show Tryd.prog.underlying 5 = some (.int .u8) by kernel_rfl) h1
      refine ⟨BitVec.ofInt 8 z, fun _ => ?_⟩
      have h0 : ((l.drop i).take 1)[0]? = some (.int .u8 z) := by rw [e1]; rfl
      rw [u8_ofB hw]
      simpa using h0
    · exact ⟨0, fun h => absurd h hi⟩
  let f : Nat → BitVec 8 := fun i => Classical.choose (hk i)
  have hf : ∀ i, i < m → l[i]? = some (U8 (f i)) := fun i => Classical.choose_spec (hk i)
  refine ⟨(List.range m).map f, ?_, by simp⟩
  apply List.ext_getElem?
  intro i
  by_cases hi : i < m
  · rw [hf i hi]
    simp [hi]
  · rw [List.getElem?_eq_none (by omega), List.getElem?_eq_none (by simp; omega)]
def fldB (P : Program) (t : TypeId) (i : Nat) (ty : TypeId) (off : Nat) : Bool := match (P.fieldsOf t)[i]? with
  | some f => f.type == ty && f.offset == off
  | none => false
theorem fldB_get {P : Program} {t : TypeId} {i : Nat} {ty : TypeId} {off : Nat} (h : fldB P t i ty off = true) : ∃ f, (P.fieldsOf t)[i]? = some f ∧ f.type = ty ∧ f.offset = off := by
  unfold fldB at h
  split at h
  · next f e =>
    simp only [Bool.and_eq_true, beq_iff_eq] at h
    exact ⟨f, e, h.1, h.2⟩
  · cases h
theorem bundle_of {H : Type} {enc : TypeId × Value → H} {W : World} {base fuel : Nat} {v : Value} {x : DataW H × List MemPlace} (hok : Value.okWide Tryd.prog W .any base 25 v) (h : DataW.trod enc Tryd.prog W 0 (fun _ => true) true fuel 25 v.cells.toList = some x) :
    ∃ r : List (BitVec 8), v = .agg (r.map U8).toArray ∧ r.length = 64 := by
  have ht : Tryd.prog.underlying 25 = some (.struct (Tryd.prog.fieldsOf 25)) := by kernel_rfl
  have ct : Tryd.prog.cellsOf 25 = 64 := by kernel_rfl
  have c0 : Tryd.prog.cellsOf 23 = 32 := by kernel_rfl
  have hk : Tryd.prog.underlying 23 = some (.array 32 5) := by kernel_rfl
  obtain ⟨xs, n, _, _, hl, hlen, hf⟩ := DataW.trod_struct ht h
  have hsz : (Tryd.prog.fieldsOf 25).size = 2 := by kernel_rfl
  rw [hsz] at hlen
  have g : ∀ {i ty off}, fldB Tryd.prog 25 i ty off = true → i < 2 → ∃ y, DataW.trod enc Tryd.prog W 0 (fun _ => true) true n ty ((v.cells.toList.drop off).take (Tryd.prog.cellsOf ty)) = some y := fun {i ty off} h1 h2 => by
    obtain ⟨f, e1, rfl, rfl⟩ := fldB_get h1
    exact ⟨xs[i], by rw [hf i f e1, List.getElem?_eq_getElem (by omega)]⟩
  simp only [Value.okWide, ht] at hok
  obtain ⟨c, rfl, hcz, _⟩ := hok
  rw [ct] at hcz
  obtain ⟨y0, g0⟩ := g (i := 0) (ty := 23) (off := 0) (by kernel_rfl) (by decide)
  obtain ⟨y1, g1⟩ := g (i := 1) (ty := 23) (off := 32) (by kernel_rfl) (by decide)
  rw [c0] at g0 g1
  obtain ⟨l⟩ := c
  rw [show (Value.agg ⟨l⟩).cells.toList = l from rfl] at g0 g1
  have hcz : l.length = 64 := by simpa using hcz
  obtain ⟨r0, e0, l0⟩ := arr8_cells hk c0 g0
  obtain ⟨r1, e1, l1⟩ := arr8_cells hk c0 g1
  refine ⟨r0 ++ r1, ?_, by simp [l0, l1]⟩
  congr 1
  rw [List.map_append, ← e0, ← e1, List.drop_zero]
  have e : (l.drop 32).take 32 = l.drop 32 := List.take_of_length_le (by simp [hcz])
  rw [e, List.take_append_drop]
end Go.Proofs.YtbihfhkbkcplmaaDoor
