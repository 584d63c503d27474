/-
  Of no statement by itself: what a plain row's proof opens its arguments with (keys, bytes, slices of bytes and of int).
  Conditions: each theorem's own.
-/
import Derived.Test.YtjkncnbpaejamaaGreatDoorProg
import Derived.Test.YtjkncnbpaejamaaGreatDoorRows
import Derived.Test.YtjkncnbpaejamaaGreatDoorYe
import Derived.ProofKit
import Derived.OpenShut
import Derived.Below
import Derived.Stop.Joined
import Derived.ChangeMaps5
namespace Go.Proofs.YtjkncnbpaejamaaGreatDoor
set_option maxRecDepth 10000
open Go.ChangeShapes Go.WideShapes Go.ChangeAt Go.RowKit
open Sl
set_option linter.unusedVariables false
theorem ownQ : ownKnob Tryz.prog.godebug = none := by kernel_rfl
theorem laidOutQ : laidOutB Tryz.prog = true := by kernel_rfl
theorem u8_of {z : Int} (h : (Lit.int .u8 z).wf = true) : U8 (BitVec.ofInt 8 z) = .int .u8 z := by
  have h0 : 0 ≤ z ∧ z ≤ 255 := by
    have h1 : (decide (0 ≤ z) && decide (z ≤ 255)) = true := h
    simpa using h1
  have h2 : ((BitVec.ofInt 8 z).toNat : Int) = z := by
    rw [BitVec.toNat_ofInt]
    omega
  unfold U8
  rw [h2]
def fldIs (P : Program) (t : TypeId) (i : Nat) (ty : TypeId) (off : Nat) : Bool := match (P.fieldsOf t)[i]? with
  | some f => f.type == ty && f.offset == off
  | none => false
theorem fldIs_get {P : Program} {t : TypeId} {i : Nat} {ty : TypeId} {off : Nat} (h : fldIs P t i ty off = true) : ∃ f, (P.fieldsOf t)[i]? = some f ∧ f.type = ty ∧ f.offset = off := by
  unfold fldIs at h
  split at h
  · next f e =>
    simp only [Bool.and_eq_true, beq_iff_eq] at h
    exact ⟨f, e, h.1, h.2⟩
  · cases h
def bits8 (zs : List Int) : List (BitVec 8) := zs.map (BitVec.ofInt 8)
theorem sl8_of {H : Type} {enc : TypeId × Value → H} {W : World} {fuel : Nat} {v : Value} {x : DataW H × List MemPlace} (h : DataW.trod enc Tryz.prog W 0 (fun _ => true) true fuel 24 [v] = some x) : ∃ k : Sl8, v = k.v ∧ k.ok W ∧ k.cap ≤ maxLen := by
  rcases open_ints (show Tryz.prog.underlying 24 = some (.slice 5) by kernel_rfl) (show Tryz.prog.underlying 5 = some (.int .u8) by kernel_rfl) (by kernel_rfl) h with ⟨hcs, _⟩ | ⟨x, l, c, zs, hcs, _, hl, hm, hz, _, hcell, hwz⟩
  · cases hcs
    exact ⟨⟨none, 0, []⟩, rfl, ⟨by simp, Reads.nil _ _⟩, by decide⟩
  · cases hcs
    simp only [if_true] at hz
    have hlen : (bits8 (zs.take l)).length = l := by simp [bits8]; omega
    refine ⟨⟨some x, c, bits8 (zs.take l)⟩, by simp [Sl8.v, hlen], ⟨by rw [hlen]; exact hl, ?_⟩, hm⟩
    intro i v hv
    have hi : i < l := by
      have := (List.getElem?_eq_some_iff.1 hv).1
      simpa [hlen] using this
    have hc := hcell i (by omega)
    obtain ⟨b, o, sp⟩ := x
    cases sp with
    | some s =>
      have hc := hcell 0 (by omega)
      simp only [World.cell?, Addr.add, if_true] at hc
      split at hc <;> simp at hc
    | none =>
      refine ⟨b, o, rfl, ?_⟩
      have e1 : zs.getD i 0 = zs[i]'(by omega) := by simp [List.getD, show i < zs.length by omega]
      have e2 := u8_of (hwz (zs[i]'(by omega)) (List.getElem_mem _))
      have e3 : v = .int .u8 (zs.getD i 0) := by
        simp only [bits8, List.map_map, List.getElem?_map, List.getElem?_take] at hv
        rw [if_pos hi, List.getElem?_eq_getElem (by omega)] at hv
        simp only [Option.map_some, Function.comp, Option.some.injEq] at hv
        rw [← hv, e2, e1]
      rw [e3]
      have e4 : (⟨b, o, none⟩ : Addr).add i = ⟨b, o + i, none⟩ := by
        unfold Addr.add
        split
        · subst i; rfl
        · rfl
      rw [e4] at hc
      exact hc
end Go.Proofs.YtjkncnbpaejamaaGreatDoor
