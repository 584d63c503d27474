/-
  Of no statement by itself: what a row's proof opens a slice of slices of bytes with, with its bulk.
  Conditions: each theorem's own.
-/
import Derived.Test.YtjkncnbpaejamaaPlain
import Derived.Test.YtjkncnbpaejamaaVe
import Derived.Deep.Slices
namespace Go.Proofs.Ytjkncnbpaejamaa
set_option maxRecDepth 10000
open Go.ChangeShapes Go.WideShapes Go.ChangeAt Go.RowKit
open Sl
set_option linter.unusedVariables false
theorem bulk_memR {H : Type} {d : DataW H} {l : List (DataW H)} (h : d ∈ l) : Rows.uptoBulk d ≤ Rows.uptoBulkAll l := by
  induction l with
  | nil => cases h
  | cons x r ih =>
    simp only [Rows.uptoBulkAll]
    cases List.mem_cons.1 h with
    | inl e => subst e; omega
    | inr e => have := ih e; omega
theorem bulk_lits {H : Type} (k : IntKind) : ∀ zs : List Int, Rows.uptoBulkAll (lits k zs : List (DataW H)) = zs.length
  | [] => rfl
  | z :: zs => by
    have := bulk_lits (H := H) k zs
    show Rows.uptoBulk (DataW.lit (.int k z) : DataW H) + Rows.uptoBulkAll (lits k zs) = _
    rw [this]
    simp only [Rows.uptoBulk, List.length_cons]
    omega
theorem sl8_full {H : Type} {enc : TypeId × Value → H} {W : World} {fuel : Nat} {v : Value} {x : DataW H × List MemPlace} (h : DataW.trod enc Try.prog W 0 (fun _ => true) true fuel 33 [v] = some x) : ∃ k : Sl8, v = k.v ∧ k.ok W ∧ k.l.length ≤ Rows.uptoBulk x.1 := by
  obtain ⟨k, hk, ok, _⟩ := sl8_of h
  refine ⟨k, hk, ok, ?_⟩
  rcases open_ints (show Try.prog.underlying 33 = some (.slice 5) by kernel_rfl) (show Try.prog.underlying 5 = some (.int .u8) by kernel_rfl) (by kernel_rfl) h with ⟨hcs, _⟩ | ⟨a, l, c, zs, hcs, _, hl, hm, hz, hxx, _, _⟩
  · cases hcs
    have e : (Value.slice none 0 0) = .slice k.ad k.l.length k.cap := hk
    have : k.l.length = 0 := ((Value.slice.inj e).2.1).symm
    omega
  · cases hcs
    have e : (Value.slice (some a) l c) = .slice k.ad k.l.length k.cap := hk
    have hl2 : k.l.length = l := ((Value.slice.inj e).2.1).symm
    simp only [if_true] at hz
    rw [hxx]
    simp only [Rows.uptoBulk, bulk_lits, List.length_take, List.length_drop]
    omega
theorem parts_full {H : Type} {enc : TypeId × Value → H} {W : World} {base fuel : Nat} {v : Value} {x : DataW H × List MemPlace} (hok : Value.okWide Try.prog W .any base 34 v) (h : DataW.trod enc Try.prog W 0 (fun _ => true) true fuel 34 v.cells.toList = some x) :
    ∃ k : SlL, v = k.v ∧ k.ok W ∧ (∀ p ∈ k.rs, p.l.length ≤ Rows.uptoBulk x.1) := by
  obtain ⟨a, l, c, rfl⟩ := okWide_slice (show Try.prog.underlying 34 = some (.slice 33) by kernel_rfl) hok
  have hc1 : Try.prog.cellsOf 33 = 1 := by kernel_rfl
  rcases Go.Deep.open_slice (show Try.prog.underlying 34 = some (.slice 33) by kernel_rfl) h with ⟨hcs, _⟩ | ⟨a', len, cap, m, n, D, Pl, hcs, _, hl, hm, hmm, hxx, hel⟩
  · cases hcs
    exact ⟨⟨none, 0, []⟩, rfl, ⟨Nat.le_refl _, Reads.nil _ _, nofun⟩, nofun⟩
  · cases hcs
    simp only [if_true] at hmm
    subst hmm
    simp only [hc1, Nat.mul_one] at hel
    have hk : ∀ i, ∃ k : Sl8, i < l → W.cell? (a'.add i) = some k.v ∧ k.ok W ∧ k.l.length ≤ Rows.uptoBulk x.1 := by
      intro i
      by_cases hi : i < l
      · obtain ⟨cs', h1, h2⟩ := hel i (by omega)
        obtain ⟨_, hlen, hcell⟩ := World.cells?_some h1
        match cs', hlen with
        | [u], _ =>
          obtain ⟨k, rfl, hk, hb⟩ := sl8_full h2
          refine ⟨k, fun _ => ⟨?_, hk, ?_⟩⟩
          · have := hcell 0 (by omega)
            simpa [Addr.add] using this
          · have hm2 := bulk_memR (H := H) (d := D i) (l := (List.range l).map D) (List.mem_map.2 ⟨i, List.mem_range.2 hi, rfl⟩)
            rw [hxx]
            simp only [Rows.uptoBulk]
            dsimp only at hb
            omega
      · exact ⟨⟨none, 0, []⟩, fun h => absurd h hi⟩
    let f : Nat → Sl8 := fun i => Classical.choose (hk i)
    have hf : ∀ i, i < l → W.cell? (a'.add i) = some (f i).v ∧ (f i).ok W ∧ (f i).l.length ≤ Rows.uptoBulk x.1 := fun i => Classical.choose_spec (hk i)
    have hlen : ((List.range l).map f).length = l := by simp
    refine ⟨⟨some a', m, (List.range l).map f⟩, by simp [SlL.v], ⟨by show ((List.range l).map f).length ≤ m; rw [hlen]; exact hl, ?_, ?_⟩, ?_⟩
    · intro i v hv
      have hi : i < l := by
        have := (List.getElem?_eq_some_iff.1 hv).1
        simpa using this
      have hc := (hf i hi).1
      have hv' : v = (f i).v := by
        simp [hi] at hv
        exact hv.symm
      obtain ⟨b, o, sp⟩ := a'
      cases sp with
      | some s =>
        have hc := (hf 0 (by omega)).1
        simp only [World.cell?, Addr.add, if_true] at hc
        split at hc <;> simp at hc
      | none =>
        refine ⟨b, o, rfl, ?_⟩
        have e4 : (⟨b, o, none⟩ : Addr).add i = ⟨b, o + i, none⟩ := by
          unfold Addr.add
          split
          · subst i; rfl
          · rfl
        rw [e4] at hc
        rw [hv']
        exact hc
    · intro p hp
      simp only [List.mem_map, List.mem_range] at hp
      obtain ⟨i, hi, rfl⟩ := hp
      exact (hf i hi).2.1
    · intro p hp
      simp only [List.mem_map, List.mem_range] at hp
      obtain ⟨i, hi, rfl⟩ := hp
      exact (hf i hi).2.2
end Go.Proofs.Ytjkncnbpaejamaa
