/-
  Of no statement by itself: slices of strings as answers; a slice of pairs, a slice of strings out of an entry.
  Conditions: each theorem's own.
-/
import Derived.Test.YtkadoibacliepaaPrs
namespace Go.Proofs.Ytkadoibacliepaa
set_option maxRecDepth 10000
open Sl
structure SlZ where
  ad : Option Addr
  cap : Nat
  l : List (List Bt)
def SlZ.cells (s : SlZ) : List Value := s.l.map Z
def SlZ.v (s : SlZ) : Value := .slice s.ad s.l.length s.cap
structure SlZ.ok (w : World) (s : SlZ) : Prop where
  len : s.l.length ≤ s.cap
  reads : Reads w s.ad s.cells
theorem SlZ.ok.holds {w0 w : World} {S : List Nat} {M : List Ent} {s : SlZ} (h : s.ok w0) (hw : Holds w0 S M w) (hS : S = []) : s.ok w := ⟨h.len, hw.reads h.reads (fun _ a _ => by rw [hS]; simp)⟩
theorem SlZ.ok.ext {w w' : World} {s : SlZ} (h : s.ok w) (hx : Ext w w') : s.ok w' := h.holds (⟨hx, by simp, by simp⟩ : Holds w [] [] w') rfl
def nilZ : SlZ := ⟨none, 0, []⟩
theorem nilZ_ok (w : World) : nilZ.ok w := ⟨by simp [nilZ], Reads.nil _ _⟩
theorem slZ_own {w0 w : World} {S : List Nat} {M : List Ent} {b k cap : Nat} {e : TypeId} {l : List (List Bt)} {wr : Bool} (hw : Holds w0 S M w) (hM : Has M b (Own e 1 k cap (l.map Z)) wr) (hk : l.length = k) : SlZ.ok w ⟨some ⟨b, 0, none⟩, cap, l⟩ := by
  obtain ⟨o, ho, hA⟩ := hw.get hM
  have hh := Own.cells _ hA
  obtain ⟨sp, rfl, h2, h3, h4⟩ := hA
  exact ⟨by show l.length ≤ cap; omega, Reads.block ho hh⟩
theorem strE : EI Try.prog 9 (Z []) 1 16 := by unfold EI; kernel_rfl
theorem sl2_own {w0 w : World} {S : List Nat} {M : List Ent} {b k cap : Nat} {e : TypeId} {l : List Pr} {wr : Bool} (hw : Holds w0 S M w) (hM : Has M b (Own e 2 k cap (l.flatMap pc)) wr) : Sl2.ok w ⟨some ⟨b, 0, none⟩, cap, l⟩ := by
  obtain ⟨o, ho, hA⟩ := hw.get hM
  have hh := Own.cells _ hA
  obtain ⟨sp, rfl, h2, h3, h4⟩ := hA
  rw [pc_len] at h3
  exact ⟨by show l.length ≤ cap; omega, Reads.block ho hh⟩
theorem SlZ.ok.at {w : World} {s : SlZ} (h : s.ok w) (h0 : 0 < s.l.length) : ∃ b j, s.ad = some ⟨b, j, none⟩ ∧ b < w.heap.size ∧ ∀ i, i < s.l.length → w.cell? ⟨b, j + i, none⟩ = some (Z (s.l.getD i [])) := by
  obtain ⟨b, j, h1, h2⟩ := h.reads.at (by simpa [SlZ.cells] using h0)
  have hc : ∀ i, i < s.l.length → w.cell? ⟨b, j + i, none⟩ = some (Z (s.l.getD i [])) := fun i hi => h2 i _ (map_at Z [] hi)
  exact ⟨b, j, h1, block_lt_of_cell (hc 0 h0), hc⟩
/-! ### as new memory -/
def Sl2.ents (s : Sl2) : List Ent := match s.ad with
  | some a => [⟨a.block, fun o => hasCells o a.off s.cells ∧ s.l.length ≤ s.cap ∧ a.spot = none, true⟩]
  | none => []
theorem Sl2.ents_ok {s : Sl2} {w0 w : World} {S : List Nat} {M : List Ent} (h : Holds w0 S (s.ents ++ M) w) (h0 : s.ad = none → s.l = []) : s.ok w := by
  obtain ⟨ad, cap, l⟩ := s
  cases ad with
  | none =>
    have : l = [] := h0 rfl
    subst this
    exact ⟨by simp, Reads.nil _ _⟩
  | some a =>
    obtain ⟨o, ho, h1, h2, h3⟩ := h.get (b := a.block) (A := fun o => hasCells o a.off (l.flatMap pc) ∧ l.length ≤ cap ∧ a.spot = none) (wr := true) .here
    obtain ⟨b, j, sp⟩ := a
    simp only at h3
    subst h3
    exact ⟨h2, Reads.block ho h1⟩
theorem Sl2.ents_wr (s : Sl2) : ∀ e ∈ s.ents, e.wr = true := by
  intro e he
  unfold Sl2.ents at he
  split at he
  · rw [List.mem_singleton.1 he]
  · cases he
def SlZ.ents (s : SlZ) : List Ent := match s.ad with
  | some a => [⟨a.block, fun o => hasCells o a.off s.cells ∧ s.l.length ≤ s.cap ∧ a.spot = none, true⟩]
  | none => []
theorem SlZ.ents_ok {s : SlZ} {w0 w : World} {S : List Nat} {M : List Ent} (h : Holds w0 S (s.ents ++ M) w) (h0 : s.ad = none → s.l = []) : s.ok w := by
  obtain ⟨ad, cap, l⟩ := s
  cases ad with
  | none =>
    have : l = [] := h0 rfl
    subst this
    exact ⟨by simp, Reads.nil _ _⟩
  | some a =>
    obtain ⟨o, ho, h1, h2, h3⟩ := h.get (b := a.block) (A := fun o => hasCells o a.off (l.map Z) ∧ l.length ≤ cap ∧ a.spot = none) (wr := true) .here
    obtain ⟨b, j, sp⟩ := a
    simp only at h3
    subst h3
    exact ⟨h2, Reads.block ho h1⟩
theorem SlZ.ents_wr (s : SlZ) : ∀ e ∈ s.ents, e.wr = true := by
  intro e he
  unfold SlZ.ents at he
  split at he
  · rw [List.mem_singleton.1 he]
  · cases he
theorem ownZ_ents {M : List Ent} {b cap : Nat} {e : TypeId} {o : List (List Bt)} : Less (SlZ.ents ⟨some ⟨b, 0, none⟩, cap, o⟩) (⟨b, Own e 1 o.length cap (o.map Z), true⟩ :: M) := by
  refine .keep _ _ _ _ _ _ (fun ob hA => ?_) (.nil _)
  have hh := Own.cells _ hA
  obtain ⟨sp, rfl, h2, h3, h4⟩ := hA
  exact ⟨hh, h4, rfl⟩
theorem own2_ents {M : List Ent} {b cap : Nat} {e : TypeId} {o : List Pr} : Less (Sl2.ents ⟨some ⟨b, 0, none⟩, cap, o⟩) (⟨b, Own e 2 o.length cap (o.flatMap pc), true⟩ :: M) := by
  refine .keep _ _ _ _ _ _ (fun ob hA => ?_) (.nil _)
  have hh := Own.cells _ hA
  obtain ⟨sp, rfl, h2, h3, h4⟩ := hA
  exact ⟨hh, h4, rfl⟩
/-- strings as an answer -/
structure Gz (A : List (List Bt)) where
  z : SlZ
  h : z.l = A
  n : z.ad = none → z.l = []
instance {A : List (List Bt)} : Inhabited (Gz A) := ⟨⟨⟨some ⟨0, 0, none⟩, 0, A⟩, rfl, nofun⟩⟩
/-- pairs as an answer -/
structure G2 (A : List Pr) where
  z : Sl2
  h : z.l = A
  n : z.ad = none → z.l = []
instance {A : List Pr} : Inhabited (G2 A) := ⟨⟨⟨some ⟨0, 0, none⟩, 0, A⟩, rfl, nofun⟩⟩
/-- what was made stands, and is written no more -/
def cold (M : List Ent) : List Ent := M.map fun e => ⟨e.b, e.A, false⟩
theorem Holds.cold {w0 w : World} {S : List Nat} {M : List Ent} (h : Holds w0 S M w) : Holds w [] (cold M) w := by
  refine ⟨Chg.refl _ _, ?_, fun e he => ?_⟩
  · rw [Proofs.Ytkadoibacliepaa.cold, List.map_map]
    exact h.nodup
  · obtain ⟨q, hq, rfl⟩ := List.mem_map.1 he
    exact ⟨(h.all q hq).1, nofun⟩
end Go.Proofs.Ytkadoibacliepaa
