/-
  Of no statement by itself: the witness world of a card of the box's rows; that the powers of ten lie in their variable, out of what the card lists.
  Conditions: none.
-/
import Derived.Test.YtjkncnbpaejamaaGreatDoorPlain
import Derived.Test.YtjkncnbpaejamaaGreatDoorTie
import Derived.Test.YtjkncnbpaejamaaGreatDoorYe
import Derived.SevenTiedAt
import Derived.LaidMore
import Derived.Lay
import Derived.ProofKit
import Derived.Lib.LaidTab
namespace Go.Proofs.YtjkncnbpaejamaaGreatDoor
open Go.ChangeShapes Go.WideShapes Go.ChangeAt Go.RowKit
open Sl
set_option linter.unusedVariables false
theorem laidVars_mem {P : Program} {w : World} {n : String} {d : DataW Unit} : ∀ {L : List (String × DataW Unit)} {ps : List MemPlace}, DataW.LaidVars P w L ps → (n, d) ∈ L →
    ∃ g t cs fuel p, P.globalNamed n = some g ∧ (P.globals[g]?).map (·.type) = some t ∧ w.var? P n = some cs ∧ DataW.trod (fun _ => ()) P w 0 (fun _ => true) false fuel t cs.toList = some (d, p)
  | [], _, _, h => by cases h
  | (n', d') :: L, ps, ⟨g, t, cs, fuel, p, q, h1, h2, h3, h4, h5, _⟩, h => by
    rcases List.mem_cons.1 h with h | h
    · cases h
      exact ⟨g, t, cs, fuel, p, h1, h2, h3, h4⟩
    · exact laidVars_mem h5 h
theorem laid_plain : ((Rows.boxFullRow.laid).all fun x => x.2.handleName?.isNone) = true := by kernel_rfl
/-- The witness world meets the condition. -/
theorem wit_met (os : Os) (args : Array Value) : laidMetH Tryz.prog Rows.boxFullRow.laid ((World.laidAll Tryz.prog os Rows.boxFullRow.laid).forCall (fun _ _ => 0) ⟨#[], args, []⟩).memory := by
  rw [MakeChecks.laidMetH_plain _ _ _ laid_plain]
  exact laidMet_laidAll _ (by kernel_rfl) (by kernel_rfl)
theorem wit_shape (os : Os) : (World.laidAll Tryz.prog os Rows.boxFullRow.laid).Shaped Tryz.prog := World.shaped_of_ZipB (by kernel_rfl) (by kernel_rfl)
theorem tabOk_of {W : World} {ps : List MemPlace} {L : List (String × DataW Unit)} (h : DataW.LaidVars Tryz.prog W L ps) (hm : ("internal/strconv.uint64pow10", Lib.tabData .u64 Go.Lib.pow10Tab) ∈ L) : TabOk W := by
  obtain ⟨g, t, cs, fuel, p, h1, h2, h3, h4⟩ := laidVars_mem h hm
  have hg : Tryz.prog.globalNamed "internal/strconv.uint64pow10" = some 2 := by kernel_rfl
  obtain rfl := Option.some.inj (hg.symm.trans h1)
  obtain rfl := Option.some.inj ((show (Tryz.prog.globals[2]?).map (·.type) = some 207 by kernel_rfl).symm.trans h2)
  have hcs := Lib.cells_of_tab (show Tryz.prog.underlying 207 = some (.array 20 82) by kernel_rfl) (show Tryz.prog.underlying 82 = some (.int .u64) by kernel_rfl) (by kernel_rfl) (by kernel_rfl) h4
  unfold World.var? at h3
  rw [hg] at h3
  simp only [Option.bind_some] at h3
  split at h3
  · rename_i cs' e fr hb
    obtain rfl := Option.some.inj h3
    refine ⟨e, fr, ?_⟩
    rw [hb]
    have : cs' = (cs'.toList).toArray := by simp
    rw [this, hcs]
    rfl
  · cases h3
theorem laid_is : Rows.boxFullRow.laid = [("math/bits.deBruijn32tab", Rows.laid_math_bits_deBruijn32tab), ("math/bits.deBruijn64tab", Rows.laid_math_bits_deBruijn64tab), ("internal/strconv.uint64pow10", Lib.tabData .u64 Go.Lib.pow10Tab), ("strconv.ErrRange", Rows.laid_strconv_ErrRange), ("strconv.ErrSyntax", Rows.laid_strconv_ErrSyntax)] := by kernel_rfl
theorem tab_of_laid {W : World} (h : laidMetH Tryz.prog Rows.boxFullRow.laid W) : TabOk W := by
  rw [MakeChecks.laidMetH_plain _ _ _ laid_plain, laid_is] at h
  obtain ⟨ps, h, _⟩ := h
  exact tabOk_of h (by simp)
end Go.Proofs.YtjkncnbpaejamaaGreatDoor
