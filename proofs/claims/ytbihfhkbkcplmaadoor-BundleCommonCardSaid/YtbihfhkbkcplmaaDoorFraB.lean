/-
  THE FRAME's PART THAT SPEAKS OF THE LISTED VARIABLE of rounds: the table out of what is laid; the witness world.
-/
import Derived.Test.YtbihfhkbkcplmaaDoorFra
namespace Go.Proofs.YtbihfhkbkcplmaaDoor
open Go.ChangeShapes Go.WideShapes Go.ChangeAt Go.RowKit
open Sl Sha
set_option linter.unusedVariables false
set_option maxRecDepth 100000

theorem laid_plain : ((Rows.bundleKeysRow.laid).all fun x => x.2.handleName?.isNone) = true := by kernel_rfl
theorem laid_is : Rows.bundleKeysRow.laid = [("despatch/hash.rounds", Lib.tabData .u32 (K.map fun x => (x.toNat : Int)))] := by kernel_rfl
theorem gok_of_laid {W : World} (h : laidMetH Tryd.prog Rows.bundleKeysRow.laid W) : GOk W := by
  rw [MakeChecks.laidMetH_plain _ _ _ laid_plain, laid_is] at h
  have hg : Tryd.prog.globalNamed "despatch/hash.rounds" = some 0 := by kernel_rfl
  have h2 := Lib.tabIs_of_head (P := Tryd.prog) (g := 0) (t := 95) (e := 94) (n := 64) hg (by kernel_rfl) (by kernel_rfl) (by kernel_rfl) (by kernel_rfl) (by kernel_rfl) h
  unfold Lib.TabIs World.var? at h2
  rw [hg] at h2
  simp only [Option.bind_some] at h2
  split at h2
  · rename_i cs e fr hb
    refine ⟨e, fr, ?_⟩
    rw [hb]
    have h3 := Option.some.inj h2
    rw [h3, List.map_map]
    rfl
  · cases h2
/-- The witness world meets the condition. -/
theorem wit_met (os : Os) (args : Array Value) : laidMetH Tryd.prog Rows.bundleKeysRow.laid ((World.laidAll Tryd.prog os Rows.bundleKeysRow.laid).forCall (fun _ _ => 0) ⟨#[], args, []⟩).memory := by
  rw [MakeChecks.laidMetH_plain _ _ _ laid_plain]
  exact laidMet_laidAll _ (by kernel_rfl) (by kernel_rfl)
theorem wit_shape (os : Os) : (World.laidAll Tryd.prog os Rows.bundleKeysRow.laid).Shaped Tryd.prog := World.shaped_of_ZipB (by kernel_rfl) (by kernel_rfl)
end Go.Proofs.YtbihfhkbkcplmaaDoor
