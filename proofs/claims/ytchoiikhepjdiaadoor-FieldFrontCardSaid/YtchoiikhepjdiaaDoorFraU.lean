/-
  Of no statement by itself: the witness world of a card that lists tables of Go's library (field's and token's rows).
  Conditions: none.
-/
import Derived.Test.YtchoiikhepjdiaaDoorPlain
import Derived.Test.YtchoiikhepjdiaaDoorTie
import Derived.SevenTiedAt
import Derived.LaidMore
import Derived.Lay
import Derived.ProofKit
namespace Go.Proofs.YtchoiikhepjdiaaDoor
open Go.ChangeShapes Go.WideShapes Go.ChangeAt Go.RowKit
open Sl
set_option linter.unusedVariables false
theorem laid_plain : ((Rows.fieldToldRow.laid).all fun x => x.2.handleName?.isNone) = true := by kernel_rfl
/-- The witness world meets the condition. -/
theorem wit_met (os : Os) (args : Array Value) : laidMetH Tryd.prog Rows.fieldToldRow.laid ((World.laidAll Tryd.prog os Rows.fieldToldRow.laid).forCall (fun _ _ => 0) ⟨#[], args, []⟩).memory := by
  rw [MakeChecks.laidMetH_plain _ _ _ laid_plain]
  exact laidMet_laidAll _ (by kernel_rfl) (by kernel_rfl)
theorem wit_shape (os : Os) : (World.laidAll Tryd.prog os Rows.fieldToldRow.laid).Shaped Tryd.prog := World.shaped_of_ZipB (by kernel_rfl) (by kernel_rfl)
end Go.Proofs.YtchoiikhepjdiaaDoor
