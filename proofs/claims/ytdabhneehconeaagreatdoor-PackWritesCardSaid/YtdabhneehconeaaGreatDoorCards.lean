/-
  DERIVED. GIVEN WITH THE SEED: THE CARDS: each row of YtdabhneehconeaaGreatDoorRows.lean that lists a variable, with what it lists TIED to the program's text (the seventh form; the later family's looks); each row that meets fmt, with fmt's text TOLD by the authors' own Lean function (tested against real Go, not proved from fmt's source: count such statements apart). THE CARD IS WHAT COUNTS. Prove the row's statement (the work); the ties are given (YtdabhneehconeaaGreatDoorTie.lean); close each card by the builder's one call (the guide's Derived/Test/ToyasCard.lean, 'card_holds'). Laid BY PROGRAM, IN A SANDBOX (cutbox-door.mjs). By AI agents, Wed Nov 11 2026. No macro, syntax, notation, axiom, sorry.
-/
import Derived.Test.YtdabhneehconeaaGreatDoorRows
import GoSem.ClaimSeven
namespace Go.Proofs.YtdabhneehconeaaGreatDoor
namespace Rows

/-- THE TIED CARD OF 'despatchlaw13.PackWrites'. -/
def packWritesCard : Claim7 := { stood := { row := packWritesRow, standIns := [], harness := (true, "7625617fff763b8e79b3a8c2358a0ce7647985e9b402ce7e4d14fa09732919fa"), looks := false }, kinds := [], alts := [], laidByText := true, laidKinds := [.data, .data, .data, .pinned, .pinned], laidTests := true, laidLooks := .later }
def PackWritesCardSaid : Prop := Claim7.holds Tryz.pinned (.plain (OpenSpec.ofChange packWritesSpec)) packWritesCard

/-- THE TIED CARD OF 'despatchlaw13.PackBeside'. -/
def packBesideCard : Claim7 := { stood := { row := packBesideRow, standIns := [], harness := (true, "7625617fff763b8e79b3a8c2358a0ce7647985e9b402ce7e4d14fa09732919fa"), looks := false }, kinds := [], alts := [], laidByText := true, laidKinds := [.data, .data, .data, .pinned, .pinned], laidTests := true, laidLooks := .later }
def PackBesideCardSaid : Prop := Claim7.holds Tryz.pinned (.plain (OpenSpec.ofChange packBesideSpec)) packBesideCard

/-- THE TIED CARD OF 'despatchlaw13.PackTurned'. -/
def packTurnedCard : Claim7 := { stood := { row := packTurnedRow, standIns := [], harness := (true, "7625617fff763b8e79b3a8c2358a0ce7647985e9b402ce7e4d14fa09732919fa"), looks := false }, kinds := [], alts := [], laidByText := true, laidKinds := [.data, .data, .data, .pinned, .pinned], laidTests := true, laidLooks := .later }
def PackTurnedCardSaid : Prop := Claim7.holds Tryz.pinned (.plain (OpenSpec.ofChange packTurnedSpec)) packTurnedCard

/-- THE SECOND FORM's CARD OF 'despatchlaw13.PackWrites'. -/
def packWritesUptoCard : Claim7 := { stood := { row := packWritesUptoRow, standIns := [], harness := (true, "7625617fff763b8e79b3a8c2358a0ce7647985e9b402ce7e4d14fa09732919fa"), looks := false }, kinds := [], alts := [], laidByText := true, laidKinds := [.data, .data, .data, .pinned, .pinned], laidTests := true, laidLooks := .later }
def PackWritesUptoCardSaid : Prop := Claim7.holds Tryz.pinned (.plain (OpenSpec.upto packWritesSpec)) packWritesUptoCard

/-- THE SECOND FORM's CARD OF 'despatchlaw13.PackBeside'. -/
def packBesideUptoCard : Claim7 := { stood := { row := packBesideUptoRow, standIns := [], harness := (true, "7625617fff763b8e79b3a8c2358a0ce7647985e9b402ce7e4d14fa09732919fa"), looks := false }, kinds := [], alts := [], laidByText := true, laidKinds := [.data, .data, .data, .pinned, .pinned], laidTests := true, laidLooks := .later }
def PackBesideUptoCardSaid : Prop := Claim7.holds Tryz.pinned (.plain (OpenSpec.upto packBesideSpec)) packBesideUptoCard

/-- THE SECOND FORM's CARD OF 'despatchlaw13.PackTurned'. -/
def packTurnedUptoCard : Claim7 := { stood := { row := packTurnedUptoRow, standIns := [], harness := (true, "7625617fff763b8e79b3a8c2358a0ce7647985e9b402ce7e4d14fa09732919fa"), looks := false }, kinds := [], alts := [], laidByText := true, laidKinds := [.data, .data, .data, .pinned, .pinned], laidTests := true, laidLooks := .later }
def PackTurnedUptoCardSaid : Prop := Claim7.holds Tryz.pinned (.plain (OpenSpec.upto packTurnedSpec)) packTurnedUptoCard
end Rows
end Go.Proofs.YtdabhneehconeaaGreatDoor
