/-
  DERIVED. GIVEN WITH THE SEED: THE CARDS: each row of YtchoiikhepjdiaaGreatDoorRows.lean that lists a variable, with what it lists TIED to the program's text (the seventh form; the later family's looks); each row that meets fmt, with fmt's text TOLD by the authors' own Lean function (tested against real Go, not proved from fmt's source: count such statements apart). THE CARD IS WHAT COUNTS. Prove the row's statement (the work); the ties are given (YtchoiikhepjdiaaGreatDoorTie.lean); close each card by the builder's one call (the guide's Derived/Test/ToyasCard.lean, 'card_holds'). Laid BY PROGRAM, IN A SANDBOX (cutbox-door.mjs). By AI agents, Wed Nov 11 2026. No macro, syntax, notation, axiom, sorry.
-/
import Derived.Test.YtchoiikhepjdiaaGreatDoorRows
import GoSem.ClaimSeven
namespace Go.Proofs.YtchoiikhepjdiaaGreatDoor
namespace Rows

/-- THE TIED CARD OF 'despatchlaw10.TokenParams'. -/
def tokenParamsCard : Claim7 := { stood := { row := tokenParamsRow, standIns := [], harness := (true, "0c4a1748aa1878d5b48a59a7a83179b18df65de22bd06a2e53eb68bc1d7515f0"), looks := false }, kinds := [], alts := [], laidByText := true, laidKinds := [.data, .pinned, .pinned], laidTests := true, laidLooks := .later }
def TokenParamsCardSaid : Prop := Claim7.holds Tryz.pinned (.plain (OpenSpec.ofChange tokenParamsSpec)) tokenParamsCard

/-- THE SECOND FORM's CARD OF 'despatchlaw10.TokenParams'. -/
def tokenParamsUptoCard : Claim7 := { stood := { row := tokenParamsUptoRow, standIns := [], harness := (true, "0c4a1748aa1878d5b48a59a7a83179b18df65de22bd06a2e53eb68bc1d7515f0"), looks := false }, kinds := [], alts := [], laidByText := true, laidKinds := [.data, .pinned, .pinned], laidTests := true, laidLooks := .later }
def TokenParamsUptoCardSaid : Prop := Claim7.holds Tryz.pinned (.plain (OpenSpec.upto tokenParamsSpec)) tokenParamsUptoCard
end Rows
end Go.Proofs.YtchoiikhepjdiaaGreatDoor
