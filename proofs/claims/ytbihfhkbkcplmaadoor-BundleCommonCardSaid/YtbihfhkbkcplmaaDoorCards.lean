/-
  DERIVED. GIVEN WITH THE SEED: THE CARDS: each row of YtbihfhkbkcplmaaDoorRows.lean that lists a variable, with what it lists TIED to the program's text (the seventh form; the later family's looks); each row that meets fmt, with fmt's text TOLD by the authors' own Lean function (tested against real Go, not proved from fmt's source: count such statements apart). THE CARD IS WHAT COUNTS. Prove the row's statement (the work); the ties are given (YtbihfhkbkcplmaaDoorTie.lean); close each card by the builder's one call (the guide's Derived/Test/ToyasCard.lean, 'card_holds'). Laid BY PROGRAM, IN A SANDBOX (cutbox-door.mjs). By AI agents, Wed Nov 11 2026. No macro, syntax, notation, axiom, sorry.
-/
import Derived.Test.YtbihfhkbkcplmaaDoorRows
import GoSem.ClaimSeven
namespace Go.Proofs.YtbihfhkbkcplmaaDoor
namespace Rows

/-- THE TIED CARD OF 'despatchlaw18.BundleKeys'. -/
def bundleKeysCard : Claim7 := { stood := { row := bundleKeysRow, standIns := [], harness := (true, "d8c85b0b195a7c6c5dbd317236951d559f31af0c62539a451f380b62b7d8eccb"), looks := false }, kinds := [], alts := [], laidByText := true, laidKinds := [.data], laidTests := true, laidLooks := .later }
def BundleKeysCardSaid : Prop := Claim7.holds Tryd.pinned (.plain (OpenSpec.ofChange bundleKeysSpec)) bundleKeysCard

/-- THE TIED CARD OF 'despatchlaw18.BundleCommon'. -/
def bundleCommonCard : Claim7 := { stood := { row := bundleCommonRow, standIns := [], harness := (true, "d8c85b0b195a7c6c5dbd317236951d559f31af0c62539a451f380b62b7d8eccb"), looks := false }, kinds := [], alts := [], laidByText := true, laidKinds := [.data], laidTests := true, laidLooks := .later }
def BundleCommonCardSaid : Prop := Claim7.holds Tryd.pinned (.plain (OpenSpec.ofChange bundleCommonSpec)) bundleCommonCard

/-- THE SECOND FORM's CARD OF 'despatchlaw18.BundleKeys'. -/
def bundleKeysUptoCard : Claim7 := { stood := { row := bundleKeysUptoRow, standIns := [], harness := (true, "d8c85b0b195a7c6c5dbd317236951d559f31af0c62539a451f380b62b7d8eccb"), looks := false }, kinds := [], alts := [], laidByText := true, laidKinds := [.data], laidTests := true, laidLooks := .later }
def BundleKeysUptoCardSaid : Prop := Claim7.holds Tryd.pinned (.plain (OpenSpec.upto bundleKeysSpec)) bundleKeysUptoCard

/-- THE SECOND FORM's CARD OF 'despatchlaw18.BundleCommon'. -/
def bundleCommonUptoCard : Claim7 := { stood := { row := bundleCommonUptoRow, standIns := [], harness := (true, "d8c85b0b195a7c6c5dbd317236951d559f31af0c62539a451f380b62b7d8eccb"), looks := false }, kinds := [], alts := [], laidByText := true, laidKinds := [.data], laidTests := true, laidLooks := .later }
def BundleCommonUptoCardSaid : Prop := Claim7.holds Tryd.pinned (.plain (OpenSpec.upto bundleCommonSpec)) bundleCommonUptoCard
end Rows
end Go.Proofs.YtbihfhkbkcplmaaDoor
