/-
  DERIVED. GIVEN WITH THE SEED: THE CARDS: each row of YtkfeolclllhfpaaDoorRows.lean that lists a variable, with what it lists TIED to the program's text (the seventh form; the later family's looks); each row that meets fmt, with fmt's text TOLD by the authors' own Lean function (tested against real Go, not proved from fmt's source: count such statements apart). THE CARD IS WHAT COUNTS. Prove the row's statement (the work); the ties are given (YtkfeolclllhfpaaDoorTie.lean); close each card by the builder's one call (the guide's Derived/Test/ToyasCard.lean, 'card_holds'). Laid BY PROGRAM, IN A SANDBOX (cutbox-door.mjs). By AI agents, Wed Nov 11 2026. No macro, syntax, notation, axiom, sorry.
-/
import Derived.Test.YtkfeolclllhfpaaDoorRows
import GoSem.ClaimSeven
namespace Go.Proofs.YtkfeolclllhfpaaDoor
namespace Rows

/-- THE TIED CARD OF 'despatchlaw19.RatchetEncrypts'. -/
def ratchetEncryptsCard : Claim7 := { stood := { row := ratchetEncryptsRow, standIns := [], harness := (true, "79b932a14f4c48ae8c991ea5a1c0a01d57a93b7fa4768c73af16103f33de6f1f"), looks := false }, kinds := [], alts := [], laidByText := true, laidKinds := [.data, .data], laidTests := true, laidLooks := .later }
def RatchetEncryptsCardSaid : Prop := Claim7.holds Tryd.pinned (.plain (OpenSpec.ofChange ratchetEncryptsSpec)) ratchetEncryptsCard

/-- THE TIED CARD OF 'despatchlaw19.RatchetCodes'. -/
def ratchetCodesCard : Claim7 := { stood := { row := ratchetCodesRow, standIns := [], harness := (true, "79b932a14f4c48ae8c991ea5a1c0a01d57a93b7fa4768c73af16103f33de6f1f"), looks := false }, kinds := [], alts := [], laidByText := true, laidKinds := [.data, .data], laidTests := true, laidLooks := .later }
def RatchetCodesCardSaid : Prop := Claim7.holds Tryd.pinned (.plain (OpenSpec.ofChange ratchetCodesSpec)) ratchetCodesCard

/-- THE TIED CARD OF 'despatchlaw19.RatchetFar'. -/
def ratchetFarCard : Claim7 := { stood := { row := ratchetFarRow, standIns := [], harness := (true, "79b932a14f4c48ae8c991ea5a1c0a01d57a93b7fa4768c73af16103f33de6f1f"), looks := false }, kinds := [], alts := [], laidByText := true, laidKinds := [.data, .data], laidTests := true, laidLooks := .later }
def RatchetFarCardSaid : Prop := Claim7.holds Tryd.pinned (.plain (OpenSpec.ofChange ratchetFarSpec)) ratchetFarCard

/-- THE SECOND FORM's CARD OF 'despatchlaw19.RatchetEncrypts'. -/
def ratchetEncryptsUptoCard : Claim7 := { stood := { row := ratchetEncryptsUptoRow, standIns := [], harness := (true, "79b932a14f4c48ae8c991ea5a1c0a01d57a93b7fa4768c73af16103f33de6f1f"), looks := false }, kinds := [], alts := [], laidByText := true, laidKinds := [.data, .data], laidTests := true, laidLooks := .later }
def RatchetEncryptsUptoCardSaid : Prop := Claim7.holds Tryd.pinned (.plain (OpenSpec.upto ratchetEncryptsSpec)) ratchetEncryptsUptoCard

/-- THE SECOND FORM's CARD OF 'despatchlaw19.RatchetCodes'. -/
def ratchetCodesUptoCard : Claim7 := { stood := { row := ratchetCodesUptoRow, standIns := [], harness := (true, "79b932a14f4c48ae8c991ea5a1c0a01d57a93b7fa4768c73af16103f33de6f1f"), looks := false }, kinds := [], alts := [], laidByText := true, laidKinds := [.data, .data], laidTests := true, laidLooks := .later }
def RatchetCodesUptoCardSaid : Prop := Claim7.holds Tryd.pinned (.plain (OpenSpec.upto ratchetCodesSpec)) ratchetCodesUptoCard

/-- THE SECOND FORM's CARD OF 'despatchlaw19.RatchetFar'. -/
def ratchetFarUptoCard : Claim7 := { stood := { row := ratchetFarUptoRow, standIns := [], harness := (true, "79b932a14f4c48ae8c991ea5a1c0a01d57a93b7fa4768c73af16103f33de6f1f"), looks := false }, kinds := [], alts := [], laidByText := true, laidKinds := [.data, .data], laidTests := true, laidLooks := .later }
def RatchetFarUptoCardSaid : Prop := Claim7.holds Tryd.pinned (.plain (OpenSpec.upto ratchetFarSpec)) ratchetFarUptoCard
end Rows
end Go.Proofs.YtkfeolclllhfpaaDoor
