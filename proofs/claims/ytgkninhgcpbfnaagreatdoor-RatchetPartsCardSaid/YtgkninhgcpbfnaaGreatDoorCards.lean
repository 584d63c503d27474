/-
  DERIVED. GIVEN WITH THE SEED: THE CARDS: each row of YtgkninhgcpbfnaaGreatDoorRows.lean that lists a variable, with what it lists TIED to the program's text (the seventh form; the later family's looks); each row that meets fmt, with fmt's text TOLD by the authors' own Lean function (tested against real Go, not proved from fmt's source: count such statements apart). THE CARD IS WHAT COUNTS. Prove the row's statement (the work); the ties are given (YtgkninhgcpbfnaaGreatDoorTie.lean); close each card by the builder's one call (the guide's Derived/Test/ToyasCard.lean, 'card_holds'). Laid BY PROGRAM, IN A SANDBOX (cutbox-door.mjs). By AI agents, Wed Nov 11 2026. No macro, syntax, notation, axiom, sorry.
-/
import Derived.Test.YtgkninhgcpbfnaaGreatDoorRows
import GoSem.ClaimSeven
namespace Go.Proofs.YtgkninhgcpbfnaaGreatDoor
namespace Rows

/-- THE TIED CARD OF 'despatchlaw19.RatchetDecrypts'. -/
def ratchetDecryptsCard : Claim7 := { stood := { row := ratchetDecryptsRow, standIns := [], harness := (true, "61627e993abcb48ce75960080d1b837da484ae2eb80a1a86c5bb144dc4af4ea1"), looks := false }, kinds := [], alts := [], laidByText := true, laidKinds := [.data, .data], laidTests := true, laidLooks := .later }
def RatchetDecryptsCardSaid : Prop := Claim7.holds Tryz.pinned (.plain (OpenSpec.ofChange ratchetDecryptsSpec)) ratchetDecryptsCard

/-- THE TIED CARD OF 'despatchlaw19.RatchetTurned'. -/
def ratchetTurnedCard : Claim7 := { stood := { row := ratchetTurnedRow, standIns := [], harness := (true, "61627e993abcb48ce75960080d1b837da484ae2eb80a1a86c5bb144dc4af4ea1"), looks := false }, kinds := [], alts := [], laidByText := true, laidKinds := [.data, .data], laidTests := true, laidLooks := .later }
def RatchetTurnedCardSaid : Prop := Claim7.holds Tryz.pinned (.plain (OpenSpec.ofChange ratchetTurnedSpec)) ratchetTurnedCard

/-- THE TIED CARD OF 'despatchlaw19.RatchetParts'. -/
def ratchetPartsCard : Claim7 := { stood := { row := ratchetPartsRow, standIns := [], harness := (true, "61627e993abcb48ce75960080d1b837da484ae2eb80a1a86c5bb144dc4af4ea1"), looks := false }, kinds := [], alts := [], laidByText := true, laidKinds := [.data, .data], laidTests := true, laidLooks := .later }
def RatchetPartsCardSaid : Prop := Claim7.holds Tryz.pinned (.plain (OpenSpec.ofChange ratchetPartsSpec)) ratchetPartsCard

/-- THE SECOND FORM's CARD OF 'despatchlaw19.RatchetDecrypts'. -/
def ratchetDecryptsUptoCard : Claim7 := { stood := { row := ratchetDecryptsUptoRow, standIns := [], harness := (true, "61627e993abcb48ce75960080d1b837da484ae2eb80a1a86c5bb144dc4af4ea1"), looks := false }, kinds := [], alts := [], laidByText := true, laidKinds := [.data, .data], laidTests := true, laidLooks := .later }
def RatchetDecryptsUptoCardSaid : Prop := Claim7.holds Tryz.pinned (.plain (OpenSpec.upto ratchetDecryptsSpec)) ratchetDecryptsUptoCard

/-- THE SECOND FORM's CARD OF 'despatchlaw19.RatchetTurned'. -/
def ratchetTurnedUptoCard : Claim7 := { stood := { row := ratchetTurnedUptoRow, standIns := [], harness := (true, "61627e993abcb48ce75960080d1b837da484ae2eb80a1a86c5bb144dc4af4ea1"), looks := false }, kinds := [], alts := [], laidByText := true, laidKinds := [.data, .data], laidTests := true, laidLooks := .later }
def RatchetTurnedUptoCardSaid : Prop := Claim7.holds Tryz.pinned (.plain (OpenSpec.upto ratchetTurnedSpec)) ratchetTurnedUptoCard

/-- THE SECOND FORM's CARD OF 'despatchlaw19.RatchetParts'. -/
def ratchetPartsUptoCard : Claim7 := { stood := { row := ratchetPartsUptoRow, standIns := [], harness := (true, "61627e993abcb48ce75960080d1b837da484ae2eb80a1a86c5bb144dc4af4ea1"), looks := false }, kinds := [], alts := [], laidByText := true, laidKinds := [.data, .data], laidTests := true, laidLooks := .later }
def RatchetPartsUptoCardSaid : Prop := Claim7.holds Tryz.pinned (.plain (OpenSpec.upto ratchetPartsSpec)) ratchetPartsUptoCard
end Rows
end Go.Proofs.YtgkninhgcpbfnaaGreatDoor
