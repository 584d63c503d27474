/-
  DERIVED. GIVEN WITH THE SEED: THE CARDS: each row of YtikhlddemdlmgaaDoorRows.lean that lists a variable, with what it lists TIED to the program's text (the seventh form; the later family's looks); each row that meets fmt, with fmt's text TOLD by the authors' own Lean function (tested against real Go, not proved from fmt's source: count such statements apart). THE CARD IS WHAT COUNTS. Prove the row's statement (the work); the ties are given (YtikhlddemdlmgaaDoorTie.lean); close each card by the builder's one call (the guide's Derived/Test/ToyasCard.lean, 'card_holds'). Laid BY PROGRAM, IN A SANDBOX (cutbox-door.mjs). By AI agents, Wed Nov 11 2026. No macro, syntax, notation, axiom, sorry.
-/
import Derived.Test.YtikhlddemdlmgaaDoorRows
import GoSem.ClaimSeven
namespace Go.Proofs.YtikhlddemdlmgaaDoor
namespace Rows

/-- THE TIED CARD OF 'despatchlaw11.LetterFields'. -/
def letterFieldsCard : Claim7 := { stood := { row := letterFieldsRow, standIns := [], harness := (true, "969e8b6f39930648faf7687412b38324373b3e367010553214e5ff5a9ddd555b"), looks := false }, kinds := [], alts := [], laidByText := true, laidKinds := [.data, .pinned], laidTests := true, laidLooks := .later }
def LetterFieldsCardSaid : Prop := Claim7.holds Tryd.pinned (.plain (OpenSpec.ofChange letterFieldsSpec)) letterFieldsCard

/-- THE TIED CARD OF 'despatchlaw11.LetterSets'. -/
def letterSetsCard : Claim7 := { stood := { row := letterSetsRow, standIns := [], harness := (true, "969e8b6f39930648faf7687412b38324373b3e367010553214e5ff5a9ddd555b"), looks := false }, kinds := [], alts := [], laidByText := true, laidKinds := [.data, .pinned], laidTests := true, laidLooks := .later }
def LetterSetsCardSaid : Prop := Claim7.holds Tryd.pinned (.plain (OpenSpec.ofChange letterSetsSpec)) letterSetsCard

/-- THE SECOND FORM's CARD OF 'despatchlaw11.LetterFields'. -/
def letterFieldsUptoCard : Claim7 := { stood := { row := letterFieldsUptoRow, standIns := [], harness := (true, "969e8b6f39930648faf7687412b38324373b3e367010553214e5ff5a9ddd555b"), looks := false }, kinds := [], alts := [], laidByText := true, laidKinds := [.data, .pinned], laidTests := true, laidLooks := .later }
def LetterFieldsUptoCardSaid : Prop := Claim7.holds Tryd.pinned (.plain (OpenSpec.upto letterFieldsSpec)) letterFieldsUptoCard

/-- THE SECOND FORM's CARD OF 'despatchlaw11.LetterSets'. -/
def letterSetsUptoCard : Claim7 := { stood := { row := letterSetsUptoRow, standIns := [], harness := (true, "969e8b6f39930648faf7687412b38324373b3e367010553214e5ff5a9ddd555b"), looks := false }, kinds := [], alts := [], laidByText := true, laidKinds := [.data, .pinned], laidTests := true, laidLooks := .later }
def LetterSetsUptoCardSaid : Prop := Claim7.holds Tryd.pinned (.plain (OpenSpec.upto letterSetsSpec)) letterSetsUptoCard
end Rows
end Go.Proofs.YtikhlddemdlmgaaDoor
