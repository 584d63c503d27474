/-
  DERIVED. GIVEN WITH THE SEED: THE CARDS: each row of YtchoiikhepjdiaaDoorRows.lean that lists a variable, with what it lists TIED to the program's text (the seventh form; the later family's looks); each row that meets fmt, with fmt's text TOLD by the authors' own Lean function (tested against real Go, not proved from fmt's source: count such statements apart). THE CARD IS WHAT COUNTS. Prove the row's statement (the work); the ties are given (YtchoiikhepjdiaaDoorTie.lean); close each card by the builder's one call (the guide's Derived/Test/ToyasCard.lean, 'card_holds'). Laid BY PROGRAM, IN A SANDBOX (cutbox-door.mjs). By AI agents, Wed Nov 11 2026. No macro, syntax, notation, axiom, sorry.
-/
import Derived.Test.YtchoiikhepjdiaaDoorRows
import GoSem.ClaimSeven
namespace Go.Proofs.YtchoiikhepjdiaaDoor
namespace Rows

/-- THE TIED CARD OF 'despatchlaw09.FieldTold'. -/
def fieldToldCard : Claim7 := { stood := { row := fieldToldRow, standIns := [], harness := (true, "2114596cad5ba5e9db4703dc337b16e4e12a797d9e3302a32ae52352160a5352"), looks := false }, kinds := [], alts := [], laidByText := true, laidKinds := [.data, .pinned], laidTests := true, laidLooks := .later }
def FieldToldCardSaid : Prop := Claim7.holds Tryd.pinned (.plain (OpenSpec.ofChange fieldToldSpec)) fieldToldCard

/-- THE TIED CARD OF 'despatchlaw09.FieldBack'. -/
def fieldBackCard : Claim7 := { stood := { row := fieldBackRow, standIns := [], harness := (true, "2114596cad5ba5e9db4703dc337b16e4e12a797d9e3302a32ae52352160a5352"), looks := false }, kinds := [], alts := [], laidByText := true, laidKinds := [.data, .pinned], laidTests := true, laidLooks := .later }
def FieldBackCardSaid : Prop := Claim7.holds Tryd.pinned (.plain (OpenSpec.ofChange fieldBackSpec)) fieldBackCard

/-- THE TIED CARD OF 'despatchlaw09.FieldWidth'. -/
def fieldWidthCard : Claim7 := { stood := { row := fieldWidthRow, standIns := [], harness := (true, "2114596cad5ba5e9db4703dc337b16e4e12a797d9e3302a32ae52352160a5352"), looks := false }, kinds := [], alts := [], laidByText := true, laidKinds := [.data, .pinned], laidTests := true, laidLooks := .later }
def FieldWidthCardSaid : Prop := Claim7.holds Tryd.pinned (.plain (OpenSpec.ofChange fieldWidthSpec)) fieldWidthCard

/-- THE TIED CARD OF 'despatchlaw09.FieldFront'. -/
def fieldFrontCard : Claim7 := { stood := { row := fieldFrontRow, standIns := [], harness := (true, "2114596cad5ba5e9db4703dc337b16e4e12a797d9e3302a32ae52352160a5352"), looks := false }, kinds := [], alts := [], laidByText := true, laidKinds := [.data, .pinned], laidTests := true, laidLooks := .later }
def FieldFrontCardSaid : Prop := Claim7.holds Tryd.pinned (.plain (OpenSpec.ofChange fieldFrontSpec)) fieldFrontCard

/-- THE TIED CARD OF 'despatchlaw09.FieldNames'. -/
def fieldNamesCard : Claim7 := { stood := { row := fieldNamesRow, standIns := [], harness := (true, "2114596cad5ba5e9db4703dc337b16e4e12a797d9e3302a32ae52352160a5352"), looks := false }, kinds := [], alts := [], laidByText := true, laidKinds := [.data, .pinned], laidTests := true, laidLooks := .later }
def FieldNamesCardSaid : Prop := Claim7.holds Tryd.pinned (.plain (OpenSpec.ofChange fieldNamesSpec)) fieldNamesCard

/-- THE TIED CARD OF 'despatchlaw10.TokenBare'. -/
def tokenBareCard : Claim7 := { stood := { row := tokenBareRow, standIns := [], harness := (true, "2114596cad5ba5e9db4703dc337b16e4e12a797d9e3302a32ae52352160a5352"), looks := false }, kinds := [], alts := [], laidByText := true, laidKinds := [.data, .pinned, .pinned], laidTests := true, laidLooks := .later }
def TokenBareCardSaid : Prop := Claim7.holds Tryd.pinned (.plain (OpenSpec.ofChange tokenBareSpec)) tokenBareCard

/-- THE TIED CARD OF 'despatchlaw10.TokenAddress'. -/
def tokenAddressCard : Claim7 := { stood := { row := tokenAddressRow, standIns := [], harness := (true, "2114596cad5ba5e9db4703dc337b16e4e12a797d9e3302a32ae52352160a5352"), looks := false }, kinds := [], alts := [], laidByText := true, laidKinds := [.data, .pinned, .pinned], laidTests := true, laidLooks := .later }
def TokenAddressCardSaid : Prop := Claim7.holds Tryd.pinned (.plain (OpenSpec.ofChange tokenAddressSpec)) tokenAddressCard

/-- THE TIED CARD OF 'despatchlaw10.TokenBack'. -/
def tokenBackCard : Claim7 := { stood := { row := tokenBackRow, standIns := [], harness := (true, "2114596cad5ba5e9db4703dc337b16e4e12a797d9e3302a32ae52352160a5352"), looks := false }, kinds := [], alts := [], laidByText := true, laidKinds := [.data, .pinned, .pinned], laidTests := true, laidLooks := .later }
def TokenBackCardSaid : Prop := Claim7.holds Tryd.pinned (.plain (OpenSpec.ofChange tokenBackSpec)) tokenBackCard

/-- THE TIED CARD OF 'despatchlaw10.TokenLists'. -/
def tokenListsCard : Claim7 := { stood := { row := tokenListsRow, standIns := [], harness := (true, "2114596cad5ba5e9db4703dc337b16e4e12a797d9e3302a32ae52352160a5352"), looks := false }, kinds := [], alts := [], laidByText := true, laidKinds := [.data, .pinned, .pinned], laidTests := true, laidLooks := .later }
def TokenListsCardSaid : Prop := Claim7.holds Tryd.pinned (.plain (OpenSpec.ofChange tokenListsSpec)) tokenListsCard

/-- THE TIED CARD OF 'despatchlaw10.TokenValues'. -/
def tokenValuesCard : Claim7 := { stood := { row := tokenValuesRow, standIns := [], harness := (true, "2114596cad5ba5e9db4703dc337b16e4e12a797d9e3302a32ae52352160a5352"), looks := false }, kinds := [], alts := [], laidByText := true, laidKinds := [.data, .pinned, .pinned], laidTests := true, laidLooks := .later }
def TokenValuesCardSaid : Prop := Claim7.holds Tryd.pinned (.plain (OpenSpec.ofChange tokenValuesSpec)) tokenValuesCard

/-- THE SECOND FORM's CARD OF 'despatchlaw09.FieldTold'. -/
def fieldToldUptoCard : Claim7 := { stood := { row := fieldToldUptoRow, standIns := [], harness := (true, "2114596cad5ba5e9db4703dc337b16e4e12a797d9e3302a32ae52352160a5352"), looks := false }, kinds := [], alts := [], laidByText := true, laidKinds := [.data, .pinned], laidTests := true, laidLooks := .later }
def FieldToldUptoCardSaid : Prop := Claim7.holds Tryd.pinned (.plain (OpenSpec.upto fieldToldSpec)) fieldToldUptoCard

/-- THE SECOND FORM's CARD OF 'despatchlaw09.FieldBack'. -/
def fieldBackUptoCard : Claim7 := { stood := { row := fieldBackUptoRow, standIns := [], harness := (true, "2114596cad5ba5e9db4703dc337b16e4e12a797d9e3302a32ae52352160a5352"), looks := false }, kinds := [], alts := [], laidByText := true, laidKinds := [.data, .pinned], laidTests := true, laidLooks := .later }
def FieldBackUptoCardSaid : Prop := Claim7.holds Tryd.pinned (.plain (OpenSpec.upto fieldBackSpec)) fieldBackUptoCard

/-- THE SECOND FORM's CARD OF 'despatchlaw09.FieldWidth'. -/
def fieldWidthUptoCard : Claim7 := { stood := { row := fieldWidthUptoRow, standIns := [], harness := (true, "2114596cad5ba5e9db4703dc337b16e4e12a797d9e3302a32ae52352160a5352"), looks := false }, kinds := [], alts := [], laidByText := true, laidKinds := [.data, .pinned], laidTests := true, laidLooks := .later }
def FieldWidthUptoCardSaid : Prop := Claim7.holds Tryd.pinned (.plain (OpenSpec.upto fieldWidthSpec)) fieldWidthUptoCard

/-- THE SECOND FORM's CARD OF 'despatchlaw09.FieldFront'. -/
def fieldFrontUptoCard : Claim7 := { stood := { row := fieldFrontUptoRow, standIns := [], harness := (true, "2114596cad5ba5e9db4703dc337b16e4e12a797d9e3302a32ae52352160a5352"), looks := false }, kinds := [], alts := [], laidByText := true, laidKinds := [.data, .pinned], laidTests := true, laidLooks := .later }
def FieldFrontUptoCardSaid : Prop := Claim7.holds Tryd.pinned (.plain (OpenSpec.upto fieldFrontSpec)) fieldFrontUptoCard

/-- THE SECOND FORM's CARD OF 'despatchlaw09.FieldNames'. -/
def fieldNamesUptoCard : Claim7 := { stood := { row := fieldNamesUptoRow, standIns := [], harness := (true, "2114596cad5ba5e9db4703dc337b16e4e12a797d9e3302a32ae52352160a5352"), looks := false }, kinds := [], alts := [], laidByText := true, laidKinds := [.data, .pinned], laidTests := true, laidLooks := .later }
def FieldNamesUptoCardSaid : Prop := Claim7.holds Tryd.pinned (.plain (OpenSpec.upto fieldNamesSpec)) fieldNamesUptoCard

/-- THE SECOND FORM's CARD OF 'despatchlaw10.TokenBare'. -/
def tokenBareUptoCard : Claim7 := { stood := { row := tokenBareUptoRow, standIns := [], harness := (true, "2114596cad5ba5e9db4703dc337b16e4e12a797d9e3302a32ae52352160a5352"), looks := false }, kinds := [], alts := [], laidByText := true, laidKinds := [.data, .pinned, .pinned], laidTests := true, laidLooks := .later }
def TokenBareUptoCardSaid : Prop := Claim7.holds Tryd.pinned (.plain (OpenSpec.upto tokenBareSpec)) tokenBareUptoCard

/-- THE SECOND FORM's CARD OF 'despatchlaw10.TokenAddress'. -/
def tokenAddressUptoCard : Claim7 := { stood := { row := tokenAddressUptoRow, standIns := [], harness := (true, "2114596cad5ba5e9db4703dc337b16e4e12a797d9e3302a32ae52352160a5352"), looks := false }, kinds := [], alts := [], laidByText := true, laidKinds := [.data, .pinned, .pinned], laidTests := true, laidLooks := .later }
def TokenAddressUptoCardSaid : Prop := Claim7.holds Tryd.pinned (.plain (OpenSpec.upto tokenAddressSpec)) tokenAddressUptoCard

/-- THE SECOND FORM's CARD OF 'despatchlaw10.TokenBack'. -/
def tokenBackUptoCard : Claim7 := { stood := { row := tokenBackUptoRow, standIns := [], harness := (true, "2114596cad5ba5e9db4703dc337b16e4e12a797d9e3302a32ae52352160a5352"), looks := false }, kinds := [], alts := [], laidByText := true, laidKinds := [.data, .pinned, .pinned], laidTests := true, laidLooks := .later }
def TokenBackUptoCardSaid : Prop := Claim7.holds Tryd.pinned (.plain (OpenSpec.upto tokenBackSpec)) tokenBackUptoCard

/-- THE SECOND FORM's CARD OF 'despatchlaw10.TokenLists'. -/
def tokenListsUptoCard : Claim7 := { stood := { row := tokenListsUptoRow, standIns := [], harness := (true, "2114596cad5ba5e9db4703dc337b16e4e12a797d9e3302a32ae52352160a5352"), looks := false }, kinds := [], alts := [], laidByText := true, laidKinds := [.data, .pinned, .pinned], laidTests := true, laidLooks := .later }
def TokenListsUptoCardSaid : Prop := Claim7.holds Tryd.pinned (.plain (OpenSpec.upto tokenListsSpec)) tokenListsUptoCard

/-- THE SECOND FORM's CARD OF 'despatchlaw10.TokenValues'. -/
def tokenValuesUptoCard : Claim7 := { stood := { row := tokenValuesUptoRow, standIns := [], harness := (true, "2114596cad5ba5e9db4703dc337b16e4e12a797d9e3302a32ae52352160a5352"), looks := false }, kinds := [], alts := [], laidByText := true, laidKinds := [.data, .pinned, .pinned], laidTests := true, laidLooks := .later }
def TokenValuesUptoCardSaid : Prop := Claim7.holds Tryd.pinned (.plain (OpenSpec.upto tokenValuesSpec)) tokenValuesUptoCard
end Rows
end Go.Proofs.YtchoiikhepjdiaaDoor
