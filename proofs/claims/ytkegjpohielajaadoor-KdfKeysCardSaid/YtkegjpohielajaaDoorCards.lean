/-
  DERIVED. GIVEN WITH THE SEED: THE CARDS: each row of YtkegjpohielajaaDoorRows.lean that lists a variable, with what it lists TIED to the program's text (the seventh form; the later family's looks); each row that meets fmt, with fmt's text TOLD by the authors' own Lean function (tested against real Go, not proved from fmt's source: count such statements apart). THE CARD IS WHAT COUNTS. Prove the row's statement (the work); the ties are given (YtkegjpohielajaaDoorTie.lean); close each card by the builder's one call (the guide's Derived/Test/ToyasCard.lean, 'card_holds'). Laid BY PROGRAM, IN A SANDBOX (cutbox-door.mjs). By AI agents, Wed Nov 11 2026. No macro, syntax, notation, axiom, sorry.
-/
import Derived.Test.YtkegjpohielajaaDoorRows
import GoSem.ClaimSeven
namespace Go.Proofs.YtkegjpohielajaaDoor
namespace Rows

/-- THE TIED CARD OF 'despatchlaw01.HashSums'. -/
def hashSumsCard : Claim7 := { stood := { row := hashSumsRow, standIns := [], harness := (true, "3287aa578f8876749b412ecf5e5b607f48cba69f952bb434a766cf4a40118204"), looks := false }, kinds := [], alts := [], laidByText := true, laidKinds := [.data], laidTests := true, laidLooks := .later }
def HashSumsCardSaid : Prop := Claim7.holds Tryd.pinned (.plain (OpenSpec.ofChange hashSumsSpec)) hashSumsCard

/-- THE TIED CARD OF 'despatchlaw01.HashParts'. -/
def hashPartsCard : Claim7 := { stood := { row := hashPartsRow, standIns := [], harness := (true, "3287aa578f8876749b412ecf5e5b607f48cba69f952bb434a766cf4a40118204"), looks := false }, kinds := [], alts := [], laidByText := true, laidKinds := [.data], laidTests := true, laidLooks := .later }
def HashPartsCardSaid : Prop := Claim7.holds Tryd.pinned (.plain (OpenSpec.ofChange hashPartsSpec)) hashPartsCard

/-- THE TIED CARD OF 'despatchlaw01.HashKeys'. -/
def hashKeysCard : Claim7 := { stood := { row := hashKeysRow, standIns := [], harness := (true, "3287aa578f8876749b412ecf5e5b607f48cba69f952bb434a766cf4a40118204"), looks := false }, kinds := [], alts := [], laidByText := true, laidKinds := [.data], laidTests := true, laidLooks := .later }
def HashKeysCardSaid : Prop := Claim7.holds Tryd.pinned (.plain (OpenSpec.ofChange hashKeysSpec)) hashKeysCard

/-- THE TIED CARD OF 'despatchlaw01.HashUnlike'. -/
def hashUnlikeCard : Claim7 := { stood := { row := hashUnlikeRow, standIns := [], harness := (true, "3287aa578f8876749b412ecf5e5b607f48cba69f952bb434a766cf4a40118204"), looks := false }, kinds := [], alts := [], laidByText := true, laidKinds := [.data], laidTests := true, laidLooks := .later }
def HashUnlikeCardSaid : Prop := Claim7.holds Tryd.pinned (.plain (OpenSpec.ofChange hashUnlikeSpec)) hashUnlikeCard

/-- THE TIED CARD OF 'despatchlaw02.KdfBytes'. -/
def kdfBytesCard : Claim7 := { stood := { row := kdfBytesRow, standIns := [], harness := (true, "3287aa578f8876749b412ecf5e5b607f48cba69f952bb434a766cf4a40118204"), looks := false }, kinds := [], alts := [], laidByText := true, laidKinds := [.data], laidTests := true, laidLooks := .later }
def KdfBytesCardSaid : Prop := Claim7.holds Tryd.pinned (.plain (OpenSpec.ofChange kdfBytesSpec)) kdfBytesCard

/-- THE TIED CARD OF 'despatchlaw02.KdfKeys'. -/
def kdfKeysCard : Claim7 := { stood := { row := kdfKeysRow, standIns := [], harness := (true, "3287aa578f8876749b412ecf5e5b607f48cba69f952bb434a766cf4a40118204"), looks := false }, kinds := [], alts := [], laidByText := true, laidKinds := [.data], laidTests := true, laidLooks := .later }
def KdfKeysCardSaid : Prop := Claim7.holds Tryd.pinned (.plain (OpenSpec.ofChange kdfKeysSpec)) kdfKeysCard

/-- THE TIED CARD OF 'despatchlaw02.KdfFront'. -/
def kdfFrontCard : Claim7 := { stood := { row := kdfFrontRow, standIns := [], harness := (true, "3287aa578f8876749b412ecf5e5b607f48cba69f952bb434a766cf4a40118204"), looks := false }, kinds := [], alts := [], laidByText := true, laidKinds := [.data], laidTests := true, laidLooks := .later }
def KdfFrontCardSaid : Prop := Claim7.holds Tryd.pinned (.plain (OpenSpec.ofChange kdfFrontSpec)) kdfFrontCard

/-- THE TIED CARD OF 'despatchlaw02.KdfSteps'. -/
def kdfStepsCard : Claim7 := { stood := { row := kdfStepsRow, standIns := [], harness := (true, "3287aa578f8876749b412ecf5e5b607f48cba69f952bb434a766cf4a40118204"), looks := false }, kinds := [], alts := [], laidByText := true, laidKinds := [.data], laidTests := true, laidLooks := .later }
def KdfStepsCardSaid : Prop := Claim7.holds Tryd.pinned (.plain (OpenSpec.ofChange kdfStepsSpec)) kdfStepsCard

/-- THE SECOND FORM's CARD OF 'despatchlaw01.HashSums'. -/
def hashSumsUptoCard : Claim7 := { stood := { row := hashSumsUptoRow, standIns := [], harness := (true, "3287aa578f8876749b412ecf5e5b607f48cba69f952bb434a766cf4a40118204"), looks := false }, kinds := [], alts := [], laidByText := true, laidKinds := [.data], laidTests := true, laidLooks := .later }
def HashSumsUptoCardSaid : Prop := Claim7.holds Tryd.pinned (.plain (OpenSpec.upto hashSumsSpec)) hashSumsUptoCard

/-- THE SECOND FORM's CARD OF 'despatchlaw01.HashParts'. -/
def hashPartsUptoCard : Claim7 := { stood := { row := hashPartsUptoRow, standIns := [], harness := (true, "3287aa578f8876749b412ecf5e5b607f48cba69f952bb434a766cf4a40118204"), looks := false }, kinds := [], alts := [], laidByText := true, laidKinds := [.data], laidTests := true, laidLooks := .later }
def HashPartsUptoCardSaid : Prop := Claim7.holds Tryd.pinned (.plain (OpenSpec.upto hashPartsSpec)) hashPartsUptoCard

/-- THE SECOND FORM's CARD OF 'despatchlaw01.HashKeys'. -/
def hashKeysUptoCard : Claim7 := { stood := { row := hashKeysUptoRow, standIns := [], harness := (true, "3287aa578f8876749b412ecf5e5b607f48cba69f952bb434a766cf4a40118204"), looks := false }, kinds := [], alts := [], laidByText := true, laidKinds := [.data], laidTests := true, laidLooks := .later }
def HashKeysUptoCardSaid : Prop := Claim7.holds Tryd.pinned (.plain (OpenSpec.upto hashKeysSpec)) hashKeysUptoCard

/-- THE SECOND FORM's CARD OF 'despatchlaw01.HashUnlike'. -/
def hashUnlikeUptoCard : Claim7 := { stood := { row := hashUnlikeUptoRow, standIns := [], harness := (true, "3287aa578f8876749b412ecf5e5b607f48cba69f952bb434a766cf4a40118204"), looks := false }, kinds := [], alts := [], laidByText := true, laidKinds := [.data], laidTests := true, laidLooks := .later }
def HashUnlikeUptoCardSaid : Prop := Claim7.holds Tryd.pinned (.plain (OpenSpec.upto hashUnlikeSpec)) hashUnlikeUptoCard

/-- THE SECOND FORM's CARD OF 'despatchlaw02.KdfBytes'. -/
def kdfBytesUptoCard : Claim7 := { stood := { row := kdfBytesUptoRow, standIns := [], harness := (true, "3287aa578f8876749b412ecf5e5b607f48cba69f952bb434a766cf4a40118204"), looks := false }, kinds := [], alts := [], laidByText := true, laidKinds := [.data], laidTests := true, laidLooks := .later }
def KdfBytesUptoCardSaid : Prop := Claim7.holds Tryd.pinned (.plain (OpenSpec.upto kdfBytesSpec)) kdfBytesUptoCard

/-- THE SECOND FORM's CARD OF 'despatchlaw02.KdfKeys'. -/
def kdfKeysUptoCard : Claim7 := { stood := { row := kdfKeysUptoRow, standIns := [], harness := (true, "3287aa578f8876749b412ecf5e5b607f48cba69f952bb434a766cf4a40118204"), looks := false }, kinds := [], alts := [], laidByText := true, laidKinds := [.data], laidTests := true, laidLooks := .later }
def KdfKeysUptoCardSaid : Prop := Claim7.holds Tryd.pinned (.plain (OpenSpec.upto kdfKeysSpec)) kdfKeysUptoCard

/-- THE SECOND FORM's CARD OF 'despatchlaw02.KdfFront'. -/
def kdfFrontUptoCard : Claim7 := { stood := { row := kdfFrontUptoRow, standIns := [], harness := (true, "3287aa578f8876749b412ecf5e5b607f48cba69f952bb434a766cf4a40118204"), looks := false }, kinds := [], alts := [], laidByText := true, laidKinds := [.data], laidTests := true, laidLooks := .later }
def KdfFrontUptoCardSaid : Prop := Claim7.holds Tryd.pinned (.plain (OpenSpec.upto kdfFrontSpec)) kdfFrontUptoCard

/-- THE SECOND FORM's CARD OF 'despatchlaw02.KdfSteps'. -/
def kdfStepsUptoCard : Claim7 := { stood := { row := kdfStepsUptoRow, standIns := [], harness := (true, "3287aa578f8876749b412ecf5e5b607f48cba69f952bb434a766cf4a40118204"), looks := false }, kinds := [], alts := [], laidByText := true, laidKinds := [.data], laidTests := true, laidLooks := .later }
def KdfStepsUptoCardSaid : Prop := Claim7.holds Tryd.pinned (.plain (OpenSpec.upto kdfStepsSpec)) kdfStepsUptoCard
end Rows
end Go.Proofs.YtkegjpohielajaaDoor
