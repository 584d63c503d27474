/-
  NARROWER THAN 'FOR EVERY INPUT', by the rows' own cells (each row's printed sentence says how): MimeSplits: laid · MimeDeep: laid · MimeJoins: laid · MimeOpen: laid.
  DERIVED. THE GIVEN ROWS OF THIS SEAT. 4 by the template 'for every input the law returns true; each argument reads behind the call as it read before'; 0 by the template 'total and deterministic' (their statements: YtbbmhkdfdgnkpaaGreatDoorTotals.lean).
  GIVEN WITH THE SEED: the statements are not yours to turn. If you find one false, say at which input.
  Laid BY PROGRAM, IN A SANDBOX (cutbox-rows.mjs): the forced cells as the released guide's own fill.sh prints them over the translation f6221d55909ae340… (all of the seat's roots in one cut). By AI agents, Wed Nov 11 2026. No macro, syntax, notation, axiom, sorry.
-/
import Derived.Test.YtbbmhkdfdgnkpaaGreatDoorChecked
import GoSem.PinnedTables
import GoSem.Claim
import GoSem.ClaimJoined
import GoSem.ClaimMapViews
import Derived.JoinedTies
import Derived.KernelRfl
namespace Go.Proofs.YtbbmhkdfdgnkpaaGreatDoor
/- THE CELL 'sum', in the pinned program and in every row, IS THE sha256 OF THE DUMP (.gsa) THAT YtbbmhkdfdgnkpaaGreatDoorProg.lean LOADS. Nothing in Lean hashes anything: it is a label: what it is worth is what the hold of that sum in a sandbox is worth. -/
noncomputable def Tryz.pinned : Pinned := { name := "ytbbmhkdfdgnkpaagreatdoor", sum := "f6221d55909ae340899fd2507ea351a24a318cb6a658b74a5119463cae83ee4a", checked := Tryz.checked }
namespace Rows
def none {H : Type} : Left H := { results := [], args := [] }

/- WHAT THE LISTED PACKAGE-LEVEL VARIABLES READ AS WHEN THE CALL BEGINS. Each datum BY PROGRAM (the guide's laid-datum.mjs) off the statement by which the dump's own 'gosem.cut.vars' lays the variable. In a bare row this is a premise. The card (YtbbmhkdfdgnkpaaGreatDoorCards.lean) ties it to the program's text. -/
def laid_unicode_utf8_acceptRanges {H : Type} : DataW H := .agg [.agg [.lit (.int .u8 128), .lit (.int .u8 191)], .agg [.lit (.int .u8 160), .lit (.int .u8 191)], .agg [.lit (.int .u8 128), .lit (.int .u8 159)], .agg [.lit (.int .u8 144), .lit (.int .u8 191)], .agg [.lit (.int .u8 128), .lit (.int .u8 143)], .agg [.lit (.int .u8 0), .lit (.int .u8 0)], .agg [.lit (.int .u8 0), .lit (.int .u8 0)], .agg [.lit (.int .u8 0), .lit (.int .u8 0)], .agg [.lit (.int .u8 0), .lit (.int .u8 0)], .agg [.lit (.int .u8 0), .lit (.int .u8 0)], .agg [.lit (.int .u8 0), .lit (.int .u8 0)], .agg [.lit (.int .u8 0), .lit (.int .u8 0)], .agg [.lit (.int .u8 0), .lit (.int .u8 0)], .agg [.lit (.int .u8 0), .lit (.int .u8 0)], .agg [.lit (.int .u8 0), .lit (.int .u8 0)], .agg [.lit (.int .u8 0), .lit (.int .u8 0)]]
def laid_despatch_mime_encodings {H : Type} : DataW H := .agg [.agg [.lit (.string [56, 98, 105, 116]), .lit (.int .i64 0)], .agg [.lit (.string [98, 97, 115, 101, 54, 52]), .lit (.int .i64 1)], .agg [.lit (.string [113, 117, 111, 116, 101, 100, 45, 112, 114, 105, 110, 116, 97, 98, 108, 101]), .lit (.int .i64 2)], .agg [.lit (.string [55, 98, 105, 116]), .lit (.int .i64 0)], .agg [.lit (.string [98, 105, 110, 97, 114, 121]), .lit (.int .i64 0)], .agg [.lit (.string []), .lit (.int .i64 0)]]
/-- One of Go's own tables, pinned by name: the form's constant. -/
def laid_unicode_CaseRanges : DataW Unit := Go.Pinned.caseRanges
/-- One of Go's own tables, pinned by name: the form's constant. -/
def laid_unicode_utf8_first : DataW Unit := Go.Pinned.utf8First

/-- 'despatchlaw12.MimeSplits': WHATEVER THE INPUT: true; the input reads as it did. -/
def mimeSplitsSpec : ChangeSpec := { name := "mimeSplits", fn := fun _ => fun
  | [d1, d2] => { results := [.lit (.bool true)], args := [d1, d2] }
  | _ => none }
def mimeSplitsRow : OpenClaim := { program := "ytbbmhkdfdgnkpaagreatdoor", sum := "f6221d55909ae340899fd2507ea351a24a318cb6a658b74a5119463cae83ee4a", func := "despatch/despatchlaw12.MimeSplits", spec := "mimeSplits", inPlace := ["internal/bytealg.IndexByteString", "internal/bytealg.IndexByte", "internal/bytealg.IndexString", "internal/abi.NoEscape", "internal/bytealg.MakeNoZero", "internal/bytealg.Index"], unfollowed := true, recurses := true, named := ["unicode/utf8.first", "unicode/utf8.acceptRanges", "internal/bytealg.MaxLen", "unicode.CaseRanges", "despatch/mime.encodings"], apart := false, laid := [("unicode/utf8.acceptRanges", laid_unicode_utf8_acceptRanges), ("despatch/mime.encodings", laid_despatch_mime_encodings), ("unicode.CaseRanges", laid_unicode_CaseRanges), ("unicode/utf8.first", laid_unicode_utf8_first)] }
def MimeSplitsSaid : Prop := mimeSplitsRow.holds Tryz.pinned (OpenSpec.ofChange mimeSplitsSpec)

/-- ITS FALSE NEIGHBOUR: 'it returns false'. Refute it at one input. -/
def mimeSplitsWrong : ChangeSpec := { name := "mimeSplits", fn := fun _ => fun
  | [d1, d2] => { results := [.lit (.bool false)], args := [d1, d2] }
  | _ => none }
def MimeSplitsWrongFalsely : Prop := mimeSplitsRow.holds Tryz.pinned (OpenSpec.ofChange mimeSplitsWrong)

/-- 'despatchlaw12.MimeDeep': WHATEVER THE INPUT: true; the input reads as it did. -/
def mimeDeepSpec : ChangeSpec := { name := "mimeDeep", fn := fun _ => fun
  | [d1, d2] => { results := [.lit (.bool true)], args := [d1, d2] }
  | _ => none }
def mimeDeepRow : OpenClaim := { program := "ytbbmhkdfdgnkpaagreatdoor", sum := "f6221d55909ae340899fd2507ea351a24a318cb6a658b74a5119463cae83ee4a", func := "despatch/despatchlaw12.MimeDeep", spec := "mimeDeep", inPlace := ["internal/bytealg.IndexByteString", "internal/bytealg.IndexByte", "internal/bytealg.IndexString", "internal/abi.NoEscape", "internal/bytealg.MakeNoZero", "internal/bytealg.Index"], unfollowed := true, recurses := true, named := ["unicode/utf8.first", "unicode/utf8.acceptRanges", "internal/bytealg.MaxLen", "unicode.CaseRanges", "despatch/mime.encodings"], apart := false, laid := [("unicode/utf8.acceptRanges", laid_unicode_utf8_acceptRanges), ("despatch/mime.encodings", laid_despatch_mime_encodings), ("unicode.CaseRanges", laid_unicode_CaseRanges), ("unicode/utf8.first", laid_unicode_utf8_first)] }
def MimeDeepSaid : Prop := mimeDeepRow.holds Tryz.pinned (OpenSpec.ofChange mimeDeepSpec)

/-- ITS FALSE NEIGHBOUR: 'it returns false'. Refute it at one input. -/
def mimeDeepWrong : ChangeSpec := { name := "mimeDeep", fn := fun _ => fun
  | [d1, d2] => { results := [.lit (.bool false)], args := [d1, d2] }
  | _ => none }
def MimeDeepWrongFalsely : Prop := mimeDeepRow.holds Tryz.pinned (OpenSpec.ofChange mimeDeepWrong)

/-- 'despatchlaw12.MimeJoins': WHATEVER THE INPUT: true; the input reads as it did. -/
def mimeJoinsSpec : ChangeSpec := { name := "mimeJoins", fn := fun _ => fun
  | [d1, d2, d3, d4] => { results := [.lit (.bool true)], args := [d1, d2, d3, d4] }
  | _ => none }
def mimeJoinsRow : OpenClaim := { program := "ytbbmhkdfdgnkpaagreatdoor", sum := "f6221d55909ae340899fd2507ea351a24a318cb6a658b74a5119463cae83ee4a", func := "despatch/despatchlaw12.MimeJoins", spec := "mimeJoins", inPlace := ["internal/bytealg.IndexByteString", "internal/bytealg.IndexByte", "internal/bytealg.IndexString", "internal/abi.NoEscape", "internal/bytealg.MakeNoZero", "internal/bytealg.Index"], unfollowed := true, recurses := true, named := ["unicode/utf8.first", "unicode/utf8.acceptRanges", "internal/bytealg.MaxLen", "unicode.CaseRanges", "despatch/mime.encodings"], apart := false, laid := [("unicode/utf8.acceptRanges", laid_unicode_utf8_acceptRanges), ("despatch/mime.encodings", laid_despatch_mime_encodings), ("unicode.CaseRanges", laid_unicode_CaseRanges), ("unicode/utf8.first", laid_unicode_utf8_first)] }
def MimeJoinsSaid : Prop := mimeJoinsRow.holds Tryz.pinned (OpenSpec.ofChange mimeJoinsSpec)

/-- ITS FALSE NEIGHBOUR: 'it returns false'. Refute it at one input. -/
def mimeJoinsWrong : ChangeSpec := { name := "mimeJoins", fn := fun _ => fun
  | [d1, d2, d3, d4] => { results := [.lit (.bool false)], args := [d1, d2, d3, d4] }
  | _ => none }
def MimeJoinsWrongFalsely : Prop := mimeJoinsRow.holds Tryz.pinned (OpenSpec.ofChange mimeJoinsWrong)

/-- 'despatchlaw12.MimeOpen': WHATEVER THE INPUT: true; the input reads as it did. -/
def mimeOpenSpec : ChangeSpec := { name := "mimeOpen", fn := fun _ => fun
  | [d1, d2] => { results := [.lit (.bool true)], args := [d1, d2] }
  | _ => none }
def mimeOpenRow : OpenClaim := { program := "ytbbmhkdfdgnkpaagreatdoor", sum := "f6221d55909ae340899fd2507ea351a24a318cb6a658b74a5119463cae83ee4a", func := "despatch/despatchlaw12.MimeOpen", spec := "mimeOpen", inPlace := ["internal/bytealg.IndexByteString", "internal/bytealg.IndexByte", "internal/bytealg.IndexString", "internal/abi.NoEscape", "internal/bytealg.MakeNoZero", "internal/bytealg.Index"], unfollowed := true, recurses := true, named := ["unicode/utf8.first", "unicode/utf8.acceptRanges", "internal/bytealg.MaxLen", "unicode.CaseRanges", "despatch/mime.encodings"], apart := false, laid := [("unicode/utf8.acceptRanges", laid_unicode_utf8_acceptRanges), ("despatch/mime.encodings", laid_despatch_mime_encodings), ("unicode.CaseRanges", laid_unicode_CaseRanges), ("unicode/utf8.first", laid_unicode_utf8_first)] }
def MimeOpenSaid : Prop := mimeOpenRow.holds Tryz.pinned (OpenSpec.ofChange mimeOpenSpec)

/-- ITS FALSE NEIGHBOUR: 'it returns false'. Refute it at one input. -/
def mimeOpenWrong : ChangeSpec := { name := "mimeOpen", fn := fun _ => fun
  | [d1, d2] => { results := [.lit (.bool false)], args := [d1, d2] }
  | _ => none }
def MimeOpenWrongFalsely : Prop := mimeOpenRow.holds Tryz.pinned (OpenSpec.ofChange mimeOpenWrong)

/- THE SECOND FORM. 'bulk': how many values and letters a reading holds, each counted each time it is reached (what is shared counts as often as it is met; a slice's spare places count too). A statement '..UptoSaid' is the law's where the arguments, and the package variables that the reading takes, are together of bulk at most 1048576: NARROWER than '..Said'. Prove '..Said' where nothing that the law and all that it calls make is longer than what came in: it says more and counts as full. Else prove '..UptoSaid'. A law counts once. -/
mutual
def uptoBulk {H : Type} : DataW H → Nat
  | .lit (.string bytes) => bytes.length + 1
  | .lit _ => 1
  | .nil => 1
  | .ptr d => uptoBulk d + 1
  | .slice elems spare => uptoBulkAll elems + uptoBulkAll spare + 1
  | .agg parts => uptoBulkAll parts + 1
  | .iface _ d => uptoBulk d + 1
  | .map entries => uptoBulkEntries entries + 1
  | .held _ => 1
def uptoBulkAll {H : Type} : List (DataW H) → Nat
  | [] => 0
  | d :: r => uptoBulk d + uptoBulkAll r
def uptoBulkEntries {H : Type} : List (Lit × DataW H) → Nat
  | [] => 0
  | x :: r => uptoBulkEntry x + uptoBulkEntries r
def uptoBulkEntry {H : Type} : Lit × DataW H → Nat
  | (.string bytes, d) => bytes.length + uptoBulk d + 1
  | (_, d) => uptoBulk d + 1
 end
def uptoSmall : (H : Type) → List (DataW H) → Bool := fun _ ds => decide (uptoBulkAll ds ≤ 1048576)
def OpenSpec.upto (s : _root_.Go.ChangeSpec) : _root_.Go.OpenSpec := { _root_.Go.OpenSpec.ofChange s with cond := some uptoSmall }

/-- 'despatchlaw12.MimeSplits', WHERE WHAT IT READS IS OF BULK AT MOST 1048576: true; the input reads as it did. -/
def mimeSplitsUptoRow : OpenClaim := { program := "ytbbmhkdfdgnkpaagreatdoor", sum := "f6221d55909ae340899fd2507ea351a24a318cb6a658b74a5119463cae83ee4a", func := "despatch/despatchlaw12.MimeSplits", spec := "mimeSplits", inPlace := ["internal/bytealg.IndexByteString", "internal/bytealg.IndexByte", "internal/bytealg.IndexString", "internal/abi.NoEscape", "internal/bytealg.MakeNoZero", "internal/bytealg.Index"], unfollowed := true, recurses := true, named := ["unicode/utf8.first", "unicode/utf8.acceptRanges", "internal/bytealg.MaxLen", "unicode.CaseRanges", "despatch/mime.encodings"], apart := false, laid := [("unicode/utf8.acceptRanges", laid_unicode_utf8_acceptRanges), ("despatch/mime.encodings", laid_despatch_mime_encodings), ("unicode.CaseRanges", laid_unicode_CaseRanges), ("unicode/utf8.first", laid_unicode_utf8_first)], narrowed := true }
def MimeSplitsUptoSaid : Prop := mimeSplitsUptoRow.holds Tryz.pinned (OpenSpec.upto mimeSplitsSpec)

/-- 'despatchlaw12.MimeDeep', WHERE WHAT IT READS IS OF BULK AT MOST 1048576: true; the input reads as it did. -/
def mimeDeepUptoRow : OpenClaim := { program := "ytbbmhkdfdgnkpaagreatdoor", sum := "f6221d55909ae340899fd2507ea351a24a318cb6a658b74a5119463cae83ee4a", func := "despatch/despatchlaw12.MimeDeep", spec := "mimeDeep", inPlace := ["internal/bytealg.IndexByteString", "internal/bytealg.IndexByte", "internal/bytealg.IndexString", "internal/abi.NoEscape", "internal/bytealg.MakeNoZero", "internal/bytealg.Index"], unfollowed := true, recurses := true, named := ["unicode/utf8.first", "unicode/utf8.acceptRanges", "internal/bytealg.MaxLen", "unicode.CaseRanges", "despatch/mime.encodings"], apart := false, laid := [("unicode/utf8.acceptRanges", laid_unicode_utf8_acceptRanges), ("despatch/mime.encodings", laid_despatch_mime_encodings), ("unicode.CaseRanges", laid_unicode_CaseRanges), ("unicode/utf8.first", laid_unicode_utf8_first)], narrowed := true }
def MimeDeepUptoSaid : Prop := mimeDeepUptoRow.holds Tryz.pinned (OpenSpec.upto mimeDeepSpec)

/-- 'despatchlaw12.MimeJoins', WHERE WHAT IT READS IS OF BULK AT MOST 1048576: true; the input reads as it did. -/
def mimeJoinsUptoRow : OpenClaim := { program := "ytbbmhkdfdgnkpaagreatdoor", sum := "f6221d55909ae340899fd2507ea351a24a318cb6a658b74a5119463cae83ee4a", func := "despatch/despatchlaw12.MimeJoins", spec := "mimeJoins", inPlace := ["internal/bytealg.IndexByteString", "internal/bytealg.IndexByte", "internal/bytealg.IndexString", "internal/abi.NoEscape", "internal/bytealg.MakeNoZero", "internal/bytealg.Index"], unfollowed := true, recurses := true, named := ["unicode/utf8.first", "unicode/utf8.acceptRanges", "internal/bytealg.MaxLen", "unicode.CaseRanges", "despatch/mime.encodings"], apart := false, laid := [("unicode/utf8.acceptRanges", laid_unicode_utf8_acceptRanges), ("despatch/mime.encodings", laid_despatch_mime_encodings), ("unicode.CaseRanges", laid_unicode_CaseRanges), ("unicode/utf8.first", laid_unicode_utf8_first)], narrowed := true }
def MimeJoinsUptoSaid : Prop := mimeJoinsUptoRow.holds Tryz.pinned (OpenSpec.upto mimeJoinsSpec)

/-- 'despatchlaw12.MimeOpen', WHERE WHAT IT READS IS OF BULK AT MOST 1048576: true; the input reads as it did. -/
def mimeOpenUptoRow : OpenClaim := { program := "ytbbmhkdfdgnkpaagreatdoor", sum := "f6221d55909ae340899fd2507ea351a24a318cb6a658b74a5119463cae83ee4a", func := "despatch/despatchlaw12.MimeOpen", spec := "mimeOpen", inPlace := ["internal/bytealg.IndexByteString", "internal/bytealg.IndexByte", "internal/bytealg.IndexString", "internal/abi.NoEscape", "internal/bytealg.MakeNoZero", "internal/bytealg.Index"], unfollowed := true, recurses := true, named := ["unicode/utf8.first", "unicode/utf8.acceptRanges", "internal/bytealg.MaxLen", "unicode.CaseRanges", "despatch/mime.encodings"], apart := false, laid := [("unicode/utf8.acceptRanges", laid_unicode_utf8_acceptRanges), ("despatch/mime.encodings", laid_despatch_mime_encodings), ("unicode.CaseRanges", laid_unicode_CaseRanges), ("unicode/utf8.first", laid_unicode_utf8_first)], narrowed := true }
def MimeOpenUptoSaid : Prop := mimeOpenUptoRow.holds Tryz.pinned (OpenSpec.upto mimeOpenSpec)

end Rows
end Go.Proofs.YtbbmhkdfdgnkpaaGreatDoor
