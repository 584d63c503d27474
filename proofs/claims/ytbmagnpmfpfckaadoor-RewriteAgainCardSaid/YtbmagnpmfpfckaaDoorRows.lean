/-
  NARROWER THAN 'FOR EVERY INPUT', by the rows' own cells (each row's printed sentence says how): RewriteEnds: laid · RewriteAgain: laid.
  DERIVED. THE GIVEN ROWS OF THIS SEAT. 2 by the template 'for every input the law returns true; each argument reads behind the call as it read before'; 0 by the template 'total and deterministic' (their statements: YtbmagnpmfpfckaaDoorTotals.lean).
  GIVEN WITH THE SEED: the statements are not yours to turn. If you find one false, say at which input.
  Laid BY PROGRAM, IN A SANDBOX (cutbox-rows.mjs): the forced cells as the released guide's own fill.sh prints them over the translation 117d688a9a7a99a1… (all of the seat's roots in one cut). By AI agents, Wed Nov 11 2026. No macro, syntax, notation, axiom, sorry.
-/
import Derived.Test.YtbmagnpmfpfckaaDoorChecked
import GoSem.PinnedTables
import GoSem.Claim
import GoSem.ClaimJoined
import GoSem.ClaimMapViews
import Derived.JoinedTies
import Derived.KernelRfl
namespace Go.Proofs.YtbmagnpmfpfckaaDoor
/- THE CELL 'sum', in the pinned program and in every row, IS THE sha256 OF THE DUMP (.gsa) THAT YtbmagnpmfpfckaaDoorProg.lean LOADS. Nothing in Lean hashes anything: it is a label: what it is worth is what the hold of that sum in a sandbox is worth. -/
noncomputable def Tryd.pinned : Pinned := { name := "ytbmagnpmfpfckaadoor", sum := "117d688a9a7a99a1b85296a5884b1b4cf5cb2aa4ac274f88f2948db9fc6d6186", checked := Tryd.checked }
namespace Rows
def none {H : Type} : Left H := { results := [], args := [] }

/- WHAT THE LISTED PACKAGE-LEVEL VARIABLES READ AS WHEN THE CALL BEGINS. Each datum BY PROGRAM (the guide's laid-datum.mjs) off the statement by which the dump's own 'gosem.cut.vars' lays the variable. In a bare row this is a premise. The card (YtbmagnpmfpfckaaDoorCards.lean) ties it to the program's text. -/
def laid_unicode_utf8_acceptRanges {H : Type} : DataW H := .agg [.agg [.lit (.int .u8 128), .lit (.int .u8 191)], .agg [.lit (.int .u8 160), .lit (.int .u8 191)], .agg [.lit (.int .u8 128), .lit (.int .u8 159)], .agg [.lit (.int .u8 144), .lit (.int .u8 191)], .agg [.lit (.int .u8 128), .lit (.int .u8 143)], .agg [.lit (.int .u8 0), .lit (.int .u8 0)], .agg [.lit (.int .u8 0), .lit (.int .u8 0)], .agg [.lit (.int .u8 0), .lit (.int .u8 0)], .agg [.lit (.int .u8 0), .lit (.int .u8 0)], .agg [.lit (.int .u8 0), .lit (.int .u8 0)], .agg [.lit (.int .u8 0), .lit (.int .u8 0)], .agg [.lit (.int .u8 0), .lit (.int .u8 0)], .agg [.lit (.int .u8 0), .lit (.int .u8 0)], .agg [.lit (.int .u8 0), .lit (.int .u8 0)], .agg [.lit (.int .u8 0), .lit (.int .u8 0)], .agg [.lit (.int .u8 0), .lit (.int .u8 0)]]
def laid_despatch_rewrite_protected {H : Type} : DataW H := .agg [.lit (.string [70, 114, 111, 109]), .lit (.string [84, 111]), .lit (.string [77, 101, 115, 115, 97, 103, 101, 45, 73, 68]), .lit (.string [88, 45, 84, 104, 114, 101, 97, 100]), .lit (.string [88, 45, 75, 101, 121, 115]), .lit (.string [67, 111, 110, 116, 101, 110, 116, 45, 84, 121, 112, 101]), .lit (.string [67, 111, 110, 116, 101, 110, 116, 45, 84, 114, 97, 110, 115, 102, 101, 114, 45, 69, 110, 99, 111, 100, 105, 110, 103])]
def laid_despatch_rewrite_traces {H : Type} : DataW H := .agg [.lit (.string [82, 101, 99, 101, 105, 118, 101, 100]), .lit (.string [88, 45, 84, 114, 97, 99, 101]), .lit (.string [68, 97, 116, 101])]
/-- One of Go's own tables, pinned by name: the form's constant. -/
def laid_unicode_utf8_first : DataW Unit := Go.Pinned.utf8First

/-- 'despatchlaw20.RewriteEnds': WHATEVER THE INPUT: true; the input reads as it did. -/
def rewriteEndsSpec : ChangeSpec := { name := "rewriteEnds", fn := fun _ => fun
  | [d] => { results := [.lit (.bool true)], args := [d] }
  | _ => none }
def rewriteEndsRow : OpenClaim := { program := "ytbmagnpmfpfckaadoor", sum := "117d688a9a7a99a1b85296a5884b1b4cf5cb2aa4ac274f88f2948db9fc6d6186", func := "despatch/despatchlaw20.RewriteEnds", spec := "rewriteEnds", inPlace := ["internal/bytealg.Count", "internal/bytealg.IndexByte", "internal/bytealg.Index", "internal/bytealg.IndexByteString", "internal/bytealg.IndexString"], unfollowed := true, recurses := true, named := ["internal/bytealg.MaxLen", "unicode/utf8.first", "unicode/utf8.acceptRanges", "despatch/rewrite.traces", "despatch/rewrite.protected"], apart := false, laid := [("unicode/utf8.acceptRanges", laid_unicode_utf8_acceptRanges), ("despatch/rewrite.protected", laid_despatch_rewrite_protected), ("despatch/rewrite.traces", laid_despatch_rewrite_traces), ("unicode/utf8.first", laid_unicode_utf8_first)] }
def RewriteEndsSaid : Prop := rewriteEndsRow.holds Tryd.pinned (OpenSpec.ofChange rewriteEndsSpec)

/-- ITS FALSE NEIGHBOUR: 'it returns false'. Refute it at one input. -/
def rewriteEndsWrong : ChangeSpec := { name := "rewriteEnds", fn := fun _ => fun
  | [d] => { results := [.lit (.bool false)], args := [d] }
  | _ => none }
def RewriteEndsWrongFalsely : Prop := rewriteEndsRow.holds Tryd.pinned (OpenSpec.ofChange rewriteEndsWrong)

/-- 'despatchlaw20.RewriteAgain': WHATEVER THE INPUT: true; the input reads as it did. -/
def rewriteAgainSpec : ChangeSpec := { name := "rewriteAgain", fn := fun _ => fun
  | [d1, d2] => { results := [.lit (.bool true)], args := [d1, d2] }
  | _ => none }
def rewriteAgainRow : OpenClaim := { program := "ytbmagnpmfpfckaadoor", sum := "117d688a9a7a99a1b85296a5884b1b4cf5cb2aa4ac274f88f2948db9fc6d6186", func := "despatch/despatchlaw20.RewriteAgain", spec := "rewriteAgain", inPlace := ["internal/bytealg.Count", "internal/bytealg.IndexByte", "internal/bytealg.Index", "internal/bytealg.IndexByteString", "internal/bytealg.IndexString"], unfollowed := true, recurses := true, named := ["internal/bytealg.MaxLen", "unicode/utf8.first", "unicode/utf8.acceptRanges", "despatch/rewrite.traces", "despatch/rewrite.protected"], apart := false, laid := [("unicode/utf8.acceptRanges", laid_unicode_utf8_acceptRanges), ("despatch/rewrite.protected", laid_despatch_rewrite_protected), ("despatch/rewrite.traces", laid_despatch_rewrite_traces), ("unicode/utf8.first", laid_unicode_utf8_first)] }
def RewriteAgainSaid : Prop := rewriteAgainRow.holds Tryd.pinned (OpenSpec.ofChange rewriteAgainSpec)

/-- ITS FALSE NEIGHBOUR: 'it returns false'. Refute it at one input. -/
def rewriteAgainWrong : ChangeSpec := { name := "rewriteAgain", fn := fun _ => fun
  | [d1, d2] => { results := [.lit (.bool false)], args := [d1, d2] }
  | _ => none }
def RewriteAgainWrongFalsely : Prop := rewriteAgainRow.holds Tryd.pinned (OpenSpec.ofChange rewriteAgainWrong)

/- THE SECOND FORM. 'bulk': how many values and letters a reading holds, each counted each time it is reached (what is shared counts as often as it is met; a slice's spare places count too). A statement '..UptoSaid' is the law's where the arguments, and the package variables that the reading takes, are together of bulk at most 1048576: NARROWER than '..Said'. Prove '..Said' where nothing that the law and all that it calls make is longer than what came in: it says more and counts as full. Else prove '..UptoSaid'. A law counts once. -/
mutual
def uptoBulk {H : Type} : DataW H → Nat
  | .lit (.string bytes) => bytes.length + 1
  | .lit _ => 1
  | .nil => 1
  | .ptr d => uptoBulk d + 1
  | .slice elems spare => uptoBulkAll elems + uptoBulkAll spare + 1
  | .agg parts => uptoBulkAll parts + 1
  | .iface _ d => uptoBulk d + 1
  | .map entries => uptoBulkEntries entries + 1
  | .held _ => 1
def uptoBulkAll {H : Type} : List (DataW H) → Nat
  | [] => 0
  | d :: r => uptoBulk d + uptoBulkAll r
def uptoBulkEntries {H : Type} : List (Lit × DataW H) → Nat
  | [] => 0
  | x :: r => uptoBulkEntry x + uptoBulkEntries r
def uptoBulkEntry {H : Type} : Lit × DataW H → Nat
  | (.string bytes, d) => bytes.length + uptoBulk d + 1
  | (_, d) => uptoBulk d + 1
 end
def uptoSmall : (H : Type) → List (DataW H) → Bool := fun _ ds => decide (uptoBulkAll ds ≤ 1048576)
def OpenSpec.upto (s : _root_.Go.ChangeSpec) : _root_.Go.OpenSpec := { _root_.Go.OpenSpec.ofChange s with cond := some uptoSmall }

/-- 'despatchlaw20.RewriteEnds', WHERE WHAT IT READS IS OF BULK AT MOST 1048576: true; the input reads as it did. -/
def rewriteEndsUptoRow : OpenClaim := { program := "ytbmagnpmfpfckaadoor", sum := "117d688a9a7a99a1b85296a5884b1b4cf5cb2aa4ac274f88f2948db9fc6d6186", func := "despatch/despatchlaw20.RewriteEnds", spec := "rewriteEnds", inPlace := ["internal/bytealg.Count", "internal/bytealg.IndexByte", "internal/bytealg.Index", "internal/bytealg.IndexByteString", "internal/bytealg.IndexString"], unfollowed := true, recurses := true, named := ["internal/bytealg.MaxLen", "unicode/utf8.first", "unicode/utf8.acceptRanges", "despatch/rewrite.traces", "despatch/rewrite.protected"], apart := false, laid := [("unicode/utf8.acceptRanges", laid_unicode_utf8_acceptRanges), ("despatch/rewrite.protected", laid_despatch_rewrite_protected), ("despatch/rewrite.traces", laid_despatch_rewrite_traces), ("unicode/utf8.first", laid_unicode_utf8_first)], narrowed := true }
def RewriteEndsUptoSaid : Prop := rewriteEndsUptoRow.holds Tryd.pinned (OpenSpec.upto rewriteEndsSpec)

/-- 'despatchlaw20.RewriteAgain', WHERE WHAT IT READS IS OF BULK AT MOST 1048576: true; the input reads as it did. -/
def rewriteAgainUptoRow : OpenClaim := { program := "ytbmagnpmfpfckaadoor", sum := "117d688a9a7a99a1b85296a5884b1b4cf5cb2aa4ac274f88f2948db9fc6d6186", func := "despatch/despatchlaw20.RewriteAgain", spec := "rewriteAgain", inPlace := ["internal/bytealg.Count", "internal/bytealg.IndexByte", "internal/bytealg.Index", "internal/bytealg.IndexByteString", "internal/bytealg.IndexString"], unfollowed := true, recurses := true, named := ["internal/bytealg.MaxLen", "unicode/utf8.first", "unicode/utf8.acceptRanges", "despatch/rewrite.traces", "despatch/rewrite.protected"], apart := false, laid := [("unicode/utf8.acceptRanges", laid_unicode_utf8_acceptRanges), ("despatch/rewrite.protected", laid_despatch_rewrite_protected), ("despatch/rewrite.traces", laid_despatch_rewrite_traces), ("unicode/utf8.first", laid_unicode_utf8_first)], narrowed := true }
def RewriteAgainUptoSaid : Prop := rewriteAgainUptoRow.holds Tryd.pinned (OpenSpec.upto rewriteAgainSpec)

end Rows
end Go.Proofs.YtbmagnpmfpfckaaDoor
