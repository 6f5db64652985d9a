/-
  NARROWER THAN 'FOR EVERY INPUT', by the rows' own cells (each row's printed sentence says how): FnCsv: laid · FnCsvRead: laid · FnExactCsvField: laid · FnExactCsvText: laid · FnExactReadCsv: laid.
  DERIVED. THE GIVEN ROWS OF THIS SEAT. 5 by the template 'for every input the law returns true; each argument reads behind the call as it read before'; 0 by the template 'total and deterministic' (their statements: YtklhkebpgoajgaaDoorTotals.lean).
  GIVEN WITH THE SEED: the statements are not yours to turn. If you find one false, say at which input.
  Laid BY PROGRAM, IN A SANDBOX (cutbox-rows.mjs): the forced cells as the released guide's own fill.sh prints them over the translation 52b4c9cbfd9376a1… (all of the seat's roots in one cut). By AI agents, Wed Nov 11 2026. No macro, syntax, notation, axiom, sorry.
-/
import Derived.Test.YtklhkebpgoajgaaDoorChecked
import GoSem.PinnedTables
import GoSem.Claim
import GoSem.ClaimJoined
import GoSem.ClaimMapViews
import Derived.JoinedTies
import Derived.KernelRfl
namespace Go.Proofs.YtklhkebpgoajgaaDoor
/- THE CELL 'sum', in the pinned program and in every row, IS THE sha256 OF THE DUMP (.gsa) THAT YtklhkebpgoajgaaDoorProg.lean LOADS. Nothing in Lean hashes anything: it is a label: what it is worth is what the hold of that sum in a sandbox is worth. -/
noncomputable def Tryd.pinned : Pinned := { name := "ytklhkebpgoajgaadoor", sum := "52b4c9cbfd9376a16c5d965c8bab160035b2cc745a74f6ba553e4899c5868e04", checked := Tryd.checked }
namespace Rows
def none {H : Type} : Left H := { results := [], args := [] }

/- WHAT THE LISTED PACKAGE-LEVEL VARIABLES READ AS WHEN THE CALL BEGINS. Each datum BY PROGRAM (the guide's laid-datum.mjs) off the statement by which the dump's own 'gosem.cut.vars' lays the variable. In a bare row this is a premise. The card (YtklhkebpgoajgaaDoorCards.lean) ties it to the program's text. -/
def laid_unicode_utf8_acceptRanges {H : Type} : DataW H := .agg [.agg [.lit (.int .u8 128), .lit (.int .u8 191)], .agg [.lit (.int .u8 160), .lit (.int .u8 191)], .agg [.lit (.int .u8 128), .lit (.int .u8 159)], .agg [.lit (.int .u8 144), .lit (.int .u8 191)], .agg [.lit (.int .u8 128), .lit (.int .u8 143)], .agg [.lit (.int .u8 0), .lit (.int .u8 0)], .agg [.lit (.int .u8 0), .lit (.int .u8 0)], .agg [.lit (.int .u8 0), .lit (.int .u8 0)], .agg [.lit (.int .u8 0), .lit (.int .u8 0)], .agg [.lit (.int .u8 0), .lit (.int .u8 0)], .agg [.lit (.int .u8 0), .lit (.int .u8 0)], .agg [.lit (.int .u8 0), .lit (.int .u8 0)], .agg [.lit (.int .u8 0), .lit (.int .u8 0)], .agg [.lit (.int .u8 0), .lit (.int .u8 0)], .agg [.lit (.int .u8 0), .lit (.int .u8 0)], .agg [.lit (.int .u8 0), .lit (.int .u8 0)]]
/-- One of Go's own tables, pinned by name: the form's constant. -/
def laid_unicode_utf8_first : DataW Unit := Go.Pinned.utf8First

/-- 'laws.FnCsv': WHATEVER THE INPUT: true; the input reads as it did. -/
def fnCsvSpec : ChangeSpec := { name := "fnCsv", fn := fun _ => fun
  | [d] => { results := [.lit (.bool true)], args := [d] }
  | _ => none }
def fnCsvRow : OpenClaim := { program := "ytklhkebpgoajgaadoor", sum := "52b4c9cbfd9376a16c5d965c8bab160035b2cc745a74f6ba553e4899c5868e04", func := "loop.example/g00500/laws.FnCsv", spec := "fnCsv", inPlace := ["internal/abi.NoEscape", "internal/bytealg.IndexByteString", "internal/bytealg.IndexString", "internal/bytealg.CountString", "internal/bytealg.MakeNoZero"], unfollowed := true, recurses := true, named := ["internal/bytealg.MaxLen", "unicode/utf8.first", "unicode/utf8.acceptRanges"], apart := false, laid := [("unicode/utf8.acceptRanges", laid_unicode_utf8_acceptRanges), ("unicode/utf8.first", laid_unicode_utf8_first)] }
def FnCsvSaid : Prop := fnCsvRow.holds Tryd.pinned (OpenSpec.ofChange fnCsvSpec)

/-- ITS FALSE NEIGHBOUR: 'it returns false'. Refute it at one input. -/
def fnCsvWrong : ChangeSpec := { name := "fnCsv", fn := fun _ => fun
  | [d] => { results := [.lit (.bool false)], args := [d] }
  | _ => none }
def FnCsvWrongFalsely : Prop := fnCsvRow.holds Tryd.pinned (OpenSpec.ofChange fnCsvWrong)

/-- 'laws.FnCsvRead': WHATEVER THE INPUT: true; the input reads as it did. -/
def fnCsvReadSpec : ChangeSpec := { name := "fnCsvRead", fn := fun _ => fun
  | [d] => { results := [.lit (.bool true)], args := [d] }
  | _ => none }
def fnCsvReadRow : OpenClaim := { program := "ytklhkebpgoajgaadoor", sum := "52b4c9cbfd9376a16c5d965c8bab160035b2cc745a74f6ba553e4899c5868e04", func := "loop.example/g00500/laws.FnCsvRead", spec := "fnCsvRead", inPlace := ["internal/bytealg.CountString", "internal/bytealg.IndexByteString", "internal/bytealg.IndexString", "internal/abi.NoEscape", "internal/bytealg.MakeNoZero"], named := ["internal/bytealg.MaxLen", "unicode/utf8.first", "unicode/utf8.acceptRanges"], apart := false, laid := [("unicode/utf8.acceptRanges", laid_unicode_utf8_acceptRanges), ("unicode/utf8.first", laid_unicode_utf8_first)] }
def FnCsvReadSaid : Prop := fnCsvReadRow.holds Tryd.pinned (OpenSpec.ofChange fnCsvReadSpec)

/-- ITS FALSE NEIGHBOUR: 'it returns false'. Refute it at one input. -/
def fnCsvReadWrong : ChangeSpec := { name := "fnCsvRead", fn := fun _ => fun
  | [d] => { results := [.lit (.bool false)], args := [d] }
  | _ => none }
def FnCsvReadWrongFalsely : Prop := fnCsvReadRow.holds Tryd.pinned (OpenSpec.ofChange fnCsvReadWrong)

/-- 'laws.FnExactCsvField': WHATEVER THE INPUT: true; the input reads as it did. -/
def fnExactCsvFieldSpec : ChangeSpec := { name := "fnExactCsvField", fn := fun _ => fun
  | [d] => { results := [.lit (.bool true)], args := [d] }
  | _ => none }
def fnExactCsvFieldRow : OpenClaim := { program := "ytklhkebpgoajgaadoor", sum := "52b4c9cbfd9376a16c5d965c8bab160035b2cc745a74f6ba553e4899c5868e04", func := "loop.example/g00500/laws.FnExactCsvField", spec := "fnExactCsvField", inPlace := ["internal/bytealg.IndexByteString", "internal/bytealg.IndexString", "internal/bytealg.CountString", "internal/abi.NoEscape", "internal/bytealg.MakeNoZero"], named := ["internal/bytealg.MaxLen", "unicode/utf8.first", "unicode/utf8.acceptRanges"], apart := false, laid := [("unicode/utf8.acceptRanges", laid_unicode_utf8_acceptRanges), ("unicode/utf8.first", laid_unicode_utf8_first)] }
def FnExactCsvFieldSaid : Prop := fnExactCsvFieldRow.holds Tryd.pinned (OpenSpec.ofChange fnExactCsvFieldSpec)

/-- ITS FALSE NEIGHBOUR: 'it returns false'. Refute it at one input. -/
def fnExactCsvFieldWrong : ChangeSpec := { name := "fnExactCsvField", fn := fun _ => fun
  | [d] => { results := [.lit (.bool false)], args := [d] }
  | _ => none }
def FnExactCsvFieldWrongFalsely : Prop := fnExactCsvFieldRow.holds Tryd.pinned (OpenSpec.ofChange fnExactCsvFieldWrong)

/-- 'laws.FnExactCsvText': WHATEVER THE INPUT: true; the input reads as it did. -/
def fnExactCsvTextSpec : ChangeSpec := { name := "fnExactCsvText", fn := fun _ => fun
  | [d] => { results := [.lit (.bool true)], args := [d] }
  | _ => none }
def fnExactCsvTextRow : OpenClaim := { program := "ytklhkebpgoajgaadoor", sum := "52b4c9cbfd9376a16c5d965c8bab160035b2cc745a74f6ba553e4899c5868e04", func := "loop.example/g00500/laws.FnExactCsvText", spec := "fnExactCsvText", inPlace := ["internal/abi.NoEscape", "internal/bytealg.IndexByteString", "internal/bytealg.IndexString", "internal/bytealg.CountString", "internal/bytealg.MakeNoZero"], named := ["internal/bytealg.MaxLen", "unicode/utf8.first", "unicode/utf8.acceptRanges"], apart := false, laid := [("unicode/utf8.acceptRanges", laid_unicode_utf8_acceptRanges), ("unicode/utf8.first", laid_unicode_utf8_first)] }
def FnExactCsvTextSaid : Prop := fnExactCsvTextRow.holds Tryd.pinned (OpenSpec.ofChange fnExactCsvTextSpec)

/-- ITS FALSE NEIGHBOUR: 'it returns false'. Refute it at one input. -/
def fnExactCsvTextWrong : ChangeSpec := { name := "fnExactCsvText", fn := fun _ => fun
  | [d] => { results := [.lit (.bool false)], args := [d] }
  | _ => none }
def FnExactCsvTextWrongFalsely : Prop := fnExactCsvTextRow.holds Tryd.pinned (OpenSpec.ofChange fnExactCsvTextWrong)

/-- 'laws.FnExactReadCsv': WHATEVER THE INPUT: true; the input reads as it did. -/
def fnExactReadCsvSpec : ChangeSpec := { name := "fnExactReadCsv", fn := fun _ => fun
  | [d] => { results := [.lit (.bool true)], args := [d] }
  | _ => none }
def fnExactReadCsvRow : OpenClaim := { program := "ytklhkebpgoajgaadoor", sum := "52b4c9cbfd9376a16c5d965c8bab160035b2cc745a74f6ba553e4899c5868e04", func := "loop.example/g00500/laws.FnExactReadCsv", spec := "fnExactReadCsv", inPlace := ["internal/bytealg.CountString", "internal/bytealg.IndexByteString", "internal/bytealg.IndexString", "internal/abi.NoEscape", "internal/bytealg.MakeNoZero"], named := ["internal/bytealg.MaxLen", "unicode/utf8.first", "unicode/utf8.acceptRanges"], apart := false, laid := [("unicode/utf8.acceptRanges", laid_unicode_utf8_acceptRanges), ("unicode/utf8.first", laid_unicode_utf8_first)] }
def FnExactReadCsvSaid : Prop := fnExactReadCsvRow.holds Tryd.pinned (OpenSpec.ofChange fnExactReadCsvSpec)

/-- ITS FALSE NEIGHBOUR: 'it returns false'. Refute it at one input. -/
def fnExactReadCsvWrong : ChangeSpec := { name := "fnExactReadCsv", fn := fun _ => fun
  | [d] => { results := [.lit (.bool false)], args := [d] }
  | _ => none }
def FnExactReadCsvWrongFalsely : Prop := fnExactReadCsvRow.holds Tryd.pinned (OpenSpec.ofChange fnExactReadCsvWrong)

/- THE SECOND FORM. 'bulk': how many values and letters a reading holds, each counted each time it is reached (what is shared counts as often as it is met; a slice's spare places count too). A statement '..UptoSaid' is the law's where the arguments, and the package variables that the reading takes, are together of bulk at most 1048576: NARROWER than '..Said'. Prove '..Said' where nothing that the law and all that it calls make is longer than what came in: it says more and counts as full. Else prove '..UptoSaid'. A law counts once. -/
mutual
def uptoBulk {H : Type} : DataW H → Nat
  | .lit (.string bytes) => bytes.length + 1
  | .lit _ => 1
  | .nil => 1
  | .ptr d => uptoBulk d + 1
  | .slice elems spare => uptoBulkAll elems + uptoBulkAll spare + 1
  | .agg parts => uptoBulkAll parts + 1
  | .iface _ d => uptoBulk d + 1
  | .map entries => uptoBulkEntries entries + 1
  | .held _ => 1
def uptoBulkAll {H : Type} : List (DataW H) → Nat
  | [] => 0
  | d :: r => uptoBulk d + uptoBulkAll r
def uptoBulkEntries {H : Type} : List (Lit × DataW H) → Nat
  | [] => 0
  | x :: r => uptoBulkEntry x + uptoBulkEntries r
def uptoBulkEntry {H : Type} : Lit × DataW H → Nat
  | (.string bytes, d) => bytes.length + uptoBulk d + 1
  | (_, d) => uptoBulk d + 1
 end
def uptoSmall : (H : Type) → List (DataW H) → Bool := fun _ ds => decide (uptoBulkAll ds ≤ 1048576)
def OpenSpec.upto (s : _root_.Go.ChangeSpec) : _root_.Go.OpenSpec := { _root_.Go.OpenSpec.ofChange s with cond := some uptoSmall }

/-- 'laws.FnCsv', WHERE WHAT IT READS IS OF BULK AT MOST 1048576: true; the input reads as it did. -/
def fnCsvUptoRow : OpenClaim := { program := "ytklhkebpgoajgaadoor", sum := "52b4c9cbfd9376a16c5d965c8bab160035b2cc745a74f6ba553e4899c5868e04", func := "loop.example/g00500/laws.FnCsv", spec := "fnCsv", inPlace := ["internal/abi.NoEscape", "internal/bytealg.IndexByteString", "internal/bytealg.IndexString", "internal/bytealg.CountString", "internal/bytealg.MakeNoZero"], unfollowed := true, recurses := true, named := ["internal/bytealg.MaxLen", "unicode/utf8.first", "unicode/utf8.acceptRanges"], apart := false, laid := [("unicode/utf8.acceptRanges", laid_unicode_utf8_acceptRanges), ("unicode/utf8.first", laid_unicode_utf8_first)], narrowed := true }
def FnCsvUptoSaid : Prop := fnCsvUptoRow.holds Tryd.pinned (OpenSpec.upto fnCsvSpec)

/-- 'laws.FnCsvRead', WHERE WHAT IT READS IS OF BULK AT MOST 1048576: true; the input reads as it did. -/
def fnCsvReadUptoRow : OpenClaim := { program := "ytklhkebpgoajgaadoor", sum := "52b4c9cbfd9376a16c5d965c8bab160035b2cc745a74f6ba553e4899c5868e04", func := "loop.example/g00500/laws.FnCsvRead", spec := "fnCsvRead", inPlace := ["internal/bytealg.CountString", "internal/bytealg.IndexByteString", "internal/bytealg.IndexString", "internal/abi.NoEscape", "internal/bytealg.MakeNoZero"], named := ["internal/bytealg.MaxLen", "unicode/utf8.first", "unicode/utf8.acceptRanges"], apart := false, laid := [("unicode/utf8.acceptRanges", laid_unicode_utf8_acceptRanges), ("unicode/utf8.first", laid_unicode_utf8_first)], narrowed := true }
def FnCsvReadUptoSaid : Prop := fnCsvReadUptoRow.holds Tryd.pinned (OpenSpec.upto fnCsvReadSpec)

/-- 'laws.FnExactCsvField', WHERE WHAT IT READS IS OF BULK AT MOST 1048576: true; the input reads as it did. -/
def fnExactCsvFieldUptoRow : OpenClaim := { program := "ytklhkebpgoajgaadoor", sum := "52b4c9cbfd9376a16c5d965c8bab160035b2cc745a74f6ba553e4899c5868e04", func := "loop.example/g00500/laws.FnExactCsvField", spec := "fnExactCsvField", inPlace := ["internal/bytealg.IndexByteString", "internal/bytealg.IndexString", "internal/bytealg.CountString", "internal/abi.NoEscape", "internal/bytealg.MakeNoZero"], named := ["internal/bytealg.MaxLen", "unicode/utf8.first", "unicode/utf8.acceptRanges"], apart := false, laid := [("unicode/utf8.acceptRanges", laid_unicode_utf8_acceptRanges), ("unicode/utf8.first", laid_unicode_utf8_first)], narrowed := true }
def FnExactCsvFieldUptoSaid : Prop := fnExactCsvFieldUptoRow.holds Tryd.pinned (OpenSpec.upto fnExactCsvFieldSpec)

/-- 'laws.FnExactCsvText', WHERE WHAT IT READS IS OF BULK AT MOST 1048576: true; the input reads as it did. -/
def fnExactCsvTextUptoRow : OpenClaim := { program := "ytklhkebpgoajgaadoor", sum := "52b4c9cbfd9376a16c5d965c8bab160035b2cc745a74f6ba553e4899c5868e04", func := "loop.example/g00500/laws.FnExactCsvText", spec := "fnExactCsvText", inPlace := ["internal/abi.NoEscape", "internal/bytealg.IndexByteString", "internal/bytealg.IndexString", "internal/bytealg.CountString", "internal/bytealg.MakeNoZero"], named := ["internal/bytealg.MaxLen", "unicode/utf8.first", "unicode/utf8.acceptRanges"], apart := false, laid := [("unicode/utf8.acceptRanges", laid_unicode_utf8_acceptRanges), ("unicode/utf8.first", laid_unicode_utf8_first)], narrowed := true }
def FnExactCsvTextUptoSaid : Prop := fnExactCsvTextUptoRow.holds Tryd.pinned (OpenSpec.upto fnExactCsvTextSpec)

/-- 'laws.FnExactReadCsv', WHERE WHAT IT READS IS OF BULK AT MOST 1048576: true; the input reads as it did. -/
def fnExactReadCsvUptoRow : OpenClaim := { program := "ytklhkebpgoajgaadoor", sum := "52b4c9cbfd9376a16c5d965c8bab160035b2cc745a74f6ba553e4899c5868e04", func := "loop.example/g00500/laws.FnExactReadCsv", spec := "fnExactReadCsv", inPlace := ["internal/bytealg.CountString", "internal/bytealg.IndexByteString", "internal/bytealg.IndexString", "internal/abi.NoEscape", "internal/bytealg.MakeNoZero"], named := ["internal/bytealg.MaxLen", "unicode/utf8.first", "unicode/utf8.acceptRanges"], apart := false, laid := [("unicode/utf8.acceptRanges", laid_unicode_utf8_acceptRanges), ("unicode/utf8.first", laid_unicode_utf8_first)], narrowed := true }
def FnExactReadCsvUptoSaid : Prop := fnExactReadCsvUptoRow.holds Tryd.pinned (OpenSpec.upto fnExactReadCsvSpec)

end Rows
end Go.Proofs.YtklhkebpgoajgaaDoor
