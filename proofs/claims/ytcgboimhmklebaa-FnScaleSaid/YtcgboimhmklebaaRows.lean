/-
  No cell of these rows narrows 'for every input' (looked for: loops, veiled, ifaces, maps, wideKeys, modest, calm, conditions, laid).
  DERIVED. THE GIVEN ROWS OF THIS SEAT. 11 by the template 'for every input the law returns true; each argument reads behind the call as it read before'; 0 by the template 'total and deterministic' (their statements: YtcgboimhmklebaaTotals.lean).
  GIVEN WITH THE SEED: the statements are not yours to turn. If you find one false, say at which input.
  Laid BY PROGRAM, IN A SANDBOX (cutbox-rows.mjs): the forced cells as the released guide's own fill.sh prints them over the translation 42005ad5d8c06ac6… (all of the seat's roots in one cut). By AI agents, Wed Nov 11 2026. No macro, syntax, notation, axiom, sorry.
-/
import Derived.Test.YtcgboimhmklebaaChecked
import GoSem.Claim
import GoSem.ClaimJoined
import GoSem.ClaimMapViews
import Derived.JoinedTies
import Derived.KernelRfl
namespace Go.Proofs.Ytcgboimhmklebaa
/- THE CELL 'sum', in the pinned program and in every row, IS THE sha256 OF THE DUMP (.gsa) THAT YtcgboimhmklebaaProg.lean LOADS. Nothing in Lean hashes anything: it is a label: what it is worth is what the hold of that sum in a sandbox is worth. -/
noncomputable def Try.pinned : Pinned := { name := "ytcgboimhmklebaa", sum := "42005ad5d8c06ac6e25b5f7e283b5246f60c66eb317cc80e240150e7617d5d81", checked := Try.checked }
namespace Rows
def none {H : Type} : Left H := { results := [], args := [] }

/-- 'laws.FnProduct': WHATEVER THE INPUT: true; the input reads as it did. -/
def fnProductSpec : ChangeSpec := { name := "fnProduct", fn := fun _ => fun
  | [d] => { results := [.lit (.bool true)], args := [d] }
  | _ => none }
def fnProductRow : OpenClaim := { program := "ytcgboimhmklebaa", sum := "42005ad5d8c06ac6e25b5f7e283b5246f60c66eb317cc80e240150e7617d5d81", func := "loop.example/g00500/laws.FnProduct", spec := "fnProduct", apart := false }
def FnProductSaid : Prop := fnProductRow.holds Try.pinned (OpenSpec.ofChange fnProductSpec)

/-- ITS FALSE NEIGHBOUR: 'it returns false'. Refute it at one input. -/
def fnProductWrong : ChangeSpec := { name := "fnProduct", fn := fun _ => fun
  | [d] => { results := [.lit (.bool false)], args := [d] }
  | _ => none }
def FnProductWrongFalsely : Prop := fnProductRow.holds Try.pinned (OpenSpec.ofChange fnProductWrong)

/-- 'laws.FnScale': WHATEVER THE INPUT: true; the input reads as it did. -/
def fnScaleSpec : ChangeSpec := { name := "fnScale", fn := fun _ => fun
  | [d] => { results := [.lit (.bool true)], args := [d] }
  | _ => none }
def fnScaleRow : OpenClaim := { program := "ytcgboimhmklebaa", sum := "42005ad5d8c06ac6e25b5f7e283b5246f60c66eb317cc80e240150e7617d5d81", func := "loop.example/g00500/laws.FnScale", spec := "fnScale", inPlace := ["math/bits.Add64"], apart := false }
def FnScaleSaid : Prop := fnScaleRow.holds Try.pinned (OpenSpec.ofChange fnScaleSpec)

/-- ITS FALSE NEIGHBOUR: 'it returns false'. Refute it at one input. -/
def fnScaleWrong : ChangeSpec := { name := "fnScale", fn := fun _ => fun
  | [d] => { results := [.lit (.bool false)], args := [d] }
  | _ => none }
def FnScaleWrongFalsely : Prop := fnScaleRow.holds Try.pinned (OpenSpec.ofChange fnScaleWrong)

/-- 'laws.FnWideInt': WHATEVER THE INPUT: true; the input reads as it did. -/
def fnWideIntSpec : ChangeSpec := { name := "fnWideInt", fn := fun _ => fun
  | [d] => { results := [.lit (.bool true)], args := [d] }
  | _ => none }
def fnWideIntRow : OpenClaim := { program := "ytcgboimhmklebaa", sum := "42005ad5d8c06ac6e25b5f7e283b5246f60c66eb317cc80e240150e7617d5d81", func := "loop.example/g00500/laws.FnWideInt", spec := "fnWideInt", apart := false }
def FnWideIntSaid : Prop := fnWideIntRow.holds Try.pinned (OpenSpec.ofChange fnWideIntSpec)

/-- ITS FALSE NEIGHBOUR: 'it returns false'. Refute it at one input. -/
def fnWideIntWrong : ChangeSpec := { name := "fnWideInt", fn := fun _ => fun
  | [d] => { results := [.lit (.bool false)], args := [d] }
  | _ => none }
def FnWideIntWrongFalsely : Prop := fnWideIntRow.holds Try.pinned (OpenSpec.ofChange fnWideIntWrong)

/-- 'laws.FnExactWideOk': WHATEVER THE INPUT: true; the input reads as it did. -/
def fnExactWideOkSpec : ChangeSpec := { name := "fnExactWideOk", fn := fun _ => fun
  | [d] => { results := [.lit (.bool true)], args := [d] }
  | _ => none }
def fnExactWideOkRow : OpenClaim := { program := "ytcgboimhmklebaa", sum := "42005ad5d8c06ac6e25b5f7e283b5246f60c66eb317cc80e240150e7617d5d81", func := "loop.example/g00500/laws.FnExactWideOk", spec := "fnExactWideOk", apart := false }
def FnExactWideOkSaid : Prop := fnExactWideOkRow.holds Try.pinned (OpenSpec.ofChange fnExactWideOkSpec)

/-- ITS FALSE NEIGHBOUR: 'it returns false'. Refute it at one input. -/
def fnExactWideOkWrong : ChangeSpec := { name := "fnExactWideOk", fn := fun _ => fun
  | [d] => { results := [.lit (.bool false)], args := [d] }
  | _ => none }
def FnExactWideOkWrongFalsely : Prop := fnExactWideOkRow.holds Try.pinned (OpenSpec.ofChange fnExactWideOkWrong)

/-- 'laws.FnExactWideOf': WHATEVER THE INPUT: true; the input reads as it did. -/
def fnExactWideOfSpec : ChangeSpec := { name := "fnExactWideOf", fn := fun _ => fun
  | [d] => { results := [.lit (.bool true)], args := [d] }
  | _ => none }
def fnExactWideOfRow : OpenClaim := { program := "ytcgboimhmklebaa", sum := "42005ad5d8c06ac6e25b5f7e283b5246f60c66eb317cc80e240150e7617d5d81", func := "loop.example/g00500/laws.FnExactWideOf", spec := "fnExactWideOf", apart := false }
def FnExactWideOfSaid : Prop := fnExactWideOfRow.holds Try.pinned (OpenSpec.ofChange fnExactWideOfSpec)

/-- ITS FALSE NEIGHBOUR: 'it returns false'. Refute it at one input. -/
def fnExactWideOfWrong : ChangeSpec := { name := "fnExactWideOf", fn := fun _ => fun
  | [d] => { results := [.lit (.bool false)], args := [d] }
  | _ => none }
def FnExactWideOfWrongFalsely : Prop := fnExactWideOfRow.holds Try.pinned (OpenSpec.ofChange fnExactWideOfWrong)

/-- 'laws.FnExactIntOf': WHATEVER THE INPUT: true; the input reads as it did. -/
def fnExactIntOfSpec : ChangeSpec := { name := "fnExactIntOf", fn := fun _ => fun
  | [d] => { results := [.lit (.bool true)], args := [d] }
  | _ => none }
def fnExactIntOfRow : OpenClaim := { program := "ytcgboimhmklebaa", sum := "42005ad5d8c06ac6e25b5f7e283b5246f60c66eb317cc80e240150e7617d5d81", func := "loop.example/g00500/laws.FnExactIntOf", spec := "fnExactIntOf", apart := false }
def FnExactIntOfSaid : Prop := fnExactIntOfRow.holds Try.pinned (OpenSpec.ofChange fnExactIntOfSpec)

/-- ITS FALSE NEIGHBOUR: 'it returns false'. Refute it at one input. -/
def fnExactIntOfWrong : ChangeSpec := { name := "fnExactIntOf", fn := fun _ => fun
  | [d] => { results := [.lit (.bool false)], args := [d] }
  | _ => none }
def FnExactIntOfWrongFalsely : Prop := fnExactIntOfRow.holds Try.pinned (OpenSpec.ofChange fnExactIntOfWrong)

/-- 'laws.FnExactMulWide': WHATEVER THE INPUT: true; the input reads as it did. -/
def fnExactMulWideSpec : ChangeSpec := { name := "fnExactMulWide", fn := fun _ => fun
  | [d1, d2] => { results := [.lit (.bool true)], args := [d1, d2] }
  | _ => none }
def fnExactMulWideRow : OpenClaim := { program := "ytcgboimhmklebaa", sum := "42005ad5d8c06ac6e25b5f7e283b5246f60c66eb317cc80e240150e7617d5d81", func := "loop.example/g00500/laws.FnExactMulWide", spec := "fnExactMulWide", apart := false }
def FnExactMulWideSaid : Prop := fnExactMulWideRow.holds Try.pinned (OpenSpec.ofChange fnExactMulWideSpec)

/-- ITS FALSE NEIGHBOUR: 'it returns false'. Refute it at one input. -/
def fnExactMulWideWrong : ChangeSpec := { name := "fnExactMulWide", fn := fun _ => fun
  | [d1, d2] => { results := [.lit (.bool false)], args := [d1, d2] }
  | _ => none }
def FnExactMulWideWrongFalsely : Prop := fnExactMulWideRow.holds Try.pinned (OpenSpec.ofChange fnExactMulWideWrong)

/-- 'laws.FnExactNegWide': WHATEVER THE INPUT: true; the input reads as it did. -/
def fnExactNegWideSpec : ChangeSpec := { name := "fnExactNegWide", fn := fun _ => fun
  | [d] => { results := [.lit (.bool true)], args := [d] }
  | _ => none }
def fnExactNegWideRow : OpenClaim := { program := "ytcgboimhmklebaa", sum := "42005ad5d8c06ac6e25b5f7e283b5246f60c66eb317cc80e240150e7617d5d81", func := "loop.example/g00500/laws.FnExactNegWide", spec := "fnExactNegWide", apart := false }
def FnExactNegWideSaid : Prop := fnExactNegWideRow.holds Try.pinned (OpenSpec.ofChange fnExactNegWideSpec)

/-- ITS FALSE NEIGHBOUR: 'it returns false'. Refute it at one input. -/
def fnExactNegWideWrong : ChangeSpec := { name := "fnExactNegWide", fn := fun _ => fun
  | [d] => { results := [.lit (.bool false)], args := [d] }
  | _ => none }
def FnExactNegWideWrongFalsely : Prop := fnExactNegWideRow.holds Try.pinned (OpenSpec.ofChange fnExactNegWideWrong)

/-- 'laws.FnExactAddWide': WHATEVER THE INPUT: true; the input reads as it did. -/
def fnExactAddWideSpec : ChangeSpec := { name := "fnExactAddWide", fn := fun _ => fun
  | [d1, d2] => { results := [.lit (.bool true)], args := [d1, d2] }
  | _ => none }
def fnExactAddWideRow : OpenClaim := { program := "ytcgboimhmklebaa", sum := "42005ad5d8c06ac6e25b5f7e283b5246f60c66eb317cc80e240150e7617d5d81", func := "loop.example/g00500/laws.FnExactAddWide", spec := "fnExactAddWide", inPlace := ["math/bits.Add64", "math/bits.Sub64"], apart := false }
def FnExactAddWideSaid : Prop := fnExactAddWideRow.holds Try.pinned (OpenSpec.ofChange fnExactAddWideSpec)

/-- ITS FALSE NEIGHBOUR: 'it returns false'. Refute it at one input. -/
def fnExactAddWideWrong : ChangeSpec := { name := "fnExactAddWide", fn := fun _ => fun
  | [d1, d2] => { results := [.lit (.bool false)], args := [d1, d2] }
  | _ => none }
def FnExactAddWideWrongFalsely : Prop := fnExactAddWideRow.holds Try.pinned (OpenSpec.ofChange fnExactAddWideWrong)

/-- 'laws.FnExactCompareWide': WHATEVER THE INPUT: true; the input reads as it did. -/
def fnExactCompareWideSpec : ChangeSpec := { name := "fnExactCompareWide", fn := fun _ => fun
  | [d1, d2] => { results := [.lit (.bool true)], args := [d1, d2] }
  | _ => none }
def fnExactCompareWideRow : OpenClaim := { program := "ytcgboimhmklebaa", sum := "42005ad5d8c06ac6e25b5f7e283b5246f60c66eb317cc80e240150e7617d5d81", func := "loop.example/g00500/laws.FnExactCompareWide", spec := "fnExactCompareWide", apart := false }
def FnExactCompareWideSaid : Prop := fnExactCompareWideRow.holds Try.pinned (OpenSpec.ofChange fnExactCompareWideSpec)

/-- ITS FALSE NEIGHBOUR: 'it returns false'. Refute it at one input. -/
def fnExactCompareWideWrong : ChangeSpec := { name := "fnExactCompareWide", fn := fun _ => fun
  | [d1, d2] => { results := [.lit (.bool false)], args := [d1, d2] }
  | _ => none }
def FnExactCompareWideWrongFalsely : Prop := fnExactCompareWideRow.holds Try.pinned (OpenSpec.ofChange fnExactCompareWideWrong)

/-- 'laws.FnExactScaleWide': WHATEVER THE INPUT: true; the input reads as it did. -/
def fnExactScaleWideSpec : ChangeSpec := { name := "fnExactScaleWide", fn := fun _ => fun
  | [d1, d2] => { results := [.lit (.bool true)], args := [d1, d2] }
  | _ => none }
def fnExactScaleWideRow : OpenClaim := { program := "ytcgboimhmklebaa", sum := "42005ad5d8c06ac6e25b5f7e283b5246f60c66eb317cc80e240150e7617d5d81", func := "loop.example/g00500/laws.FnExactScaleWide", spec := "fnExactScaleWide", inPlace := ["math/bits.Add64"], apart := false }
def FnExactScaleWideSaid : Prop := fnExactScaleWideRow.holds Try.pinned (OpenSpec.ofChange fnExactScaleWideSpec)

/-- ITS FALSE NEIGHBOUR: 'it returns false'. Refute it at one input. -/
def fnExactScaleWideWrong : ChangeSpec := { name := "fnExactScaleWide", fn := fun _ => fun
  | [d1, d2] => { results := [.lit (.bool false)], args := [d1, d2] }
  | _ => none }
def FnExactScaleWideWrongFalsely : Prop := fnExactScaleWideRow.holds Try.pinned (OpenSpec.ofChange fnExactScaleWideWrong)

/- THE SECOND FORM. 'bulk': how many values and letters a reading holds, each counted each time it is reached (what is shared counts as often as it is met; a slice's spare places count too). A statement '..UptoSaid' is the law's where the arguments, and the package variables that the reading takes, are together of bulk at most 1048576: NARROWER than '..Said'. Prove '..Said' where nothing that the law and all that it calls make is longer than what came in: it says more and counts as full. Else prove '..UptoSaid'. A law counts once. -/
mutual
def uptoBulk {H : Type} : DataW H → Nat
  | .lit (.string bytes) => bytes.length + 1
  | .lit _ => 1
  | .nil => 1
  | .ptr d => uptoBulk d + 1
  | .slice elems spare => uptoBulkAll elems + uptoBulkAll spare + 1
  | .agg parts => uptoBulkAll parts + 1
  | .iface _ d => uptoBulk d + 1
  | .map entries => uptoBulkEntries entries + 1
  | .held _ => 1
def uptoBulkAll {H : Type} : List (DataW H) → Nat
  | [] => 0
  | d :: r => uptoBulk d + uptoBulkAll r
def uptoBulkEntries {H : Type} : List (Lit × DataW H) → Nat
  | [] => 0
  | x :: r => uptoBulkEntry x + uptoBulkEntries r
def uptoBulkEntry {H : Type} : Lit × DataW H → Nat
  | (.string bytes, d) => bytes.length + uptoBulk d + 1
  | (_, d) => uptoBulk d + 1
 end
def uptoSmall : (H : Type) → List (DataW H) → Bool := fun _ ds => decide (uptoBulkAll ds ≤ 1048576)
def OpenSpec.upto (s : _root_.Go.ChangeSpec) : _root_.Go.OpenSpec := { _root_.Go.OpenSpec.ofChange s with cond := some uptoSmall }

/-- 'laws.FnProduct', WHERE WHAT IT READS IS OF BULK AT MOST 1048576: true; the input reads as it did. -/
def fnProductUptoRow : OpenClaim := { program := "ytcgboimhmklebaa", sum := "42005ad5d8c06ac6e25b5f7e283b5246f60c66eb317cc80e240150e7617d5d81", func := "loop.example/g00500/laws.FnProduct", spec := "fnProduct", apart := false, narrowed := true }
def FnProductUptoSaid : Prop := fnProductUptoRow.holds Try.pinned (OpenSpec.upto fnProductSpec)

/-- 'laws.FnScale', WHERE WHAT IT READS IS OF BULK AT MOST 1048576: true; the input reads as it did. -/
def fnScaleUptoRow : OpenClaim := { program := "ytcgboimhmklebaa", sum := "42005ad5d8c06ac6e25b5f7e283b5246f60c66eb317cc80e240150e7617d5d81", func := "loop.example/g00500/laws.FnScale", spec := "fnScale", inPlace := ["math/bits.Add64"], apart := false, narrowed := true }
def FnScaleUptoSaid : Prop := fnScaleUptoRow.holds Try.pinned (OpenSpec.upto fnScaleSpec)

/-- 'laws.FnWideInt', WHERE WHAT IT READS IS OF BULK AT MOST 1048576: true; the input reads as it did. -/
def fnWideIntUptoRow : OpenClaim := { program := "ytcgboimhmklebaa", sum := "42005ad5d8c06ac6e25b5f7e283b5246f60c66eb317cc80e240150e7617d5d81", func := "loop.example/g00500/laws.FnWideInt", spec := "fnWideInt", apart := false, narrowed := true }
def FnWideIntUptoSaid : Prop := fnWideIntUptoRow.holds Try.pinned (OpenSpec.upto fnWideIntSpec)

/-- 'laws.FnExactWideOk', WHERE WHAT IT READS IS OF BULK AT MOST 1048576: true; the input reads as it did. -/
def fnExactWideOkUptoRow : OpenClaim := { program := "ytcgboimhmklebaa", sum := "42005ad5d8c06ac6e25b5f7e283b5246f60c66eb317cc80e240150e7617d5d81", func := "loop.example/g00500/laws.FnExactWideOk", spec := "fnExactWideOk", apart := false, narrowed := true }
def FnExactWideOkUptoSaid : Prop := fnExactWideOkUptoRow.holds Try.pinned (OpenSpec.upto fnExactWideOkSpec)

/-- 'laws.FnExactWideOf', WHERE WHAT IT READS IS OF BULK AT MOST 1048576: true; the input reads as it did. -/
def fnExactWideOfUptoRow : OpenClaim := { program := "ytcgboimhmklebaa", sum := "42005ad5d8c06ac6e25b5f7e283b5246f60c66eb317cc80e240150e7617d5d81", func := "loop.example/g00500/laws.FnExactWideOf", spec := "fnExactWideOf", apart := false, narrowed := true }
def FnExactWideOfUptoSaid : Prop := fnExactWideOfUptoRow.holds Try.pinned (OpenSpec.upto fnExactWideOfSpec)

/-- 'laws.FnExactIntOf', WHERE WHAT IT READS IS OF BULK AT MOST 1048576: true; the input reads as it did. -/
def fnExactIntOfUptoRow : OpenClaim := { program := "ytcgboimhmklebaa", sum := "42005ad5d8c06ac6e25b5f7e283b5246f60c66eb317cc80e240150e7617d5d81", func := "loop.example/g00500/laws.FnExactIntOf", spec := "fnExactIntOf", apart := false, narrowed := true }
def FnExactIntOfUptoSaid : Prop := fnExactIntOfUptoRow.holds Try.pinned (OpenSpec.upto fnExactIntOfSpec)

/-- 'laws.FnExactMulWide', WHERE WHAT IT READS IS OF BULK AT MOST 1048576: true; the input reads as it did. -/
def fnExactMulWideUptoRow : OpenClaim := { program := "ytcgboimhmklebaa", sum := "42005ad5d8c06ac6e25b5f7e283b5246f60c66eb317cc80e240150e7617d5d81", func := "loop.example/g00500/laws.FnExactMulWide", spec := "fnExactMulWide", apart := false, narrowed := true }
def FnExactMulWideUptoSaid : Prop := fnExactMulWideUptoRow.holds Try.pinned (OpenSpec.upto fnExactMulWideSpec)

/-- 'laws.FnExactNegWide', WHERE WHAT IT READS IS OF BULK AT MOST 1048576: true; the input reads as it did. -/
def fnExactNegWideUptoRow : OpenClaim := { program := "ytcgboimhmklebaa", sum := "42005ad5d8c06ac6e25b5f7e283b5246f60c66eb317cc80e240150e7617d5d81", func := "loop.example/g00500/laws.FnExactNegWide", spec := "fnExactNegWide", apart := false, narrowed := true }
def FnExactNegWideUptoSaid : Prop := fnExactNegWideUptoRow.holds Try.pinned (OpenSpec.upto fnExactNegWideSpec)

/-- 'laws.FnExactAddWide', WHERE WHAT IT READS IS OF BULK AT MOST 1048576: true; the input reads as it did. -/
def fnExactAddWideUptoRow : OpenClaim := { program := "ytcgboimhmklebaa", sum := "42005ad5d8c06ac6e25b5f7e283b5246f60c66eb317cc80e240150e7617d5d81", func := "loop.example/g00500/laws.FnExactAddWide", spec := "fnExactAddWide", inPlace := ["math/bits.Add64", "math/bits.Sub64"], apart := false, narrowed := true }
def FnExactAddWideUptoSaid : Prop := fnExactAddWideUptoRow.holds Try.pinned (OpenSpec.upto fnExactAddWideSpec)

/-- 'laws.FnExactCompareWide', WHERE WHAT IT READS IS OF BULK AT MOST 1048576: true; the input reads as it did. -/
def fnExactCompareWideUptoRow : OpenClaim := { program := "ytcgboimhmklebaa", sum := "42005ad5d8c06ac6e25b5f7e283b5246f60c66eb317cc80e240150e7617d5d81", func := "loop.example/g00500/laws.FnExactCompareWide", spec := "fnExactCompareWide", apart := false, narrowed := true }
def FnExactCompareWideUptoSaid : Prop := fnExactCompareWideUptoRow.holds Try.pinned (OpenSpec.upto fnExactCompareWideSpec)

/-- 'laws.FnExactScaleWide', WHERE WHAT IT READS IS OF BULK AT MOST 1048576: true; the input reads as it did. -/
def fnExactScaleWideUptoRow : OpenClaim := { program := "ytcgboimhmklebaa", sum := "42005ad5d8c06ac6e25b5f7e283b5246f60c66eb317cc80e240150e7617d5d81", func := "loop.example/g00500/laws.FnExactScaleWide", spec := "fnExactScaleWide", inPlace := ["math/bits.Add64"], apart := false, narrowed := true }
def FnExactScaleWideUptoSaid : Prop := fnExactScaleWideUptoRow.holds Try.pinned (OpenSpec.upto fnExactScaleWideSpec)

end Rows
end Go.Proofs.Ytcgboimhmklebaa
