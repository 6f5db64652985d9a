/-
  No cell of these rows narrows 'for every input' (looked for: loops, veiled, ifaces, maps, wideKeys, modest, calm, conditions, laid).
  DERIVED. THE GIVEN ROWS OF THIS SEAT. 9 by the template 'for every input the law returns true; each argument reads behind the call as it read before'; 0 by the template 'total and deterministic' (their statements: YtjmlpeapbealfaaTotals.lean).
  GIVEN WITH THE SEED: the statements are not yours to turn. If you find one false, say at which input.
  Laid BY PROGRAM, IN A SANDBOX (cutbox-rows.mjs): the forced cells as the released guide's own fill.sh prints them over the translation b1f7403e82fc5f79… (all of the seat's roots in one cut). By AI agents, Wed Nov 11 2026. No macro, syntax, notation, axiom, sorry.
-/
import Derived.Test.YtjmlpeapbealfaaChecked
import GoSem.Claim
import GoSem.ClaimJoined
import GoSem.ClaimMapViews
import Derived.JoinedTies
import Derived.KernelRfl
namespace Go.Proofs.Ytjmlpeapbealfaa
/- THE CELL 'sum', in the pinned program and in every row, IS THE sha256 OF THE DUMP (.gsa) THAT YtjmlpeapbealfaaProg.lean LOADS. Nothing in Lean hashes anything: it is a label: what it is worth is what the hold of that sum in a sandbox is worth. -/
noncomputable def Try.pinned : Pinned := { name := "ytjmlpeapbealfaa", sum := "b1f7403e82fc5f79fb1a4d15cbb912ac8913b10204d5ea6448cf409dca65c929", checked := Try.checked }
namespace Rows
def none {H : Type} : Left H := { results := [], args := [] }

/-- 'laws.FnFloor': WHATEVER THE INPUT: true; the input reads as it did. -/
def fnFloorSpec : ChangeSpec := { name := "fnFloor", fn := fun _ => fun
  | [d] => { results := [.lit (.bool true)], args := [d] }
  | _ => none }
def fnFloorRow : OpenClaim := { program := "ytjmlpeapbealfaa", sum := "b1f7403e82fc5f79fb1a4d15cbb912ac8913b10204d5ea6448cf409dca65c929", func := "loop.example/g00500/laws.FnFloor", spec := "fnFloor", inPlace := ["math/bits.Add64", "math/bits.Sub64"], apart := false }
def FnFloorSaid : Prop := fnFloorRow.holds Try.pinned (OpenSpec.ofChange fnFloorSpec)

/-- ITS FALSE NEIGHBOUR: 'it returns false'. Refute it at one input. -/
def fnFloorWrong : ChangeSpec := { name := "fnFloor", fn := fun _ => fun
  | [d] => { results := [.lit (.bool false)], args := [d] }
  | _ => none }
def FnFloorWrongFalsely : Prop := fnFloorRow.holds Try.pinned (OpenSpec.ofChange fnFloorWrong)

/-- 'laws.FnWide': WHATEVER THE INPUT: true; the input reads as it did. -/
def fnWideSpec : ChangeSpec := { name := "fnWide", fn := fun _ => fun
  | [d] => { results := [.lit (.bool true)], args := [d] }
  | _ => none }
def fnWideRow : OpenClaim := { program := "ytjmlpeapbealfaa", sum := "b1f7403e82fc5f79fb1a4d15cbb912ac8913b10204d5ea6448cf409dca65c929", func := "loop.example/g00500/laws.FnWide", spec := "fnWide", inPlace := ["math/bits.Add64", "math/bits.Sub64"], apart := false }
def FnWideSaid : Prop := fnWideRow.holds Try.pinned (OpenSpec.ofChange fnWideSpec)

/-- ITS FALSE NEIGHBOUR: 'it returns false'. Refute it at one input. -/
def fnWideWrong : ChangeSpec := { name := "fnWide", fn := fun _ => fun
  | [d] => { results := [.lit (.bool false)], args := [d] }
  | _ => none }
def FnWideWrongFalsely : Prop := fnWideRow.holds Try.pinned (OpenSpec.ofChange fnWideWrong)

/-- 'laws.FnWideOrder': WHATEVER THE INPUT: true; the input reads as it did. -/
def fnWideOrderSpec : ChangeSpec := { name := "fnWideOrder", fn := fun _ => fun
  | [d] => { results := [.lit (.bool true)], args := [d] }
  | _ => none }
def fnWideOrderRow : OpenClaim := { program := "ytjmlpeapbealfaa", sum := "b1f7403e82fc5f79fb1a4d15cbb912ac8913b10204d5ea6448cf409dca65c929", func := "loop.example/g00500/laws.FnWideOrder", spec := "fnWideOrder", inPlace := ["math/bits.Add64", "math/bits.Sub64"], apart := false }
def FnWideOrderSaid : Prop := fnWideOrderRow.holds Try.pinned (OpenSpec.ofChange fnWideOrderSpec)

/-- ITS FALSE NEIGHBOUR: 'it returns false'. Refute it at one input. -/
def fnWideOrderWrong : ChangeSpec := { name := "fnWideOrder", fn := fun _ => fun
  | [d] => { results := [.lit (.bool false)], args := [d] }
  | _ => none }
def FnWideOrderWrongFalsely : Prop := fnWideOrderRow.holds Try.pinned (OpenSpec.ofChange fnWideOrderWrong)

/-- 'laws.FnWideText': WHATEVER THE INPUT: true; the input reads as it did. -/
def fnWideTextSpec : ChangeSpec := { name := "fnWideText", fn := fun _ => fun
  | [d] => { results := [.lit (.bool true)], args := [d] }
  | _ => none }
def fnWideTextRow : OpenClaim := { program := "ytjmlpeapbealfaa", sum := "b1f7403e82fc5f79fb1a4d15cbb912ac8913b10204d5ea6448cf409dca65c929", func := "loop.example/g00500/laws.FnWideText", spec := "fnWideText", inPlace := ["math/bits.Add64", "math/bits.Sub64"], apart := false }
def FnWideTextSaid : Prop := fnWideTextRow.holds Try.pinned (OpenSpec.ofChange fnWideTextSpec)

/-- ITS FALSE NEIGHBOUR: 'it returns false'. Refute it at one input. -/
def fnWideTextWrong : ChangeSpec := { name := "fnWideText", fn := fun _ => fun
  | [d] => { results := [.lit (.bool false)], args := [d] }
  | _ => none }
def FnWideTextWrongFalsely : Prop := fnWideTextRow.holds Try.pinned (OpenSpec.ofChange fnWideTextWrong)

/-- 'laws.FnWideSmall': WHATEVER THE INPUT: true; the input reads as it did. -/
def fnWideSmallSpec : ChangeSpec := { name := "fnWideSmall", fn := fun _ => fun
  | [d] => { results := [.lit (.bool true)], args := [d] }
  | _ => none }
def fnWideSmallRow : OpenClaim := { program := "ytjmlpeapbealfaa", sum := "b1f7403e82fc5f79fb1a4d15cbb912ac8913b10204d5ea6448cf409dca65c929", func := "loop.example/g00500/laws.FnWideSmall", spec := "fnWideSmall", inPlace := ["math/bits.Add64", "math/bits.Sub64"], apart := false }
def FnWideSmallSaid : Prop := fnWideSmallRow.holds Try.pinned (OpenSpec.ofChange fnWideSmallSpec)

/-- ITS FALSE NEIGHBOUR: 'it returns false'. Refute it at one input. -/
def fnWideSmallWrong : ChangeSpec := { name := "fnWideSmall", fn := fun _ => fun
  | [d] => { results := [.lit (.bool false)], args := [d] }
  | _ => none }
def FnWideSmallWrongFalsely : Prop := fnWideSmallRow.holds Try.pinned (OpenSpec.ofChange fnWideSmallWrong)

/-- 'laws.FnExactWideText': WHATEVER THE INPUT: true; the input reads as it did. -/
def fnExactWideTextSpec : ChangeSpec := { name := "fnExactWideText", fn := fun _ => fun
  | [d] => { results := [.lit (.bool true)], args := [d] }
  | _ => none }
def fnExactWideTextRow : OpenClaim := { program := "ytjmlpeapbealfaa", sum := "b1f7403e82fc5f79fb1a4d15cbb912ac8913b10204d5ea6448cf409dca65c929", func := "loop.example/g00500/laws.FnExactWideText", spec := "fnExactWideText", apart := false }
def FnExactWideTextSaid : Prop := fnExactWideTextRow.holds Try.pinned (OpenSpec.ofChange fnExactWideTextSpec)

/-- ITS FALSE NEIGHBOUR: 'it returns false'. Refute it at one input. -/
def fnExactWideTextWrong : ChangeSpec := { name := "fnExactWideText", fn := fun _ => fun
  | [d] => { results := [.lit (.bool false)], args := [d] }
  | _ => none }
def FnExactWideTextWrongFalsely : Prop := fnExactWideTextRow.holds Try.pinned (OpenSpec.ofChange fnExactWideTextWrong)

/-- 'laws.FnExactReadWide': WHATEVER THE INPUT: true; the input reads as it did. -/
def fnExactReadWideSpec : ChangeSpec := { name := "fnExactReadWide", fn := fun _ => fun
  | [d] => { results := [.lit (.bool true)], args := [d] }
  | _ => none }
def fnExactReadWideRow : OpenClaim := { program := "ytjmlpeapbealfaa", sum := "b1f7403e82fc5f79fb1a4d15cbb912ac8913b10204d5ea6448cf409dca65c929", func := "loop.example/g00500/laws.FnExactReadWide", spec := "fnExactReadWide", inPlace := ["math/bits.Add64", "math/bits.Sub64"], apart := false }
def FnExactReadWideSaid : Prop := fnExactReadWideRow.holds Try.pinned (OpenSpec.ofChange fnExactReadWideSpec)

/-- ITS FALSE NEIGHBOUR: 'it returns false'. Refute it at one input. -/
def fnExactReadWideWrong : ChangeSpec := { name := "fnExactReadWide", fn := fun _ => fun
  | [d] => { results := [.lit (.bool false)], args := [d] }
  | _ => none }
def FnExactReadWideWrongFalsely : Prop := fnExactReadWideRow.holds Try.pinned (OpenSpec.ofChange fnExactReadWideWrong)

/-- 'laws.FnExactTenTimes': WHATEVER THE INPUT: true; the input reads as it did. -/
def fnExactTenTimesSpec : ChangeSpec := { name := "fnExactTenTimes", fn := fun _ => fun
  | [d1, d2] => { results := [.lit (.bool true)], args := [d1, d2] }
  | _ => none }
def fnExactTenTimesRow : OpenClaim := { program := "ytjmlpeapbealfaa", sum := "b1f7403e82fc5f79fb1a4d15cbb912ac8913b10204d5ea6448cf409dca65c929", func := "loop.example/g00500/laws.FnExactTenTimes", spec := "fnExactTenTimes", inPlace := ["math/bits.Add64", "math/bits.Sub64"], apart := false }
def FnExactTenTimesSaid : Prop := fnExactTenTimesRow.holds Try.pinned (OpenSpec.ofChange fnExactTenTimesSpec)

/-- ITS FALSE NEIGHBOUR: 'it returns false'. Refute it at one input. -/
def fnExactTenTimesWrong : ChangeSpec := { name := "fnExactTenTimes", fn := fun _ => fun
  | [d1, d2] => { results := [.lit (.bool false)], args := [d1, d2] }
  | _ => none }
def FnExactTenTimesWrongFalsely : Prop := fnExactTenTimesRow.holds Try.pinned (OpenSpec.ofChange fnExactTenTimesWrong)

/-- 'laws.FnExactSubWide': WHATEVER THE INPUT: true; the input reads as it did. -/
def fnExactSubWideSpec : ChangeSpec := { name := "fnExactSubWide", fn := fun _ => fun
  | [d1, d2] => { results := [.lit (.bool true)], args := [d1, d2] }
  | _ => none }
def fnExactSubWideRow : OpenClaim := { program := "ytjmlpeapbealfaa", sum := "b1f7403e82fc5f79fb1a4d15cbb912ac8913b10204d5ea6448cf409dca65c929", func := "loop.example/g00500/laws.FnExactSubWide", spec := "fnExactSubWide", inPlace := ["math/bits.Add64", "math/bits.Sub64"], apart := false }
def FnExactSubWideSaid : Prop := fnExactSubWideRow.holds Try.pinned (OpenSpec.ofChange fnExactSubWideSpec)

/-- ITS FALSE NEIGHBOUR: 'it returns false'. Refute it at one input. -/
def fnExactSubWideWrong : ChangeSpec := { name := "fnExactSubWide", fn := fun _ => fun
  | [d1, d2] => { results := [.lit (.bool false)], args := [d1, d2] }
  | _ => none }
def FnExactSubWideWrongFalsely : Prop := fnExactSubWideRow.holds Try.pinned (OpenSpec.ofChange fnExactSubWideWrong)

/- THE SECOND FORM. 'bulk': how many values and letters a reading holds, each counted each time it is reached (what is shared counts as often as it is met; a slice's spare places count too). A statement '..UptoSaid' is the law's where the arguments, and the package variables that the reading takes, are together of bulk at most 1048576: NARROWER than '..Said'. Prove '..Said' where nothing that the law and all that it calls make is longer than what came in: it says more and counts as full. Else prove '..UptoSaid'. A law counts once. -/
mutual
def uptoBulk {H : Type} : DataW H → Nat
  | .lit (.string bytes) => bytes.length + 1
  | .lit _ => 1
  | .nil => 1
  | .ptr d => uptoBulk d + 1
  | .slice elems spare => uptoBulkAll elems + uptoBulkAll spare + 1
  | .agg parts => uptoBulkAll parts + 1
  | .iface _ d => uptoBulk d + 1
  | .map entries => uptoBulkEntries entries + 1
  | .held _ => 1
def uptoBulkAll {H : Type} : List (DataW H) → Nat
  | [] => 0
  | d :: r => uptoBulk d + uptoBulkAll r
def uptoBulkEntries {H : Type} : List (Lit × DataW H) → Nat
  | [] => 0
  | x :: r => uptoBulkEntry x + uptoBulkEntries r
def uptoBulkEntry {H : Type} : Lit × DataW H → Nat
  | (.string bytes, d) => bytes.length + uptoBulk d + 1
  | (_, d) => uptoBulk d + 1
 end
def uptoSmall : (H : Type) → List (DataW H) → Bool := fun _ ds => decide (uptoBulkAll ds ≤ 1048576)
def OpenSpec.upto (s : _root_.Go.ChangeSpec) : _root_.Go.OpenSpec := { _root_.Go.OpenSpec.ofChange s with cond := some uptoSmall }

/-- 'laws.FnFloor', WHERE WHAT IT READS IS OF BULK AT MOST 1048576: true; the input reads as it did. -/
def fnFloorUptoRow : OpenClaim := { program := "ytjmlpeapbealfaa", sum := "b1f7403e82fc5f79fb1a4d15cbb912ac8913b10204d5ea6448cf409dca65c929", func := "loop.example/g00500/laws.FnFloor", spec := "fnFloor", inPlace := ["math/bits.Add64", "math/bits.Sub64"], apart := false, narrowed := true }
def FnFloorUptoSaid : Prop := fnFloorUptoRow.holds Try.pinned (OpenSpec.upto fnFloorSpec)

/-- 'laws.FnWide', WHERE WHAT IT READS IS OF BULK AT MOST 1048576: true; the input reads as it did. -/
def fnWideUptoRow : OpenClaim := { program := "ytjmlpeapbealfaa", sum := "b1f7403e82fc5f79fb1a4d15cbb912ac8913b10204d5ea6448cf409dca65c929", func := "loop.example/g00500/laws.FnWide", spec := "fnWide", inPlace := ["math/bits.Add64", "math/bits.Sub64"], apart := false, narrowed := true }
def FnWideUptoSaid : Prop := fnWideUptoRow.holds Try.pinned (OpenSpec.upto fnWideSpec)

/-- 'laws.FnWideOrder', WHERE WHAT IT READS IS OF BULK AT MOST 1048576: true; the input reads as it did. -/
def fnWideOrderUptoRow : OpenClaim := { program := "ytjmlpeapbealfaa", sum := "b1f7403e82fc5f79fb1a4d15cbb912ac8913b10204d5ea6448cf409dca65c929", func := "loop.example/g00500/laws.FnWideOrder", spec := "fnWideOrder", inPlace := ["math/bits.Add64", "math/bits.Sub64"], apart := false, narrowed := true }
def FnWideOrderUptoSaid : Prop := fnWideOrderUptoRow.holds Try.pinned (OpenSpec.upto fnWideOrderSpec)

/-- 'laws.FnWideText', WHERE WHAT IT READS IS OF BULK AT MOST 1048576: true; the input reads as it did. -/
def fnWideTextUptoRow : OpenClaim := { program := "ytjmlpeapbealfaa", sum := "b1f7403e82fc5f79fb1a4d15cbb912ac8913b10204d5ea6448cf409dca65c929", func := "loop.example/g00500/laws.FnWideText", spec := "fnWideText", inPlace := ["math/bits.Add64", "math/bits.Sub64"], apart := false, narrowed := true }
def FnWideTextUptoSaid : Prop := fnWideTextUptoRow.holds Try.pinned (OpenSpec.upto fnWideTextSpec)

/-- 'laws.FnWideSmall', WHERE WHAT IT READS IS OF BULK AT MOST 1048576: true; the input reads as it did. -/
def fnWideSmallUptoRow : OpenClaim := { program := "ytjmlpeapbealfaa", sum := "b1f7403e82fc5f79fb1a4d15cbb912ac8913b10204d5ea6448cf409dca65c929", func := "loop.example/g00500/laws.FnWideSmall", spec := "fnWideSmall", inPlace := ["math/bits.Add64", "math/bits.Sub64"], apart := false, narrowed := true }
def FnWideSmallUptoSaid : Prop := fnWideSmallUptoRow.holds Try.pinned (OpenSpec.upto fnWideSmallSpec)

/-- 'laws.FnExactWideText', WHERE WHAT IT READS IS OF BULK AT MOST 1048576: true; the input reads as it did. -/
def fnExactWideTextUptoRow : OpenClaim := { program := "ytjmlpeapbealfaa", sum := "b1f7403e82fc5f79fb1a4d15cbb912ac8913b10204d5ea6448cf409dca65c929", func := "loop.example/g00500/laws.FnExactWideText", spec := "fnExactWideText", apart := false, narrowed := true }
def FnExactWideTextUptoSaid : Prop := fnExactWideTextUptoRow.holds Try.pinned (OpenSpec.upto fnExactWideTextSpec)

/-- 'laws.FnExactReadWide', WHERE WHAT IT READS IS OF BULK AT MOST 1048576: true; the input reads as it did. -/
def fnExactReadWideUptoRow : OpenClaim := { program := "ytjmlpeapbealfaa", sum := "b1f7403e82fc5f79fb1a4d15cbb912ac8913b10204d5ea6448cf409dca65c929", func := "loop.example/g00500/laws.FnExactReadWide", spec := "fnExactReadWide", inPlace := ["math/bits.Add64", "math/bits.Sub64"], apart := false, narrowed := true }
def FnExactReadWideUptoSaid : Prop := fnExactReadWideUptoRow.holds Try.pinned (OpenSpec.upto fnExactReadWideSpec)

/-- 'laws.FnExactTenTimes', WHERE WHAT IT READS IS OF BULK AT MOST 1048576: true; the input reads as it did. -/
def fnExactTenTimesUptoRow : OpenClaim := { program := "ytjmlpeapbealfaa", sum := "b1f7403e82fc5f79fb1a4d15cbb912ac8913b10204d5ea6448cf409dca65c929", func := "loop.example/g00500/laws.FnExactTenTimes", spec := "fnExactTenTimes", inPlace := ["math/bits.Add64", "math/bits.Sub64"], apart := false, narrowed := true }
def FnExactTenTimesUptoSaid : Prop := fnExactTenTimesUptoRow.holds Try.pinned (OpenSpec.upto fnExactTenTimesSpec)

/-- 'laws.FnExactSubWide', WHERE WHAT IT READS IS OF BULK AT MOST 1048576: true; the input reads as it did. -/
def fnExactSubWideUptoRow : OpenClaim := { program := "ytjmlpeapbealfaa", sum := "b1f7403e82fc5f79fb1a4d15cbb912ac8913b10204d5ea6448cf409dca65c929", func := "loop.example/g00500/laws.FnExactSubWide", spec := "fnExactSubWide", inPlace := ["math/bits.Add64", "math/bits.Sub64"], apart := false, narrowed := true }
def FnExactSubWideUptoSaid : Prop := fnExactSubWideUptoRow.holds Try.pinned (OpenSpec.upto fnExactSubWideSpec)

end Rows
end Go.Proofs.Ytjmlpeapbealfaa
