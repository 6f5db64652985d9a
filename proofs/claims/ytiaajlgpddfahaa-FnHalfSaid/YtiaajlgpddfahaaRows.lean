/-
  No cell of these rows narrows 'for every input' (looked for: loops, veiled, ifaces, maps, wideKeys, modest, calm, conditions, laid).
  DERIVED. THE GIVEN ROWS OF THIS SEAT. 10 by the template 'for every input the law returns true; each argument reads behind the call as it read before'; 0 by the template 'total and deterministic' (their statements: YtiaajlgpddfahaaTotals.lean).
  GIVEN WITH THE SEED: the statements are not yours to turn. If you find one false, say at which input.
  Laid BY PROGRAM, IN A SANDBOX (cutbox-rows.mjs): the forced cells as the released guide's own fill.sh prints them over the translation 22798f871c05a63b… (all of the seat's roots in one cut). By AI agents, Wed Nov 11 2026. No macro, syntax, notation, axiom, sorry.
-/
import Derived.Test.YtiaajlgpddfahaaChecked
import GoSem.Claim
import GoSem.ClaimJoined
import GoSem.ClaimMapViews
import Derived.JoinedTies
import Derived.KernelRfl
namespace Go.Proofs.Ytiaajlgpddfahaa
/- THE CELL 'sum', in the pinned program and in every row, IS THE sha256 OF THE DUMP (.gsa) THAT YtiaajlgpddfahaaProg.lean LOADS. Nothing in Lean hashes anything: it is a label: what it is worth is what the hold of that sum in a sandbox is worth. -/
noncomputable def Try.pinned : Pinned := { name := "ytiaajlgpddfahaa", sum := "22798f871c05a63be645cc23feb0ec94d8939b3af10491e3b8136e6177808e88", checked := Try.checked }
namespace Rows
def none {H : Type} : Left H := { results := [], args := [] }

/-- 'laws.FnAdded': WHATEVER THE INPUT: true; the input reads as it did. -/
def fnAddedSpec : ChangeSpec := { name := "fnAdded", fn := fun _ => fun
  | [d] => { results := [.lit (.bool true)], args := [d] }
  | _ => none }
def fnAddedRow : OpenClaim := { program := "ytiaajlgpddfahaa", sum := "22798f871c05a63be645cc23feb0ec94d8939b3af10491e3b8136e6177808e88", func := "loop.example/g00500/laws.FnAdded", spec := "fnAdded", apart := false }
def FnAddedSaid : Prop := fnAddedRow.holds Try.pinned (OpenSpec.ofChange fnAddedSpec)

/-- ITS FALSE NEIGHBOUR: 'it returns false'. Refute it at one input. -/
def fnAddedWrong : ChangeSpec := { name := "fnAdded", fn := fun _ => fun
  | [d] => { results := [.lit (.bool false)], args := [d] }
  | _ => none }
def FnAddedWrongFalsely : Prop := fnAddedRow.holds Try.pinned (OpenSpec.ofChange fnAddedWrong)

/-- 'laws.FnHalf': WHATEVER THE INPUT: true; the input reads as it did. -/
def fnHalfSpec : ChangeSpec := { name := "fnHalf", fn := fun _ => fun
  | [d] => { results := [.lit (.bool true)], args := [d] }
  | _ => none }
def fnHalfRow : OpenClaim := { program := "ytiaajlgpddfahaa", sum := "22798f871c05a63be645cc23feb0ec94d8939b3af10491e3b8136e6177808e88", func := "loop.example/g00500/laws.FnHalf", spec := "fnHalf", apart := false }
def FnHalfSaid : Prop := fnHalfRow.holds Try.pinned (OpenSpec.ofChange fnHalfSpec)

/-- ITS FALSE NEIGHBOUR: 'it returns false'. Refute it at one input. -/
def fnHalfWrong : ChangeSpec := { name := "fnHalf", fn := fun _ => fun
  | [d] => { results := [.lit (.bool false)], args := [d] }
  | _ => none }
def FnHalfWrongFalsely : Prop := fnHalfRow.holds Try.pinned (OpenSpec.ofChange fnHalfWrong)

/-- 'laws.FnBrought': WHATEVER THE INPUT: true; the input reads as it did. -/
def fnBroughtSpec : ChangeSpec := { name := "fnBrought", fn := fun _ => fun
  | [d] => { results := [.lit (.bool true)], args := [d] }
  | _ => none }
def fnBroughtRow : OpenClaim := { program := "ytiaajlgpddfahaa", sum := "22798f871c05a63be645cc23feb0ec94d8939b3af10491e3b8136e6177808e88", func := "loop.example/g00500/laws.FnBrought", spec := "fnBrought", apart := false }
def FnBroughtSaid : Prop := fnBroughtRow.holds Try.pinned (OpenSpec.ofChange fnBroughtSpec)

/-- ITS FALSE NEIGHBOUR: 'it returns false'. Refute it at one input. -/
def fnBroughtWrong : ChangeSpec := { name := "fnBrought", fn := fun _ => fun
  | [d] => { results := [.lit (.bool false)], args := [d] }
  | _ => none }
def FnBroughtWrongFalsely : Prop := fnBroughtRow.holds Try.pinned (OpenSpec.ofChange fnBroughtWrong)

/-- 'laws.FnExactAddInt': WHATEVER THE INPUT: true; the input reads as it did. -/
def fnExactAddIntSpec : ChangeSpec := { name := "fnExactAddInt", fn := fun _ => fun
  | [d1, d2] => { results := [.lit (.bool true)], args := [d1, d2] }
  | _ => none }
def fnExactAddIntRow : OpenClaim := { program := "ytiaajlgpddfahaa", sum := "22798f871c05a63be645cc23feb0ec94d8939b3af10491e3b8136e6177808e88", func := "loop.example/g00500/laws.FnExactAddInt", spec := "fnExactAddInt", apart := false }
def FnExactAddIntSaid : Prop := fnExactAddIntRow.holds Try.pinned (OpenSpec.ofChange fnExactAddIntSpec)

/-- ITS FALSE NEIGHBOUR: 'it returns false'. Refute it at one input. -/
def fnExactAddIntWrong : ChangeSpec := { name := "fnExactAddInt", fn := fun _ => fun
  | [d1, d2] => { results := [.lit (.bool false)], args := [d1, d2] }
  | _ => none }
def FnExactAddIntWrongFalsely : Prop := fnExactAddIntRow.holds Try.pinned (OpenSpec.ofChange fnExactAddIntWrong)

/-- 'laws.FnExactSubInt': WHATEVER THE INPUT: true; the input reads as it did. -/
def fnExactSubIntSpec : ChangeSpec := { name := "fnExactSubInt", fn := fun _ => fun
  | [d1, d2] => { results := [.lit (.bool true)], args := [d1, d2] }
  | _ => none }
def fnExactSubIntRow : OpenClaim := { program := "ytiaajlgpddfahaa", sum := "22798f871c05a63be645cc23feb0ec94d8939b3af10491e3b8136e6177808e88", func := "loop.example/g00500/laws.FnExactSubInt", spec := "fnExactSubInt", apart := false }
def FnExactSubIntSaid : Prop := fnExactSubIntRow.holds Try.pinned (OpenSpec.ofChange fnExactSubIntSpec)

/-- ITS FALSE NEIGHBOUR: 'it returns false'. Refute it at one input. -/
def fnExactSubIntWrong : ChangeSpec := { name := "fnExactSubInt", fn := fun _ => fun
  | [d1, d2] => { results := [.lit (.bool false)], args := [d1, d2] }
  | _ => none }
def FnExactSubIntWrongFalsely : Prop := fnExactSubIntRow.holds Try.pinned (OpenSpec.ofChange fnExactSubIntWrong)

/-- 'laws.FnExactMulInt': WHATEVER THE INPUT: true; the input reads as it did. -/
def fnExactMulIntSpec : ChangeSpec := { name := "fnExactMulInt", fn := fun _ => fun
  | [d1, d2] => { results := [.lit (.bool true)], args := [d1, d2] }
  | _ => none }
def fnExactMulIntRow : OpenClaim := { program := "ytiaajlgpddfahaa", sum := "22798f871c05a63be645cc23feb0ec94d8939b3af10491e3b8136e6177808e88", func := "loop.example/g00500/laws.FnExactMulInt", spec := "fnExactMulInt", apart := false }
def FnExactMulIntSaid : Prop := fnExactMulIntRow.holds Try.pinned (OpenSpec.ofChange fnExactMulIntSpec)

/-- ITS FALSE NEIGHBOUR: 'it returns false'. Refute it at one input. -/
def fnExactMulIntWrong : ChangeSpec := { name := "fnExactMulInt", fn := fun _ => fun
  | [d1, d2] => { results := [.lit (.bool false)], args := [d1, d2] }
  | _ => none }
def FnExactMulIntWrongFalsely : Prop := fnExactMulIntRow.holds Try.pinned (OpenSpec.ofChange fnExactMulIntWrong)

/-- 'laws.FnExactFloorDiv': WHATEVER THE INPUT: true; the input reads as it did. -/
def fnExactFloorDivSpec : ChangeSpec := { name := "fnExactFloorDiv", fn := fun _ => fun
  | [d1, d2] => { results := [.lit (.bool true)], args := [d1, d2] }
  | _ => none }
def fnExactFloorDivRow : OpenClaim := { program := "ytiaajlgpddfahaa", sum := "22798f871c05a63be645cc23feb0ec94d8939b3af10491e3b8136e6177808e88", func := "loop.example/g00500/laws.FnExactFloorDiv", spec := "fnExactFloorDiv", apart := false }
def FnExactFloorDivSaid : Prop := fnExactFloorDivRow.holds Try.pinned (OpenSpec.ofChange fnExactFloorDivSpec)

/-- ITS FALSE NEIGHBOUR: 'it returns false'. Refute it at one input. -/
def fnExactFloorDivWrong : ChangeSpec := { name := "fnExactFloorDiv", fn := fun _ => fun
  | [d1, d2] => { results := [.lit (.bool false)], args := [d1, d2] }
  | _ => none }
def FnExactFloorDivWrongFalsely : Prop := fnExactFloorDivRow.holds Try.pinned (OpenSpec.ofChange fnExactFloorDivWrong)

/-- 'laws.FnExactBrought': WHATEVER THE INPUT: true; the input reads as it did. -/
def fnExactBroughtSpec : ChangeSpec := { name := "fnExactBrought", fn := fun _ => fun
  | [d1, d2, d3] => { results := [.lit (.bool true)], args := [d1, d2, d3] }
  | _ => none }
def fnExactBroughtRow : OpenClaim := { program := "ytiaajlgpddfahaa", sum := "22798f871c05a63be645cc23feb0ec94d8939b3af10491e3b8136e6177808e88", func := "loop.example/g00500/laws.FnExactBrought", spec := "fnExactBrought", apart := false }
def FnExactBroughtSaid : Prop := fnExactBroughtRow.holds Try.pinned (OpenSpec.ofChange fnExactBroughtSpec)

/-- ITS FALSE NEIGHBOUR: 'it returns false'. Refute it at one input. -/
def fnExactBroughtWrong : ChangeSpec := { name := "fnExactBrought", fn := fun _ => fun
  | [d1, d2, d3] => { results := [.lit (.bool false)], args := [d1, d2, d3] }
  | _ => none }
def FnExactBroughtWrongFalsely : Prop := fnExactBroughtRow.holds Try.pinned (OpenSpec.ofChange fnExactBroughtWrong)

/-- 'laws.FnExactSignOf': WHATEVER THE INPUT: true; the input reads as it did. -/
def fnExactSignOfSpec : ChangeSpec := { name := "fnExactSignOf", fn := fun _ => fun
  | [d] => { results := [.lit (.bool true)], args := [d] }
  | _ => none }
def fnExactSignOfRow : OpenClaim := { program := "ytiaajlgpddfahaa", sum := "22798f871c05a63be645cc23feb0ec94d8939b3af10491e3b8136e6177808e88", func := "loop.example/g00500/laws.FnExactSignOf", spec := "fnExactSignOf", apart := false }
def FnExactSignOfSaid : Prop := fnExactSignOfRow.holds Try.pinned (OpenSpec.ofChange fnExactSignOfSpec)

/-- ITS FALSE NEIGHBOUR: 'it returns false'. Refute it at one input. -/
def fnExactSignOfWrong : ChangeSpec := { name := "fnExactSignOf", fn := fun _ => fun
  | [d] => { results := [.lit (.bool false)], args := [d] }
  | _ => none }
def FnExactSignOfWrongFalsely : Prop := fnExactSignOfRow.holds Try.pinned (OpenSpec.ofChange fnExactSignOfWrong)

/-- 'laws.FnExactHalfSum': WHATEVER THE INPUT: true; the input reads as it did. -/
def fnExactHalfSumSpec : ChangeSpec := { name := "fnExactHalfSum", fn := fun _ => fun
  | [d1, d2] => { results := [.lit (.bool true)], args := [d1, d2] }
  | _ => none }
def fnExactHalfSumRow : OpenClaim := { program := "ytiaajlgpddfahaa", sum := "22798f871c05a63be645cc23feb0ec94d8939b3af10491e3b8136e6177808e88", func := "loop.example/g00500/laws.FnExactHalfSum", spec := "fnExactHalfSum", apart := false }
def FnExactHalfSumSaid : Prop := fnExactHalfSumRow.holds Try.pinned (OpenSpec.ofChange fnExactHalfSumSpec)

/-- ITS FALSE NEIGHBOUR: 'it returns false'. Refute it at one input. -/
def fnExactHalfSumWrong : ChangeSpec := { name := "fnExactHalfSum", fn := fun _ => fun
  | [d1, d2] => { results := [.lit (.bool false)], args := [d1, d2] }
  | _ => none }
def FnExactHalfSumWrongFalsely : Prop := fnExactHalfSumRow.holds Try.pinned (OpenSpec.ofChange fnExactHalfSumWrong)

/- THE SECOND FORM. 'bulk': how many values and letters a reading holds, each counted each time it is reached (what is shared counts as often as it is met; a slice's spare places count too). A statement '..UptoSaid' is the law's where the arguments, and the package variables that the reading takes, are together of bulk at most 1048576: NARROWER than '..Said'. Prove '..Said' where nothing that the law and all that it calls make is longer than what came in: it says more and counts as full. Else prove '..UptoSaid'. A law counts once. -/
mutual
def uptoBulk {H : Type} : DataW H → Nat
  | .lit (.string bytes) => bytes.length + 1
  | .lit _ => 1
  | .nil => 1
  | .ptr d => uptoBulk d + 1
  | .slice elems spare => uptoBulkAll elems + uptoBulkAll spare + 1
  | .agg parts => uptoBulkAll parts + 1
  | .iface _ d => uptoBulk d + 1
  | .map entries => uptoBulkEntries entries + 1
  | .held _ => 1
def uptoBulkAll {H : Type} : List (DataW H) → Nat
  | [] => 0
  | d :: r => uptoBulk d + uptoBulkAll r
def uptoBulkEntries {H : Type} : List (Lit × DataW H) → Nat
  | [] => 0
  | x :: r => uptoBulkEntry x + uptoBulkEntries r
def uptoBulkEntry {H : Type} : Lit × DataW H → Nat
  | (.string bytes, d) => bytes.length + uptoBulk d + 1
  | (_, d) => uptoBulk d + 1
 end
def uptoSmall : (H : Type) → List (DataW H) → Bool := fun _ ds => decide (uptoBulkAll ds ≤ 1048576)
def OpenSpec.upto (s : _root_.Go.ChangeSpec) : _root_.Go.OpenSpec := { _root_.Go.OpenSpec.ofChange s with cond := some uptoSmall }

/-- 'laws.FnAdded', WHERE WHAT IT READS IS OF BULK AT MOST 1048576: true; the input reads as it did. -/
def fnAddedUptoRow : OpenClaim := { program := "ytiaajlgpddfahaa", sum := "22798f871c05a63be645cc23feb0ec94d8939b3af10491e3b8136e6177808e88", func := "loop.example/g00500/laws.FnAdded", spec := "fnAdded", apart := false, narrowed := true }
def FnAddedUptoSaid : Prop := fnAddedUptoRow.holds Try.pinned (OpenSpec.upto fnAddedSpec)

/-- 'laws.FnHalf', WHERE WHAT IT READS IS OF BULK AT MOST 1048576: true; the input reads as it did. -/
def fnHalfUptoRow : OpenClaim := { program := "ytiaajlgpddfahaa", sum := "22798f871c05a63be645cc23feb0ec94d8939b3af10491e3b8136e6177808e88", func := "loop.example/g00500/laws.FnHalf", spec := "fnHalf", apart := false, narrowed := true }
def FnHalfUptoSaid : Prop := fnHalfUptoRow.holds Try.pinned (OpenSpec.upto fnHalfSpec)

/-- 'laws.FnBrought', WHERE WHAT IT READS IS OF BULK AT MOST 1048576: true; the input reads as it did. -/
def fnBroughtUptoRow : OpenClaim := { program := "ytiaajlgpddfahaa", sum := "22798f871c05a63be645cc23feb0ec94d8939b3af10491e3b8136e6177808e88", func := "loop.example/g00500/laws.FnBrought", spec := "fnBrought", apart := false, narrowed := true }
def FnBroughtUptoSaid : Prop := fnBroughtUptoRow.holds Try.pinned (OpenSpec.upto fnBroughtSpec)

/-- 'laws.FnExactAddInt', WHERE WHAT IT READS IS OF BULK AT MOST 1048576: true; the input reads as it did. -/
def fnExactAddIntUptoRow : OpenClaim := { program := "ytiaajlgpddfahaa", sum := "22798f871c05a63be645cc23feb0ec94d8939b3af10491e3b8136e6177808e88", func := "loop.example/g00500/laws.FnExactAddInt", spec := "fnExactAddInt", apart := false, narrowed := true }
def FnExactAddIntUptoSaid : Prop := fnExactAddIntUptoRow.holds Try.pinned (OpenSpec.upto fnExactAddIntSpec)

/-- 'laws.FnExactSubInt', WHERE WHAT IT READS IS OF BULK AT MOST 1048576: true; the input reads as it did. -/
def fnExactSubIntUptoRow : OpenClaim := { program := "ytiaajlgpddfahaa", sum := "22798f871c05a63be645cc23feb0ec94d8939b3af10491e3b8136e6177808e88", func := "loop.example/g00500/laws.FnExactSubInt", spec := "fnExactSubInt", apart := false, narrowed := true }
def FnExactSubIntUptoSaid : Prop := fnExactSubIntUptoRow.holds Try.pinned (OpenSpec.upto fnExactSubIntSpec)

/-- 'laws.FnExactMulInt', WHERE WHAT IT READS IS OF BULK AT MOST 1048576: true; the input reads as it did. -/
def fnExactMulIntUptoRow : OpenClaim := { program := "ytiaajlgpddfahaa", sum := "22798f871c05a63be645cc23feb0ec94d8939b3af10491e3b8136e6177808e88", func := "loop.example/g00500/laws.FnExactMulInt", spec := "fnExactMulInt", apart := false, narrowed := true }
def FnExactMulIntUptoSaid : Prop := fnExactMulIntUptoRow.holds Try.pinned (OpenSpec.upto fnExactMulIntSpec)

/-- 'laws.FnExactFloorDiv', WHERE WHAT IT READS IS OF BULK AT MOST 1048576: true; the input reads as it did. -/
def fnExactFloorDivUptoRow : OpenClaim := { program := "ytiaajlgpddfahaa", sum := "22798f871c05a63be645cc23feb0ec94d8939b3af10491e3b8136e6177808e88", func := "loop.example/g00500/laws.FnExactFloorDiv", spec := "fnExactFloorDiv", apart := false, narrowed := true }
def FnExactFloorDivUptoSaid : Prop := fnExactFloorDivUptoRow.holds Try.pinned (OpenSpec.upto fnExactFloorDivSpec)

/-- 'laws.FnExactBrought', WHERE WHAT IT READS IS OF BULK AT MOST 1048576: true; the input reads as it did. -/
def fnExactBroughtUptoRow : OpenClaim := { program := "ytiaajlgpddfahaa", sum := "22798f871c05a63be645cc23feb0ec94d8939b3af10491e3b8136e6177808e88", func := "loop.example/g00500/laws.FnExactBrought", spec := "fnExactBrought", apart := false, narrowed := true }
def FnExactBroughtUptoSaid : Prop := fnExactBroughtUptoRow.holds Try.pinned (OpenSpec.upto fnExactBroughtSpec)

/-- 'laws.FnExactSignOf', WHERE WHAT IT READS IS OF BULK AT MOST 1048576: true; the input reads as it did. -/
def fnExactSignOfUptoRow : OpenClaim := { program := "ytiaajlgpddfahaa", sum := "22798f871c05a63be645cc23feb0ec94d8939b3af10491e3b8136e6177808e88", func := "loop.example/g00500/laws.FnExactSignOf", spec := "fnExactSignOf", apart := false, narrowed := true }
def FnExactSignOfUptoSaid : Prop := fnExactSignOfUptoRow.holds Try.pinned (OpenSpec.upto fnExactSignOfSpec)

/-- 'laws.FnExactHalfSum', WHERE WHAT IT READS IS OF BULK AT MOST 1048576: true; the input reads as it did. -/
def fnExactHalfSumUptoRow : OpenClaim := { program := "ytiaajlgpddfahaa", sum := "22798f871c05a63be645cc23feb0ec94d8939b3af10491e3b8136e6177808e88", func := "loop.example/g00500/laws.FnExactHalfSum", spec := "fnExactHalfSum", apart := false, narrowed := true }
def FnExactHalfSumUptoSaid : Prop := fnExactHalfSumUptoRow.holds Try.pinned (OpenSpec.upto fnExactHalfSumSpec)

end Rows
end Go.Proofs.Ytiaajlgpddfahaa
