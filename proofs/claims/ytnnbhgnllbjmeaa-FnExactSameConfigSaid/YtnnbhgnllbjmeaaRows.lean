/-
  No cell of these rows narrows 'for every input' (looked for: loops, veiled, ifaces, maps, wideKeys, modest, calm, conditions, laid).
  DERIVED. THE GIVEN ROWS OF THIS SEAT. 5 by the template 'for every input the law returns true; each argument reads behind the call as it read before'; 0 by the template 'total and deterministic' (their statements: YtnnbhgnllbjmeaaTotals.lean).
  GIVEN WITH THE SEED: the statements are not yours to turn. If you find one false, say at which input.
  Laid BY PROGRAM, IN A SANDBOX (cutbox-rows.mjs): the forced cells as the released guide's own fill.sh prints them over the translation 4984031d8f523efa… (all of the seat's roots in one cut). By AI agents, Wed Nov 11 2026. No macro, syntax, notation, axiom, sorry.
-/
import Derived.Test.YtnnbhgnllbjmeaaChecked
import GoSem.Claim
import GoSem.ClaimJoined
import GoSem.ClaimMapViews
import Derived.JoinedTies
import Derived.KernelRfl
namespace Go.Proofs.Ytnnbhgnllbjmeaa
/- THE CELL 'sum', in the pinned program and in every row, IS THE sha256 OF THE DUMP (.gsa) THAT YtnnbhgnllbjmeaaProg.lean LOADS. Nothing in Lean hashes anything: it is a label: what it is worth is what the hold of that sum in a sandbox is worth. -/
noncomputable def Try.pinned : Pinned := { name := "ytnnbhgnllbjmeaa", sum := "4984031d8f523efa07b0c221b8e910328218d48e9e808ff3ef8a694471f13a35", checked := Try.checked }
namespace Rows
def none {H : Type} : Left H := { results := [], args := [] }

/-- 'laws.FnSigns': WHATEVER THE INPUT: true; the input reads as it did. -/
def fnSignsSpec : ChangeSpec := { name := "fnSigns", fn := fun _ => fun
  | [d] => { results := [.lit (.bool true)], args := [d] }
  | _ => none }
def fnSignsRow : OpenClaim := { program := "ytnnbhgnllbjmeaa", sum := "4984031d8f523efa07b0c221b8e910328218d48e9e808ff3ef8a694471f13a35", func := "loop.example/g00500/laws.FnSigns", spec := "fnSigns", apart := false }
def FnSignsSaid : Prop := fnSignsRow.holds Try.pinned (OpenSpec.ofChange fnSignsSpec)

/-- ITS FALSE NEIGHBOUR: 'it returns false'. Refute it at one input. -/
def fnSignsWrong : ChangeSpec := { name := "fnSigns", fn := fun _ => fun
  | [d] => { results := [.lit (.bool false)], args := [d] }
  | _ => none }
def FnSignsWrongFalsely : Prop := fnSignsRow.holds Try.pinned (OpenSpec.ofChange fnSignsWrong)

/-- 'laws.FnExactUsualConfig': WHATEVER THE INPUT: true; the input reads as it did. -/
def fnExactUsualConfigSpec : ChangeSpec := { name := "fnExactUsualConfig", fn := fun _ => fun
  | [] => { results := [.lit (.bool true)], args := [] }
  | _ => none }
def fnExactUsualConfigRow : OpenClaim := { program := "ytnnbhgnllbjmeaa", sum := "4984031d8f523efa07b0c221b8e910328218d48e9e808ff3ef8a694471f13a35", func := "loop.example/g00500/laws.FnExactUsualConfig", spec := "fnExactUsualConfig", apart := false }
def FnExactUsualConfigSaid : Prop := fnExactUsualConfigRow.holds Try.pinned (OpenSpec.ofChange fnExactUsualConfigSpec)

/-- ITS FALSE NEIGHBOUR: 'it returns false'. Refute it at one input. -/
def fnExactUsualConfigWrong : ChangeSpec := { name := "fnExactUsualConfig", fn := fun _ => fun
  | [] => { results := [.lit (.bool false)], args := [] }
  | _ => none }
def FnExactUsualConfigWrongFalsely : Prop := fnExactUsualConfigRow.holds Try.pinned (OpenSpec.ofChange fnExactUsualConfigWrong)

/-- 'laws.FnExactConfigOk': WHATEVER THE INPUT: true; the input reads as it did. -/
def fnExactConfigOkSpec : ChangeSpec := { name := "fnExactConfigOk", fn := fun _ => fun
  | [d] => { results := [.lit (.bool true)], args := [d] }
  | _ => none }
def fnExactConfigOkRow : OpenClaim := { program := "ytnnbhgnllbjmeaa", sum := "4984031d8f523efa07b0c221b8e910328218d48e9e808ff3ef8a694471f13a35", func := "loop.example/g00500/laws.FnExactConfigOk", spec := "fnExactConfigOk", unfollowed := true, recurses := true, apart := false }
def FnExactConfigOkSaid : Prop := fnExactConfigOkRow.holds Try.pinned (OpenSpec.ofChange fnExactConfigOkSpec)

/-- ITS FALSE NEIGHBOUR: 'it returns false'. Refute it at one input. -/
def fnExactConfigOkWrong : ChangeSpec := { name := "fnExactConfigOk", fn := fun _ => fun
  | [d] => { results := [.lit (.bool false)], args := [d] }
  | _ => none }
def FnExactConfigOkWrongFalsely : Prop := fnExactConfigOkRow.holds Try.pinned (OpenSpec.ofChange fnExactConfigOkWrong)

/-- 'laws.FnExactSameConfig': WHATEVER THE INPUT: true; the input reads as it did. -/
def fnExactSameConfigSpec : ChangeSpec := { name := "fnExactSameConfig", fn := fun _ => fun
  | [d1, d2] => { results := [.lit (.bool true)], args := [d1, d2] }
  | _ => none }
def fnExactSameConfigRow : OpenClaim := { program := "ytnnbhgnllbjmeaa", sum := "4984031d8f523efa07b0c221b8e910328218d48e9e808ff3ef8a694471f13a35", func := "loop.example/g00500/laws.FnExactSameConfig", spec := "fnExactSameConfig", apart := false }
def FnExactSameConfigSaid : Prop := fnExactSameConfigRow.holds Try.pinned (OpenSpec.ofChange fnExactSameConfigSpec)

/-- ITS FALSE NEIGHBOUR: 'it returns false'. Refute it at one input. -/
def fnExactSameConfigWrong : ChangeSpec := { name := "fnExactSameConfig", fn := fun _ => fun
  | [d1, d2] => { results := [.lit (.bool false)], args := [d1, d2] }
  | _ => none }
def FnExactSameConfigWrongFalsely : Prop := fnExactSameConfigRow.holds Try.pinned (OpenSpec.ofChange fnExactSameConfigWrong)

/-- 'laws.FnExactSignFor': WHATEVER THE INPUT: true; the input reads as it did. -/
def fnExactSignForSpec : ChangeSpec := { name := "fnExactSignFor", fn := fun _ => fun
  | [d1, d2] => { results := [.lit (.bool true)], args := [d1, d2] }
  | _ => none }
def fnExactSignForRow : OpenClaim := { program := "ytnnbhgnllbjmeaa", sum := "4984031d8f523efa07b0c221b8e910328218d48e9e808ff3ef8a694471f13a35", func := "loop.example/g00500/laws.FnExactSignFor", spec := "fnExactSignFor", apart := false }
def FnExactSignForSaid : Prop := fnExactSignForRow.holds Try.pinned (OpenSpec.ofChange fnExactSignForSpec)

/-- ITS FALSE NEIGHBOUR: 'it returns false'. Refute it at one input. -/
def fnExactSignForWrong : ChangeSpec := { name := "fnExactSignFor", fn := fun _ => fun
  | [d1, d2] => { results := [.lit (.bool false)], args := [d1, d2] }
  | _ => none }
def FnExactSignForWrongFalsely : Prop := fnExactSignForRow.holds Try.pinned (OpenSpec.ofChange fnExactSignForWrong)

/- THE SECOND FORM. 'bulk': how many values and letters a reading holds, each counted each time it is reached (what is shared counts as often as it is met; a slice's spare places count too). A statement '..UptoSaid' is the law's where the arguments, and the package variables that the reading takes, are together of bulk at most 1048576: NARROWER than '..Said'. Prove '..Said' where nothing that the law and all that it calls make is longer than what came in: it says more and counts as full. Else prove '..UptoSaid'. A law counts once. -/
mutual
def uptoBulk {H : Type} : DataW H → Nat
  | .lit (.string bytes) => bytes.length + 1
  | .lit _ => 1
  | .nil => 1
  | .ptr d => uptoBulk d + 1
  | .slice elems spare => uptoBulkAll elems + uptoBulkAll spare + 1
  | .agg parts => uptoBulkAll parts + 1
  | .iface _ d => uptoBulk d + 1
  | .map entries => uptoBulkEntries entries + 1
  | .held _ => 1
def uptoBulkAll {H : Type} : List (DataW H) → Nat
  | [] => 0
  | d :: r => uptoBulk d + uptoBulkAll r
def uptoBulkEntries {H : Type} : List (Lit × DataW H) → Nat
  | [] => 0
  | x :: r => uptoBulkEntry x + uptoBulkEntries r
def uptoBulkEntry {H : Type} : Lit × DataW H → Nat
  | (.string bytes, d) => bytes.length + uptoBulk d + 1
  | (_, d) => uptoBulk d + 1
 end
def uptoSmall : (H : Type) → List (DataW H) → Bool := fun _ ds => decide (uptoBulkAll ds ≤ 1048576)
def OpenSpec.upto (s : _root_.Go.ChangeSpec) : _root_.Go.OpenSpec := { _root_.Go.OpenSpec.ofChange s with cond := some uptoSmall }

/-- 'laws.FnSigns', WHERE WHAT IT READS IS OF BULK AT MOST 1048576: true; the input reads as it did. -/
def fnSignsUptoRow : OpenClaim := { program := "ytnnbhgnllbjmeaa", sum := "4984031d8f523efa07b0c221b8e910328218d48e9e808ff3ef8a694471f13a35", func := "loop.example/g00500/laws.FnSigns", spec := "fnSigns", apart := false, narrowed := true }
def FnSignsUptoSaid : Prop := fnSignsUptoRow.holds Try.pinned (OpenSpec.upto fnSignsSpec)

/-- 'laws.FnExactUsualConfig', WHERE WHAT IT READS IS OF BULK AT MOST 1048576: true; the input reads as it did. -/
def fnExactUsualConfigUptoRow : OpenClaim := { program := "ytnnbhgnllbjmeaa", sum := "4984031d8f523efa07b0c221b8e910328218d48e9e808ff3ef8a694471f13a35", func := "loop.example/g00500/laws.FnExactUsualConfig", spec := "fnExactUsualConfig", apart := false, narrowed := true }
def FnExactUsualConfigUptoSaid : Prop := fnExactUsualConfigUptoRow.holds Try.pinned (OpenSpec.upto fnExactUsualConfigSpec)

/-- 'laws.FnExactConfigOk', WHERE WHAT IT READS IS OF BULK AT MOST 1048576: true; the input reads as it did. -/
def fnExactConfigOkUptoRow : OpenClaim := { program := "ytnnbhgnllbjmeaa", sum := "4984031d8f523efa07b0c221b8e910328218d48e9e808ff3ef8a694471f13a35", func := "loop.example/g00500/laws.FnExactConfigOk", spec := "fnExactConfigOk", unfollowed := true, recurses := true, apart := false, narrowed := true }
def FnExactConfigOkUptoSaid : Prop := fnExactConfigOkUptoRow.holds Try.pinned (OpenSpec.upto fnExactConfigOkSpec)

/-- 'laws.FnExactSameConfig', WHERE WHAT IT READS IS OF BULK AT MOST 1048576: true; the input reads as it did. -/
def fnExactSameConfigUptoRow : OpenClaim := { program := "ytnnbhgnllbjmeaa", sum := "4984031d8f523efa07b0c221b8e910328218d48e9e808ff3ef8a694471f13a35", func := "loop.example/g00500/laws.FnExactSameConfig", spec := "fnExactSameConfig", apart := false, narrowed := true }
def FnExactSameConfigUptoSaid : Prop := fnExactSameConfigUptoRow.holds Try.pinned (OpenSpec.upto fnExactSameConfigSpec)

/-- 'laws.FnExactSignFor', WHERE WHAT IT READS IS OF BULK AT MOST 1048576: true; the input reads as it did. -/
def fnExactSignForUptoRow : OpenClaim := { program := "ytnnbhgnllbjmeaa", sum := "4984031d8f523efa07b0c221b8e910328218d48e9e808ff3ef8a694471f13a35", func := "loop.example/g00500/laws.FnExactSignFor", spec := "fnExactSignFor", apart := false, narrowed := true }
def FnExactSignForUptoSaid : Prop := fnExactSignForUptoRow.holds Try.pinned (OpenSpec.upto fnExactSignForSpec)

end Rows
end Go.Proofs.Ytnnbhgnllbjmeaa
