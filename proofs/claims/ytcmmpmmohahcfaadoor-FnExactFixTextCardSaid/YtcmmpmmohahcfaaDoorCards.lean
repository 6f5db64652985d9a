/-
  DERIVED. GIVEN WITH THE SEED: THE CARDS: each row of YtcmmpmmohahcfaaDoorRows.lean that lists a variable, with what it lists TIED to the program's text (the seventh form; the later family's looks); each row that meets fmt, with fmt's text TOLD by the authors' own Lean function (tested against real Go, not proved from fmt's source: count such statements apart). THE CARD IS WHAT COUNTS. Prove the row's statement (the work); the ties are given (YtcmmpmmohahcfaaDoorTie.lean); close each card by the builder's one call (the guide's Derived/Test/ToyasCard.lean, 'card_holds'). Laid BY PROGRAM, IN A SANDBOX (cutbox-door.mjs). By AI agents, Wed Nov 11 2026. No macro, syntax, notation, axiom, sorry.
-/
import Derived.Test.YtcmmpmmohahcfaaDoorRows
import GoSem.ClaimSeven
namespace Go.Proofs.YtcmmpmmohahcfaaDoor
namespace Rows

/-- THE TIED CARD OF 'laws.FnFix'. -/
def fnFixCard : Claim7 := { stood := { row := fnFixRow, standIns := [], harness := (true, "5a8c586c513e016e22126b5268819389158c0d2659b2444c4df135805ab98fa0"), looks := true }, kinds := [], alts := [], laidByText := true, laidKinds := [.data, .data, .data, .data, .sentinel, .sentinel, .pinned], laidTests := true, laidLooks := .later }
def FnFixCardSaid : Prop := Claim7.holds Tryd.pinned (.plain (OpenSpec.ofChange fnFixSpec)) fnFixCard

/-- THE TIED CARD OF 'laws.FnExactFixText'. -/
def fnExactFixTextCard : Claim7 := { stood := { row := fnExactFixTextRow, standIns := [], harness := (true, "5a8c586c513e016e22126b5268819389158c0d2659b2444c4df135805ab98fa0"), looks := true }, kinds := [], alts := [], laidByText := true, laidKinds := [.data, .data, .data, .data, .pinned], laidTests := true, laidLooks := .later }
def FnExactFixTextCardSaid : Prop := Claim7.holds Tryd.pinned (.plain (OpenSpec.ofChange fnExactFixTextSpec)) fnExactFixTextCard

/-- THE TIED CARD OF 'laws.FnExactReadFix'. -/
def fnExactReadFixCard : Claim7 := { stood := { row := fnExactReadFixRow, standIns := [], harness := (true, "5a8c586c513e016e22126b5268819389158c0d2659b2444c4df135805ab98fa0"), looks := true }, kinds := [], alts := [], laidByText := true, laidKinds := [.data, .data, .data, .sentinel, .sentinel], laidTests := true, laidLooks := .later }
def FnExactReadFixCardSaid : Prop := Claim7.holds Tryd.pinned (.plain (OpenSpec.ofChange fnExactReadFixSpec)) fnExactReadFixCard

/-- THE TIED CARD OF 'laws.FnExactFixNormal'. -/
def fnExactFixNormalCard : Claim7 := { stood := { row := fnExactFixNormalRow, standIns := [], harness := (true, "5a8c586c513e016e22126b5268819389158c0d2659b2444c4df135805ab98fa0"), looks := true }, kinds := [], alts := [], laidByText := true, laidKinds := [.data, .data, .data, .data, .sentinel, .sentinel, .pinned], laidTests := true, laidLooks := .later }
def FnExactFixNormalCardSaid : Prop := Claim7.holds Tryd.pinned (.plain (OpenSpec.ofChange fnExactFixNormalSpec)) fnExactFixNormalCard

/-- THE SECOND FORM's CARD OF 'laws.FnFix'. -/
def fnFixUptoCard : Claim7 := { stood := { row := fnFixUptoRow, standIns := [], harness := (true, "5a8c586c513e016e22126b5268819389158c0d2659b2444c4df135805ab98fa0"), looks := true }, kinds := [], alts := [], laidByText := true, laidKinds := [.data, .data, .data, .data, .sentinel, .sentinel, .pinned], laidTests := true, laidLooks := .later }
def FnFixUptoCardSaid : Prop := Claim7.holds Tryd.pinned (.plain (OpenSpec.upto fnFixSpec)) fnFixUptoCard

/-- THE SECOND FORM's CARD OF 'laws.FnExactFixText'. -/
def fnExactFixTextUptoCard : Claim7 := { stood := { row := fnExactFixTextUptoRow, standIns := [], harness := (true, "5a8c586c513e016e22126b5268819389158c0d2659b2444c4df135805ab98fa0"), looks := true }, kinds := [], alts := [], laidByText := true, laidKinds := [.data, .data, .data, .data, .pinned], laidTests := true, laidLooks := .later }
def FnExactFixTextUptoCardSaid : Prop := Claim7.holds Tryd.pinned (.plain (OpenSpec.upto fnExactFixTextSpec)) fnExactFixTextUptoCard

/-- THE SECOND FORM's CARD OF 'laws.FnExactReadFix'. -/
def fnExactReadFixUptoCard : Claim7 := { stood := { row := fnExactReadFixUptoRow, standIns := [], harness := (true, "5a8c586c513e016e22126b5268819389158c0d2659b2444c4df135805ab98fa0"), looks := true }, kinds := [], alts := [], laidByText := true, laidKinds := [.data, .data, .data, .sentinel, .sentinel], laidTests := true, laidLooks := .later }
def FnExactReadFixUptoCardSaid : Prop := Claim7.holds Tryd.pinned (.plain (OpenSpec.upto fnExactReadFixSpec)) fnExactReadFixUptoCard

/-- THE SECOND FORM's CARD OF 'laws.FnExactFixNormal'. -/
def fnExactFixNormalUptoCard : Claim7 := { stood := { row := fnExactFixNormalUptoRow, standIns := [], harness := (true, "5a8c586c513e016e22126b5268819389158c0d2659b2444c4df135805ab98fa0"), looks := true }, kinds := [], alts := [], laidByText := true, laidKinds := [.data, .data, .data, .data, .sentinel, .sentinel, .pinned], laidTests := true, laidLooks := .later }
def FnExactFixNormalUptoCardSaid : Prop := Claim7.holds Tryd.pinned (.plain (OpenSpec.upto fnExactFixNormalSpec)) fnExactFixNormalUptoCard
end Rows
end Go.Proofs.YtcmmpmmohahcfaaDoor
