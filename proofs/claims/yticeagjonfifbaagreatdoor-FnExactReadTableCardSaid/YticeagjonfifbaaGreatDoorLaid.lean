/-
  What the rows' lists of package-level variables give, and the world in which the witnesses lie.
-/
import Derived.Test.YticeagjonfifbaaGreatDoorPk2
import Derived.Test.YticeagjonfifbaaGreatDoorCards
import Derived.Test.YticeagjonfifbaaGreatDoorTie
import Derived.Test.YticeagjonfifbaaGreatDoorPk1
import Derived.OpenShut
import Derived.Deep.DeepHandedRow
import Derived.Lib.LaidTab
import Derived.Lib.ItoaNum
import Derived.Stop.LaidErr
import Derived.WalkSmall
import Derived.Lib.AtoiErrMem
namespace Go.Proofs.YticeagjonfifbaaGreatDoor
open Go.ChangeShapes Go.WideShapes Go.ChangeAt Go.RowKit

theorem own : ownKnob Tryz.prog.godebug = none := by kernel_rfl

theorem gPow : Tryz.prog.globalNamed "internal/strconv.uint64pow10" = some 1 := by kernel_rfl
theorem gPowType : (Tryz.prog.globals[1]?).map (·.type) = some 181 := by kernel_rfl
theorem cellsPow : Tryz.prog.cellsOf 181 = 20 := by kernel_rfl
theorem cellsU64 : Tryz.prog.cellsOf 173 = 1 := by kernel_rfl
theorem powData : (Rows.laid_internal_strconv_uint64pow10 : DataW Unit) = Lib.tabData .u64 Lib.pow10Tab := by kernel_rfl

/-- The numbers of a listed table, as cells. -/
def flatCell : DataW Unit → List Value
  | .lit (.int k n) => [Value.int k n]
  | _ => []
def flatRow : DataW Unit → List Value
  | .agg l => l.flatMap flatCell
  | d => flatCell d
def tabCells : DataW Unit → Array Value
  | .agg l => (l.flatMap flatRow).toArray
  | _ => #[]
def sentText : DataW Unit → List UInt8
  | .iface _ (.ptr (.agg [.lit (.string l)])) => l
  | _ => []
/-- So many blocks has the settled world. -/
noncomputable def low : Nat := (World.holding Tryz.prog default ⟨#[], #[], []⟩).heap.size
def setCells (cs : Array Value) : Obj → Obj
  | .cells _ t f => .cells cs t f
  | o => o
theorem gES : Tryz.prog.globalNamed "strconv.ErrSyntax" = some 7 := by kernel_rfl
theorem gESType : (Tryz.prog.globals[7]?).map (·.type) = some 53 := by kernel_rfl
theorem gER : Tryz.prog.globalNamed "strconv.ErrRange" = some 8 := by kernel_rfl
theorem gERType : (Tryz.prog.globals[8]?).map (·.type) = some 53 := by kernel_rfl
theorem cellsErr : Tryz.prog.cellsOf 210 = 1 := by kernel_rfl
theorem star : "*" ++ "errors.errorString" = "*errors.errorString" := by decide
theorem rowErr (u : TypeId) (h : Tryz.prog.typeName? 3 u = some "*errors.errorString") : u = 208 :=
  typeName_ptr_named (nm := "errors.errorString") (by rw [star]; kernel_rfl) (by kernel_rfl) (by decide) u (by rw [star]; exact h)

/-- What the row's list gives of the two errors. -/
theorem errSyntax {r : List (String × DataW Unit)} {W : World} (h : laidMet Tryz.prog (("strconv.ErrSyntax", Rows.laid_strconv_ErrSyntax) :: r) W) : ∃ a, W.var? Tryz.prog "strconv.ErrSyntax" = some #[.iface 208 (.pointer (some a))] := by
  obtain ⟨a0, s0, hv0, -, -, -⟩ := laid_sentinel h gES gESType Tryz.underlying53 rowErr Tryz.underlying208 Tryz.underlying210 rfl rfl Tryz.underlying9 cellsErr cellsStr
  exact ⟨a0, hv0⟩
theorem errRange {r : List (String × DataW Unit)} {W : World} (h : laidMet Tryz.prog (("strconv.ErrRange", Rows.laid_strconv_ErrRange) :: r) W) : ∃ a, W.var? Tryz.prog "strconv.ErrRange" = some #[.iface 208 (.pointer (some a))] := by
  obtain ⟨a0, s0, hv0, -, -, -⟩ := laid_sentinel h gER gERType Tryz.underlying53 rowErr Tryz.underlying208 Tryz.underlying210 rfl rfl Tryz.underlying9 cellsErr cellsStr
  exact ⟨a0, hv0⟩

theorem var_lt {P : Program} {W : World} {name : String} {v : Value} {g : Nat} (hg : P.globalNamed name = some g) (h : W.var? P name = some #[v]) : g < W.heap.size := by
  have h0 := World.var?_cell hg h 0
  exact Lib.lt_of_cell (a := ⟨g, 0, none⟩) (by simpa using h0)
theorem tab_lt {P : Program} {W : World} {name : String} {k : IntKind} {zs : List Int} {g : Nat} (h : Lib.TabIs P W name k zs) (hg : P.globalNamed name = some g) (hi : 0 < zs.length) : g < W.heap.size :=
  Lib.lt_of_cell (h.cell hg 0 hi)
end Go.Proofs.YticeagjonfifbaaGreatDoor
