/-
  What the rows' lists of package-level variables give, and the world in which the witnesses lie.
-/
import Derived.Test.YtnnbhgnllbjmeaaDoorBas
import Derived.Test.YtnnbhgnllbjmeaaDoorCards
import Derived.Test.YtnnbhgnllbjmeaaDoorTie
import Derived.Test.YtnnbhgnllbjmeaaDoorU
import Derived.OpenShut
import Derived.Deep.DeepHandedRow
import Derived.Lib.LaidTab
import Derived.Lib.ItoaNum
import Derived.Stop.LaidErr
import Derived.WalkSmall
import Derived.Lib.AtoiErrMem
namespace Go.Proofs.YtnnbhgnllbjmeaaDoor
open Go.ChangeShapes Go.WideShapes Go.ChangeAt Go.RowKit

theorem own : ownKnob Tryd.prog.godebug = none := by kernel_rfl

theorem gPow : Tryd.prog.globalNamed "internal/strconv.uint64pow10" = some 1 := by kernel_rfl
theorem gPowType : (Tryd.prog.globals[1]?).map (·.type) = some 133 := by kernel_rfl
theorem cellsPow : Tryd.prog.cellsOf 133 = 20 := by kernel_rfl
theorem cellsU64 : Tryd.prog.cellsOf 108 = 1 := by kernel_rfl
theorem powData : (Rows.laid_internal_strconv_uint64pow10 : DataW Unit) = Lib.tabData .u64 Lib.pow10Tab := by kernel_rfl

/-- The numbers of a listed table, as cells. -/
def flatCell : DataW Unit → List Value
  | .lit (.int k n) => [Value.int k n]
  | _ => []
def flatRow : DataW Unit → List Value
  | .agg l => l.flatMap flatCell
  | d => flatCell d
def tabCells : DataW Unit → Array Value
  | .agg l => (l.flatMap flatRow).toArray
  | _ => #[]
def sentText : DataW Unit → List UInt8
  | .iface _ (.ptr (.agg [.lit (.string l)])) => l
  | _ => []
/-- So many blocks has the settled world. -/
noncomputable def low : Nat := (World.holding Tryd.prog default ⟨#[], #[], []⟩).heap.size
def setCells (cs : Array Value) : Obj → Obj
  | .cells _ t f => .cells cs t f
  | o => o
theorem gES : Tryd.prog.globalNamed "strconv.ErrSyntax" = some 4 := by kernel_rfl
theorem gESType : (Tryd.prog.globals[4]?).map (·.type) = some 54 := by kernel_rfl
theorem gER : Tryd.prog.globalNamed "strconv.ErrRange" = some 5 := by kernel_rfl
theorem gERType : (Tryd.prog.globals[5]?).map (·.type) = some 54 := by kernel_rfl
theorem cellsErr : Tryd.prog.cellsOf 157 = 1 := by kernel_rfl
theorem star : "*" ++ "errors.errorString" = "*errors.errorString" := by decide
theorem rowErr (u : TypeId) (h : Tryd.prog.typeName? 3 u = some "*errors.errorString") : u = 155 :=
  typeName_ptr_named (nm := "errors.errorString") (by rw [star]; kernel_rfl) (by kernel_rfl) (by decide) u (by rw [star]; exact h)

/-- What the row's list gives of the two errors. -/
theorem errSyntax {r : List (String × DataW Unit)} {W : World} (h : laidMet Tryd.prog (("strconv.ErrSyntax", Rows.laid_strconv_ErrSyntax) :: r) W) : ∃ a, W.var? Tryd.prog "strconv.ErrSyntax" = some #[.iface 155 (.pointer (some a))] := by
  obtain ⟨a0, s0, hv0, -, -, -⟩ := laid_sentinel h gES gESType Tryd.underlying54 rowErr Tryd.underlying155 Tryd.underlying157 rfl rfl Tryd.underlying9 cellsErr cellsStr
  exact ⟨a0, hv0⟩
theorem errRange {r : List (String × DataW Unit)} {W : World} (h : laidMet Tryd.prog (("strconv.ErrRange", Rows.laid_strconv_ErrRange) :: r) W) : ∃ a, W.var? Tryd.prog "strconv.ErrRange" = some #[.iface 155 (.pointer (some a))] := by
  obtain ⟨a0, s0, hv0, -, -, -⟩ := laid_sentinel h gER gERType Tryd.underlying54 rowErr Tryd.underlying155 Tryd.underlying157 rfl rfl Tryd.underlying9 cellsErr cellsStr
  exact ⟨a0, hv0⟩

theorem var_lt {P : Program} {W : World} {name : String} {v : Value} {g : Nat} (hg : P.globalNamed name = some g) (h : W.var? P name = some #[v]) : g < W.heap.size := by
  have h0 := World.var?_cell hg h 0
  exact Lib.lt_of_cell (a := ⟨g, 0, none⟩) (by simpa using h0)
theorem tab_lt {P : Program} {W : World} {name : String} {k : IntKind} {zs : List Int} {g : Nat} (h : Lib.TabIs P W name k zs) (hg : P.globalNamed name = some g) (hi : 0 < zs.length) : g < W.heap.size :=
  Lib.lt_of_cell (h.cell hg 0 hi)
end Go.Proofs.YtnnbhgnllbjmeaaDoor
