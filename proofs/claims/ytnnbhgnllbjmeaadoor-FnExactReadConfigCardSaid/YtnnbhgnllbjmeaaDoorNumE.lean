/-
  What reading a number ends in, in one word.
-/
import Derived.Test.YtnnbhgnllbjmeaaDoorFixD
import Derived.Test.YtnnbhgnllbjmeaaDoorNumI
namespace Go.Proofs.YtnnbhgnllbjmeaaDoor
open Go.RowKit

theorem cell_keep6 {w w' : World} {a : Addr} {v : Value} (h : w.cell? a = some v) (hB : Below w.heap.size w w') : w'.cell? a = some v := (hB.cell (World.block_lt_of_cell? w a h)).trans h
/-- What reading a number ends in. -/
noncomputable def numE (l : List UInt8) : Ending :=
  match numV l with
  | some n => .returned (.tuple #[.int .i64 n, .bool true])
  | none => .returned (.tuple #[.int .i64 0, .bool false])
theorem nr_numE {l : List UInt8} {e : Ending} (h : NrPost l e) : e = numE l := by
  rcases h with ⟨n, hn, h0, h1, rfl⟩ | ⟨hno, rfl⟩
  · rw [numE, numV_some hn h0 h1]
  · rw [numE, numV_none hno]
theorem numE_some {l : List UInt8} {n : Int} (h : numV l = some n) : numE l = .returned (.tuple #[.int .i64 n, .bool true]) := by rw [numE, h]
theorem numE_none {l : List UInt8} (h : numV l = none) : numE l = .returned (.tuple #[.int .i64 0, .bool false]) := by rw [numE, h]
theorem specNumberE (s : ByteArray) (w : World) :
    Calls Tryd.prog 53 #[.string s] w fun e w' => e = numE s.data.toList ∧ Below w.heap.size w w' :=
  (specNumber s w).mono fun _ _ k => ⟨nr_numE k.1, k.2⟩
theorem getD_at {d : ByteArray} {k : Nat} (h : k < d.size) : d.data.toList.getD k 0 = d[k] := by
  rw [List.getD_eq_getElem?_getD, at_byte h]
  rfl
end Go.Proofs.YtnnbhgnllbjmeaaDoor
