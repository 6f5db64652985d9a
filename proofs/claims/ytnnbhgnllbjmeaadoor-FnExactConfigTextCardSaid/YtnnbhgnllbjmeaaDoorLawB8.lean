/-
  What the laws on settings share.
-/
import Derived.Test.YtnnbhgnllbjmeaaDoorCfgQ
namespace Go.Proofs.YtnnbhgnllbjmeaaDoor
open Go.RowKit

/-- A box of settings. -/
abbrev BoxC (w : World) (B : Nat) (T : TypeId) (C : Cfg) (u : Value) : Prop := w.heap[B]? = some (.cells #[.int .i64 C.r, .int .i64 C.d, .int .i64 C.b, .int .i64 C.l, .int .i64 C.m, .int .i64 C.n, .int .i64 C.e, u] T (0, 0))
/-- What the last comparison keeps: two boxes. -/
abbrev TwS (W : World) (P Q : Nat) (A B : Cfg) (u v : Value) (w' : World) : Prop := w'.cell? ⟨P, 0, none⟩ = some (.int .i64 A.r) ∧ w'.cell? ⟨P, 1, none⟩ = some (.int .i64 A.d) ∧ w'.cell? ⟨P, 2, none⟩ = some (.int .i64 A.b) ∧ w'.cell? ⟨P, 3, none⟩ = some (.int .i64 A.l) ∧ w'.cell? ⟨P, 4, none⟩ = some (.int .i64 A.m) ∧ w'.cell? ⟨P, 5, none⟩ = some (.int .i64 A.n) ∧ w'.cell? ⟨P, 6, none⟩ = some (.int .i64 A.e) ∧ w'.cell? ⟨P, 7, none⟩ = some (u) ∧ w'.cell? ⟨Q, 0, none⟩ = some (.int .i64 B.r) ∧ w'.cell? ⟨Q, 1, none⟩ = some (.int .i64 B.d) ∧ w'.cell? ⟨Q, 2, none⟩ = some (.int .i64 B.b) ∧ w'.cell? ⟨Q, 3, none⟩ = some (.int .i64 B.l) ∧ w'.cell? ⟨Q, 4, none⟩ = some (.int .i64 B.m) ∧ w'.cell? ⟨Q, 5, none⟩ = some (.int .i64 B.n) ∧ w'.cell? ⟨Q, 6, none⟩ = some (.int .i64 B.e) ∧ w'.cell? ⟨Q, 7, none⟩ = some (v) ∧ Below W.heap.size W w'
theorem TwS.mk {W w : World} {P Q : Nat} {T1 T2 : TypeId} {A B : Cfg} {u v : Value} (h1 : BoxC w P T1 A u) (h2 : BoxC w Q T2 B v) (hB : Below W.heap.size W w) : TwS W P Q A B u v w :=
  ⟨cell_blk h1 0, cell_blk h1 1, cell_blk h1 2, cell_blk h1 3, cell_blk h1 4, cell_blk h1 5, cell_blk h1 6, cell_blk h1 7, cell_blk h2 0, cell_blk h2 1, cell_blk h2 2, cell_blk h2 3, cell_blk h2 4, cell_blk h2 5, cell_blk h2 6, cell_blk h2 7, hB⟩

theorem below_dr {w w' : World} (h : Below w.drew.heap.size w.drew w') : Below w.heap.size w w' := ⟨h.os, h.tape, h.output, h.size, h.block⟩
theorem IntRow.drew {w : World} {v : Value} {zs : List Int} (h : IntRow w v zs) : IntRow w.drew v zs := h

end Go.Proofs.YtnnbhgnllbjmeaaDoor
