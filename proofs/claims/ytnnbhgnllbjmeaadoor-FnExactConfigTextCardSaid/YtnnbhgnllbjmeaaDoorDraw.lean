/-
  The draws of numbers and of listed texts.
-/
import Derived.Test.YtnnbhgnllbjmeaaDoorCur
namespace Go.Proofs.YtnnbhgnllbjmeaaDoor
open Go.RowKit

def BelowOut (n : Nat) (e : Ending) : Prop := ∃ m : Nat, m < n ∧ e = .returned (.int .i64 m)
def IntOut (e : Ending) : Prop := ∃ z : Int, -9223372036854775808 ≤ z ∧ z ≤ 9223372036854775807 ∧ e = .returned (.int .i64 z)
def StrOut (M : Nat) (e : Ending) : Prop := ∃ s : ByteArray, s.size ≤ M ∧ e = .returned (.string s)

theorem belowOut_mod {n : Nat} {z : Int} (h : 1 ≤ n) : BelowOut n (.returned (.int .i64 (z % n))) :=
  ⟨(z % n).toNat, by have := Int.emod_lt_of_pos z (b := n) (by omega); have := Int.emod_nonneg z (b := n) (by omega); omega, by rw [Int.toNat_of_nonneg (Int.emod_nonneg _ (by omega))]⟩

/-- A cell of a block that the cursor is not. -/
theorem grown_cell {w w' : World} {p lb j : Nat} {x : Value} (hg : w.grownBy w' (some p)) (hne : lb ≠ p) (h : w.cell? ⟨lb, j, none⟩ = some x) : w'.cell? ⟨lb, j, none⟩ = some x := by
  have hlt : lb < w.heap.size := World.block_lt_of_cell? w _ h
  rw [World.cell?_of_block (w := w) (hg.block lb hlt (fun e => hne (Option.some.inj e)))]
  exact h

theorem i64_and30 (n : Int) : bits .and .i64 n 1073741823 = n % 1073741824 := by
  have h127 : (BitVec.ofInt 64 1073741823).toNat = 2 ^ 30 - 1 := by decide
  have key : (BitVec.ofInt 64 n &&& BitVec.ofInt 64 1073741823).toNat = (n % ((2 ^ 64 : Nat) : Int)).toNat % 2 ^ 30 := by
    rw [BitVec.toNat_and, BitVec.toNat_ofInt, h127, Nat.and_two_pow_sub_one_eq_mod]
  show IntKind.i64.wrap ((BitVec.ofInt 64 n &&& BitVec.ofInt 64 1073741823).toNat : Nat) = n % 1073741824
  rw [key, IntKind.wrap_i64]
  omega

end Go.Proofs.YtnnbhgnllbjmeaaDoor
