
/-
  Chapter 3: the walks of the laws over drawn wide numbers.
-/
import Derived.Test.YtjmlpeapbealfaaLawE3
import Derived.Deep.RegionHeld3
namespace Go.Proofs.Ytjmlpeapbealfaa
open Go.RowKit

theorem wideC_int {z : Int} (_h : RoomW z) : intOfE (decide (z < 0)) ((z.natAbs : Int) / 18446744073709551616) ((z.natAbs : Int) % 18446744073709551616) = fit z := by
  by_cases k : -9223372036854775808 ≤ z ∧ z ≤ 9223372036854775807
  · rw [fit_in k.1 k.2]
    refine (intOf_yes ?_ ?_).symm
    · by_cases h : z < 0 <;> simp [h] <;> omega
    · by_cases h : z < 0 <;> simp [h] <;> omega
  · rw [fit_out k]
    refine (intOf_no ?_).symm
    by_cases h : z < 0 <;> simp [h] <;> omega
/-- A wide number of the program's as an int, or none. -/
theorem implIntOfFit (z : Int) (h : RoomW z) (w : World) :
    Calls Try.prog 19 #[wideC z] w fun e w' => e = fit z ∧ Below w.heap.size w w' := by
  refine (implIntOf _ _ _ (by omega) (by omega) (by omega) w).mono fun e w1 k => ⟨k.1.trans (wideC_int h), k.2⟩
theorem specMulWideS (w : World) (b : Nat) (x y z : Value) (p q : Int) (p0 : -9223372036854775808 ≤ p) (p1 : p ≤ 9223372036854775807) (q0 : -9223372036854775808 ≤ q) (q1 : q ≤ 9223372036854775807) (wr : World)
    (h : wr.cell? ⟨b, 0, none⟩ = some x ∧ wr.cell? ⟨b, 1, none⟩ = some y ∧ wr.cell? ⟨b, 2, none⟩ = some z ∧ Below w.heap.size w wr) :
    Calls Try.prog 76 #[.int .i64 p, .int .i64 q] wr fun e w' => e = .returned (wideC (p * q)) ∧ w'.cell? ⟨b, 0, none⟩ = some x ∧ w'.cell? ⟨b, 1, none⟩ = some y ∧ w'.cell? ⟨b, 2, none⟩ = some z ∧ Below w.heap.size w w' := by
  refine (specMulWide p q p0 p1 q0 q1 wr).mono fun e w' k => ⟨k.1, ?_, ?_, ?_, bt2 h.2.2.2 k.2⟩
  · rw [k.2.cell (World.block_lt_of_cell? wr _ h.1)]; exact h.1
  · rw [k.2.cell (World.block_lt_of_cell? wr _ h.2.1)]; exact h.2.1
  · rw [k.2.cell (World.block_lt_of_cell? wr _ h.2.2.1)]; exact h.2.2.1
theorem floorV_mul {a b : Int} (hb : b ≠ 0) : floorV (a * b) b = a := by
  unfold floorV
  split
  · exact Int.mul_ediv_cancel a hb
  · rw [← Int.mul_neg, Int.mul_ediv_cancel a (by omega)]

end Go.Proofs.Ytjmlpeapbealfaa
