
/-
  Wide numbers, the product (spec).
-/
import Derived.Test.YtapdocfifgnjgaaDoorPk4
namespace Go.Proofs.YtapdocfifgnjgaaDoor
open Go.RowKit

theorem u64_and32 (n : Int) : bits .and .u64 n 4294967295 = n % 4294967296 := by
  have h127 : (BitVec.ofInt 64 4294967295).toNat = 2 ^ 32 - 1 := by decide
  have key : (BitVec.ofInt 64 n &&& BitVec.ofInt 64 4294967295).toNat = (n % ((2 ^ 64 : Nat) : Int)).toNat % 2 ^ 32 := by
    rw [BitVec.toNat_and, BitVec.toNat_ofInt, h127, Nat.and_two_pow_sub_one_eq_mod]
  show IntKind.u64.wrap ((BitVec.ofInt 64 n &&& BitVec.ofInt 64 4294967295).toNat : Nat) = n % 4294967296
  rw [key, IntKind.wrap_u64]
  omega
/-- A product of two numbers of 64 bits, in two. -/
def ProdOut (a b : Int) (e : Ending) : Prop :=
  ∃ x y : Int, 0 ≤ x ∧ x < 18446744073709551616 ∧ 0 ≤ y ∧ y < 18446744073709551616 ∧ x * 18446744073709551616 + y = a * b ∧ e = .returned (.tuple #[.int .u64 x, .int .u64 y])
theorem mul_bound {x y : Int} (x0 : 0 ≤ x) (x1 : x ≤ 4294967295) (y0 : 0 ≤ y) (y1 : y ≤ 4294967295) : 0 ≤ x * y ∧ x * y ≤ 18446744065119617025 := by
  refine ⟨Int.mul_nonneg x0 y0, ?_⟩
  have := Int.mul_le_mul x1 y1 y0 (by omega : (0 : Int) ≤ 4294967295)
  omega
theorem mul_parts (a b : Int) : a * b = (a / 4294967296) * (b / 4294967296) * 18446744073709551616 + ((a / 4294967296) * (b % 4294967296) + (a % 4294967296) * (b / 4294967296)) * 4294967296 + (a % 4294967296) * (b % 4294967296) := by
  have ha : a = (a / 4294967296) * 4294967296 + a % 4294967296 := by omega
  have hb : b = (b / 4294967296) * 4294967296 + b % 4294967296 := by omega
  generalize a / 4294967296 = p at *
  generalize a % 4294967296 = q at *
  generalize b / 4294967296 = r at *
  generalize b % 4294967296 = s at *
  subst ha hb
  grind
set_option maxRecDepth 100000 in
theorem specProduct (a b : Int) (a0 : 0 ≤ a) (a1 : a < 18446744073709551616) (b0 : 0 ≤ b) (b1 : b < 18446744073709551616) (w : World) :
    Calls Tryd.prog 74 #[.int .u64 a, .int .u64 b] w fun e w' => ProdOut a b e ∧ Below w.heap.size w w' := by
  have ka := u64_and32 a
  have kb := u64_and32 b
  have hp := mul_bound (x := a / 4294967296) (y := b / 4294967296) (by omega) (by omega) (by omega) (by omega)
  have hq := mul_bound (x := a / 4294967296) (y := b % 4294967296) (by omega) (by omega) (by omega) (by omega)
  have hr := mul_bound (x := a % 4294967296) (y := b / 4294967296) (by omega) (by omega) (by omega) (by omega)
  have hs := mul_bound (x := a % 4294967296) (y := b % 4294967296) (by omega) (by omega) (by omega) (by omega)
  have hm := Lib.hid (mul_parts a b)
  obtain ⟨p, hpe⟩ : ∃ p, (a / 4294967296) * (b / 4294967296) = p := ⟨_, rfl⟩
  obtain ⟨q, hqe⟩ : ∃ p, (a / 4294967296) * (b % 4294967296) = p := ⟨_, rfl⟩
  obtain ⟨r, hre⟩ : ∃ p, (a % 4294967296) * (b / 4294967296) = p := ⟨_, rfl⟩
  obtain ⟨s, hse⟩ : ∃ p, (a % 4294967296) * (b % 4294967296) = p := ⟨_, rfl⟩
  rw [hpe] at hp
  rw [hqe] at hq
  rw [hre] at hr
  rw [hse] at hs
  have kl := u64_and32 s
  have km := u64_and32 (q + s / 4294967296)
  go_enter Tryd.func74, Tryd.ntmps74
  go_wp2_with fail
  go_ret2
  have hm2 := hm.out
  rw [hpe, hqe, hre, hse] at hm2
  rw [IntKind.wrap_u64, IntKind.wrap_u64]
  exact ⟨⟨_, _, by omega, by omega, by omega, by omega, by omega, rfl⟩, Below.refl _ _⟩
theorem mul_same {a b : Int} (h : a < 0 ↔ b < 0) : 0 ≤ a * b := by
  by_cases k : a < 0
  · exact Int.mul_nonneg_of_nonpos_of_nonpos (by omega) (by omega)
  · exact Int.mul_nonneg (by omega) (by omega)
theorem mul_other {a b : Int} (ha : ¬ a = 0) (hb : ¬ b = 0) (h : ¬ (a < 0 ↔ b < 0)) : a * b < 0 := by
  by_cases k : a < 0
  · exact Int.mul_neg_of_neg_of_pos k (by omega)
  · exact Int.mul_neg_of_pos_of_neg (by omega) (by omega)
theorem abs_mul (a b : Int) : ((a * b).natAbs : Int) = (a.natAbs : Int) * (b.natAbs : Int) := by rw [Int.natAbs_mul]; simp
set_option maxRecDepth 100000 in
theorem specMulWide (a b : Int) (a0 : -9223372036854775808 ≤ a) (a1 : a ≤ 9223372036854775807) (b0 : -9223372036854775808 ≤ b) (b1 : b ≤ 9223372036854775807) (w : World) :
    Calls Tryd.prog 78 #[.int .i64 a, .int .i64 b] w fun e w' => e = .returned (wideC (a * b)) ∧ Below w.heap.size w w' := by
  go_enter Tryd.func78, Tryd.ntmps78
  go_wp2_with fail
  refine (specAbs a a0 a1 _).mono ?_
  rintro e w1 ⟨rfl, hB1⟩
  have hk := box_kept hB1
  have HB1 := box_below hB1
  clear hB1
  go_wp2_with fail
  refine (specAbs b b0 b1 _).mono ?_
  rintro e w2 ⟨rfl, hB2⟩
  replace hk := box_still hk hB2
  have HB2 := bt2 HB1 hB2
  clear HB1 hB2
  go_wp2_with fail
  refine (specProduct _ _ (by omega) (by omega) (by omega) (by omega) _).mono ?_
  rintro e w3 ⟨⟨x, y, x0, x1, y0, y1, hxy, rfl⟩, hB3⟩
  replace hk := box_still hk hB3
  have HB := Lib.hid (bt2 HB2 hB3)
  have HXY := Lib.hid hxy
  have hca0 : w3.cell? ⟨w.heap.size, 0, none⟩ = some (.bool false) := cell_blk hk 0
  have hfa0 := free_blk hk 0
  have hca1 : w3.cell? ⟨w.heap.size, 1, none⟩ = some (.int .u64 0) := cell_blk hk 1
  have hfa1 := free_blk hk 1
  have hca2 : w3.cell? ⟨w.heap.size, 2, none⟩ = some (.int .u64 0) := cell_blk hk 2
  have hfa2 := free_blk hk 2
  clear hk HB2 hB3 hxy
  go_wp2_with fail
  · rename_i h
    have hs : 0 ≤ a * b := mul_same h
    (try simp only [Exit.inBlock, Exit.then])
    refine bodyPost_ret (v := .agg #[.bool false, .int .u64 x, .int .u64 y]) ?_ rfl ⟨congrArg Ending.returned (wideC_eq x0 y0 y1 (fun k => by cases k) ?_), ?_⟩
    · rw [results_cell rfl]
      go_simp
    · rw [HXY.out, ← abs_mul, sv, if_neg (by simp)]; omega
    · repeat' (first | exact HB.out | refine box_over ?_ (Nat.le_refl _))
  · rename_i h hz
    (try simp only [Exit.inBlock, Exit.then])
    refine bodyPost_ret (v := .agg #[.bool false, .int .u64 x, .int .u64 y]) ?_ rfl ⟨congrArg Ending.returned (wideC_eq x0 y0 y1 (fun k => by cases k) ?_), ?_⟩
    · rw [results_cell rfl]
      go_simp
    · rw [HXY.out, ← abs_mul, sv, if_neg (by simp), hz]; simp
    · repeat' (first | exact HB.out | refine box_over ?_ (Nat.le_refl _))
  · rename_i h hz
    by_cases hb : b = 0
    · subst hb
      (try simp only [Exit.inBlock, Exit.then])
      refine bodyPost_ret (v := .agg #[.bool false, .int .u64 x, .int .u64 y]) ?_ rfl ⟨congrArg Ending.returned (wideC_eq x0 y0 y1 (fun k => by cases k) ?_), ?_⟩
      · rw [results_cell rfl]
        go_simp
      · rw [HXY.out, ← abs_mul, sv, if_neg (by simp)]; simp
      · repeat' (first | exact HB.out | refine box_over ?_ (Nat.le_refl _))
    · have hs : a * b < 0 := mul_other hz hb h
      (try simp only [Exit.inBlock, Exit.then])
      refine bodyPost_ret (v := .agg #[.bool true, .int .u64 x, .int .u64 y]) ?_ rfl ⟨congrArg Ending.returned (wideC_eq x0 y0 y1 (fun _ => ?_) ?_), ?_⟩
      · rw [results_cell rfl]
        go_simp
      · have h1 := HXY.out
        rw [← abs_mul] at h1
        omega
      · rw [HXY.out, ← abs_mul, sv, if_pos rfl]; omega
      · repeat' (first | exact HB.out | refine box_over ?_ (Nat.le_refl _))
end Go.Proofs.YtapdocfifgnjgaaDoor
