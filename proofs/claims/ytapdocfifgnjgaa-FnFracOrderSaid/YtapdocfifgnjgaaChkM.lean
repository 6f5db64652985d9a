
/-
  The arithmetic of chapter 2: wrapped sums, wrapped products, halves by bits.
-/
import Derived.Test.YtapdocfifgnjgaaCur
namespace Go.Proofs.Ytapdocfifgnjgaa
open Go.RowKit

theorem xor_two (x y : Nat) : (x ^^^ y) % 2 = (x + y) % 2 := by
  rw [show (2 : Nat) = 2 ^ 1 by rfl, Nat.xor_mod_two_pow]
  rcases (show x % 2 = 0 ∨ x % 2 = 1 by omega) with p | p <;> rcases (show y % 2 = 0 ∨ y % 2 = 1 by omega) with q | q <;> simp only [Nat.pow_one, p, q] <;> simp <;> omega
theorem and_two (x y : Nat) : (x &&& y) % 2 = 1 ↔ x % 2 = 1 ∧ y % 2 = 1 := by
  rw [show (2 : Nat) = 2 ^ 1 by rfl, Nat.and_mod_two_pow]
  rcases (show x % 2 = 0 ∨ x % 2 = 1 by omega) with p | p <;> rcases (show y % 2 = 0 ∨ y % 2 = 1 by omega) with q | q <;> simp only [Nat.pow_one, p, q] <;> simp
theorem nat_and_xor (n : Nat) : ∀ x y : Nat, x < 2 ^ n → x + y = (x ^^^ y) + 2 * (x &&& y) := by
  induction n with
  | zero => intro x y hx; obtain rfl : x = 0 := by omega
            simp
  | succ n ih =>
    intro x y hx
    have h := ih (x / 2) (y / 2) (by omega)
    rw [← Nat.xor_div_two, ← Nat.and_div_two] at h
    have h1 := xor_two x y
    have h2 := and_two x y
    omega

/-- The signed number of 64 bits. -/
theorem i64_toInt (n : Int) (h0 : -9223372036854775808 ≤ n) (h1 : n ≤ 9223372036854775807) : (BitVec.ofInt 64 n).toInt = n := by
  rw [BitVec.toInt_ofInt]
  exact Int.bmod_eq_of_le (by omega) (by omega)
theorem toInt_wrap (x : BitVec 64) : IntKind.i64.wrap (x.toNat : Nat) = x.toInt := by
  rw [IntKind.wrap_i64, BitVec.toInt_eq_toNat_cond]
  have := x.isLt
  split <;> omega
theorem toInt_cond (x : BitVec 64) : x.toInt = x.toNat - (if x.msb then 18446744073709551616 else 0) := by
  rw [BitVec.toInt_eq_msb_cond]
  split <;> simp_all

theorem and_xor (a b : Int) (a0 : -9223372036854775808 ≤ a) (a1 : a ≤ 9223372036854775807) (b0 : -9223372036854775808 ≤ b) (b1 : b ≤ 9223372036854775807) :
    2 * bits .and .i64 a b + bits .xor .i64 a b = a + b ∧ bits .and .i64 a b % 2 = (a % 2) * (b % 2) ∧
      (-9223372036854775808 ≤ bits .and .i64 a b ∧ bits .and .i64 a b ≤ 9223372036854775807) ∧ (-9223372036854775808 ≤ bits .xor .i64 a b ∧ bits .xor .i64 a b ≤ 9223372036854775807) := by
  have ea : bits .and .i64 a b = (BitVec.ofInt 64 a &&& BitVec.ofInt 64 b).toInt := toInt_wrap _
  have ex : bits .xor .i64 a b = (BitVec.ofInt 64 a ^^^ BitVec.ofInt 64 b).toInt := toInt_wrap _
  have ha := i64_toInt a a0 a1
  have hb := i64_toInt b b0 b1
  rw [ea, ex]
  generalize BitVec.ofInt 64 a = x at *
  generalize BitVec.ofInt 64 b = y at *
  have hs := nat_and_xor 64 x.toNat y.toNat x.isLt
  have h1 := toInt_cond x
  have h2 := toInt_cond y
  have h3 := toInt_cond (x &&& y)
  have h4 := toInt_cond (x ^^^ y)
  have l3 := (x &&& y).isLt
  have l4 := (x ^^^ y).isLt
  have m := and_two x.toNat y.toNat
  have r3 := BitVec.toInt_le (x := x &&& y)
  have r3' := BitVec.le_toInt (x := x &&& y)
  have r4 := BitVec.toInt_le (x := x ^^^ y)
  have r4' := BitVec.le_toInt (x := x ^^^ y)
  rw [BitVec.msb_and] at h3
  rw [BitVec.msb_xor] at h4
  rw [BitVec.toNat_and] at h3 l3
  rw [BitVec.toNat_xor] at h4 l4
  clear ea ex
  generalize (x &&& y).toInt = c at *
  generalize (x ^^^ y).toInt = d at *
  generalize x.toNat &&& y.toNat = e at *
  generalize x.toNat ^^^ y.toNat = f at *
  generalize x.msb = p at *
  generalize y.msb = q at *
  have hm : (a % 2) * (b % 2) = if a % 2 = 1 ∧ b % 2 = 1 then 1 else 0 := by
    rcases (show a % 2 = 0 ∨ a % 2 = 1 by omega) with p | p <;> rcases (show b % 2 = 0 ∨ b % 2 = 1 by omega) with q | q <;> simp [p, q]
  rw [hm]
  refine ⟨?_, ?_, ⟨by omega, by omega⟩, ⟨by omega, by omega⟩⟩
  · cases p <;> cases q <;> simp at h1 h2 h3 h4 <;> omega
  · cases p <;> cases q <;> simp at h1 h2 h3 h4 <;> split <;> omega

theorem half_spec (a b : Int) (a0 : -9223372036854775808 ≤ a) (a1 : a ≤ 9223372036854775807) (b0 : -9223372036854775808 ≤ b) (b1 : b ≤ 9223372036854775807) :
    wrap64 (bits .and .i64 a b + bits .xor .i64 a b / 2) = (a + b) / 2 := by
  obtain ⟨h, -, -, -⟩ := and_xor a b a0 a1 b0 b1
  unfold wrap64
  omega
theorem i64_and1 (n : Int) : bits .and .i64 n 1 = n % 2 := by
  have h127 : (BitVec.ofInt 64 1).toNat = 2 ^ 1 - 1 := by decide
  have key : (BitVec.ofInt 64 n &&& BitVec.ofInt 64 1).toNat = (n % ((2 ^ 64 : Nat) : Int)).toNat % 2 ^ 1 := by
    rw [BitVec.toNat_and, BitVec.toNat_ofInt, h127, Nat.and_two_pow_sub_one_eq_mod]
  show IntKind.i64.wrap ((BitVec.ofInt 64 n &&& BitVec.ofInt 64 1).toNat : Nat) = n % 2
  rw [key, IntKind.wrap_i64]
  omega
theorem half_impl (a b : Int) (a0 : -9223372036854775808 ≤ a) (a1 : a ≤ 9223372036854775807) (b0 : -9223372036854775808 ≤ b) (b1 : b ≤ 9223372036854775807) :
    wrap64 (a / 2 + b / 2 + bits .and .i64 (bits .and .i64 a b) 1) = (a + b) / 2 := by
  obtain ⟨-, h, -, -⟩ := and_xor a b a0 a1 b0 b1
  rw [i64_and1, h]
  unfold wrap64
  rcases (show a % 2 = 0 ∨ a % 2 = 1 by omega) with p | p <;> rcases (show b % 2 = 0 ∨ b % 2 = 1 by omega) with q | q <;> rw [p, q] <;> omega

/-- A wrapped product divided by a factor gives the other one back just if nothing was lost. -/
theorem mul_back (a b : Int) (b0 : -9223372036854775808 ≤ b) (b1 : b ≤ 9223372036854775807) (hb : b ≠ 0) :
    (wrap64 (a * b)).tdiv b = a ↔ -9223372036854775808 ≤ a * b ∧ a * b ≤ 9223372036854775807 := by
  constructor
  · intro h
    have e := Int.mul_tdiv_add_tmod (wrap64 (a * b)) b
    rw [h, Int.mul_comm b a] at e
    have hr : (wrap64 (a * b)).tmod b < 9223372036854775809 ∧ -9223372036854775809 < (wrap64 (a * b)).tmod b := by
      have h1 := Int.natAbs_tmod (wrap64 (a * b)) b
      have h2 := Nat.mod_lt (wrap64 (a * b)).natAbs (y := b.natAbs) (by omega)
      omega
    revert e hr
    generalize (wrap64 (a * b)).tmod b = r
    generalize a * b = x
    unfold wrap64
    omega
  · intro h
    have : wrap64 (a * b) = a * b := by unfold wrap64; omega
    rw [this, Int.mul_tdiv_cancel _ hb]

theorem i64_not (b : Int) (b0 : -9223372036854775808 ≤ b) (b1 : b ≤ 9223372036854775807) : bits .xor .i64 (-1) b = -b - 1 := by
  have h := (and_xor (-1) b (by omega) (by omega) b0 b1).1
  have ha : bits .and .i64 (-1) b = b := by
    have e : bits .and .i64 (-1) b = (BitVec.ofInt 64 (-1) &&& BitVec.ofInt 64 b).toInt := toInt_wrap _
    rw [e, show BitVec.ofInt 64 (-1) = BitVec.allOnes 64 by decide, BitVec.allOnes_and, i64_toInt b b0 b1]
  omega

/-- What a checked operation ends in whose exact result is z. -/
def fit (z : Int) : Ending := if -9223372036854775808 ≤ z ∧ z ≤ 9223372036854775807 then .returned (.tuple #[.int .i64 z, .bool true]) else .returned (.tuple #[.int .i64 0, .bool false])
theorem fit_yes {z x : Int} (h0 : -9223372036854775808 ≤ z) (h1 : z ≤ 9223372036854775807) (h : x = z) : Ending.returned (.tuple #[.int .i64 x, .bool true]) = fit z := by
  subst h
  rw [fit, if_pos ⟨h0, h1⟩]
theorem fit_no {z : Int} (h : ¬ (-9223372036854775808 ≤ z ∧ z ≤ 9223372036854775807)) : Ending.returned (.tuple #[.int .i64 0, .bool false]) = fit z := by
  rw [fit, if_neg h]
theorem fit_in {z : Int} (h0 : -9223372036854775808 ≤ z) (h1 : z ≤ 9223372036854775807) : fit z = .returned (.tuple #[.int .i64 z, .bool true]) := (fit_yes h0 h1 rfl).symm
theorem fit_out {z : Int} (h : ¬ (-9223372036854775808 ≤ z ∧ z ≤ 9223372036854775807)) : fit z = .returned (.tuple #[.int .i64 0, .bool false]) := (fit_no h).symm

theorem sgn_eq (x y : Int) : (decide (x < 0) == decide (y < 0)) = decide (x < 0 ↔ y < 0) := by
  by_cases h : x < 0 <;> by_cases k : y < 0 <;> simp [h, k]
theorem sgn_ne (x y : Int) : (!decide (x < 0) == decide (y < 0)) = decide (¬(x < 0 ↔ y < 0)) := by
  by_cases h : x < 0 <;> by_cases k : y < 0 <;> simp [h, k]

/-- The quotient rounded down. -/
def floorV (a b : Int) : Int := if 0 < b then a / b else (-a) / (-b)
theorem floor_eq (a b : Int) (hb : b ≠ 0) : floorV a b = if a.tmod b ≠ 0 ∧ ¬ (a < 0 ↔ b < 0) then a.tdiv b - 1 else a.tdiv b := by
  have h1 := Int.mul_tdiv_add_tmod a b
  have h2 := Int.natAbs_tmod a b
  have h3 := Nat.mod_lt a.natAbs (y := b.natAbs) (by omega)
  have h4 : 0 ≤ a → 0 ≤ a.tmod b := fun h => Int.tmod_nonneg b h
  have h5 : a ≤ 0 → a.tmod b ≤ 0 := fun h => by
    have := Int.tmod_nonneg b (a := -a) (by omega)
    rw [Int.neg_tmod] at this
    omega
  generalize a.tmod b = m at *
  generalize a.tdiv b = t at *
  have hm : b * (t - 1) = b * t - b := by rw [Int.mul_sub, Int.mul_one]
  unfold floorV
  split
  · split
    · exact (Int.ediv_emod_unique (r := m + b) (by omega)).2 ⟨by omega, by omega, by omega⟩ |>.1
    · exact (Int.ediv_emod_unique (r := m) (by omega)).2 ⟨by omega, by omega, by omega⟩ |>.1
  · have hn : (-b) * t = -(b * t) := Int.neg_mul _ _
    have hn1 : (-b) * (t - 1) = -(b * (t - 1)) := Int.neg_mul _ _
    split
    · exact (Int.ediv_emod_unique (r := -m - b) (by omega)).2 ⟨by omega, by omega, by omega⟩ |>.1
    · exact (Int.ediv_emod_unique (r := -m) (by omega)).2 ⟨by omega, by omega, by omega⟩ |>.1

theorem below_drewN (w : World) (n : Nat) : Below w.heap.size w (w.drewN n) :=
  (Below.refl _ _).grown (grownBy_drewN (grownBy_refl w none) n) (Nat.le_refl _) (fun _ hk => by cases hk)
theorem tdiv_in (x b : Int) (x0 : -9223372036854775808 ≤ x) (x1 : x ≤ 9223372036854775807) (h : ¬ (x = -9223372036854775808 ∧ b = -1)) :
    -9223372036854775808 ≤ x.tdiv b ∧ x.tdiv b ≤ 9223372036854775807 := by
  by_cases h1 : b = 1
  · subst h1; rw [Int.tdiv_one]; omega
  by_cases h2 : b = -1
  · subst h2; rw [Int.tdiv_neg, Int.tdiv_one]; omega
  have h3 : (x.tdiv b).natAbs = x.natAbs / b.natAbs := Int.natAbs_tdiv x b
  by_cases h0 : b = 0
  · subst h0; rw [Int.tdiv_zero]; omega
  have h4 : x.natAbs / b.natAbs ≤ x.natAbs / 2 := Nat.div_le_div_left (by omega) (by omega)
  omega
theorem wrap_in {x : Int} (h : -9223372036854775808 ≤ x ∧ x ≤ 9223372036854775807) : wrap64 x = x := by unfold wrap64; omega
theorem mul_wrap (a b : Int) (a0 : -9223372036854775808 ≤ a) (a1 : a ≤ 9223372036854775807) (b0 : -9223372036854775808 ≤ b) (b1 : b ≤ 9223372036854775807) (hb : b ≠ 0) (hp : ¬ (a = -9223372036854775808 ∧ b = -1)) :
    wrap64 ((wrap64 (a * b)).tdiv b) = a ↔ -9223372036854775808 ≤ a * b ∧ a * b ≤ 9223372036854775807 := by
  have hw := wrap64_bounds (a * b)
  rw [wrap_in (tdiv_in _ b hw.1 hw.2 ?_)]
  · exact mul_back a b b0 b1 hb
  · rintro ⟨h1, rfl⟩
    rw [wrap_in (by omega)] at h1
    omega

theorem tmod_sgn (a b : Int) (h : a.tmod b ≠ 0) : a.tmod b < 0 ↔ a < 0 := by
  have h4 : 0 ≤ a → 0 ≤ a.tmod b := fun h => Int.tmod_nonneg b h
  have h5 : a ≤ 0 → a.tmod b ≤ 0 := fun h => by
    have := Int.tmod_nonneg b (a := -a) (by omega)
    rw [Int.neg_tmod] at this
    omega
  omega
theorem floor_zero {a b : Int} (hb : b ≠ 0) (h : a.tmod b = 0) : floorV a b = a.tdiv b := by rw [floor_eq a b hb, if_neg (by simp [h])]
theorem floor_down {a b : Int} (hb : b ≠ 0) (h : a.tmod b ≠ 0) (hs : ¬ (a < 0 ↔ b < 0)) : floorV a b = a.tdiv b - 1 := by rw [floor_eq a b hb, if_pos ⟨h, hs⟩]
theorem floor_same {a b : Int} (hb : b ≠ 0) (hs : a < 0 ↔ b < 0) : floorV a b = a.tdiv b := by rw [floor_eq a b hb, if_neg (by simp [hs])]
theorem floor_in {a b : Int} (a0 : -9223372036854775808 ≤ a) (a1 : a ≤ 9223372036854775807) (hb : b ≠ 0) (hp : ¬ (a = -9223372036854775808 ∧ b = -1)) :
    -9223372036854775808 ≤ floorV a b ∧ floorV a b ≤ 9223372036854775807 := by
  have h := tdiv_in a b a0 a1 hp
  rw [floor_eq a b hb]
  split
  · rename_i h2
    have h3 : (a.tdiv b).natAbs = a.natAbs / b.natAbs := Int.natAbs_tdiv a b
    have h4 : b ≠ 1 := fun e => h2.1 (by rw [e, Int.tmod_one])
    have h5 : b ≠ -1 := fun e => h2.1 (by rw [e, Int.tmod_neg, Int.tmod_one])
    have h6 : a.natAbs / b.natAbs ≤ a.natAbs / 2 := Nat.div_le_div_left (by omega) (by omega)
    omega
  · exact h
theorem floor_past : floorV (-9223372036854775808) (-1) = 9223372036854775808 := by decide
theorem wrap_less (x : Int) : wrap64 (wrap64 x - 1) = wrap64 (x - 1) := by unfold wrap64; omega
end Go.Proofs.Ytapdocfifgnjgaa
