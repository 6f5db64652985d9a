/-
  The arithmetic of chapter 2: wrapped sums, wrapped products, halves by bits.
  A string without the minus that it may begin with: the library's way.
  Bytes in turned order, in place: the library's loop from both ends inward.
  What spec.Parts and impl.Parts answer: a new row that holds the parts.
  Chapter 2: what the checked operations answer, the program's and the reference's.
  Chapter 2: what its functions answer, the program's and the reference's alike.
  Chapter 2: the walks of the laws that compare the program's answers with the reference's.
-/
import Derived.Test.YtapdocfifgnjgaaDoorCur
import Derived.Deep.LoopGhost
import Derived.Sort.WalkB12
import Derived.Lib.SlicesMore
import Derived.Lib.OwnBridge
import Derived.Test.YtapdocfifgnjgaaDoorPk1
namespace Go.Proofs.YtapdocfifgnjgaaDoor
open Go.RowKit

theorem xor_two (x y : Nat) : (x ^^^ y) % 2 = (x + y) % 2 := by
  rw [show (2 : Nat) = 2 ^ 1 by rfl, Nat.xor_mod_two_pow]
  rcases (show x % 2 = 0 ∨ x % 2 = 1 by omega) with p | p <;> rcases (show y % 2 = 0 ∨ y % 2 = 1 by omega) with q | q <;> simp only [Nat.pow_one, p, q] <;> simp <;> omega
theorem and_two (x y : Nat) : (x &&& y) % 2 = 1 ↔ x % 2 = 1 ∧ y % 2 = 1 := by
  rw [show (2 : Nat) = 2 ^ 1 by rfl, Nat.and_mod_two_pow]
  rcases (show x % 2 = 0 ∨ x % 2 = 1 by omega) with p | p <;> rcases (show y % 2 = 0 ∨ y % 2 = 1 by omega) with q | q <;> simp only [Nat.pow_one, p, q] <;> simp
theorem nat_and_xor (n : Nat) : ∀ x y : Nat, x < 2 ^ n → x + y = (x ^^^ y) + 2 * (x &&& y) := by
  induction n with
  | zero => intro x y hx; obtain rfl : x = 0 := by omega
            simp
  | succ n ih =>
    intro x y hx
    have h := ih (x / 2) (y / 2) (by omega)
    rw [← Nat.xor_div_two, ← Nat.and_div_two] at h
    have h1 := xor_two x y
    have h2 := and_two x y
    omega

/-- The signed number of 64 bits. -/
theorem i64_toInt (n : Int) (h0 : -9223372036854775808 ≤ n) (h1 : n ≤ 9223372036854775807) : (BitVec.ofInt 64 n).toInt = n := by
  rw [BitVec.toInt_ofInt]
  exact Int.bmod_eq_of_le (by omega) (by omega)
theorem toInt_wrap (x : BitVec 64) : IntKind.i64.wrap (x.toNat : Nat) = x.toInt := by
  rw [IntKind.wrap_i64, BitVec.toInt_eq_toNat_cond]
  have := x.isLt
  split <;> omega
theorem toInt_cond (x : BitVec 64) : x.toInt = x.toNat - (if x.msb then 18446744073709551616 else 0) := by
  rw [BitVec.toInt_eq_msb_cond]
  split <;> simp_all

theorem and_xor (a b : Int) (a0 : -9223372036854775808 ≤ a) (a1 : a ≤ 9223372036854775807) (b0 : -9223372036854775808 ≤ b) (b1 : b ≤ 9223372036854775807) :
    2 * bits .and .i64 a b + bits .xor .i64 a b = a + b ∧ bits .and .i64 a b % 2 = (a % 2) * (b % 2) ∧
      (-9223372036854775808 ≤ bits .and .i64 a b ∧ bits .and .i64 a b ≤ 9223372036854775807) ∧ (-9223372036854775808 ≤ bits .xor .i64 a b ∧ bits .xor .i64 a b ≤ 9223372036854775807) := by
  have ea : bits .and .i64 a b = (BitVec.ofInt 64 a &&& BitVec.ofInt 64 b).toInt := toInt_wrap _
  have ex : bits .xor .i64 a b = (BitVec.ofInt 64 a ^^^ BitVec.ofInt 64 b).toInt := toInt_wrap _
  have ha := i64_toInt a a0 a1
  have hb := i64_toInt b b0 b1
  rw [ea, ex]
  generalize BitVec.ofInt 64 a = x at *
  generalize BitVec.ofInt 64 b = y at *
  have hs := nat_and_xor 64 x.toNat y.toNat x.isLt
  have h1 := toInt_cond x
  have h2 := toInt_cond y
  have h3 := toInt_cond (x &&& y)
  have h4 := toInt_cond (x ^^^ y)
  have l3 := (x &&& y).isLt
  have l4 := (x ^^^ y).isLt
  have m := and_two x.toNat y.toNat
  have r3 := BitVec.toInt_le (x := x &&& y)
  have r3' := BitVec.le_toInt (x := x &&& y)
  have r4 := BitVec.toInt_le (x := x ^^^ y)
  have r4' := BitVec.le_toInt (x := x ^^^ y)
  rw [BitVec.msb_and] at h3
  rw [BitVec.msb_xor] at h4
  rw [BitVec.toNat_and] at h3 l3
  rw [BitVec.toNat_xor] at h4 l4
  clear ea ex
  generalize (x &&& y).toInt = c at *
  generalize (x ^^^ y).toInt = d at *
  generalize x.toNat &&& y.toNat = e at *
  generalize x.toNat ^^^ y.toNat = f at *
  generalize x.msb = p at *
  generalize y.msb = q at *
  have hm : (a % 2) * (b % 2) = if a % 2 = 1 ∧ b % 2 = 1 then 1 else 0 := by
    rcases (show a % 2 = 0 ∨ a % 2 = 1 by omega) with p | p <;> rcases (show b % 2 = 0 ∨ b % 2 = 1 by omega) with q | q <;> simp [p, q]
  rw [hm]
  refine ⟨?_, ?_, ⟨by omega, by omega⟩, ⟨by omega, by omega⟩⟩
  · cases p <;> cases q <;> simp at h1 h2 h3 h4 <;> omega
  · cases p <;> cases q <;> simp at h1 h2 h3 h4 <;> split <;> omega

theorem half_spec (a b : Int) (a0 : -9223372036854775808 ≤ a) (a1 : a ≤ 9223372036854775807) (b0 : -9223372036854775808 ≤ b) (b1 : b ≤ 9223372036854775807) :
    wrap64 (bits .and .i64 a b + bits .xor .i64 a b / 2) = (a + b) / 2 := by
  obtain ⟨h, -, -, -⟩ := and_xor a b a0 a1 b0 b1
  unfold wrap64
  omega
theorem i64_and1 (n : Int) : bits .and .i64 n 1 = n % 2 := by
  have h127 : (BitVec.ofInt 64 1).toNat = 2 ^ 1 - 1 := by decide
  have key : (BitVec.ofInt 64 n &&& BitVec.ofInt 64 1).toNat = (n % ((2 ^ 64 : Nat) : Int)).toNat % 2 ^ 1 := by
    rw [BitVec.toNat_and, BitVec.toNat_ofInt, h127, Nat.and_two_pow_sub_one_eq_mod]
  show IntKind.i64.wrap ((BitVec.ofInt 64 n &&& BitVec.ofInt 64 1).toNat : Nat) = n % 2
  rw [key, IntKind.wrap_i64]
  omega
theorem half_impl (a b : Int) (a0 : -9223372036854775808 ≤ a) (a1 : a ≤ 9223372036854775807) (b0 : -9223372036854775808 ≤ b) (b1 : b ≤ 9223372036854775807) :
    wrap64 (a / 2 + b / 2 + bits .and .i64 (bits .and .i64 a b) 1) = (a + b) / 2 := by
  obtain ⟨-, h, -, -⟩ := and_xor a b a0 a1 b0 b1
  rw [i64_and1, h]
  unfold wrap64
  rcases (show a % 2 = 0 ∨ a % 2 = 1 by omega) with p | p <;> rcases (show b % 2 = 0 ∨ b % 2 = 1 by omega) with q | q <;> rw [p, q] <;> omega

/-- A wrapped product divided by a factor gives the other one back just if nothing was lost. -/
theorem mul_back (a b : Int) (b0 : -9223372036854775808 ≤ b) (b1 : b ≤ 9223372036854775807) (hb : b ≠ 0) :
    (wrap64 (a * b)).tdiv b = a ↔ -9223372036854775808 ≤ a * b ∧ a * b ≤ 9223372036854775807 := by
  constructor
  · intro h
    have e := Int.mul_tdiv_add_tmod (wrap64 (a * b)) b
    rw [h, Int.mul_comm b a] at e
    have hr : (wrap64 (a * b)).tmod b < 9223372036854775809 ∧ -9223372036854775809 < (wrap64 (a * b)).tmod b := by
      have h1 := Int.natAbs_tmod (wrap64 (a * b)) b
      have h2 := Nat.mod_lt (wrap64 (a * b)).natAbs (y := b.natAbs) (by omega)
      omega
    revert e hr
    generalize (wrap64 (a * b)).tmod b = r
    generalize a * b = x
    unfold wrap64
    omega
  · intro h
    have : wrap64 (a * b) = a * b := by unfold wrap64; omega
    rw [this, Int.mul_tdiv_cancel _ hb]

theorem i64_not (b : Int) (b0 : -9223372036854775808 ≤ b) (b1 : b ≤ 9223372036854775807) : bits .xor .i64 (-1) b = -b - 1 := by
  have h := (and_xor (-1) b (by omega) (by omega) b0 b1).1
  have ha : bits .and .i64 (-1) b = b := by
    have e : bits .and .i64 (-1) b = (BitVec.ofInt 64 (-1) &&& BitVec.ofInt 64 b).toInt := toInt_wrap _
    rw [e, show BitVec.ofInt 64 (-1) = BitVec.allOnes 64 by decide, BitVec.allOnes_and, i64_toInt b b0 b1]
  omega

/-- What a checked operation ends in whose exact result is z. -/
def fit (z : Int) : Ending := if -9223372036854775808 ≤ z ∧ z ≤ 9223372036854775807 then .returned (.tuple #[.int .i64 z, .bool true]) else .returned (.tuple #[.int .i64 0, .bool false])
theorem fit_yes {z x : Int} (h0 : -9223372036854775808 ≤ z) (h1 : z ≤ 9223372036854775807) (h : x = z) : Ending.returned (.tuple #[.int .i64 x, .bool true]) = fit z := by
  subst h
  rw [fit, if_pos ⟨h0, h1⟩]
theorem fit_no {z : Int} (h : ¬ (-9223372036854775808 ≤ z ∧ z ≤ 9223372036854775807)) : Ending.returned (.tuple #[.int .i64 0, .bool false]) = fit z := by
  rw [fit, if_neg h]
theorem fit_in {z : Int} (h0 : -9223372036854775808 ≤ z) (h1 : z ≤ 9223372036854775807) : fit z = .returned (.tuple #[.int .i64 z, .bool true]) := (fit_yes h0 h1 rfl).symm
theorem fit_out {z : Int} (h : ¬ (-9223372036854775808 ≤ z ∧ z ≤ 9223372036854775807)) : fit z = .returned (.tuple #[.int .i64 0, .bool false]) := (fit_no h).symm

theorem sgn_eq (x y : Int) : (decide (x < 0) == decide (y < 0)) = decide (x < 0 ↔ y < 0) := by
  by_cases h : x < 0 <;> by_cases k : y < 0 <;> simp [h, k]
theorem sgn_ne (x y : Int) : (!decide (x < 0) == decide (y < 0)) = decide (¬(x < 0 ↔ y < 0)) := by
  by_cases h : x < 0 <;> by_cases k : y < 0 <;> simp [h, k]

/-- The quotient rounded down. -/
def floorV (a b : Int) : Int := if 0 < b then a / b else (-a) / (-b)
theorem floor_eq (a b : Int) (hb : b ≠ 0) : floorV a b = if a.tmod b ≠ 0 ∧ ¬ (a < 0 ↔ b < 0) then a.tdiv b - 1 else a.tdiv b := by
  have h1 := Int.mul_tdiv_add_tmod a b
  have h2 := Int.natAbs_tmod a b
  have h3 := Nat.mod_lt a.natAbs (y := b.natAbs) (by omega)
  have h4 : 0 ≤ a → 0 ≤ a.tmod b := fun h => Int.tmod_nonneg b h
  have h5 : a ≤ 0 → a.tmod b ≤ 0 := fun h => by
    have := Int.tmod_nonneg b (a := -a) (by omega)
    rw [Int.neg_tmod] at this
    omega
  generalize a.tmod b = m at *
  generalize a.tdiv b = t at *
  have hm : b * (t - 1) = b * t - b := by rw [Int.mul_sub, Int.mul_one]
  unfold floorV
  split
  · split
    · exact (Int.ediv_emod_unique (r := m + b) (by omega)).2 ⟨by omega, by omega, by omega⟩ |>.1
    · exact (Int.ediv_emod_unique (r := m) (by omega)).2 ⟨by omega, by omega, by omega⟩ |>.1
  · have hn : (-b) * t = -(b * t) := Int.neg_mul _ _
    have hn1 : (-b) * (t - 1) = -(b * (t - 1)) := Int.neg_mul _ _
    split
    · exact (Int.ediv_emod_unique (r := -m - b) (by omega)).2 ⟨by omega, by omega, by omega⟩ |>.1
    · exact (Int.ediv_emod_unique (r := -m) (by omega)).2 ⟨by omega, by omega, by omega⟩ |>.1

theorem below_drewN (w : World) (n : Nat) : Below w.heap.size w (w.drewN n) :=
  (Below.refl _ _).grown (grownBy_drewN (grownBy_refl w none) n) (Nat.le_refl _) (fun _ hk => by cases hk)
theorem tdiv_in (x b : Int) (x0 : -9223372036854775808 ≤ x) (x1 : x ≤ 9223372036854775807) (h : ¬ (x = -9223372036854775808 ∧ b = -1)) :
    -9223372036854775808 ≤ x.tdiv b ∧ x.tdiv b ≤ 9223372036854775807 := by
  by_cases h1 : b = 1
  · subst h1; rw [Int.tdiv_one]; omega
  by_cases h2 : b = -1
  · subst h2; rw [Int.tdiv_neg, Int.tdiv_one]; omega
  have h3 : (x.tdiv b).natAbs = x.natAbs / b.natAbs := Int.natAbs_tdiv x b
  by_cases h0 : b = 0
  · subst h0; rw [Int.tdiv_zero]; omega
  have h4 : x.natAbs / b.natAbs ≤ x.natAbs / 2 := Nat.div_le_div_left (by omega) (by omega)
  omega
theorem wrap_in {x : Int} (h : -9223372036854775808 ≤ x ∧ x ≤ 9223372036854775807) : wrap64 x = x := by unfold wrap64; omega
theorem mul_wrap (a b : Int) (a0 : -9223372036854775808 ≤ a) (a1 : a ≤ 9223372036854775807) (b0 : -9223372036854775808 ≤ b) (b1 : b ≤ 9223372036854775807) (hb : b ≠ 0) (hp : ¬ (a = -9223372036854775808 ∧ b = -1)) :
    wrap64 ((wrap64 (a * b)).tdiv b) = a ↔ -9223372036854775808 ≤ a * b ∧ a * b ≤ 9223372036854775807 := by
  have hw := wrap64_bounds (a * b)
  rw [wrap_in (tdiv_in _ b hw.1 hw.2 ?_)]
  · exact mul_back a b b0 b1 hb
  · rintro ⟨h1, rfl⟩
    rw [wrap_in (by omega)] at h1
    omega

theorem tmod_sgn (a b : Int) (h : a.tmod b ≠ 0) : a.tmod b < 0 ↔ a < 0 := by
  have h4 : 0 ≤ a → 0 ≤ a.tmod b := fun h => Int.tmod_nonneg b h
  have h5 : a ≤ 0 → a.tmod b ≤ 0 := fun h => by
    have := Int.tmod_nonneg b (a := -a) (by omega)
    rw [Int.neg_tmod] at this
    omega
  omega
theorem floor_zero {a b : Int} (hb : b ≠ 0) (h : a.tmod b = 0) : floorV a b = a.tdiv b := by rw [floor_eq a b hb, if_neg (by simp [h])]
theorem floor_down {a b : Int} (hb : b ≠ 0) (h : a.tmod b ≠ 0) (hs : ¬ (a < 0 ↔ b < 0)) : floorV a b = a.tdiv b - 1 := by rw [floor_eq a b hb, if_pos ⟨h, hs⟩]
theorem floor_same {a b : Int} (hb : b ≠ 0) (hs : a < 0 ↔ b < 0) : floorV a b = a.tdiv b := by rw [floor_eq a b hb, if_neg (by simp [hs])]
theorem floor_in {a b : Int} (a0 : -9223372036854775808 ≤ a) (a1 : a ≤ 9223372036854775807) (hb : b ≠ 0) (hp : ¬ (a = -9223372036854775808 ∧ b = -1)) :
    -9223372036854775808 ≤ floorV a b ∧ floorV a b ≤ 9223372036854775807 := by
  have h := tdiv_in a b a0 a1 hp
  rw [floor_eq a b hb]
  split
  · rename_i h2
    have h3 : (a.tdiv b).natAbs = a.natAbs / b.natAbs := Int.natAbs_tdiv a b
    have h4 : b ≠ 1 := fun e => h2.1 (by rw [e, Int.tmod_one])
    have h5 : b ≠ -1 := fun e => h2.1 (by rw [e, Int.tmod_neg, Int.tmod_one])
    have h6 : a.natAbs / b.natAbs ≤ a.natAbs / 2 := Nat.div_le_div_left (by omega) (by omega)
    omega
  · exact h
theorem floor_past : floorV (-9223372036854775808) (-1) = 9223372036854775808 := by decide
theorem wrap_less (x : Int) : wrap64 (wrap64 x - 1) = wrap64 (x - 1) := by unfold wrap64; omega
end Go.Proofs.YtapdocfifgnjgaaDoor
namespace Go.Proofs.YtapdocfifgnjgaaDoor
open Go.RowKit

set_option maxRecDepth 100000 in
theorem hasMinus_no (s : ByteArray) (h : s.size < 1) (w : World) :
    Calls Tryd.prog 79 #[.string s, .string ⟨#[45]⟩] w fun e w' => e = .returned (.bool false) ∧ w' = w := by
  go_enter Tryd.func79, Tryd.ntmps79
  go_wp2_with fail
  go_ret
  exact ⟨rfl, rfl⟩
set_option maxRecDepth 100000 in
theorem hasMinus_one (s : ByteArray) (h : ¬ s.size < 1) (w : World) :
    Calls Tryd.prog 79 #[.string s, .string ⟨#[45]⟩] w fun e w' => e = .returned (.bool ((s.extract 0 1).toList == [45])) ∧ w' = w := by
  go_enter Tryd.func79, Tryd.ntmps79
  go_wp2_with fail
  go_ret
  exact ⟨rfl, rfl⟩
set_option maxRecDepth 100000 in
theorem cutPre_no (s : ByteArray) (h : ((s.extract 0 1).toList == [45]) = false) (h1 : ¬ s.size < 1) (w : World) :
    Calls Tryd.prog 70 #[.string s, .string ⟨#[45]⟩] w fun e w' => e = .returned (.tuple #[.string s, .bool false]) ∧ w' = w := by
  go_enter Tryd.func70, Tryd.ntmps70
  go_wp2_with fail
  refine (hasMinus_one s h1 _).mono ?_
  rintro e w1 ⟨rfl, rfl⟩
  rw [h]
  go_wp2_with fail
  go_ret2
  exact ⟨rfl, rfl⟩
set_option maxRecDepth 100000 in
theorem cutPre_yes (s : ByteArray) (h : ((s.extract 0 1).toList == [45]) = true) (h1 : ¬ s.size < 1) (w : World) :
    Calls Tryd.prog 70 #[.string s, .string ⟨#[45]⟩] w fun e w' => e = .returned (.tuple #[.string (s.extract 1 s.size), .bool true]) ∧ w' = w := by
  go_enter Tryd.func70, Tryd.ntmps70
  go_wp2_with fail
  refine (hasMinus_one s h1 _).mono ?_
  rintro e w1 ⟨rfl, rfl⟩
  rw [h]
  go_wp2_with fail
  go_ret2
  exact ⟨rfl, rfl⟩
set_option maxRecDepth 100000 in
theorem cutPre_nil (s : ByteArray) (h1 : s.size < 1) (w : World) :
    Calls Tryd.prog 70 #[.string s, .string ⟨#[45]⟩] w fun e w' => e = .returned (.tuple #[.string s, .bool false]) ∧ w' = w := by
  go_enter Tryd.func70, Tryd.ntmps70
  go_wp2_with fail
  refine (hasMinus_no s h1 _).mono ?_
  rintro e w1 ⟨rfl, rfl⟩
  go_wp2_with fail
  go_ret2
  exact ⟨rfl, rfl⟩
set_option maxRecDepth 100000 in
theorem cutPrefix_of (s : ByteArray) (r : ByteArray) (b : Bool) (w : World) (h : Calls Tryd.prog 70 #[.string s, .string ⟨#[45]⟩] w fun e w' => e = .returned (.tuple #[.string r, .bool b]) ∧ w' = w) :
    Calls Tryd.prog 40 #[.string s, .string ⟨#[45]⟩] w fun e w' => e = .returned (.tuple #[.string r, .bool b]) ∧ w' = w := by
  go_enter Tryd.func40, Tryd.ntmps40
  go_wp2_with fail
  refine h.mono ?_
  rintro e w1 ⟨rfl, rfl⟩
  go_wp2_with fail
  go_ret2
  exact ⟨rfl, rfl⟩
/-- It begins with a minus. -/
theorem cutMinus_yes (s : ByteArray) (l : List UInt8) (h : s.data.toList = 45 :: l) (w : World) :
    Calls Tryd.prog 40 #[.string s, .string ⟨#[45]⟩] w fun e w' => e = .returned (.tuple #[.string ⟨l.toArray⟩, .bool true]) ∧ w' = w := by
  obtain ⟨⟨d⟩⟩ := s
  replace h : d = 45 :: l := h
  subst h
  have e1 : (ByteArray.mk ⟨45 :: l⟩).extract 1 (ByteArray.mk ⟨45 :: l⟩).size = ⟨l.toArray⟩ := by
    apply ByteArray.ext
    simp [ByteArray.size]
  rw [← e1]
  exact cutPrefix_of _ _ _ w (cutPre_yes _ (by simp [ByteArray.toList_eq]) (by simp [ByteArray.size]) w)
/-- It does not. -/
theorem cutMinus_no (s : ByteArray) (h : s.data.toList.head? ≠ some 45) (w : World) :
    Calls Tryd.prog 40 #[.string s, .string ⟨#[45]⟩] w fun e w' => e = .returned (.tuple #[.string s, .bool false]) ∧ w' = w := by
  by_cases h1 : s.size < 1
  · exact cutPrefix_of _ _ _ w (cutPre_nil s h1 w)
  · refine cutPrefix_of _ _ _ w (cutPre_no s ?_ h1 w)
    obtain ⟨⟨d⟩⟩ := s
    cases d with
    | nil => simp [ByteArray.size] at h1
    | cons c r => simp [ByteArray.toList_eq] at h ⊢; exact h
end Go.Proofs.YtapdocfifgnjgaaDoor
namespace Go.Proofs.YtapdocfifgnjgaaDoor
open Go.RowKit Go.Sort

/-- A byte as a cell. -/
abbrev byteV (c : UInt8) : Value := .int .u8 c.toNat
set_option maxRecDepth 100000 in
set_option maxHeartbeats 1000000 in
theorem libReverse (blk cap : Nat) (d : Array UInt8) (w : World) (hH : Holds byteV w blk 0 d) (hsz : d.size ≤ 1000) :
    Calls Tryd.prog 64 #[.slice (some ⟨blk, 0, none⟩) d.size cap] w fun e w' => e = .returned (.tuple #[]) ∧ ∃ n, w' = putRow byteV (Sort.ahead w n) blk 0 d.reverse := by
  go_enter Tryd.func64, Tryd.ntmps64
  go_wp2
  go_loopg [2, 3] d.size (fun k a b wr => ∃ (i jn : Nat) (jz : Int) (x : Array UInt8) (n : Nat), a = .int .i64 i ∧ b = .int .i64 jz ∧ ((i : Int) < jz → jz = jn ∧ jn < d.size) ∧ (¬ (i : Int) < jz → ¬ i < jn) ∧ jn - i ≤ k ∧
    x.size = d.size ∧ wr = putRow byteV (Sort.ahead w n) blk 0 x ∧ reverseLoop i jn x = reverseLoop 0 (d.size - 1) d)
  case atStart => exact ⟨0, d.size - 1, (d.size : Int) - 1, d, 0, rfl, rfl, fun h => ⟨by omega, by omega⟩, fun h => by omega, by omega, rfl, (putRow_self byteV w blk 0 d hH).symm, rfl⟩
  case round =>
    obtain ⟨i, jn, jz, x, n, rfl, rfl, h1, h2, hk, hds, hwr, heq⟩ := hrel
    by_cases hlt : (i : Int) < jz
    · obtain ⟨rfl, hjn⟩ := h1 hlt
      have hij : i < jn := by omega
      have hHk : Holds byteV wr blk 0 x := by rw [hwr]; exact holds_putRow byteV _ blk 0 d x (holds_ahead byteV w n blk 0 d hH) hds
      obtain ⟨ci, fi⟩ := hHk i (by omega)
      obtain ⟨cj, fj⟩ := hHk jn (by omega)
      rw [Nat.zero_add] at ci fi cj fj
      have hh := Lib.hid hwr
      clear hwr hHk hH h1 h2
      go_wp2_with fail
      go_region
      go_wp2
      go_roundg (jn - 1 - (i + 1))
      case measure => omega
      case rel =>
        rw [reverseLoop, if_pos hij] at heq
        exact ⟨i + 1, jn - 1, (jn : Int) - 1, swp x i jn, n + 1, by simp, rfl, fun h => ⟨by omega, by omega⟩, fun h => by omega, Nat.le_refl _, by rw [size_swp]; exact hds,
by have q := swap_world byteV (show i < x.size by omega) (show jn < x.size by omega) hh.out rfl rfl; rw [Nat.zero_add, Nat.zero_add] at q; rw [← q]; simp [getElem!_pos, show jn < x.size by omega, show i < x.size by omega], heq⟩
    · have hnot := h2 hlt
      go_wp2
      go_end0
      refine ⟨rfl, n, ?_⟩
      rw [reverseLoop, if_neg hnot] at heq
      rw [← Lib.reverseLoop_reverse, ← heq]
end Go.Proofs.YtapdocfifgnjgaaDoor
namespace Go.Proofs.YtapdocfifgnjgaaDoor
open Go.RowKit

theorem infoStr : (Tryd.prog.info? 9).map (fun i => (i.zero, i.size, i.bytes)) = some (some (.string ByteArray.empty), 1, 16) := by kernel_rfl

theorem strCells_append (a b : List (List UInt8)) : strCells (a ++ b) = strCells a ++ strCells b := List.map_append
theorem strCells_len (a : List (List UInt8)) : (strCells a).length = a.length := List.length_map _

theorem news_one {w : World} {T : TypeId} {x : Value} : ∀ (j : Nat) (u : Value), [x][j]? = some u → (w.alloc (.cells #[x] T)).cell? ((⟨w.heap.size, 0, none⟩ : Addr).add j) = some u := by
  intro j u hu
  match j, hu with
  | 0, hu =>
    simp at hu
    subst hu
    have hb : (w.alloc (.cells #[x] T)).heap[w.heap.size]? = some (.cells #[x] T (0, 0)) := by
      show (w.heap.push _)[w.heap.size]? = _
      simp
    rw [show (⟨w.heap.size, 0, none⟩ : Addr).add 0 = ⟨w.heap.size, 0, none⟩ from by simp [Addr.add], cell_blk hb]
    rfl

/-- The part that the walk cuts out. -/
theorem cut_str (s : ByteArray) (fr k : Nat) : Value.string (s.extract fr k) = .string ⟨((s.data.toList.drop fr).take (k - fr)).toArray⟩ := by rw [extract_mk]

set_option maxRecDepth 100000 in
set_option maxHeartbeats 2000000 in
theorem specParts (s : ByteArray) (c : UInt8) (w : World) (hsz : s.size ≤ 1048576) :
    Calls Tryd.prog 17 #[.string s, .int .u8 (c.toNat : Int)] w fun e w' => ∃ v, e = .returned v ∧ w'.ownsRow w.heap.size 9 1 v (partsL c s.data.toList).length (strCells (partsL c s.data.toList)) ∧ Below w.heap.size w w' := by
  obtain ⟨i0, hi, hz0, hz1, hz2⟩ := info_parts infoStr
  have hln : s.data.toList.length = s.size := (Lib.size_eq s).symm
  go_enter Tryd.func17, Tryd.ntmps17
  go_wp2_with fail
  go_loopw [5, 6, 7] (fun v f i wr => ∃ (k fr : Nat) (ps : List (List UInt8)), i = .int .i64 k ∧ f = .int .i64 fr ∧ PInv c s.data.toList fr k ps ∧ wr.ownsRow w.heap.size 9 1 v ps.length (strCells ps) ∧ Below w.heap.size w wr) (fun _ _ i _ => s.size + 1 - (intOf i).toNat)
  case atStart =>
    exact ⟨0, 0, [], rfl, rfl, pinv_start _ _, World.ownsRow_made w #[] 0 (Nat.le_refl _) (by unfold maxLen; omega) (by simp), (Below.refl _ _).alloc (Nat.le_refl _) _⟩
  case round =>
    obtain ⟨k, fr, ps, rfl, rfl, hI, hown, hB⟩ := hrel
    have hle := pinv_le hI
    have HI := Lib.hid hI
    clear hI
    rw [hln] at hle
    by_cases hk : k ≤ s.size
    · by_cases hlt : k < s.size
      · have hq0 : ((k : Int) == s.size) = false := by rw [beq_eq_false_iff_ne]; omega
        have hk1 : (k : Int) ≤ s.size := by omega
        have hkl : k < s.data.toList.length := by omega
        have hat : s.data.toList[k] = s[k] := by simp; rfl
        by_cases hc : s[k] = c
        · have hq : ((s[k].toNat : Int) == (c.toNat : Int)) = true := by rw [hc]; simp
          have HP := Lib.hid (pinv_cut HI.out hkl (hat.trans hc))
          clear hc hat
          go_wp2_with (at_builtin; refine wpList_append_own _ rfl _ _ 40 rfl w.heap.size 9 i0 (.string ByteArray.empty) 1 16 Tryd.underlying40 hi hz0 hz1 hz2 rfl (by decide) _ _ _ rfl (hown.alloc _) ⟨wr.heap.size, 0, none⟩ 1 1 [.string (s.extract fr k)] rfl rfl ?c1 ?c2 ?c3 ?c4 ?c5 ?_)
          case c1 => exact news_one
          case c2 => intro u hu; simp at hu; subst hu; rfl
          case c3 => unfold maxLen; omega
          case c4 => omega
          case c5 => have := hB.size; simp; omega
          intro v' w1 hown1 hg1 _
          have hown2 : w1.ownsRow w.heap.size 9 1 v' (ps ++ [(s.data.toList.drop fr).take (k - fr)]).length (strCells (ps ++ [(s.data.toList.drop fr).take (k - fr)])) := by
            rw [strCells_append, List.length_append]
            have e : strCells [(s.data.toList.drop fr).take (k - fr)] = [.string (s.extract fr k)] := by rw [cut_str]; rfl
            rw [e]
            exact hown1
          have hB1 := (hB.alloc hB.size (.cells #[.string (s.extract fr k)] 9)).grown hg1 (by have := hB.size; simp; omega) (fun j hj => (hown.lt j hj).1)
          clear hown1 hg1
          go_wp2_with fail
          go_roundw
          case rel => exact ⟨k + 1, k + 1, _, by go_num, by go_num, HP.out, hown2, hB1⟩
          case measure => first | (simp [intOf]; done) | (simp [intOf]; omega)
        · have hq : ((s[k].toNat : Int) == (c.toNat : Int)) = false := by
            rw [beq_eq_false_iff_ne]
            intro h
            exact hc (UInt8.toNat_inj.1 (by omega))
          have HP := Lib.hid (pinv_more HI.out hkl (fun h => hc (hat.symm.trans h)))
          clear hc hat
          go_wp2_with fail
          go_roundw
          case rel => exact ⟨k + 1, fr, ps, by go_num, rfl, HP.out, hown, hB⟩
          case measure => first | (simp [intOf]; done) | (simp [intOf]; omega)
      · obtain rfl : k = s.size := by omega
        have HP := Lib.hid (pinv_end HI.out hln.symm)
        go_wp2_with (at_builtin; refine wpList_append_own _ rfl _ _ 40 rfl w.heap.size 9 i0 (.string ByteArray.empty) 1 16 Tryd.underlying40 hi hz0 hz1 hz2 rfl (by decide) _ _ _ rfl (hown.alloc _) ⟨wr.heap.size, 0, none⟩ 1 1 [.string (s.extract fr s.size)] rfl rfl ?c1 ?c2 ?c3 ?c4 ?c5 ?_)
        case c1 => exact news_one
        case c2 => intro u hu; simp at hu; subst hu; rfl
        case c3 => unfold maxLen; omega
        case c4 => omega
        case c5 => have := hB.size; simp; omega
        intro v' w1 hown1 hg1 _
        have hown2 : w1.ownsRow w.heap.size 9 1 v' (ps ++ [(s.data.toList.drop fr).take (s.size - fr)]).length (strCells (ps ++ [(s.data.toList.drop fr).take (s.size - fr)])) := by
          rw [strCells_append, List.length_append]
          have e : strCells [(s.data.toList.drop fr).take (s.size - fr)] = [.string (s.extract fr s.size)] := by rw [cut_str]; rfl
          rw [e]
          exact hown1
        have hB1 := (hB.alloc hB.size (.cells #[.string (s.extract fr s.size)] 9)).grown hg1 (by have := hB.size; simp; omega) (fun j hj => (hown.lt j hj).1)
        clear hown1 hg1
        go_wp2_with fail
        go_roundw
        case rel => exact ⟨s.size + 1, s.size + 1, _, by go_num, by go_num, HP.out, hown2, hB1⟩
        case measure => first | (simp [intOf]; done) | (simp [intOf]; omega)
    · have hk1 : ¬ (k : Int) ≤ s.size := by omega
      have HP := Lib.hid (pinv_done HI.out (by omega))
      go_wp2_with fail
      go_ret
      exact ⟨_, rfl, by rw [← HP.out]; exact hown, hB⟩

/-- The separator of one byte. -/
theorem sep_one (c : UInt8) : (⟨[UInt8.ofNat c.toNat].toArray⟩ : ByteArray).data.toList = [c] := by simp

/-- A row that is made whole. -/
theorem ownsRow_whole {w : World} {base : Nat} {T : TypeId} (xs : List Value) (n : Nat) (hn : n = xs.length) (hb : base ≤ w.heap.size) (hm : n ≤ maxLen) :
    (w.alloc (.cells xs.toArray T)).ownsRow base T 1 (.slice (some ⟨w.heap.size, 0, none⟩) n n) n xs :=
  ⟨by omega, Or.inr ⟨w.heap.size, n, xs.toArray, rfl, hb, heap_alloc_new w _, Nat.le_refl _, hm, by simp; omega, by subst hn; simp⟩⟩

end Go.Proofs.YtapdocfifgnjgaaDoor
namespace Go.Proofs.YtapdocfifgnjgaaDoor
open Go.RowKit

end Go.Proofs.YtapdocfifgnjgaaDoor
namespace Go.Proofs.YtapdocfifgnjgaaDoor
open Go.RowKit

/-- What a division rounded down ends in. -/
def floorE (a b : Int) : Ending := if b = 0 then .returned (.tuple #[.int .i64 0, .bool false]) else fit (floorV a b)
/-- x brought into a range. -/
def broughtV (x l h : Int) : Int := if x < l then l else if h < x then h else x
/-- The sign of x. -/
def signV (x : Int) : Int := if 0 < x then 1 else if x < 0 then -1 else 0
end Go.Proofs.YtapdocfifgnjgaaDoor
namespace Go.Proofs.YtapdocfifgnjgaaDoor
open Go.RowKit

theorem bt2 {a b c : World} (h : Below a.heap.size a b) (k : Below b.heap.size b c) : Below a.heap.size a c := h.trans (k.mono h.size)

theorem pairAddInt (a b : Int) : ∃ (x : Int) (k : Bool), fit (a + b) = .returned (.tuple #[.int .i64 x, .bool k]) := by
  skip
  unfold fit
  split
  · exact ⟨_, _, rfl⟩
  · exact ⟨_, _, rfl⟩
theorem pairSubInt (a b : Int) : ∃ (x : Int) (k : Bool), fit (a - b) = .returned (.tuple #[.int .i64 x, .bool k]) := by
  skip
  unfold fit
  split
  · exact ⟨_, _, rfl⟩
  · exact ⟨_, _, rfl⟩
theorem pairMulInt (a b : Int) : ∃ (x : Int) (k : Bool), fit (a * b) = .returned (.tuple #[.int .i64 x, .bool k]) := by
  skip
  unfold fit
  split
  · exact ⟨_, _, rfl⟩
  · exact ⟨_, _, rfl⟩
theorem pairFloorDiv (a b : Int) : ∃ (x : Int) (k : Bool), floorE a b = .returned (.tuple #[.int .i64 x, .bool k]) := by
  unfold floorE; split; exact ⟨_, _, rfl⟩
  unfold fit
  split
  · exact ⟨_, _, rfl⟩
  · exact ⟨_, _, rfl⟩
end Go.Proofs.YtapdocfifgnjgaaDoor
