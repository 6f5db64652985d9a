
/-
  Chapter 2: what the checked operations answer, the program's and the reference's.
-/
import Derived.Test.YtjmlpeapbealfaaChkM
namespace Go.Proofs.Ytjmlpeapbealfaa
open Go.RowKit

set_option maxRecDepth 100000 in
theorem chkAdd (a b : Int) (a0 : -9223372036854775808 ≤ a) (a1 : a ≤ 9223372036854775807) (b0 : -9223372036854775808 ≤ b) (b1 : b ≤ 9223372036854775807) (w : World) :
    Calls Try.prog 44 #[.int .i64 1, .int .i64 a, .int .i64 b] w fun e w' => e = fit (a + b) ∧ Below w.heap.size w w' := by
  go_enter Try.func44, Try.ntmps44
  go_wp2_with fail
  · rename_i h1 _ _ h2
    simp only [sgn_ne, decide_eq_true_eq] at h2
    go_ret2
    refine ⟨fit_no ?_, Below.refl _ _⟩
    unfold wrap64 at h2
    omega
  · rename_i h1 h2
    simp only [sgn_ne, decide_eq_false_iff_not, Classical.not_not] at h2
    go_ret2
    unfold wrap64 at h2
    exact ⟨fit_yes (by omega) (by omega) (by unfold wrap64; omega), Below.refl _ _⟩
  · rename_i h1
    go_ret2
    exact ⟨fit_yes (by omega) (by omega) (by unfold wrap64; omega), Below.refl _ _⟩
set_option maxRecDepth 100000 in
theorem chkSub (a b : Int) (a0 : -9223372036854775808 ≤ a) (a1 : a ≤ 9223372036854775807) (b0 : -9223372036854775808 ≤ b) (b1 : b ≤ 9223372036854775807) (w : World) :
    Calls Try.prog 44 #[.int .i64 0, .int .i64 a, .int .i64 b] w fun e w' => e = fit (a - b) ∧ Below w.heap.size w w' := by
  have hn := i64_not b b0 b1
  go_enter Try.func44, Try.ntmps44
  go_wp2_with fail
  · rename_i h1 _ _ h2
    simp only [sgn_ne, decide_eq_true_eq] at h2
    go_ret2
    refine ⟨fit_no ?_, Below.refl _ _⟩
    unfold wrap64 at h2
    omega
  · rename_i h1 h2
    simp only [sgn_ne, decide_eq_false_iff_not, Classical.not_not] at h2
    go_ret2
    unfold wrap64 at h2
    exact ⟨fit_yes (by omega) (by omega) (by unfold wrap64; omega), Below.refl _ _⟩
  · rename_i h1
    go_ret2
    exact ⟨fit_yes (by omega) (by omega) (by unfold wrap64; omega), Below.refl _ _⟩
set_option maxRecDepth 100000 in
theorem past (a b : Int) (w : World) :
    Calls Try.prog 72 #[.int .i64 a, .int .i64 b] w fun e w' => e = .returned (.bool (decide (a = -9223372036854775808 ∧ b = -1))) ∧ w = w' := by
  go_enter Try.func72, Try.ntmps72
  go_wp2_with fail
  · rename_i h
    go_ret
    refine ⟨?_, rfl⟩
    by_cases hb : b = -1 <;> simp [h, hb]
  · rename_i h
    go_ret
    exact ⟨by simp [h], rfl⟩
set_option maxRecDepth 100000 in
theorem chkMul (a b : Int) (a0 : -9223372036854775808 ≤ a) (a1 : a ≤ 9223372036854775807) (b0 : -9223372036854775808 ≤ b) (b1 : b ≤ 9223372036854775807) (w : World) :
    Calls Try.prog 44 #[.int .i64 2, .int .i64 a, .int .i64 b] w fun e w' => e = fit (a * b) ∧ Below w.heap.size w w' := by
  by_cases hb : b = 0
  · subst hb
    go_enter Try.func44, Try.ntmps44
    go_wp2_with fail
    go_ret2
    exact ⟨fit_yes (by omega) (by omega) (by simp), Below.refl _ _⟩
  · by_cases hp : a = -9223372036854775808 ∧ b = -1
    · obtain ⟨rfl, rfl⟩ := hp
      go_enter Try.func44, Try.ntmps44
      go_wp2_with fail
      refine (past _ _ _).mono ?_
      rintro e w1 ⟨rfl, rfl⟩
      go_wp2_with fail
      go_ret2
      exact ⟨fit_no (by omega), Below.refl _ _⟩
    · have hback := Lib.hid (mul_wrap a b a0 a1 b0 b1 hb hp)
      go_enter Try.func44, Try.ntmps44
      go_wp2_with fail
      refine (past _ _ _).mono ?_
      rintro e w1 ⟨rfl, rfl⟩
      rw [decide_eq_false hp]
      go_wp2_with fail
      · rename_i h
        go_ret2
        have h2 := hback.out
        refine ⟨fit_no ?_, Below.refl _ _⟩
        rw [← h2]
        simpa using h.2
      · rename_i h
        go_ret2
        have h2 := hback.out
        have h3 := h2.1 (by simpa [hb] using h)
        exact ⟨fit_yes h3.1 h3.2 (wrap_in h3), Below.refl _ _⟩

set_option maxRecDepth 100000 in
theorem floorQ (a b : Int) (hb : b ≠ 0) (w : World) :
    Calls Try.prog 73 #[.int .i64 a, .int .i64 b] w fun e w' => e = .returned (.int .i64 (wrap64 (floorV a b))) ∧ Below w.heap.size w w' := by
  go_enter Try.func73, Try.ntmps73
  go_wp2_with fail
  go_quiet (fail)
  go_wp2_with fail
  · rename_i h
    go_ret
    exact ⟨by rw [floor_zero hb h]; rfl, below_drewN _ _⟩
  · rename_i h1 h
    simp only [sgn_ne, decide_eq_true_eq] at h
    rw [tmod_sgn a b h1] at h
    go_ret
    exact ⟨by rw [floor_down hb h1 h.2, wrap_less]; rfl, below_drewN _ _⟩
  · rename_i h1 h
    simp only [sgn_ne, decide_eq_false_iff_not, Classical.not_not] at h
    rw [tmod_sgn a b h1] at h
    go_ret
    exact ⟨by rw [floor_same hb (by simpa [h1] using h)]; rfl, below_drewN _ _⟩

set_option maxRecDepth 100000 in
theorem chkFloor (a b : Int) (a0 : -9223372036854775808 ≤ a) (a1 : a ≤ 9223372036854775807) (b0 : -9223372036854775808 ≤ b) (b1 : b ≤ 9223372036854775807) (hb : b ≠ 0) (w : World) :
    Calls Try.prog 44 #[.int .i64 3, .int .i64 a, .int .i64 b] w fun e w' => e = fit (floorV a b) ∧ Below w.heap.size w w' := by
  by_cases hp : a = -9223372036854775808 ∧ b = -1
  · obtain ⟨rfl, rfl⟩ := hp
    go_enter Try.func44, Try.ntmps44
    go_wp2_with fail
    refine (floorQ _ _ hb _).mono ?_
    rintro e w1 ⟨rfl, hB⟩
    go_wp2_with fail
    refine (past _ _ _).mono ?_
    rintro e w2 ⟨rfl, rfl⟩
    go_wp2_with fail
    go_ret2
    exact ⟨fit_no (by rw [floor_past]; omega), hB⟩
  · have hin := Lib.hid (floor_in a0 a1 hb hp)
    go_enter Try.func44, Try.ntmps44
    go_wp2_with fail
    refine (floorQ a b hb _).mono ?_
    rintro e w1 ⟨rfl, hB⟩
    go_wp2_with fail
    refine (past _ _ _).mono ?_
    rintro e w2 ⟨rfl, rfl⟩
    rw [decide_eq_false hp]
    go_wp2_with fail
    go_ret2
    exact ⟨fit_yes hin.out.1 hin.out.2 (wrap_in hin.out), hB⟩
set_option maxRecDepth 100000 in
theorem chkFloor0 (a : Int) (w : World) :
    Calls Try.prog 44 #[.int .i64 3, .int .i64 a, .int .i64 0] w fun e w' => e = .returned (.tuple #[.int .i64 0, .bool false]) ∧ Below w.heap.size w w' := by
  go_enter Try.func44, Try.ntmps44
  go_wp2_with fail
  go_ret2
  exact ⟨rfl, Below.refl _ _⟩

set_option maxRecDepth 100000 in
theorem specFloor (a b : Int) (a0 : -9223372036854775808 ≤ a) (a1 : a ≤ 9223372036854775807) (b0 : -9223372036854775808 ≤ b) (b1 : b ≤ 9223372036854775807) (hb : b ≠ 0) (hp : ¬ (a = -9223372036854775808 ∧ b = -1)) (w : World) :
    Calls Try.prog 15 #[.int .i64 a, .int .i64 b] w fun e w' => e = fit (floorV a b) ∧ Below w.heap.size w w' := by
  have hin := floor_in a0 a1 hb hp
  go_enter Try.func15, Try.ntmps15
  go_wp2_with fail
  · rename_i hb1 _
    subst hb1
    go_ret2
    have h := floor_zero (a := a) hb (by rw [Int.tmod_neg, Int.tmod_one])
    rw [Int.tdiv_neg, Int.tdiv_one] at h
    rw [h] at hin
    exact ⟨by rw [h]; exact fit_yes hin.1 hin.2 rfl, Below.refl _ _⟩
  · rename_i h
    go_ret2
    rw [floor_zero hb h] at hin
    exact ⟨by rw [floor_zero hb h]; exact fit_yes hin.1 hin.2 (by first | rfl | exact wrap_in hin), Below.refl _ _⟩
  · rename_i h1 h
    simp only [sgn_ne, decide_eq_true_eq] at h
    go_ret2
    rw [floor_down hb h1 h.2] at hin
    exact ⟨by rw [floor_down hb h1 h.2]; exact fit_yes hin.1 hin.2 (by first | rfl | exact wrap_in hin | rw [wrap_less, wrap_in hin]), Below.refl _ _⟩
  · rename_i h1 h
    simp only [sgn_ne, decide_eq_false_iff_not, Classical.not_not] at h
    have h2 := floor_same (a := a) hb (by simpa [h1] using h)
    go_ret2
    rw [h2] at hin
    exact ⟨by rw [h2]; exact fit_yes hin.1 hin.2 (by first | rfl | exact wrap_in hin), Below.refl _ _⟩
set_option maxRecDepth 100000 in
theorem specFloorPast (w : World) :
    Calls Try.prog 15 #[.int .i64 (-9223372036854775808), .int .i64 (-1)] w fun e w' => e = fit (floorV (-9223372036854775808) (-1)) ∧ Below w.heap.size w w' := by
  go_enter Try.func15, Try.ntmps15
  go_wp2_with fail
  go_ret2
  exact ⟨fit_no (by rw [floor_past]; omega), Below.refl _ _⟩
set_option maxRecDepth 100000 in
theorem specFloor0 (a : Int) (w : World) :
    Calls Try.prog 15 #[.int .i64 a, .int .i64 0] w fun e w' => e = .returned (.tuple #[.int .i64 0, .bool false]) ∧ Below w.heap.size w w' := by
  go_enter Try.func15, Try.ntmps15
  go_wp2_with fail
  go_ret2
  exact ⟨rfl, Below.refl _ _⟩
end Go.Proofs.Ytjmlpeapbealfaa
