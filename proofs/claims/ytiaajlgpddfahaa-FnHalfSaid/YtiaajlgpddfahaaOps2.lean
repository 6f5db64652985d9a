
/-
  Chapter 2: what its functions answer, the program's and the reference's alike.
-/
import Derived.Test.YtiaajlgpddfahaaChk
namespace Go.Proofs.Ytiaajlgpddfahaa
open Go.RowKit

set_option maxRecDepth 100000 in
theorem implAddInt (a b : Int) (a0 : -9223372036854775808 ≤ a) (a1 : a ≤ 9223372036854775807) (b0 : -9223372036854775808 ≤ b) (b1 : b ≤ 9223372036854775807) (w : World) :
    Calls Try.prog 15 #[.int .i64 a, .int .i64 b] w fun e w' => e = fit (a + b) ∧ Below w.heap.size w w' := by
  go_enter Try.func15, Try.ntmps15
  go_wp2_with fail
  refine (chkAdd a b a0 a1 b0 b1 _).mono ?_
  rintro e w1 ⟨rfl, hB⟩
  by_cases hz : -9223372036854775808 ≤ a + b ∧ a + b ≤ 9223372036854775807
  · rw [fit_in hz.1 hz.2]
    go_wp2_with fail
    go_ret2
    exact ⟨fit_yes hz.1 hz.2 rfl, hB⟩
  · rw [fit_out hz]
    have hz' := Lib.hid hz
    clear hz
    go_wp2_with fail
    go_ret2
    exact ⟨fit_no hz'.out, hB⟩
set_option maxRecDepth 100000 in
theorem implSubInt (a b : Int) (a0 : -9223372036854775808 ≤ a) (a1 : a ≤ 9223372036854775807) (b0 : -9223372036854775808 ≤ b) (b1 : b ≤ 9223372036854775807) (w : World) :
    Calls Try.prog 17 #[.int .i64 a, .int .i64 b] w fun e w' => e = fit (a - b) ∧ Below w.heap.size w w' := by
  go_enter Try.func17, Try.ntmps17
  go_wp2_with fail
  refine (chkSub a b a0 a1 b0 b1 _).mono ?_
  rintro e w1 ⟨rfl, hB⟩
  by_cases hz : -9223372036854775808 ≤ a - b ∧ a - b ≤ 9223372036854775807
  · rw [fit_in hz.1 hz.2]
    go_wp2_with fail
    go_ret2
    exact ⟨fit_yes hz.1 hz.2 rfl, hB⟩
  · rw [fit_out hz]
    have hz' := Lib.hid hz
    clear hz
    go_wp2_with fail
    go_ret2
    exact ⟨fit_no hz'.out, hB⟩
set_option maxRecDepth 100000 in
theorem implMulInt (a b : Int) (a0 : -9223372036854775808 ≤ a) (a1 : a ≤ 9223372036854775807) (b0 : -9223372036854775808 ≤ b) (b1 : b ≤ 9223372036854775807) (w : World) :
    Calls Try.prog 31 #[.int .i64 a, .int .i64 b] w fun e w' => e = fit (a * b) ∧ Below w.heap.size w w' := by
  go_enter Try.func31, Try.ntmps31
  go_wp2_with fail
  refine (chkMul a b a0 a1 b0 b1 _).mono ?_
  rintro e w1 ⟨rfl, hB⟩
  by_cases hz : -9223372036854775808 ≤ a * b ∧ a * b ≤ 9223372036854775807
  · rw [fit_in hz.1 hz.2]
    go_wp2_with fail
    go_ret2
    exact ⟨fit_yes hz.1 hz.2 rfl, hB⟩
  · rw [fit_out hz]
    have hz' := Lib.hid hz
    clear hz
    go_wp2_with fail
    go_ret2
    exact ⟨fit_no hz'.out, hB⟩
/-- What a division rounded down ends in. -/
def floorE (a b : Int) : Ending := if b = 0 then .returned (.tuple #[.int .i64 0, .bool false]) else fit (floorV a b)
set_option maxRecDepth 100000 in
theorem implFloorDiv (a b : Int) (a0 : -9223372036854775808 ≤ a) (a1 : a ≤ 9223372036854775807) (b0 : -9223372036854775808 ≤ b) (b1 : b ≤ 9223372036854775807) (w : World) :
    Calls Try.prog 33 #[.int .i64 a, .int .i64 b] w fun e w' => e = floorE a b ∧ Below w.heap.size w w' := by
  by_cases hb : b = 0
  · subst hb
    go_enter Try.func33, Try.ntmps33
    go_wp2_with fail
    refine (chkFloor0 a _).mono ?_
    rintro e w1 ⟨rfl, hB⟩
    go_wp2_with fail
    go_ret2
    exact ⟨rfl, hB⟩
  · rw [floorE, if_neg hb]
    go_enter Try.func33, Try.ntmps33
    go_wp2_with fail
    refine (chkFloor a b a0 a1 b0 b1 hb _).mono ?_
    rintro e w1 ⟨rfl, hB⟩
    by_cases hz : -9223372036854775808 ≤ floorV a b ∧ floorV a b ≤ 9223372036854775807
    · rw [fit_in hz.1 hz.2]
      go_wp2_with fail
      go_ret2
      exact ⟨fit_yes hz.1 hz.2 rfl, hB⟩
    · rw [fit_out hz]
      have hz' := Lib.hid hz
      clear hz
      go_wp2_with fail
      go_ret2
      exact ⟨fit_no hz'.out, hB⟩
theorem specFloorDiv (a b : Int) (a0 : -9223372036854775808 ≤ a) (a1 : a ≤ 9223372036854775807) (b0 : -9223372036854775808 ≤ b) (b1 : b ≤ 9223372036854775807) (w : World) :
    Calls Try.prog 32 #[.int .i64 a, .int .i64 b] w fun e w' => e = floorE a b ∧ Below w.heap.size w w' := by
  by_cases hb : b = 0
  · subst hb
    exact specFloor0 a w
  · rw [floorE, if_neg hb]
    by_cases hp : a = -9223372036854775808 ∧ b = -1
    · obtain ⟨rfl, rfl⟩ := hp
      exact specFloorPast w
    · exact specFloor a b a0 a1 b0 b1 hb hp w
set_option maxRecDepth 100000 in
theorem specAddInt (a b : Int) (a0 : -9223372036854775808 ≤ a) (a1 : a ≤ 9223372036854775807) (b0 : -9223372036854775808 ≤ b) (b1 : b ≤ 9223372036854775807) (w : World) :
    Calls Try.prog 16 #[.int .i64 a, .int .i64 b] w fun e w' => e = fit (a + b) ∧ Below w.heap.size w w' := by
  go_enter Try.func16, Try.ntmps16
  go_wp2_with fail
  all_goals go_ret2
  all_goals first
    | exact ⟨fit_yes (by omega) (by omega) (by first | omega | (unfold wrap64; omega)), Below.refl _ _⟩
    | exact ⟨fit_no (by omega), Below.refl _ _⟩
set_option maxRecDepth 100000 in
theorem specSubInt (a b : Int) (a0 : -9223372036854775808 ≤ a) (a1 : a ≤ 9223372036854775807) (b0 : -9223372036854775808 ≤ b) (b1 : b ≤ 9223372036854775807) (w : World) :
    Calls Try.prog 18 #[.int .i64 a, .int .i64 b] w fun e w' => e = fit (a - b) ∧ Below w.heap.size w w' := by
  go_enter Try.func18, Try.ntmps18
  go_wp2_with fail
  all_goals go_ret2
  all_goals first
    | exact ⟨fit_yes (by omega) (by omega) (by first | omega | (unfold wrap64; omega)), Below.refl _ _⟩
    | exact ⟨fit_no (by omega), Below.refl _ _⟩
set_option maxRecDepth 100000 in
theorem specMulInt (a b : Int) (a0 : -9223372036854775808 ≤ a) (a1 : a ≤ 9223372036854775807) (b0 : -9223372036854775808 ≤ b) (b1 : b ≤ 9223372036854775807) (w : World) :
    Calls Try.prog 30 #[.int .i64 a, .int .i64 b] w fun e w' => e = fit (a * b) ∧ Below w.heap.size w w' := by
  by_cases hb : b = 0
  · subst hb
    go_enter Try.func30, Try.ntmps30
    go_wp2_with fail
    all_goals go_ret2
    all_goals first
      | exact ⟨fit_yes (by omega) (by omega) (by first | omega | (unfold wrap64; omega)), Below.refl _ _⟩
      | exact ⟨fit_no (by omega), Below.refl _ _⟩
  by_cases ha : a = 0
  · subst ha
    go_enter Try.func30, Try.ntmps30
    go_wp2_with fail
    all_goals go_ret2
    all_goals first
      | exact ⟨fit_yes (by omega) (by omega) (by first | omega | (unfold wrap64; omega)), Below.refl _ _⟩
      | exact ⟨fit_no (by omega), Below.refl _ _⟩
  have e1 : wrap64 (wrap64 (-9223372036854775808 * -1)) = -9223372036854775808 := by unfold wrap64; omega
  have e2 : wrap64 (-wrap64 9223372036854775808) = -9223372036854775808 := by unfold wrap64; omega
  have e3 : wrap64 9223372036854775808 = -9223372036854775808 := by unfold wrap64; omega
  have hwb : ¬ b = -9223372036854775808 → wrap64 (-b) = -b := fun h => by unfold wrap64; omega
  have hwa : ¬ a = -9223372036854775808 → wrap64 (-a) = -a := fun h => by unfold wrap64; omega
  by_cases h1 : a = -1
  · subst h1
    by_cases h2 : b = -9223372036854775808
    · subst h2
      go_enter Try.func30, Try.ntmps30
      go_wp2_with fail
      all_goals go_ret2
      all_goals first
        | exact ⟨fit_yes (by omega) (by omega) (by first | omega | (unfold wrap64; omega)), Below.refl _ _⟩
        | exact ⟨fit_no (by omega), Below.refl _ _⟩
    · have hwb' := hwb h2
      have h3 : (wrap64 (-b)).tdiv b = -1 := by rw [hwb', Int.neg_tdiv, Int.tdiv_self hb]
      go_enter Try.func30, Try.ntmps30
      go_wp2_with fail
      all_goals go_ret2
      all_goals first
        | exact ⟨fit_yes (by omega) (by omega) (by first | omega | (unfold wrap64; omega)), Below.refl _ _⟩
        | exact ⟨fit_no (by omega), Below.refl _ _⟩
  by_cases h1b : b = -1
  · subst h1b
    by_cases h2 : a = -9223372036854775808
    · subst h2
      go_enter Try.func30, Try.ntmps30
      go_wp2_with fail
      all_goals go_ret2
      all_goals first
        | exact ⟨fit_yes (by omega) (by omega) (by first | omega | (unfold wrap64; omega)), Below.refl _ _⟩
        | exact ⟨fit_no (by omega), Below.refl _ _⟩
    · have hwa' := hwa h2
      go_enter Try.func30, Try.ntmps30
      go_wp2_with fail
      all_goals go_ret2
      all_goals first
        | exact ⟨fit_yes (by omega) (by omega) (by first | omega | (unfold wrap64; omega)), Below.refl _ _⟩
        | exact ⟨fit_no (by omega), Below.refl _ _⟩
  have hp : ¬ (a = -9223372036854775808 ∧ b = -1) := fun h => h1b h.2
  have hback := Lib.hid (mul_wrap a b a0 a1 b0 b1 hb hp)
  clear hwa hwb hp e1 e2 e3
  go_enter Try.func30, Try.ntmps30
  go_wp2_with fail
  all_goals first
    | (exfalso; rename_i h; simp [ha, hb] at h; done)
    | skip
  all_goals have h2 := hback.out
  all_goals go_ret2
  all_goals first
    | exact ⟨fit_no (fun k => absurd (h2.2 k) (by assumption)), Below.refl _ _⟩
    | exact ⟨fit_yes (h2.1 (by assumption)).1 (h2.1 (by assumption)).2 (wrap_in (h2.1 (by assumption))), Below.refl _ _⟩
set_option maxRecDepth 100000 in
theorem specHalfSum (a b : Int) (a0 : -9223372036854775808 ≤ a) (a1 : a ≤ 9223372036854775807) (b0 : -9223372036854775808 ≤ b) (b1 : b ≤ 9223372036854775807) (w : World) :
    Calls Try.prog 21 #[.int .i64 a, .int .i64 b] w fun e w' => e = .returned (.int .i64 ((a + b) / 2)) ∧ Below w.heap.size w w' := by
  have h := Lib.hid (half_spec a b a0 a1 b0 b1)
  go_enter Try.func21, Try.ntmps21
  go_wp2_with fail
  go_ret
  exact ⟨by rw [← h.out]; rfl, Below.refl _ _⟩
set_option maxRecDepth 100000 in
theorem implHalfSum (a b : Int) (a0 : -9223372036854775808 ≤ a) (a1 : a ≤ 9223372036854775807) (b0 : -9223372036854775808 ≤ b) (b1 : b ≤ 9223372036854775807) (w : World) :
    Calls Try.prog 20 #[.int .i64 a, .int .i64 b] w fun e w' => e = .returned (.int .i64 ((a + b) / 2)) ∧ Below w.heap.size w w' := by
  have h := Lib.hid (half_impl a b a0 a1 b0 b1)
  go_enter Try.func20, Try.ntmps20
  go_wp2_with fail
  go_ret
  exact ⟨by rw [← h.out]; rfl, Below.refl _ _⟩
/-- x brought into a range. -/
def broughtV (x l h : Int) : Int := if x < l then l else if h < x then h else x
set_option maxRecDepth 100000 in
theorem specBrought (x l h : Int) (w : World) :
    Calls Try.prog 27 #[.int .i64 x, .int .i64 l, .int .i64 h] w fun e w' => e = .returned (.int .i64 (broughtV x l h)) ∧ Below w.heap.size w w' := by
  by_cases h1 : x < l
  · rw [broughtV, if_pos h1]
    go_enter Try.func27, Try.ntmps27
    go_wp2_with fail
    go_ret
    exact ⟨rfl, Below.refl _ _⟩
  by_cases h2 : h < x
  · rw [broughtV, if_neg h1, if_pos h2]
    go_enter Try.func27, Try.ntmps27
    go_wp2_with fail
    go_ret
    exact ⟨rfl, Below.refl _ _⟩
  rw [broughtV, if_neg h1, if_neg h2]
  go_enter Try.func27, Try.ntmps27
  go_wp2_with fail
  go_ret
  exact ⟨rfl, Below.refl _ _⟩
set_option maxRecDepth 100000 in
theorem implBrought (x l h : Int) (w : World) :
    Calls Try.prog 26 #[.int .i64 x, .int .i64 l, .int .i64 h] w fun e w' => e = .returned (.int .i64 (broughtV x l h)) ∧ Below w.heap.size w w' := by
  by_cases h1 : x < l
  · rw [broughtV, if_pos h1]
    go_enter Try.func26, Try.ntmps26
    go_wp2_with fail
    go_ret
    exact ⟨rfl, Below.refl _ _⟩
  by_cases h2 : h < x
  · rw [broughtV, if_neg h1, if_pos h2]
    go_enter Try.func26, Try.ntmps26
    go_wp2_with fail
    go_ret
    exact ⟨rfl, Below.refl _ _⟩
  rw [broughtV, if_neg h1, if_neg h2]
  go_enter Try.func26, Try.ntmps26
  go_wp2_with fail
  go_ret
  exact ⟨rfl, Below.refl _ _⟩
/-- The sign of x. -/
def signV (x : Int) : Int := if 0 < x then 1 else if x < 0 then -1 else 0
set_option maxRecDepth 100000 in
theorem noNaN (x : Int) (w : World) :
    Calls Try.prog 50 #[.int .i64 x] w fun e w' => e = .returned (.bool false) ∧ Below w.heap.size w w' := by
  go_enter Try.func50, Try.ntmps50
  go_wp2_with fail
  go_ret
  exact ⟨by simp, Below.refl _ _⟩
set_option maxRecDepth 100000 in
theorem cmpZero (x : Int) (w : World) :
    Calls Try.prog 41 #[.int .i64 x, .int .i64 0] w fun e w' => e = .returned (.int .i64 (signV x)) ∧ Below w.heap.size w w' := by
  rcases (show x < 0 ∨ x = 0 ∨ 0 < x by omega) with h | rfl | h
  · rw [signV, if_neg (by omega), if_pos h]
    go_enter Try.func41, Try.ntmps41
    go_wp2_with fail
    refine (noNaN x _).mono ?_
    rintro e w1 ⟨rfl, hB⟩
    go_wp2_with fail
    refine (noNaN 0 _).mono ?_
    rintro e w2 ⟨rfl, hB2⟩
    go_wp2_with fail
    go_ret
    exact ⟨rfl, hB.trans (hB2.mono hB.size)⟩
  · 
    go_enter Try.func41, Try.ntmps41
    go_wp2_with fail
    refine (noNaN 0 _).mono ?_
    rintro e w1 ⟨rfl, hB⟩
    go_wp2_with fail
    refine (noNaN 0 _).mono ?_
    rintro e w2 ⟨rfl, hB2⟩
    go_wp2_with fail
    go_ret
    exact ⟨rfl, hB.trans (hB2.mono hB.size)⟩
  · rw [signV, if_pos h]
    go_enter Try.func41, Try.ntmps41
    go_wp2_with fail
    refine (noNaN x _).mono ?_
    rintro e w1 ⟨rfl, hB⟩
    go_wp2_with fail
    refine (noNaN 0 _).mono ?_
    rintro e w2 ⟨rfl, hB2⟩
    go_wp2_with fail
    go_ret
    exact ⟨rfl, hB.trans (hB2.mono hB.size)⟩
set_option maxRecDepth 100000 in
theorem implSignOf (x : Int) (w : World) :
    Calls Try.prog 28 #[.int .i64 x] w fun e w' => e = .returned (.int .i64 (signV x)) ∧ Below w.heap.size w w' := by
  go_enter Try.func28, Try.ntmps28
  go_wp2_with fail
  refine (cmpZero x _).mono ?_
  rintro e w1 ⟨rfl, hB⟩
  go_wp2_with fail
  go_ret
  exact ⟨rfl, hB⟩
set_option maxRecDepth 100000 in
theorem specSignOf (x : Int) (w : World) :
    Calls Try.prog 29 #[.int .i64 x] w fun e w' => e = .returned (.int .i64 (signV x)) ∧ Below w.heap.size w w' := by
  rcases (show x < 0 ∨ x = 0 ∨ 0 < x by omega) with h | rfl | h
  · rw [signV, if_neg (by omega), if_pos h]
    go_enter Try.func29, Try.ntmps29
    go_wp2_with fail
    go_ret
    exact ⟨rfl, Below.refl _ _⟩
  · 
    go_enter Try.func29, Try.ntmps29
    go_wp2_with fail
    go_ret
    exact ⟨rfl, Below.refl _ _⟩
  · rw [signV, if_pos h]
    go_enter Try.func29, Try.ntmps29
    go_wp2_with fail
    go_ret
    exact ⟨rfl, Below.refl _ _⟩
end Go.Proofs.Ytiaajlgpddfahaa
