/-
  The program's states in a text of rows.
-/
import Derived.Test.YticeagjonfifbaaGreatDoorPk2
import Derived.Test.YticeagjonfifbaaGreatDoorI7M
namespace Go.Proofs.YticeagjonfifbaaGreatDoor
open Go.RowKit

set_option maxRecDepth 100000 in
theorem stA0_34 (w : World) : Calls Tryz.prog 112 #[.int .i64 0, .int .i32 34] w fun e w' => e = .returned (.int .i64 3) ∧ w' = w := by
  go_enter Tryz.func112, Tryz.ntmps112
  go_wp2_with fail
  go_ret
  exact ⟨rfl, rfl⟩

set_option maxRecDepth 100000 in
theorem stA0_10 (w : World) : Calls Tryz.prog 112 #[.int .i64 0, .int .i32 10] w fun e w' => e = .returned (.int .i64 0) ∧ w' = w := by
  go_enter Tryz.func112, Tryz.ntmps112
  go_wp2_with fail
  go_ret
  exact ⟨rfl, rfl⟩

set_option maxRecDepth 100000 in
theorem stA0_13 (w : World) : Calls Tryz.prog 112 #[.int .i64 0, .int .i32 13] w fun e w' => e = .returned (.int .i64 5) ∧ w' = w := by
  go_enter Tryz.func112, Tryz.ntmps112
  go_wp2_with fail
  go_ret
  exact ⟨rfl, rfl⟩

set_option maxRecDepth 100000 in
theorem stA0_44 (w : World) : Calls Tryz.prog 112 #[.int .i64 0, .int .i32 44] w fun e w' => e = .returned (.int .i64 1) ∧ w' = w := by
  go_enter Tryz.func112, Tryz.ntmps112
  go_wp2_with fail
  go_ret
  exact ⟨rfl, rfl⟩

set_option maxRecDepth 100000 in
theorem stA0_n (r : Int) (h34 : ¬ r = 34) (h10 : ¬ r = 10) (h13 : ¬ r = 13) (h44 : ¬ r = 44) (w : World) : Calls Tryz.prog 112 #[.int .i64 0, .int .i32 r] w fun e w' => e = .returned (.int .i64 2) ∧ w' = w := by
  go_enter Tryz.func112, Tryz.ntmps112
  go_wp2_with fail
  go_ret
  exact ⟨rfl, rfl⟩

set_option maxRecDepth 100000 in
theorem stA1_34 (w : World) : Calls Tryz.prog 112 #[.int .i64 1, .int .i32 34] w fun e w' => e = .returned (.int .i64 3) ∧ w' = w := by
  go_enter Tryz.func112, Tryz.ntmps112
  go_wp2_with fail
  go_ret
  exact ⟨rfl, rfl⟩

set_option maxRecDepth 100000 in
theorem stA1_10 (w : World) : Calls Tryz.prog 112 #[.int .i64 1, .int .i32 10] w fun e w' => e = .returned (.int .i64 0) ∧ w' = w := by
  go_enter Tryz.func112, Tryz.ntmps112
  go_wp2_with fail
  go_ret
  exact ⟨rfl, rfl⟩

set_option maxRecDepth 100000 in
theorem stA1_13 (w : World) : Calls Tryz.prog 112 #[.int .i64 1, .int .i32 13] w fun e w' => e = .returned (.int .i64 5) ∧ w' = w := by
  go_enter Tryz.func112, Tryz.ntmps112
  go_wp2_with fail
  go_ret
  exact ⟨rfl, rfl⟩

set_option maxRecDepth 100000 in
theorem stA1_44 (w : World) : Calls Tryz.prog 112 #[.int .i64 1, .int .i32 44] w fun e w' => e = .returned (.int .i64 1) ∧ w' = w := by
  go_enter Tryz.func112, Tryz.ntmps112
  go_wp2_with fail
  go_ret
  exact ⟨rfl, rfl⟩

set_option maxRecDepth 100000 in
theorem stA1_n (r : Int) (h34 : ¬ r = 34) (h10 : ¬ r = 10) (h13 : ¬ r = 13) (h44 : ¬ r = 44) (w : World) : Calls Tryz.prog 112 #[.int .i64 1, .int .i32 r] w fun e w' => e = .returned (.int .i64 2) ∧ w' = w := by
  go_enter Tryz.func112, Tryz.ntmps112
  go_wp2_with fail
  go_ret
  exact ⟨rfl, rfl⟩

set_option maxRecDepth 100000 in
theorem stA2_34 (w : World) : Calls Tryz.prog 112 #[.int .i64 2, .int .i32 34] w fun e w' => e = .returned (.int .i64 6) ∧ w' = w := by
  go_enter Tryz.func112, Tryz.ntmps112
  go_wp2_with fail
  go_ret
  exact ⟨rfl, rfl⟩

set_option maxRecDepth 100000 in
theorem stA2_10 (w : World) : Calls Tryz.prog 112 #[.int .i64 2, .int .i32 10] w fun e w' => e = .returned (.int .i64 0) ∧ w' = w := by
  go_enter Tryz.func112, Tryz.ntmps112
  go_wp2_with fail
  go_ret
  exact ⟨rfl, rfl⟩

set_option maxRecDepth 100000 in
theorem stA2_13 (w : World) : Calls Tryz.prog 112 #[.int .i64 2, .int .i32 13] w fun e w' => e = .returned (.int .i64 5) ∧ w' = w := by
  go_enter Tryz.func112, Tryz.ntmps112
  go_wp2_with fail
  go_ret
  exact ⟨rfl, rfl⟩

set_option maxRecDepth 100000 in
theorem stA2_44 (w : World) : Calls Tryz.prog 112 #[.int .i64 2, .int .i32 44] w fun e w' => e = .returned (.int .i64 1) ∧ w' = w := by
  go_enter Tryz.func112, Tryz.ntmps112
  go_wp2_with fail
  go_ret
  exact ⟨rfl, rfl⟩

set_option maxRecDepth 100000 in
theorem stA2_n (r : Int) (h34 : ¬ r = 34) (h10 : ¬ r = 10) (h13 : ¬ r = 13) (h44 : ¬ r = 44) (w : World) : Calls Tryz.prog 112 #[.int .i64 2, .int .i32 r] w fun e w' => e = .returned (.int .i64 2) ∧ w' = w := by
  go_enter Tryz.func112, Tryz.ntmps112
  go_wp2_with fail
  go_ret
  exact ⟨rfl, rfl⟩

set_option maxRecDepth 100000 in
theorem stA3_34 (w : World) : Calls Tryz.prog 112 #[.int .i64 3, .int .i32 34] w fun e w' => e = .returned (.int .i64 4) ∧ w' = w := by
  go_enter Tryz.func112, Tryz.ntmps112
  go_wp2_with fail
  go_ret
  exact ⟨rfl, rfl⟩

set_option maxRecDepth 100000 in
theorem stA3_n (r : Int) (h34 : ¬ r = 34) (w : World) : Calls Tryz.prog 112 #[.int .i64 3, .int .i32 r] w fun e w' => e = .returned (.int .i64 3) ∧ w' = w := by
  go_enter Tryz.func112, Tryz.ntmps112
  go_wp2_with fail
  go_ret
  exact ⟨rfl, rfl⟩

set_option maxRecDepth 100000 in
theorem stA4_34 (w : World) : Calls Tryz.prog 112 #[.int .i64 4, .int .i32 34] w fun e w' => e = .returned (.int .i64 3) ∧ w' = w := by
  go_enter Tryz.func112, Tryz.ntmps112
  go_wp2_with fail
  go_ret
  exact ⟨rfl, rfl⟩

set_option maxRecDepth 100000 in
theorem stA4_10 (w : World) : Calls Tryz.prog 112 #[.int .i64 4, .int .i32 10] w fun e w' => e = .returned (.int .i64 0) ∧ w' = w := by
  go_enter Tryz.func112, Tryz.ntmps112
  go_wp2_with fail
  go_ret
  exact ⟨rfl, rfl⟩

set_option maxRecDepth 100000 in
theorem stA4_13 (w : World) : Calls Tryz.prog 112 #[.int .i64 4, .int .i32 13] w fun e w' => e = .returned (.int .i64 5) ∧ w' = w := by
  go_enter Tryz.func112, Tryz.ntmps112
  go_wp2_with fail
  go_ret
  exact ⟨rfl, rfl⟩

set_option maxRecDepth 100000 in
theorem stA4_44 (w : World) : Calls Tryz.prog 112 #[.int .i64 4, .int .i32 44] w fun e w' => e = .returned (.int .i64 1) ∧ w' = w := by
  go_enter Tryz.func112, Tryz.ntmps112
  go_wp2_with fail
  go_ret
  exact ⟨rfl, rfl⟩

set_option maxRecDepth 100000 in
theorem stA4_n (r : Int) (h34 : ¬ r = 34) (h10 : ¬ r = 10) (h13 : ¬ r = 13) (h44 : ¬ r = 44) (w : World) : Calls Tryz.prog 112 #[.int .i64 4, .int .i32 r] w fun e w' => e = .returned (.int .i64 6) ∧ w' = w := by
  go_enter Tryz.func112, Tryz.ntmps112
  go_wp2_with fail
  go_ret
  exact ⟨rfl, rfl⟩

set_option maxRecDepth 100000 in
theorem stA5_10 (w : World) : Calls Tryz.prog 112 #[.int .i64 5, .int .i32 10] w fun e w' => e = .returned (.int .i64 0) ∧ w' = w := by
  go_enter Tryz.func112, Tryz.ntmps112
  go_wp2_with fail
  go_ret
  exact ⟨rfl, rfl⟩

set_option maxRecDepth 100000 in
theorem stA5_n (r : Int) (h10 : ¬ r = 10) (w : World) : Calls Tryz.prog 112 #[.int .i64 5, .int .i32 r] w fun e w' => e = .returned (.int .i64 6) ∧ w' = w := by
  go_enter Tryz.func112, Tryz.ntmps112
  go_wp2_with fail
  go_ret
  exact ⟨rfl, rfl⟩

/-- THE STATE BEHIND A RUNE. -/
theorem stateAfter (q : Nat) (hq : q < 6) (r : Int) (w : World) : Calls Tryz.prog 112 #[.int .i64 q, .int .i32 r] w fun e w' => e = .returned (.int .i64 (st7R q r)) ∧ w' = w := by
  have hc : q = 0 ∨ q = 1 ∨ q = 2 ∨ q = 3 ∨ q = 4 ∨ q = 5 := by omega
  rcases hc with rfl | rfl | rfl | rfl | rfl | rfl
  · show Calls Tryz.prog 112 #[.int .i64 0, .int .i32 r] w fun e w' => e = .returned (.int .i64 (st7R 0 r)) ∧ w' = w
    by_cases h34 : r = 34
    · subst h34
      exact stA0_34 w
    by_cases h10 : r = 10
    · subst h10
      exact stA0_10 w
    by_cases h13 : r = 13
    · subst h13
      exact stA0_13 w
    by_cases h44 : r = 44
    · subst h44
      exact stA0_44 w
    rw [show st7R 0 r = 2 by simp [st7R, h34, h10, h13, h44]]
    exact stA0_n r h34 h10 h13 h44 w
  · show Calls Tryz.prog 112 #[.int .i64 1, .int .i32 r] w fun e w' => e = .returned (.int .i64 (st7R 1 r)) ∧ w' = w
    by_cases h34 : r = 34
    · subst h34
      exact stA1_34 w
    by_cases h10 : r = 10
    · subst h10
      exact stA1_10 w
    by_cases h13 : r = 13
    · subst h13
      exact stA1_13 w
    by_cases h44 : r = 44
    · subst h44
      exact stA1_44 w
    rw [show st7R 1 r = 2 by simp [st7R, h34, h10, h13, h44]]
    exact stA1_n r h34 h10 h13 h44 w
  · show Calls Tryz.prog 112 #[.int .i64 2, .int .i32 r] w fun e w' => e = .returned (.int .i64 (st7R 2 r)) ∧ w' = w
    by_cases h34 : r = 34
    · subst h34
      exact stA2_34 w
    by_cases h10 : r = 10
    · subst h10
      exact stA2_10 w
    by_cases h13 : r = 13
    · subst h13
      exact stA2_13 w
    by_cases h44 : r = 44
    · subst h44
      exact stA2_44 w
    rw [show st7R 2 r = 2 by simp [st7R, h34, h10, h13, h44]]
    exact stA2_n r h34 h10 h13 h44 w
  · show Calls Tryz.prog 112 #[.int .i64 3, .int .i32 r] w fun e w' => e = .returned (.int .i64 (st7R 3 r)) ∧ w' = w
    by_cases h34 : r = 34
    · subst h34
      exact stA3_34 w
    rw [show st7R 3 r = 3 by simp [st7R, h34]]
    exact stA3_n r h34 w
  · show Calls Tryz.prog 112 #[.int .i64 4, .int .i32 r] w fun e w' => e = .returned (.int .i64 (st7R 4 r)) ∧ w' = w
    by_cases h34 : r = 34
    · subst h34
      exact stA4_34 w
    by_cases h10 : r = 10
    · subst h10
      exact stA4_10 w
    by_cases h13 : r = 13
    · subst h13
      exact stA4_13 w
    by_cases h44 : r = 44
    · subst h44
      exact stA4_44 w
    rw [show st7R 4 r = 6 by simp [st7R, h34, h10, h13, h44]]
    exact stA4_n r h34 h10 h13 h44 w
  · show Calls Tryz.prog 112 #[.int .i64 5, .int .i32 r] w fun e w' => e = .returned (.int .i64 (st7R 5 r)) ∧ w' = w
    by_cases h10 : r = 10
    · subst h10
      exact stA5_10 w
    rw [show st7R 5 r = 6 by simp [st7R, h10]]
    exact stA5_n r h10 w
end Go.Proofs.YticeagjonfifbaaGreatDoor
