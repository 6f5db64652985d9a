/-
  What spec.Digits answers, at every integer: the walk.
-/
import Derived.Test.YticeagjonfifbaaGreatDoorPk1
namespace Go.Proofs.YticeagjonfifbaaGreatDoor
open Go.RowKit

theorem ret_str {a b : List UInt8} (h : a = b) : Ending.returned (.string ⟨a.toArray⟩) = .returned (.string ⟨b.toArray⟩) := by rw [h]
theorem ret_add {a b : ByteArray} {c : List UInt8} (h : a ++ b = ⟨c.toArray⟩) : Ending.returned (.string (a ++ b)) = .returned (.string ⟨c.toArray⟩) := by rw [h]
theorem digInv_done {u v : Nat} {l : List UInt8} (h : DigInv u v l) (hv : v = 0) : l = Lib.decDigits u := by
  rcases h with ⟨_, _, h⟩ | ⟨h, _⟩
  · exact h
  · exact absurd hv h

set_option maxRecDepth 100000 in
set_option maxHeartbeats 400000 in
theorem specDigits_pos (u : Nat) (hu : u ≠ 0) (hb : u ≤ 9223372036854775807) (w : World) :
    Calls Tryz.prog 81 #[.int .i64 u] w fun e w' => e = .returned (.string ⟨(Lib.decDigits u).toArray⟩) ∧ Below w.heap.size w w' := by
  have hz : ((u : Int) == 0) = false := by simpa using hu
  go_enter Tryz.func81, Tryz.ntmps81
  go_wp2
  go_loopw [0, 4, 5] (fun n o d wr => ∃ (v : Nat) (l : List UInt8), v ≤ u ∧ n = .int .i64 v ∧ o = .string ⟨l.toArray⟩ ∧ DigInv u v l ∧ Below w.heap.size w wr) (fun n _ _ _ => (intOf n).toNat)
  case atStart => exact ⟨u, [], Nat.le_refl _, rfl, rfl, digInv_start hu, Below.refl _ _⟩
  case round =>
    obtain ⟨v, l, hv, rfl, rfl, hI, hB⟩ := hrel
    have hlen := digInv_len hI
    have hdec := decDigits_len (u := u) (by omega)
    by_cases h0 : v = 0
    · have hz0 : ((v : Int) != 0) = false := by simp [h0]
      have hlu : ¬ ((u : Int) < 0) := by omega
      have H0 := Lib.hid h0
      clear h0
      go_wp2
      go_ret
      exact ⟨ret_str (digInv_done hI H0.out), hB⟩
    · have hI2 := digInv_step hI h0
      have kc := conv_one Tryz.underlying22 Tryz.underlying5 Tryz.underlying9 (48 + v % 10) (by omega) (48 + (v : Int) % 10) (by omega) 1
      have hsum : 1 + l.length ≤ 9223372036854775807 := by omega
      go_wp2
      go_roundw
      case rel => exact ⟨v / 10, _, by omega, by go_num, rfl, by simpa using hI2, hB.alloc hB.size _⟩
      case measure => simp [intOf]; omega

set_option maxRecDepth 100000 in
set_option maxHeartbeats 400000 in
theorem specDigits_neg (u : Nat) (hu : u ≠ 0) (hb : u ≤ 9223372036854775808) (w : World) :
    Calls Tryz.prog 81 #[.int .i64 (-(u : Int))] w fun e w' => e = .returned (.string ⟨(45 :: Lib.decDigits u).toArray⟩) ∧ Below w.heap.size w w' := by
  have hz : ((-(u : Int)) == 0) = false := by simpa using hu
  go_enter Tryz.func81, Tryz.ntmps81
  go_wp2
  go_loopw [0, 4, 5] (fun n o d wr => ∃ (v : Nat) (l : List UInt8), v ≤ u ∧ n = .int .i64 (-(v : Int)) ∧ o = .string ⟨l.toArray⟩ ∧ DigInv u v l ∧ Below w.heap.size w wr) (fun n _ _ _ => (- intOf n).toNat)
  case atStart => exact ⟨u, [], Nat.le_refl _, rfl, rfl, digInv_start hu, Below.refl _ _⟩
  case round =>
    obtain ⟨v, l, hv, rfl, rfl, hI, hB⟩ := hrel
    have hlen := digInv_len hI
    have hdec := decDigits_len (u := u) hb
    by_cases h0 : v = 0
    · have hz0 : ((-(v : Int)) != 0) = false := by simp [h0]
      have hlu : (-(u : Int) < 0) := by omega
      have H0 := Lib.hid h0
      clear h0
      have hsum : 1 + l.length ≤ 9223372036854775807 := by omega
      go_wp2
      go_ret
      exact ⟨ret_add (by rw [digInv_done hI H0.out]; rfl), hB⟩
    · have hI2 := digInv_step hI h0
      have hsum : 1 + l.length ≤ 9223372036854775807 := by omega
      by_cases hd : 0 < v % 10
      · have kc := conv_one Tryz.underlying22 Tryz.underlying5 Tryz.underlying9 (48 + v % 10) (by omega) (48 + (v : Int) % 10) (by omega) 1
        go_wp2
        go_roundw
        case rel => exact ⟨v / 10, _, by omega, by go_num, rfl, by simpa using hI2, hB.alloc hB.size _⟩
        case measure => simp [intOf]; omega
      · have kc := conv_one Tryz.underlying22 Tryz.underlying5 Tryz.underlying9 (48 + v % 10) (by omega) (48 + -((v : Int) % 10)) (by omega) 1
        go_wp2
        go_roundw
        case rel => exact ⟨v / 10, _, by omega, by go_num, rfl, by simpa using hI2, hB.alloc hB.size _⟩
        case measure => simp [intOf]; omega
end Go.Proofs.YticeagjonfifbaaGreatDoor
