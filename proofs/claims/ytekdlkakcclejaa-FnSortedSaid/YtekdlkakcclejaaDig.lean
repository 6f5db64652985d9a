/-
  What spec.Digits answers, at every integer.
-/
import Derived.Test.YtekdlkakcclejaaRows
import Derived.WalkKit
import Derived.ProofKit
import Derived.Outline
import Derived.Lib.Hide
import Derived.Lib.ItoaLen
import Derived.Lib.ItoaMem
namespace Go.Proofs.Ytekdlkakcclejaa
open Go.RowKit

/-- What the loop has written (o) and what is left of u (v). -/
def DigInv (u v : Nat) (o : List UInt8) : Prop := (v = 0 ∧ u ≠ 0 ∧ o = Lib.decDigits u) ∨ (v ≠ 0 ∧ Lib.decDigits u = Lib.decDigits v ++ o)

theorem digInv_start {u : Nat} (h : u ≠ 0) : DigInv u u [] := Or.inr ⟨h, by simp⟩

theorem digInv_step {u v : Nat} {o : List UInt8} (h : DigInv u v o) (hv : v ≠ 0) : DigInv u (v / 10) (UInt8.ofNat (48 + v % 10) :: o) := by
  rcases h with ⟨h0, _, _⟩ | ⟨_, h⟩
  · exact absurd h0 hv
  · by_cases hs : v < 10
    · have hu : u ≠ 0 := by
        rintro rfl
        rw [Lib.decDigits_one (by omega : 0 < 10), Lib.decDigits_one hs] at h
        have hl := congrArg List.length h
        simp at hl
        subst hl
        simp at h
        have := congrArg UInt8.toNat h
        simp at this
        omega
      refine Or.inl ⟨by omega, hu, ?_⟩
      rw [h, Lib.decDigits_one hs, Nat.mod_eq_of_lt hs]
      rfl
    · refine Or.inr ⟨by omega, ?_⟩
      rw [h, Lib.decDigits, dif_neg hs]
      simp

theorem digInv_len {u v : Nat} {o : List UInt8} (h : DigInv u v o) : o.length ≤ (Lib.decDigits u).length := by
  rcases h with ⟨_, _, rfl⟩ | ⟨_, h⟩
  · exact Nat.le_refl _
  · rw [h]; simp

theorem decDigits_len {u : Nat} (h : u ≤ 9223372036854775808) : (Lib.decDigits u).length ≤ 22 := by
  by_cases h1 : u ≤ 9223372036854775807
  · have := Lib.itoa_length_le u (by omega) (by omega)
    rw [Lib.itoa_nonneg] at this
    omega
  · obtain rfl : u = 9223372036854775808 := by omega
    have := Lib.itoa_length_le (-(9223372036854775808 : Nat)) (by omega) (by omega)
    rw [Lib.itoa_neg _ (by omega)] at this
    simp at this ⊢
    omega
end Go.Proofs.Ytekdlkakcclejaa
