/-
  What a line lays, whatever its key: the reference's way.
-/
import Derived.Test.YtnnbhgnllbjmeaaDoorCfgE
import Derived.Test.YtnnbhgnllbjmeaaDoorCfgL
namespace Go.Proofs.YtnnbhgnllbjmeaaDoor
open Go.RowKit

/-- What the laying of a line answers. -/
def LayPost (B : Nat) (C : Cfg) (k : Nat) (l : List UInt8) (e : Ending) (w' : World) : Prop :=
  ∃ D c v, layV C k l = (D, c) ∧ e = .returned (.tuple #[cfgV D v, .int .i64 (c : Nat)]) ∧ w'.ownsRow B 3 1 v D.s.length (intCells D.s)
theorem layV_num {C : Cfg} {k : Nat} {l : List UInt8} (hk : k < 5) {z : Int} (hz : numV l = some z) : layV C k l = (setC k z C, if inZ z (leastC k) (mostC k) = true then 0 else 13) := by
  rw [layV, if_neg (by omega), if_neg (by omega), hz]
theorem specLay (C : Cfg) (u : Value) (k : Nat) (hk : k < 7) (s : ByteArray) (hs : s.size ≤ 1048576) (w : World) (B : Nat) (hB0 : B ≤ w.heap.size) (h : w.ownsRow B 3 1 u C.s.length (intCells C.s)) :
    Calls Tryd.prog 32 #[cfgV C u, .int .i64 k, .string s] w fun e w' => LayPost B C k s.data.toList e w' ∧ Below w.heap.size w w' := by
  obtain ⟨a, c, rfl⟩ := ownsI_form h
  by_cases h6 : k = 6
  · subst h6
    cases hz : signsV s.data.toList with
    | some zs => exact (specLay_s C a _ c s hs zs (Lib.hid hz) w).mono fun e w' ⟨⟨v, he, hr⟩, hB⟩ => ⟨⟨{ C with s := zs }, 0, v, by rw [layV, if_pos rfl, hz], he, hr.mono hB0⟩, hB⟩
    | none => exact (specLay_sn C a _ c s hs (Lib.hid hz) w).mono fun e w' ⟨⟨v, he, hr⟩, hB⟩ => ⟨⟨{ C with s := [] }, 14, v, by rw [layV, if_pos rfl, hz], he, hr.mono hB0⟩, hB⟩
  · by_cases h5 : k = 5
    · subst h5
      obtain ⟨n0, d0, c0, hz⟩ : ∃ n d c, rateV s.data.toList = (n, d, c) := ⟨_, _, _, rfl⟩
      exact (specLay_r C a _ c s hs n0 d0 c0 (Lib.hid hz) w).mono fun e w' ⟨he, hB⟩ => ⟨⟨{ C with n := n0, e := d0 }, c0, _, by rw [layV, if_neg (by omega), if_pos rfl, hz], he, ownsI_below h hB⟩, hB⟩
    · have hk5 : k < 5 := by omega
      cases hz : numV s.data.toList with
      | none => exact (specLay_nn C a _ c k hk5 s (Lib.hid hz) w).mono fun e w' ⟨he, hB⟩ => ⟨⟨C, 12, _, by rw [layV, if_neg h6, if_neg h5, hz], he, ownsI_below h hB⟩, hB⟩
      | some z =>
        have hi := (numV_is hz).2
        have hl := layV_num (C := C) hk5 hz
        rcases Bool.eq_false_or_eq_true (inZ z (leastC k) (mostC k)) with hin | hin
        · rw [if_pos hin] at hl
          rcases (by omega : k = 0 ∨ k = 1 ∨ k = 2 ∨ k = 3 ∨ k = 4) with rfl | rfl | rfl | rfl | rfl
          · exact (specLay_n0y C a _ c s z hi.1 hi.2 (Lib.hid hz) (Lib.hid hin) w).mono fun e w' ⟨he, hB⟩ => ⟨⟨_, 0, _, hl, he, ownsI_below h hB⟩, hB⟩
          · exact (specLay_n1y C a _ c s z hi.1 hi.2 (Lib.hid hz) (Lib.hid hin) w).mono fun e w' ⟨he, hB⟩ => ⟨⟨_, 0, _, hl, he, ownsI_below h hB⟩, hB⟩
          · exact (specLay_n2y C a _ c s z hi.1 hi.2 (Lib.hid hz) (Lib.hid hin) w).mono fun e w' ⟨he, hB⟩ => ⟨⟨_, 0, _, hl, he, ownsI_below h hB⟩, hB⟩
          · exact (specLay_n3y C a _ c s z hi.1 hi.2 (Lib.hid hz) (Lib.hid hin) w).mono fun e w' ⟨he, hB⟩ => ⟨⟨_, 0, _, hl, he, ownsI_below h hB⟩, hB⟩
          · exact (specLay_n4y C a _ c s z hi.1 hi.2 (Lib.hid hz) (Lib.hid hin) w).mono fun e w' ⟨he, hB⟩ => ⟨⟨_, 0, _, hl, he, ownsI_below h hB⟩, hB⟩
        · rw [if_neg (by rw [hin]; decide)] at hl
          rcases (by omega : k = 0 ∨ k = 1 ∨ k = 2 ∨ k = 3 ∨ k = 4) with rfl | rfl | rfl | rfl | rfl
          · exact (specLay_n0n C a _ c s z hi.1 hi.2 (Lib.hid hz) (Lib.hid hin) w).mono fun e w' ⟨he, hB⟩ => ⟨⟨_, 13, _, hl, he, ownsI_below h hB⟩, hB⟩
          · exact (specLay_n1n C a _ c s z hi.1 hi.2 (Lib.hid hz) (Lib.hid hin) w).mono fun e w' ⟨he, hB⟩ => ⟨⟨_, 13, _, hl, he, ownsI_below h hB⟩, hB⟩
          · exact (specLay_n2n C a _ c s z hi.1 hi.2 (Lib.hid hz) (Lib.hid hin) w).mono fun e w' ⟨he, hB⟩ => ⟨⟨_, 13, _, hl, he, ownsI_below h hB⟩, hB⟩
          · exact (specLay_n3n C a _ c s z hi.1 hi.2 (Lib.hid hz) (Lib.hid hin) w).mono fun e w' ⟨he, hB⟩ => ⟨⟨_, 13, _, hl, he, ownsI_below h hB⟩, hB⟩
          · exact (specLay_n4n C a _ c s z hi.1 hi.2 (Lib.hid hz) (Lib.hid hin) w).mono fun e w' ⟨he, hB⟩ => ⟨⟨_, 13, _, hl, he, ownsI_below h hB⟩, hB⟩
end Go.Proofs.YtnnbhgnllbjmeaaDoor
