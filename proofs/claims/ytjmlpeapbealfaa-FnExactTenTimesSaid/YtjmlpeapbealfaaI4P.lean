
/-
  A string without the minus that it may begin with: the library's way.
-/
import Derived.Test.YtjmlpeapbealfaaCur
namespace Go.Proofs.Ytjmlpeapbealfaa
open Go.RowKit

set_option maxRecDepth 100000 in
theorem hasMinus_no (s : ByteArray) (h : s.size < 1) (w : World) :
    Calls Try.prog 82 #[.string s, .string ⟨#[45]⟩] w fun e w' => e = .returned (.bool false) ∧ w' = w := by
  go_enter Try.func82, Try.ntmps82
  go_wp2_with fail
  go_ret
  exact ⟨rfl, rfl⟩
set_option maxRecDepth 100000 in
theorem hasMinus_one (s : ByteArray) (h : ¬ s.size < 1) (w : World) :
    Calls Try.prog 82 #[.string s, .string ⟨#[45]⟩] w fun e w' => e = .returned (.bool ((s.extract 0 1).toList == [45])) ∧ w' = w := by
  go_enter Try.func82, Try.ntmps82
  go_wp2_with fail
  go_ret
  exact ⟨rfl, rfl⟩
set_option maxRecDepth 100000 in
theorem cutPre_no (s : ByteArray) (h : ((s.extract 0 1).toList == [45]) = false) (h1 : ¬ s.size < 1) (w : World) :
    Calls Try.prog 77 #[.string s, .string ⟨#[45]⟩] w fun e w' => e = .returned (.tuple #[.string s, .bool false]) ∧ w' = w := by
  go_enter Try.func77, Try.ntmps77
  go_wp2_with fail
  refine (hasMinus_one s h1 _).mono ?_
  rintro e w1 ⟨rfl, rfl⟩
  rw [h]
  go_wp2_with fail
  go_ret2
  exact ⟨rfl, rfl⟩
set_option maxRecDepth 100000 in
theorem cutPre_yes (s : ByteArray) (h : ((s.extract 0 1).toList == [45]) = true) (h1 : ¬ s.size < 1) (w : World) :
    Calls Try.prog 77 #[.string s, .string ⟨#[45]⟩] w fun e w' => e = .returned (.tuple #[.string (s.extract 1 s.size), .bool true]) ∧ w' = w := by
  go_enter Try.func77, Try.ntmps77
  go_wp2_with fail
  refine (hasMinus_one s h1 _).mono ?_
  rintro e w1 ⟨rfl, rfl⟩
  rw [h]
  go_wp2_with fail
  go_ret2
  exact ⟨rfl, rfl⟩
set_option maxRecDepth 100000 in
theorem cutPre_nil (s : ByteArray) (h1 : s.size < 1) (w : World) :
    Calls Try.prog 77 #[.string s, .string ⟨#[45]⟩] w fun e w' => e = .returned (.tuple #[.string s, .bool false]) ∧ w' = w := by
  go_enter Try.func77, Try.ntmps77
  go_wp2_with fail
  refine (hasMinus_no s h1 _).mono ?_
  rintro e w1 ⟨rfl, rfl⟩
  go_wp2_with fail
  go_ret2
  exact ⟨rfl, rfl⟩
set_option maxRecDepth 100000 in
theorem cutPrefix_of (s : ByteArray) (r : ByteArray) (b : Bool) (w : World) (h : Calls Try.prog 77 #[.string s, .string ⟨#[45]⟩] w fun e w' => e = .returned (.tuple #[.string r, .bool b]) ∧ w' = w) :
    Calls Try.prog 61 #[.string s, .string ⟨#[45]⟩] w fun e w' => e = .returned (.tuple #[.string r, .bool b]) ∧ w' = w := by
  go_enter Try.func61, Try.ntmps61
  go_wp2_with fail
  refine h.mono ?_
  rintro e w1 ⟨rfl, rfl⟩
  go_wp2_with fail
  go_ret2
  exact ⟨rfl, rfl⟩
/-- It begins with a minus. -/
theorem cutMinus_yes (s : ByteArray) (l : List UInt8) (h : s.data.toList = 45 :: l) (w : World) :
    Calls Try.prog 61 #[.string s, .string ⟨#[45]⟩] w fun e w' => e = .returned (.tuple #[.string ⟨l.toArray⟩, .bool true]) ∧ w' = w := by
  obtain ⟨⟨d⟩⟩ := s
  replace h : d = 45 :: l := h
  subst h
  have e1 : (ByteArray.mk ⟨45 :: l⟩).extract 1 (ByteArray.mk ⟨45 :: l⟩).size = ⟨l.toArray⟩ := by
    apply ByteArray.ext
    simp [ByteArray.size]
  rw [← e1]
  exact cutPrefix_of _ _ _ w (cutPre_yes _ (by simp [ByteArray.toList_eq]) (by simp [ByteArray.size]) w)
/-- It does not. -/
theorem cutMinus_no (s : ByteArray) (h : s.data.toList.head? ≠ some 45) (w : World) :
    Calls Try.prog 61 #[.string s, .string ⟨#[45]⟩] w fun e w' => e = .returned (.tuple #[.string s, .bool false]) ∧ w' = w := by
  by_cases h1 : s.size < 1
  · exact cutPrefix_of _ _ _ w (cutPre_nil s h1 w)
  · refine cutPrefix_of _ _ _ w (cutPre_no s ?_ h1 w)
    obtain ⟨⟨d⟩⟩ := s
    cases d with
    | nil => simp [ByteArray.size] at h1
    | cons c r => simp [ByteArray.toList_eq] at h ⊢; exact h
end Go.Proofs.Ytjmlpeapbealfaa
