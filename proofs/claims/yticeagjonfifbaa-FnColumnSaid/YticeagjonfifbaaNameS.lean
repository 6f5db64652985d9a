/-
  What the reference says of a name.
-/
import Derived.Test.YticeagjonfifbaaU
import Derived.Test.YticeagjonfifbaaCur
import Derived.Test.YticeagjonfifbaaCfgM
import Derived.WalkKit
import Derived.ProofKit
import Derived.Outline
namespace Go.Proofs.Yticeagjonfifbaa
open Go.RowKit

theorem ret_bool9 {a b : Bool} (h : a = b) : Ending.returned (.bool a) = .returned (.bool b) := by rw [h]
/-- Whether a byte may stand in a name. -/
def lowB (c : UInt8) : Bool := inZ (c.toNat : Int) 97 122 || inZ (c.toNat : Int) 48 57
/-- Whether a text is a name. -/
def nameB (l : List UInt8) : Bool := inZ (l.length : Int) 1 12 && decide (97 ≤ (l.getD 0 0).toNat) && l.all lowB
theorem all_take_succ {l : List UInt8} {k : Nat} {p : UInt8 → Bool} (hk : k < l.length) : (l.take (k + 1)).all p = ((l.take k).all p && p l[k]) := by
  rw [List.take_add_one, List.getElem?_eq_getElem hk, List.all_append]
  simp
theorem all_not {l : List UInt8} {k : Nat} {p : UInt8 → Bool} (hk : k < l.length) (h : p l[k] = false) : l.all p = false := by
  rw [List.all_eq_false]
  exact ⟨l[k], List.getElem_mem hk, by rw [h]; simp⟩

set_option maxRecDepth 100000 in
theorem specIn9 (x lo hi : Int) (w : World) :
    Calls Try.prog 30 #[.int .i64 x, .int .i64 lo, .int .i64 hi] w fun e w' => e = .returned (.bool (inZ x lo hi)) ∧ w = w' := by
  by_cases h1 : lo ≤ x
  · by_cases h2 : x ≤ hi
    · have e : inZ x lo hi = true := inZ_iff.2 ⟨h1, h2⟩
      rw [e]
      go_enter Try.func30, Try.ntmps30
      go_wp2_with fail
      go_ret
      exact ⟨rfl, rfl⟩
    · have e : inZ x lo hi = false := by rw [inZ, decide_eq_false_iff_not]; exact fun h => h2 h.2
      rw [e]
      go_enter Try.func30, Try.ntmps30
      go_wp2_with fail
      go_ret
      exact ⟨rfl, rfl⟩
  · have e : inZ x lo hi = false := by rw [inZ, decide_eq_false_iff_not]; exact fun h => h1 h.1
    rw [e]
    go_enter Try.func30, Try.ntmps30
    go_wp2_with fail
    go_ret
    exact ⟨rfl, rfl⟩

set_option maxRecDepth 100000 in
set_option maxHeartbeats 1000000 in
theorem specName_long (s : ByteArray) (w : World) (_hsz : s.size ≤ 9223372036854775807) (h : inZ (s.size : Int) 1 12 = false) :
    Calls Try.prog 14 #[.string s] w fun e w' => e = .returned (.bool false) ∧ ∃ k, w' = w.drewN k := by
  go_enter Try.func14, Try.ntmps14
  go_wp2_with fail
  refine (specIn9 _ _ _ _).mono ?_
  rintro e w1 ⟨rfl, rfl⟩
  rw [h]
  go_wp2_with fail
  go_ret
  exact ⟨rfl, 0, rfl⟩

set_option maxRecDepth 100000 in
set_option maxHeartbeats 1000000 in
theorem specName_head (s : ByteArray) (w : World) (hsz : s.size ≤ 12) (h0 : 0 < s.size) (h : s[0].toNat < 97) :
    Calls Try.prog 14 #[.string s] w fun e w' => e = .returned (.bool false) ∧ ∃ k, w' = w.drewN k := by
  have hin : inZ (s.size : Int) 1 12 = true := inZ_iff.2 ⟨by omega, by omega⟩
  have hk0 : (0 : Int) < s.size := by omega
  have hc : (s[0].toNat : Int) < 97 := by omega
  go_enter Try.func14, Try.ntmps14
  go_wp2_with fail
  refine (specIn9 _ _ _ _).mono ?_
  rintro e w1 ⟨rfl, rfl⟩
  rw [hin]
  go_wp2_with fail
  go_ret
  exact ⟨rfl, 0, rfl⟩
set_option maxRecDepth 100000 in
set_option maxHeartbeats 1000000 in
theorem specName_walk (s : ByteArray) (w : World) (hsz : s.size ≤ 12) (h0 : 0 < s.size) (h : 97 ≤ s[0].toNat) (r : Bool) (hr : Hid (s.data.toList.all lowB = r)) :
    Calls Try.prog 14 #[.string s] w fun e w' => e = .returned (.bool r) ∧ ∃ k, w' = w.drewN k := by
  have hln : s.data.toList.length = s.size := (Lib.size_eq s).symm
  have hin : inZ (s.size : Int) 1 12 = true := inZ_iff.2 ⟨by omega, by omega⟩
  have hk0 : (0 : Int) < s.size := by omega
  have hc : ¬ (s[0].toNat : Int) < 97 := by omega
  go_enter Try.func14, Try.ntmps14
  go_wp2_with fail
  refine (specIn9 _ _ _ _).mono ?_
  rintro e w1 ⟨rfl, rfl⟩
  rw [hin]
  go_wp2_with fail
  go_loop [3] (fun i => ∃ (k : Nat), k ≤ s.size ∧ i = .int .i64 k ∧ (s.data.toList.take k).all lowB = true) (fun i => s.size - (intOf i).toNat)
  case atStart => exact ⟨0, Nat.zero_le _, rfl, by simp⟩
  case round =>
    obtain ⟨k, hk, rfl, hI⟩ := hrel
    have HI := Lib.hid hI
    clear hI hc hin
    by_cases hlt : k < s.size
    · have hk1 : (k : Int) < s.size := by omega
      have hkk : (0 : Int) ≤ k := by omega
      have hkl : k < s.data.toList.length := by omega
      have hat : s.data.toList[k] = s[k] := by simp; rfl
      have hwk : wrap64 (s[k].toNat : Int) = s[k].toNat := by
        have := s[k].toNat_lt
        unfold wrap64
        omega
      have HT := Lib.hid (all_take_succ (p := lowB) hkl)
      have HN := Lib.hid (all_not (p := lowB) hkl)
      rw [hat] at HT HN
      clear hat
      by_cases h1 : inZ (s[k].toNat : Int) 97 122 = true
      · have HL : Hid (lowB s[k] = true) := Lib.hid (by rw [lowB, h1]; rfl)
        go_wp2_with fail
        refine (specIn9 _ _ _ _).mono ?_
        rintro e w1 ⟨rfl, rfl⟩
        rw [h1]
        go_wp2_with fail
        go_round
        case rel => exact ⟨k + 1, by omega, by go_num, by rw [HT.out, HI.out, HL.out]; rfl⟩
        case measure => simp [intOf]; omega
      · have h1f : inZ (s[k].toNat : Int) 97 122 = false := by simpa using h1
        go_wp2_with fail
        refine (specIn9 _ _ _ _).mono ?_
        rintro e w1 ⟨rfl, rfl⟩
        rw [h1f]
        by_cases h2 : inZ (s[k].toNat : Int) 48 57 = true
        · have HL : Hid (lowB s[k] = true) := Lib.hid (by rw [lowB, h2]; simp)
          go_wp2_with fail
          refine (specIn9 _ _ _ _).mono ?_
          rintro e w1 ⟨rfl, rfl⟩
          rw [h2]
          go_wp2_with fail
          go_round
          case rel => exact ⟨k + 1, by omega, by go_num, by rw [HT.out, HI.out, HL.out]; rfl⟩
          case measure => simp [intOf]; omega
        · have h2f : inZ (s[k].toNat : Int) 48 57 = false := by simpa using h2
          have HL : Hid (lowB s[k] = false) := Lib.hid (by rw [lowB, h1f, h2f]; rfl)
          go_wp2_with fail
          refine (specIn9 _ _ _ _).mono ?_
          rintro e w1 ⟨rfl, rfl⟩
          rw [h2f]
          go_wp2_with fail
          go_ret
          exact ⟨ret_bool9 ((HN.out HL.out).symm.trans hr.out), 0, rfl⟩
    · obtain rfl : k = s.size := by omega
      have hk1 : ¬ (s.size : Int) < s.size := by omega
      go_wp2_with fail
      go_ret
      have h2 := HI.out
      have e : s.data.toList.take s.size = s.data.toList := List.take_of_length_le (by omega)
      rw [e] at h2
      exact ⟨ret_bool9 (h2.symm.trans hr.out), 0, rfl⟩

/-- WHETHER A TEXT IS A NAME. -/
theorem specName (s : ByteArray) (w : World) (hsz : s.size ≤ 9223372036854775807) :
    Calls Try.prog 14 #[.string s] w fun e w' => e = .returned (.bool (nameB s.data.toList)) ∧ ∃ k, w' = w.drewN k := by
  have hln : s.data.toList.length = s.size := (Lib.size_eq s).symm
  by_cases h : inZ (s.size : Int) 1 12 = true
  · have hr := inZ_iff.1 h
    have h0 : 0 < s.size := by omega
    have hg : s.data.toList.getD 0 0 = s[0] := by
      rw [List.getD_eq_getElem?_getD, List.getElem?_eq_getElem (by omega)]
      simp
      rfl
    by_cases hc : 97 ≤ s[0].toNat
    · have e : nameB s.data.toList = s.data.toList.all lowB := by rw [nameB, hln, h, hg]; simp [hc]
      rw [e]
      exact specName_walk s w (by omega) h0 hc _ rfl
    · have e : nameB s.data.toList = false := by rw [nameB, hln, h, hg]; simp [hc]
      rw [e]
      exact specName_head s w (by omega) h0 (by omega)
  · have hf : inZ (s.size : Int) 1 12 = false := by simpa using h
    have e : nameB s.data.toList = false := by rw [nameB, hln, hf]; rfl
    rw [e]
    exact specName_long s w hsz hf
end Go.Proofs.Yticeagjonfifbaa
