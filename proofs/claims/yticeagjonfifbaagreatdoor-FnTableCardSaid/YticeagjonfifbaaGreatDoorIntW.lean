/-
  What spec.IntText answers, at every string.
-/
import Derived.Test.YticeagjonfifbaaGreatDoorPk3
import Derived.Test.YticeagjonfifbaaGreatDoorPk1
namespace Go.Proofs.YticeagjonfifbaaGreatDoor
open Go.RowKit

def ItPost (l : List UInt8) (e : Ending) : Prop :=
  (∃ n, IsNum l n ∧ e = .returned (.tuple #[.int .i64 n, .bool true])) ∨ ((∀ n, ¬ IsNum l n) ∧ e = .returned (.tuple #[.int .i64 0, .bool false]))

theorem startOf_pos {s : ByteArray} (h : 0 < s.size) : startOf s.data.toList = if (s[0].toNat) = 45 then 1 else 0 := by
  unfold startOf
  have e : s.data.toList.head? = some s[0] := by
    rw [List.head?_eq_getElem?, Array.getElem?_toList]
    exact Array.getElem?_eq_getElem h
  rw [e]
  simp
theorem at_byte {s : ByteArray} {k : Nat} (h : k < s.size) : s.data.toList[k]? = some s[k] := by
  rw [Array.getElem?_toList]
  exact Array.getElem?_eq_getElem h

theorem tdiv_min (c : Int) (h0 : 48 ≤ c) (h1 : c ≤ 57) : (-9223372036854775808 + (c - 48)).tdiv 10 = -((9223372036854775808 - (c - 48)) / 10) := by
  rw [show (-9223372036854775808 + (c - 48) : Int) = -(9223372036854775808 - (c - 48)) by omega, Int.neg_tdiv, Int.tdiv_eq_ediv_of_nonneg (by omega)]
theorem ovf_yes {v : Nat} {c : Int} (h0 : 48 ≤ c) (h1 : c ≤ 57) (h : 9223372036854775808 < (v : Int) * 10 + (c - 48)) : -(v : Int) < (-9223372036854775808 + (c - 48)).tdiv 10 := by
  rw [tdiv_min c h0 h1]; omega
theorem ovf_no {v : Nat} {c : Int} (h0 : 48 ≤ c) (h1 : c ≤ 57) (h : ¬ 9223372036854775808 < (v : Int) * 10 + (c - 48)) : ¬ -(v : Int) < (-9223372036854775808 + (c - 48)).tdiv 10 := by
  rw [tdiv_min c h0 h1]; omega
theorem itNo {l : List UInt8} (h : ∀ n, ¬ IsNum l n) : ItPost l (.returned (.tuple #[.int .i64 0, .bool false])) := Or.inr ⟨h, rfl⟩
theorem itYes {l : List UInt8} {n : Int} (h : IsNum l n) : ItPost l (.returned (.tuple #[.int .i64 n, .bool true])) := Or.inl ⟨n, h, rfl⟩

theorem strNe {l : List UInt8} {s : ByteArray} (h : l ≠ s.data.toList) : (!(l == s.toList)) = true := by
  rw [ByteArray.toList_eq]; simpa using h
theorem strEq {l : List UInt8} {s : ByteArray} (h : l = s.data.toList) : (!(l == s.toList)) = false := by
  rw [ByteArray.toList_eq]; simpa using h

set_option maxRecDepth 100000 in
set_option maxHeartbeats 1000000 in
theorem specIntText_neg (s : ByteArray) (w : World) (hl0 : 1 ≤ s.size) (hl1 : s.size ≤ 20) (hf : startOf s.data.toList = 1)
    (h45 : ((s[0].toNat : Int) == 45) = true) :
    Calls Tryz.prog 119 #[.string s] w fun e w' => ItPost s.data.toList e ∧ Below w.heap.size w w' := by
  have HF := Lib.hid hf
  clear hf
  have h00 : 0 < s.size := by omega
  have hq1 : decide ((s.size : Int) < 1) = false := by rw [decide_eq_false_iff_not]; omega
  have hq2 : decide ((20 : Int) < s.size) = false := by rw [decide_eq_false_iff_not]; omega
  go_enter Tryz.func119, Tryz.ntmps119
  go_wp2
  go_loop [2, 3, 5, 6, 7] (fun _ _ n i _ => ∃ k v : Nat, k ≤ s.size ∧ i = .int .i64 k ∧ n = .int .i64 (-(v : Int)) ∧ v ≤ 9223372036854775808 ∧ ReadTo s.data.toList k v) (fun _ _ _ i _ => s.size - (intOf i).toNat)
  case atStart =>
    have h := readTo_start s.data.toList
    rw [HF.out] at h
    exact ⟨1, 0, by omega, rfl, by simp, by omega, h⟩
  case round =>
    obtain ⟨k, v, hk, rfl, rfl, hv, hR⟩ := hrel
    by_cases hlt : k < s.size
    · have hat := at_byte hlt
      by_cases hd : isDig s[k]
      · have hd1 : 48 ≤ (s[k].toNat : Int) := by unfold isDig at hd; omega
        have hd2 : (s[k].toNat : Int) ≤ 57 := by unfold isDig at hd; omega
        have HS := Lib.hid (readTo_step hR hat hd)
        by_cases hbig : 9223372036854775808 < (v : Int) * 10 + ((s[k].toNat : Int) - 48)
        · have ht := ovf_yes hd1 hd2 hbig
          clear hat hd
          go_wp2
          go_ret2
          exact ⟨itNo (notNum_big HS.out (by omega)), Below.refl _ _⟩
        · have ht := ovf_no hd1 hd2 hbig
          clear hat hd
          go_wp2
          go_round
          case rel => exact ⟨k + 1, v * 10 + (s[k].toNat - 48), by omega, by go_num, by go_num, by omega, HS.out⟩
          case measure => simp [intOf]; omega
      · have HN := Lib.hid (notNum_byte hR hat hd)
        have hd3 : (s[k].toNat : Int) < 48 ∨ 57 < (s[k].toNat : Int) := by unfold isDig at hd; omega
        clear hat hd
        rcases hd3 with hd3 | hd3
        all_goals
          go_wp2
          go_ret2
          exact ⟨itNo HN.out, Below.refl _ _⟩
    · obtain rfl : k = s.size := by omega
      have HA : Hid (∀ n, IsNum s.data.toList n → n = if startOf s.data.toList = 0 then (v : Int) else -(v : Int)) := fun n hn => readTo_all hR hn
      clear hR
      have hcmp : Hid (∀ n, IsNum s.data.toList n → n = (-(v : Int))) := fun n hn => by
        have h1 := HA.out n hn
        rw [HF.out] at h1
        simpa using h1
      by_cases hnum : Lib.itoa (-(v : Int)) = s.data.toList
      · have HN := Lib.hid hnum
        have hne := strEq hnum
        clear hnum
        go_wp2_with fail
        refine (specDigits (-(v : Int)) (by omega) (by omega) _).mono ?_
        rintro e w1 ⟨rfl, hB⟩
        go_wp2_with fail
        go_ret2
        exact ⟨itYes ⟨by omega, by omega, HN.out⟩, hB⟩
      · have HN := Lib.hid hnum
        have hne := strNe hnum
        clear hnum
        go_wp2_with fail
        refine (specDigits (-(v : Int)) (by omega) (by omega) _).mono ?_
        rintro e w1 ⟨rfl, hB⟩
        go_wp2_with fail
        go_ret2
        exact ⟨itNo fun n hn => HN.out (by rw [← hcmp.out n hn]; exact hn.2.2), hB⟩

set_option maxRecDepth 100000 in
set_option maxHeartbeats 1000000 in
theorem specIntText_pos (s : ByteArray) (w : World) (hl0 : 1 ≤ s.size) (hl1 : s.size ≤ 20) (hf : startOf s.data.toList = 0)
    (h45 : ((s[0].toNat : Int) == 45) = false) :
    Calls Tryz.prog 119 #[.string s] w fun e w' => ItPost s.data.toList e ∧ Below w.heap.size w w' := by
  have HF := Lib.hid hf
  clear hf
  have h00 : 0 < s.size := by omega
  have hq1 : decide ((s.size : Int) < 1) = false := by rw [decide_eq_false_iff_not]; omega
  have hq2 : decide ((20 : Int) < s.size) = false := by rw [decide_eq_false_iff_not]; omega
  go_enter Tryz.func119, Tryz.ntmps119
  go_wp2
  go_loop [2, 3, 5, 6, 7] (fun _ _ n i _ => ∃ k v : Nat, k ≤ s.size ∧ i = .int .i64 k ∧ n = .int .i64 (-(v : Int)) ∧ v ≤ 9223372036854775808 ∧ ReadTo s.data.toList k v) (fun _ _ _ i _ => s.size - (intOf i).toNat)
  case atStart =>
    have h := readTo_start s.data.toList
    rw [HF.out] at h
    exact ⟨0, 0, by omega, rfl, by simp, by omega, h⟩
  case round =>
    obtain ⟨k, v, hk, rfl, rfl, hv, hR⟩ := hrel
    by_cases hlt : k < s.size
    · have hat := at_byte hlt
      by_cases hd : isDig s[k]
      · have hd1 : 48 ≤ (s[k].toNat : Int) := by unfold isDig at hd; omega
        have hd2 : (s[k].toNat : Int) ≤ 57 := by unfold isDig at hd; omega
        have HS := Lib.hid (readTo_step hR hat hd)
        by_cases hbig : 9223372036854775808 < (v : Int) * 10 + ((s[k].toNat : Int) - 48)
        · have ht := ovf_yes hd1 hd2 hbig
          clear hat hd
          go_wp2
          go_ret2
          exact ⟨itNo (notNum_big HS.out (by omega)), Below.refl _ _⟩
        · have ht := ovf_no hd1 hd2 hbig
          clear hat hd
          go_wp2
          go_round
          case rel => exact ⟨k + 1, v * 10 + (s[k].toNat - 48), by omega, by go_num, by go_num, by omega, HS.out⟩
          case measure => simp [intOf]; omega
      · have HN := Lib.hid (notNum_byte hR hat hd)
        have hd3 : (s[k].toNat : Int) < 48 ∨ 57 < (s[k].toNat : Int) := by unfold isDig at hd; omega
        clear hat hd
        rcases hd3 with hd3 | hd3
        all_goals
          go_wp2
          go_ret2
          exact ⟨itNo HN.out, Below.refl _ _⟩
    · obtain rfl : k = s.size := by omega
      have HA : Hid (∀ n, IsNum s.data.toList n → n = if startOf s.data.toList = 0 then (v : Int) else -(v : Int)) := fun n hn => readTo_all hR hn
      clear hR
      by_cases h63 : v = 9223372036854775808
      · have hb : (-(v : Int) == -9223372036854775808) = true := by rw [h63]; rfl
        have H63 := Lib.hid h63
        clear h63
        go_wp2_with fail
        go_ret2
        refine ⟨itNo fun n hn => ?_, Below.refl _ _⟩
        have h1 := HA.out n hn
        rw [HF.out, if_pos rfl] at h1
        have h2 := hn.2.1
        have h3 := H63.out
        omega
      have hb : (-(v : Int) == -9223372036854775808) = false := by rw [beq_eq_false_iff_ne]; omega
      have hv1 : v ≤ 9223372036854775807 := by omega
      clear h63
      have hcmp : Hid (∀ n, IsNum s.data.toList n → n = (v : Int)) := fun n hn => by
        have h1 := HA.out n hn
        rw [HF.out] at h1
        simpa using h1
      by_cases hnum : Lib.itoa (v : Int) = s.data.toList
      · have HN := Lib.hid hnum
        have hne := strEq hnum
        clear hnum
        go_wp2_with fail
        refine (specDigits (v : Int) (by omega) (by omega) _).mono ?_
        rintro e w1 ⟨rfl, hB⟩
        go_wp2_with fail
        go_ret2
        exact ⟨itYes ⟨by omega, by omega, HN.out⟩, hB⟩
      · have HN := Lib.hid hnum
        have hne := strNe hnum
        clear hnum
        go_wp2_with fail
        refine (specDigits (v : Int) (by omega) (by omega) _).mono ?_
        rintro e w1 ⟨rfl, hB⟩
        go_wp2_with fail
        go_ret2
        exact ⟨itNo fun n hn => HN.out (by rw [← hcmp.out n hn]; exact hn.2.2), hB⟩
theorem itLen {l : List UInt8} (h : l.length < 1 ∨ 20 < l.length) : ∀ n, ¬ IsNum l n := fun n hn => by
  have := (isNum_parts hn).2.2.2.2
  omega

set_option maxRecDepth 100000 in
theorem specIntText_short (s : ByteArray) (w : World) (h : s.size < 1) :
    Calls Tryz.prog 119 #[.string s] w fun e w' => ItPost s.data.toList e ∧ Below w.heap.size w w' := by
  go_enter Tryz.func119, Tryz.ntmps119
  go_wp2
  go_ret2
  exact ⟨itNo (itLen (Or.inl (by simpa using h))), Below.refl _ _⟩
set_option maxRecDepth 100000 in
theorem specIntText_long (s : ByteArray) (w : World) (h : 20 < s.size) :
    Calls Tryz.prog 119 #[.string s] w fun e w' => ItPost s.data.toList e ∧ Below w.heap.size w w' := by
  have hz : ¬ ((s.size : Int) < 1) := by omega
  go_enter Tryz.func119, Tryz.ntmps119
  go_wp2
  go_ret2
  exact ⟨itNo (itLen (Or.inr (by simpa using h))), Below.refl _ _⟩

theorem specIntText (s : ByteArray) (w : World) :
    Calls Tryz.prog 119 #[.string s] w fun e w' => ItPost s.data.toList e ∧ Below w.heap.size w w' := by
  by_cases h1 : s.size < 1
  · exact specIntText_short s w h1
  by_cases h2 : 20 < s.size
  · exact specIntText_long s w h2
  have h0 : 0 < s.size := by omega
  have hs := startOf_pos h0
  by_cases h45 : s[0].toNat = 45
  · rw [if_pos h45] at hs
    exact specIntText_neg s w (by omega) (by omega) hs (by rw [h45]; rfl)
  · rw [if_neg h45] at hs
    exact specIntText_pos s w (by omega) (by omega) hs (by rw [beq_eq_false_iff_ne]; omega)
end Go.Proofs.YticeagjonfifbaaGreatDoor
