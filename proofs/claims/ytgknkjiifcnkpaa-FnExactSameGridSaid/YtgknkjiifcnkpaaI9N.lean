/-
  Whether a text is a name, the program's way.
-/
import Derived.Test.YtgknkjiifcnkpaaPk4
import Derived.Laws.Runes
import Derived.Laws.RangeAny
import Derived.Lib.OthersKept
import Derived.WalkMore
import Derived.Deep.LoopGhost
namespace Go.Proofs.Ytgknkjiifcnkpaa
open Go.RowKit

theorem inZ_le9 {x lo hi : Int} (h : lo ≤ x) : inZ x lo hi = decide (x ≤ hi) := by simp [inZ, h]
theorem inZ_gt9 {x lo hi : Int} (h : ¬ lo ≤ x) : inZ x lo hi = false := by simp [inZ, h]
set_option maxRecDepth 100000 in
theorem inRange9 (x lo hi : Int) (w : World) :
    Calls Try.prog 44 #[.int .i64 x, .int .i64 lo, .int .i64 hi] w fun e w' => e = .returned (.bool (inZ x lo hi)) ∧ w = w' := by
  by_cases h : lo ≤ x
  · have HE := Lib.hid (inZ_le9 (hi := hi) h)
    go_enter Try.func44, Try.ntmps44
    go_wp2_with fail
    go_ret
    exact ⟨ret_bool9 HE.out.symm, rfl⟩
  · have HE := Lib.hid (inZ_gt9 (hi := hi) h)
    go_enter Try.func44, Try.ntmps44
    go_wp2_with fail
    go_ret
    exact ⟨ret_bool9 HE.out.symm, rfl⟩
set_option maxRecDepth 100000 in
theorem isLetter9 (x : Int) (w : World) :
    Calls Try.prog 115 #[.int .i32 x] w fun e w' => e = .returned (.bool (inZ x 97 122)) ∧ w = w' := by
  by_cases h : 97 ≤ x
  · have HE := Lib.hid (inZ_le9 (hi := 122) h)
    go_enter Try.func115, Try.ntmps115
    go_wp2_with fail
    go_ret
    exact ⟨ret_bool9 HE.out.symm, rfl⟩
  · have HE := Lib.hid (inZ_gt9 (hi := 122) h)
    go_enter Try.func115, Try.ntmps115
    go_wp2_with fail
    go_ret
    exact ⟨ret_bool9 HE.out.symm, rfl⟩
/-- Whether a rune may stand in a name. -/
def lowR (x : Int) : Bool := inZ x 97 122 || inZ x 48 57
set_option maxRecDepth 100000 in
theorem notInName9 (x : Int) (w : World) :
    Calls Try.prog 117 #[.int .i32 x] w fun e w' => e = .returned (.bool (!lowR x)) ∧ w = w' := by
  cases hl : inZ x 97 122 with
  | true =>
    have HE : Hid (lowR x = true) := Lib.hid (by rw [lowR, hl]; rfl)
    go_enter Try.func117, Try.ntmps117
    go_wp2_with fail
    refine (isLetter9 _ _).mono ?_
    rintro e w1 ⟨rfl, rfl⟩
    rw [hl]
    go_wp2_with fail
    go_ret
    exact ⟨ret_bool9 (by rw [HE.out]; rfl), rfl⟩
  | false =>
    by_cases h1 : x < 48
    · have HE : Hid (lowR x = false) := Lib.hid (by rw [lowR, hl, inZ_gt9 (by omega)]; rfl)
      go_enter Try.func117, Try.ntmps117
      go_wp2_with fail
      refine (isLetter9 _ _).mono ?_
      rintro e w1 ⟨rfl, rfl⟩
      rw [hl]
      go_wp2_with fail
      go_ret
      exact ⟨ret_bool9 (by rw [HE.out]; rfl), rfl⟩
    · have HE : Hid (lowR x = decide (x ≤ 57)) := Lib.hid (by rw [lowR, hl, inZ_le9 (by omega)]; rfl)
      go_enter Try.func117, Try.ntmps117
      go_wp2_with fail
      refine (isLetter9 _ _).mono ?_
      rintro e w1 ⟨rfl, rfl⟩
      rw [hl]
      by_cases h2 : x ≤ 57
      · have h3 : ¬ 57 < x := by omega
        go_wp2_with fail
        go_ret
        exact ⟨ret_bool9 (by rw [HE.out, decide_eq_true h2]; simp; omega), rfl⟩
      · have h3 : 57 < x := by omega
        go_wp2_with fail
        go_ret
        exact ⟨ret_bool9 (by rw [HE.out, decide_eq_false (by omega)]; rfl), rfl⟩
theorem lowR_high {x : Int} (h : 128 ≤ x) : lowR x = false := by
  have h1 : inZ x 97 122 = false := by rw [inZ, decide_eq_false_iff_not]; omega
  have h2 : inZ x 48 57 = false := by rw [inZ, decide_eq_false_iff_not]; omega
  rw [lowR, h1, h2]
  rfl
theorem lowB_eq (c : UInt8) : lowB c = lowR (c.toNat : Int) := rfl
set_option maxRecDepth 100000 in
set_option maxHeartbeats 1000000 in
theorem indexFunc9 (s : ByteArray) (w : World) :
    Calls Try.prog 128 #[.string s, .func (.func 117) #[] #[], .bool true] w fun e w' => (∃ z : Int, e = .returned (.int .i64 z) ∧ decide (0 ≤ z) = !s.data.toList.all lowB) ∧ Below w.heap.size w w' := by
  have hln : s.data.toList.length = s.size := (Lib.size_eq s).symm
  go_enter Try.func128, Try.ntmps128
  go_wp2_with fail
  go_loopg [7, 8] s.size (fun g _ _ wx => ∃ i : Nat, i + g = s.size ∧ wx = w.iter s i ∧ (s.data.toList.take i).all lowB = true)
  case atStart => exact ⟨0, by omega, rfl, by simp⟩
  case round =>
    obtain ⟨i, hig, rfl, ht⟩ := hrel
    have HT := Lib.hid ht
    clear ht
    cases gk with
    | zero =>
      obtain rfl : i = s.size := by omega
      have hnx := fun ty => run_next_end (P := Try.prog) w s s.size ty (by omega)
      have HA : Hid (s.data.toList.all lowB = true) := Lib.hid (by
        have h := HT.out
        rwa [List.take_of_length_le (by omega)] at h)
      go_wp2_with fail
      go_ret
      exact ⟨⟨_, rfl, by rw [HA.out]; rfl⟩, (Below.refl _ _).alloc (Nat.le_refl _) _⟩
    | succ g =>
      have hi : i < s.size := by omega
      have hil : i < s.data.toList.length := by omega
      obtain ⟨x, hx⟩ : ∃ x : UInt8, s[i]'hi = x := ⟨_, rfl⟩
      have hat : s.data.toList[i] = x := by rw [← hx]; simp; rfl
      have HS := Lib.hid (all_take_succ (p := lowB) hil)
      have HN := Lib.hid (all_not (p := lowB) hil)
      rw [hat] at HS HN
      have hi0 : (0 : Int) ≤ i := by omega
      by_cases hx128 : x.toNat < 128
      · have hnx := fun ty => run_next_ascii (P := Try.prog) w s i ty hi (by rw [hx]; exact hx128)
        rw [hx] at hnx
        have HL := Lib.hid (lowB_eq x)
        clear hat hx
        cases hl : lowR (x.toNat : Int) with
        | true =>
          rw [hl] at HL
          go_wp2_with fail
          refine (notInName9 _ _).mono ?_
          rintro e w1 ⟨rfl, rfl⟩
          rw [hl]
          go_wp2_with fail
          go_roundg g
          case measure => omega
          case rel => exact ⟨i + 1, by omega, rfl, by rw [HS.out, HT.out, HL.out]; rfl⟩
        | false =>
          rw [hl] at HL
          go_wp2_with fail
          refine (notInName9 _ _).mono ?_
          rintro e w1 ⟨rfl, rfl⟩
          rw [hl]
          go_wp2_with fail
          go_ret
          exact ⟨⟨_, rfl, by rw [HN.out HL.out, decide_eq_true hi0]; rfl⟩, (Below.refl _ _).alloc (Nat.le_refl _) _⟩
      · have hd := decode_high s i hi (by rw [hx]; omega)
        have hnx := fun ty => run_next_any (P := Try.prog) w s i ty hi
        obtain ⟨z, hz⟩ : ∃ z, (Utf8.decode s i).1 = z := ⟨_, rfl⟩
        obtain ⟨k, hk⟩ : ∃ k, (Utf8.decode s i).2 = k := ⟨_, rfl⟩
        rw [hz, hk] at hnx hd
        have hl := lowR_high (x := (z : Int)) (by omega)
        have HL : Hid (lowB x = false) := Lib.hid (by rw [lowB_eq]; exact lowR_high (by omega))
        clear hat hx hz hk
        go_wp2_with fail
        refine (notInName9 _ _).mono ?_
        rintro e w1 ⟨rfl, rfl⟩
        rw [hl]
        go_wp2_with fail
        go_ret
        exact ⟨⟨_, rfl, by rw [HN.out HL.out, decide_eq_true hi0]; rfl⟩, (Below.refl _ _).alloc (Nat.le_refl _) _⟩
set_option maxRecDepth 100000 in
theorem containsFunc9 (s : ByteArray) (w : World) :
    Calls Try.prog 116 #[.string s, .func (.func 117) #[] #[]] w fun e w' => e = .returned (.bool (!s.data.toList.all lowB)) ∧ Below w.heap.size w w' := by
  have HI : Hid (∀ w, Calls Try.prog 126 #[.string s, .func (.func 117) #[] #[]] w fun e w' => (∃ z : Int, e = .returned (.int .i64 z) ∧ decide (0 ≤ z) = !s.data.toList.all lowB) ∧ Below w.heap.size w w') := Lib.hid (by
    intro w
    go_enter Try.func126, Try.ntmps126
    go_wp2_with fail
    refine (indexFunc9 s w).mono ?_
    rintro e w1 ⟨⟨z, rfl, hz⟩, hB⟩
    go_wp2_with fail
    go_ret
    exact ⟨⟨z, rfl, hz⟩, hB⟩)
  go_enter Try.func116, Try.ntmps116
  go_wp2_with fail
  refine (HI.out w).mono ?_
  rintro e w1 ⟨⟨z, rfl, hz⟩, hB⟩
  have HZ := Lib.hid hz
  clear hz
  go_wp2_with fail
  go_ret
  exact ⟨ret_bool9 HZ.out, hB⟩
set_option maxRecDepth 100000 in
set_option maxHeartbeats 1000000 in
/-- WHETHER A TEXT IS A NAME. -/
theorem implName (s : ByteArray) (w : World) (hsz : s.size ≤ 9223372036854775807) :
    Calls Try.prog 97 #[.string s] w fun e w' => e = .returned (.bool (nameB s.data.toList)) ∧ Below w.heap.size w w' := by
  have hln : s.data.toList.length = s.size := (Lib.size_eq s).symm
  cases h : inZ (s.size : Int) 1 12 with
  | false =>
    have HE : Hid (nameB s.data.toList = false) := Lib.hid (by rw [nameB, hln, h]; rfl)
    go_enter Try.func97, Try.ntmps97
    go_wp2_with fail
    refine (inRange9 _ _ _ _).mono ?_
    rintro e w1 ⟨rfl, rfl⟩
    rw [h]
    go_wp2_with fail
    go_ret
    exact ⟨ret_bool9 HE.out.symm, Below.refl _ _⟩
  | true =>
    have hr := inZ_iff.1 h
    have h0 : 0 < s.size := by omega
    have hk0 : (0 : Int) < s.size := by omega
    obtain ⟨x, hx⟩ : ∃ x : UInt8, s[0]'h0 = x := ⟨_, rfl⟩
    have hg : s.data.toList.getD 0 0 = x := by
      rw [List.getD_eq_getElem?_getD, List.getElem?_eq_getElem (by omega), ← hx]
      simp
      rfl
    have hm : x ∈ s.data.toList := by
      rw [← hg, List.getD_eq_getElem?_getD, List.getElem?_eq_getElem (by omega)]
      exact List.getElem_mem _
    have hxl := x.toNat_lt
    have hwx : wrap32 (x.toNat : Int) = x.toNat := by
      unfold wrap32
      omega
    cases h1 : inZ (x.toNat : Int) 97 122 with
    | false =>
      have HE : Hid (nameB s.data.toList = false) := Lib.hid (by
        rw [nameB, hln, h, hg]
        by_cases h97 : 97 ≤ x.toNat
        · have : s.data.toList.all lowB = false := by
            rw [List.all_eq_false]
            refine ⟨x, hm, ?_⟩
            have h2 : inZ (x.toNat : Int) 48 57 = false := by rw [inZ, decide_eq_false_iff_not]; omega
            rw [lowB, h1, h2]
            simp
          rw [this]
          simp
        · simp [h97])
      have HX := Lib.hid hx
      clear hg hm hx
      go_enter Try.func97, Try.ntmps97
      go_wp2_with fail
      refine (inRange9 _ _ _ _).mono ?_
      rintro e w1 ⟨rfl, rfl⟩
      rw [h]
      go_wp2_with fail
      rw [HX.out]
      go_wp2_with fail
      refine (isLetter9 _ _).mono ?_
      rintro e w1 ⟨rfl, rfl⟩
      rw [hwx, h1]
      go_wp2_with fail
      go_ret
      exact ⟨ret_bool9 HE.out.symm, Below.refl _ _⟩
    | true =>
      have h1r := inZ_iff.1 h1
      have HE : Hid (nameB s.data.toList = s.data.toList.all lowB) := Lib.hid (by
        rw [nameB, hln, h, hg]
        have : decide (97 ≤ x.toNat) = true := decide_eq_true (by omega)
        rw [this]
        rfl)
      have HX := Lib.hid hx
      clear hg hm hx
      go_enter Try.func97, Try.ntmps97
      go_wp2_with fail
      refine (inRange9 _ _ _ _).mono ?_
      rintro e w1 ⟨rfl, rfl⟩
      rw [h]
      go_wp2_with fail
      rw [HX.out]
      go_wp2_with fail
      refine (isLetter9 _ _).mono ?_
      rintro e w1 ⟨rfl, rfl⟩
      rw [hwx, h1]
      go_wp2_with fail
      refine (containsFunc9 s _).mono ?_
      rintro e w1 ⟨rfl, hB⟩
      go_wp2_with fail
      go_ret
      exact ⟨ret_bool9 (by rw [HE.out]; simp), hB⟩
end Go.Proofs.Ytgknkjiifcnkpaa
