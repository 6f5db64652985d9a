
/-
  The laws on decimals.
-/
import Derived.Test.YtcmmpmmohahcfaaDoorFixR
import Derived.Test.YtcmmpmmohahcfaaDoorDrawW
namespace Go.Proofs.YtcmmpmmohahcfaaDoor
open Go.RowKit

theorem cur_still6 {W w w' : World} {p : Nat} (h : Cur W w p) (hB : Below w.heap.size w w') : Cur W w' p := by
  have hlt := h.lt
  obtain ⟨hp, hB0, v, n, i, x, hb, hi, h0, h1, hblk⟩ := h
  exact ⟨hp, hB0.trans (hB.mono hB0.size), v, n, i, x, hb, hi, h0, h1, (hB.block p hlt).trans hblk⟩
theorem rfE_shape (l : List UInt8) : ∃ (n : Int) (b : Bool), rfE l = .returned (.tuple #[.int .i64 n, .bool b]) := by
  cases h : rdV l with
  | some n => exact ⟨n, true, rfE_some h⟩
  | none => exact ⟨0, false, rfE_none h⟩
theorem fnE_shape (l : List UInt8) : ∃ (s : ByteArray) (b : Bool), fnE l = .returned (.tuple #[.string s, .bool b]) := by
  cases h : rdV l with
  | some n => exact ⟨_, true, fnE_some h⟩
  | none => exact ⟨_, false, fnE_none h⟩
theorem fixT_sz (n : Int) : (ByteArray.mk (fixT n).toArray).size ≤ 1048576 := by
  have := fixT_len n
  simp only [ByteArray.size, List.size_toArray]
  omega
set_option maxRecDepth 100000 in
set_option maxHeartbeats 1000000 in
theorem lawExFixText (n : Int) (n0 : -9223372036854775808 ≤ n) (n1 : n ≤ 9223372036854775807) (w : World) (hT : ∀ (wz : World), Below w.heap.size w wz → ∀ n : Int, -9223372036854775808 ≤ n → n ≤ 9223372036854775807 → Calls Tryd.prog 9 #[.int .i64 n] wz fun e w' => e = .returned (.string ⟨(fixT n).toArray⟩) ∧ Below wz.heap.size wz w') :
    Calls Tryd.prog 4 #[.int .i64 n] w fun e w' => e = .returned (.bool true) ∧ Below w.heap.size w w' := by
  go_enter Tryd.func4, Tryd.ntmps4
  go_wp2_with fail
  refine (specFixText n n0 n1 _).mono ?_
  rintro e w1 ⟨rfl, hB⟩
  have HT := Lib.hid hB
  clear hB
  go_wp2_with fail
  refine (hT _ HT.out n n0 n1).mono ?_
  rintro e w2 ⟨rfl, hB⟩
  replace HT := Lib.hid (bt HT.out hB)
  clear hB
  go_wp2_with fail
  all_goals first
    | (go_ret; exact ⟨rfl, HT.out⟩)
    | (exfalso; simp_all; done)
set_option maxRecDepth 100000 in
set_option maxHeartbeats 1000000 in
theorem lawExReadFix (s : ByteArray) (w : World) (hR : ∀ (wz : World), Below w.heap.size w wz → ∀ s : ByteArray, s.size ≤ 1048576 → Calls Tryd.prog 10 #[.string s] wz fun e w' => e = rfE s.data.toList ∧ Below wz.heap.size wz w') :
    Calls Tryd.prog 5 #[.string s] w fun e w' => e = .returned (.bool true) ∧ Below w.heap.size w w' := by
  by_cases hs : s.size ≤ 1048576
  · obtain ⟨n, b, hE⟩ := rfE_shape s.data.toList
    have HE := Lib.hid hE
    have hq : decide ((1048576 : Int) < s.size) = false := by rw [decide_eq_false_iff_not]; omega
    clear hE
    go_enter Tryd.func5, Tryd.ntmps5
    go_wp2_with fail
    refine (specReadFix s _).mono ?_
    rintro e w1 ⟨rfl, hB⟩
    rw [HE.out]
    have HT := Lib.hid hB
    clear hB
    go_wp2_with fail
    refine (hR _ HT.out s hs).mono ?_
    rintro e w2 ⟨rfl, hB⟩
    rw [HE.out]
    replace HT := Lib.hid (bt HT.out hB)
    clear hB
    go_wp2_with fail
    all_goals first
      | (go_ret; exact ⟨rfl, HT.out⟩)
      | (exfalso; simp_all; done)
  · skip
    have hq : decide ((1048576 : Int) < s.size) = true := by rw [decide_eq_true_eq]; omega
    go_enter Tryd.func5, Tryd.ntmps5
    go_wp2_with fail
    go_ret
    exact ⟨rfl, Below.refl _ _⟩
set_option maxRecDepth 100000 in
set_option maxHeartbeats 1000000 in
theorem lawExFixNormal (s : ByteArray) (w : World) (hN : ∀ (wz : World), Below w.heap.size w wz → ∀ s : ByteArray, s.size ≤ 1048576 → Calls Tryd.prog 13 #[.string s] wz fun e w' => e = fnE s.data.toList ∧ Below wz.heap.size wz w') :
    Calls Tryd.prog 6 #[.string s] w fun e w' => e = .returned (.bool true) ∧ Below w.heap.size w w' := by
  by_cases hs : s.size ≤ 1048576
  · obtain ⟨n, b, hE⟩ := fnE_shape s.data.toList
    have HE := Lib.hid hE
    have hq : decide ((1048576 : Int) < s.size) = false := by rw [decide_eq_false_iff_not]; omega
    clear hE
    go_enter Tryd.func6, Tryd.ntmps6
    go_wp2_with fail
    refine (specFixNormal s _).mono ?_
    rintro e w1 ⟨rfl, hB⟩
    rw [HE.out]
    have HT := Lib.hid hB
    clear hB
    go_wp2_with fail
    refine (hN _ HT.out s hs).mono ?_
    rintro e w2 ⟨rfl, hB⟩
    rw [HE.out]
    replace HT := Lib.hid (bt HT.out hB)
    clear hB
    go_wp2_with fail
    all_goals first
      | (go_ret; exact ⟨rfl, HT.out⟩)
      | (exfalso; simp_all; done)
  · skip
    have hq : decide ((1048576 : Int) < s.size) = true := by rw [decide_eq_true_eq]; omega
    go_enter Tryd.func6, Tryd.ntmps6
    go_wp2_with fail
    go_ret
    exact ⟨rfl, Below.refl _ _⟩
set_option maxRecDepth 100000 in
set_option maxHeartbeats 1000000 in
theorem drawFixText (w : World) (v : Value) (n : Nat) (hb : Bytes w v n) :
    Calls Tryd.prog 8 #[v] w fun e w' => IntOut e ∧ Below w.heap.size w w' := by
  go_enter Tryd.func8, Tryd.ntmps8
  go_wp2_with fail
  refine (l1New w v n hb).mono ?_
  rintro e w1 ⟨rfl, hc1, _⟩
  go_wp2_with fail
  refine (l1Once w _ _ 2 (by omega) (by omega) hc1).mono ?_
  rintro e w2 ⟨⟨b, rfl⟩, hc2, _⟩
  cases b with
  | true =>
    go_wp2_with fail
    refine (l1Whole w _ _ hc2).mono ?_
    rintro e w3 ⟨⟨z, z0, z1, rfl⟩, hc3⟩
    go_wp2_with fail
    go_ret
    exact ⟨⟨z, z0, z1, rfl⟩, cur_below hc3⟩
  | false =>
    go_wp2_with fail
    refine (l1Below w _ _ 5000 (by omega) (by omega) hc2).mono ?_
    rintro e w3 ⟨⟨m, hm, rfl⟩, hc3, _⟩
    have hl := hc3.lt
    go_wp2_with fail
    refine (l1PickInt w _ _ w3.heap.size 13 (by omega) (by omega) (by omega) ?_ (hc3.alloc _)).mono ?_
    · refine intList ?_ ?_
      · rfl
      · simp
        omega
    rintro e w4 ⟨⟨z, z0, z1, rfl⟩, hc4, _⟩
    go_wp2_with fail
    go_ret
    exact ⟨⟨z, z0, z1, rfl⟩, cur_below hc4⟩
set_option maxRecDepth 100000 in
set_option maxHeartbeats 1000000 in
theorem l6Small (W w : World) (p : Nat) (hc : Cur W w p) :
    Calls Tryd.prog 45 #[.pointer (some ⟨p, 0, none⟩)] w fun e w' => IntOut e ∧ Cur W w' p := by
  go_enter Tryd.func45, Tryd.ntmps45
  go_wp2_with fail
  refine (l1Once W w p 20 (by omega) (by omega) hc).mono ?_
  rintro e w2 ⟨⟨b, rfl⟩, hc2, _⟩
  cases b with
  | true =>
    have hl := hc2.lt
    go_wp2_with fail
    refine (l1PickInt W _ p w2.heap.size 5 (by omega) (by omega) (by omega) ?_ (hc2.alloc _)).mono ?_
    · refine intList ?_ ?_
      · rfl
      · decide
    rintro e w3 ⟨⟨z, z0, z1, rfl⟩, hc3, _⟩
    go_wp2_with fail
    go_ret
    exact ⟨⟨z, z0, z1, rfl⟩, hc3⟩
  | false =>
    go_wp2_with fail
    refine (l1Once W _ p 2 (by omega) (by omega) hc2).mono ?_
    rintro e w3 ⟨⟨b, rfl⟩, hc3, _⟩
    cases b with
    | true =>
      go_wp2_with fail
      refine (l1Below W _ p 9 (by omega) (by omega) hc3).mono ?_
      rintro e w4 ⟨⟨m, hm, rfl⟩, hc4, _⟩
      go_wp2_with fail
      go_ret
      exact ⟨⟨_, by omega, by omega, rfl⟩, hc4⟩
    | false =>
      go_wp2_with fail
      refine (l1Below W _ p 41 (by omega) (by omega) hc3).mono ?_
      rintro e w4 ⟨⟨m, hm, rfl⟩, hc4, _⟩
      go_wp2_with fail
      go_ret
      exact ⟨⟨_, by omega, by omega, rfl⟩, hc4⟩
set_option maxRecDepth 100000 in
set_option maxHeartbeats 1000000 in
theorem l6Text (W w : World) (p : Nat) (hc : Cur W w p) :
    Calls Tryd.prog 30 #[.pointer (some ⟨p, 0, none⟩)] w fun e w' => StrOut 100 e ∧ Cur W w' p := by
  go_enter Tryd.func30, Tryd.ntmps30
  go_wp2_with fail
  refine (l1Once W w p 2 (by omega) (by omega) hc).mono ?_
  rintro e w2 ⟨⟨b, rfl⟩, hc2, _⟩
  cases b with
  | true =>
    go_wp2_with fail
    refine (l6Small W _ p hc2).mono ?_
    rintro e w3 ⟨⟨z, z0, z1, rfl⟩, hc3⟩
    go_wp2_with fail
    refine (specFixText z z0 z1 _).mono ?_
    rintro e w4 ⟨rfl, hB⟩
    go_wp2_with fail
    go_ret
    refine ⟨⟨_, ?_, rfl⟩, cur_still6 hc3 hB⟩
    have := fixT_len z
    simp only [ByteArray.size, List.size_toArray]
    omega
  | false =>
    have hl := hc2.lt
    go_wp2_with fail
    refine (l1Pick W _ p w2.heap.size 20 100 (by omega) (by omega) (by omega) ?_ (hc2.alloc _)).mono ?_
    · refine strList 100 ?_ ?_
      · rfl
      · decide
    rintro e w3 ⟨⟨s, hs, rfl⟩, hc3, _⟩
    go_wp2_with fail
    go_ret
    exact ⟨⟨s, hs, rfl⟩, hc3⟩
set_option maxRecDepth 100000 in
set_option maxHeartbeats 1000000 in
theorem drawFixNormal (w : World) (v : Value) (n : Nat) (hb : Bytes w v n) :
    Calls Tryd.prog 12 #[v] w fun e w' => StrOut 100 e ∧ Below w.heap.size w w' := by
  go_enter Tryd.func12, Tryd.ntmps12
  go_wp2_with fail
  refine (l1New w v n hb).mono ?_
  rintro e w1 ⟨rfl, hc1, _⟩
  go_wp2_with fail
  refine (l6Text w _ _ hc1).mono ?_
  rintro e w2 ⟨⟨s, hs, rfl⟩, hc2⟩
  go_wp2_with fail
  go_ret
  exact ⟨⟨s, hs, rfl⟩, cur_below hc2⟩
set_option maxRecDepth 100000 in
set_option maxHeartbeats 1000000 in
theorem lawFnFix (w : World) (v : Value) (n : Nat) (hb : Bytes w v n) (hT : ∀ (wz : World), Below w.heap.size w wz → ∀ n : Int, -9223372036854775808 ≤ n → n ≤ 9223372036854775807 → Calls Tryd.prog 9 #[.int .i64 n] wz fun e w' => e = .returned (.string ⟨(fixT n).toArray⟩) ∧ Below wz.heap.size wz w') (hR : ∀ (wz : World), Below w.heap.size w wz → ∀ s : ByteArray, s.size ≤ 1048576 → Calls Tryd.prog 10 #[.string s] wz fun e w' => e = rfE s.data.toList ∧ Below wz.heap.size wz w') (hN : ∀ (wz : World), Below w.heap.size w wz → ∀ s : ByteArray, s.size ≤ 1048576 → Calls Tryd.prog 13 #[.string s] wz fun e w' => e = fnE s.data.toList ∧ Below wz.heap.size wz w') :
    Calls Tryd.prog 3 #[v] w fun e w' => e = .returned (.bool true) ∧ Below w.heap.size w w' := by
  by_cases hbig : 1048576 < n
  · skip
    go_enter Tryd.func3, Tryd.ntmps3
    go_wp2_with fail
    refine (big_yes w v n hb hbig).mono ?_
    rintro e w1 ⟨rfl, rfl⟩
    go_wp2_with fail
    go_ret
    exact ⟨rfl, Below.refl _ _⟩
  · skip
    go_enter Tryd.func3, Tryd.ntmps3
    go_wp2_with fail
    refine (big_no w v n hb hbig).mono ?_
    rintro e w1 ⟨rfl, rfl⟩
    go_wp2_with fail
    refine (drawFixText w v n hb).mono ?_
    rintro e w1 ⟨⟨z, z0, z1, rfl⟩, hB⟩
    have HT := Lib.hid hB
    clear hB
    obtain ⟨tx, htx⟩ : ∃ l, fixT z = l := ⟨_, rfl⟩
    have hsz : (ByteArray.mk tx.toArray).size ≤ 1048576 := by rw [← htx]; exact fixT_sz z
    have HX := Lib.hid htx
    by_cases hr : -2147483647 ≤ z ∧ z ≤ 2147483647
    · have hne : tx ≠ [] := by rw [← htx]; exact fixT_ne hr.1 hr.2
      have hne2 : (tx == []) = false := by simpa using hne
      have HR : Hid (rfE (ByteArray.mk tx.toArray).data.toList = _) := Lib.hid (rfE_some (l := (ByteArray.mk tx.toArray).data.toList) (n := z) (by rw [← htx]; simpa using rd_fixT hr.1 hr.2))
      clear htx hr hne
      go_wp2_with fail
      refine (hT _ HT.out z z0 z1).mono ?_
      rintro e w2 ⟨rfl, hB⟩
      rw [HX.out]
      replace HT := Lib.hid (bt HT.out hB)
      clear hB
      go_wp2_with fail
      refine (hR _ HT.out ⟨tx.toArray⟩ hsz).mono ?_
      rintro e w3 ⟨rfl, hB⟩
      rw [HR.out]
      replace HT := Lib.hid (bt HT.out hB)
      clear hB
      go_wp2_with fail
      refine (specFixText z z0 z1 _).mono ?_
      rintro e w4 ⟨rfl, hB⟩
      rw [HX.out]
      replace HT := Lib.hid (bt HT.out hB)
      clear hB
      go_wp2_with fail
      refine (drawFixNormal _ v n (hb.mono HT.out)).mono ?_
      rintro e w5 ⟨⟨s, hs, rfl⟩, hB⟩
      replace HT := Lib.hid (bt HT.out hB)
      clear hB
      cases h2 : rdV s.data.toList with
      | some m =>
        have m0 : -9223372036854775808 ≤ m := by have := rd_in h2; omega
        have m1 : m ≤ 9223372036854775807 := by have := rd_in h2; omega
        have HN1 := Lib.hid (fnE_some h2)
        have HR1 := Lib.hid (rfE_some h2)
        have HN2 : Hid (fnE (ByteArray.mk (fixT m).toArray).data.toList = _) := Lib.hid (fnE_some (l := (ByteArray.mk (fixT m).toArray).data.toList) (n := m) (by simpa using rd_fixT (rd_in h2).1 (rd_in h2).2))
        have hsu := fixT_sz m
        clear h2
        go_wp2_with fail
        refine (hN _ HT.out s (by omega)).mono ?_
        rintro e w6 ⟨rfl, hB⟩
        rw [HN1.out]
        replace HT := Lib.hid (bt HT.out hB)
        clear hB
        go_wp2_with fail
        refine (hR _ HT.out s (by omega)).mono ?_
        rintro e w7 ⟨rfl, hB⟩
        rw [HR1.out]
        replace HT := Lib.hid (bt HT.out hB)
        clear hB
        go_wp2_with fail
        refine (specReadFix s _).mono ?_
        rintro e w8 ⟨rfl, hB⟩
        rw [HR1.out]
        replace HT := Lib.hid (bt HT.out hB)
        clear hB
        go_wp2_with fail
        refine (hN _ HT.out ⟨(fixT m).toArray⟩ hsu).mono ?_
        rintro e w9 ⟨rfl, hB⟩
        rw [HN2.out]
        replace HT := Lib.hid (bt HT.out hB)
        clear hB
        go_wp2_with fail
        refine (specFixText m m0 m1 _).mono ?_
        rintro e w10 ⟨rfl, hB⟩
        replace HT := Lib.hid (bt HT.out hB)
        clear hB
        go_wp2_with fail
        go_ret
        exact ⟨by first | rfl | simp, HT.out⟩
      | none =>
        have HN1 := Lib.hid (fnE_none h2)
        have HR1 := Lib.hid (rfE_none h2)
        have HN2 : Hid (fnE (ByteArray.mk #[]).data.toList = _) := Lib.hid (fnE_none (l := (ByteArray.mk #[]).data.toList) rd_nil)
        have hsu : (ByteArray.mk #[]).size ≤ 1048576 := by decide
        clear h2
        go_wp2_with fail
        refine (hN _ HT.out s (by omega)).mono ?_
        rintro e w6 ⟨rfl, hB⟩
        rw [HN1.out]
        replace HT := Lib.hid (bt HT.out hB)
        clear hB
        go_wp2_with fail
        refine (hR _ HT.out s (by omega)).mono ?_
        rintro e w7 ⟨rfl, hB⟩
        rw [HR1.out]
        replace HT := Lib.hid (bt HT.out hB)
        clear hB
        go_wp2_with fail
        refine (specReadFix s _).mono ?_
        rintro e w8 ⟨rfl, hB⟩
        rw [HR1.out]
        replace HT := Lib.hid (bt HT.out hB)
        clear hB
        go_wp2_with fail
        refine (hN _ HT.out ⟨#[]⟩ hsu).mono ?_
        rintro e w9 ⟨rfl, hB⟩
        rw [HN2.out]
        replace HT := Lib.hid (bt HT.out hB)
        clear hB
        go_wp2_with fail
        go_ret
        exact ⟨by first | rfl | simp, HT.out⟩
    · have he : tx = [] := by rw [← htx, fixT, if_neg hr]
      clear htx hr
      subst he
      have HR : Hid (rfE (ByteArray.mk #[]).data.toList = _) := Lib.hid (rfE_none (l := (ByteArray.mk #[]).data.toList) rd_nil)
      go_wp2_with fail
      refine (hT _ HT.out z z0 z1).mono ?_
      rintro e w2 ⟨rfl, hB⟩
      rw [HX.out]
      replace HT := Lib.hid (bt HT.out hB)
      clear hB
      go_wp2_with fail
      refine (hR _ HT.out ⟨#[]⟩ (by decide)).mono ?_
      rintro e w3 ⟨rfl, hB⟩
      rw [HR.out]
      replace HT := Lib.hid (bt HT.out hB)
      clear hB
      go_wp2_with fail
      refine (specFixText z z0 z1 _).mono ?_
      rintro e w4 ⟨rfl, hB⟩
      rw [HX.out]
      replace HT := Lib.hid (bt HT.out hB)
      clear hB
      go_wp2_with fail
      refine (drawFixNormal _ v n (hb.mono HT.out)).mono ?_
      rintro e w5 ⟨⟨s, hs, rfl⟩, hB⟩
      replace HT := Lib.hid (bt HT.out hB)
      clear hB
      cases h2 : rdV s.data.toList with
      | some m =>
        have m0 : -9223372036854775808 ≤ m := by have := rd_in h2; omega
        have m1 : m ≤ 9223372036854775807 := by have := rd_in h2; omega
        have HN1 := Lib.hid (fnE_some h2)
        have HR1 := Lib.hid (rfE_some h2)
        have HN2 : Hid (fnE (ByteArray.mk (fixT m).toArray).data.toList = _) := Lib.hid (fnE_some (l := (ByteArray.mk (fixT m).toArray).data.toList) (n := m) (by simpa using rd_fixT (rd_in h2).1 (rd_in h2).2))
        have hsu := fixT_sz m
        clear h2
        go_wp2_with fail
        refine (hN _ HT.out s (by omega)).mono ?_
        rintro e w6 ⟨rfl, hB⟩
        rw [HN1.out]
        replace HT := Lib.hid (bt HT.out hB)
        clear hB
        go_wp2_with fail
        refine (hR _ HT.out s (by omega)).mono ?_
        rintro e w7 ⟨rfl, hB⟩
        rw [HR1.out]
        replace HT := Lib.hid (bt HT.out hB)
        clear hB
        go_wp2_with fail
        refine (specReadFix s _).mono ?_
        rintro e w8 ⟨rfl, hB⟩
        rw [HR1.out]
        replace HT := Lib.hid (bt HT.out hB)
        clear hB
        go_wp2_with fail
        refine (hN _ HT.out ⟨(fixT m).toArray⟩ hsu).mono ?_
        rintro e w9 ⟨rfl, hB⟩
        rw [HN2.out]
        replace HT := Lib.hid (bt HT.out hB)
        clear hB
        go_wp2_with fail
        refine (specFixText m m0 m1 _).mono ?_
        rintro e w10 ⟨rfl, hB⟩
        replace HT := Lib.hid (bt HT.out hB)
        clear hB
        go_wp2_with fail
        go_ret
        exact ⟨by first | rfl | simp, HT.out⟩
      | none =>
        have HN1 := Lib.hid (fnE_none h2)
        have HR1 := Lib.hid (rfE_none h2)
        have HN2 : Hid (fnE (ByteArray.mk #[]).data.toList = _) := Lib.hid (fnE_none (l := (ByteArray.mk #[]).data.toList) rd_nil)
        have hsu : (ByteArray.mk #[]).size ≤ 1048576 := by decide
        clear h2
        go_wp2_with fail
        refine (hN _ HT.out s (by omega)).mono ?_
        rintro e w6 ⟨rfl, hB⟩
        rw [HN1.out]
        replace HT := Lib.hid (bt HT.out hB)
        clear hB
        go_wp2_with fail
        refine (hR _ HT.out s (by omega)).mono ?_
        rintro e w7 ⟨rfl, hB⟩
        rw [HR1.out]
        replace HT := Lib.hid (bt HT.out hB)
        clear hB
        go_wp2_with fail
        refine (specReadFix s _).mono ?_
        rintro e w8 ⟨rfl, hB⟩
        rw [HR1.out]
        replace HT := Lib.hid (bt HT.out hB)
        clear hB
        go_wp2_with fail
        refine (hN _ HT.out ⟨#[]⟩ hsu).mono ?_
        rintro e w9 ⟨rfl, hB⟩
        rw [HN2.out]
        replace HT := Lib.hid (bt HT.out hB)
        clear hB
        go_wp2_with fail
        go_ret
        exact ⟨by first | rfl | simp, HT.out⟩
end Go.Proofs.YtcmmpmmohahcfaaDoor
