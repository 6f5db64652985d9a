/-
  What the reference answers for two tables: whether they are the same.
-/
import Derived.Test.YtgknkjiifcnkpaaTabS
import Derived.Test.YtgknkjiifcnkpaaPk1
import Derived.Test.YtgknkjiifcnkpaaPk2
import Derived.Deep.LoopGhost
namespace Go.Proofs.Ytgknkjiifcnkpaa
open Go.RowKit

/-- Whether two lists of numbers are equal. -/
def sameI9 (a b : List Int) : Bool := decide (a = b)
theorem sameI9_yes {a b : List Int} (h : a = b) : sameI9 a b = true := decide_eq_true h
theorem sameI9_no {a b : List Int} (h : ¬ a = b) : sameI9 a b = false := decide_eq_false h
theorem take_both9 {a b : List Int} {j : Nat} {x y : Int} (ha : a[j]? = some x) (hb : b[j]? = some y) (h : a.take j = b.take j) (e : x = y) : a.take (j + 1) = b.take (j + 1) := by
  rw [List.take_add_one, List.take_add_one, ha, hb, h, e]
theorem at_ne9 {a b : List Int} {j : Nat} {x y : Int} (ha : a[j]? = some x) (hb : b[j]? = some y) (e : ¬ x = y) : ¬ a = b := by
  intro h
  rw [h, hb] at ha
  exact e (Option.some.inj ha).symm

set_option maxRecDepth 100000 in
set_option maxHeartbeats 2000000 in
theorem specInts9_some (w : World) (a1 a2 : Option Addr) (c1 c2 : Nat) (L1 L2 : List Int) (hl : L1.length ≤ 9223372036854775807) (hl2 : L2.length ≤ 9223372036854775807)
    (h1 : ∀ (j : Nat) z, L1[j]? = some z → ∃ b off, a1 = some ⟨b, off, none⟩ ∧ w.cell? ⟨b, off + j, none⟩ = some (.int .i64 z)) (h2 : ∀ (j : Nat) z, L2[j]? = some z → ∃ b off, a2 = some ⟨b, off, none⟩ ∧ w.cell? ⟨b, off + j, none⟩ = some (.int .i64 z)) :
    Calls Try.prog 88 #[.slice a1 L1.length c1, .slice a2 L2.length c2] w fun e w' => e = .returned (.bool (sameI9 L1 L2)) ∧ ∃ k, w' = w.drewN k := by
  have H1 := Lib.hid h1
  have H2 := Lib.hid h2
  clear h1 h2
  obtain ⟨n, hn⟩ : ∃ n : Nat, L1.length = n := ⟨_, rfl⟩
  obtain ⟨n2, hn2⟩ : ∃ n : Nat, L2.length = n := ⟨_, rfl⟩
  rw [hn] at hl ⊢
  rw [hn2] at hl2 ⊢
  by_cases hnn : n = n2
  · obtain rfl := hnn
    have HE1 := Lib.hid hn
    have HE2 := Lib.hid hn2
    clear hn hn2
    go_enter Try.func88, Try.ntmps88
    go_wp2_with fail
    go_loopw [4, 5] (fun _ i wr => ∃ j z : Nat, j ≤ n ∧ i = .int .i64 j ∧ wr = w.drewN z ∧ L1.take j = L2.take j) (fun _ i _ => n - (intOf i).toNat)
    case atStart => exact ⟨0, 0, Nat.zero_le _, rfl, rfl, rfl⟩
    case round =>
      obtain ⟨j, z, hj, rfl, rfl, ht⟩ := hrel
      have HT := Lib.hid ht
      clear ht
      by_cases hlt : j < n
      · have hj1 : (j : Int) < n := by omega
        have hj0 : (0 : Int) ≤ j := by omega
        obtain ⟨x1, hx1⟩ : ∃ r, L1[j]? = some r := ⟨_, List.getElem?_eq_getElem (by rw [HE1.out]; exact hlt)⟩
        obtain ⟨x2, hx2⟩ : ∃ r, L2[j]? = some r := ⟨_, List.getElem?_eq_getElem (by rw [HE2.out]; exact hlt)⟩
        obtain ⟨b1, o1, rfl, hc1⟩ := H1.out j x1 hx1
        obtain ⟨b2, o2, rfl, hc2⟩ := H2.out j x2 hx2
        have HX1 := Lib.hid hx1
        have HX2 := Lib.hid hx2
        clear hx1 hx2
        by_cases hxx : x1 = x2
        · obtain rfl := hxx
          have g1 : (w.drewN z).cell? ⟨b1, o1 + j, none⟩ = some (.int .i64 x1) := hc1
          have g2 : (w.drewN z).cell? ⟨b2, o2 + j, none⟩ = some (.int .i64 x1) := hc2
          obtain ⟨wq, hwq⟩ : ∃ wq, w.drewN z = wq := ⟨_, rfl⟩
          rw [hwq] at g1 g2 ⊢
          have HW := Lib.hid hwq
          clear hwq
          clear hc1 hc2
          go_wp2_with fail
          go_quiet (fail)
          go_wp2_with fail
          go_roundw
          case rel => exact ⟨j + 1, _, by omega, by go_num, by rw [← HW.out, World.drewN_drewN], take_both9 HX1.out HX2.out HT.out rfl⟩
          case measure => simp [intOf]; omega
        · have HXX := Lib.hid hxx
          have hne : (x1 == x2) = false := beq_eq_false_iff_ne.2 hxx
          have hne2 : ¬ x1 = x2 := hxx
          clear hxx
          have g1 : (w.drewN z).cell? ⟨b1, o1 + j, none⟩ = some (.int .i64 x1) := hc1
          have g2 : (w.drewN z).cell? ⟨b2, o2 + j, none⟩ = some (.int .i64 x2) := hc2
          obtain ⟨wq, hwq⟩ : ∃ wq, w.drewN z = wq := ⟨_, rfl⟩
          rw [hwq] at g1 g2 ⊢
          have HW := Lib.hid hwq
          clear hwq
          clear hc1 hc2
          go_wp2_with fail
          go_quiet (fail)
          go_wp2_with fail
          go_ret
          exact ⟨ret_bool9 (sameI9_no (at_ne9 HX1.out HX2.out HXX.out)).symm, _, by rw [← HW.out, World.drewN_drewN]⟩
      · have hje : j = n := by omega
        have hj1 : ¬ (j : Int) < n := by omega
        have HLL : Hid (L1 = L2) := Lib.hid (by
          have h := HT.out
          rw [hje, show L1.take n = L1 from List.take_of_length_le (by rw [HE1.out]; exact Nat.le_refl _), show L2.take n = L2 from List.take_of_length_le (by rw [HE2.out]; exact Nat.le_refl _)] at h
          exact h)
        clear hje
        go_wp2_with fail
        go_ret
        exact ⟨ret_bool9 (sameI9_yes HLL.out).symm, z, rfl⟩
  · have HNE : Hid (¬ L1 = L2) := Lib.hid (by
      intro e
      rw [e, hn2] at hn
      exact hnn hn.symm)
    have hne : ¬ (n : Int) = n2 := by omega
    have hneN : (n == n2) = false := beq_eq_false_iff_ne.2 hnn
    clear hn hn2
    go_enter Try.func88, Try.ntmps88
    go_wp2_with fail
    go_ret
    exact ⟨ret_bool9 (sameI9_no HNE.out).symm, 0, rfl⟩

theorem specInts9 (w : World) (v1 v2 : Value) (L1 L2 : List Int) (h1 : IntRow w v1 L1) (h2 : IntRow w v2 L2) :
    Calls Try.prog 88 #[v1, v2] w fun e w' => e = .returned (.bool (sameI9 L1 L2)) ∧ Below w.heap.size w w' := by
  obtain ⟨a1, c1, rfl, hl1, k1⟩ := intRow_form h1
  obtain ⟨a2, c2, rfl, hl2, k2⟩ := intRow_form h2
  exact (specInts9_some w a1 a2 c1 c2 L1 L2 hl1 hl2 k1 k2).mono fun e w' ⟨he, q, hw⟩ => ⟨he, by rw [hw]; exact below_drewN2 (Below.refl _ _) q⟩

theorem iiRow_cells {w : World} {v : Value} {L : List (List Int)} (h : IIRow w v L) : ∃ a c, v = .slice a L.length c ∧ L.length ≤ 9223372036854775807 ∧ (∀ (q : Nat) r, L[q]? = some r → ∃ b off u, a = some ⟨b, off, none⟩ ∧ w.cell? ⟨b, off + q, none⟩ = some u ∧ IntRow w u r) := by
  rcases h with ⟨rfl, a, c, rfl⟩ | ⟨b, off, c, rfl, hl, _, hc⟩
  · exact ⟨a, c, rfl, by simp, by simp⟩
  · exact ⟨_, c, rfl, hl, fun q p hp => by
      obtain ⟨u, hu, hr⟩ := hc q p hp
      exact ⟨b, off, u, rfl, hu, hr⟩⟩
theorem specInts9_q (w : World) (v1 v2 : Value) (L1 L2 : List Int) (h1 : IntRow w v1 L1) (h2 : IntRow w v2 L2) (r : Bool) (hr : sameI9 L1 L2 = r) :
    Calls Try.prog 88 #[v1, v2] w fun e w' => e = .returned (.bool r) ∧ ∃ k, w' = w.drewN k := by
  obtain ⟨a1, c1, rfl, hl1, k1⟩ := intRow_form h1
  obtain ⟨a2, c2, rfl, hl2, k2⟩ := intRow_form h2
  rw [← hr]
  exact specInts9_some w a1 a2 c1 c2 L1 L2 hl1 hl2 k1 k2
/-- Whether two lists of lists of numbers are equal. -/
def sameG9 (a b : List (List Int)) : Bool := decide (a = b)
theorem sameG9_yes {a b : List (List Int)} (h : a = b) : sameG9 a b = true := decide_eq_true h
theorem sameG9_no {a b : List (List Int)} (h : ¬ a = b) : sameG9 a b = false := decide_eq_false h
theorem take_bothG {a b : List (List Int)} {j : Nat} {x y : List Int} (ha : a[j]? = some x) (hb : b[j]? = some y) (h : a.take j = b.take j) (e : x = y) : a.take (j + 1) = b.take (j + 1) := by
  rw [List.take_add_one, List.take_add_one, ha, hb, h, e]
theorem at_neG {a b : List (List Int)} {j : Nat} {x y : List Int} (ha : a[j]? = some x) (hb : b[j]? = some y) (e : ¬ x = y) : ¬ a = b := by
  intro h
  rw [h, hb] at ha
  exact e (Option.some.inj ha).symm

set_option maxRecDepth 100000 in
set_option maxHeartbeats 2000000 in
theorem specGrids_some (w : World) (a1 a2 : Option Addr) (c1 c2 : Nat) (L1 L2 : List (List Int)) (hl : L1.length ≤ 9223372036854775807) (hl2 : L2.length ≤ 9223372036854775807)
    (h1 : ∀ (j : Nat) r, L1[j]? = some r → ∃ b off u, a1 = some ⟨b, off, none⟩ ∧ w.cell? ⟨b, off + j, none⟩ = some u ∧ IntRow w u r) (h2 : ∀ (j : Nat) r, L2[j]? = some r → ∃ b off u, a2 = some ⟨b, off, none⟩ ∧ w.cell? ⟨b, off + j, none⟩ = some u ∧ IntRow w u r) :
    Calls Try.prog 56 #[.slice a1 L1.length c1, .slice a2 L2.length c2] w fun e w' => e = .returned (.bool (sameG9 L1 L2)) ∧ ∃ k, w' = w.drewN k := by
  have H1 := Lib.hid h1
  have H2 := Lib.hid h2
  clear h1 h2
  obtain ⟨n, hn⟩ : ∃ n : Nat, L1.length = n := ⟨_, rfl⟩
  obtain ⟨n2, hn2⟩ : ∃ n : Nat, L2.length = n := ⟨_, rfl⟩
  rw [hn] at hl ⊢
  rw [hn2] at hl2 ⊢
  by_cases hnn : n = n2
  · obtain rfl := hnn
    have HE1 := Lib.hid hn
    have HE2 := Lib.hid hn2
    clear hn hn2
    go_enter Try.func56, Try.ntmps56
    go_wp2_with fail
    go_loopw [4, 5] (fun _ i wr => ∃ j z : Nat, j ≤ n ∧ i = .int .i64 j ∧ wr = w.drewN z ∧ L1.take j = L2.take j) (fun _ i _ => n - (intOf i).toNat)
    case atStart => exact ⟨0, 0, Nat.zero_le _, rfl, rfl, rfl⟩
    case round =>
      obtain ⟨j, z, hj, rfl, rfl, ht⟩ := hrel
      have HT := Lib.hid ht
      clear ht
      by_cases hlt : j < n
      · have hj1 : (j : Int) < n := by omega
        have hj0 : (0 : Int) ≤ j := by omega
        obtain ⟨x1, hx1⟩ : ∃ r, L1[j]? = some r := ⟨_, List.getElem?_eq_getElem (by rw [HE1.out]; exact hlt)⟩
        obtain ⟨x2, hx2⟩ : ∃ r, L2[j]? = some r := ⟨_, List.getElem?_eq_getElem (by rw [HE2.out]; exact hlt)⟩
        obtain ⟨b1, o1, u1, rfl, hc1, hr1⟩ := H1.out j x1 hx1
        obtain ⟨b2, o2, u2, rfl, hc2, hr2⟩ := H2.out j x2 hx2
        have HX1 := Lib.hid hx1
        have HX2 := Lib.hid hx2
        have g1 : (w.drewN z).cell? ⟨b1, o1 + j, none⟩ = some u1 := hc1
        have g2 : (w.drewN z).cell? ⟨b2, o2 + j, none⟩ = some u2 := hc2
        have s1 : IntRow (w.drewN z) u1 x1 := hr1
        have s2 : IntRow (w.drewN z) u2 x2 := hr2
        obtain ⟨wq, hwq⟩ : ∃ wq, w.drewN z = wq := ⟨_, rfl⟩
        rw [hwq] at g1 g2 s1 s2 ⊢
        have HW := Lib.hid hwq
        have R1 : ∀ z, Hid (IntRow (wq.drewN z) u1 x1) := fun z => s1
        have R2 : ∀ z, Hid (IntRow (wq.drewN z) u2 x2) := fun z => s2
        clear hx1 hx2 hwq hc1 hc2 hr1 hr2 s1 s2
        by_cases hxx : x1 = x2
        · have HXX := Lib.hid hxx
          have HB := Lib.hid (sameI9_yes hxx)
          clear hxx
          go_wp2_with fail
          go_quiet ((go_at_call 88; exact Calls.quiet_of (specInts9_q _ _ _ x1 x2 (R1 _).out (R2 _).out true HB.out)))
          go_wp2_with fail
          go_roundw
          case rel => exact ⟨j + 1, _, by omega, by go_num, by rw [← HW.out, World.drewN_drewN], take_bothG HX1.out HX2.out HT.out HXX.out⟩
          case measure => simp [intOf]; omega
        · have HXX := Lib.hid hxx
          have HB := Lib.hid (sameI9_no hxx)
          clear hxx
          go_wp2_with fail
          go_quiet ((go_at_call 88; exact Calls.quiet_of (specInts9_q _ _ _ x1 x2 (R1 _).out (R2 _).out false HB.out)))
          go_wp2_with fail
          go_ret
          exact ⟨ret_bool9 (sameG9_no (at_neG HX1.out HX2.out HXX.out)).symm, _, by rw [← HW.out, World.drewN_drewN]⟩
      · have hje : j = n := by omega
        have hj1 : ¬ (j : Int) < n := by omega
        have HLL : Hid (L1 = L2) := Lib.hid (by
          have h := HT.out
          rw [hje, show L1.take n = L1 from List.take_of_length_le (by rw [HE1.out]; exact Nat.le_refl _), show L2.take n = L2 from List.take_of_length_le (by rw [HE2.out]; exact Nat.le_refl _)] at h
          exact h)
        clear hje
        go_wp2_with fail
        go_ret
        exact ⟨ret_bool9 (sameG9_yes HLL.out).symm, z, rfl⟩
  · have HNE : Hid (¬ L1 = L2) := Lib.hid (by
      intro e
      rw [e, hn2] at hn
      exact hnn hn.symm)
    have hne : ¬ (n : Int) = n2 := by omega
    have hneN : (n == n2) = false := beq_eq_false_iff_ne.2 hnn
    clear hn hn2
    go_enter Try.func56, Try.ntmps56
    go_wp2_with fail
    go_ret
    exact ⟨ret_bool9 (sameG9_no HNE.out).symm, 0, rfl⟩

theorem specGrids (w : World) (v1 v2 : Value) (L1 L2 : List (List Int)) (h1 : IIRow w v1 L1) (h2 : IIRow w v2 L2) :
    Calls Try.prog 56 #[v1, v2] w fun e w' => e = .returned (.bool (sameG9 L1 L2)) ∧ Below w.heap.size w w' := by
  obtain ⟨a1, c1, rfl, hl1, k1⟩ := iiRow_cells h1
  obtain ⟨a2, c2, rfl, hl2, k2⟩ := iiRow_cells h2
  exact (specGrids_some w a1 a2 c1 c2 L1 L2 hl1 hl2 k1 k2).mono fun e w' ⟨he, q, hw⟩ => ⟨he, by rw [hw]; exact below_drewN2 (Below.refl _ _) q⟩
end Go.Proofs.Ytgknkjiifcnkpaa
