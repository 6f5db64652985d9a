/-
  Whether two rows of rows of integers are the same, the program's way.
-/
import Derived.Test.YtgknkjiifcnkpaaTabQ
import Derived.Test.YtgknkjiifcnkpaaI9N
import Derived.Test.YtgknkjiifcnkpaaShEqI
namespace Go.Proofs.Ytgknkjiifcnkpaa
open Go.RowKit

theorem slEqI9 (w : World) (u1 u2 : Value) (s1 s2 : List Int) (h1 : IntRow w u1 s1) (h2 : IntRow w u2 s2) :
    Calls Try.prog 59 #[u1, u2] w fun e w' => e = .returned (.bool (decide (s1 = s2))) ∧ ∃ q, w' = w.drewN q := by
  obtain ⟨a1, c1, rfl, hl1, hf1⟩ := intRow_form h1
  obtain ⟨a2, c2, rfl, hl2, hf2⟩ := intRow_form h2
  have at1 : ∀ (s : List Int) (j : Nat), j < s.length → s[j]? = some (s.getD j 0) := fun s j hj => by simp [List.getD, hj]
  by_cases hn : s1.length = s2.length
  · cases s1 with
    | nil =>
      obtain rfl : s2 = [] := List.length_eq_zero_iff.1 hn.symm
      refine (Try.slices_Equal_int_empty a1 a2 c1 0 c2 w (by omega)).mono fun e w' ⟨he, hw⟩ => ⟨?_, 0, hw⟩
      rw [he]
      rfl
    | cons x t =>
      obtain ⟨y, u, rfl⟩ : ∃ y u, s2 = y :: u := by
        cases s2 with
        | nil => simp at hn
        | cons y u => exact ⟨y, u, rfl⟩
      obtain ⟨b1, o1, rfl, _⟩ := hf1 0 x rfl
      obtain ⟨b2, o2, rfl, _⟩ := hf2 0 y rfl
      refine (Try.slices_Equal_int b1 o1 _ c1 b2 o2 _ c2 (x :: t) (y :: u) w (Nat.le_refl _) (Nat.le_refl _) hl1 hl2 ?_ ?_).mono fun e w' ⟨he, hw⟩ => ⟨?_, hw⟩
      · intro j hj
        obtain ⟨b, o, hb, hc⟩ := hf1 j _ (at1 _ j hj)
        injection hb with hb
        injection hb with hb ho _
        subst hb
        subst ho
        exact hc
      · intro j hj
        obtain ⟨b, o, hb, hc⟩ := hf2 j _ (at1 _ j hj)
        injection hb with hb
        injection hb with hb ho _
        subst hb
        subst ho
        exact hc
      · rw [he, List.take_of_length_le (Nat.le_refl _), List.take_of_length_le (Nat.le_refl _)]
        by_cases he : x :: t = y :: u
        · rw [he]; simp
        · rw [decide_eq_false he, beq_eq_false_iff_ne.2 he]
  · refine (Try.slices_Equal_int_lens a1 a2 s1.length c1 s2.length c2 w hn).mono fun e w' ⟨he, hw⟩ => ⟨?_, 0, hw⟩
    rw [he, decide_eq_false (fun e => hn (by rw [e]))]
theorem ret_boolE {a b : Bool} (h : b = a) : Ending.returned (.bool a) = .returned (.bool b) := by rw [h]
set_option maxRecDepth 100000 in
set_option maxHeartbeats 4000000 in
theorem eqFn9 (w : World) (a1 a2 : Option Addr) (c1 c2 : Nat) (L1 L2 : List (List Int)) (hl : L1.length ≤ 9223372036854775807) (hl2 : L2.length ≤ 9223372036854775807)
    (h1 : ∀ (j : Nat) row, L1[j]? = some row → ∃ b off u, a1 = some ⟨b, off, none⟩ ∧ w.cell? ⟨b, off + j, none⟩ = some u ∧ IntRow w u row) (h2 : ∀ (j : Nat) row, L2[j]? = some row → ∃ b off u, a2 = some ⟨b, off, none⟩ ∧ w.cell? ⟨b, off + j, none⟩ = some u ∧ IntRow w u row) :
    Calls Try.prog 58 #[.slice a1 L1.length c1, .slice a2 L2.length c2, .func (.func 59) #[] #[]] w fun e w' => e = .returned (.bool (sameG9 L1 L2)) ∧ ∃ k, w' = w.drewN k := by
  have H1 := Lib.hid h1
  have H2 := Lib.hid h2
  clear h1 h2
  obtain ⟨n, hn⟩ : ∃ n : Nat, L1.length = n := ⟨_, rfl⟩
  obtain ⟨n2, hn2⟩ : ∃ n : Nat, L2.length = n := ⟨_, rfl⟩
  rw [hn] at hl ⊢
  rw [hn2] at hl2 ⊢
  by_cases hnn : n = n2
  · obtain rfl := hnn
    have HE1 := Lib.hid hn
    have HE2 := Lib.hid hn2
    clear hn hn2
    go_enter Try.func58, Try.ntmps58
    go_wp2_with fail
    go_loopg [6, 7, 8, 9, 17] n (fun g _ _ _ _ i wr => ∃ j z : Nat, j ≤ n ∧ g = n - j ∧ i = .int .i64 j ∧ wr = w.drewN z ∧ L1.take j = L2.take j)
    case atStart => exact ⟨0, 0, Nat.zero_le _, rfl, rfl, rfl, rfl⟩
    case round =>
      obtain ⟨j, z, hj, rfl, rfl, rfl, ht⟩ := hrel
      have HT := Lib.hid ht
      clear ht
      by_cases hlt : j < n
      · have hj1 : (j : Int) < n := by omega
        have hj0 : (0 : Int) ≤ j := by omega
        obtain ⟨r1, hr1⟩ : ∃ r, L1[j]? = some r := ⟨_, List.getElem?_eq_getElem (by rw [HE1.out]; exact hlt)⟩
        obtain ⟨r2, hr2⟩ : ∃ r, L2[j]? = some r := ⟨_, List.getElem?_eq_getElem (by rw [HE2.out]; exact hlt)⟩
        obtain ⟨b1, o1, u1, rfl, hc1, hs1⟩ := H1.out j r1 hr1
        obtain ⟨b2, o2, u2, rfl, hc2, hs2⟩ := H2.out j r2 hr2
        have hB : Below w.heap.size w (w.drewN z) := below_drewN2 (Below.refl _ _) z
        have S1 := Lib.hid (hs1.below hB)
        have S2 := Lib.hid (hs2.below hB)
        have HR1 := Lib.hid hr1
        have HR2 := Lib.hid hr2
        have g1 : (w.drewN z).cell? ⟨b1, o1 + j, none⟩ = some u1 := hc1
        have g2 : (w.drewN z).cell? ⟨b2, o2 + j, none⟩ = some u2 := hc2
        clear hr1 hr2 hs1 hs2 hc1 hc2 hB
        obtain ⟨wq, hwq⟩ : ∃ wq, w.drewN z = wq := ⟨_, rfl⟩
        rw [hwq] at g1 g2 S1 S2 ⊢
        have HW := Lib.hid hwq
        clear hwq
        by_cases hrr : r1 = r2
        · have HRR := Lib.hid hrr
          have hd : decide (r1 = r2) = true := decide_eq_true hrr
          clear hrr
          go_wp2_with fail
          refine (slEqI9 wq u1 u2 r1 r2 S1.out S2.out).mono ?_
          rintro e w1 ⟨rfl, q, rfl⟩
          rw [hd]
          go_wp2_with fail
          go_roundg (n - (j + 1))
          case measure => omega
          case rel => exact ⟨j + 1, _, by omega, rfl, by go_num, by rw [← HW.out, World.drewN_drewN], take_bothG HR1.out HR2.out HT.out HRR.out⟩
        · have HRR := Lib.hid hrr
          have hd : decide (r1 = r2) = false := decide_eq_false hrr
          clear hrr
          go_wp2_with fail
          refine (slEqI9 wq u1 u2 r1 r2 S1.out S2.out).mono ?_
          rintro e w1 ⟨rfl, q, rfl⟩
          rw [hd]
          go_wp2_with fail
          go_ret
          exact ⟨ret_boolE (sameG9_no (at_neG HR1.out HR2.out HRR.out)), _, by rw [← HW.out, World.drewN_drewN]⟩
      · have hje : j = n := by omega
        have hj1 : ¬ (j : Int) < n := by omega
        have HLL : Hid (L1 = L2) := Lib.hid (by
          have h := HT.out
          rw [hje, show L1.take n = L1 from List.take_of_length_le (by rw [HE1.out]; exact Nat.le_refl _), show L2.take n = L2 from List.take_of_length_le (by rw [HE2.out]; exact Nat.le_refl _)] at h
          exact h)
        clear hje
        go_wp2_with fail
        go_ret
        exact ⟨ret_boolE (sameG9_yes HLL.out), z, rfl⟩
  · have HNE : Hid (¬ L1 = L2) := Lib.hid (by
      intro e
      rw [e, hn2] at hn
      exact hnn hn.symm)
    have hne : ¬ (n : Int) = n2 := by omega
    have hneN : (n == n2) = false := beq_eq_false_iff_ne.2 hnn
    clear hn hn2
    go_enter Try.func58, Try.ntmps58
    go_wp2_with fail
    go_ret
    exact ⟨ret_boolE (sameG9_no HNE.out), 0, rfl⟩

theorem below_of_drew {w w' : World} {k : Nat} (h : w' = w.drewN k) : Below w.heap.size w w' := h ▸ below_drewN2 (Below.refl _ _) k
theorem iiRow_cellsE {w : World} {v : Value} {L : List (List Int)} (h : IIRow w v L) : ∃ a c, v = .slice a L.length c ∧ L.length ≤ 9223372036854775807 ∧ (∀ (j : Nat) row, L[j]? = some row → ∃ b off u, a = some ⟨b, off, none⟩ ∧ w.cell? ⟨b, off + j, none⟩ = some u ∧ IntRow w u row) := by
  rcases h with ⟨rfl, a, c, rfl⟩ | ⟨b, off, c, rfl, hl, _, hc⟩
  · exact ⟨a, c, rfl, by simp, by simp⟩
  · refine ⟨_, c, rfl, hl, fun j row hj => ?_⟩
    obtain ⟨u, h1, h2⟩ := hc j row hj
    exact ⟨b, off, u, rfl, h1, h2⟩
theorem eqGrid9 (w : World) (v1 v2 : Value) (L1 L2 : List (List Int)) (h1 : IIRow w v1 L1) (h2 : IIRow w v2 L2) :
    Calls Try.prog 58 #[v1, v2, .func (.func 59) #[] #[]] w fun e w' => e = .returned (.bool (sameG9 L1 L2)) ∧ ∃ k, w' = w.drewN k := by
  obtain ⟨a1, c1, rfl, hl1, hf1⟩ := iiRow_cellsE h1
  obtain ⟨a2, c2, rfl, hl2, hf2⟩ := iiRow_cellsE h2
  exact eqFn9 w a1 a2 c1 c2 L1 L2 hl1 hl2 hf1 hf2

end Go.Proofs.Ytgknkjiifcnkpaa
