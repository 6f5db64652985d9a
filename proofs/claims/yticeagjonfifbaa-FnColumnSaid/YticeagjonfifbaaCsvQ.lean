/-
  What the reference answers for two lists of rows: whether they are equal.
-/
import Derived.Test.YticeagjonfifbaaRowSS
import Derived.Test.YticeagjonfifbaaCsvS
import Derived.Deep.LoopGhost
namespace Go.Proofs.Yticeagjonfifbaa
open Go.RowKit

/-- Whether two lists of rows are equal. -/
def sameB (a b : List (List (List UInt8))) : Bool := decide (a = b)
theorem sameB_yes {a b : List (List (List UInt8))} (h : a = b) : sameB a b = true := decide_eq_true h
theorem sameB_no {a b : List (List (List UInt8))} (h : ¬ a = b) : sameB a b = false := decide_eq_false h
theorem ret_bool {a b : Bool} (h : b = a) : Ending.returned (.bool a) = .returned (.bool b) := by rw [h]
theorem take_both {α : Type} {a b : List α} {j : Nat} {x y : α} (ha : a[j]? = some x) (hb : b[j]? = some y) (h : a.take j = b.take j) (e : x = y) : a.take (j + 1) = b.take (j + 1) := by
  rw [List.take_add_one, List.take_add_one, ha, hb, h, e]
theorem at_ne {α : Type} {a b : List α} {j : Nat} {x y : α} (ha : a[j]? = some x) (hb : b[j]? = some y) (e : ¬ x = y) : ¬ a = b := by
  intro h
  rw [h, hb] at ha
  exact e (Option.some.inj ha).symm
theorem str_ne {a b : List UInt8} (h : ¬ a = b) : ¬ a.toArray = b.toArray := by
  intro e
  exact h (by simpa using congrArg Array.toList e)

set_option maxRecDepth 100000 in
set_option maxHeartbeats 4000000 in
theorem specSameRows_some (w : World) (a1 a2 : Option Addr) (c1 c2 : Nat) (L1 L2 : List (List (List UInt8))) (hl : L1.length ≤ 9223372036854775807) (hl2 : L2.length ≤ 9223372036854775807)
    (h1 : ∀ (j : Nat) row, L1[j]? = some row → ∃ b off u, a1 = some ⟨b, off, none⟩ ∧ w.cell? ⟨b, off + j, none⟩ = some u ∧ StrRow w u row) (h2 : ∀ (j : Nat) row, L2[j]? = some row → ∃ b off u, a2 = some ⟨b, off, none⟩ ∧ w.cell? ⟨b, off + j, none⟩ = some u ∧ StrRow w u row) :
    Calls Try.prog 68 #[.slice a1 L1.length c1, .slice a2 L2.length c2] w fun e w' => e = .returned (.bool (sameB L1 L2)) ∧ ∃ k, w' = w.drewN k := by
  have H1 := Lib.hid h1
  have H2 := Lib.hid h2
  clear h1 h2
  obtain ⟨n, hn⟩ : ∃ n : Nat, L1.length = n := ⟨_, rfl⟩
  obtain ⟨n2, hn2⟩ : ∃ n : Nat, L2.length = n := ⟨_, rfl⟩
  rw [hn] at hl ⊢
  rw [hn2] at hl2 ⊢
  by_cases hnn : n = n2
  · obtain rfl := hnn
    have HE1 := Lib.hid hn
    have HE2 := Lib.hid hn2
    clear hn hn2
    go_enter Try.func68, Try.ntmps68
    go_wp2_with fail
    go_loopg [4, 5, 6] n (fun g _ i _ wr => ∃ j z : Nat, j ≤ n ∧ g = n - j ∧ i = .int .i64 j ∧ wr = w.drewN z ∧ L1.take j = L2.take j)
    case atStart => exact ⟨0, 0, Nat.zero_le _, rfl, rfl, rfl, rfl⟩
    case round =>
      obtain ⟨j, z, hj, rfl, rfl, rfl, ht⟩ := hrel
      have HT := Lib.hid ht
      clear ht
      by_cases hlt : j < n
      · have hj1 : (j : Int) < n := by omega
        have hj0 : (0 : Int) ≤ j := by omega
        obtain ⟨r1, hr1⟩ : ∃ r, L1[j]? = some r := ⟨_, List.getElem?_eq_getElem (by rw [HE1.out]; exact hlt)⟩
        obtain ⟨r2, hr2⟩ : ∃ r, L2[j]? = some r := ⟨_, List.getElem?_eq_getElem (by rw [HE2.out]; exact hlt)⟩
        obtain ⟨b1, o1, u1, rfl, hc1, hs1⟩ := H1.out j r1 hr1
        obtain ⟨b2, o2, u2, rfl, hc2, hs2⟩ := H2.out j r2 hr2
        obtain ⟨A1, d1, rfl, hm1, hf1⟩ := strRow_form hs1
        obtain ⟨A2, d2, rfl, hm2, hf2⟩ := strRow_form hs2
        have HR1 := Lib.hid hr1
        have HR2 := Lib.hid hr2
        have HF1 := Lib.hid hf1
        have HF2 := Lib.hid hf2
        have HC1 := Lib.hid hc1
        have HC2 := Lib.hid hc2
        clear hr1 hr2 hf1 hf2 hs1 hs2 hc1 hc2
        obtain ⟨m, hm⟩ : ∃ m : Nat, r1.length = m := ⟨_, rfl⟩
        obtain ⟨m2, hmm⟩ : ∃ m : Nat, r2.length = m := ⟨_, rfl⟩
        rw [hm] at hm1 HC1
        rw [hmm] at hm2 HC2
        by_cases hme : m = m2
        · obtain rfl := hme
          have HM1 := Lib.hid hm
          have HM2 := Lib.hid hmm
          clear hm hmm
          have g1 : (w.drewN z).cell? ⟨b1, o1 + j, none⟩ = some (.slice A1 m d1) := HC1.out
          have g2 : (w.drewN z).cell? ⟨b2, o2 + j, none⟩ = some (.slice A2 m d2) := HC2.out
          obtain ⟨wq, hwq⟩ : ∃ wq, w.drewN z = wq := ⟨_, rfl⟩
          rw [hwq] at g1 g2 ⊢
          have HW := Lib.hid hwq
          clear hwq
          go_wp2_with fail
          go_quiet (fail)
          go_wp2_with fail
          go_loopg [4, 6] m (fun g _ k wr => ∃ q z : Nat, q ≤ m ∧ g = m - q ∧ k = .int .i64 q ∧ wr = w.drewN z ∧ r1.take q = r2.take q)
          case atStart => exact ⟨0, _, Nat.zero_le _, rfl, rfl, by rw [← HW.out, World.drewN_drewN], rfl⟩
          case round =>
            clear g1 g2
            obtain ⟨q, z, hq, rfl, rfl, rfl, ht⟩ := hrel
            have HQ := Lib.hid ht
            clear ht HW
            by_cases hqm : q < m
            · have hq1 : (q : Int) < m := by omega
              have hq0 : (0 : Int) ≤ q := by omega
              obtain ⟨p1, hp1⟩ : ∃ p, r1[q]? = some p := ⟨_, List.getElem?_eq_getElem (by rw [HM1.out]; exact hqm)⟩
              obtain ⟨p2, hp2⟩ : ∃ p, r2[q]? = some p := ⟨_, List.getElem?_eq_getElem (by rw [HM2.out]; exact hqm)⟩
              obtain ⟨b3, o3, rfl, hc3⟩ := HF1.out q p1 hp1
              obtain ⟨b4, o4, rfl, hc4⟩ := HF2.out q p2 hp2
              have HP1 := Lib.hid hp1
              have HP2 := Lib.hid hp2
              clear hp1 hp2
              by_cases hpp : p1 = p2
              · obtain rfl := hpp
                have g1 : (w.drewN z).cell? ⟨b1, o1 + j, none⟩ = some (.slice (some ⟨b3, o3, none⟩) m d1) := HC1.out
                have g2 : (w.drewN z).cell? ⟨b2, o2 + j, none⟩ = some (.slice (some ⟨b4, o4, none⟩) m d2) := HC2.out
                have g3 : (w.drewN z).cell? ⟨b3, o3 + q, none⟩ = some (.string ⟨p1.toArray⟩) := hc3
                have g4 : (w.drewN z).cell? ⟨b4, o4 + q, none⟩ = some (.string ⟨p1.toArray⟩) := hc4
                obtain ⟨wq, hwq⟩ : ∃ wq, w.drewN z = wq := ⟨_, rfl⟩
                rw [hwq] at g1 g2 g3 g4 ⊢
                have HW := Lib.hid hwq
                clear hwq
                clear hc3 hc4
                go_wp2_with fail
                go_quiet (fail)
                go_wp2_with fail
                go_roundg (m - (q + 1))
                case measure => omega
                case rel => exact ⟨q + 1, _, by omega, rfl, by go_num, by rw [← HW.out, World.drewN_drewN], take_both HP1.out HP2.out HQ.out rfl⟩
              · have HPP := Lib.hid hpp
                have hne := hpp
                have hne2 : (p1 == p2) = false := beq_eq_false_iff_ne.2 hpp
                clear hpp
                have g1 : (w.drewN z).cell? ⟨b1, o1 + j, none⟩ = some (.slice (some ⟨b3, o3, none⟩) m d1) := HC1.out
                have g2 : (w.drewN z).cell? ⟨b2, o2 + j, none⟩ = some (.slice (some ⟨b4, o4, none⟩) m d2) := HC2.out
                have g3 : (w.drewN z).cell? ⟨b3, o3 + q, none⟩ = some (.string ⟨p1.toArray⟩) := hc3
                have g4 : (w.drewN z).cell? ⟨b4, o4 + q, none⟩ = some (.string ⟨p2.toArray⟩) := hc4
                obtain ⟨wq, hwq⟩ : ∃ wq, w.drewN z = wq := ⟨_, rfl⟩
                rw [hwq] at g1 g2 g3 g4 ⊢
                have HW := Lib.hid hwq
                clear hwq
                clear hc3 hc4
                go_wp2_with fail
                go_quiet (fail)
                go_wp2_with fail
                go_ret
                exact ⟨ret_bool (sameB_no (at_ne HR1.out HR2.out (at_ne HP1.out HP2.out HPP.out))), _, by rw [← HW.out, World.drewN_drewN]⟩
            · have hqe : q = m := by omega
              have hq1 : ¬ (q : Int) < m := by omega
              have HRR : Hid (r1 = r2) := Lib.hid (by
                have h := HQ.out
                rw [hqe, show r1.take m = r1 from List.take_of_length_le (by rw [HM1.out]; exact Nat.le_refl _), show r2.take m = r2 from List.take_of_length_le (by rw [HM2.out]; exact Nat.le_refl _)] at h
                exact h)
              clear hqe
              have g1 : (w.drewN z).cell? ⟨b1, o1 + j, none⟩ = some (.slice A1 m d1) := HC1.out
              have g2 : (w.drewN z).cell? ⟨b2, o2 + j, none⟩ = some (.slice A2 m d2) := HC2.out
              obtain ⟨wq, hwq⟩ : ∃ wq, w.drewN z = wq := ⟨_, rfl⟩
              rw [hwq] at g1 g2 ⊢
              have HW := Lib.hid hwq
              clear hwq
              go_wp2_with fail
              go_roundg (n - (j + 1))
              case measure => omega
              case rel => exact ⟨j + 1, z, by omega, rfl, by go_num, HW.out.symm, take_both HR1.out HR2.out HT.out HRR.out⟩
        · have HNE : Hid (¬ r1 = r2) := Lib.hid (by
            intro e
            rw [e, hmm] at hm
            exact hme hm.symm)
          have hne : ¬ (m : Int) = m2 := by omega
          have hneN : (m == m2) = false := beq_eq_false_iff_ne.2 hme
          clear hm hmm
          have g1 : (w.drewN z).cell? ⟨b1, o1 + j, none⟩ = some (.slice A1 m d1) := HC1.out
          have g2 : (w.drewN z).cell? ⟨b2, o2 + j, none⟩ = some (.slice A2 m2 d2) := HC2.out
          obtain ⟨wq, hwq⟩ : ∃ wq, w.drewN z = wq := ⟨_, rfl⟩
          rw [hwq] at g1 g2 ⊢
          have HW := Lib.hid hwq
          clear hwq
          go_wp2_with fail
          go_quiet (fail)
          go_wp2_with fail
          go_ret
          exact ⟨ret_bool (sameB_no (at_ne HR1.out HR2.out HNE.out)), _, by rw [← HW.out, World.drewN_drewN]⟩
      · have hje : j = n := by omega
        have hj1 : ¬ (j : Int) < n := by omega
        have HLL : Hid (L1 = L2) := Lib.hid (by
          have h := HT.out
          rw [hje, show L1.take n = L1 from List.take_of_length_le (by rw [HE1.out]; exact Nat.le_refl _), show L2.take n = L2 from List.take_of_length_le (by rw [HE2.out]; exact Nat.le_refl _)] at h
          exact h)
        clear hje
        go_wp2_with fail
        go_ret
        exact ⟨ret_bool (sameB_yes HLL.out), z, rfl⟩
  · have HNE : Hid (¬ L1 = L2) := Lib.hid (by
      intro e
      rw [e, hn2] at hn
      exact hnn hn.symm)
    have hne : ¬ (n : Int) = n2 := by omega
    have hneN : (n == n2) = false := beq_eq_false_iff_ne.2 hnn
    clear hn hn2
    go_enter Try.func68, Try.ntmps68
    go_wp2_with fail
    go_ret
    exact ⟨ret_bool (sameB_no HNE.out), 0, rfl⟩

theorem ssRow_form {w : World} {v : Value} {L : List (List (List UInt8))} (h : SSRow w v L) : ∃ a c, v = .slice a L.length c ∧ L.length ≤ 9223372036854775807 ∧ (∀ (j : Nat) row, L[j]? = some row → ∃ b off u, a = some ⟨b, off, none⟩ ∧ w.cell? ⟨b, off + j, none⟩ = some u ∧ StrRow w u row) := by
  rcases h with ⟨rfl, a, c, rfl⟩ | ⟨b, off, c, rfl, hl, _, hc⟩
  · exact ⟨a, c, rfl, by simp, by simp⟩
  · refine ⟨_, c, rfl, hl, fun j row hj => ?_⟩
    obtain ⟨u, h1, h2⟩ := hc j row hj
    exact ⟨b, off, u, rfl, h1, h2⟩
/-- WHAT spec.SameRows ANSWERS. -/
theorem specSameRows (w : World) (v1 v2 : Value) (L1 L2 : List (List (List UInt8))) (h1 : SSRow w v1 L1) (h2 : SSRow w v2 L2) :
    Calls Try.prog 68 #[v1, v2] w fun e w' => e = .returned (.bool (sameB L1 L2)) ∧ ∃ k, w' = w.drewN k := by
  obtain ⟨a1, c1, rfl, hl1, k1⟩ := ssRow_form h1
  obtain ⟨a2, c2, rfl, hl2, k2⟩ := ssRow_form h2
  exact specSameRows_some w a1 a2 c1 c2 L1 L2 hl1 hl2 k1 k2
end Go.Proofs.Yticeagjonfifbaa
