/-
  The program's comparison of rows of fields.
-/
import Derived.Test.YtklhkebpgoajgaaDoorLawC7
import Derived.Test.YtklhkebpgoajgaaDoorShEq
namespace Go.Proofs.YtklhkebpgoajgaaDoor
open Go.RowKit

theorem strs_at {r : List (List UInt8)} {j : Nat} (h : j < (r.map fun p => (⟨p.toArray⟩ : ByteArray)).length) : ∃ p, r[j]? = some p ∧ (r.map fun p => (⟨p.toArray⟩ : ByteArray)).getD j ByteArray.empty = ⟨p.toArray⟩ := by
  have hj : j < r.length := by simpa using h
  refine ⟨r[j], List.getElem?_eq_getElem hj, ?_⟩
  simp [List.getD, hj]
theorem strs_inj : ∀ {a b : List (List UInt8)}, (a.map fun p => (⟨p.toArray⟩ : ByteArray)) = (b.map fun p => (⟨p.toArray⟩ : ByteArray)) → a = b
  | [], [], _ => rfl
  | [], _ :: _, h => by simp at h
  | _ :: _, [], h => by simp at h
  | x :: a, y :: b, h => by
    simp only [List.map_cons, List.cons.injEq, ByteArray.mk.injEq] at h
    have hx : x = y := by simpa using congrArg Array.toList h.1
    rw [hx, strs_inj h.2]
theorem slEq (w : World) (u1 u2 : Value) (r1 r2 : List (List UInt8)) (h1 : StrRow w u1 r1) (h2 : StrRow w u2 r2) :
    Calls Tryd.prog 33 #[u1, u2] w fun e w' => e = .returned (.bool (decide (r1 = r2))) ∧ ∃ q, w' = w.drewN q := by
  obtain ⟨a1, c1, rfl, hl1, hf1⟩ := strRow_form h1
  obtain ⟨a2, c2, rfl, hl2, hf2⟩ := strRow_form h2
  by_cases hn : r1.length = r2.length
  · cases r1 with
    | nil =>
      obtain rfl : r2 = [] := List.length_eq_zero_iff.1 hn.symm
      refine (Tryd.slices_Equal_string_empty a1 a2 c1 0 c2 w (by omega)).mono fun e w' ⟨he, hw⟩ => ⟨?_, 0, hw⟩
      rw [he]
      rfl
    | cons x t =>
      obtain ⟨y, u, rfl⟩ : ∃ y u, r2 = y :: u := by
        cases r2 with
        | nil => simp at hn
        | cons y u => exact ⟨y, u, rfl⟩
      obtain ⟨b1, o1, rfl, _⟩ := hf1 0 x rfl
      obtain ⟨b2, o2, rfl, _⟩ := hf2 0 y rfl
      refine (Tryd.slices_Equal_string b1 o1 _ c1 b2 o2 _ c2 ((x :: t).map fun p => ⟨p.toArray⟩) ((y :: u).map fun p => ⟨p.toArray⟩) w (by simp) (by simp) hl1 hl2 ?_ ?_).mono fun e w' ⟨he, hw⟩ => ⟨?_, hw⟩
      · intro j hj
        obtain ⟨p, hp, hg⟩ := strs_at hj
        obtain ⟨b, o, hb, hc⟩ := hf1 j p hp
        injection hb with hb
        injection hb with hb ho _
        subst hb
        subst ho
        rw [hg]
        exact hc
      · intro j hj
        obtain ⟨p, hp, hg⟩ := strs_at hj
        obtain ⟨b, o, hb, hc⟩ := hf2 j p hp
        injection hb with hb
        injection hb with hb ho _
        subst hb
        subst ho
        rw [hg]
        exact hc
      · rw [he, List.take_of_length_le (by simp), List.take_of_length_le (by simp)]
        congr 2
        rw [decide_eq_decide]
        exact ⟨strs_inj, fun e => by rw [e]⟩
  · refine (Tryd.slices_Equal_string_lens a1 a2 r1.length c1 r2.length c2 w hn).mono fun e w' ⟨he, hw⟩ => ⟨?_, 0, hw⟩
    rw [he, decide_eq_false (fun e => hn (by rw [e]))]

set_option maxRecDepth 100000 in
set_option maxHeartbeats 4000000 in
theorem eqFn_some (w : World) (a1 a2 : Option Addr) (c1 c2 : Nat) (L1 L2 : List (List (List UInt8))) (hl : L1.length ≤ 9223372036854775807) (hl2 : L2.length ≤ 9223372036854775807)
    (h1 : ∀ (j : Nat) row, L1[j]? = some row → ∃ b off u, a1 = some ⟨b, off, none⟩ ∧ w.cell? ⟨b, off + j, none⟩ = some u ∧ StrRow w u row) (h2 : ∀ (j : Nat) row, L2[j]? = some row → ∃ b off u, a2 = some ⟨b, off, none⟩ ∧ w.cell? ⟨b, off + j, none⟩ = some u ∧ StrRow w u row) :
    Calls Tryd.prog 32 #[.slice a1 L1.length c1, .slice a2 L2.length c2, .func (.func 33) #[] #[]] w fun e w' => e = .returned (.bool (sameB L1 L2)) ∧ ∃ k, w' = w.drewN k := by
  have H1 := Lib.hid h1
  have H2 := Lib.hid h2
  clear h1 h2
  obtain ⟨n, hn⟩ : ∃ n : Nat, L1.length = n := ⟨_, rfl⟩
  obtain ⟨n2, hn2⟩ : ∃ n : Nat, L2.length = n := ⟨_, rfl⟩
  rw [hn] at hl ⊢
  rw [hn2] at hl2 ⊢
  by_cases hnn : n = n2
  · obtain rfl := hnn
    have HE1 := Lib.hid hn
    have HE2 := Lib.hid hn2
    clear hn hn2
    go_enter Tryd.func32, Tryd.ntmps32
    go_wp2_with fail
    go_loopg [6, 7, 8, 9, 17] n (fun g _ _ _ _ i wr => ∃ j z : Nat, j ≤ n ∧ g = n - j ∧ i = .int .i64 j ∧ wr = w.drewN z ∧ L1.take j = L2.take j)
    case atStart => exact ⟨0, 0, Nat.zero_le _, rfl, rfl, rfl, rfl⟩
    case round =>
      obtain ⟨j, z, hj, rfl, rfl, rfl, ht⟩ := hrel
      have HT := Lib.hid ht
      clear ht
      by_cases hlt : j < n
      · have hj1 : (j : Int) < n := by omega
        have hj0 : (0 : Int) ≤ j := by omega
        obtain ⟨r1, hr1⟩ : ∃ r, L1[j]? = some r := ⟨_, List.getElem?_eq_getElem (by rw [HE1.out]; exact hlt)⟩
        obtain ⟨r2, hr2⟩ : ∃ r, L2[j]? = some r := ⟨_, List.getElem?_eq_getElem (by rw [HE2.out]; exact hlt)⟩
        obtain ⟨b1, o1, u1, rfl, hc1, hs1⟩ := H1.out j r1 hr1
        obtain ⟨b2, o2, u2, rfl, hc2, hs2⟩ := H2.out j r2 hr2
        have hB : Below w.heap.size w (w.drewN z) := below_drewN2 (Below.refl _ _) z
        have S1 := Lib.hid (hs1.below hB)
        have S2 := Lib.hid (hs2.below hB)
        have HR1 := Lib.hid hr1
        have HR2 := Lib.hid hr2
        have g1 : (w.drewN z).cell? ⟨b1, o1 + j, none⟩ = some u1 := hc1
        have g2 : (w.drewN z).cell? ⟨b2, o2 + j, none⟩ = some u2 := hc2
        clear hr1 hr2 hs1 hs2 hc1 hc2 hB
        obtain ⟨wq, hwq⟩ : ∃ wq, w.drewN z = wq := ⟨_, rfl⟩
        rw [hwq] at g1 g2 S1 S2 ⊢
        have HW := Lib.hid hwq
        clear hwq
        by_cases hrr : r1 = r2
        · have HRR := Lib.hid hrr
          have hd : decide (r1 = r2) = true := decide_eq_true hrr
          clear hrr
          go_wp2_with fail
          refine (slEq wq u1 u2 r1 r2 S1.out S2.out).mono ?_
          rintro e w1 ⟨rfl, q, rfl⟩
          rw [hd]
          go_wp2_with fail
          go_roundg (n - (j + 1))
          case measure => omega
          case rel => exact ⟨j + 1, _, by omega, rfl, by go_num, by rw [← HW.out, World.drewN_drewN], take_both HR1.out HR2.out HT.out HRR.out⟩
        · have HRR := Lib.hid hrr
          have hd : decide (r1 = r2) = false := decide_eq_false hrr
          clear hrr
          go_wp2_with fail
          refine (slEq wq u1 u2 r1 r2 S1.out S2.out).mono ?_
          rintro e w1 ⟨rfl, q, rfl⟩
          rw [hd]
          go_wp2_with fail
          go_ret
          exact ⟨ret_bool (sameB_no (at_ne HR1.out HR2.out HRR.out)), _, by rw [← HW.out, World.drewN_drewN]⟩
      · have hje : j = n := by omega
        have hj1 : ¬ (j : Int) < n := by omega
        have HLL : Hid (L1 = L2) := Lib.hid (by
          have h := HT.out
          rw [hje, show L1.take n = L1 from List.take_of_length_le (by rw [HE1.out]; exact Nat.le_refl _), show L2.take n = L2 from List.take_of_length_le (by rw [HE2.out]; exact Nat.le_refl _)] at h
          exact h)
        clear hje
        go_wp2_with fail
        go_ret
        exact ⟨ret_bool (sameB_yes HLL.out), z, rfl⟩
  · have HNE : Hid (¬ L1 = L2) := Lib.hid (by
      intro e
      rw [e, hn2] at hn
      exact hnn hn.symm)
    have hne : ¬ (n : Int) = n2 := by omega
    have hneN : (n == n2) = false := beq_eq_false_iff_ne.2 hnn
    clear hn hn2
    go_enter Tryd.func32, Tryd.ntmps32
    go_wp2_with fail
    go_ret
    exact ⟨ret_bool (sameB_no HNE.out), 0, rfl⟩

set_option maxRecDepth 100000 in
theorem implSame : ImplSame := by
  intro w v1 v2 L1 L2 h1 h2 _ _
  obtain ⟨a1, c1, rfl, hl1, hf1⟩ := ssRow_form h1
  obtain ⟨a2, c2, rfl, hl2, hf2⟩ := ssRow_form h2
  have HF := Lib.hid (eqFn_some w a1 a2 c1 c2 L1 L2 hl1 hl2 hf1 hf2)
  clear hf1 hf2 h1 h2
  go_enter Tryd.func13, Tryd.ntmps13
  go_wp2_with fail
  refine HF.out.mono ?_
  rintro e w1 ⟨rfl, q, rfl⟩
  go_wp2_with fail
  go_ret
  exact ⟨rfl, below_drewN2 (Below.refl _ _) q⟩
end Go.Proofs.YtklhkebpgoajgaaDoor
