/-
  What the reference answers for two lists of rows: whether they are equal.
  Decimals: the program's way.
  What the reference answers for two tables: whether they are the same.
  What the reference answers for two tables: whether they are the same; and for a column.
-/
import Derived.Test.YticeagjonfifbaaGreatDoorPk4
import Derived.Test.YticeagjonfifbaaGreatDoorCsvS
import Derived.Deep.LoopGhost
import Derived.Test.YticeagjonfifbaaGreatDoorPk1
import Derived.Test.YticeagjonfifbaaGreatDoorFixR
import Derived.Test.YticeagjonfifbaaGreatDoorPk3
import Derived.Test.YticeagjonfifbaaGreatDoorPk11
import Derived.Test.YticeagjonfifbaaGreatDoorShFix
import Derived.Test.YticeagjonfifbaaGreatDoorTabS
import Derived.Test.YticeagjonfifbaaGreatDoorPk2
namespace Go.Proofs.YticeagjonfifbaaGreatDoor
open Go.RowKit

/-- Whether two lists of rows are equal. -/
def sameB (a b : List (List (List UInt8))) : Bool := decide (a = b)
theorem sameB_yes {a b : List (List (List UInt8))} (h : a = b) : sameB a b = true := decide_eq_true h
theorem sameB_no {a b : List (List (List UInt8))} (h : ¬ a = b) : sameB a b = false := decide_eq_false h
theorem ret_bool {a b : Bool} (h : b = a) : Ending.returned (.bool a) = .returned (.bool b) := by rw [h]
theorem take_both {α : Type} {a b : List α} {j : Nat} {x y : α} (ha : a[j]? = some x) (hb : b[j]? = some y) (h : a.take j = b.take j) (e : x = y) : a.take (j + 1) = b.take (j + 1) := by
  rw [List.take_add_one, List.take_add_one, ha, hb, h, e]
theorem at_ne {α : Type} {a b : List α} {j : Nat} {x y : α} (ha : a[j]? = some x) (hb : b[j]? = some y) (e : ¬ x = y) : ¬ a = b := by
  intro h
  rw [h, hb] at ha
  exact e (Option.some.inj ha).symm
theorem str_ne {a b : List UInt8} (h : ¬ a = b) : ¬ a.toArray = b.toArray := by
  intro e
  exact h (by simpa using congrArg Array.toList e)

set_option maxRecDepth 100000 in
set_option maxHeartbeats 4000000 in
theorem specSameRows_some (w : World) (a1 a2 : Option Addr) (c1 c2 : Nat) (L1 L2 : List (List (List UInt8))) (hl : L1.length ≤ 9223372036854775807) (hl2 : L2.length ≤ 9223372036854775807)
    (h1 : ∀ (j : Nat) row, L1[j]? = some row → ∃ b off u, a1 = some ⟨b, off, none⟩ ∧ w.cell? ⟨b, off + j, none⟩ = some u ∧ StrRow w u row) (h2 : ∀ (j : Nat) row, L2[j]? = some row → ∃ b off u, a2 = some ⟨b, off, none⟩ ∧ w.cell? ⟨b, off + j, none⟩ = some u ∧ StrRow w u row) :
    Calls Tryz.prog 91 #[.slice a1 L1.length c1, .slice a2 L2.length c2] w fun e w' => e = .returned (.bool (sameB L1 L2)) ∧ ∃ k, w' = w.drewN k := by
  have H1 := Lib.hid h1
  have H2 := Lib.hid h2
  clear h1 h2
  obtain ⟨n, hn⟩ : ∃ n : Nat, L1.length = n := ⟨_, rfl⟩
  obtain ⟨n2, hn2⟩ : ∃ n : Nat, L2.length = n := ⟨_, rfl⟩
  rw [hn] at hl ⊢
  rw [hn2] at hl2 ⊢
  by_cases hnn : n = n2
  · obtain rfl := hnn
    have HE1 := Lib.hid hn
    have HE2 := Lib.hid hn2
    clear hn hn2
    go_enter Tryz.func91, Tryz.ntmps91
    go_wp2_with fail
    go_loopg [4, 5, 6] n (fun g _ i _ wr => ∃ j z : Nat, j ≤ n ∧ g = n - j ∧ i = .int .i64 j ∧ wr = w.drewN z ∧ L1.take j = L2.take j)
    case atStart => exact ⟨0, 0, Nat.zero_le _, rfl, rfl, rfl, rfl⟩
    case round =>
      obtain ⟨j, z, hj, rfl, rfl, rfl, ht⟩ := hrel
      have HT := Lib.hid ht
      clear ht
      by_cases hlt : j < n
      · have hj1 : (j : Int) < n := by omega
        have hj0 : (0 : Int) ≤ j := by omega
        obtain ⟨r1, hr1⟩ : ∃ r, L1[j]? = some r := ⟨_, List.getElem?_eq_getElem (by rw [HE1.out]; exact hlt)⟩
        obtain ⟨r2, hr2⟩ : ∃ r, L2[j]? = some r := ⟨_, List.getElem?_eq_getElem (by rw [HE2.out]; exact hlt)⟩
        obtain ⟨b1, o1, u1, rfl, hc1, hs1⟩ := H1.out j r1 hr1
        obtain ⟨b2, o2, u2, rfl, hc2, hs2⟩ := H2.out j r2 hr2
        obtain ⟨A1, d1, rfl, hm1, hf1⟩ := strRow_form hs1
        obtain ⟨A2, d2, rfl, hm2, hf2⟩ := strRow_form hs2
        have HR1 := Lib.hid hr1
        have HR2 := Lib.hid hr2
        have HF1 := Lib.hid hf1
        have HF2 := Lib.hid hf2
        have HC1 := Lib.hid hc1
        have HC2 := Lib.hid hc2
        clear hr1 hr2 hf1 hf2 hs1 hs2 hc1 hc2
        obtain ⟨m, hm⟩ : ∃ m : Nat, r1.length = m := ⟨_, rfl⟩
        obtain ⟨m2, hmm⟩ : ∃ m : Nat, r2.length = m := ⟨_, rfl⟩
        rw [hm] at hm1 HC1
        rw [hmm] at hm2 HC2
        by_cases hme : m = m2
        · obtain rfl := hme
          have HM1 := Lib.hid hm
          have HM2 := Lib.hid hmm
          clear hm hmm
          have g1 : (w.drewN z).cell? ⟨b1, o1 + j, none⟩ = some (.slice A1 m d1) := HC1.out
          have g2 : (w.drewN z).cell? ⟨b2, o2 + j, none⟩ = some (.slice A2 m d2) := HC2.out
          obtain ⟨wq, hwq⟩ : ∃ wq, w.drewN z = wq := ⟨_, rfl⟩
          rw [hwq] at g1 g2 ⊢
          have HW := Lib.hid hwq
          clear hwq
          go_wp2_with fail
          go_quiet (fail)
          go_wp2_with fail
          go_loopg [4, 6] m (fun g _ k wr => ∃ q z : Nat, q ≤ m ∧ g = m - q ∧ k = .int .i64 q ∧ wr = w.drewN z ∧ r1.take q = r2.take q)
          case atStart => exact ⟨0, _, Nat.zero_le _, rfl, rfl, by rw [← HW.out, World.drewN_drewN], rfl⟩
          case round =>
            clear g1 g2
            obtain ⟨q, z, hq, rfl, rfl, rfl, ht⟩ := hrel
            have HQ := Lib.hid ht
            clear ht HW
            by_cases hqm : q < m
            · have hq1 : (q : Int) < m := by omega
              have hq0 : (0 : Int) ≤ q := by omega
              obtain ⟨p1, hp1⟩ : ∃ p, r1[q]? = some p := ⟨_, List.getElem?_eq_getElem (by rw [HM1.out]; exact hqm)⟩
              obtain ⟨p2, hp2⟩ : ∃ p, r2[q]? = some p := ⟨_, List.getElem?_eq_getElem (by rw [HM2.out]; exact hqm)⟩
              obtain ⟨b3, o3, rfl, hc3⟩ := HF1.out q p1 hp1
              obtain ⟨b4, o4, rfl, hc4⟩ := HF2.out q p2 hp2
              have HP1 := Lib.hid hp1
              have HP2 := Lib.hid hp2
              clear hp1 hp2
              by_cases hpp : p1 = p2
              · obtain rfl := hpp
                have g1 : (w.drewN z).cell? ⟨b1, o1 + j, none⟩ = some (.slice (some ⟨b3, o3, none⟩) m d1) := HC1.out
                have g2 : (w.drewN z).cell? ⟨b2, o2 + j, none⟩ = some (.slice (some ⟨b4, o4, none⟩) m d2) := HC2.out
                have g3 : (w.drewN z).cell? ⟨b3, o3 + q, none⟩ = some (.string ⟨p1.toArray⟩) := hc3
                have g4 : (w.drewN z).cell? ⟨b4, o4 + q, none⟩ = some (.string ⟨p1.toArray⟩) := hc4
                obtain ⟨wq, hwq⟩ : ∃ wq, w.drewN z = wq := ⟨_, rfl⟩
                rw [hwq] at g1 g2 g3 g4 ⊢
                have HW := Lib.hid hwq
                clear hwq
                clear hc3 hc4
                go_wp2_with fail
                go_quiet (fail)
                go_wp2_with fail
                go_roundg (m - (q + 1))
                case measure => omega
                case rel => exact ⟨q + 1, _, by omega, rfl, by go_num, by rw [← HW.out, World.drewN_drewN], take_both HP1.out HP2.out HQ.out rfl⟩
              · have HPP := Lib.hid hpp
                have hne := hpp
                have hne2 : (p1 == p2) = false := beq_eq_false_iff_ne.2 hpp
                clear hpp
                have g1 : (w.drewN z).cell? ⟨b1, o1 + j, none⟩ = some (.slice (some ⟨b3, o3, none⟩) m d1) := HC1.out
                have g2 : (w.drewN z).cell? ⟨b2, o2 + j, none⟩ = some (.slice (some ⟨b4, o4, none⟩) m d2) := HC2.out
                have g3 : (w.drewN z).cell? ⟨b3, o3 + q, none⟩ = some (.string ⟨p1.toArray⟩) := hc3
                have g4 : (w.drewN z).cell? ⟨b4, o4 + q, none⟩ = some (.string ⟨p2.toArray⟩) := hc4
                obtain ⟨wq, hwq⟩ : ∃ wq, w.drewN z = wq := ⟨_, rfl⟩
                rw [hwq] at g1 g2 g3 g4 ⊢
                have HW := Lib.hid hwq
                clear hwq
                clear hc3 hc4
                go_wp2_with fail
                go_quiet (fail)
                go_wp2_with fail
                go_ret
                exact ⟨ret_bool (sameB_no (at_ne HR1.out HR2.out (at_ne HP1.out HP2.out HPP.out))), _, by rw [← HW.out, World.drewN_drewN]⟩
            · have hqe : q = m := by omega
              have hq1 : ¬ (q : Int) < m := by omega
              have HRR : Hid (r1 = r2) := Lib.hid (by
                have h := HQ.out
                rw [hqe, show r1.take m = r1 from List.take_of_length_le (by rw [HM1.out]; exact Nat.le_refl _), show r2.take m = r2 from List.take_of_length_le (by rw [HM2.out]; exact Nat.le_refl _)] at h
                exact h)
              clear hqe
              have g1 : (w.drewN z).cell? ⟨b1, o1 + j, none⟩ = some (.slice A1 m d1) := HC1.out
              have g2 : (w.drewN z).cell? ⟨b2, o2 + j, none⟩ = some (.slice A2 m d2) := HC2.out
              obtain ⟨wq, hwq⟩ : ∃ wq, w.drewN z = wq := ⟨_, rfl⟩
              rw [hwq] at g1 g2 ⊢
              have HW := Lib.hid hwq
              clear hwq
              go_wp2_with fail
              go_roundg (n - (j + 1))
              case measure => omega
              case rel => exact ⟨j + 1, z, by omega, rfl, by go_num, HW.out.symm, take_both HR1.out HR2.out HT.out HRR.out⟩
        · have HNE : Hid (¬ r1 = r2) := Lib.hid (by
            intro e
            rw [e, hmm] at hm
            exact hme hm.symm)
          have hne : ¬ (m : Int) = m2 := by omega
          have hneN : (m == m2) = false := beq_eq_false_iff_ne.2 hme
          clear hm hmm
          have g1 : (w.drewN z).cell? ⟨b1, o1 + j, none⟩ = some (.slice A1 m d1) := HC1.out
          have g2 : (w.drewN z).cell? ⟨b2, o2 + j, none⟩ = some (.slice A2 m2 d2) := HC2.out
          obtain ⟨wq, hwq⟩ : ∃ wq, w.drewN z = wq := ⟨_, rfl⟩
          rw [hwq] at g1 g2 ⊢
          have HW := Lib.hid hwq
          clear hwq
          go_wp2_with fail
          go_quiet (fail)
          go_wp2_with fail
          go_ret
          exact ⟨ret_bool (sameB_no (at_ne HR1.out HR2.out HNE.out)), _, by rw [← HW.out, World.drewN_drewN]⟩
      · have hje : j = n := by omega
        have hj1 : ¬ (j : Int) < n := by omega
        have HLL : Hid (L1 = L2) := Lib.hid (by
          have h := HT.out
          rw [hje, show L1.take n = L1 from List.take_of_length_le (by rw [HE1.out]; exact Nat.le_refl _), show L2.take n = L2 from List.take_of_length_le (by rw [HE2.out]; exact Nat.le_refl _)] at h
          exact h)
        clear hje
        go_wp2_with fail
        go_ret
        exact ⟨ret_bool (sameB_yes HLL.out), z, rfl⟩
  · have HNE : Hid (¬ L1 = L2) := Lib.hid (by
      intro e
      rw [e, hn2] at hn
      exact hnn hn.symm)
    have hne : ¬ (n : Int) = n2 := by omega
    have hneN : (n == n2) = false := beq_eq_false_iff_ne.2 hnn
    clear hn hn2
    go_enter Tryz.func91, Tryz.ntmps91
    go_wp2_with fail
    go_ret
    exact ⟨ret_bool (sameB_no HNE.out), 0, rfl⟩

theorem ssRow_form {w : World} {v : Value} {L : List (List (List UInt8))} (h : SSRow w v L) : ∃ a c, v = .slice a L.length c ∧ L.length ≤ 9223372036854775807 ∧ (∀ (j : Nat) row, L[j]? = some row → ∃ b off u, a = some ⟨b, off, none⟩ ∧ w.cell? ⟨b, off + j, none⟩ = some u ∧ StrRow w u row) := by
  rcases h with ⟨rfl, a, c, rfl⟩ | ⟨b, off, c, rfl, hl, _, hc⟩
  · exact ⟨a, c, rfl, by simp, by simp⟩
  · refine ⟨_, c, rfl, hl, fun j row hj => ?_⟩
    obtain ⟨u, h1, h2⟩ := hc j row hj
    exact ⟨b, off, u, rfl, h1, h2⟩
/-- WHAT spec.SameRows ANSWERS. -/
theorem specSameRows (w : World) (v1 v2 : Value) (L1 L2 : List (List (List UInt8))) (h1 : SSRow w v1 L1) (h2 : SSRow w v2 L2) :
    Calls Tryz.prog 91 #[v1, v2] w fun e w' => e = .returned (.bool (sameB L1 L2)) ∧ ∃ k, w' = w.drewN k := by
  obtain ⟨a1, c1, rfl, hl1, k1⟩ := ssRow_form h1
  obtain ⟨a2, c2, rfl, hl2, k2⟩ := ssRow_form h2
  exact specSameRows_some w a1 a2 c1 c2 L1 L2 hl1 hl2 k1 k2
end Go.Proofs.YticeagjonfifbaaGreatDoor
namespace Go.Proofs.YticeagjonfifbaaGreatDoor
open Go.RowKit

/-- What the library needs of a world. -/
structure Lib6 (w : World) : Prop where
  tab : Lib.TabIs Tryz.prog w "internal/strconv.uint64pow10" .u64 Lib.pow10Tab
  hg : 1 < w.heap.size
  errS : ∃ tp p, w.var? Tryz.prog "strconv.ErrSyntax" = some #[.iface tp p]
  errR : ∃ tp p, w.var? Tryz.prog "strconv.ErrRange" = some #[.iface tp p]
  mx : ∃ m, w.cell? ⟨4, 0, none⟩ = some (.int .i64 m)
theorem Lib6.mono {w w' : World} (h : Lib6 w) (hB : Below w.heap.size w w') : Lib6 w' := by
  obtain ⟨ht, hg, ⟨tp, p, hs⟩, ⟨tq, q, hr⟩, ⟨m, hm⟩⟩ := h
  exact ⟨tabIs_below ht hB gPow hg, Nat.lt_of_lt_of_le hg hB.size, ⟨tp, p, var?_below hB gES (var_lt gES hs) hs⟩, ⟨tq, q, var?_below hB gER (var_lt gER hr) hr⟩, ⟨m, cell_keep6 hm hB⟩⟩
theorem implNumberE (s : ByteArray) (hsz : s.size ≤ 1048576) (w : World) (h : Lib6 w) :
    Calls Tryz.prog 131 #[.string s] w fun e w' => e = numE s.data.toList ∧ Below w.heap.size w w' := by
  obtain ⟨ht, hg, ⟨tp, p, hs⟩, ⟨tq, q, hr⟩, _⟩ := h
  exact (implNumber s hsz tp tq p q w ht hg hs hr).mono fun _ _ k => ⟨nr_numE k.1, k.2⟩
/-- Whether an integer is a decimal. -/
def decB (n : Int) : Bool := decide (-2147483647 ≤ n ∧ n ≤ 2147483647)
theorem decB_yes {n : Int} (h0 : -2147483647 ≤ n) (h1 : n ≤ 2147483647) : decB n = true := by unfold decB; simp; omega
theorem decB_no {n : Int} (h : n < -2147483647 ∨ 2147483647 < n) : decB n = false := by unfold decB; simp; omega
theorem implIsDecimal (n : Int) (w : World) :
    Calls Tryz.prog 74 #[.int .i64 n] w fun e w' => e = .returned (.bool (decB n)) ∧ w = w' := by
  by_cases h0 : -2147483647 ≤ n
  · by_cases h1 : n ≤ 2147483647
    · rw [decB_yes h0 h1]
      go_enter Tryz.func74, Tryz.ntmps74
      go_wp2
      go_ret
      exact ⟨by first | rfl | (simp; done) | (simp; omega), rfl⟩
    · rw [decB_no (by omega)]
      go_enter Tryz.func74, Tryz.ntmps74
      go_wp2
      go_ret
      exact ⟨by first | rfl | (simp; done) | (simp; omega), rfl⟩
  · rw [decB_no (by omega)]
    go_enter Tryz.func74, Tryz.ntmps74
    go_wp2
    go_ret
    exact ⟨by first | rfl | (simp; done) | (simp; omega), rfl⟩
theorem ret_string {a b : ByteArray} (h : a = b) : Ending.returned (.string a) = .returned (.string b) := by rw [h]
theorem cut_tail {tp : List UInt8} (h : tp.length = 3) : (ByteArray.mk (49 :: tp).toArray).extract 1 4 = ⟨tp.toArray⟩ := by
  rw [extract_mk]
  simp [List.take_of_length_le, h]
theorem fix_sum (sg : List UInt8) {tw tf : List UInt8} : (ByteArray.mk sg.toArray ++ ⟨tw.toArray⟩ ++ ⟨#[46]⟩ ++ ⟨tf.toArray⟩) = ⟨(sg ++ (tw ++ 46 :: tf)).toArray⟩ := by
  apply ByteArray.ext
  simp
theorem libTrimRight (tp tf : List UInt8) (ht : tp.length ≤ 100) (h : Lib.trimRightB tp 48 = tf) (w : World) :
    Calls Tryz.prog 76 #[.string ⟨tp.toArray⟩, .string ⟨#[48]⟩] w fun e w' => e = .returned (.string ⟨tf.toArray⟩) ∧ w = w' :=
  (Tryz.strings_TrimRight_one ⟨tp.toArray⟩ 48 (by decide) w (by simp only [ByteArray.size, List.size_toArray]; omega)).mono fun e w' ⟨he, hw⟩ => ⟨by rw [he, ← h], hw.symm⟩
set_option maxRecDepth 100000 in
set_option maxHeartbeats 1000000 in
theorem implFixText_out (n : Int) (hk : Hid (decB n = false)) (w : World) :
    Calls Tryz.prog 26 #[.int .i64 n] w fun e w' => e = .returned (.string ⟨#[]⟩) ∧ Below w.heap.size w w' := by
  go_enter Tryz.func26, Tryz.ntmps26
  go_wp2_with fail
  refine (implIsDecimal n _).mono ?_
  rintro e w1 ⟨rfl, rfl⟩
  rw [hk.out]
  go_wp2_with fail
  go_ret
  exact ⟨rfl, Below.refl _ _⟩
set_option maxRecDepth 100000 in
set_option maxHeartbeats 1000000 in
theorem implFixText_pos_whole (m : Nat) (hm : m ≤ 2147483647)  (hr : m % 1000 = 0) (hk : Hid (decB ((m : Int)) = true)) (tw : List UInt8) (hd : Hid (Lib.itoa ((m : Int) / 1000) = tw)) (a0 : tw.length ≤ 20)  (w : World) (htab : Lib.TabIs Tryz.prog w "internal/strconv.uint64pow10" .u64 Lib.pow10Tab) (_hg : 1 < w.heap.size) :
    Calls Tryz.prog 26 #[.int .i64 ((m : Int))] w fun e w' => e = .returned (.string ⟨((tw)).toArray⟩) ∧ Below w.heap.size w w' := by
  have q0 : IntKind.i64.wrap ((m : Int) / 1000) = (m : Int) / 1000 := IntWalk.i64_in _ (by omega)
  have q1 : ((m : Int) % 1000 == 0) = true := by rw [beq_iff_eq]; omega
  have d0 : -9223372036854775808 ≤ (m : Int) / 1000 := by omega
  have d1 : (m : Int) / 1000 ≤ 9223372036854775807 := by omega
  clear hr
  go_enter Tryz.func26, Tryz.ntmps26
  go_wp2_with fail
  refine (implIsDecimal _ _).mono ?_
  rintro e w1 ⟨rfl, rfl⟩
  rw [hk.out]
  go_wp2_with fail
  refine (implDigits ((m : Int) / 1000) d0 d1 _ htab).mono ?_
  rintro e w2 ⟨rfl, hB⟩
  rw [hd.out]
  have HT := Lib.hid hB
  clear hB
  go_wp2_with fail
  go_ret
  exact ⟨ret_string (fix_cat ([] : List UInt8) tw), HT.out⟩
set_option maxRecDepth 100000 in
set_option maxHeartbeats 1000000 in
theorem implFixText_pos_frac (m : Nat) (hm : m ≤ 2147483647)  (hr : m % 1000 ≠ 0) (hk : Hid (decB ((m : Int)) = true)) (tw : List UInt8) (hd : Hid (Lib.itoa ((m : Int) / 1000) = tw)) (a0 : tw.length ≤ 20) (tp tf : List UInt8) (hp : Hid (Lib.itoa (1000 + ((m % 1000 : Nat) : Int)) = 49 :: tp)) (hf : Hid (Lib.trimRightB tp 48 = tf)) (a1 : tf.length ≤ 3) (a2 : tp.length = 3) (w : World) (htab : Lib.TabIs Tryz.prog w "internal/strconv.uint64pow10" .u64 Lib.pow10Tab) (hg : 1 < w.heap.size) :
    Calls Tryz.prog 26 #[.int .i64 ((m : Int))] w fun e w' => e = .returned (.string ⟨((tw ++ 46 :: tf)).toArray⟩) ∧ Below w.heap.size w w' := by
  have q0 : IntKind.i64.wrap ((m : Int) / 1000) = (m : Int) / 1000 := IntWalk.i64_in _ (by omega)
  have q1 : ((m : Int) % 1000 == 0) = false := by rw [beq_eq_false_iff_ne]; omega
  have d0 : -9223372036854775808 ≤ (m : Int) / 1000 := by omega
  have d1 : (m : Int) / 1000 ≤ 9223372036854775807 := by omega
  clear hr
  go_enter Tryz.func26, Tryz.ntmps26
  go_wp2_with fail
  refine (implIsDecimal _ _).mono ?_
  rintro e w1 ⟨rfl, rfl⟩
  rw [hk.out]
  go_wp2_with fail
  refine (implDigits ((m : Int) / 1000) d0 d1 _ htab).mono ?_
  rintro e w2 ⟨rfl, hB⟩
  rw [hd.out]
  have HT := Lib.hid hB
  clear hB
  go_wp2_with fail
  refine (implDigits (1000 + (m : Int) % 1000) (by omega) (by omega) _ (tabIs_below htab HT.out gPow hg)).mono ?_
  rintro e w3 ⟨rfl, hB⟩
  have hp2 : Hid (Lib.itoa (1000 + (m : Int) % 1000) = 49 :: tp) := Lib.hid (by have := hp.out; rwa [show ((m % 1000 : Nat) : Int) = (m : Int) % 1000 by omega] at this)
  rw [hp2.out]
  replace HT := Lib.hid (bt HT.out hB)
  clear hB
  go_wp2_with fail
  simp only [cut_tail a2]
  refine (libTrimRight tp tf (by omega) hf.out _).mono ?_
  rintro e w4 ⟨rfl, rfl⟩
  go_wp2_with fail
  go_ret
  exact ⟨ret_string (fix_sum ([] : List UInt8)), HT.out⟩
set_option maxRecDepth 100000 in
set_option maxHeartbeats 1000000 in
theorem implFixText_neg_whole (m : Nat) (hm : m ≤ 2147483647) (hn : -(m : Int) < 0) (hr : m % 1000 = 0) (hk : Hid (decB (-(m : Int)) = true)) (tw : List UInt8) (hd : Hid (Lib.itoa ((m : Int) / 1000) = tw)) (a0 : tw.length ≤ 20)  (w : World) (htab : Lib.TabIs Tryz.prog w "internal/strconv.uint64pow10" .u64 Lib.pow10Tab) (_hg : 1 < w.heap.size) :
    Calls Tryz.prog 26 #[.int .i64 (-(m : Int))] w fun e w' => e = .returned (.string ⟨(45 :: (tw)).toArray⟩) ∧ Below w.heap.size w w' := by
  have q0 : IntKind.i64.wrap ((m : Int) / 1000) = (m : Int) / 1000 := IntWalk.i64_in _ (by omega)
  have q1 : ((m : Int) % 1000 == 0) = true := by rw [beq_iff_eq]; omega
  have d0 : -9223372036854775808 ≤ (m : Int) / 1000 := by omega
  have d1 : (m : Int) / 1000 ≤ 9223372036854775807 := by omega
  clear hr
  go_enter Tryz.func26, Tryz.ntmps26
  go_wp2_with fail
  refine (implIsDecimal _ _).mono ?_
  rintro e w1 ⟨rfl, rfl⟩
  rw [hk.out]
  go_wp2_with fail
  refine (implDigits ((m : Int) / 1000) d0 d1 _ htab).mono ?_
  rintro e w2 ⟨rfl, hB⟩
  rw [hd.out]
  have HT := Lib.hid hB
  clear hB
  go_wp2_with fail
  go_ret
  exact ⟨ret_string (fix_cat [45] tw), HT.out⟩
set_option maxRecDepth 100000 in
set_option maxHeartbeats 1000000 in
theorem implFixText_neg_frac (m : Nat) (hm : m ≤ 2147483647) (hn : -(m : Int) < 0) (hr : m % 1000 ≠ 0) (hk : Hid (decB (-(m : Int)) = true)) (tw : List UInt8) (hd : Hid (Lib.itoa ((m : Int) / 1000) = tw)) (a0 : tw.length ≤ 20) (tp tf : List UInt8) (hp : Hid (Lib.itoa (1000 + ((m % 1000 : Nat) : Int)) = 49 :: tp)) (hf : Hid (Lib.trimRightB tp 48 = tf)) (a1 : tf.length ≤ 3) (a2 : tp.length = 3) (w : World) (htab : Lib.TabIs Tryz.prog w "internal/strconv.uint64pow10" .u64 Lib.pow10Tab) (hg : 1 < w.heap.size) :
    Calls Tryz.prog 26 #[.int .i64 (-(m : Int))] w fun e w' => e = .returned (.string ⟨(45 :: (tw ++ 46 :: tf)).toArray⟩) ∧ Below w.heap.size w w' := by
  have q0 : IntKind.i64.wrap ((m : Int) / 1000) = (m : Int) / 1000 := IntWalk.i64_in _ (by omega)
  have q1 : ((m : Int) % 1000 == 0) = false := by rw [beq_eq_false_iff_ne]; omega
  have d0 : -9223372036854775808 ≤ (m : Int) / 1000 := by omega
  have d1 : (m : Int) / 1000 ≤ 9223372036854775807 := by omega
  clear hr
  go_enter Tryz.func26, Tryz.ntmps26
  go_wp2_with fail
  refine (implIsDecimal _ _).mono ?_
  rintro e w1 ⟨rfl, rfl⟩
  rw [hk.out]
  go_wp2_with fail
  refine (implDigits ((m : Int) / 1000) d0 d1 _ htab).mono ?_
  rintro e w2 ⟨rfl, hB⟩
  rw [hd.out]
  have HT := Lib.hid hB
  clear hB
  go_wp2_with fail
  refine (implDigits (1000 + (m : Int) % 1000) (by omega) (by omega) _ (tabIs_below htab HT.out gPow hg)).mono ?_
  rintro e w3 ⟨rfl, hB⟩
  have hp2 : Hid (Lib.itoa (1000 + (m : Int) % 1000) = 49 :: tp) := Lib.hid (by have := hp.out; rwa [show ((m % 1000 : Nat) : Int) = (m : Int) % 1000 by omega] at this)
  rw [hp2.out]
  replace HT := Lib.hid (bt HT.out hB)
  clear hB
  go_wp2_with fail
  simp only [cut_tail a2]
  refine (libTrimRight tp tf (by omega) hf.out _).mono ?_
  rintro e w4 ⟨rfl, rfl⟩
  go_wp2_with fail
  go_ret
  exact ⟨ret_string (fix_sum [45]), HT.out⟩
end Go.Proofs.YticeagjonfifbaaGreatDoor
namespace Go.Proofs.YticeagjonfifbaaGreatDoor
open Go.RowKit

/-- Whether two lists of numbers are equal. -/
def sameI9 (a b : List Int) : Bool := decide (a = b)
theorem sameI9_yes {a b : List Int} (h : a = b) : sameI9 a b = true := decide_eq_true h
theorem sameI9_no {a b : List Int} (h : ¬ a = b) : sameI9 a b = false := decide_eq_false h
theorem take_both9 {a b : List Int} {j : Nat} {x y : Int} (ha : a[j]? = some x) (hb : b[j]? = some y) (h : a.take j = b.take j) (e : x = y) : a.take (j + 1) = b.take (j + 1) := by
  rw [List.take_add_one, List.take_add_one, ha, hb, h, e]
theorem at_ne9 {a b : List Int} {j : Nat} {x y : Int} (ha : a[j]? = some x) (hb : b[j]? = some y) (e : ¬ x = y) : ¬ a = b := by
  intro h
  rw [h, hb] at ha
  exact e (Option.some.inj ha).symm

set_option maxRecDepth 100000 in
set_option maxHeartbeats 2000000 in
theorem specInts9_some (w : World) (a1 a2 : Option Addr) (c1 c2 : Nat) (L1 L2 : List Int) (hl : L1.length ≤ 9223372036854775807) (hl2 : L2.length ≤ 9223372036854775807)
    (h1 : ∀ (j : Nat) z, L1[j]? = some z → ∃ b off, a1 = some ⟨b, off, none⟩ ∧ w.cell? ⟨b, off + j, none⟩ = some (.int .i64 z)) (h2 : ∀ (j : Nat) z, L2[j]? = some z → ∃ b off, a2 = some ⟨b, off, none⟩ ∧ w.cell? ⟨b, off + j, none⟩ = some (.int .i64 z)) :
    Calls Tryz.prog 39 #[.slice a1 L1.length c1, .slice a2 L2.length c2] w fun e w' => e = .returned (.bool (sameI9 L1 L2)) ∧ ∃ k, w' = w.drewN k := by
  have H1 := Lib.hid h1
  have H2 := Lib.hid h2
  clear h1 h2
  obtain ⟨n, hn⟩ : ∃ n : Nat, L1.length = n := ⟨_, rfl⟩
  obtain ⟨n2, hn2⟩ : ∃ n : Nat, L2.length = n := ⟨_, rfl⟩
  rw [hn] at hl ⊢
  rw [hn2] at hl2 ⊢
  by_cases hnn : n = n2
  · obtain rfl := hnn
    have HE1 := Lib.hid hn
    have HE2 := Lib.hid hn2
    clear hn hn2
    go_enter Tryz.func39, Tryz.ntmps39
    go_wp2_with fail
    go_loopw [4, 5] (fun _ i wr => ∃ j z : Nat, j ≤ n ∧ i = .int .i64 j ∧ wr = w.drewN z ∧ L1.take j = L2.take j) (fun _ i _ => n - (intOf i).toNat)
    case atStart => exact ⟨0, 0, Nat.zero_le _, rfl, rfl, rfl⟩
    case round =>
      obtain ⟨j, z, hj, rfl, rfl, ht⟩ := hrel
      have HT := Lib.hid ht
      clear ht
      by_cases hlt : j < n
      · have hj1 : (j : Int) < n := by omega
        have hj0 : (0 : Int) ≤ j := by omega
        obtain ⟨x1, hx1⟩ : ∃ r, L1[j]? = some r := ⟨_, List.getElem?_eq_getElem (by rw [HE1.out]; exact hlt)⟩
        obtain ⟨x2, hx2⟩ : ∃ r, L2[j]? = some r := ⟨_, List.getElem?_eq_getElem (by rw [HE2.out]; exact hlt)⟩
        obtain ⟨b1, o1, rfl, hc1⟩ := H1.out j x1 hx1
        obtain ⟨b2, o2, rfl, hc2⟩ := H2.out j x2 hx2
        have HX1 := Lib.hid hx1
        have HX2 := Lib.hid hx2
        clear hx1 hx2
        by_cases hxx : x1 = x2
        · obtain rfl := hxx
          have g1 : (w.drewN z).cell? ⟨b1, o1 + j, none⟩ = some (.int .i64 x1) := hc1
          have g2 : (w.drewN z).cell? ⟨b2, o2 + j, none⟩ = some (.int .i64 x1) := hc2
          obtain ⟨wq, hwq⟩ : ∃ wq, w.drewN z = wq := ⟨_, rfl⟩
          rw [hwq] at g1 g2 ⊢
          have HW := Lib.hid hwq
          clear hwq
          clear hc1 hc2
          go_wp2_with fail
          go_quiet (fail)
          go_wp2_with fail
          go_roundw
          case rel => exact ⟨j + 1, _, by omega, by go_num, by rw [← HW.out, World.drewN_drewN], take_both9 HX1.out HX2.out HT.out rfl⟩
          case measure => simp [intOf]; omega
        · have HXX := Lib.hid hxx
          have hne : (x1 == x2) = false := beq_eq_false_iff_ne.2 hxx
          have hne2 : ¬ x1 = x2 := hxx
          clear hxx
          have g1 : (w.drewN z).cell? ⟨b1, o1 + j, none⟩ = some (.int .i64 x1) := hc1
          have g2 : (w.drewN z).cell? ⟨b2, o2 + j, none⟩ = some (.int .i64 x2) := hc2
          obtain ⟨wq, hwq⟩ : ∃ wq, w.drewN z = wq := ⟨_, rfl⟩
          rw [hwq] at g1 g2 ⊢
          have HW := Lib.hid hwq
          clear hwq
          clear hc1 hc2
          go_wp2_with fail
          go_quiet (fail)
          go_wp2_with fail
          go_ret
          exact ⟨ret_bool9 (sameI9_no (at_ne9 HX1.out HX2.out HXX.out)).symm, _, by rw [← HW.out, World.drewN_drewN]⟩
      · have hje : j = n := by omega
        have hj1 : ¬ (j : Int) < n := by omega
        have HLL : Hid (L1 = L2) := Lib.hid (by
          have h := HT.out
          rw [hje, show L1.take n = L1 from List.take_of_length_le (by rw [HE1.out]; exact Nat.le_refl _), show L2.take n = L2 from List.take_of_length_le (by rw [HE2.out]; exact Nat.le_refl _)] at h
          exact h)
        clear hje
        go_wp2_with fail
        go_ret
        exact ⟨ret_bool9 (sameI9_yes HLL.out).symm, z, rfl⟩
  · have HNE : Hid (¬ L1 = L2) := Lib.hid (by
      intro e
      rw [e, hn2] at hn
      exact hnn hn.symm)
    have hne : ¬ (n : Int) = n2 := by omega
    have hneN : (n == n2) = false := beq_eq_false_iff_ne.2 hnn
    clear hn hn2
    go_enter Tryz.func39, Tryz.ntmps39
    go_wp2_with fail
    go_ret
    exact ⟨ret_bool9 (sameI9_no HNE.out).symm, 0, rfl⟩

theorem specInts9 (w : World) (v1 v2 : Value) (L1 L2 : List Int) (h1 : IntRow w v1 L1) (h2 : IntRow w v2 L2) :
    Calls Tryz.prog 39 #[v1, v2] w fun e w' => e = .returned (.bool (sameI9 L1 L2)) ∧ Below w.heap.size w w' := by
  obtain ⟨a1, c1, rfl, hl1, k1⟩ := intRow_form h1
  obtain ⟨a2, c2, rfl, hl2, k2⟩ := intRow_form h2
  exact (specInts9_some w a1 a2 c1 c2 L1 L2 hl1 hl2 k1 k2).mono fun e w' ⟨he, q, hw⟩ => ⟨he, by rw [hw]; exact below_drewN2 (Below.refl _ _) q⟩

theorem iiRow_cells {w : World} {v : Value} {L : List (List Int)} (h : IIRow w v L) : ∃ a c, v = .slice a L.length c ∧ L.length ≤ 9223372036854775807 ∧ (∀ (q : Nat) r, L[q]? = some r → ∃ b off u, a = some ⟨b, off, none⟩ ∧ w.cell? ⟨b, off + q, none⟩ = some u ∧ IntRow w u r) := by
  rcases h with ⟨rfl, a, c, rfl⟩ | ⟨b, off, c, rfl, hl, _, hc⟩
  · exact ⟨a, c, rfl, by simp, by simp⟩
  · exact ⟨_, c, rfl, hl, fun q p hp => by
      obtain ⟨u, hu, hr⟩ := hc q p hp
      exact ⟨b, off, u, rfl, hu, hr⟩⟩
theorem specInts9_q (w : World) (v1 v2 : Value) (L1 L2 : List Int) (h1 : IntRow w v1 L1) (h2 : IntRow w v2 L2) (r : Bool) (hr : sameI9 L1 L2 = r) :
    Calls Tryz.prog 39 #[v1, v2] w fun e w' => e = .returned (.bool r) ∧ ∃ k, w' = w.drewN k := by
  obtain ⟨a1, c1, rfl, hl1, k1⟩ := intRow_form h1
  obtain ⟨a2, c2, rfl, hl2, k2⟩ := intRow_form h2
  rw [← hr]
  exact specInts9_some w a1 a2 c1 c2 L1 L2 hl1 hl2 k1 k2
/-- Whether two lists of lists of numbers are equal. -/
def sameG9 (a b : List (List Int)) : Bool := decide (a = b)
theorem sameG9_yes {a b : List (List Int)} (h : a = b) : sameG9 a b = true := decide_eq_true h
theorem sameG9_no {a b : List (List Int)} (h : ¬ a = b) : sameG9 a b = false := decide_eq_false h
theorem take_bothG {a b : List (List Int)} {j : Nat} {x y : List Int} (ha : a[j]? = some x) (hb : b[j]? = some y) (h : a.take j = b.take j) (e : x = y) : a.take (j + 1) = b.take (j + 1) := by
  rw [List.take_add_one, List.take_add_one, ha, hb, h, e]
theorem at_neG {a b : List (List Int)} {j : Nat} {x y : List Int} (ha : a[j]? = some x) (hb : b[j]? = some y) (e : ¬ x = y) : ¬ a = b := by
  intro h
  rw [h, hb] at ha
  exact e (Option.some.inj ha).symm

set_option maxRecDepth 100000 in
set_option maxHeartbeats 2000000 in
theorem specGrids_some (w : World) (a1 a2 : Option Addr) (c1 c2 : Nat) (L1 L2 : List (List Int)) (hl : L1.length ≤ 9223372036854775807) (hl2 : L2.length ≤ 9223372036854775807)
    (h1 : ∀ (j : Nat) r, L1[j]? = some r → ∃ b off u, a1 = some ⟨b, off, none⟩ ∧ w.cell? ⟨b, off + j, none⟩ = some u ∧ IntRow w u r) (h2 : ∀ (j : Nat) r, L2[j]? = some r → ∃ b off u, a2 = some ⟨b, off, none⟩ ∧ w.cell? ⟨b, off + j, none⟩ = some u ∧ IntRow w u r) :
    Calls Tryz.prog 38 #[.slice a1 L1.length c1, .slice a2 L2.length c2] w fun e w' => e = .returned (.bool (sameG9 L1 L2)) ∧ ∃ k, w' = w.drewN k := by
  have H1 := Lib.hid h1
  have H2 := Lib.hid h2
  clear h1 h2
  obtain ⟨n, hn⟩ : ∃ n : Nat, L1.length = n := ⟨_, rfl⟩
  obtain ⟨n2, hn2⟩ : ∃ n : Nat, L2.length = n := ⟨_, rfl⟩
  rw [hn] at hl ⊢
  rw [hn2] at hl2 ⊢
  by_cases hnn : n = n2
  · obtain rfl := hnn
    have HE1 := Lib.hid hn
    have HE2 := Lib.hid hn2
    clear hn hn2
    go_enter Tryz.func38, Tryz.ntmps38
    go_wp2_with fail
    go_loopw [4, 5] (fun _ i wr => ∃ j z : Nat, j ≤ n ∧ i = .int .i64 j ∧ wr = w.drewN z ∧ L1.take j = L2.take j) (fun _ i _ => n - (intOf i).toNat)
    case atStart => exact ⟨0, 0, Nat.zero_le _, rfl, rfl, rfl⟩
    case round =>
      obtain ⟨j, z, hj, rfl, rfl, ht⟩ := hrel
      have HT := Lib.hid ht
      clear ht
      by_cases hlt : j < n
      · have hj1 : (j : Int) < n := by omega
        have hj0 : (0 : Int) ≤ j := by omega
        obtain ⟨x1, hx1⟩ : ∃ r, L1[j]? = some r := ⟨_, List.getElem?_eq_getElem (by rw [HE1.out]; exact hlt)⟩
        obtain ⟨x2, hx2⟩ : ∃ r, L2[j]? = some r := ⟨_, List.getElem?_eq_getElem (by rw [HE2.out]; exact hlt)⟩
        obtain ⟨b1, o1, u1, rfl, hc1, hr1⟩ := H1.out j x1 hx1
        obtain ⟨b2, o2, u2, rfl, hc2, hr2⟩ := H2.out j x2 hx2
        have HX1 := Lib.hid hx1
        have HX2 := Lib.hid hx2
        have g1 : (w.drewN z).cell? ⟨b1, o1 + j, none⟩ = some u1 := hc1
        have g2 : (w.drewN z).cell? ⟨b2, o2 + j, none⟩ = some u2 := hc2
        have s1 : IntRow (w.drewN z) u1 x1 := hr1
        have s2 : IntRow (w.drewN z) u2 x2 := hr2
        obtain ⟨wq, hwq⟩ : ∃ wq, w.drewN z = wq := ⟨_, rfl⟩
        rw [hwq] at g1 g2 s1 s2 ⊢
        have HW := Lib.hid hwq
        have R1 : ∀ z, Hid (IntRow (wq.drewN z) u1 x1) := fun z => s1
        have R2 : ∀ z, Hid (IntRow (wq.drewN z) u2 x2) := fun z => s2
        clear hx1 hx2 hwq hc1 hc2 hr1 hr2 s1 s2
        by_cases hxx : x1 = x2
        · have HXX := Lib.hid hxx
          have HB := Lib.hid (sameI9_yes hxx)
          clear hxx
          go_wp2_with fail
          go_quiet ((go_at_call 39; exact Calls.quiet_of (specInts9_q _ _ _ x1 x2 (R1 _).out (R2 _).out true HB.out)))
          go_wp2_with fail
          go_roundw
          case rel => exact ⟨j + 1, _, by omega, by go_num, by rw [← HW.out, World.drewN_drewN], take_bothG HX1.out HX2.out HT.out HXX.out⟩
          case measure => simp [intOf]; omega
        · have HXX := Lib.hid hxx
          have HB := Lib.hid (sameI9_no hxx)
          clear hxx
          go_wp2_with fail
          go_quiet ((go_at_call 39; exact Calls.quiet_of (specInts9_q _ _ _ x1 x2 (R1 _).out (R2 _).out false HB.out)))
          go_wp2_with fail
          go_ret
          exact ⟨ret_bool9 (sameG9_no (at_neG HX1.out HX2.out HXX.out)).symm, _, by rw [← HW.out, World.drewN_drewN]⟩
      · have hje : j = n := by omega
        have hj1 : ¬ (j : Int) < n := by omega
        have HLL : Hid (L1 = L2) := Lib.hid (by
          have h := HT.out
          rw [hje, show L1.take n = L1 from List.take_of_length_le (by rw [HE1.out]; exact Nat.le_refl _), show L2.take n = L2 from List.take_of_length_le (by rw [HE2.out]; exact Nat.le_refl _)] at h
          exact h)
        clear hje
        go_wp2_with fail
        go_ret
        exact ⟨ret_bool9 (sameG9_yes HLL.out).symm, z, rfl⟩
  · have HNE : Hid (¬ L1 = L2) := Lib.hid (by
      intro e
      rw [e, hn2] at hn
      exact hnn hn.symm)
    have hne : ¬ (n : Int) = n2 := by omega
    have hneN : (n == n2) = false := beq_eq_false_iff_ne.2 hnn
    clear hn hn2
    go_enter Tryz.func38, Tryz.ntmps38
    go_wp2_with fail
    go_ret
    exact ⟨ret_bool9 (sameG9_no HNE.out).symm, 0, rfl⟩

theorem specGrids (w : World) (v1 v2 : Value) (L1 L2 : List (List Int)) (h1 : IIRow w v1 L1) (h2 : IIRow w v2 L2) :
    Calls Tryz.prog 38 #[v1, v2] w fun e w' => e = .returned (.bool (sameG9 L1 L2)) ∧ Below w.heap.size w w' := by
  obtain ⟨a1, c1, rfl, hl1, k1⟩ := iiRow_cells h1
  obtain ⟨a2, c2, rfl, hl2, k2⟩ := iiRow_cells h2
  exact (specGrids_some w a1 a2 c1 c2 L1 L2 hl1 hl2 k1 k2).mono fun e w' ⟨he, q, hw⟩ => ⟨he, by rw [hw]; exact below_drewN2 (Below.refl _ _) q⟩
end Go.Proofs.YticeagjonfifbaaGreatDoor
namespace Go.Proofs.YticeagjonfifbaaGreatDoor
open Go.RowKit

theorem ssRow_one {w : World} {v : Value} {L : List (List UInt8)} (h : StrRow w v L) (n : Nat) (hc : w.cell? ⟨n, 0, none⟩ = some v) : SSRow w (.slice (some ⟨n, 0, none⟩) 1 1) [L] := by
  refine Or.inr ⟨n, 0, 1, rfl, by simp, by simp, fun j row hj => ?_⟩
  have hj0 : j = 0 := by
    have := (List.getElem?_eq_some_iff.1 hj).1
    simpa using this
  subst hj0
  obtain rfl : L = row := by simpa using hj
  exact ⟨v, hc, h⟩

set_option maxRecDepth 100000 in
theorem specTexts (w : World) (v1 v2 : Value) (L1 L2 : List (List UInt8)) (h1 : StrRow w v1 L1) (h2 : StrRow w v2 L2) :
    Calls Tryz.prog 37 #[v1, v2] w fun e w' => e = .returned (.bool (sameB [L1] [L2])) ∧ Below w.heap.size w w' := by
  obtain ⟨a1, c1, rfl, _⟩ := sRow_form h1
  obtain ⟨a2, c2, rfl, _⟩ := sRow_form h2
  have hA := bl_al w (.cells #[.slice a1 L1.length c1] 24)
  have hA2 := bt hA (bl_al _ (.cells #[.slice a2 L2.length c2] 24))
  have x1 := cell_blk (blk_al (alloc_blk w #[.slice a1 L1.length c1] 24) (.cells #[.slice a2 L2.length c2] 24)) 0
  have x2 := cell_blk (alloc_blk (w.alloc (.cells #[.slice a1 L1.length c1] 24)) #[.slice a2 L2.length c2] 24) 0
  rw [sz_alloc] at x2
  have k1 := ssRow_one (h1.below hA2) _ x1
  have k2 := ssRow_one (h2.below hA2) _ x2
  clear x1 x2 h1 h2
  go_enter Tryz.func37, Tryz.ntmps37
  go_wp2_with fail
  refine (specSameRows _ _ _ [L1] [L2] k1 k2).mono ?_
  rintro e w1 ⟨rfl, q, rfl⟩
  go_wp2_with fail
  go_ret
  exact ⟨rfl, below_drewN2 hA2 q⟩

/-- Whether two tables are the same. -/
def sameT (A B : Tab) : Bool := sameB [A.ns] [B.ns] && decide (A.y = B.y) && sameG9 A.rs B.rs && sameI9 A.ys B.ys
theorem sameT_iff {A B : Tab} : sameT A B = true ↔ A = B := by
  constructor
  · intro h
    simp only [sameT, sameB, sameG9, sameI9, Bool.and_eq_true, decide_eq_true_eq, List.cons.injEq, and_true] at h
    cases A
    cases B
    simp_all
  · rintro rfl
    simp [sameT, sameB, sameG9, sameI9]

set_option maxRecDepth 100000 in
set_option maxHeartbeats 2000000 in
theorem specSameTable (A B : Tab) (u1 u2 u3 v1 v2 v3 : Value) (w : World) (h1 : TabRow w A u1 u2 u3) (h2 : TabRow w B v1 v2 v3) :
    Calls Tryz.prog 12 #[.agg #[u1, .string ⟨A.y.toArray⟩, u2, u3], .agg #[v1, .string ⟨B.y.toArray⟩, v2, v3]] w fun e w' => e = .returned (.bool (sameT A B)) ∧ Below w.heap.size w w' := by
  obtain ⟨p1, p2, p3⟩ := h1
  obtain ⟨q1, q2, q3⟩ := h2
  obtain ⟨a1, c1, rfl, _⟩ := sRow_form p1
  obtain ⟨a2, c2, rfl, _⟩ := iiRow_form p2
  obtain ⟨a3, c3, rfl, _⟩ := intRow_form p3
  obtain ⟨b1, d1, rfl, _⟩ := sRow_form q1
  obtain ⟨b2, d2, rfl, _⟩ := iiRow_form q2
  obtain ⟨b3, d3, rfl, _⟩ := intRow_form q3
  have hA := bl_al w (.cells #[.slice a1 A.ns.length c1, .string ⟨A.y.toArray⟩, .slice a2 A.rs.length c2, .slice a3 A.ys.length c3] 28)
  have hA2 := bt hA (bl_al _ (.cells #[.slice b1 B.ns.length d1, .string ⟨B.y.toArray⟩, .slice b2 B.rs.length d2, .slice b3 B.ys.length d3] 28))
  have x1 := blk_al (alloc_blk w #[.slice a1 A.ns.length c1, .string ⟨A.y.toArray⟩, .slice a2 A.rs.length c2, .slice a3 A.ys.length c3] 28) (.cells #[.slice b1 B.ns.length d1, .string ⟨B.y.toArray⟩, .slice b2 B.rs.length d2, .slice b3 B.ys.length d3] 28)
  have x2 := alloc_blk (w.alloc (.cells #[.slice a1 A.ns.length c1, .string ⟨A.y.toArray⟩, .slice a2 A.rs.length c2, .slice a3 A.ys.length c3] 28)) #[.slice b1 B.ns.length d1, .string ⟨B.y.toArray⟩, .slice b2 B.rs.length d2, .slice b3 B.ys.length d3] 28
  rw [sz_alloc] at x2
  obtain ⟨r, hr⟩ : ∃ r, sameT A B = r := ⟨_, rfl⟩
  rw [hr]
  have HR := Lib.hid hr
  obtain ⟨e1, he1⟩ : ∃ r, sameB [A.ns] [B.ns] = r := ⟨_, rfl⟩
  obtain ⟨e3, he3⟩ : ∃ r, sameG9 A.rs B.rs = r := ⟨_, rfl⟩
  obtain ⟨e4, he4⟩ : ∃ r, sameI9 A.ys B.ys = r := ⟨_, rfl⟩
  have K1 := Lib.hid (fun w => he1 ▸ specTexts w (.slice a1 A.ns.length c1) (.slice b1 B.ns.length d1) A.ns B.ns)
  have K3 := Lib.hid (fun w => he3 ▸ specGrids w (.slice a2 A.rs.length c2) (.slice b2 B.rs.length d2) A.rs B.rs)
  have K4 := Lib.hid (fun w => he4 ▸ specInts9 w (.slice a3 A.ys.length c3) (.slice b3 B.ys.length d3) A.ys B.ys)
  have E1 := Lib.hid he1
  have E3 := Lib.hid he3
  have E4 := Lib.hid he4
  clear hr he1 he3 he4
  go_enter Tryz.func12, Tryz.ntmps12
  go_wp2_with fail
  refine (K1.out _ (p1.below hA2) (q1.below hA2)).mono ?_
  rintro e w1 ⟨rfl, hB1⟩
  have hC1 := bt hA2 hB1
  have y1 := blk_next x1 hB1
  have y2 := blk_next x2 hB1
  have l1 := cell_blk y1 1
  have l2 := cell_blk y1 2
  have l3 := cell_blk y1 3
  have m1 := cell_blk y2 1
  have m2 := cell_blk y2 2
  have m3 := cell_blk y2 3
  cases e1 with
  | false =>
    go_wp2_with fail
    go_ret
    exact ⟨ret_bool9 (by rw [← HR.out, sameT, E1.out]; rfl), hC1⟩
  | true =>
    by_cases hy : A.y = B.y
    · have hq : (A.y == B.y) = true := beq_iff_eq.2 hy
      have HY := Lib.hid hy
      clear hy
      go_wp2_with fail
      refine (K3.out _ (p2.below hC1) (q2.below hC1)).mono ?_
      rintro e w2 ⟨rfl, hB2⟩
      have hC2 := bt hC1 hB2
      have l3 := cell_blk (blk_next y1 hB2) 3
      have m3 := cell_blk (blk_next y2 hB2) 3
      cases e3 with
      | false =>
        go_wp2_with fail
        go_ret
        exact ⟨ret_bool9 (by rw [← HR.out, sameT, E3.out]; simp), hC2⟩
      | true =>
        go_wp2_with fail
        refine (K4.out _ (p3.below hC2) (q3.below hC2)).mono ?_
        rintro e w3 ⟨rfl, hB3⟩
        have hC3 := bt hC2 hB3
        go_wp2_with fail
        go_ret
        exact ⟨ret_bool9 (by rw [← HR.out, sameT, E1.out, E3.out, E4.out, decide_eq_true HY.out]; simp), hC3⟩
    · have hq : (A.y == B.y) = false := beq_eq_false_iff_ne.2 hy
      have hn := hy
      have hn2 := str_ne hy
      have HY := Lib.hid hy
      clear hy
      go_wp2_with fail
      go_ret
      exact ⟨ret_bool9 (by rw [← HR.out, sameT, decide_eq_false HY.out]; simp), hC1⟩
end Go.Proofs.YticeagjonfifbaaGreatDoor
