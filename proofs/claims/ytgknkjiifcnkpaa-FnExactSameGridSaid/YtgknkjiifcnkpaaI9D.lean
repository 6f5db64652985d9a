/-
  Whether numbers are decimals, the program's way.
-/
import Derived.Test.YtgknkjiifcnkpaaI9N
import Derived.Test.YtgknkjiifcnkpaaTabO
namespace Go.Proofs.Ytgknkjiifcnkpaa
open Go.RowKit

set_option maxRecDepth 100000 in
theorem isDecimal9 (x : Int) (w : World) :
    Calls Try.prog 101 #[.int .i64 x] w fun e w' => e = .returned (.bool (valB x)) ∧ w = w' := by
  by_cases h : -2147483647 ≤ x
  · have HE := Lib.hid (inZ_le9 (hi := 2147483647) h)
    go_enter Try.func101, Try.ntmps101
    go_wp2_with fail
    go_ret
    exact ⟨ret_bool9 HE.out.symm, rfl⟩
  · have HE := Lib.hid (inZ_gt9 (hi := 2147483647) h)
    go_enter Try.func101, Try.ntmps101
    go_wp2_with fail
    go_ret
    exact ⟨ret_bool9 HE.out.symm, rfl⟩
def notV (z : Int) : Bool := !valB z
set_option maxRecDepth 100000 in
theorem notDec9 (x : Int) (w : World) :
    Calls Try.prog 100 #[.int .i64 x] w fun e w' => e = .returned (.bool (notV x)) ∧ w = w' := by
  go_enter Try.func100, Try.ntmps100
  go_wp2_with fail
  refine (isDecimal9 _ _).mono ?_
  rintro e w1 ⟨rfl, rfl⟩
  go_wp2_with fail
  go_ret
  exact ⟨rfl, rfl⟩
theorem anyV_take {s : List Int} {j : Nat} {z : Int} (h : s[j]? = some z) : (s.take (j + 1)).any notV = ((s.take j).any notV || notV z) := by
  rw [List.take_add_one, h, List.any_append]
  simp
theorem anyV_all (s : List Int) : s.any notV = !s.all valB := by
  induction s with
  | nil => rfl
  | cons x t ih => simp [notV, ih]
set_option maxRecDepth 100000 in
set_option maxHeartbeats 1000000 in
theorem indexDec9 (w : World) (a : Option Addr) (c : Nat) (s : List Int) (hl : s.length ≤ 9223372036854775807) (hc : ∀ (q : Nat) z, s[q]? = some z → ∃ b off, a = some ⟨b, off, none⟩ ∧ w.cell? ⟨b, off + q, none⟩ = some (.int .i64 z)) :
    Calls Try.prog 103 #[.slice a s.length c, .func (.func 100) #[] #[]] w fun e w' => (∃ z : Int, e = .returned (.int .i64 z) ∧ decide (0 ≤ z) = s.any notV) ∧ ∃ q, w' = w.drewN q := by
  have HC := Lib.hid hc
  clear hc
  obtain ⟨n, hn⟩ : ∃ n : Nat, s.length = n := ⟨_, rfl⟩
  rw [hn] at hl ⊢
  have HE := Lib.hid hn
  clear hn
  go_enter Try.func103, Try.ntmps103
  go_wp2_with fail
  go_loopg [5, 8] n (fun g _ i wr => ∃ j z : Nat, j ≤ n ∧ g = n - j ∧ i = .int .i64 j ∧ wr = w.drewN z ∧ (s.take j).any notV = false)
  case atStart => exact ⟨0, 0, Nat.zero_le _, rfl, rfl, rfl, rfl⟩
  case round =>
    obtain ⟨j, z, hj, rfl, rfl, rfl, ht⟩ := hrel
    have HT := Lib.hid ht
    clear ht
    by_cases hlt : j < n
    · have hj1 : (j : Int) < n := by omega
      have hj0 : (0 : Int) ≤ j := by omega
      obtain ⟨x, hx⟩ : ∃ x, s[j]? = some x := ⟨_, List.getElem?_eq_getElem (by rw [HE.out]; exact hlt)⟩
      obtain ⟨b, off, rfl, hcx⟩ := HC.out j x hx
      have HX := Lib.hid hx
      have hcell : (w.drewN z).cell? ⟨b, off + j, none⟩ = some (.int .i64 x) := hcx
      clear hx hcx
      obtain ⟨wq, hwq⟩ : ∃ wq, w.drewN z = wq := ⟨_, rfl⟩
      rw [hwq] at hcell ⊢
      have HW := Lib.hid hwq
      clear hwq
      cases hp : notV x with
      | true =>
        go_wp2_with fail
        refine (notDec9 x _).mono ?_
        rintro e w1 ⟨rfl, rfl⟩
        rw [hp]
        go_wp2_with fail
        go_ret
        refine ⟨⟨_, rfl, ?_⟩, z, by rw [← HW.out]⟩
        rw [decide_eq_true hj0]
        have h2 : (s.take (j + 1)).any notV = true := by rw [anyV_take HX.out, hp]; simp
        obtain ⟨y, hy, hy2⟩ := List.any_eq_true.1 h2
        exact (List.any_eq_true.2 ⟨y, List.mem_of_mem_take hy, hy2⟩).symm
      | false =>
        go_wp2_with fail
        refine (notDec9 x _).mono ?_
        rintro e w1 ⟨rfl, rfl⟩
        rw [hp]
        go_wp2_with fail
        go_roundg (n - (j + 1))
        case measure => omega
        case rel => exact ⟨j + 1, z, by omega, rfl, by go_num, HW.out.symm, by rw [anyV_take HX.out, HT.out, hp]; rfl⟩
    · have hje : j = n := by omega
      have hj1 : ¬ (j : Int) < n := by omega
      have HA : Hid (s.any notV = false) := Lib.hid (by
        have h := HT.out
        rwa [hje, List.take_of_length_le (by rw [HE.out]; exact Nat.le_refl _)] at h)
      clear hje
      go_wp2_with fail
      go_ret
      exact ⟨⟨_, rfl, HA.out.symm⟩, z, rfl⟩
set_option maxRecDepth 100000 in
theorem containsDec9 (w : World) (v : Value) (s : List Int) (h : IntRow w v s) :
    Calls Try.prog 90 #[v, .func (.func 100) #[] #[]] w fun e w' => e = .returned (.bool (!s.all valB)) ∧ ∃ q, w' = w.drewN q := by
  obtain ⟨a, c, rfl, hl, hc⟩ := intRow_form h
  have HC := Lib.hid (indexDec9 w a c s hl hc)
  clear hc h
  go_enter Try.func90, Try.ntmps90
  go_wp2_with fail
  refine HC.out.mono ?_
  rintro e w1 ⟨⟨z, rfl, hz⟩, q, rfl⟩
  rw [anyV_all] at hz
  have HZ := Lib.hid hz
  clear hz
  go_wp2_with fail
  go_ret
  exact ⟨ret_bool9 HZ.out, q, rfl⟩
set_option maxRecDepth 100000 in
set_option maxHeartbeats 1000000 in
/-- WHETHER A LIST HOLDS SO MANY DECIMALS. -/
theorem areDec9 (w : World) (v : Value) (s : List Int) (m : Nat) (h : IntRow w v s) :
    Calls Try.prog 85 #[v, .int .i64 m] w fun e w' => e = .returned (.bool (decide (s.length = m) && s.all valB)) ∧ ∃ q, w' = w.drewN q := by
  have h0 := h
  obtain ⟨a, c, rfl, hl, hc⟩ := intRow_form h
  clear hc
  by_cases hm : s.length = m
  · have HC := Lib.hid (containsDec9 w _ s h0)
    have hm1 : (s.length : Int) = m := by omega
    have hd : decide (s.length = m) = true := decide_eq_true hm
    have HD := Lib.hid hd
    clear h h0 hm hd
    go_enter Try.func85, Try.ntmps85
    go_wp2_with fail
    refine HC.out.mono ?_
    rintro e w1 ⟨rfl, q, rfl⟩
    go_wp2_with fail
    go_ret
    exact ⟨ret_bool9 (by rw [HD.out]; simp), q, rfl⟩
  · have hm1 : ¬ (s.length : Int) = m := by omega
    have hm2 : ((s.length : Int) == (m : Int)) = false := beq_eq_false_iff_ne.2 hm1
    have HD := Lib.hid (decide_eq_false hm)
    clear hm
    go_enter Try.func85, Try.ntmps85
    go_wp2_with fail
    go_ret
    exact ⟨ret_bool9 (by rw [HD.out]; rfl), 0, rfl⟩
end Go.Proofs.Ytgknkjiifcnkpaa
