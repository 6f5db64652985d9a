/-
  Whether settings are right, the program's way.
-/
import Derived.Test.YtnnbhgnllbjmeaaGreatDoorCfgS
import Derived.Deep.LoopGhost
namespace Go.Proofs.YtnnbhgnllbjmeaaGreatDoor
open Go.RowKit

theorem inZ_le {x lo hi : Int} (h : lo ≤ x) : inZ x lo hi = decide (x ≤ hi) := by simp [inZ, h]
theorem inZ_gt {x lo hi : Int} (h : ¬ lo ≤ x) : inZ x lo hi = false := by simp [inZ, h]
theorem ret_bool8 {a b : Bool} (h : a = b) : Ending.returned (.bool a) = .returned (.bool b) := by rw [h]
set_option maxRecDepth 100000 in
theorem inRangeG (x lo hi : Int) (w : World) :
    Calls Tryz.prog 29 #[.int .i64 x, .int .i64 lo, .int .i64 hi] w fun e w' => e = .returned (.bool (inZ x lo hi)) ∧ w = w' := by
  by_cases h : lo ≤ x
  · have HE := Lib.hid (inZ_le (hi := hi) h)
    go_enter Tryz.func29, Tryz.ntmps29
    go_wp2_with fail
    go_ret
    exact ⟨ret_bool8 HE.out.symm, rfl⟩
  · have HE := Lib.hid (inZ_gt (hi := hi) h)
    go_enter Tryz.func29, Tryz.ntmps29
    go_wp2_with fail
    go_ret
    exact ⟨ret_bool8 HE.out.symm, rfl⟩
def notS (z : Int) : Bool := !inZ z (-1) 1
set_option maxRecDepth 100000 in
theorem notSignG (z : Int) (w : World) :
    Calls Tryz.prog 31 #[.int .i64 z] w fun e w' => e = .returned (.bool (notS z)) ∧ w = w' := by
  go_enter Tryz.func31, Tryz.ntmps31
  go_wp2_with fail
  refine (inRangeG _ _ _ _).mono ?_
  rintro e w1 ⟨rfl, rfl⟩
  go_wp2_with fail
  go_ret
  exact ⟨rfl, rfl⟩
theorem any_take {s : List Int} {j : Nat} {z : Int} (h : s[j]? = some z) : (s.take (j + 1)).any notS = ((s.take j).any notS || notS z) := by
  rw [List.take_add_one, h, List.any_append]
  simp
set_option maxRecDepth 100000 in
set_option maxHeartbeats 1000000 in
theorem indexFuncG (w : World) (a : Option Addr) (c : Nat) (s : List Int) (hl : s.length ≤ 9223372036854775807) (hc : ∀ (q : Nat) z, s[q]? = some z → ∃ b off, a = some ⟨b, off, none⟩ ∧ w.cell? ⟨b, off + q, none⟩ = some (.int .i64 z)) :
    Calls Tryz.prog 56 #[.slice a s.length c, .func (.func 31) #[] #[]] w fun e w' => (∃ z : Int, e = .returned (.int .i64 z) ∧ decide (0 ≤ z) = s.any notS) ∧ ∃ q, w' = w.drewN q := by
  have HC := Lib.hid hc
  clear hc
  obtain ⟨n, hn⟩ : ∃ n : Nat, s.length = n := ⟨_, rfl⟩
  rw [hn] at hl ⊢
  have HE := Lib.hid hn
  clear hn
  go_enter Tryz.func56, Tryz.ntmps56
  go_wp2_with fail
  go_loopg [5, 8] n (fun g _ i wr => ∃ j z : Nat, j ≤ n ∧ g = n - j ∧ i = .int .i64 j ∧ wr = w.drewN z ∧ (s.take j).any notS = false)
  case atStart => exact ⟨0, 0, Nat.zero_le _, rfl, rfl, rfl, rfl⟩
  case round =>
    obtain ⟨j, z, hj, rfl, rfl, rfl, ht⟩ := hrel
    have HT := Lib.hid ht
    clear ht
    by_cases hlt : j < n
    · have hj1 : (j : Int) < n := by omega
      have hj0 : (0 : Int) ≤ j := by omega
      obtain ⟨x, hx⟩ : ∃ x, s[j]? = some x := ⟨_, List.getElem?_eq_getElem (by rw [HE.out]; exact hlt)⟩
      obtain ⟨b, off, rfl, hcx⟩ := HC.out j x hx
      have HX := Lib.hid hx
      have hcell : (w.drewN z).cell? ⟨b, off + j, none⟩ = some (.int .i64 x) := hcx
      clear hx hcx
      obtain ⟨wq, hwq⟩ : ∃ wq, w.drewN z = wq := ⟨_, rfl⟩
      rw [hwq] at hcell ⊢
      have HW := Lib.hid hwq
      clear hwq
      cases hp : notS x with
      | true =>
        go_wp2_with fail
        refine (notSignG x _).mono ?_
        rintro e w1 ⟨rfl, rfl⟩
        rw [hp]
        go_wp2_with fail
        go_ret
        refine ⟨⟨_, rfl, ?_⟩, z, by rw [← HW.out]⟩
        rw [decide_eq_true hj0]
        have h2 : (s.take (j + 1)).any notS = true := by rw [any_take HX.out, hp]; simp
        obtain ⟨y, hy, hy2⟩ := List.any_eq_true.1 h2
        exact (List.any_eq_true.2 ⟨y, List.mem_of_mem_take hy, hy2⟩).symm
      | false =>
        go_wp2_with fail
        refine (notSignG x _).mono ?_
        rintro e w1 ⟨rfl, rfl⟩
        rw [hp]
        go_wp2_with fail
        go_roundg (n - (j + 1))
        case measure => omega
        case rel => exact ⟨j + 1, z, by omega, rfl, by go_num, HW.out.symm, by rw [any_take HX.out, HT.out, hp]; rfl⟩
    · have hje : j = n := by omega
      have hj1 : ¬ (j : Int) < n := by omega
      have HA : Hid (s.any notS = false) := Lib.hid (by
        have h := HT.out
        rwa [hje, List.take_of_length_le (by rw [HE.out]; exact Nat.le_refl _)] at h)
      clear hje
      go_wp2_with fail
      go_ret
      exact ⟨⟨_, rfl, HA.out.symm⟩, z, rfl⟩
set_option maxRecDepth 100000 in
theorem containsFuncG (w : World) (v : Value) (s : List Int) (h : IntRow w v s) :
    Calls Tryz.prog 30 #[v, .func (.func 31) #[] #[]] w fun e w' => e = .returned (.bool (s.any notS)) ∧ ∃ q, w' = w.drewN q := by
  obtain ⟨a, c, rfl, hl, hc⟩ := intRow_form h
  have HC := Lib.hid (indexFuncG w a c s hl hc)
  clear hc h
  go_enter Tryz.func30, Tryz.ntmps30
  go_wp2_with fail
  refine HC.out.mono ?_
  rintro e w1 ⟨⟨z, rfl, hz⟩, q, rfl⟩
  go_wp2_with fail
  go_ret
  exact ⟨rfl, q, rfl⟩
set_option maxRecDepth 100000 in
set_option maxHeartbeats 1000000 in
theorem okG_0 (C : Cfg) (a : Option Addr) (c : Nat) (w : World) (h0 : inZ C.r 1 8 = false) :
    Calls Tryz.prog 9 #[.agg #[.int .i64 C.r, .int .i64 C.d, .int .i64 C.b, .int .i64 C.l, .int .i64 C.m, .int .i64 C.n, .int .i64 C.e, .slice a C.s.length c]] w fun e w' => e = .returned (.bool (false)) ∧ Below w.heap.size w w' := by
  replace h0 := Lib.hid h0
  go_enter Tryz.func9, Tryz.ntmps9
  go_wp2_with fail
  refine (inRangeG _ _ _ _).mono ?_
  rintro e w1 ⟨rfl, rfl⟩
  rw [h0.out]
  go_wp2_with fail
  go_ret
  exact ⟨rfl, below_al w _⟩
set_option maxRecDepth 100000 in
set_option maxHeartbeats 1000000 in
theorem okG_1 (C : Cfg) (a : Option Addr) (c : Nat) (w : World) (h0 : inZ C.r 1 8 = true) (h1 : inZ C.d 0 4 = false) :
    Calls Tryz.prog 9 #[.agg #[.int .i64 C.r, .int .i64 C.d, .int .i64 C.b, .int .i64 C.l, .int .i64 C.m, .int .i64 C.n, .int .i64 C.e, .slice a C.s.length c]] w fun e w' => e = .returned (.bool (false)) ∧ Below w.heap.size w w' := by
  replace h0 := Lib.hid h0
  replace h1 := Lib.hid h1
  go_enter Tryz.func9, Tryz.ntmps9
  go_wp2_with fail
  refine (inRangeG _ _ _ _).mono ?_
  rintro e w1 ⟨rfl, rfl⟩
  rw [h0.out]
  go_wp2_with fail
  refine (inRangeG _ _ _ _).mono ?_
  rintro e w2 ⟨rfl, rfl⟩
  rw [h1.out]
  go_wp2_with fail
  go_ret
  exact ⟨rfl, below_al w _⟩
set_option maxRecDepth 100000 in
set_option maxHeartbeats 1000000 in
theorem okG_2 (C : Cfg) (a : Option Addr) (c : Nat) (w : World) (h0 : inZ C.r 1 8 = true) (h1 : inZ C.d 0 4 = true) (h2 : inZ C.b 2 8 = false) :
    Calls Tryz.prog 9 #[.agg #[.int .i64 C.r, .int .i64 C.d, .int .i64 C.b, .int .i64 C.l, .int .i64 C.m, .int .i64 C.n, .int .i64 C.e, .slice a C.s.length c]] w fun e w' => e = .returned (.bool (false)) ∧ Below w.heap.size w w' := by
  replace h0 := Lib.hid h0
  replace h1 := Lib.hid h1
  replace h2 := Lib.hid h2
  go_enter Tryz.func9, Tryz.ntmps9
  go_wp2_with fail
  refine (inRangeG _ _ _ _).mono ?_
  rintro e w1 ⟨rfl, rfl⟩
  rw [h0.out]
  go_wp2_with fail
  refine (inRangeG _ _ _ _).mono ?_
  rintro e w2 ⟨rfl, rfl⟩
  rw [h1.out]
  go_wp2_with fail
  refine (inRangeG _ _ _ _).mono ?_
  rintro e w3 ⟨rfl, rfl⟩
  rw [h2.out]
  go_wp2_with fail
  go_ret
  exact ⟨rfl, below_al w _⟩
set_option maxRecDepth 100000 in
set_option maxHeartbeats 1000000 in
theorem okG_3 (C : Cfg) (a : Option Addr) (c : Nat) (w : World) (h0 : inZ C.r 1 8 = true) (h1 : inZ C.d 0 4 = true) (h2 : inZ C.b 2 8 = true) (h3 : inZ C.l 1 100 = false) :
    Calls Tryz.prog 9 #[.agg #[.int .i64 C.r, .int .i64 C.d, .int .i64 C.b, .int .i64 C.l, .int .i64 C.m, .int .i64 C.n, .int .i64 C.e, .slice a C.s.length c]] w fun e w' => e = .returned (.bool (false)) ∧ Below w.heap.size w w' := by
  replace h0 := Lib.hid h0
  replace h1 := Lib.hid h1
  replace h2 := Lib.hid h2
  replace h3 := Lib.hid h3
  go_enter Tryz.func9, Tryz.ntmps9
  go_wp2_with fail
  refine (inRangeG _ _ _ _).mono ?_
  rintro e w1 ⟨rfl, rfl⟩
  rw [h0.out]
  go_wp2_with fail
  refine (inRangeG _ _ _ _).mono ?_
  rintro e w2 ⟨rfl, rfl⟩
  rw [h1.out]
  go_wp2_with fail
  refine (inRangeG _ _ _ _).mono ?_
  rintro e w3 ⟨rfl, rfl⟩
  rw [h2.out]
  go_wp2_with fail
  refine (inRangeG _ _ _ _).mono ?_
  rintro e w4 ⟨rfl, rfl⟩
  rw [h3.out]
  go_wp2_with fail
  go_ret
  exact ⟨rfl, below_al w _⟩
set_option maxRecDepth 100000 in
set_option maxHeartbeats 1000000 in
theorem okG_4 (C : Cfg) (a : Option Addr) (c : Nat) (w : World) (h0 : inZ C.r 1 8 = true) (h1 : inZ C.d 0 4 = true) (h2 : inZ C.b 2 8 = true) (h3 : inZ C.l 1 100 = true) (h4 : inZ C.m 1 20 = false) :
    Calls Tryz.prog 9 #[.agg #[.int .i64 C.r, .int .i64 C.d, .int .i64 C.b, .int .i64 C.l, .int .i64 C.m, .int .i64 C.n, .int .i64 C.e, .slice a C.s.length c]] w fun e w' => e = .returned (.bool (false)) ∧ Below w.heap.size w w' := by
  replace h0 := Lib.hid h0
  replace h1 := Lib.hid h1
  replace h2 := Lib.hid h2
  replace h3 := Lib.hid h3
  replace h4 := Lib.hid h4
  go_enter Tryz.func9, Tryz.ntmps9
  go_wp2_with fail
  refine (inRangeG _ _ _ _).mono ?_
  rintro e w1 ⟨rfl, rfl⟩
  rw [h0.out]
  go_wp2_with fail
  refine (inRangeG _ _ _ _).mono ?_
  rintro e w2 ⟨rfl, rfl⟩
  rw [h1.out]
  go_wp2_with fail
  refine (inRangeG _ _ _ _).mono ?_
  rintro e w3 ⟨rfl, rfl⟩
  rw [h2.out]
  go_wp2_with fail
  refine (inRangeG _ _ _ _).mono ?_
  rintro e w4 ⟨rfl, rfl⟩
  rw [h3.out]
  go_wp2_with fail
  refine (inRangeG _ _ _ _).mono ?_
  rintro e w5 ⟨rfl, rfl⟩
  rw [h4.out]
  go_wp2_with fail
  go_ret
  exact ⟨rfl, below_al w _⟩
set_option maxRecDepth 100000 in
set_option maxHeartbeats 1000000 in
theorem okG_5 (C : Cfg) (a : Option Addr) (c : Nat) (w : World) (h0 : inZ C.r 1 8 = true) (h1 : inZ C.d 0 4 = true) (h2 : inZ C.b 2 8 = true) (h3 : inZ C.l 1 100 = true) (h4 : inZ C.m 1 20 = true) (h5 : inZ C.e 1 1000 = false) :
    Calls Tryz.prog 9 #[.agg #[.int .i64 C.r, .int .i64 C.d, .int .i64 C.b, .int .i64 C.l, .int .i64 C.m, .int .i64 C.n, .int .i64 C.e, .slice a C.s.length c]] w fun e w' => e = .returned (.bool (false)) ∧ Below w.heap.size w w' := by
  replace h0 := Lib.hid h0
  replace h1 := Lib.hid h1
  replace h2 := Lib.hid h2
  replace h3 := Lib.hid h3
  replace h4 := Lib.hid h4
  replace h5 := Lib.hid h5
  go_enter Tryz.func9, Tryz.ntmps9
  go_wp2_with fail
  refine (inRangeG _ _ _ _).mono ?_
  rintro e w1 ⟨rfl, rfl⟩
  rw [h0.out]
  go_wp2_with fail
  refine (inRangeG _ _ _ _).mono ?_
  rintro e w2 ⟨rfl, rfl⟩
  rw [h1.out]
  go_wp2_with fail
  refine (inRangeG _ _ _ _).mono ?_
  rintro e w3 ⟨rfl, rfl⟩
  rw [h2.out]
  go_wp2_with fail
  refine (inRangeG _ _ _ _).mono ?_
  rintro e w4 ⟨rfl, rfl⟩
  rw [h3.out]
  go_wp2_with fail
  refine (inRangeG _ _ _ _).mono ?_
  rintro e w5 ⟨rfl, rfl⟩
  rw [h4.out]
  go_wp2_with fail
  refine (inRangeG _ _ _ _).mono ?_
  rintro e w6 ⟨rfl, rfl⟩
  rw [h5.out]
  go_wp2_with fail
  go_ret
  exact ⟨rfl, below_al w _⟩
set_option maxRecDepth 100000 in
set_option maxHeartbeats 1000000 in
theorem okG_6 (C : Cfg) (a : Option Addr) (c : Nat) (w : World) (h0 : inZ C.r 1 8 = true) (h1 : inZ C.d 0 4 = true) (h2 : inZ C.b 2 8 = true) (h3 : inZ C.l 1 100 = true) (h4 : inZ C.m 1 20 = true) (h5 : inZ C.e 1 1000 = true) (h6 : inZ C.n 1 C.e = false) :
    Calls Tryz.prog 9 #[.agg #[.int .i64 C.r, .int .i64 C.d, .int .i64 C.b, .int .i64 C.l, .int .i64 C.m, .int .i64 C.n, .int .i64 C.e, .slice a C.s.length c]] w fun e w' => e = .returned (.bool (false)) ∧ Below w.heap.size w w' := by
  replace h0 := Lib.hid h0
  replace h1 := Lib.hid h1
  replace h2 := Lib.hid h2
  replace h3 := Lib.hid h3
  replace h4 := Lib.hid h4
  replace h5 := Lib.hid h5
  replace h6 := Lib.hid h6
  go_enter Tryz.func9, Tryz.ntmps9
  go_wp2_with fail
  refine (inRangeG _ _ _ _).mono ?_
  rintro e w1 ⟨rfl, rfl⟩
  rw [h0.out]
  go_wp2_with fail
  refine (inRangeG _ _ _ _).mono ?_
  rintro e w2 ⟨rfl, rfl⟩
  rw [h1.out]
  go_wp2_with fail
  refine (inRangeG _ _ _ _).mono ?_
  rintro e w3 ⟨rfl, rfl⟩
  rw [h2.out]
  go_wp2_with fail
  refine (inRangeG _ _ _ _).mono ?_
  rintro e w4 ⟨rfl, rfl⟩
  rw [h3.out]
  go_wp2_with fail
  refine (inRangeG _ _ _ _).mono ?_
  rintro e w5 ⟨rfl, rfl⟩
  rw [h4.out]
  go_wp2_with fail
  refine (inRangeG _ _ _ _).mono ?_
  rintro e w6 ⟨rfl, rfl⟩
  rw [h5.out]
  go_wp2_with fail
  refine (inRangeG _ _ _ _).mono ?_
  rintro e w7 ⟨rfl, rfl⟩
  rw [h6.out]
  go_wp2_with fail
  go_ret
  exact ⟨rfl, below_al w _⟩
set_option maxRecDepth 100000 in
set_option maxHeartbeats 1000000 in
theorem okG_7 (C : Cfg) (a : Option Addr) (c : Nat) (w : World) (h0 : inZ C.r 1 8 = true) (h1 : inZ C.d 0 4 = true) (h2 : inZ C.b 2 8 = true) (h3 : inZ C.l 1 100 = true) (h4 : inZ C.m 1 20 = true) (h5 : inZ C.e 1 1000 = true) (h6 : inZ C.n 1 C.e = true) (h7 : ¬ (C.s.length : Int) ≤ 4) :
    Calls Tryz.prog 9 #[.agg #[.int .i64 C.r, .int .i64 C.d, .int .i64 C.b, .int .i64 C.l, .int .i64 C.m, .int .i64 C.n, .int .i64 C.e, .slice a C.s.length c]] w fun e w' => e = .returned (.bool (false)) ∧ Below w.heap.size w w' := by
  replace h0 := Lib.hid h0
  replace h1 := Lib.hid h1
  replace h2 := Lib.hid h2
  replace h3 := Lib.hid h3
  replace h4 := Lib.hid h4
  replace h5 := Lib.hid h5
  replace h6 := Lib.hid h6
  go_enter Tryz.func9, Tryz.ntmps9
  go_wp2_with fail
  refine (inRangeG _ _ _ _).mono ?_
  rintro e w1 ⟨rfl, rfl⟩
  rw [h0.out]
  go_wp2_with fail
  refine (inRangeG _ _ _ _).mono ?_
  rintro e w2 ⟨rfl, rfl⟩
  rw [h1.out]
  go_wp2_with fail
  refine (inRangeG _ _ _ _).mono ?_
  rintro e w3 ⟨rfl, rfl⟩
  rw [h2.out]
  go_wp2_with fail
  refine (inRangeG _ _ _ _).mono ?_
  rintro e w4 ⟨rfl, rfl⟩
  rw [h3.out]
  go_wp2_with fail
  refine (inRangeG _ _ _ _).mono ?_
  rintro e w5 ⟨rfl, rfl⟩
  rw [h4.out]
  go_wp2_with fail
  refine (inRangeG _ _ _ _).mono ?_
  rintro e w6 ⟨rfl, rfl⟩
  rw [h5.out]
  go_wp2_with fail
  refine (inRangeG _ _ _ _).mono ?_
  rintro e w7 ⟨rfl, rfl⟩
  rw [h6.out]
  go_wp2_with fail
  go_ret
  exact ⟨rfl, below_al w _⟩
set_option maxRecDepth 100000 in
set_option maxHeartbeats 1000000 in
theorem okG_8 (C : Cfg) (a : Option Addr) (c : Nat) (w : World) (h : IntRow w (.slice a C.s.length c) C.s) (h0 : inZ C.r 1 8 = true) (h1 : inZ C.d 0 4 = true) (h2 : inZ C.b 2 8 = true) (h3 : inZ C.l 1 100 = true) (h4 : inZ C.m 1 20 = true) (h5 : inZ C.e 1 1000 = true) (h6 : inZ C.n 1 C.e = true) (h7 : (C.s.length : Int) ≤ 4) :
    Calls Tryz.prog 9 #[.agg #[.int .i64 C.r, .int .i64 C.d, .int .i64 C.b, .int .i64 C.l, .int .i64 C.m, .int .i64 C.n, .int .i64 C.e, .slice a C.s.length c]] w fun e w' => e = .returned (.bool (!C.s.any notS)) ∧ Below w.heap.size w w' := by
  have HR := Lib.hid (h.below (below_al w (.cells #[.int .i64 C.r, .int .i64 C.d, .int .i64 C.b, .int .i64 C.l, .int .i64 C.m, .int .i64 C.n, .int .i64 C.e, .slice a C.s.length c] 26)))
  clear h
  replace h0 := Lib.hid h0
  replace h1 := Lib.hid h1
  replace h2 := Lib.hid h2
  replace h3 := Lib.hid h3
  replace h4 := Lib.hid h4
  replace h5 := Lib.hid h5
  replace h6 := Lib.hid h6
  go_enter Tryz.func9, Tryz.ntmps9
  go_wp2_with fail
  refine (inRangeG _ _ _ _).mono ?_
  rintro e w1 ⟨rfl, rfl⟩
  rw [h0.out]
  go_wp2_with fail
  refine (inRangeG _ _ _ _).mono ?_
  rintro e w2 ⟨rfl, rfl⟩
  rw [h1.out]
  go_wp2_with fail
  refine (inRangeG _ _ _ _).mono ?_
  rintro e w3 ⟨rfl, rfl⟩
  rw [h2.out]
  go_wp2_with fail
  refine (inRangeG _ _ _ _).mono ?_
  rintro e w4 ⟨rfl, rfl⟩
  rw [h3.out]
  go_wp2_with fail
  refine (inRangeG _ _ _ _).mono ?_
  rintro e w5 ⟨rfl, rfl⟩
  rw [h4.out]
  go_wp2_with fail
  refine (inRangeG _ _ _ _).mono ?_
  rintro e w6 ⟨rfl, rfl⟩
  rw [h5.out]
  go_wp2_with fail
  refine (inRangeG _ _ _ _).mono ?_
  rintro e w7 ⟨rfl, rfl⟩
  rw [h6.out]
  go_wp2_with fail
  refine (containsFuncG _ _ _ HR.out).mono ?_
  rintro e w9 ⟨rfl, q, rfl⟩
  go_wp2_with fail
  go_ret
  exact ⟨rfl, below_drewN2 (below_al w _) q⟩
theorem notS_all (s : List Int) : (!s.any notS) = s.all (fun z => inZ z (-1) 1) := by
  induction s with
  | nil => rfl
  | cons x t ih => rw [List.any_cons, List.all_cons, ← ih]; unfold notS; cases inZ x (-1) 1 <;> simp
/-- What the program answers for settings. -/
theorem okG (C : Cfg) (u : Value) (w : World) (h : IntRow w u C.s) : Calls Tryz.prog 9 #[.agg #[.int .i64 C.r, .int .i64 C.d, .int .i64 C.b, .int .i64 C.l, .int .i64 C.m, .int .i64 C.n, .int .i64 C.e, u]] w fun e w' => e = .returned (.bool (okC C)) ∧ Below w.heap.size w w' := by
  obtain ⟨a, c, rfl, _⟩ := intRow_form h
  have no : okC C = false → ∀ {X : Ending → World → Prop}, (∀ e w', X e w' → e = .returned (.bool false) ∧ Below w.heap.size w w') → ∀ e w', X e w' → e = .returned (.bool (okC C)) ∧ Below w.heap.size w w' := fun h X hX e w' hx => by rw [h]; exact hX e w' hx
  cases h0 : inZ C.r 1 8 with
  | false => exact (okG_0 C a c w h0).mono (no (by unfold okC; simp [h0]) (fun _ _ h => h))
  | true =>
  cases h1 : inZ C.d 0 4 with
  | false => exact (okG_1 C a c w h0 h1).mono (no (by unfold okC; simp [h1]) (fun _ _ h => h))
  | true =>
  cases h2 : inZ C.b 2 8 with
  | false => exact (okG_2 C a c w h0 h1 h2).mono (no (by unfold okC; simp [h2]) (fun _ _ h => h))
  | true =>
  cases h3 : inZ C.l 1 100 with
  | false => exact (okG_3 C a c w h0 h1 h2 h3).mono (no (by unfold okC; simp [h3]) (fun _ _ h => h))
  | true =>
  cases h4 : inZ C.m 1 20 with
  | false => exact (okG_4 C a c w h0 h1 h2 h3 h4).mono (no (by unfold okC; simp [h4]) (fun _ _ h => h))
  | true =>
  cases h5 : inZ C.e 1 1000 with
  | false => exact (okG_5 C a c w h0 h1 h2 h3 h4 h5).mono (no (by unfold okC; simp [h5]) (fun _ _ h => h))
  | true =>
  cases h6 : inZ C.n 1 C.e with
  | false => exact (okG_6 C a c w h0 h1 h2 h3 h4 h5 h6).mono (no (by unfold okC; simp [h6]) (fun _ _ h => h))
  | true =>
  by_cases h7 : (C.s.length : Int) ≤ 4
  · refine (okG_8 C a c w h h0 h1 h2 h3 h4 h5 h6 h7).mono ?_
    rintro e w' ⟨rfl, hB⟩
    refine ⟨ret_bool8 ?_, hB⟩
    have h8 : C.s.length ≤ 4 := by omega
    rw [notS_all]
    unfold okC
    simp [h0, h1, h2, h3, h4, h5, h6, h8]
  · have h8 : ¬ C.s.length ≤ 4 := by omega
    exact (okG_7 C a c w h0 h1 h2 h3 h4 h5 h6 h7).mono (no (by unfold okC; simp [h8]) (fun _ _ h => h))
end Go.Proofs.YtnnbhgnllbjmeaaGreatDoor
