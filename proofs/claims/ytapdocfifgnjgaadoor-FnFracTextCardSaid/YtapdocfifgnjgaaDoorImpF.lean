
/-
  Wide numbers of the program: the multiple by an int.
-/
import Derived.Test.YtapdocfifgnjgaaDoorPk6
import Derived.Test.YtapdocfifgnjgaaDoorImpE
namespace Go.Proofs.YtapdocfifgnjgaaDoor
open Go.RowKit

theorem PairS.drew {W : World} {A B : Nat} {p q : Value} {h0 l0 h1 l1 : Int} {wr : World} (h : PairS W A B (fun _ => p) (fun _ => q) h0 l0 h1 l1 wr) : PairS W A B (fun _ => p) (fun _ => q) h0 l0 h1 l1 wr.drew :=
  ⟨h.1, h.2.1, h.2.2.1, h.2.2.2.1, h.2.2.2.2.1, h.2.2.2.2.2.1, h.2.2.2.2.2.2.1, h.2.2.2.2.2.2.2.1, h.2.2.2.2.2.2.2.2.drew⟩
theorem PairS.start {w w1 : World} {p q : Value} {h0 l0 h1 l1 : Int} {T U : TypeId} (hB : Below ((w.alloc (.cells #[p, .int .u64 h0, .int .u64 l0] T)).alloc (.cells #[q, .int .u64 h1, .int .u64 l1] U)).heap.size ((w.alloc (.cells #[p, .int .u64 h0, .int .u64 l0] T)).alloc (.cells #[q, .int .u64 h1, .int .u64 l1] U)) w1) :
    PairS w w.heap.size (w.heap.size + 1) (fun _ => p) (fun _ => q) h0 l0 h1 l1 w1 := by
  obtain ⟨hA, hX, hBB, _⟩ := box2 hB
  exact ⟨cell_blk hA 0, cell_blk hA 1, cell_blk hA 2, cell_blk hX 0, cell_blk hX 1, cell_blk hX 2, fun k => free_blk hA k, fun k => free_blk hX k, hBB⟩
theorem implMul64At (a b x y : Int) (a0 : 0 ≤ a) (a1 : a < 18446744073709551616) (b0 : 0 ≤ b) (b1 : b < 18446744073709551616) (y0 : 0 ≤ y) (y1 : y < 18446744073709551616) (hxy : x * 18446744073709551616 + y = a * b) (w : World) :
    Calls Tryd.prog 60 #[.int .u64 a, .int .u64 b] w fun e w' => e = .returned (.tuple #[.int .u64 x, .int .u64 y]) ∧ Below w.heap.size w w' := by
  refine (implMul64 a b a0 a1 b0 b1 w).mono ?_
  rintro e w1 ⟨⟨x', y', p0, p1, q0, q1, h, rfl⟩, hB⟩
  obtain rfl : x = x' := by omega
  obtain rfl : y = y' := by omega
  exact ⟨rfl, hB⟩
set_option maxRecDepth 100000 in
set_option maxHeartbeats 1000000 in
theorem implScale_no (n0 : Bool) (h0 l0 k : Int) (hp0 : 0 ≤ h0) (_hq0 : h0 < 18446744073709551616) (lp0 : 0 ≤ l0) (_lq0 : l0 < 18446744073709551616) (_k0 : -9223372036854775808 ≤ k) (_k1 : k ≤ 9223372036854775807) (hk0 : okV n0 h0 l0 = false) (w : World) :
    Calls Tryd.prog 50 #[.agg #[.bool n0, .int .u64 h0, .int .u64 l0], .int .i64 k] w fun e w' => e = .returned (.tuple #[.agg #[.bool false, .int .u64 0, .int .u64 0], .bool false]) ∧ Below w.heap.size w w' := by
  go_enter Tryd.func50, Tryd.ntmps50
  go_wp2_with fail
  refine (implWideOk n0 h0 l0 hp0 lp0 _).mono ?_
  rintro e w1 ⟨rfl, hB1⟩
  rw [hk0]
  have hP := PairS.start hB1
  clear hB1
  obtain ⟨ca0, ca1, ca2, cr0, cr1, cr2, fa, fr, HB⟩ := hP
  go_wp2_with fail
  (try simp only [Exit.inBlock, Exit.then])
  refine bodyPost_ret (v := .tuple #[.agg #[.bool false, .int .u64 0, .int .u64 0], .bool false]) ?_ rfl ⟨rfl, ?_⟩
  · rw [results_cell_tmp rfl]
    go_simp
  · repeat' (first | with_reducible assumption | refine Below.setCell ?_ (by simp) _)
set_option maxRecDepth 100000 in
set_option maxHeartbeats 1000000 in
theorem implScale_big (n0 : Bool) (h0 l0 k : Int) (x y c d t m : Int) (hp0 : 0 ≤ h0) (hq0 : h0 < 18446744073709551616) (lp0 : 0 ≤ l0) (lq0 : l0 < 18446744073709551616) (k0 : -9223372036854775808 ≤ k) (k1 : k ≤ 9223372036854775807) (hk0 : okV n0 h0 l0 = true) (_x0 : 0 ≤ x) (y0 : 0 ≤ y) (y1 : y < 18446744073709551616) (c0 : 0 ≤ c) (_c1 : c < 18446744073709551616) (d0 : 0 ≤ d) (d1 : d < 18446744073709551616) (hx : x * 18446744073709551616 + y = h0 * (k.natAbs : Int)) (hc : c * 18446744073709551616 + d = l0 * (k.natAbs : Int)) (t0 : 0 ≤ t) (t1 : t < 18446744073709551616) (hyc : y + c = m * 18446744073709551616 + t) (hx0 : ¬ x = 0) (w : World) :
    Calls Tryd.prog 50 #[.agg #[.bool n0, .int .u64 h0, .int .u64 l0], .int .i64 k] w fun e w' => e = .returned (.tuple #[.agg #[.bool false, .int .u64 0, .int .u64 0], .bool false]) ∧ Below w.heap.size w w' := by
  have HX := Lib.hid hx
  have HC := Lib.hid hc
  clear hx hc
  have hA1 : ∀ w, (callFunc 52 #[.int .u64 y, .int .u64 c, .int .u64 0]).run Tryd.prog w = .ok (.value (.tuple #[.int .u64 t, .int .u64 m])) w := fun w => add64At y c 0 t m y0 c0 (by omega) (by omega) t0 t1 (by omega) w
  clear hyc
  go_enter Tryd.func50, Tryd.ntmps50
  go_wp2_with fail
  refine (implWideOk n0 h0 l0 hp0 lp0 _).mono ?_
  rintro e w1 ⟨rfl, hB1⟩
  rw [hk0]
  have hP := PairS.start hB1
  clear hB1
  go_wp2_with fail
  have hD := PairS.drew hP
  clear hP
  go_region_held3 (fun w' => w'.cell? ⟨w.heap.size, 0, none⟩ = some (.bool n0) ∧ w'.cell? ⟨w.heap.size, 1, none⟩ = some (.int .u64 h0) ∧ w'.cell? ⟨w.heap.size, 2, none⟩ = some (.int .u64 l0) ∧ w'.cell? ⟨w.heap.size + 1, 0, none⟩ = some (.bool false) ∧ w'.cell? ⟨w.heap.size + 1, 1, none⟩ = some (.int .u64 0) ∧ w'.cell? ⟨w.heap.size + 1, 2, none⟩ = some (.int .u64 0) ∧ (∀ k, w'.frozen? ⟨w.heap.size, k, none⟩ = false) ∧ (∀ k, w'.frozen? ⟨w.heap.size + 1, k, none⟩ = false) ∧ Below w.heap.size w w') (with_reducible assumption)
    (first | (go_at_call 61; refine (PairS.call (W := w) (h0 := h0) (l0 := l0) (h1 := 0) (l1 := 0) (keepsC_at w.heap.size (.bool n0)) (keepsC_at (w.heap.size + 1) (.bool false)) (implMagnitude k k0 k1 _) ?_).mono ?_; (with_reducible assumption); rintro e w5 ⟨rfl, hP⟩) | (go_at_call 60; refine (PairS.call (W := w) (h0 := h0) (l0 := l0) (h1 := 0) (l1 := 0) (keepsC_at w.heap.size (.bool n0)) (keepsC_at (w.heap.size + 1) (.bool false)) (implMul64At l0 k.natAbs c d (by omega) (by omega) (by omega) (by omega) (by omega) (by omega) HC.out _) ?_).mono ?_; (with_reducible assumption); rintro e w6 ⟨rfl, hP⟩))
  clear hD
  go_wp2_with fail
  have hD := PairS.drew hP
  clear hP
  go_region_held3 (fun w' => w'.cell? ⟨w.heap.size, 0, none⟩ = some (.bool n0) ∧ w'.cell? ⟨w.heap.size, 1, none⟩ = some (.int .u64 h0) ∧ w'.cell? ⟨w.heap.size, 2, none⟩ = some (.int .u64 l0) ∧ w'.cell? ⟨w.heap.size + 1, 0, none⟩ = some (.bool false) ∧ w'.cell? ⟨w.heap.size + 1, 1, none⟩ = some (.int .u64 0) ∧ w'.cell? ⟨w.heap.size + 1, 2, none⟩ = some (.int .u64 0) ∧ (∀ k, w'.frozen? ⟨w.heap.size, k, none⟩ = false) ∧ (∀ k, w'.frozen? ⟨w.heap.size + 1, k, none⟩ = false) ∧ Below w.heap.size w w') (with_reducible assumption)
    (first | (go_at_call 61; refine (PairS.call (W := w) (h0 := h0) (l0 := l0) (h1 := 0) (l1 := 0) (keepsC_at w.heap.size (.bool n0)) (keepsC_at (w.heap.size + 1) (.bool false)) (implMagnitude k k0 k1 _) ?_).mono ?_; (with_reducible assumption); rintro e w7 ⟨rfl, hP⟩) | (go_at_call 60; refine (PairS.call (W := w) (h0 := h0) (l0 := l0) (h1 := 0) (l1 := 0) (keepsC_at w.heap.size (.bool n0)) (keepsC_at (w.heap.size + 1) (.bool false)) (implMul64At h0 k.natAbs x y (by omega) (by omega) (by omega) (by omega) (by omega) (by omega) HX.out _) ?_).mono ?_; (with_reducible assumption); rintro e w8 ⟨rfl, hP⟩))
  clear hD
  obtain ⟨ca0, ca1, ca2, cr0, cr1, cr2, fa, fr, HB⟩ := hP
  go_wp2_with (simp only [hA1])
  (try simp only [Exit.inBlock, Exit.then])
  refine bodyPost_ret (v := .tuple #[.agg #[.bool false, .int .u64 0, .int .u64 0], .bool false]) ?_ rfl ⟨rfl, ?_⟩
  · rw [results_cell_tmp rfl]
    go_simp
  · repeat' (first | with_reducible assumption | refine Below.setCell ?_ (by simp) _)
set_option maxRecDepth 100000 in
set_option maxHeartbeats 1000000 in
theorem implScale_car (n0 : Bool) (h0 l0 k : Int) (x y c d t m : Int) (hp0 : 0 ≤ h0) (hq0 : h0 < 18446744073709551616) (lp0 : 0 ≤ l0) (lq0 : l0 < 18446744073709551616) (k0 : -9223372036854775808 ≤ k) (k1 : k ≤ 9223372036854775807) (hk0 : okV n0 h0 l0 = true) (_x0 : 0 ≤ x) (y0 : 0 ≤ y) (y1 : y < 18446744073709551616) (c0 : 0 ≤ c) (_c1 : c < 18446744073709551616) (d0 : 0 ≤ d) (d1 : d < 18446744073709551616) (hx : x * 18446744073709551616 + y = h0 * (k.natAbs : Int)) (hc : c * 18446744073709551616 + d = l0 * (k.natAbs : Int)) (t0 : 0 ≤ t) (t1 : t < 18446744073709551616) (hyc : y + c = m * 18446744073709551616 + t) (hx0 : x = 0) (hm : ¬ m = 0) (w : World) :
    Calls Tryd.prog 50 #[.agg #[.bool n0, .int .u64 h0, .int .u64 l0], .int .i64 k] w fun e w' => e = .returned (.tuple #[.agg #[.bool false, .int .u64 0, .int .u64 0], .bool false]) ∧ Below w.heap.size w w' := by
  have HX := Lib.hid hx
  have HC := Lib.hid hc
  clear hx hc
  have hA1 : ∀ w, (callFunc 52 #[.int .u64 y, .int .u64 c, .int .u64 0]).run Tryd.prog w = .ok (.value (.tuple #[.int .u64 t, .int .u64 m])) w := fun w => add64At y c 0 t m y0 c0 (by omega) (by omega) t0 t1 (by omega) w
  clear hyc
  go_enter Tryd.func50, Tryd.ntmps50
  go_wp2_with fail
  refine (implWideOk n0 h0 l0 hp0 lp0 _).mono ?_
  rintro e w1 ⟨rfl, hB1⟩
  rw [hk0]
  have hP := PairS.start hB1
  clear hB1
  go_wp2_with fail
  have hD := PairS.drew hP
  clear hP
  go_region_held3 (fun w' => w'.cell? ⟨w.heap.size, 0, none⟩ = some (.bool n0) ∧ w'.cell? ⟨w.heap.size, 1, none⟩ = some (.int .u64 h0) ∧ w'.cell? ⟨w.heap.size, 2, none⟩ = some (.int .u64 l0) ∧ w'.cell? ⟨w.heap.size + 1, 0, none⟩ = some (.bool false) ∧ w'.cell? ⟨w.heap.size + 1, 1, none⟩ = some (.int .u64 0) ∧ w'.cell? ⟨w.heap.size + 1, 2, none⟩ = some (.int .u64 0) ∧ (∀ k, w'.frozen? ⟨w.heap.size, k, none⟩ = false) ∧ (∀ k, w'.frozen? ⟨w.heap.size + 1, k, none⟩ = false) ∧ Below w.heap.size w w') (with_reducible assumption)
    (first | (go_at_call 61; refine (PairS.call (W := w) (h0 := h0) (l0 := l0) (h1 := 0) (l1 := 0) (keepsC_at w.heap.size (.bool n0)) (keepsC_at (w.heap.size + 1) (.bool false)) (implMagnitude k k0 k1 _) ?_).mono ?_; (with_reducible assumption); rintro e w5 ⟨rfl, hP⟩) | (go_at_call 60; refine (PairS.call (W := w) (h0 := h0) (l0 := l0) (h1 := 0) (l1 := 0) (keepsC_at w.heap.size (.bool n0)) (keepsC_at (w.heap.size + 1) (.bool false)) (implMul64At l0 k.natAbs c d (by omega) (by omega) (by omega) (by omega) (by omega) (by omega) HC.out _) ?_).mono ?_; (with_reducible assumption); rintro e w6 ⟨rfl, hP⟩))
  clear hD
  go_wp2_with fail
  have hD := PairS.drew hP
  clear hP
  go_region_held3 (fun w' => w'.cell? ⟨w.heap.size, 0, none⟩ = some (.bool n0) ∧ w'.cell? ⟨w.heap.size, 1, none⟩ = some (.int .u64 h0) ∧ w'.cell? ⟨w.heap.size, 2, none⟩ = some (.int .u64 l0) ∧ w'.cell? ⟨w.heap.size + 1, 0, none⟩ = some (.bool false) ∧ w'.cell? ⟨w.heap.size + 1, 1, none⟩ = some (.int .u64 0) ∧ w'.cell? ⟨w.heap.size + 1, 2, none⟩ = some (.int .u64 0) ∧ (∀ k, w'.frozen? ⟨w.heap.size, k, none⟩ = false) ∧ (∀ k, w'.frozen? ⟨w.heap.size + 1, k, none⟩ = false) ∧ Below w.heap.size w w') (with_reducible assumption)
    (first | (go_at_call 61; refine (PairS.call (W := w) (h0 := h0) (l0 := l0) (h1 := 0) (l1 := 0) (keepsC_at w.heap.size (.bool n0)) (keepsC_at (w.heap.size + 1) (.bool false)) (implMagnitude k k0 k1 _) ?_).mono ?_; (with_reducible assumption); rintro e w7 ⟨rfl, hP⟩) | (go_at_call 60; refine (PairS.call (W := w) (h0 := h0) (l0 := l0) (h1 := 0) (l1 := 0) (keepsC_at w.heap.size (.bool n0)) (keepsC_at (w.heap.size + 1) (.bool false)) (implMul64At h0 k.natAbs x y (by omega) (by omega) (by omega) (by omega) (by omega) (by omega) HX.out _) ?_).mono ?_; (with_reducible assumption); rintro e w8 ⟨rfl, hP⟩))
  clear hD
  obtain ⟨ca0, ca1, ca2, cr0, cr1, cr2, fa, fr, HB⟩ := hP
  go_wp2_with (simp only [hA1])
  (try simp only [Exit.inBlock, Exit.then])
  refine bodyPost_ret (v := .tuple #[.agg #[.bool false, .int .u64 0, .int .u64 0], .bool false]) ?_ rfl ⟨rfl, ?_⟩
  · rw [results_cell_tmp rfl]
    go_simp
  · repeat' (first | with_reducible assumption | refine Below.setCell ?_ (by simp) _)
set_option maxRecDepth 100000 in
set_option maxHeartbeats 1000000 in
theorem implScale_ok (n0 : Bool) (h0 l0 k : Int) (x y c d t m : Int) (s : Bool) (hp0 : 0 ≤ h0) (hq0 : h0 < 18446744073709551616) (lp0 : 0 ≤ l0) (lq0 : l0 < 18446744073709551616) (k0 : -9223372036854775808 ≤ k) (k1 : k ≤ 9223372036854775807) (hk0 : okV n0 h0 l0 = true) (_x0 : 0 ≤ x) (y0 : 0 ≤ y) (y1 : y < 18446744073709551616) (c0 : 0 ≤ c) (_c1 : c < 18446744073709551616) (d0 : 0 ≤ d) (d1 : d < 18446744073709551616) (hx : x * 18446744073709551616 + y = h0 * (k.natAbs : Int)) (hc : c * 18446744073709551616 + d = l0 * (k.natAbs : Int)) (t0 : 0 ≤ t) (t1 : t < 18446744073709551616) (hyc : y + c = m * 18446744073709551616 + t) (hx0 : x = 0) (hm : m = 0) (hs : Hid (sgV (!(n0 == decide (k < 0))) t d = s)) (hk2 : okV s t d = true) (w : World) :
    Calls Tryd.prog 50 #[.agg #[.bool n0, .int .u64 h0, .int .u64 l0], .int .i64 k] w fun e w' => e = .returned (.tuple #[.agg #[.bool s, .int .u64 t, .int .u64 d], .bool true]) ∧ Below w.heap.size w w' := by
  have HX := Lib.hid hx
  have HC := Lib.hid hc
  clear hx hc
  have hA1 : ∀ w, (callFunc 52 #[.int .u64 y, .int .u64 c, .int .u64 0]).run Tryd.prog w = .ok (.value (.tuple #[.int .u64 t, .int .u64 m])) w := fun w => add64At y c 0 t m y0 c0 (by omega) (by omega) t0 t1 (by omega) w
  clear hyc
  go_enter Tryd.func50, Tryd.ntmps50
  go_wp2_with fail
  refine (implWideOk n0 h0 l0 hp0 lp0 _).mono ?_
  rintro e w1 ⟨rfl, hB1⟩
  rw [hk0]
  have hP := PairS.start hB1
  clear hB1
  go_wp2_with fail
  have hD := PairS.drew hP
  clear hP
  go_region_held3 (fun w' => w'.cell? ⟨w.heap.size, 0, none⟩ = some (.bool n0) ∧ w'.cell? ⟨w.heap.size, 1, none⟩ = some (.int .u64 h0) ∧ w'.cell? ⟨w.heap.size, 2, none⟩ = some (.int .u64 l0) ∧ w'.cell? ⟨w.heap.size + 1, 0, none⟩ = some (.bool false) ∧ w'.cell? ⟨w.heap.size + 1, 1, none⟩ = some (.int .u64 0) ∧ w'.cell? ⟨w.heap.size + 1, 2, none⟩ = some (.int .u64 0) ∧ (∀ k, w'.frozen? ⟨w.heap.size, k, none⟩ = false) ∧ (∀ k, w'.frozen? ⟨w.heap.size + 1, k, none⟩ = false) ∧ Below w.heap.size w w') (with_reducible assumption)
    (first | (go_at_call 61; refine (PairS.call (W := w) (h0 := h0) (l0 := l0) (h1 := 0) (l1 := 0) (keepsC_at w.heap.size (.bool n0)) (keepsC_at (w.heap.size + 1) (.bool false)) (implMagnitude k k0 k1 _) ?_).mono ?_; (with_reducible assumption); rintro e w5 ⟨rfl, hP⟩) | (go_at_call 60; refine (PairS.call (W := w) (h0 := h0) (l0 := l0) (h1 := 0) (l1 := 0) (keepsC_at w.heap.size (.bool n0)) (keepsC_at (w.heap.size + 1) (.bool false)) (implMul64At l0 k.natAbs c d (by omega) (by omega) (by omega) (by omega) (by omega) (by omega) HC.out _) ?_).mono ?_; (with_reducible assumption); rintro e w6 ⟨rfl, hP⟩))
  clear hD
  go_wp2_with fail
  have hD := PairS.drew hP
  clear hP
  go_region_held3 (fun w' => w'.cell? ⟨w.heap.size, 0, none⟩ = some (.bool n0) ∧ w'.cell? ⟨w.heap.size, 1, none⟩ = some (.int .u64 h0) ∧ w'.cell? ⟨w.heap.size, 2, none⟩ = some (.int .u64 l0) ∧ w'.cell? ⟨w.heap.size + 1, 0, none⟩ = some (.bool false) ∧ w'.cell? ⟨w.heap.size + 1, 1, none⟩ = some (.int .u64 0) ∧ w'.cell? ⟨w.heap.size + 1, 2, none⟩ = some (.int .u64 0) ∧ (∀ k, w'.frozen? ⟨w.heap.size, k, none⟩ = false) ∧ (∀ k, w'.frozen? ⟨w.heap.size + 1, k, none⟩ = false) ∧ Below w.heap.size w w') (with_reducible assumption)
    (first | (go_at_call 61; refine (PairS.call (W := w) (h0 := h0) (l0 := l0) (h1 := 0) (l1 := 0) (keepsC_at w.heap.size (.bool n0)) (keepsC_at (w.heap.size + 1) (.bool false)) (implMagnitude k k0 k1 _) ?_).mono ?_; (with_reducible assumption); rintro e w7 ⟨rfl, hP⟩) | (go_at_call 60; refine (PairS.call (W := w) (h0 := h0) (l0 := l0) (h1 := 0) (l1 := 0) (keepsC_at w.heap.size (.bool n0)) (keepsC_at (w.heap.size + 1) (.bool false)) (implMul64At h0 k.natAbs x y (by omega) (by omega) (by omega) (by omega) (by omega) (by omega) HX.out _) ?_).mono ?_; (with_reducible assumption); rintro e w8 ⟨rfl, hP⟩))
  clear hD
  obtain ⟨ca0, ca1, ca2, cr0, cr1, cr2, fa, fr, HB⟩ := hP
  go_wp2_with (simp only [hA1])
  refine (PairS.call (W := w) (h0 := h0) (l0 := l0) (h1 := 0) (l1 := 0) (keepsC_at w.heap.size (.bool n0)) (keepsC_at (w.heap.size + 1) (.bool false)) (implWithSign _ false t d _) ⟨ca0, ca1, ca2, cr0, cr1, cr2, fa, fr, HB⟩).mono ?_
  clear ca0 ca1 ca2 cr0 cr1 cr2 fa fr HB
  rintro e w9 ⟨rfl, hP⟩
  rw [hs.out]
  obtain ⟨ca0, ca1, ca2, cr0, cr1, cr2, fa, fr, HB⟩ := hP
  go_wp2_with fail
  refine (PairS.call (W := w) (h0 := h0) (l0 := l0) (h1 := 0) (l1 := 0) (keepsC_at w.heap.size (.bool n0)) (keepsC_at (w.heap.size + 1) (.bool false)) (implIfOk s t d t0 d0 _) ⟨ca0, ca1, ca2, cr0, cr1, cr2, fa, fr, HB⟩).mono ?_
  clear ca0 ca1 ca2 cr0 cr1 cr2 fa fr HB
  rintro e w10 ⟨rfl, hP⟩
  rw [okE, if_pos hk2]
  obtain ⟨ca0, ca1, ca2, cr0, cr1, cr2, fa, fr, HB⟩ := hP
  clear hA1
  go_wp2_with fail
  (try simp only [Exit.inBlock, Exit.then])
  refine bodyPost_ret (v := .tuple #[.agg #[.bool s, .int .u64 t, .int .u64 d], .bool true]) ?_ rfl ⟨rfl, ?_⟩
  · rw [results_cell_tmp rfl]
    go_simp
  · repeat' (first | with_reducible assumption | refine Below.setCell ?_ (by simp) _)
set_option maxRecDepth 100000 in
set_option maxHeartbeats 1000000 in
theorem implScale_over (n0 : Bool) (h0 l0 k : Int) (x y c d t m : Int) (s : Bool) (hp0 : 0 ≤ h0) (hq0 : h0 < 18446744073709551616) (lp0 : 0 ≤ l0) (lq0 : l0 < 18446744073709551616) (k0 : -9223372036854775808 ≤ k) (k1 : k ≤ 9223372036854775807) (hk0 : okV n0 h0 l0 = true) (_x0 : 0 ≤ x) (y0 : 0 ≤ y) (y1 : y < 18446744073709551616) (c0 : 0 ≤ c) (_c1 : c < 18446744073709551616) (d0 : 0 ≤ d) (d1 : d < 18446744073709551616) (hx : x * 18446744073709551616 + y = h0 * (k.natAbs : Int)) (hc : c * 18446744073709551616 + d = l0 * (k.natAbs : Int)) (t0 : 0 ≤ t) (t1 : t < 18446744073709551616) (hyc : y + c = m * 18446744073709551616 + t) (hx0 : x = 0) (hm : m = 0) (hs : Hid (sgV (!(n0 == decide (k < 0))) t d = s)) (hk2 : ¬ okV s t d = true) (w : World) :
    Calls Tryd.prog 50 #[.agg #[.bool n0, .int .u64 h0, .int .u64 l0], .int .i64 k] w fun e w' => e = .returned (.tuple #[.agg #[.bool false, .int .u64 0, .int .u64 0], .bool false]) ∧ Below w.heap.size w w' := by
  have HX := Lib.hid hx
  have HC := Lib.hid hc
  clear hx hc
  have hA1 : ∀ w, (callFunc 52 #[.int .u64 y, .int .u64 c, .int .u64 0]).run Tryd.prog w = .ok (.value (.tuple #[.int .u64 t, .int .u64 m])) w := fun w => add64At y c 0 t m y0 c0 (by omega) (by omega) t0 t1 (by omega) w
  clear hyc
  go_enter Tryd.func50, Tryd.ntmps50
  go_wp2_with fail
  refine (implWideOk n0 h0 l0 hp0 lp0 _).mono ?_
  rintro e w1 ⟨rfl, hB1⟩
  rw [hk0]
  have hP := PairS.start hB1
  clear hB1
  go_wp2_with fail
  have hD := PairS.drew hP
  clear hP
  go_region_held3 (fun w' => w'.cell? ⟨w.heap.size, 0, none⟩ = some (.bool n0) ∧ w'.cell? ⟨w.heap.size, 1, none⟩ = some (.int .u64 h0) ∧ w'.cell? ⟨w.heap.size, 2, none⟩ = some (.int .u64 l0) ∧ w'.cell? ⟨w.heap.size + 1, 0, none⟩ = some (.bool false) ∧ w'.cell? ⟨w.heap.size + 1, 1, none⟩ = some (.int .u64 0) ∧ w'.cell? ⟨w.heap.size + 1, 2, none⟩ = some (.int .u64 0) ∧ (∀ k, w'.frozen? ⟨w.heap.size, k, none⟩ = false) ∧ (∀ k, w'.frozen? ⟨w.heap.size + 1, k, none⟩ = false) ∧ Below w.heap.size w w') (with_reducible assumption)
    (first | (go_at_call 61; refine (PairS.call (W := w) (h0 := h0) (l0 := l0) (h1 := 0) (l1 := 0) (keepsC_at w.heap.size (.bool n0)) (keepsC_at (w.heap.size + 1) (.bool false)) (implMagnitude k k0 k1 _) ?_).mono ?_; (with_reducible assumption); rintro e w5 ⟨rfl, hP⟩) | (go_at_call 60; refine (PairS.call (W := w) (h0 := h0) (l0 := l0) (h1 := 0) (l1 := 0) (keepsC_at w.heap.size (.bool n0)) (keepsC_at (w.heap.size + 1) (.bool false)) (implMul64At l0 k.natAbs c d (by omega) (by omega) (by omega) (by omega) (by omega) (by omega) HC.out _) ?_).mono ?_; (with_reducible assumption); rintro e w6 ⟨rfl, hP⟩))
  clear hD
  go_wp2_with fail
  have hD := PairS.drew hP
  clear hP
  go_region_held3 (fun w' => w'.cell? ⟨w.heap.size, 0, none⟩ = some (.bool n0) ∧ w'.cell? ⟨w.heap.size, 1, none⟩ = some (.int .u64 h0) ∧ w'.cell? ⟨w.heap.size, 2, none⟩ = some (.int .u64 l0) ∧ w'.cell? ⟨w.heap.size + 1, 0, none⟩ = some (.bool false) ∧ w'.cell? ⟨w.heap.size + 1, 1, none⟩ = some (.int .u64 0) ∧ w'.cell? ⟨w.heap.size + 1, 2, none⟩ = some (.int .u64 0) ∧ (∀ k, w'.frozen? ⟨w.heap.size, k, none⟩ = false) ∧ (∀ k, w'.frozen? ⟨w.heap.size + 1, k, none⟩ = false) ∧ Below w.heap.size w w') (with_reducible assumption)
    (first | (go_at_call 61; refine (PairS.call (W := w) (h0 := h0) (l0 := l0) (h1 := 0) (l1 := 0) (keepsC_at w.heap.size (.bool n0)) (keepsC_at (w.heap.size + 1) (.bool false)) (implMagnitude k k0 k1 _) ?_).mono ?_; (with_reducible assumption); rintro e w7 ⟨rfl, hP⟩) | (go_at_call 60; refine (PairS.call (W := w) (h0 := h0) (l0 := l0) (h1 := 0) (l1 := 0) (keepsC_at w.heap.size (.bool n0)) (keepsC_at (w.heap.size + 1) (.bool false)) (implMul64At h0 k.natAbs x y (by omega) (by omega) (by omega) (by omega) (by omega) (by omega) HX.out _) ?_).mono ?_; (with_reducible assumption); rintro e w8 ⟨rfl, hP⟩))
  clear hD
  obtain ⟨ca0, ca1, ca2, cr0, cr1, cr2, fa, fr, HB⟩ := hP
  go_wp2_with (simp only [hA1])
  refine (PairS.call (W := w) (h0 := h0) (l0 := l0) (h1 := 0) (l1 := 0) (keepsC_at w.heap.size (.bool n0)) (keepsC_at (w.heap.size + 1) (.bool false)) (implWithSign _ false t d _) ⟨ca0, ca1, ca2, cr0, cr1, cr2, fa, fr, HB⟩).mono ?_
  clear ca0 ca1 ca2 cr0 cr1 cr2 fa fr HB
  rintro e w9 ⟨rfl, hP⟩
  rw [hs.out]
  obtain ⟨ca0, ca1, ca2, cr0, cr1, cr2, fa, fr, HB⟩ := hP
  go_wp2_with fail
  refine (PairS.call (W := w) (h0 := h0) (l0 := l0) (h1 := 0) (l1 := 0) (keepsC_at w.heap.size (.bool n0)) (keepsC_at (w.heap.size + 1) (.bool false)) (implIfOk s t d t0 d0 _) ⟨ca0, ca1, ca2, cr0, cr1, cr2, fa, fr, HB⟩).mono ?_
  clear ca0 ca1 ca2 cr0 cr1 cr2 fa fr HB
  rintro e w10 ⟨rfl, hP⟩
  rw [okE, if_neg hk2]
  obtain ⟨ca0, ca1, ca2, cr0, cr1, cr2, fa, fr, HB⟩ := hP
  clear hA1
  go_wp2_with fail
  (try simp only [Exit.inBlock, Exit.then])
  refine bodyPost_ret (v := .tuple #[.agg #[.bool false, .int .u64 0, .int .u64 0], .bool false]) ?_ rfl ⟨rfl, ?_⟩
  · rw [results_cell_tmp rfl]
    go_simp
  · repeat' (first | with_reducible assumption | refine Below.setCell ?_ (by simp) _)
theorem sv_mul (n : Bool) (m k : Int) : sv n m * k = sv (!(n == decide (k < 0))) (m * (k.natAbs : Int)) := by
  by_cases h : k < 0
  · rw [show (k.natAbs : Int) = -k by omega]; cases n <;> simp [sv, h] <;> try grind
  · rw [show (k.natAbs : Int) = k by omega]; cases n <;> simp [sv, h] <;> try grind
theorem implScaleWide (n0 : Bool) (h0 l0 k : Int) (hp0 : 0 ≤ h0) (hq0 : h0 < 18446744073709551616) (lp0 : 0 ≤ l0) (lq0 : l0 < 18446744073709551616) (k0 : -9223372036854775808 ≤ k) (k1 : k ≤ 9223372036854775807) (w : World) :
    Calls Tryd.prog 50 #[.agg #[.bool n0, .int .u64 h0, .int .u64 l0], .int .i64 k] w fun e w' => e = scaleE n0 h0 l0 k ∧ Below w.heap.size w w' := by
  by_cases hk0 : okV n0 h0 l0 = true
  · obtain ⟨x, y, x0, y0, y1, hx⟩ : ∃ x y : Int, 0 ≤ x ∧ 0 ≤ y ∧ y < 18446744073709551616 ∧ x * 18446744073709551616 + y = h0 * (k.natAbs : Int) := by
      have := Int.mul_nonneg hp0 (by omega : 0 ≤ (k.natAbs : Int))
      exact ⟨h0 * (k.natAbs : Int) / 18446744073709551616, h0 * (k.natAbs : Int) % 18446744073709551616, by omega, by omega, by omega, by omega⟩
    obtain ⟨c, d, c0, c1, d0, d1, hc⟩ := split128 l0 (k.natAbs : Int) lp0 lq0 (by omega) (by omega)
    obtain ⟨m, t, m0, m1, t0, t1, hyc⟩ : ∃ m t : Int, 0 ≤ m ∧ m ≤ 1 ∧ 0 ≤ t ∧ t < 18446744073709551616 ∧ y + c = m * 18446744073709551616 + t := ⟨(y + c) / 18446744073709551616, (y + c) % 18446744073709551616, by omega, by omega, by omega, by omega, by omega⟩
    rw [scaleE, if_pos hk0]
    have hv : sv n0 (h0 * 18446744073709551616 + l0) * k = sv (!(n0 == decide (k < 0))) ((x * 18446744073709551616 + y) * 18446744073709551616 + (c * 18446744073709551616 + d)) := by
      rw [sv_mul, hx, hc]
      congr 1
      grind
    rw [hv]
    by_cases hx0 : x = 0
    · by_cases hm : m = 0
      · have e : okE (sgV (!(n0 == decide (k < 0))) t d) t d = fitW (sv (!(n0 == decide (k < 0))) ((x * 18446744073709551616 + y) * 18446744073709551616 + (c * 18446744073709551616 + d))) :=
          okE_fit t0 d0 d1 (sgV_pos t0 d0) (by rw [sv_sgV t0 d0]; congr 1; omega)
        rw [← e]
        by_cases hk2 : okV (sgV (!(n0 == decide (k < 0))) t d) t d = true
        · rw [okE, if_pos hk2]
          exact implScale_ok n0 h0 l0 k x y c d t m _ hp0 hq0 lp0 lq0 k0 k1 hk0 x0 y0 y1 c0 c1 d0 d1 hx hc t0 t1 hyc hx0 hm (Lib.hid rfl) hk2 w
        · rw [okE, if_neg hk2]
          exact implScale_over n0 h0 l0 k x y c d t m _ hp0 hq0 lp0 lq0 k0 k1 hk0 x0 y0 y1 c0 c1 d0 d1 hx hc t0 t1 hyc hx0 hm (Lib.hid rfl) hk2 w
      · rw [← fitW_no (by unfold RoomW; rw [sv_abs _ (by omega)]; omega)]
        exact implScale_car n0 h0 l0 k x y c d t m hp0 hq0 lp0 lq0 k0 k1 hk0 x0 y0 y1 c0 c1 d0 d1 hx hc t0 t1 hyc hx0 hm w
    · rw [← fitW_no (by unfold RoomW; rw [sv_abs _ (by omega)]; omega)]
      exact implScale_big n0 h0 l0 k x y c d t m hp0 hq0 lp0 lq0 k0 k1 hk0 x0 y0 y1 c0 c1 d0 d1 hx hc t0 t1 hyc hx0 w
  · rw [scaleE, if_neg hk0]
    exact implScale_no n0 h0 l0 k hp0 hq0 lp0 lq0 k0 k1 (by simpa using hk0) w
end Go.Proofs.YtapdocfifgnjgaaDoor
