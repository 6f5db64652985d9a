
/-
  Chapter 3: the remaining draws, and the laws' own ways from and to wide numbers.
-/
import Derived.Test.YtcgboimhmklebaaWideD
namespace Go.Proofs.Ytcgboimhmklebaa
open Go.RowKit

set_option maxRecDepth 100000 in
theorem drawMulInt2 (w : World) (v : Value) (n : Nat) (hb : Bytes w v n) :
    Calls Try.prog 24 #[v] w fun e w' => TwoOut e ∧ Below w.heap.size w w' := by
  go_enter Try.func24, Try.ntmps24
  go_wp2_with fail
  refine (l2Two w v n hb).mono ?_
  rintro e w1 ⟨⟨a, b, ha, hb, rfl⟩, hB1⟩
  go_wp2_with fail
  go_ret2
  exact ⟨⟨a, b, ha, hb, rfl⟩, hB1⟩
set_option maxRecDepth 100000 in
theorem drawMulInt (w : World) (v : Value) (n : Nat) (hb : Bytes w v n) :
    Calls Try.prog 15 #[v] w fun e w' => TwoOut e ∧ Below w.heap.size w w' := by
  go_enter Try.func15, Try.ntmps15
  go_wp2_with fail
  refine (l2Two w v n hb).mono ?_
  rintro e w1 ⟨⟨a, b, ⟨a0, a1⟩, ⟨b0, b1⟩, rfl⟩, hB1⟩
  have hb1 := hb.mono hB1
  go_wp2_with fail
  refine (l1New w1 v n hb1).mono ?_
  rintro e w2 ⟨rfl, hc2, hB2⟩
  have hB02 := bt hB1 hB2
  go_wp2_with fail
  refine (l1Once w1 _ _ 4 (by omega) (by omega) hc2).mono ?_
  rintro e w3 ⟨⟨q, rfl⟩, hc3, hg3⟩
  have hB3 := bt hB1 (cur_below hc3)
  cases q with
  | true =>
    by_cases hz : b = 0
    · subst hz
      go_wp2_with fail
      go_ret2
      exact ⟨⟨a, 0, ⟨a0, a1⟩, ⟨b0, b1⟩, rfl⟩, hB3⟩
    · go_wp2_with fail
      go_ret2
      exact ⟨⟨_, b, wrap64_bounds _, ⟨b0, b1⟩, rfl⟩, hB3⟩
  | false =>
    go_wp2_with fail
    go_ret2
    exact ⟨⟨a, b, ⟨a0, a1⟩, ⟨b0, b1⟩, rfl⟩, hB3⟩
set_option maxRecDepth 100000 in
theorem drawWideOf (w : World) (v : Value) (n : Nat) (hb : Bytes w v n) :
    Calls Try.prog 28 #[v] w fun e w' => IntOut e ∧ Below w.heap.size w w' := by
  go_enter Try.func28, Try.ntmps28
  go_wp2_with fail
  refine (l1New w v n hb).mono ?_
  rintro e w1 ⟨rfl, hc1, hB1⟩
  go_wp2_with fail
  refine (l1Whole w _ _ hc1).mono ?_
  rintro e w2 ⟨⟨z, z0, z1, rfl⟩, hc2⟩
  go_wp2_with fail
  go_ret
  exact ⟨⟨z, z0, z1, rfl⟩, cur_below hc2⟩
set_option maxRecDepth 100000 in
set_option maxHeartbeats 1000000 in
theorem toWide (n0 : Bool) (h0 l0 : Int) (w : World) :
    Calls Try.prog 31 #[.agg #[.bool n0, .int .u64 h0, .int .u64 l0]] w fun e w' => e = .returned (.agg #[.bool n0, .int .u64 h0, .int .u64 l0]) ∧ Below w.heap.size w w' := by
  go_enter Try.func31, Try.ntmps31
  go_wp2_with fail
  (try simp only [Exit.inBlock, Exit.then])
  refine bodyPost_ret (v := .agg #[.bool n0, .int .u64 h0, .int .u64 l0]) ?_ rfl ⟨rfl, ?_⟩
  · rw [results_cell rfl]
    go_simp
  · repeat' (first | assumption | exact Below.refl _ _ | refine Below.alloc ?_ (by simp <;> omega) _ | refine Below.setCell ?_ (by simp <;> omega) _)
set_option maxRecDepth 100000 in
set_option maxHeartbeats 1000000 in
theorem eqWide_same (n0 : Bool) (h0 l0 : Int) (w : World) :
    Calls Try.prog 34 #[.agg #[.bool n0, .int .u64 h0, .int .u64 l0], .agg #[.bool n0, .int .u64 h0, .int .u64 l0]] w fun e w' => e = .returned (.bool true) ∧ Below w.heap.size w w' := by
  go_enter Try.func34, Try.ntmps34
  go_wp2_with fail
  go_ret
  exact ⟨rfl, by repeat' (first | assumption | exact Below.refl _ _ | refine Below.alloc ?_ (by simp <;> omega) _ | refine Below.setCell ?_ (by simp <;> omega) _)⟩
def ScaleOut (e : Ending) : Prop := ∃ (n : Bool) (h l k : Int), (0 ≤ h ∧ h < 18446744073709551616) ∧ (0 ≤ l ∧ l < 18446744073709551616) ∧ (-9223372036854775808 ≤ k ∧ k ≤ 9223372036854775807) ∧ e = .returned (.tuple #[.agg #[.bool n, .int .u64 h, .int .u64 l], .int .i64 k])
set_option maxRecDepth 100000 in
set_option maxHeartbeats 1000000 in
theorem drawScaleWide (w : World) (v : Value) (n : Nat) (hb : Bytes w v n) :
    Calls Try.prog 21 #[v] w fun e w' => ScaleOut e ∧ Below w.heap.size w w' := by
  go_enter Try.func21, Try.ntmps21
  go_wp2_with fail
  have hb1 : Bytes (w.alloc (.cells #[.bool false, .int .u64 0, .int .u64 0] 30)) v n := hb.mono ((Below.refl _ _).alloc (Nat.le_refl _) _)
  have hsz : (w.alloc (.cells #[.bool false, .int .u64 0, .int .u64 0] 30)).heap.size = w.heap.size + 1 := by simp
  refine (l1New (w.alloc (.cells #[.bool false, .int .u64 0, .int .u64 0] 30)) v n hb1).mono ?_
  rintro e w1 ⟨rfl, hc1, _⟩
  rw [hsz] at hc1
  clear hb1
  go_wp2_with fail
  refine (l3Wide (w.alloc (.cells #[.bool false, .int .u64 0, .int .u64 0] 30)) _ _ hc1).mono ?_
  rintro e w2 ⟨⟨n0, h0, l0, hh, hl, rfl⟩, hc2⟩
  go_wp2_with fail
  refine (l1Whole (w.alloc (.cells #[.bool false, .int .u64 0, .int .u64 0] 30)) _ _ hc2).mono ?_
  rintro e w3 ⟨⟨z, z0, z1, rfl⟩, hc3⟩
  have hBB := cur_below hc3
  have hr := (box_made w (.bool false) (.int .u64 0) (.int .u64 0)).still hBB
  have HB := Lib.hid (box_below hBB)
  have hcr0 := hr.c0
  have hfr0 := hr.f 0
  have hcr1 := hr.c1
  have hfr1 := hr.f 1
  have hcr2 := hr.c2
  have hfr2 := hr.f 2
  clear hr hBB
  go_wp2_with fail
  (try simp only [Exit.inBlock, Exit.then])
  refine bodyPost_ret (v := .tuple #[.agg #[.bool n0, .int .u64 h0, .int .u64 l0], .int .i64 z]) ?_ rfl ⟨⟨n0, h0, l0, z, hh, hl, ⟨z0, z1⟩, rfl⟩, ?_⟩
  · rw [results_cell_tmp rfl]
    go_simp
  · repeat' (first | exact HB.out | refine Below.setCell ?_ (by simp <;> omega) _)
set_option maxRecDepth 100000 in
set_option maxHeartbeats 1000000 in
theorem drawIntOf (w : World) (v : Value) (n : Nat) (hb : Bytes w v n) :
    Calls Try.prog 29 #[v] w fun e w' => WideOut e ∧ Below w.heap.size w w' := by
  go_enter Try.func29, Try.ntmps29
  go_wp2_with fail
  have hb1 : Bytes (w.alloc (.cells #[.bool false, .int .u64 0, .int .u64 0] 30)) v n := hb.mono ((Below.refl _ _).alloc (Nat.le_refl _) _)
  have hsz : (w.alloc (.cells #[.bool false, .int .u64 0, .int .u64 0] 30)).heap.size = w.heap.size + 1 := by simp
  refine (l1New (w.alloc (.cells #[.bool false, .int .u64 0, .int .u64 0] 30)) v n hb1).mono ?_
  rintro e w1 ⟨rfl, hc1, _⟩
  rw [hsz] at hc1
  clear hb1
  go_wp2_with fail
  refine (l1Once (w.alloc (.cells #[.bool false, .int .u64 0, .int .u64 0] 30)) _ _ 3 (by omega) (by omega) hc1).mono ?_
  rintro e w2 ⟨⟨q, rfl⟩, hc2, hg2⟩
  cases q with
  | true =>
    go_wp2_with fail
    refine (l1Below (w.alloc (.cells #[.bool false, .int .u64 0, .int .u64 0] 30)) _ _ 5 (by omega) (by omega) (hc2.alloc _)).mono ?_
    rintro e w3 ⟨⟨m, hm, rfl⟩, hc3, hg3⟩
    have hb3 := arr_grown hg3 (by have := hc2.lt; omega)
    have hm7 : m = 0 ∨ m = 1 ∨ m = 2 ∨ m = 3 ∨ m = 4 := by omega
    rcases hm7 with rfl | rfl | rfl | rfl | rfl
    · have hx0 : w3.cell? ⟨w2.heap.size, 0, none⟩ = some (.bool false) := cell_blk hb3 0
      have hx1 : w3.cell? ⟨w2.heap.size, 1, none⟩ = some (.int .u64 0) := cell_blk hb3 1
      have hx2 : w3.cell? ⟨w2.heap.size, 2, none⟩ = some (.int .u64 9223372036854775807) := cell_blk hb3 2
      have hBB := cur_below hc3
      have hr := (box_made w (.bool false) (.int .u64 0) (.int .u64 0)).still hBB
      have HB := Lib.hid (box_below hBB)
      have hcr0 := hr.c0
      have hfr0 := hr.f 0
      have hcr1 := hr.c1
      have hfr1 := hr.f 1
      have hcr2 := hr.c2
      have hfr2 := hr.f 2
      clear hr hBB
      go_wp2_with fail
      (try simp only [Exit.inBlock, Exit.then])
      refine bodyPost_ret (v := .agg #[.bool false, .int .u64 0, .int .u64 9223372036854775807]) ?_ rfl ⟨⟨_, _, _, ⟨by omega, by omega⟩, ⟨by omega, by omega⟩, rfl⟩, ?_⟩
      · rw [results_cell rfl]
        go_simp
      · repeat' (first | exact HB.out | refine Below.setCell ?_ (by simp <;> omega) _)
    · have hx0 : w3.cell? ⟨w2.heap.size, 3, none⟩ = some (.bool false) := cell_blk hb3 3
      have hx1 : w3.cell? ⟨w2.heap.size, 4, none⟩ = some (.int .u64 0) := cell_blk hb3 4
      have hx2 : w3.cell? ⟨w2.heap.size, 5, none⟩ = some (.int .u64 9223372036854775808) := cell_blk hb3 5
      have hBB := cur_below hc3
      have hr := (box_made w (.bool false) (.int .u64 0) (.int .u64 0)).still hBB
      have HB := Lib.hid (box_below hBB)
      have hcr0 := hr.c0
      have hfr0 := hr.f 0
      have hcr1 := hr.c1
      have hfr1 := hr.f 1
      have hcr2 := hr.c2
      have hfr2 := hr.f 2
      clear hr hBB
      go_wp2_with fail
      (try simp only [Exit.inBlock, Exit.then])
      refine bodyPost_ret (v := .agg #[.bool false, .int .u64 0, .int .u64 9223372036854775808]) ?_ rfl ⟨⟨_, _, _, ⟨by omega, by omega⟩, ⟨by omega, by omega⟩, rfl⟩, ?_⟩
      · rw [results_cell rfl]
        go_simp
      · repeat' (first | exact HB.out | refine Below.setCell ?_ (by simp <;> omega) _)
    · have hx0 : w3.cell? ⟨w2.heap.size, 6, none⟩ = some (.bool true) := cell_blk hb3 6
      have hx1 : w3.cell? ⟨w2.heap.size, 7, none⟩ = some (.int .u64 0) := cell_blk hb3 7
      have hx2 : w3.cell? ⟨w2.heap.size, 8, none⟩ = some (.int .u64 9223372036854775808) := cell_blk hb3 8
      have hBB := cur_below hc3
      have hr := (box_made w (.bool false) (.int .u64 0) (.int .u64 0)).still hBB
      have HB := Lib.hid (box_below hBB)
      have hcr0 := hr.c0
      have hfr0 := hr.f 0
      have hcr1 := hr.c1
      have hfr1 := hr.f 1
      have hcr2 := hr.c2
      have hfr2 := hr.f 2
      clear hr hBB
      go_wp2_with fail
      (try simp only [Exit.inBlock, Exit.then])
      refine bodyPost_ret (v := .agg #[.bool true, .int .u64 0, .int .u64 9223372036854775808]) ?_ rfl ⟨⟨_, _, _, ⟨by omega, by omega⟩, ⟨by omega, by omega⟩, rfl⟩, ?_⟩
      · rw [results_cell rfl]
        go_simp
      · repeat' (first | exact HB.out | refine Below.setCell ?_ (by simp <;> omega) _)
    · have hx0 : w3.cell? ⟨w2.heap.size, 9, none⟩ = some (.bool true) := cell_blk hb3 9
      have hx1 : w3.cell? ⟨w2.heap.size, 10, none⟩ = some (.int .u64 0) := cell_blk hb3 10
      have hx2 : w3.cell? ⟨w2.heap.size, 11, none⟩ = some (.int .u64 9223372036854775809) := cell_blk hb3 11
      have hBB := cur_below hc3
      have hr := (box_made w (.bool false) (.int .u64 0) (.int .u64 0)).still hBB
      have HB := Lib.hid (box_below hBB)
      have hcr0 := hr.c0
      have hfr0 := hr.f 0
      have hcr1 := hr.c1
      have hfr1 := hr.f 1
      have hcr2 := hr.c2
      have hfr2 := hr.f 2
      clear hr hBB
      go_wp2_with fail
      (try simp only [Exit.inBlock, Exit.then])
      refine bodyPost_ret (v := .agg #[.bool true, .int .u64 0, .int .u64 9223372036854775809]) ?_ rfl ⟨⟨_, _, _, ⟨by omega, by omega⟩, ⟨by omega, by omega⟩, rfl⟩, ?_⟩
      · rw [results_cell rfl]
        go_simp
      · repeat' (first | exact HB.out | refine Below.setCell ?_ (by simp <;> omega) _)
    · have hx0 : w3.cell? ⟨w2.heap.size, 12, none⟩ = some (.bool true) := cell_blk hb3 12
      have hx1 : w3.cell? ⟨w2.heap.size, 13, none⟩ = some (.int .u64 0) := cell_blk hb3 13
      have hx2 : w3.cell? ⟨w2.heap.size, 14, none⟩ = some (.int .u64 0) := cell_blk hb3 14
      have hBB := cur_below hc3
      have hr := (box_made w (.bool false) (.int .u64 0) (.int .u64 0)).still hBB
      have HB := Lib.hid (box_below hBB)
      have hcr0 := hr.c0
      have hfr0 := hr.f 0
      have hcr1 := hr.c1
      have hfr1 := hr.f 1
      have hcr2 := hr.c2
      have hfr2 := hr.f 2
      clear hr hBB
      go_wp2_with fail
      (try simp only [Exit.inBlock, Exit.then])
      refine bodyPost_ret (v := .agg #[.bool true, .int .u64 0, .int .u64 0]) ?_ rfl ⟨⟨_, _, _, ⟨by omega, by omega⟩, ⟨by omega, by omega⟩, rfl⟩, ?_⟩
      · rw [results_cell rfl]
        go_simp
      · repeat' (first | exact HB.out | refine Below.setCell ?_ (by simp <;> omega) _)
  | false =>
    go_wp2_with fail
    refine (l3Wide (w.alloc (.cells #[.bool false, .int .u64 0, .int .u64 0] 30)) _ _ hc2).mono ?_
    rintro e w3 ⟨⟨n0, h0, l0, hh, hl, rfl⟩, hc3⟩
    have hBB := cur_below hc3
    have hr := (box_made w (.bool false) (.int .u64 0) (.int .u64 0)).still hBB
    have HB := Lib.hid (box_below hBB)
    have hcr0 := hr.c0
    have hfr0 := hr.f 0
    have hcr1 := hr.c1
    have hfr1 := hr.f 1
    have hcr2 := hr.c2
    have hfr2 := hr.f 2
    clear hr hBB
    go_wp2_with fail
    (try simp only [Exit.inBlock, Exit.then])
    refine bodyPost_ret (v := .agg #[.bool n0, .int .u64 h0, .int .u64 l0]) ?_ rfl ⟨⟨n0, h0, l0, hh, hl, rfl⟩, ?_⟩
    · rw [results_cell rfl]
      go_simp
    · repeat' (first | exact HB.out | refine Below.setCell ?_ (by simp <;> omega) _)
end Go.Proofs.Ytcgboimhmklebaa
