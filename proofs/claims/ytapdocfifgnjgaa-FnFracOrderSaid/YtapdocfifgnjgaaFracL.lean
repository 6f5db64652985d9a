
/-
  Draws of fractions, and what the laws on fractions turn on.
-/
import Derived.Test.YtapdocfifgnjgaaFracT
import Derived.Test.YtapdocfifgnjgaaFracV
import Derived.Test.YtapdocfifgnjgaaArgsB
namespace Go.Proofs.Ytapdocfifgnjgaa
open Go.RowKit

set_option maxRecDepth 100000 in
set_option maxHeartbeats 1000000 in
theorem drawCompareFrac (w : World) (v : Value) (n : Nat) (hb : Bytes w v n) :
    Calls Try.prog 9 #[v] w fun e w' => TwoFOut e ∧ Below w.heap.size w w' := by
  go_enter Try.func9, Try.ntmps9
  go_wp2_with fail
  have hb1 : Bytes ((w.alloc (.cells #[.bool false, .int .u64 0, .int .u64 0, .int .i64 0] 28)).alloc (.cells #[.bool false, .int .u64 0, .int .u64 0, .int .i64 0] 28)) v n := hb.mono (((Below.refl _ _).alloc (Nat.le_refl _) _).alloc (by simp) _)
  refine (l5Two ((w.alloc (.cells #[.bool false, .int .u64 0, .int .u64 0, .int .i64 0] 28)).alloc (.cells #[.bool false, .int .u64 0, .int .u64 0, .int .i64 0] 28)) v n hb1).mono ?_
  rintro e w1 ⟨⟨n0, h0, l0, d0, n1, h1, l1, d1, b0, b1, rfl⟩, hB⟩
  obtain ⟨hR, hS, hBB, _⟩ := box2 hB
  have HT := Lib.hid hBB
  clear hBB hB hb1
  have cR0 : w1.cell? ⟨w.heap.size, 0, none⟩ = some (.bool false) := cell_blk hR 0
  have cR1 : w1.cell? ⟨w.heap.size, 1, none⟩ = some (.int .u64 0) := cell_blk hR 1
  have cR2 : w1.cell? ⟨w.heap.size, 2, none⟩ = some (.int .u64 0) := cell_blk hR 2
  have cR3 : w1.cell? ⟨w.heap.size, 3, none⟩ = some (.int .i64 0) := cell_blk hR 3
  have fR := free_blk hR
  have lR := blkF hR
  have cS0 : w1.cell? ⟨w.heap.size + 1, 0, none⟩ = some (.bool false) := cell_blk hS 0
  have cS1 : w1.cell? ⟨w.heap.size + 1, 1, none⟩ = some (.int .u64 0) := cell_blk hS 1
  have cS2 : w1.cell? ⟨w.heap.size + 1, 2, none⟩ = some (.int .u64 0) := cell_blk hS 2
  have cS3 : w1.cell? ⟨w.heap.size + 1, 3, none⟩ = some (.int .i64 0) := cell_blk hS 3
  have fS := free_blk hS
  have lS := blkF hS
  go_wp2_with fail
  (try simp only [Exit.inBlock, Exit.then])
  refine bodyPost_ret (v := .tuple #[.agg #[.bool n0, .int .u64 h0, .int .u64 l0, .int .i64 d0], .agg #[.bool n1, .int .u64 h1, .int .u64 l1, .int .i64 d1]]) ?_ rfl ⟨⟨_, _, _, _, _, _, _, _, b0, b1, rfl⟩, ?_⟩
  · rw [results_cells2 rfl]
    go_simp
  · repeat' (first | refine Below.setCell ?_ (by simp <;> omega) _ | exact HT.out)
set_option maxRecDepth 100000 in
theorem at0_in (w : World) (v : Value) (n i : Nat) (hb : Bytes w v n) (hi : i < n) (hi4 : i ≤ 4) :
    Calls Try.prog 13 #[v, .int .i64 i] w fun e w' => (∃ z : Int, 0 ≤ z ∧ z ≤ 255 ∧ e = .returned (.int .i64 z)) ∧ w = w' := by
  rcases hb with ⟨c, rfl, rfl⟩ | ⟨a, c, rfl, rfl⟩ | ⟨b, off, c, rfl, hn, hcell⟩
  · omega
  · omega
  · obtain ⟨_, z, z0, z1, hz⟩ := hcell i hi
    have hlt : (i : Int) < n := by omega
    go_enter Try.func13, Try.ntmps13
    go_wp2_with fail
    go_ret
    exact ⟨⟨z, z0, z1, rfl⟩, rfl⟩
set_option maxRecDepth 100000 in
theorem at0_out (w : World) (v : Value) (n i : Nat) (hb : Bytes w v n) (hi : ¬ i < n) (hi4 : i ≤ 4) :
    Calls Try.prog 13 #[v, .int .i64 i] w fun e w' => (∃ z : Int, 0 ≤ z ∧ z ≤ 255 ∧ e = .returned (.int .i64 z)) ∧ w = w' := by
  obtain ⟨a, c, rfl⟩ := hb.shape
  have hlt : ¬ (i : Int) < n := by omega
  go_enter Try.func13, Try.ntmps13
  go_wp2_with fail
  go_ret
  exact ⟨⟨_, by omega, by omega, rfl⟩, rfl⟩
theorem at0 (w : World) (v : Value) (n i : Nat) (hb : Bytes w v n) (hi4 : i ≤ 4) :
    Calls Try.prog 13 #[v, .int .i64 i] w fun e w' => (∃ z : Int, 0 ≤ z ∧ z ≤ 255 ∧ e = .returned (.int .i64 z)) ∧ w = w' := by
  by_cases hi : i < n
  · exact at0_in w v n i hb hi hi4
  · exact at0_out w v n i hb hi hi4
theorem cmpZ_swap (x y : Int) : cmpZ y x = -cmpZ x y := by
  simp only [cmpZ]
  split <;> split <;> (try split) <;> omega
theorem cmpZ_range (x y : Int) : -1 ≤ cmpZ x y ∧ cmpZ x y ≤ 1 := by
  simp only [cmpZ]
  split
  · omega
  · split <;> omega
theorem CrossOk.symm {n0 : Bool} {h0 l0 d0 : Int} {n1 : Bool} {h1 l1 d1 : Int} (h : CrossOk n0 h0 l0 d0 n1 h1 l1 d1) : CrossOk n1 h1 l1 d1 n0 h0 l0 d0 := ⟨h.2.1, h.1, h.2.2.2, h.2.2.1⟩
/-- The order of two fractions, either way round: valid both or neither, one the negative of the other. -/
theorem cmp_both (n0 : Bool) (h0 l0 d0 : Int) (n1 : Bool) (h1 l1 d1 : Int) : ∃ (N : Int) (b : Bool), (-1 ≤ N ∧ N ≤ 1) ∧ cmpFE n0 h0 l0 d0 n1 h1 l1 d1 = .returned (.tuple #[.int .i64 N, .bool b]) ∧ cmpFE n1 h1 l1 d1 n0 h0 l0 d0 = .returned (.tuple #[.int .i64 (-N), .bool b]) ∧ (b = true → CrossOk n0 h0 l0 d0 n1 h1 l1 d1 ∧ N = cmpZ (sv n0 (h0 * 18446744073709551616 + l0) * d1) (sv n1 (h1 * 18446744073709551616 + l1) * d0)) := by
  by_cases h : CrossOk n0 h0 l0 d0 n1 h1 l1 d1
  · refine ⟨_, true, cmpZ_range _ _, by rw [cmpFE, if_pos h], ?_, fun _ => ⟨h, rfl⟩⟩
    rw [cmpFE, if_pos h.symm, cmpZ_swap]
  · exact ⟨0, false, by omega, by rw [cmpFE, if_neg h], by rw [cmpFE, if_neg (fun k => h k.symm)]; rfl, fun k => by cases k⟩
/-- The sum, in parts. -/
theorem add_parts (n0 : Bool) (h0 l0 d0 : Int) (n1 : Bool) (h1 l1 d1 : Int) : ∃ (n : Bool) (h l d : Int) (b : Bool), (0 ≤ h ∧ h < 18446744073709551616) ∧ (0 ≤ l ∧ l < 18446744073709551616) ∧ (-9223372036854775808 ≤ d ∧ d ≤ 9223372036854775807) ∧ addFE n0 h0 l0 d0 n1 h1 l1 d1 = .returned (.tuple #[.agg #[.bool n, .int .u64 h, .int .u64 l, .int .i64 d], .bool b]) ∧
    (b = true → CrossOk n0 h0 l0 d0 n1 h1 l1 d1 ∧ d = d0 * d1 ∧ sv n (h * 18446744073709551616 + l) = sv n0 (h0 * 18446744073709551616 + l0) * d1 + sv n1 (h1 * 18446744073709551616 + l1) * d0 ∧ okF n h l d = true) := by
  by_cases k : CrossOk n0 h0 l0 d0 n1 h1 l1 d1 ∧ RoomW (sv n0 (h0 * 18446744073709551616 + l0) * d1 + sv n1 (h1 * 18446744073709551616 + l1) * d0) ∧ d0 * d1 ≤ 1000000
  · have k0 := (okF_yes k.1.1).2
    have k1 := (okF_yes k.1.2.1).2
    have hp := den_mul k0.1 k0.2 k1.1 k1.2
    have hR := k.2.1
    unfold RoomW at hR
    refine ⟨_, _, _, d0 * d1, true, ?_, ?_, ⟨by omega, by omega⟩, by rw [addFE, if_pos k, fracV], fun _ => ⟨k.1, rfl, wideC_sv _, okF_mk (wideC_ok k.2.1) hp.1 k.2.2⟩⟩
    · omega
    · omega
  · exact ⟨false, 0, 0, 0, false, by omega, by omega, by omega, by rw [addFE, if_neg k], fun h => by cases h⟩
theorem cmpZ_scale {x y k : Int} (hk : 0 < k) : cmpZ (x * k) (y * k) = cmpZ x y := by
  have a : x * k < y * k ↔ x < y := ⟨fun h => Int.lt_of_mul_lt_mul_right h (by omega), fun h => Int.mul_lt_mul_of_pos_right h hk⟩
  have b : y * k < x * k ↔ y < x := ⟨fun h => Int.lt_of_mul_lt_mul_right h (by omega), fun h => Int.mul_lt_mul_of_pos_right h hk⟩
  simp only [cmpZ, a, b]
theorem cmpZ_shift {x y z : Int} : cmpZ (x + z) (y + z) = cmpZ x y := by
  have a : x + z < y + z ↔ x < y := by omega
  have b : y + z < x + z ↔ y < x := by omega
  simp only [cmpZ, a, b]
/-- The same fraction added on both sides. -/
theorem cmp_added {a b c d0 d1 e : Int} (he : 0 < e) : cmpZ ((a * e + c * d0) * (d1 * e)) ((b * e + c * d1) * (d0 * e)) = cmpZ (a * d1) (b * d0) := by
  have e1 : (a * e + c * d0) * (d1 * e) = a * d1 * (e * e) + c * d0 * d1 * e := by grind
  have e2 : (b * e + c * d1) * (d0 * e) = b * d0 * (e * e) + c * d0 * d1 * e := by grind
  rw [e1, e2, cmpZ_shift, cmpZ_scale (Int.mul_pos he he)]
end Go.Proofs.Ytapdocfifgnjgaa
