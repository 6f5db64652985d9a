/-
  Draws of fractions, and what the laws on fractions turn on.
  The text of a fraction: the program's way.
-/
import Derived.Test.YtapdocfifgnjgaaDoorFracT
import Derived.Test.YtapdocfifgnjgaaDoorPk9
import Derived.Test.YtapdocfifgnjgaaDoorPk3
import Derived.Test.YtapdocfifgnjgaaDoorI5A
import Derived.Test.YtapdocfifgnjgaaDoorI4
import Derived.Test.YtapdocfifgnjgaaDoorPk8
import Derived.Test.YtapdocfifgnjgaaDoorPk1
namespace Go.Proofs.YtapdocfifgnjgaaDoor
open Go.RowKit

set_option maxRecDepth 100000 in
set_option maxHeartbeats 1000000 in
theorem drawAddFrac (w : World) (v : Value) (n : Nat) (hb : Bytes w v n) :
    Calls Tryd.prog 7 #[v] w fun e w' => TwoFOut e ∧ Below w.heap.size w w' := by
  go_enter Tryd.func7, Tryd.ntmps7
  go_wp2_with fail
  have hb1 : Bytes ((w.alloc (.cells #[.bool false, .int .u64 0, .int .u64 0, .int .i64 0] 28)).alloc (.cells #[.bool false, .int .u64 0, .int .u64 0, .int .i64 0] 28)) v n := hb.mono (((Below.refl _ _).alloc (Nat.le_refl _) _).alloc (by simp) _)
  refine (l5Two ((w.alloc (.cells #[.bool false, .int .u64 0, .int .u64 0, .int .i64 0] 28)).alloc (.cells #[.bool false, .int .u64 0, .int .u64 0, .int .i64 0] 28)) v n hb1).mono ?_
  rintro e w1 ⟨⟨n0, h0, l0, d0, n1, h1, l1, d1, b0, b1, rfl⟩, hB⟩
  obtain ⟨hR, hS, hBB, _⟩ := box2 hB
  have HT := Lib.hid hBB
  clear hBB hB hb1
  have cR0 : w1.cell? ⟨w.heap.size, 0, none⟩ = some (.bool false) := cell_blk hR 0
  have cR1 : w1.cell? ⟨w.heap.size, 1, none⟩ = some (.int .u64 0) := cell_blk hR 1
  have cR2 : w1.cell? ⟨w.heap.size, 2, none⟩ = some (.int .u64 0) := cell_blk hR 2
  have cR3 : w1.cell? ⟨w.heap.size, 3, none⟩ = some (.int .i64 0) := cell_blk hR 3
  have fR := free_blk hR
  have lR := blkF hR
  have cS0 : w1.cell? ⟨w.heap.size + 1, 0, none⟩ = some (.bool false) := cell_blk hS 0
  have cS1 : w1.cell? ⟨w.heap.size + 1, 1, none⟩ = some (.int .u64 0) := cell_blk hS 1
  have cS2 : w1.cell? ⟨w.heap.size + 1, 2, none⟩ = some (.int .u64 0) := cell_blk hS 2
  have cS3 : w1.cell? ⟨w.heap.size + 1, 3, none⟩ = some (.int .i64 0) := cell_blk hS 3
  have fS := free_blk hS
  have lS := blkF hS
  go_wp2_with fail
  (try simp only [Exit.inBlock, Exit.then])
  refine bodyPost_ret (v := .tuple #[.agg #[.bool n0, .int .u64 h0, .int .u64 l0, .int .i64 d0], .agg #[.bool n1, .int .u64 h1, .int .u64 l1, .int .i64 d1]]) ?_ rfl ⟨⟨_, _, _, _, _, _, _, _, b0, b1, rfl⟩, ?_⟩
  · rw [results_cells2 rfl]
    go_simp
  · repeat' (first | refine Below.setCell ?_ (by simp <;> omega) _ | exact HT.out)
theorem cmpZ_swap (x y : Int) : cmpZ y x = -cmpZ x y := by
  simp only [cmpZ]
  split <;> split <;> (try split) <;> omega
theorem cmpZ_range (x y : Int) : -1 ≤ cmpZ x y ∧ cmpZ x y ≤ 1 := by
  simp only [cmpZ]
  split
  · omega
  · split <;> omega
theorem CrossOk.symm {n0 : Bool} {h0 l0 d0 : Int} {n1 : Bool} {h1 l1 d1 : Int} (h : CrossOk n0 h0 l0 d0 n1 h1 l1 d1) : CrossOk n1 h1 l1 d1 n0 h0 l0 d0 := ⟨h.2.1, h.1, h.2.2.2, h.2.2.1⟩
/-- The order of two fractions, either way round: valid both or neither, one the negative of the other. -/
theorem cmp_both (n0 : Bool) (h0 l0 d0 : Int) (n1 : Bool) (h1 l1 d1 : Int) : ∃ (N : Int) (b : Bool), (-1 ≤ N ∧ N ≤ 1) ∧ cmpFE n0 h0 l0 d0 n1 h1 l1 d1 = .returned (.tuple #[.int .i64 N, .bool b]) ∧ cmpFE n1 h1 l1 d1 n0 h0 l0 d0 = .returned (.tuple #[.int .i64 (-N), .bool b]) ∧ (b = true → CrossOk n0 h0 l0 d0 n1 h1 l1 d1 ∧ N = cmpZ (sv n0 (h0 * 18446744073709551616 + l0) * d1) (sv n1 (h1 * 18446744073709551616 + l1) * d0)) := by
  by_cases h : CrossOk n0 h0 l0 d0 n1 h1 l1 d1
  · refine ⟨_, true, cmpZ_range _ _, by rw [cmpFE, if_pos h], ?_, fun _ => ⟨h, rfl⟩⟩
    rw [cmpFE, if_pos h.symm, cmpZ_swap]
  · exact ⟨0, false, by omega, by rw [cmpFE, if_neg h], by rw [cmpFE, if_neg (fun k => h k.symm)]; rfl, fun k => by cases k⟩
/-- The sum, in parts. -/
theorem add_parts (n0 : Bool) (h0 l0 d0 : Int) (n1 : Bool) (h1 l1 d1 : Int) : ∃ (n : Bool) (h l d : Int) (b : Bool), (0 ≤ h ∧ h < 18446744073709551616) ∧ (0 ≤ l ∧ l < 18446744073709551616) ∧ (-9223372036854775808 ≤ d ∧ d ≤ 9223372036854775807) ∧ addFE n0 h0 l0 d0 n1 h1 l1 d1 = .returned (.tuple #[.agg #[.bool n, .int .u64 h, .int .u64 l, .int .i64 d], .bool b]) ∧
    (b = true → CrossOk n0 h0 l0 d0 n1 h1 l1 d1 ∧ d = d0 * d1 ∧ sv n (h * 18446744073709551616 + l) = sv n0 (h0 * 18446744073709551616 + l0) * d1 + sv n1 (h1 * 18446744073709551616 + l1) * d0 ∧ okF n h l d = true) := by
  by_cases k : CrossOk n0 h0 l0 d0 n1 h1 l1 d1 ∧ RoomW (sv n0 (h0 * 18446744073709551616 + l0) * d1 + sv n1 (h1 * 18446744073709551616 + l1) * d0) ∧ d0 * d1 ≤ 1000000
  · have k0 := (okF_yes k.1.1).2
    have k1 := (okF_yes k.1.2.1).2
    have hp := den_mul k0.1 k0.2 k1.1 k1.2
    have hR := k.2.1
    unfold RoomW at hR
    refine ⟨_, _, _, d0 * d1, true, ?_, ?_, ⟨by omega, by omega⟩, by rw [addFE, if_pos k, fracV], fun _ => ⟨k.1, rfl, wideC_sv _, okF_mk (wideC_ok k.2.1) hp.1 k.2.2⟩⟩
    · omega
    · omega
  · exact ⟨false, 0, 0, 0, false, by omega, by omega, by omega, by rw [addFE, if_neg k], fun h => by cases h⟩
theorem cmpZ_scale {x y k : Int} (hk : 0 < k) : cmpZ (x * k) (y * k) = cmpZ x y := by
  have a : x * k < y * k ↔ x < y := ⟨fun h => Int.lt_of_mul_lt_mul_right h (by omega), fun h => Int.mul_lt_mul_of_pos_right h hk⟩
  have b : y * k < x * k ↔ y < x := ⟨fun h => Int.lt_of_mul_lt_mul_right h (by omega), fun h => Int.mul_lt_mul_of_pos_right h hk⟩
  simp only [cmpZ, a, b]
theorem cmpZ_shift {x y z : Int} : cmpZ (x + z) (y + z) = cmpZ x y := by
  have a : x + z < y + z ↔ x < y := by omega
  have b : y + z < x + z ↔ y < x := by omega
  simp only [cmpZ, a, b]
/-- The same fraction added on both sides. -/
theorem cmp_added {a b c d0 d1 e : Int} (he : 0 < e) : cmpZ ((a * e + c * d0) * (d1 * e)) ((b * e + c * d1) * (d0 * e)) = cmpZ (a * d1) (b * d0) := by
  have e1 : (a * e + c * d0) * (d1 * e) = a * d1 * (e * e) + c * d0 * d1 * e := by grind
  have e2 : (b * e + c * d1) * (d0 * e) = b * d0 * (e * e) + c * d0 * d1 * e := by grind
  rw [e1, e2, cmpZ_shift, cmpZ_scale (Int.mul_pos he he)]
end Go.Proofs.YtapdocfifgnjgaaDoor
namespace Go.Proofs.YtapdocfifgnjgaaDoor
open Go.RowKit

set_option maxRecDepth 100000 in
set_option maxHeartbeats 1000000 in
theorem implFracText_no (n0 : Bool) (h0 l0 d0 : Int) (hp0 : 0 ≤ h0) (hq0 : h0 < 18446744073709551616) (lp0 : 0 ≤ l0) (lq0 : l0 < 18446744073709551616) (dp0 : -9223372036854775808 ≤ d0) (dq0 : d0 ≤ 9223372036854775807) (hk : Hid (okF n0 h0 l0 d0 = false)) (w : World) :
    Calls Tryd.prog 14 #[.agg #[.bool n0, .int .u64 h0, .int .u64 l0, .int .i64 d0]] w fun e w' => e = .returned (.string ⟨#[]⟩) ∧ Below w.heap.size w w' := by
  go_enter Tryd.func14, Tryd.ntmps14
  go_wp2_with fail
  refine (implFracOk n0 h0 l0 d0 hp0 hq0 lp0 lq0 dp0 dq0 _).mono ?_
  rintro e w1 ⟨rfl, hB1⟩
  rw [hk.out]
  have hA := box_kept hB1
  have HT := Lib.hid (box_below hB1)
  clear hB1
  go_wp2_with fail
  go_ret
  exact ⟨rfl, HT.out⟩
set_option maxRecDepth 100000 in
set_option maxHeartbeats 1000000 in
theorem implFracText_ok (n0 : Bool) (h0 l0 d0 : Int) (hp0 : 0 ≤ h0) (hq0 : h0 < 18446744073709551616) (lp0 : 0 ≤ l0) (lq0 : l0 < 18446744073709551616) (dp0 : -9223372036854775808 ≤ d0) (dq0 : d0 ≤ 9223372036854775807) (tx td : List UInt8) (hk : Hid (okF n0 h0 l0 d0 = true)) (ht : Hid (textV n0 h0 l0 = tx)) (hd : Hid (Lib.itoa d0 = td)) (_a0 : tx.length ≤ 40) (_a1 : td.length ≤ 40) (a2 : ¬ 9223372036854775807 < tx.length + 1) (a3 : ¬ 9223372036854775807 < tx.length + 1 + td.length) (w : World) (htab : Lib.TabIs Tryd.prog w "internal/strconv.uint64pow10" .u64 Lib.pow10Tab) (hg : 2 < w.heap.size) :
    Calls Tryd.prog 14 #[.agg #[.bool n0, .int .u64 h0, .int .u64 l0, .int .i64 d0]] w fun e w' => e = .returned (.string ⟨(tx ++ 47 :: td).toArray⟩) ∧ Below w.heap.size w w' := by
  go_enter Tryd.func14, Tryd.ntmps14
  go_wp2_with fail
  refine (implFracOk n0 h0 l0 d0 hp0 hq0 lp0 lq0 dp0 dq0 _).mono ?_
  rintro e w1 ⟨rfl, hB1⟩
  rw [hk.out]
  have hA := box_kept hB1
  have HT := Lib.hid (box_below hB1)
  clear hB1
  have cA0 : w1.cell? ⟨w.heap.size, 0, none⟩ = some (.bool n0) := cell_blk hA 0
  have cA1 : w1.cell? ⟨w.heap.size, 1, none⟩ = some (.int .u64 h0) := cell_blk hA 1
  have cA2 : w1.cell? ⟨w.heap.size, 2, none⟩ = some (.int .u64 l0) := cell_blk hA 2
  have cA3 : w1.cell? ⟨w.heap.size, 3, none⟩ = some (.int .i64 d0) := cell_blk hA 3
  go_wp2_with fail
  clear cA0 cA1 cA2 cA3
  have hDD : w1.drew.cell? ⟨w.heap.size, 0, none⟩ = some (.bool n0) ∧ w1.drew.cell? ⟨w.heap.size, 1, none⟩ = some (.int .u64 h0) ∧ w1.drew.cell? ⟨w.heap.size, 2, none⟩ = some (.int .u64 l0) ∧ w1.drew.cell? ⟨w.heap.size, 3, none⟩ = some (.int .i64 d0) := ⟨cell_blk (w := w1) hA 0, cell_blk (w := w1) hA 1, cell_blk (w := w1) hA 2, cell_blk (w := w1) hA 3⟩
  refine wp_region_noPanic ?_
  refine wp_region_held_drew (S := (fun w' => w'.cell? ⟨w.heap.size, 0, none⟩ = some (.bool n0) ∧ w'.cell? ⟨w.heap.size, 1, none⟩ = some (.int .u64 h0) ∧ w'.cell? ⟨w.heap.size, 2, none⟩ = some (.int .u64 l0) ∧ w'.cell? ⟨w.heap.size, 3, none⟩ = some (.int .i64 d0))) (by kernel_rfl) hDD (fun hHeld => ?_)
  clear hDD
  replace hA : w1.drew.heap[w.heap.size]? = _ := hA
  replace HT : Hid (Below w.heap.size w w1.drew) := Lib.hid (Below.drew HT.out)
  generalize w1.drew = wd at hA HT hHeld ⊢
  refine wpAnyH_take (i := 0) (oi := ?o1) (v := ?v1) ?hi1 ?hs1 ?hf1 ?hr1 ?hQ1 ?hy1 ?hS1 ?rest1
  case hi1 => rfl
  case hs1 => kernel_rfl
  case hf1 => kernel_rfl
  case hr1 => kernel_rfl
  case hQ1 => exact fun _ _ _ h => h
  case hS1 => assumption
  case hy1 =>
    refine Or.inl ⟨by kernel_rfl, ?_⟩
    intro w' hSw
    (try dsimp only at hSw)
    go_simp
    (try rfl)
  (try simp only [List.getElem_toArray, List.getElem_cons_zero, Act.put, List.setIfInBounds_toArray, List.set_cons_zero, List.set_cons_succ])
  refine wpAnyH_take (i := 1) (oi := ?o2) (v := ?v2) ?hi2 ?hs2 ?hf2 ?hr2 ?hQ2 ?hy2 ?hS2 ?rest2
  case hi2 => rfl
  case hs2 => kernel_rfl
  case hf2 => kernel_rfl
  case hr2 => kernel_rfl
  case hQ2 => exact fun _ _ _ h => h
  case hS2 => assumption
  case hy2 =>
    refine Or.inl ⟨by kernel_rfl, ?_⟩
    intro w' hSw
    (try dsimp only at hSw)
    go_simp
    (try rfl)
  (try simp only [List.getElem_toArray, List.getElem_cons_succ, List.getElem_cons_zero, Act.put, List.setIfInBounds_toArray, List.set_cons_zero, List.set_cons_succ])
  refine wpAnyH_take (i := 4) (oi := ?o3) (v := ?v3) ?hi3 ?hs3 ?hf3 ?hr3 ?hQ3 ?hy3 ?hS3 ?rest3
  case hi3 => rfl
  case hs3 => kernel_rfl
  case hf3 => kernel_rfl
  case hr3 => kernel_rfl
  case hQ3 => exact fun _ _ _ h => h
  case hS3 => assumption
  case hy3 =>
    refine Or.inl ⟨by kernel_rfl, ?_⟩
    intro w' hSw
    (try dsimp only at hSw)
    go_simp
    (try rfl)
  (try simp only [List.getElem_toArray, List.getElem_cons_succ, List.getElem_cons_zero, Act.put, List.setIfInBounds_toArray, List.set_cons_zero, List.set_cons_succ])
  refine wpAnyH_take (i := 5) (oi := ?o4) (v := ?v4) ?hi4 ?hs4 ?hf4 ?hr4 ?hQ4 ?hy4 ?hS4 ?rest4
  case hi4 => rfl
  case hs4 => kernel_rfl
  case hf4 => kernel_rfl
  case hr4 => kernel_rfl
  case hQ4 => exact fun _ _ _ h => h
  case hS4 => assumption
  case hy4 =>
    refine Or.inl ⟨by kernel_rfl, ?_⟩
    intro w' hSw
    (try dsimp only at hSw)
    go_simp
    (try rfl)
  (try simp only [List.getElem_toArray, List.getElem_cons_succ, List.getElem_cons_zero, Act.put, List.setIfInBounds_toArray, List.set_cons_zero, List.set_cons_succ])
  refine wpAnyH_ready (rs := [2]) (by kernel_rfl) (by simp) ?_
  refine AllReadyH.cons rfl (fun K hK => ?_) AllReadyH.nil
  go_simp
  refine (implWideText n0 h0 l0 hp0 lp0 lq0 _).mono ?_
  rintro e w2 ⟨rfl, hB2⟩
  rw [ht.out]
  replace hA := box_still hA hB2
  replace HT := Lib.hid (bt2 HT.out hB2)
  clear hB2
  refine hK.out _ _ ?_ (fun hHeld => ?_)
  · exact ⟨cell_blk hA 0, cell_blk hA 1, cell_blk hA 2, cell_blk hA 3⟩
  clear hK K
  (try simp only [List.getElem_toArray, List.getElem_cons_succ, List.getElem_cons_zero, Act.put, List.setIfInBounds_toArray, List.set_cons_zero, List.set_cons_succ])
  refine wpAnyH_take (i := 3) (oi := ?o5) (v := ?v5) ?hi5 ?hs5 ?hf5 ?hr5 ?hQ5 ?hy5 ?hS5 ?rest5
  case hi5 => rfl
  case hs5 => kernel_rfl
  case hf5 => kernel_rfl
  case hr5 => kernel_rfl
  case hQ5 => exact fun _ _ _ h => h
  case hS5 => assumption
  case hy5 =>
    refine Or.inl ⟨by kernel_rfl, ?_⟩
    intro w' hSw
    (try dsimp only at hSw)
    go_simp
    (try rfl)
  (try simp only [List.getElem_toArray, List.getElem_cons_succ, List.getElem_cons_zero, Act.put, List.setIfInBounds_toArray, List.set_cons_zero, List.set_cons_succ])
  refine wpAnyH_ready (rs := [6]) (by kernel_rfl) (by simp) ?_
  refine AllReadyH.cons rfl (fun K hK => ?_) AllReadyH.nil
  go_simp
  refine (implDigits d0 dp0 dq0 _ (tabIs_below htab HT.out gPow hg)).mono ?_
  rintro e w3 ⟨rfl, hB3⟩
  rw [hd.out]
  replace hA := box_still hA hB3
  replace HT := Lib.hid (bt2 HT.out hB3)
  clear hB3
  refine hK.out _ _ ?_ (fun hHeld => ?_)
  · exact ⟨cell_blk hA 0, cell_blk hA 1, cell_blk hA 2, cell_blk hA 3⟩
  clear hK K
  (try simp only [List.getElem_toArray, List.getElem_cons_succ, List.getElem_cons_zero, Act.put, List.setIfInBounds_toArray, List.set_cons_zero, List.set_cons_succ])
  refine wpAnyH_take (i := 7) (oi := ?o6) (v := ?v6) ?hi6 ?hs6 ?hf6 ?hr6 ?hQ6 ?hy6 ?hS6 ?rest6
  case hi6 => rfl
  case hs6 => kernel_rfl
  case hf6 => kernel_rfl
  case hr6 => kernel_rfl
  case hQ6 => exact fun _ _ _ h => h
  case hS6 => assumption
  case hy6 =>
    refine Or.inl ⟨by kernel_rfl, ?_⟩
    intro w' hSw
    (try dsimp only at hSw)
    go_simp
    (try rfl)
  (try simp only [List.getElem_toArray, List.getElem_cons_succ, List.getElem_cons_zero, Act.put, List.setIfInBounds_toArray, List.set_cons_zero, List.set_cons_succ])
  refine wpAnyH_take (i := 8) (oi := ?o7) (v := ?v7) ?hi7 ?hs7 ?hf7 ?hr7 ?hQ7 ?hy7 ?hS7 ?rest7
  case hi7 => rfl
  case hs7 => kernel_rfl
  case hf7 => kernel_rfl
  case hr7 => kernel_rfl
  case hQ7 => exact fun _ _ _ h => h
  case hS7 => assumption
  case hy7 =>
    refine Or.inl ⟨by kernel_rfl, ?_⟩
    intro w' hSw
    (try dsimp only at hSw)
    go_simp
    (try rfl)
  (try simp only [List.getElem_toArray, List.getElem_cons_succ, List.getElem_cons_zero, Act.put, List.setIfInBounds_toArray, List.set_cons_zero, List.set_cons_succ])
  refine wpAnyH_done (by kernel_rfl) ?_ _
  refine NoPanic.normal ?_
  go_wp2_with fail
  go_ret
  exact ⟨by rw [frac_join]; rfl, HT.out⟩
/-- THE TEXT OF A FRACTION. -/
theorem implFracText (n0 : Bool) (h0 l0 d0 : Int) (hp0 : 0 ≤ h0) (hq0 : h0 < 18446744073709551616) (lp0 : 0 ≤ l0) (lq0 : l0 < 18446744073709551616) (dp0 : -9223372036854775808 ≤ d0) (dq0 : d0 ≤ 9223372036854775807) (w : World) (htab : Lib.TabIs Tryd.prog w "internal/strconv.uint64pow10" .u64 Lib.pow10Tab) (hg : 2 < w.heap.size) :
    Calls Tryd.prog 14 #[.agg #[.bool n0, .int .u64 h0, .int .u64 l0, .int .i64 d0]] w fun e w' => e = .returned (.string ⟨(fracT n0 h0 l0 d0).toArray⟩) ∧ Below w.heap.size w w' := by
  by_cases hk : okF n0 h0 l0 d0 = true
  · have k := okF_yes hk
    have hl := (isW_parts (isW_text hp0 lp0 lq0 k.1)).2.2.2.2.2
    have hs := itoa_short k.2.1 k.2.2
    have e : textV n0 h0 l0 = Lib.itoa (sv n0 (h0 * 18446744073709551616 + l0)) := by rw [textV, if_pos k.1]
    rw [fracT, if_pos hk, ← e]
    exact implFracText_ok n0 h0 l0 d0 hp0 hq0 lp0 lq0 dp0 dq0 _ _ (Lib.hid hk) (Lib.hid rfl) (Lib.hid rfl) hl (by omega) (by omega) (by omega) w htab hg
  · rw [fracT, if_neg hk]
    exact implFracText_no n0 h0 l0 d0 hp0 hq0 lp0 lq0 dp0 dq0 (Lib.hid (by simpa using hk)) w
/-- The same in every world behind. -/
theorem implFracTextB (w : World) (htab : Lib.TabIs Tryd.prog w "internal/strconv.uint64pow10" .u64 Lib.pow10Tab) (hg : 2 < w.heap.size) (wz : World) (hB : Below w.heap.size w wz) (n0 : Bool) (h0 l0 d0 : Int) (hp0 : 0 ≤ h0) (hq0 : h0 < 18446744073709551616) (lp0 : 0 ≤ l0) (lq0 : l0 < 18446744073709551616) (dp0 : -9223372036854775808 ≤ d0) (dq0 : d0 ≤ 9223372036854775807) :
    Calls Tryd.prog 14 #[.agg #[.bool n0, .int .u64 h0, .int .u64 l0, .int .i64 d0]] wz fun e w' => e = .returned (.string ⟨(fracT n0 h0 l0 d0).toArray⟩) ∧ Below wz.heap.size wz w' := by
  exact implFracText n0 h0 l0 d0 hp0 hq0 lp0 lq0 dp0 dq0 wz (tabIs_below htab hB gPow hg) (Nat.lt_of_lt_of_le hg hB.size)
end Go.Proofs.YtapdocfifgnjgaaDoor
