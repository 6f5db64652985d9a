
/-
  The text of a wide number and the number of a text: the program's way.
-/
import Derived.Test.YtapdocfifgnjgaaDoorI4X
import Derived.Test.YtapdocfifgnjgaaDoorI4M
import Derived.Test.YtapdocfifgnjgaaDoorPk2
namespace Go.Proofs.YtapdocfifgnjgaaDoor
open Go.RowKit

set_option maxRecDepth 100000 in
theorem implText_no (n0 : Bool) (h0 l0 : Int) (hp0 : 0 ≤ h0) (lp0 : 0 ≤ l0) (hk : okV n0 h0 l0 = false) (w : World) :
    Calls Tryd.prog 35 #[.agg #[.bool n0, .int .u64 h0, .int .u64 l0]] w fun e w' => e = .returned (.string ⟨#[]⟩) ∧ Below w.heap.size w w' := by
  go_enter Tryd.func35, Tryd.ntmps35
  go_wp2_with fail
  refine (implWideOk n0 h0 l0 hp0 lp0 _).mono ?_
  rintro e w1 ⟨rfl, hB1⟩
  rw [hk]
  go_wp2_with fail
  go_ret
  exact ⟨rfl, box_below hB1⟩
/-- THE TEXT, whatever the parts. -/
theorem implWideText (n0 : Bool) (h0 l0 : Int) (hp0 : 0 ≤ h0) (lp0 : 0 ≤ l0) (lq0 : l0 < 18446744073709551616) (w : World) :
    Calls Tryd.prog 35 #[.agg #[.bool n0, .int .u64 h0, .int .u64 l0]] w fun e w' => e = .returned (.string ⟨(textV n0 h0 l0).toArray⟩) ∧ Below w.heap.size w w' := by
  by_cases hk : okV n0 h0 l0 = true
  · have q := okV_yes hk
    obtain ⟨u, hu⟩ : ∃ u : Nat, (u : Int) = h0 * 18446744073709551616 + l0 := ⟨(h0 * 18446744073709551616 + l0).toNat, by omega⟩
    have e0 : h0 = (u : Int) / 18446744073709551616 := by omega
    have e1 : l0 = (u : Int) % 18446744073709551616 := by omega
    have ht : textV n0 h0 l0 = (if n0 = true then [45] else []) ++ Lib.decDigits u := by
      rw [textV, if_pos hk, ← hu]
      cases n0
      · simp [sv, Lib.itoa_nonneg]
      · have := q.2 rfl
        simp [sv, Lib.itoa_neg u (by omega)]
    rw [ht]
    rw [e0, e1] at hk ⊢
    exact implText_ok n0 u (by omega) hk w
  · rw [textV, if_neg hk]
    exact implText_no n0 h0 l0 hp0 lp0 (by simpa using hk) w
theorem rdM_dec (u : Nat) (hu : u < 170141183460469231731687303715884105728) : rdM (Lib.decDigits u) = some u := by
  induction u using Nat.strongRecOn with
  | ind u ih =>
    rw [decDigits_step, rdM_snoc]
    have e : rdM (if u / 10 = 0 then [] else Lib.decDigits (u / 10)) = some (u / 10) := by
      split
      · rename_i h; rw [h]; rfl
      · exact ih _ (by omega) (by omega)
    have d : (UInt8.ofNat (48 + u % 10)).toNat = 48 + u % 10 := dig_toNat (by omega)
    rw [e]
    simp only [rdStep, Option.bind_some]
    rw [d, if_pos (by omega)]
    congr 1
    omega
/-- A number's text without its sign is read as what it is. -/
theorem rdM_isW {l : List UInt8} {z : Int} (h : IsW l z) (h45 : l.head? ≠ some 45) : rdM l = some z.natAbs ∧ 0 ≤ z := by
  obtain ⟨hr, rfl⟩ := h
  unfold RoomW at hr
  by_cases hz : z < 0
  · obtain ⟨u, hu⟩ : ∃ u : Nat, z = -(u : Int) := ⟨z.natAbs, by omega⟩
    subst hu
    rw [Lib.itoa_neg u (by omega)] at h45
    simp at h45
  · obtain ⟨u, rfl⟩ := Int.eq_ofNat_of_zero_le (by omega : 0 ≤ z)
    rw [Lib.itoa_nonneg]
    exact ⟨rdM_dec u (by omega), by omega⟩
theorem rdM_isW_neg {r : List UInt8} {z : Int} (h : IsW (45 :: r) z) : rdM r = some z.natAbs ∧ z < 0 := by
  obtain ⟨hr, hi⟩ := h
  unfold RoomW at hr
  by_cases hz : z < 0
  · obtain ⟨u, hu⟩ : ∃ u : Nat, z = -(u : Int) := ⟨z.natAbs, by omega⟩
    subst hu
    rw [Lib.itoa_neg u (by omega)] at hi
    simp only [List.cons.injEq, true_and] at hi
    rw [← hi]
    exact ⟨by rw [rdM_dec u (by omega)]; simp, by omega⟩
  · obtain ⟨u, rfl⟩ := Int.eq_ofNat_of_zero_le (by omega : 0 ≤ z)
    rw [Lib.itoa_nonneg] at hi
    have := decDigits_start u
    rw [hi] at this
    simp [startOf] at this
set_option maxRecDepth 100000 in
set_option maxHeartbeats 1000000 in
theorem implRead_pos_none (s ds : ByteArray) (hds : ds.size ≤ 9223372036854775807) (hcut : ∀ w, Calls Tryd.prog 40 #[.string s, .string ⟨#[45]⟩] w fun e w' => e = .returned (.tuple #[.string ds, .bool false]) ∧ w' = w) (hh ll : Int) (_p0 : 0 ≤ hh ∧ hh < 18446744073709551616) (_p1 : 0 ≤ ll ∧ ll < 18446744073709551616) (HM : Hid (Ending.returned (.tuple #[.agg #[.bool false, .int .u64 ((((rdM ds.data.toList).getD 0 : Nat) : Int) / 18446744073709551616), .int .u64 ((((rdM ds.data.toList).getD 0 : Nat) : Int) % 18446744073709551616)], .bool (rdM ds.data.toList).isSome]) = .returned (.tuple #[.agg #[.bool false, .int .u64 hh, .int .u64 ll], .bool false]))) (w : World) :
    Calls Tryd.prog 18 #[.string s] w fun e w' => e = .returned (.tuple #[.agg #[.bool false, .int .u64 0, .int .u64 0], .bool false]) ∧ Below w.heap.size w w' := by
  go_enter Tryd.func18, Tryd.ntmps18
  go_wp2_with fail
  refine (hcut _).mono ?_
  rintro e w1 ⟨rfl, rfl⟩
  go_wp2_with fail
  refine (implReadMag ds hds _).mono ?_
  rintro e w2 ⟨rfl, hB2⟩
  rw [HM.out]
  have hR := box_kept hB2
  have HT := Lib.hid (box_below hB2)
  clear hB2
  have cR0 : w2.cell? ⟨w.heap.size, 0, none⟩ = some (.bool false) := cell_blk hR 0
  have cR1 : w2.cell? ⟨w.heap.size, 1, none⟩ = some (.int .u64 0) := cell_blk hR 1
  have cR2 : w2.cell? ⟨w.heap.size, 2, none⟩ = some (.int .u64 0) := cell_blk hR 2
  have fR := free_blk hR
  have lR := blkM hR
  go_wp2_with fail
  all_goals (try simp only [Exit.inBlock, Exit.then])
  all_goals refine bodyPost_ret (v := .tuple #[.agg #[.bool false, .int .u64 0, .int .u64 0], .bool false]) ?_ rfl ⟨rfl, ?_⟩
  all_goals first
    | (rw [results_cell_tmp rfl]; go_simp; done)
    | (repeat' (first | refine Below.setCell ?_ (by simp <;> omega) _ | refine Below.alloc ?_ (by have := HT.out.size; simp; omega) _ | exact HT.out | exact HB.out))
set_option maxRecDepth 100000 in
set_option maxHeartbeats 1000000 in
theorem implRead_pos_eq (s ds : ByteArray) (hds : ds.size ≤ 9223372036854775807) (hcut : ∀ w, Calls Tryd.prog 40 #[.string s, .string ⟨#[45]⟩] w fun e w' => e = .returned (.tuple #[.string ds, .bool false]) ∧ w' = w) (hh ll : Int) (p0 : 0 ≤ hh ∧ hh < 18446744073709551616) (p1 : 0 ≤ ll ∧ ll < 18446744073709551616) (HM : Hid (Ending.returned (.tuple #[.agg #[.bool false, .int .u64 ((((rdM ds.data.toList).getD 0 : Nat) : Int) / 18446744073709551616), .int .u64 ((((rdM ds.data.toList).getD 0 : Nat) : Int) % 18446744073709551616)], .bool (rdM ds.data.toList).isSome]) = .returned (.tuple #[.agg #[.bool false, .int .u64 hh, .int .u64 ll], .bool true]))) (txt : List UInt8) (HX : Hid (textV false hh ll = txt)) (hq : (!(txt == s.toList)) = false) (w : World) :
    Calls Tryd.prog 18 #[.string s] w fun e w' => e = .returned (.tuple #[.agg #[.bool false, .int .u64 hh, .int .u64 ll], .bool true]) ∧ Below w.heap.size w w' := by
  go_enter Tryd.func18, Tryd.ntmps18
  go_wp2_with fail
  refine (hcut _).mono ?_
  rintro e w1 ⟨rfl, rfl⟩
  go_wp2_with fail
  refine (implReadMag ds hds _).mono ?_
  rintro e w2 ⟨rfl, hB2⟩
  rw [HM.out]
  have hR := box_kept hB2
  have HT := Lib.hid (box_below hB2)
  clear hB2
  have cR0 : w2.cell? ⟨w.heap.size, 0, none⟩ = some (.bool false) := cell_blk hR 0
  have cR1 : w2.cell? ⟨w.heap.size, 1, none⟩ = some (.int .u64 0) := cell_blk hR 1
  have cR2 : w2.cell? ⟨w.heap.size, 2, none⟩ = some (.int .u64 0) := cell_blk hR 2
  have fR := free_blk hR
  have lR := blkM hR
  go_wp2_with fail
  clear cR0 cR1 cR2 fR lR
  refine (implWideText false hh ll p0.1 p1.1 p1.2 _).mono ?_
  rintro e w4 ⟨rfl, hB4⟩
  rw [HX.out]
  have hW4 := box_kept hB4
  have hBB := box_below hB4
  have hR4 := box_still hR hBB
  have HB := Lib.hid (bt2 HT.out hBB)
  clear hB4
  have cW40 : w4.cell? ⟨w2.heap.size, 0, none⟩ = some (.bool false) := cell_blk hW4 0
  have cW41 : w4.cell? ⟨w2.heap.size, 1, none⟩ = some (.int .u64 hh) := cell_blk hW4 1
  have cW42 : w4.cell? ⟨w2.heap.size, 2, none⟩ = some (.int .u64 ll) := cell_blk hW4 2
  have fW4 := free_blk hW4
  have lW4 := blkM hW4
  have cR40 : w4.cell? ⟨w.heap.size, 0, none⟩ = some (.bool false) := cell_blk hR4 0
  have cR41 : w4.cell? ⟨w.heap.size, 1, none⟩ = some (.int .u64 0) := cell_blk hR4 1
  have cR42 : w4.cell? ⟨w.heap.size, 2, none⟩ = some (.int .u64 0) := cell_blk hR4 2
  have fR4 := free_blk hR4
  have lR4 := blkM hR4
  go_wp2_with fail
  all_goals (try simp only [Exit.inBlock, Exit.then])
  all_goals refine bodyPost_ret (v := .tuple #[.agg #[.bool false, .int .u64 hh, .int .u64 ll], .bool true]) ?_ rfl ⟨rfl, ?_⟩
  all_goals first
    | (rw [results_cell_tmp rfl]; go_simp; done)
    | (repeat' (first | refine Below.setCell ?_ (by simp <;> omega) _ | refine Below.alloc ?_ (by have := HT.out.size; simp; omega) _ | exact HT.out | exact HB.out))
set_option maxRecDepth 100000 in
set_option maxHeartbeats 1000000 in
theorem implRead_pos_ne (s ds : ByteArray) (hds : ds.size ≤ 9223372036854775807) (hcut : ∀ w, Calls Tryd.prog 40 #[.string s, .string ⟨#[45]⟩] w fun e w' => e = .returned (.tuple #[.string ds, .bool false]) ∧ w' = w) (hh ll : Int) (p0 : 0 ≤ hh ∧ hh < 18446744073709551616) (p1 : 0 ≤ ll ∧ ll < 18446744073709551616) (HM : Hid (Ending.returned (.tuple #[.agg #[.bool false, .int .u64 ((((rdM ds.data.toList).getD 0 : Nat) : Int) / 18446744073709551616), .int .u64 ((((rdM ds.data.toList).getD 0 : Nat) : Int) % 18446744073709551616)], .bool (rdM ds.data.toList).isSome]) = .returned (.tuple #[.agg #[.bool false, .int .u64 hh, .int .u64 ll], .bool true]))) (txt : List UInt8) (HX : Hid (textV false hh ll = txt)) (hq : (!(txt == s.toList)) = true) (w : World) :
    Calls Tryd.prog 18 #[.string s] w fun e w' => e = .returned (.tuple #[.agg #[.bool false, .int .u64 0, .int .u64 0], .bool false]) ∧ Below w.heap.size w w' := by
  go_enter Tryd.func18, Tryd.ntmps18
  go_wp2_with fail
  refine (hcut _).mono ?_
  rintro e w1 ⟨rfl, rfl⟩
  go_wp2_with fail
  refine (implReadMag ds hds _).mono ?_
  rintro e w2 ⟨rfl, hB2⟩
  rw [HM.out]
  have hR := box_kept hB2
  have HT := Lib.hid (box_below hB2)
  clear hB2
  have cR0 : w2.cell? ⟨w.heap.size, 0, none⟩ = some (.bool false) := cell_blk hR 0
  have cR1 : w2.cell? ⟨w.heap.size, 1, none⟩ = some (.int .u64 0) := cell_blk hR 1
  have cR2 : w2.cell? ⟨w.heap.size, 2, none⟩ = some (.int .u64 0) := cell_blk hR 2
  have fR := free_blk hR
  have lR := blkM hR
  go_wp2_with fail
  clear cR0 cR1 cR2 fR lR
  refine (implWideText false hh ll p0.1 p1.1 p1.2 _).mono ?_
  rintro e w4 ⟨rfl, hB4⟩
  rw [HX.out]
  have hW4 := box_kept hB4
  have hBB := box_below hB4
  have hR4 := box_still hR hBB
  have HB := Lib.hid (bt2 HT.out hBB)
  clear hB4
  have cW40 : w4.cell? ⟨w2.heap.size, 0, none⟩ = some (.bool false) := cell_blk hW4 0
  have cW41 : w4.cell? ⟨w2.heap.size, 1, none⟩ = some (.int .u64 hh) := cell_blk hW4 1
  have cW42 : w4.cell? ⟨w2.heap.size, 2, none⟩ = some (.int .u64 ll) := cell_blk hW4 2
  have fW4 := free_blk hW4
  have lW4 := blkM hW4
  have cR40 : w4.cell? ⟨w.heap.size, 0, none⟩ = some (.bool false) := cell_blk hR4 0
  have cR41 : w4.cell? ⟨w.heap.size, 1, none⟩ = some (.int .u64 0) := cell_blk hR4 1
  have cR42 : w4.cell? ⟨w.heap.size, 2, none⟩ = some (.int .u64 0) := cell_blk hR4 2
  have fR4 := free_blk hR4
  have lR4 := blkM hR4
  go_wp2_with fail
  all_goals (try simp only [Exit.inBlock, Exit.then])
  all_goals refine bodyPost_ret (v := .tuple #[.agg #[.bool false, .int .u64 0, .int .u64 0], .bool false]) ?_ rfl ⟨rfl, ?_⟩
  all_goals first
    | (rw [results_cell_tmp rfl]; go_simp; done)
    | (repeat' (first | refine Below.setCell ?_ (by simp <;> omega) _ | refine Below.alloc ?_ (by have := HT.out.size; simp; omega) _ | exact HT.out | exact HB.out))
set_option maxRecDepth 100000 in
set_option maxHeartbeats 1000000 in
theorem implRead_neg_none (s ds : ByteArray) (hds : ds.size ≤ 9223372036854775807) (hcut : ∀ w, Calls Tryd.prog 40 #[.string s, .string ⟨#[45]⟩] w fun e w' => e = .returned (.tuple #[.string ds, .bool true]) ∧ w' = w) (hh ll : Int) (n : Bool) (p0 : 0 ≤ hh ∧ hh < 18446744073709551616) (p1 : 0 ≤ ll ∧ ll < 18446744073709551616) (HM : Hid (Ending.returned (.tuple #[.agg #[.bool false, .int .u64 ((((rdM ds.data.toList).getD 0 : Nat) : Int) / 18446744073709551616), .int .u64 ((((rdM ds.data.toList).getD 0 : Nat) : Int) % 18446744073709551616)], .bool (rdM ds.data.toList).isSome]) = .returned (.tuple #[.agg #[.bool false, .int .u64 hh, .int .u64 ll], .bool false]))) (HN : Hid (negV false hh ll = n)) (w : World) :
    Calls Tryd.prog 18 #[.string s] w fun e w' => e = .returned (.tuple #[.agg #[.bool false, .int .u64 0, .int .u64 0], .bool false]) ∧ Below w.heap.size w w' := by
  go_enter Tryd.func18, Tryd.ntmps18
  go_wp2_with fail
  refine (hcut _).mono ?_
  rintro e w1 ⟨rfl, rfl⟩
  go_wp2_with fail
  refine (implReadMag ds hds _).mono ?_
  rintro e w2 ⟨rfl, hB2⟩
  rw [HM.out]
  have hR := box_kept hB2
  have HT := Lib.hid (box_below hB2)
  have hlt2 := blkM hR
  clear hB2
  have cR0 : w2.cell? ⟨w.heap.size, 0, none⟩ = some (.bool false) := cell_blk hR 0
  have cR1 : w2.cell? ⟨w.heap.size, 1, none⟩ = some (.int .u64 0) := cell_blk hR 1
  have cR2 : w2.cell? ⟨w.heap.size, 2, none⟩ = some (.int .u64 0) := cell_blk hR 2
  have fR := free_blk hR
  have lR := blkM hR
  go_wp2_with fail
  clear cR0 cR1 cR2 fR lR
  refine (implNegWide false hh ll p0.1 p1.1 _).mono ?_
  rintro e w3 ⟨rfl, hB3⟩
  rw [HN.out]
  have hW := box_kept hB3
  have hBB := box_below hB3
  replace hR := box_still hR hBB
  replace HT := Lib.hid (bt2 HT.out hBB)
  clear hB3 hBB
  have cW0 : w3.cell? ⟨w2.heap.size, 0, none⟩ = some (.bool false) := cell_blk hW 0
  have cW1 : w3.cell? ⟨w2.heap.size, 1, none⟩ = some (.int .u64 hh) := cell_blk hW 1
  have cW2 : w3.cell? ⟨w2.heap.size, 2, none⟩ = some (.int .u64 ll) := cell_blk hW 2
  have fW := free_blk hW
  have lW := blkM hW
  have cR0 : w3.cell? ⟨w.heap.size, 0, none⟩ = some (.bool false) := cell_blk hR 0
  have cR1 : w3.cell? ⟨w.heap.size, 1, none⟩ = some (.int .u64 0) := cell_blk hR 1
  have cR2 : w3.cell? ⟨w.heap.size, 2, none⟩ = some (.int .u64 0) := cell_blk hR 2
  have fR := free_blk hR
  have lR := blkM hR
  go_wp2_with fail
  all_goals (try simp only [Exit.inBlock, Exit.then])
  all_goals refine bodyPost_ret (v := .tuple #[.agg #[.bool false, .int .u64 0, .int .u64 0], .bool false]) ?_ rfl ⟨rfl, ?_⟩
  all_goals first
    | (rw [results_cell_tmp rfl]; go_simp; done)
    | (repeat' (first | refine Below.setCell ?_ (by simp <;> omega) _ | refine Below.alloc ?_ (by have := HT.out.size; simp; omega) _ | exact HT.out | exact HB.out))
set_option maxRecDepth 100000 in
set_option maxHeartbeats 1000000 in
theorem implRead_neg_eq (s ds : ByteArray) (hds : ds.size ≤ 9223372036854775807) (hcut : ∀ w, Calls Tryd.prog 40 #[.string s, .string ⟨#[45]⟩] w fun e w' => e = .returned (.tuple #[.string ds, .bool true]) ∧ w' = w) (hh ll : Int) (n : Bool) (p0 : 0 ≤ hh ∧ hh < 18446744073709551616) (p1 : 0 ≤ ll ∧ ll < 18446744073709551616) (HM : Hid (Ending.returned (.tuple #[.agg #[.bool false, .int .u64 ((((rdM ds.data.toList).getD 0 : Nat) : Int) / 18446744073709551616), .int .u64 ((((rdM ds.data.toList).getD 0 : Nat) : Int) % 18446744073709551616)], .bool (rdM ds.data.toList).isSome]) = .returned (.tuple #[.agg #[.bool false, .int .u64 hh, .int .u64 ll], .bool true]))) (HN : Hid (negV false hh ll = n)) (txt : List UInt8) (HX : Hid (textV n hh ll = txt)) (hq : (!(txt == s.toList)) = false) (w : World) :
    Calls Tryd.prog 18 #[.string s] w fun e w' => e = .returned (.tuple #[.agg #[.bool n, .int .u64 hh, .int .u64 ll], .bool true]) ∧ Below w.heap.size w w' := by
  go_enter Tryd.func18, Tryd.ntmps18
  go_wp2_with fail
  refine (hcut _).mono ?_
  rintro e w1 ⟨rfl, rfl⟩
  go_wp2_with fail
  refine (implReadMag ds hds _).mono ?_
  rintro e w2 ⟨rfl, hB2⟩
  rw [HM.out]
  have hR := box_kept hB2
  have HT := Lib.hid (box_below hB2)
  have hlt2 := blkM hR
  clear hB2
  have cR0 : w2.cell? ⟨w.heap.size, 0, none⟩ = some (.bool false) := cell_blk hR 0
  have cR1 : w2.cell? ⟨w.heap.size, 1, none⟩ = some (.int .u64 0) := cell_blk hR 1
  have cR2 : w2.cell? ⟨w.heap.size, 2, none⟩ = some (.int .u64 0) := cell_blk hR 2
  have fR := free_blk hR
  have lR := blkM hR
  go_wp2_with fail
  clear cR0 cR1 cR2 fR lR
  refine (implNegWide false hh ll p0.1 p1.1 _).mono ?_
  rintro e w3 ⟨rfl, hB3⟩
  rw [HN.out]
  have hW := box_kept hB3
  have hBB := box_below hB3
  replace hR := box_still hR hBB
  replace HT := Lib.hid (bt2 HT.out hBB)
  clear hB3 hBB
  have cW0 : w3.cell? ⟨w2.heap.size, 0, none⟩ = some (.bool false) := cell_blk hW 0
  have cW1 : w3.cell? ⟨w2.heap.size, 1, none⟩ = some (.int .u64 hh) := cell_blk hW 1
  have cW2 : w3.cell? ⟨w2.heap.size, 2, none⟩ = some (.int .u64 ll) := cell_blk hW 2
  have fW := free_blk hW
  have lW := blkM hW
  have cR0 : w3.cell? ⟨w.heap.size, 0, none⟩ = some (.bool false) := cell_blk hR 0
  have cR1 : w3.cell? ⟨w.heap.size, 1, none⟩ = some (.int .u64 0) := cell_blk hR 1
  have cR2 : w3.cell? ⟨w.heap.size, 2, none⟩ = some (.int .u64 0) := cell_blk hR 2
  have fR := free_blk hR
  have lR := blkM hR
  go_wp2_with fail
  clear cR0 cR1 cR2 fR lR
  clear cW0 cW1 cW2 fW lW
  refine (implWideText n hh ll p0.1 p1.1 p1.2 _).mono ?_
  rintro e w4 ⟨rfl, hB4⟩
  rw [HX.out]
  have hW4 := box_still (st3_blk hW) hB4
  have hR4 := box_still ((st3_blk_far _ _ _ (by omega)).trans hR) hB4
  have HB := Lib.hid (bt2 (st3_below HT.out (by omega) _ _ _) hB4)
  clear hB4
  have cW40 : w4.cell? ⟨w2.heap.size, 0, none⟩ = some (.bool n) := cell_blk hW4 0
  have cW41 : w4.cell? ⟨w2.heap.size, 1, none⟩ = some (.int .u64 hh) := cell_blk hW4 1
  have cW42 : w4.cell? ⟨w2.heap.size, 2, none⟩ = some (.int .u64 ll) := cell_blk hW4 2
  have fW4 := free_blk hW4
  have lW4 := blkM hW4
  have cR40 : w4.cell? ⟨w.heap.size, 0, none⟩ = some (.bool false) := cell_blk hR4 0
  have cR41 : w4.cell? ⟨w.heap.size, 1, none⟩ = some (.int .u64 0) := cell_blk hR4 1
  have cR42 : w4.cell? ⟨w.heap.size, 2, none⟩ = some (.int .u64 0) := cell_blk hR4 2
  have fR4 := free_blk hR4
  have lR4 := blkM hR4
  go_wp2_with fail
  all_goals (try simp only [Exit.inBlock, Exit.then])
  all_goals refine bodyPost_ret (v := .tuple #[.agg #[.bool n, .int .u64 hh, .int .u64 ll], .bool true]) ?_ rfl ⟨rfl, ?_⟩
  all_goals first
    | (rw [results_cell_tmp rfl]; go_simp; done)
    | (repeat' (first | refine Below.setCell ?_ (by simp <;> omega) _ | refine Below.alloc ?_ (by have := HT.out.size; simp; omega) _ | exact HT.out | exact HB.out))
set_option maxRecDepth 100000 in
set_option maxHeartbeats 1000000 in
theorem implRead_neg_ne (s ds : ByteArray) (hds : ds.size ≤ 9223372036854775807) (hcut : ∀ w, Calls Tryd.prog 40 #[.string s, .string ⟨#[45]⟩] w fun e w' => e = .returned (.tuple #[.string ds, .bool true]) ∧ w' = w) (hh ll : Int) (n : Bool) (p0 : 0 ≤ hh ∧ hh < 18446744073709551616) (p1 : 0 ≤ ll ∧ ll < 18446744073709551616) (HM : Hid (Ending.returned (.tuple #[.agg #[.bool false, .int .u64 ((((rdM ds.data.toList).getD 0 : Nat) : Int) / 18446744073709551616), .int .u64 ((((rdM ds.data.toList).getD 0 : Nat) : Int) % 18446744073709551616)], .bool (rdM ds.data.toList).isSome]) = .returned (.tuple #[.agg #[.bool false, .int .u64 hh, .int .u64 ll], .bool true]))) (HN : Hid (negV false hh ll = n)) (txt : List UInt8) (HX : Hid (textV n hh ll = txt)) (hq : (!(txt == s.toList)) = true) (w : World) :
    Calls Tryd.prog 18 #[.string s] w fun e w' => e = .returned (.tuple #[.agg #[.bool false, .int .u64 0, .int .u64 0], .bool false]) ∧ Below w.heap.size w w' := by
  go_enter Tryd.func18, Tryd.ntmps18
  go_wp2_with fail
  refine (hcut _).mono ?_
  rintro e w1 ⟨rfl, rfl⟩
  go_wp2_with fail
  refine (implReadMag ds hds _).mono ?_
  rintro e w2 ⟨rfl, hB2⟩
  rw [HM.out]
  have hR := box_kept hB2
  have HT := Lib.hid (box_below hB2)
  have hlt2 := blkM hR
  clear hB2
  have cR0 : w2.cell? ⟨w.heap.size, 0, none⟩ = some (.bool false) := cell_blk hR 0
  have cR1 : w2.cell? ⟨w.heap.size, 1, none⟩ = some (.int .u64 0) := cell_blk hR 1
  have cR2 : w2.cell? ⟨w.heap.size, 2, none⟩ = some (.int .u64 0) := cell_blk hR 2
  have fR := free_blk hR
  have lR := blkM hR
  go_wp2_with fail
  clear cR0 cR1 cR2 fR lR
  refine (implNegWide false hh ll p0.1 p1.1 _).mono ?_
  rintro e w3 ⟨rfl, hB3⟩
  rw [HN.out]
  have hW := box_kept hB3
  have hBB := box_below hB3
  replace hR := box_still hR hBB
  replace HT := Lib.hid (bt2 HT.out hBB)
  clear hB3 hBB
  have cW0 : w3.cell? ⟨w2.heap.size, 0, none⟩ = some (.bool false) := cell_blk hW 0
  have cW1 : w3.cell? ⟨w2.heap.size, 1, none⟩ = some (.int .u64 hh) := cell_blk hW 1
  have cW2 : w3.cell? ⟨w2.heap.size, 2, none⟩ = some (.int .u64 ll) := cell_blk hW 2
  have fW := free_blk hW
  have lW := blkM hW
  have cR0 : w3.cell? ⟨w.heap.size, 0, none⟩ = some (.bool false) := cell_blk hR 0
  have cR1 : w3.cell? ⟨w.heap.size, 1, none⟩ = some (.int .u64 0) := cell_blk hR 1
  have cR2 : w3.cell? ⟨w.heap.size, 2, none⟩ = some (.int .u64 0) := cell_blk hR 2
  have fR := free_blk hR
  have lR := blkM hR
  go_wp2_with fail
  clear cR0 cR1 cR2 fR lR
  clear cW0 cW1 cW2 fW lW
  refine (implWideText n hh ll p0.1 p1.1 p1.2 _).mono ?_
  rintro e w4 ⟨rfl, hB4⟩
  rw [HX.out]
  have hW4 := box_still (st3_blk hW) hB4
  have hR4 := box_still ((st3_blk_far _ _ _ (by omega)).trans hR) hB4
  have HB := Lib.hid (bt2 (st3_below HT.out (by omega) _ _ _) hB4)
  clear hB4
  have cW40 : w4.cell? ⟨w2.heap.size, 0, none⟩ = some (.bool n) := cell_blk hW4 0
  have cW41 : w4.cell? ⟨w2.heap.size, 1, none⟩ = some (.int .u64 hh) := cell_blk hW4 1
  have cW42 : w4.cell? ⟨w2.heap.size, 2, none⟩ = some (.int .u64 ll) := cell_blk hW4 2
  have fW4 := free_blk hW4
  have lW4 := blkM hW4
  have cR40 : w4.cell? ⟨w.heap.size, 0, none⟩ = some (.bool false) := cell_blk hR4 0
  have cR41 : w4.cell? ⟨w.heap.size, 1, none⟩ = some (.int .u64 0) := cell_blk hR4 1
  have cR42 : w4.cell? ⟨w.heap.size, 2, none⟩ = some (.int .u64 0) := cell_blk hR4 2
  have fR4 := free_blk hR4
  have lR4 := blkM hR4
  go_wp2_with fail
  all_goals (try simp only [Exit.inBlock, Exit.then])
  all_goals refine bodyPost_ret (v := .tuple #[.agg #[.bool false, .int .u64 0, .int .u64 0], .bool false]) ?_ rfl ⟨rfl, ?_⟩
  all_goals first
    | (rw [results_cell_tmp rfl]; go_simp; done)
    | (repeat' (first | refine Below.setCell ?_ (by simp <;> omega) _ | refine Below.alloc ?_ (by have := HT.out.size; simp; omega) _ | exact HT.out | exact HB.out))
theorem textV_size {n : Bool} {h l : Int} (h0 : 0 ≤ h) (l0 : 0 ≤ l) (l1 : l < 18446744073709551616) : (ByteArray.mk (textV n h l).toArray).size ≤ 9223372036854775807 := by
  have e : (ByteArray.mk (textV n h l).toArray).size = (textV n h l).length := by simp [ByteArray.size]
  rw [e]
  by_cases hk : okV n h l = true
  · have := (isW_parts (isW_text h0 l0 l1 hk)).2.2.2.2.2
    omega
  · rw [textV, if_neg hk]
    simp
/-- A NUMBER READ OFF A TEXT, whatever the text. -/
theorem implReadWide (s : ByteArray) (hs : s.size ≤ 9223372036854775807) (w : World) :
    Calls Tryd.prog 18 #[.string s] w fun e w' => e = rdE s.data.toList ∧ Below w.heap.size w w' := by
  by_cases h45 : s.data.toList.head? = some 45
  · obtain ⟨r, hr⟩ : ∃ r, s.data.toList = 45 :: r := by
      cases h : s.data.toList with
      | nil => rw [h] at h45; cases h45
      | cons c r => rw [h] at h45; simp at h45; exact ⟨r, by rw [h45]⟩
    have hds : (ByteArray.mk r.toArray).size ≤ 9223372036854775807 := by
      have e : s.size = s.data.toList.length := by simp
      rw [hr] at e
      simp only [List.length_cons] at e
      simp [ByteArray.size]
      omega
    have hcut := cutMinus_yes s r hr
    have hlt := rdM_lt r
    cases hm : rdM r with
    | none =>
      have hno : ∀ z, ¬ IsW s.data.toList z := fun z hz => by
        rw [hr] at hz
        rw [(rdM_isW_neg hz).1] at hm
        cases hm
      rw [rdE_no hno]
      exact implRead_neg_none s ⟨r.toArray⟩ hds hcut 0 0 _ (by omega) (by omega) (Lib.hid (by rw [show (ByteArray.mk r.toArray).data.toList = r by simp, hm]; simp)) (Lib.hid rfl) w
    | some v =>
      rw [hm] at hlt
      have hv : v < 170141183460469231731687303715884105728 := hlt
      have HM := Lib.hid (show Ending.returned (.tuple #[.agg #[.bool false, .int .u64 ((((rdM (ByteArray.mk r.toArray).data.toList).getD 0 : Nat) : Int) / 18446744073709551616), .int .u64 ((((rdM (ByteArray.mk r.toArray).data.toList).getD 0 : Nat) : Int) % 18446744073709551616)], .bool (rdM (ByteArray.mk r.toArray).data.toList).isSome]) = .returned (.tuple #[.agg #[.bool false, .int .u64 ((v : Int) / 18446744073709551616), .int .u64 ((v : Int) % 18446744073709551616)], .bool true]) by
        rw [show (ByteArray.mk r.toArray).data.toList = r by simp, hm]
        rfl)
      have hRo : RoomW (-(v : Int)) := by unfold RoomW; omega
      by_cases hq : Lib.itoa (-(v : Int)) = s.data.toList
      · rw [rdE_yes ⟨hRo, hq⟩, wideC_min v hv]
        exact implRead_neg_eq s ⟨r.toArray⟩ hds hcut _ _ _ (by omega) (by omega) HM (Lib.hid rfl) _ (Lib.hid (textV_min v hv)) (strEqW hq) w
      · have hno : ∀ z, ¬ IsW s.data.toList z := fun z hz => by
          have h1 := hz
          rw [hr] at h1
          have h2 := rdM_isW_neg h1
          rw [hm] at h2
          have h3 : v = z.natAbs := Option.some.inj h2.1
          exact hq (by rw [show -(v : Int) = z by omega]; exact hz.2)
        rw [rdE_no hno]
        exact implRead_neg_ne s ⟨r.toArray⟩ hds hcut _ _ _ (by omega) (by omega) HM (Lib.hid rfl) _ (Lib.hid (textV_min v hv)) (strNeW hq) w
  · have hcut := cutMinus_no s h45
    have hlt := rdM_lt s.data.toList
    cases hm : rdM s.data.toList with
    | none =>
      have hno : ∀ z, ¬ IsW s.data.toList z := fun z hz => by
        rw [(rdM_isW hz h45).1] at hm
        cases hm
      rw [rdE_no hno]
      exact implRead_pos_none s s hs hcut 0 0 (by omega) (by omega) (Lib.hid (by rw [hm]; simp)) w
    | some v =>
      rw [hm] at hlt
      have hv : v < 170141183460469231731687303715884105728 := hlt
      have HM := Lib.hid (show Ending.returned (.tuple #[.agg #[.bool false, .int .u64 ((((rdM s.data.toList).getD 0 : Nat) : Int) / 18446744073709551616), .int .u64 ((((rdM s.data.toList).getD 0 : Nat) : Int) % 18446744073709551616)], .bool (rdM s.data.toList).isSome]) = .returned (.tuple #[.agg #[.bool false, .int .u64 ((v : Int) / 18446744073709551616), .int .u64 ((v : Int) % 18446744073709551616)], .bool true]) by
        rw [hm]
        rfl)
      have hRo : RoomW (v : Int) := by unfold RoomW; omega
      by_cases hq : Lib.itoa (v : Int) = s.data.toList
      · rw [rdE_yes ⟨hRo, hq⟩, wideC_nat v hv]
        exact implRead_pos_eq s s hs hcut _ _ (by omega) (by omega) HM _ (Lib.hid (textV_nat v hv)) (strEqW hq) w
      · have hno : ∀ z, ¬ IsW s.data.toList z := fun z hz => by
          have h2 := rdM_isW hz h45
          rw [hm] at h2
          have h3 : v = z.natAbs := Option.some.inj h2.1
          exact hq (by rw [show (v : Int) = z by omega]; exact hz.2)
        rw [rdE_no hno]
        exact implRead_pos_ne s s hs hcut _ _ (by omega) (by omega) HM _ (Lib.hid (textV_nat v hv)) (strNeW hq) w
end Go.Proofs.YtapdocfifgnjgaaDoor
