
/-
  Chapter 4: the walk of the law on the texts of small wide numbers.
-/
import Derived.Test.YtjmlpeapbealfaaLawText
import Derived.Test.YtjmlpeapbealfaaDigS
import Derived.Test.YtjmlpeapbealfaaI4
namespace Go.Proofs.Ytjmlpeapbealfaa
open Go.RowKit

theorem tenE_shapeS (n : Bool) (h l d : Int) : ∃ (r : Bool) (x y : Int) (b : Bool), tenE n h l d = .returned (.tuple #[.agg #[.bool r, .int .u64 x, .int .u64 y], .bool b]) := by
  unfold tenE
  split
  · exact fitW_shape _
  · exact ⟨_, _, _, _, rfl⟩
theorem itoa_ten {u d : Nat} (hu : u ≠ 0) (hd : d ≤ 9) : Lib.decDigits (u * 10 + d) = Lib.decDigits u ++ Lib.itoa (d : Int) := by
  rw [Lib.itoa_nonneg, Lib.decDigits_one (i := d) (by omega)]
  conv => lhs; rw [Lib.decDigits, dif_neg (by omega)]
  rw [show (u * 10 + d) / 10 = u by omega, show (u * 10 + d) % 10 = d by omega]
theorem itoa_ten_sv {n : Bool} {m d : Int} (hm : 0 < m) (d0 : 0 ≤ d) (d1 : d ≤ 9) : Lib.itoa (sv n m * 10 + sv n d) = Lib.itoa (sv n m) ++ Lib.itoa d := by
  obtain ⟨u, rfl⟩ := Int.eq_ofNat_of_zero_le (by omega : 0 ≤ m)
  obtain ⟨e, rfl⟩ := Int.eq_ofNat_of_zero_le d0
  have h := itoa_ten (u := u) (d := e) (by omega) (by omega)
  cases n
  · simp only [sv, Bool.false_eq_true, if_false]
    rw [show (u : Int) * 10 + e = ((u * 10 + e : Nat) : Int) by omega, Lib.itoa_nonneg, h, Lib.itoa_nonneg u]
  · simp only [sv, if_true]
    rw [show -(u : Int) * 10 + -(e : Int) = -((u * 10 + e : Nat) : Int) by omega, Lib.itoa_neg _ (by omega), h, Lib.itoa_neg u (by omega)]
    rfl
theorem tenE_true {n : Bool} {h l d : Int} {r : Bool} {x y : Int} (e : tenE n h l d = .returned (.tuple #[.agg #[.bool r, .int .u64 x, .int .u64 y], .bool true])) :
    okV n h l = true ∧ 0 ≤ d ∧ d ≤ 9 ∧ RoomW (sv n (h * 18446744073709551616 + l) * 10 + sv n d) ∧ wideC (sv n (h * 18446744073709551616 + l) * 10 + sv n d) = .agg #[.bool r, .int .u64 x, .int .u64 y] := by
  unfold tenE at e
  split at e
  · rename_i a
    unfold fitW at e
    split at e
    · rename_i hr
      simp only [Ending.returned.injEq, Value.tuple.injEq, Array.mk.injEq, List.cons.injEq, and_true] at e
      exact ⟨a.1, a.2.1, a.2.2, hr, e⟩
    · simp at e
  · simp at e
theorem str_app (a b : List UInt8) : ((⟨a.toArray⟩ : ByteArray) ++ ⟨b.toArray⟩) = ⟨(a ++ b).toArray⟩ := by
  apply ByteArray.ext
  simp

set_option maxRecDepth 100000 in
set_option maxHeartbeats 4000000 in
theorem lawFnWideSmall (w : World) (v : Value) (n : Nat) (hb : Bytes w v n) :
    Calls Try.prog 7 #[v] w fun e w' => e = .returned (.bool true) ∧ Below w.heap.size w w' := by
  by_cases hbig : 1048576 < n
  · go_enter Try.func7, Try.ntmps7
    go_wp2_with fail
    refine (big_yes w v n hb hbig).mono ?_
    rintro e w1 ⟨rfl, rfl⟩
    go_wp2_with fail
    go_ret
    exact ⟨rfl, Below.refl _ _⟩
  · go_enter Try.func7, Try.ntmps7
    go_wp2_with fail
    refine (big_no w v n hb hbig).mono ?_
    rintro e w1 ⟨rfl, rfl⟩
    go_wp2_with fail
    refine (drawDigits w v n hb).mono ?_
    rintro e w1 ⟨⟨z, z0, z1, rfl⟩, hB1⟩
    have hBB := hB1
    have HT := Lib.hid hBB
    clear hBB hB1
    have hb1 := hb.mono HT.out
    obtain ⟨n0, h0, l0, hQ⟩ : ∃ (n : Bool) (h l : Int), wideC z = .agg #[.bool n, .int .u64 h, .int .u64 l] := ⟨_, _, _, rfl⟩
    have hrz : RoomW z := by unfold RoomW; omega
    have HTX := Lib.hid (textV_of hrz hQ)
    have p0 := wideC_bounds hQ
    have HQ := Lib.hid hQ
    clear hQ hrz
    go_wp2_with fail
    refine (implWideOfW z z0 z1 _).mono ?_
    rintro e w2 ⟨rfl, hB2⟩
    have hBB := hB2
    replace HT := Lib.hid (bt2 HT.out hBB)
    clear hBB hB2
    rw [HQ.out]
    go_wp2_with fail
    refine (implWideText n0 h0 l0 p0.1 p0.2.1 p0.2.2.1 _).mono ?_
    rintro e w3 ⟨rfl, hB3⟩
    have hBB := hB3
    replace HT := Lib.hid (bt2 HT.out hBB)
    clear hBB hB3
    rw [HTX.out]
    go_wp2_with fail
    refine (specDigits z z0 z1 _).mono ?_
    rintro e w4 ⟨rfl, hB4⟩
    have hBB := hB4
    replace HT := Lib.hid (bt2 HT.out hBB)
    clear hBB hB4
    have hb4 := hb.mono HT.out
    go_wp2_with fail
    refine (drawTenTimes _ v n hb4).mono ?_
    rintro e w5 ⟨⟨n1, h1, l1, d, ⟨hp1, hq1⟩, ⟨lp1, lq1⟩, ⟨d0, d1⟩, rfl⟩, hB5⟩
    have hBB := hB5
    replace HT := Lib.hid (bt2 HT.out hBB)
    clear hBB hB5
    clear hb hb1 hb4
    obtain ⟨n2, h2, l2, b, hE⟩ := tenE_shapeS n1 h1 l1 d
    have HE := Lib.hid hE
    clear hE
    go_wp2_with fail
    cases b
    · skip
      refine (implTenTimes n1 h1 l1 d hp1 hq1 lp1 lq1 _).mono ?_
      rintro e w6 ⟨rfl, hB6⟩
      have hXw := box_kept hB6
      have hBB := box_below hB6
      replace HT := Lib.hid (bt2 HT.out hBB)
      clear hBB hB6
      rw [HE.out]
      have hcw0 : w6.cell? ⟨w5.heap.size, 0, none⟩ = some (.bool n1) := cell_blk hXw 0
      have hcw1 : w6.cell? ⟨w5.heap.size, 1, none⟩ = some (.int .u64 h1) := cell_blk hXw 1
      have hcw2 : w6.cell? ⟨w5.heap.size, 2, none⟩ = some (.int .u64 l1) := cell_blk hXw 2
      have hltw : w5.heap.size < w6.heap.size := blk_ltW hXw
      go_wp2_with fail
      clear hcw0 hcw1 hcw2 hltw
      refine (specTenTimes n1 h1 l1 d hp1 hq1 lp1 lq1 _).mono ?_
      rintro e w7 ⟨rfl, hB7⟩
      have hXx := box_kept hB7
      have hBB := box_below hB7
      replace hXw := box_still hXw hBB
      replace HT := Lib.hid (bt2 HT.out hBB)
      clear hBB hB7
      rw [HE.out]
      have hcw0 : w7.cell? ⟨w5.heap.size, 0, none⟩ = some (.bool n1) := cell_blk hXw 0
      have hcw1 : w7.cell? ⟨w5.heap.size, 1, none⟩ = some (.int .u64 h1) := cell_blk hXw 1
      have hcw2 : w7.cell? ⟨w5.heap.size, 2, none⟩ = some (.int .u64 l1) := cell_blk hXw 2
      have hltw : w5.heap.size < w7.heap.size := blk_ltW hXw
      have hcx0 : w7.cell? ⟨w6.heap.size, 0, none⟩ = some (.bool n2) := cell_blk hXx 0
      have hcx1 : w7.cell? ⟨w6.heap.size, 1, none⟩ = some (.int .u64 h2) := cell_blk hXx 1
      have hcx2 : w7.cell? ⟨w6.heap.size, 2, none⟩ = some (.int .u64 l2) := cell_blk hXx 2
      have hltx : w6.heap.size < w7.heap.size := blk_ltW hXx
      go_wp2_with fail
      all_goals (go_ret; exact ⟨by first | rfl | simp, HT.out.alloc HT.out.size _⟩)
    · obtain ⟨ok1, e0, e1, hr2, hw2⟩ := tenE_true HE.out
      have q2 := wideC_bounds hw2
      have HT2 := Lib.hid (textV_of hr2 hw2)
      clear hr2 hw2
      by_cases hh : h1 = 0
      · subst hh
        by_cases hl : l1 = 0
        · subst hl
          obtain rfl : n1 = false := by cases n1 <;> simp_all [okV]
          refine (implTenTimes false 0 0 d hp1 hq1 lp1 lq1 _).mono ?_
          rintro e w6 ⟨rfl, hB6⟩
          have hXw := box_kept hB6
          have hBB := box_below hB6
          replace HT := Lib.hid (bt2 HT.out hBB)
          clear hBB hB6
          rw [HE.out]
          have hcw0 : w6.cell? ⟨w5.heap.size, 0, none⟩ = some (.bool false) := cell_blk hXw 0
          have hcw1 : w6.cell? ⟨w5.heap.size, 1, none⟩ = some (.int .u64 0) := cell_blk hXw 1
          have hcw2 : w6.cell? ⟨w5.heap.size, 2, none⟩ = some (.int .u64 0) := cell_blk hXw 2
          have hltw : w5.heap.size < w6.heap.size := blk_ltW hXw
          go_wp2_with fail
          clear hcw0 hcw1 hcw2 hltw
          refine (specTenTimes false 0 0 d hp1 hq1 lp1 lq1 _).mono ?_
          rintro e w7 ⟨rfl, hB7⟩
          have hXx := box_kept hB7
          have hBB := box_below hB7
          replace hXw := box_still hXw hBB
          replace HT := Lib.hid (bt2 HT.out hBB)
          clear hBB hB7
          rw [HE.out]
          have hcw0 : w7.cell? ⟨w5.heap.size, 0, none⟩ = some (.bool false) := cell_blk hXw 0
          have hcw1 : w7.cell? ⟨w5.heap.size, 1, none⟩ = some (.int .u64 0) := cell_blk hXw 1
          have hcw2 : w7.cell? ⟨w5.heap.size, 2, none⟩ = some (.int .u64 0) := cell_blk hXw 2
          have hltw : w5.heap.size < w7.heap.size := blk_ltW hXw
          have hcx0 : w7.cell? ⟨w6.heap.size, 0, none⟩ = some (.bool n2) := cell_blk hXx 0
          have hcx1 : w7.cell? ⟨w6.heap.size, 1, none⟩ = some (.int .u64 h2) := cell_blk hXx 1
          have hcx2 : w7.cell? ⟨w6.heap.size, 2, none⟩ = some (.int .u64 l2) := cell_blk hXx 2
          have hltx : w6.heap.size < w7.heap.size := blk_ltW hXx
          go_wp2_with fail
          all_goals (go_ret; exact ⟨by first | rfl | simp, HT.out.alloc HT.out.size _⟩)
        · have HV : Hid (textV n2 h2 l2 = textV n1 0 l1 ++ Lib.itoa d) := Lib.hid (by rw [HT2.out, textV, if_pos ok1]; exact itoa_ten_sv (by omega) e0 e1)
          refine (implTenTimes n1 0 l1 d hp1 hq1 lp1 lq1 _).mono ?_
          rintro e w6 ⟨rfl, hB6⟩
          have hXw := box_kept hB6
          have hBB := box_below hB6
          replace HT := Lib.hid (bt2 HT.out hBB)
          clear hBB hB6
          rw [HE.out]
          have hcw0 : w6.cell? ⟨w5.heap.size, 0, none⟩ = some (.bool n1) := cell_blk hXw 0
          have hcw1 : w6.cell? ⟨w5.heap.size, 1, none⟩ = some (.int .u64 0) := cell_blk hXw 1
          have hcw2 : w6.cell? ⟨w5.heap.size, 2, none⟩ = some (.int .u64 l1) := cell_blk hXw 2
          have hltw : w5.heap.size < w6.heap.size := blk_ltW hXw
          go_wp2_with fail
          clear hcw0 hcw1 hcw2 hltw
          refine (specTenTimes n1 0 l1 d hp1 hq1 lp1 lq1 _).mono ?_
          rintro e w7 ⟨rfl, hB7⟩
          have hXx := box_kept hB7
          have hBB := box_below hB7
          replace hXw := box_still hXw hBB
          replace HT := Lib.hid (bt2 HT.out hBB)
          clear hBB hB7
          rw [HE.out]
          have hcw0 : w7.cell? ⟨w5.heap.size, 0, none⟩ = some (.bool n1) := cell_blk hXw 0
          have hcw1 : w7.cell? ⟨w5.heap.size, 1, none⟩ = some (.int .u64 0) := cell_blk hXw 1
          have hcw2 : w7.cell? ⟨w5.heap.size, 2, none⟩ = some (.int .u64 l1) := cell_blk hXw 2
          have hltw : w5.heap.size < w7.heap.size := blk_ltW hXw
          have hcx0 : w7.cell? ⟨w6.heap.size, 0, none⟩ = some (.bool n2) := cell_blk hXx 0
          have hcx1 : w7.cell? ⟨w6.heap.size, 1, none⟩ = some (.int .u64 h2) := cell_blk hXx 1
          have hcx2 : w7.cell? ⟨w6.heap.size, 2, none⟩ = some (.int .u64 l2) := cell_blk hXx 2
          have hltx : w6.heap.size < w7.heap.size := blk_ltW hXx
          go_wp2_with fail
          clear hcw0 hcw1 hcw2 hltw hcx0 hcx1 hcx2 hltx
          have hP0 : PairS w w5.heap.size w6.heap.size (fun _ => .bool n1) (fun _ => .bool n2) 0 l1 h2 l2 w7 := ⟨cell_blk hXw 0, cell_blk hXw 1, cell_blk hXw 2, cell_blk hXx 0, cell_blk hXx 1, cell_blk hXx 2, fun k => free_blk hXw k, fun k => free_blk hXx k, HT.out⟩
          have hD := PairS.drew (PairS.alloc hP0 (.cells #[.bool n2, .int .u64 h2, .int .u64 l2] 30))
          clear hP0 hXw hXx HT
          have hA := textV_len (n := n1) (h := 0) (l := l1) (by omega) (by omega) (by omega)
          have hB : (Lib.itoa d).length ≤ 21 := Lib.itoa_length_le d (by omega) (by omega)
          have hsum : (textV n1 0 l1).length + (Lib.itoa d).length ≤ 9223372036854775807 := by omega
          have hsn : ¬ 9223372036854775807 < (textV n1 0 l1).length + (Lib.itoa d).length := by omega
          have hz1 : ({ data := (textV n1 0 l1).toArray } : ByteArray).size = (textV n1 0 l1).length := by show (textV n1 0 l1).toArray.size = _; simp
          have hz2 : ({ data := (Lib.itoa d).toArray } : ByteArray).size = (Lib.itoa d).length := by show (Lib.itoa d).toArray.size = _; simp
          have hsum2 : ({ data := (textV n1 0 l1).toArray } : ByteArray).size + ({ data := (Lib.itoa d).toArray } : ByteArray).size ≤ 9223372036854775807 := by rw [hz1, hz2]; exact hsum
          clear hz1 hz2
          go_region_held3 (fun w' => w'.cell? ⟨w5.heap.size, 0, none⟩ = some (.bool n1) ∧ w'.cell? ⟨w5.heap.size, 1, none⟩ = some (.int .u64 0) ∧ w'.cell? ⟨w5.heap.size, 2, none⟩ = some (.int .u64 l1) ∧ w'.cell? ⟨w6.heap.size, 0, none⟩ = some (.bool n2) ∧ w'.cell? ⟨w6.heap.size, 1, none⟩ = some (.int .u64 h2) ∧ w'.cell? ⟨w6.heap.size, 2, none⟩ = some (.int .u64 l2) ∧ (∀ k, w'.frozen? ⟨w5.heap.size, k, none⟩ = false) ∧ (∀ k, w'.frozen? ⟨w6.heap.size, k, none⟩ = false) ∧ Below w.heap.size w w') (with_reducible assumption)
            (first | (go_at_call 29; refine (PairS.call (W := w) (h0 := 0) (l0 := l1) (h1 := h2) (l1 := l2) (keepsC_at w5.heap.size (.bool n1)) (keepsC_at w6.heap.size (.bool n2)) (implWideText n2 h2 l2 q2.1 q2.2.1 q2.2.2.1 _) ?_).mono ?_; (with_reducible assumption); rintro e w9 ⟨rfl, hP⟩; rw [HV.out]) | (go_at_call 39; refine (PairS.call (W := w) (h0 := 0) (l0 := l1) (h1 := h2) (l1 := l2) (keepsC_at w5.heap.size (.bool n1)) (keepsC_at w6.heap.size (.bool n2)) (specWideText n1 0 l1 (by omega) (by omega) (by omega) _) ?_).mono ?_; (with_reducible assumption); rintro e w9 ⟨rfl, hP⟩) | (go_at_call 35; refine (PairS.call (W := w) (h0 := 0) (l0 := l1) (h1 := h2) (l1 := l2) (keepsC_at w5.heap.size (.bool n1)) (keepsC_at w6.heap.size (.bool n2)) (specDigits d (by omega) (by omega) _) ?_).mono ?_; (with_reducible assumption); rintro e w9 ⟨rfl, hP⟩))
          go_wp2_with fail
          all_goals (go_ret; exact ⟨by first | rfl | (simp [str_app, ByteArray.toList_eq]; done) | (simp; done), hP.2.2.2.2.2.2.2.2⟩)
      · have HV : Hid (textV n2 h2 l2 = textV n1 h1 l1 ++ Lib.itoa d) := Lib.hid (by rw [HT2.out, textV, if_pos ok1]; exact itoa_ten_sv (by omega) e0 e1)
        refine (implTenTimes n1 h1 l1 d hp1 hq1 lp1 lq1 _).mono ?_
        rintro e w6 ⟨rfl, hB6⟩
        have hXw := box_kept hB6
        have hBB := box_below hB6
        replace HT := Lib.hid (bt2 HT.out hBB)
        clear hBB hB6
        rw [HE.out]
        have hcw0 : w6.cell? ⟨w5.heap.size, 0, none⟩ = some (.bool n1) := cell_blk hXw 0
        have hcw1 : w6.cell? ⟨w5.heap.size, 1, none⟩ = some (.int .u64 h1) := cell_blk hXw 1
        have hcw2 : w6.cell? ⟨w5.heap.size, 2, none⟩ = some (.int .u64 l1) := cell_blk hXw 2
        have hltw : w5.heap.size < w6.heap.size := blk_ltW hXw
        go_wp2_with fail
        clear hcw0 hcw1 hcw2 hltw
        refine (specTenTimes n1 h1 l1 d hp1 hq1 lp1 lq1 _).mono ?_
        rintro e w7 ⟨rfl, hB7⟩
        have hXx := box_kept hB7
        have hBB := box_below hB7
        replace hXw := box_still hXw hBB
        replace HT := Lib.hid (bt2 HT.out hBB)
        clear hBB hB7
        rw [HE.out]
        have hcw0 : w7.cell? ⟨w5.heap.size, 0, none⟩ = some (.bool n1) := cell_blk hXw 0
        have hcw1 : w7.cell? ⟨w5.heap.size, 1, none⟩ = some (.int .u64 h1) := cell_blk hXw 1
        have hcw2 : w7.cell? ⟨w5.heap.size, 2, none⟩ = some (.int .u64 l1) := cell_blk hXw 2
        have hltw : w5.heap.size < w7.heap.size := blk_ltW hXw
        have hcx0 : w7.cell? ⟨w6.heap.size, 0, none⟩ = some (.bool n2) := cell_blk hXx 0
        have hcx1 : w7.cell? ⟨w6.heap.size, 1, none⟩ = some (.int .u64 h2) := cell_blk hXx 1
        have hcx2 : w7.cell? ⟨w6.heap.size, 2, none⟩ = some (.int .u64 l2) := cell_blk hXx 2
        have hltx : w6.heap.size < w7.heap.size := blk_ltW hXx
        go_wp2_with fail
        clear hcw0 hcw1 hcw2 hltw hcx0 hcx1 hcx2 hltx
        have hP0 : PairS w w5.heap.size w6.heap.size (fun _ => .bool n1) (fun _ => .bool n2) h1 l1 h2 l2 w7 := ⟨cell_blk hXw 0, cell_blk hXw 1, cell_blk hXw 2, cell_blk hXx 0, cell_blk hXx 1, cell_blk hXx 2, fun k => free_blk hXw k, fun k => free_blk hXx k, HT.out⟩
        have hD := PairS.drew (PairS.alloc hP0 (.cells #[.bool n2, .int .u64 h2, .int .u64 l2] 30))
        clear hP0 hXw hXx HT
        have hA := textV_len (n := n1) (h := h1) (l := l1) (by omega) (by omega) (by omega)
        have hB : (Lib.itoa d).length ≤ 21 := Lib.itoa_length_le d (by omega) (by omega)
        have hsum : (textV n1 h1 l1).length + (Lib.itoa d).length ≤ 9223372036854775807 := by omega
        have hsn : ¬ 9223372036854775807 < (textV n1 h1 l1).length + (Lib.itoa d).length := by omega
        have hz1 : ({ data := (textV n1 h1 l1).toArray } : ByteArray).size = (textV n1 h1 l1).length := by show (textV n1 h1 l1).toArray.size = _; simp
        have hz2 : ({ data := (Lib.itoa d).toArray } : ByteArray).size = (Lib.itoa d).length := by show (Lib.itoa d).toArray.size = _; simp
        have hsum2 : ({ data := (textV n1 h1 l1).toArray } : ByteArray).size + ({ data := (Lib.itoa d).toArray } : ByteArray).size ≤ 9223372036854775807 := by rw [hz1, hz2]; exact hsum
        clear hz1 hz2
        go_region_held3 (fun w' => w'.cell? ⟨w5.heap.size, 0, none⟩ = some (.bool n1) ∧ w'.cell? ⟨w5.heap.size, 1, none⟩ = some (.int .u64 h1) ∧ w'.cell? ⟨w5.heap.size, 2, none⟩ = some (.int .u64 l1) ∧ w'.cell? ⟨w6.heap.size, 0, none⟩ = some (.bool n2) ∧ w'.cell? ⟨w6.heap.size, 1, none⟩ = some (.int .u64 h2) ∧ w'.cell? ⟨w6.heap.size, 2, none⟩ = some (.int .u64 l2) ∧ (∀ k, w'.frozen? ⟨w5.heap.size, k, none⟩ = false) ∧ (∀ k, w'.frozen? ⟨w6.heap.size, k, none⟩ = false) ∧ Below w.heap.size w w') (with_reducible assumption)
          (first | (go_at_call 29; refine (PairS.call (W := w) (h0 := h1) (l0 := l1) (h1 := h2) (l1 := l2) (keepsC_at w5.heap.size (.bool n1)) (keepsC_at w6.heap.size (.bool n2)) (implWideText n2 h2 l2 q2.1 q2.2.1 q2.2.2.1 _) ?_).mono ?_; (with_reducible assumption); rintro e w9 ⟨rfl, hP⟩; rw [HV.out]) | (go_at_call 39; refine (PairS.call (W := w) (h0 := h1) (l0 := l1) (h1 := h2) (l1 := l2) (keepsC_at w5.heap.size (.bool n1)) (keepsC_at w6.heap.size (.bool n2)) (specWideText n1 h1 l1 (by omega) (by omega) (by omega) _) ?_).mono ?_; (with_reducible assumption); rintro e w9 ⟨rfl, hP⟩) | (go_at_call 35; refine (PairS.call (W := w) (h0 := h1) (l0 := l1) (h1 := h2) (l1 := l2) (keepsC_at w5.heap.size (.bool n1)) (keepsC_at w6.heap.size (.bool n2)) (specDigits d (by omega) (by omega) _) ?_).mono ?_; (with_reducible assumption); rintro e w9 ⟨rfl, hP⟩))
        go_wp2_with fail
        all_goals (go_ret; exact ⟨by first | rfl | (simp [str_app, ByteArray.toList_eq]; done) | (simp; done), hP.2.2.2.2.2.2.2.2⟩)
end Go.Proofs.Ytjmlpeapbealfaa
